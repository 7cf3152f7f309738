import Derived.Test.YtdeidgbknlmhjabAJ
import Derived.Deep.LoopGhost
set_option linter.unusedVariables false
set_option linter.unusedSimpArgs false
namespace Go.Proofs.Ytdeidgbknlmhjab
open Go.RowKit Go.Sort
variable {P : Nat} [NeZero P]

theorem geq0 (i : Nat) (w : World) : (binOp .geq 3 (.int .i64 (i : Int)) (.int .i64 0)).run Try.prog w = .ok (.bool true) w := by
  go_simp
theorem sub1 (i : Nat) (hi : i < 1000) (w : World) : (binOp .sub 3 (.int .i64 (i : Int)) (.int .i64 1)).run Try.prog w = .ok (.int .i64 ((i : Int) - 1)) w := by
  have h := IntWalk.i64_in ((i : Int) - 1) (by omega)
  go_simp
theorem rBit_1 {n i : Nat} (hn : n < top) (hi : i < 256) (h : n / 2 ^ i % 2 = 1) : Gives 65 #[nv n, .int .i64 (i : Int)] (.int .u64 1) := fun w =>
  (rBit_any _ n i (four_nv hn) hi w).mono (by rintro e w' ⟨v, rfl, hb, t, rfl, ht⟩; exact ⟨_, rfl, hb, by rw [ht, h]; rfl⟩)
theorem rBit_0 {n i : Nat} (hn : n < top) (hi : i < 256) (h : ¬ n / 2 ^ i % 2 = 1) : Gives 65 #[nv n, .int .i64 (i : Int)] (.int .u64 0) := fun w =>
  (rBit_any _ n i (four_nv hn) hi w).mono (by rintro e w' ⟨v, rfl, hb, t, rfl, ht⟩; exact ⟨_, rfl, hb, by rw [ht, show n / 2 ^ i % 2 = 0 by omega]; rfl⟩)

def F40_0i (n : Nat) (t : T3 P)  : List RG.It := [⟨some 2, [], (.p 0 0), .make 0⟩,
  ⟨some 3, [], (.p 1 0), .make 1⟩,
  ⟨some 4, [], (.p 2 0), .make 2⟩]
def F40_0b (n : Nat) (t : T3 P)  : List RG.Bl := [⟨(wn n), (wn n), some 0, none⟩, ⟨(tw t), (tw t), some 1, none⟩, ⟨[.int .u64 0, .int .u64 0, .int .u64 0, .int .u64 0, .int .u64 0, .int .u64 0, .int .u64 0, .int .u64 0, .int .u64 0, .int .u64 0, .int .u64 0, .int .u64 0], [.int .u64 0, .int .u64 0, .int .u64 0, .int .u64 0, .int .u64 0, .int .u64 0, .int .u64 0, .int .u64 0, .int .u64 0, .int .u64 0, .int .u64 0, .int .u64 0], some 2, none⟩]
def F40_0o (n : Nat) (t : T3 P)  : List (Tmp × RG.SV) := [(0, (.v (nv n))), (1, (.v (tv t)))]
def F40_1i (n : Nat) (t : T3 P)  : List RG.It := [⟨some 7, [], (.v (tv ((0, 1, 0) : T3 P))), .call⟩,
  ⟨some 5, [], (.p 3 0), .make 3⟩,
  ⟨none, [(5, 1), (7, 0)], (.v undef), .put 3⟩]
def F40_1b (n : Nat) (t : T3 P)  : List RG.Bl := [⟨(wn n), (wn n), none, none⟩, ⟨(tw t), (tw t), none, none⟩, ⟨[.int .u64 0, .int .u64 0, .int .u64 0, .int .u64 0, .int .u64 0, .int .u64 0, .int .u64 0, .int .u64 0, .int .u64 0, .int .u64 0, .int .u64 0, .int .u64 0], [.int .u64 0, .int .u64 0, .int .u64 0, .int .u64 0, .int .u64 0, .int .u64 0, .int .u64 0, .int .u64 0, .int .u64 0, .int .u64 0, .int .u64 0, .int .u64 0], none, none⟩, ⟨[.int .u64 0, .int .u64 0, .int .u64 0, .int .u64 0, .int .u64 0, .int .u64 0, .int .u64 0, .int .u64 0, .int .u64 0, .int .u64 0, .int .u64 0, .int .u64 0], (tw ((0, 1, 0) : T3 P)), some 1, some 2⟩]
def F40_1o (n : Nat) (t : T3 P)  : List (Tmp × RG.SV) := []
def F40_2i (n : Nat) (t : T3 P)  : List RG.It := [⟨some 6, [], (.v (.int .i64 255)), .stay⟩]
def F40_2b (n : Nat) (t : T3 P)  : List RG.Bl := [⟨(wn n), (wn n), none, none⟩, ⟨(tw t), (tw t), none, none⟩, ⟨[.int .u64 0, .int .u64 0, .int .u64 0, .int .u64 0, .int .u64 0, .int .u64 0, .int .u64 0, .int .u64 0, .int .u64 0, .int .u64 0, .int .u64 0, .int .u64 0], [.int .u64 0, .int .u64 0, .int .u64 0, .int .u64 0, .int .u64 0, .int .u64 0, .int .u64 0, .int .u64 0, .int .u64 0, .int .u64 0, .int .u64 0, .int .u64 0], none, none⟩, ⟨(tw ((0, 1, 0) : T3 P)), (tw ((0, 1, 0) : T3 P)), none, none⟩]
def F40_2o (n : Nat) (t : T3 P)  : List (Tmp × RG.SV) := []
def F40a_3i (n i : Nat) (t s s2 s3 : T3 P)  : List RG.It := [⟨some 8, [], (.v (.int .i64 (i : Int))), .stay⟩,
  ⟨some 9, [(8, 0)], (.v (.bool true)), .stay⟩]
def F40a_3b (n i : Nat) (t s s2 s3 : T3 P)  : List RG.Bl := [⟨(wn n), (wn n), none, none⟩, ⟨(tw t), (tw t), none, none⟩, ⟨[.int .u64 0, .int .u64 0, .int .u64 0, .int .u64 0, .int .u64 0, .int .u64 0, .int .u64 0, .int .u64 0, .int .u64 0, .int .u64 0, .int .u64 0, .int .u64 0], [.int .u64 0, .int .u64 0, .int .u64 0, .int .u64 0, .int .u64 0, .int .u64 0, .int .u64 0, .int .u64 0, .int .u64 0, .int .u64 0, .int .u64 0, .int .u64 0], none, none⟩, ⟨(tw s), (tw s), none, none⟩]
def F40a_3o (n i : Nat) (t s s2 s3 : T3 P)  : List (Tmp × RG.SV) := [(6, (.v (.int .i64 (i : Int))))]
def F40a_5i (n i : Nat) (t s s2 s3 : T3 P)  : List RG.It := [⟨some 12, [], (.v (tv s)), .stay⟩,
  ⟨some 13, [], (.v (tv s)), .stay⟩,
  ⟨some 14, [(12, 0), (13, 1)], (.v (tv s2)), .call⟩,
  ⟨none, [(14, 2)], (.v undef), .put 3⟩]
def F40a_5b (n i : Nat) (t s s2 s3 : T3 P)  : List RG.Bl := [⟨(wn n), (wn n), none, none⟩, ⟨(tw t), (tw t), none, none⟩, ⟨[.int .u64 0, .int .u64 0, .int .u64 0, .int .u64 0, .int .u64 0, .int .u64 0, .int .u64 0, .int .u64 0, .int .u64 0, .int .u64 0, .int .u64 0, .int .u64 0], [.int .u64 0, .int .u64 0, .int .u64 0, .int .u64 0, .int .u64 0, .int .u64 0, .int .u64 0, .int .u64 0, .int .u64 0, .int .u64 0, .int .u64 0, .int .u64 0], none, none⟩, ⟨(tw s), (tw s2), none, some 3⟩]
def F40a_5o (n i : Nat) (t s s2 s3 : T3 P)  : List (Tmp × RG.SV) := [(5, (.p 3 0))]
def F40a_6i (n i : Nat) (t s s2 s3 : T3 P)  : List RG.It := [⟨some 15, [], (.v (nv n)), .stay⟩,
  ⟨some 16, [], (.v (.int .i64 (i : Int))), .stay⟩,
  ⟨some 17, [(15, 0), (16, 1)], (.v (.int .u64 1)), .call⟩,
  ⟨some 18, [(17, 2)], (.v (.bool true)), .stay⟩]
def F40a_6b (n i : Nat) (t s s2 s3 : T3 P)  : List RG.Bl := [⟨(wn n), (wn n), none, none⟩, ⟨(tw t), (tw t), none, none⟩, ⟨[.int .u64 0, .int .u64 0, .int .u64 0, .int .u64 0, .int .u64 0, .int .u64 0, .int .u64 0, .int .u64 0, .int .u64 0, .int .u64 0, .int .u64 0, .int .u64 0], [.int .u64 0, .int .u64 0, .int .u64 0, .int .u64 0, .int .u64 0, .int .u64 0, .int .u64 0, .int .u64 0, .int .u64 0, .int .u64 0, .int .u64 0, .int .u64 0], none, none⟩, ⟨(tw s2), (tw s2), none, none⟩]
def F40a_6o (n i : Nat) (t s s2 s3 : T3 P)  : List (Tmp × RG.SV) := [(2, (.p 0 0)), (6, (.v (.int .i64 (i : Int))))]
def F40a_7i (n i : Nat) (t s s2 s3 : T3 P)  : List RG.It := [⟨some 19, [], (.v (tv s2)), .stay⟩,
  ⟨some 20, [], (.v (tv t)), .stay⟩,
  ⟨some 21, [(19, 0), (20, 1)], (.v (tv s3)), .call⟩,
  ⟨none, [(21, 2)], (.v undef), .put 3⟩]
def F40a_7b (n i : Nat) (t s s2 s3 : T3 P)  : List RG.Bl := [⟨(wn n), (wn n), none, none⟩, ⟨(tw t), (tw t), none, none⟩, ⟨[.int .u64 0, .int .u64 0, .int .u64 0, .int .u64 0, .int .u64 0, .int .u64 0, .int .u64 0, .int .u64 0, .int .u64 0, .int .u64 0, .int .u64 0, .int .u64 0], [.int .u64 0, .int .u64 0, .int .u64 0, .int .u64 0, .int .u64 0, .int .u64 0, .int .u64 0, .int .u64 0, .int .u64 0, .int .u64 0, .int .u64 0, .int .u64 0], none, none⟩, ⟨(tw s2), (tw s3), none, some 3⟩]
def F40a_7o (n i : Nat) (t s s2 s3 : T3 P)  : List (Tmp × RG.SV) := [(5, (.p 3 0)), (3, (.p 1 0))]
def F40a_4i (n i : Nat) (t s s2 s3 : T3 P)  : List RG.It := [⟨some 10, [], (.v (.int .i64 (i : Int))), .stay⟩,
  ⟨some 11, [(10, 0)], (.v (.int .i64 ((i : Int) - 1))), .stay⟩,
  ⟨some 6, [(11, 1)], (.v (.int .i64 ((i : Int) - 1))), .stay⟩]
def F40a_4b (n i : Nat) (t s s2 s3 : T3 P)  : List RG.Bl := [⟨(wn n), (wn n), none, none⟩, ⟨(tw t), (tw t), none, none⟩, ⟨[.int .u64 0, .int .u64 0, .int .u64 0, .int .u64 0, .int .u64 0, .int .u64 0, .int .u64 0, .int .u64 0, .int .u64 0, .int .u64 0, .int .u64 0, .int .u64 0], [.int .u64 0, .int .u64 0, .int .u64 0, .int .u64 0, .int .u64 0, .int .u64 0, .int .u64 0, .int .u64 0, .int .u64 0, .int .u64 0, .int .u64 0, .int .u64 0], none, none⟩, ⟨(tw s3), (tw s3), none, none⟩]
def F40a_4o (n i : Nat) (t s s2 s3 : T3 P)  : List (Tmp × RG.SV) := [(6, (.v (.int .i64 (i : Int))))]
def F40b_3i (n i : Nat) (t s s2 s3 : T3 P)  : List RG.It := [⟨some 8, [], (.v (.int .i64 (i : Int))), .stay⟩,
  ⟨some 9, [(8, 0)], (.v (.bool true)), .stay⟩]
def F40b_3b (n i : Nat) (t s s2 s3 : T3 P)  : List RG.Bl := [⟨(wn n), (wn n), none, none⟩, ⟨(tw t), (tw t), none, none⟩, ⟨[.int .u64 0, .int .u64 0, .int .u64 0, .int .u64 0, .int .u64 0, .int .u64 0, .int .u64 0, .int .u64 0, .int .u64 0, .int .u64 0, .int .u64 0, .int .u64 0], [.int .u64 0, .int .u64 0, .int .u64 0, .int .u64 0, .int .u64 0, .int .u64 0, .int .u64 0, .int .u64 0, .int .u64 0, .int .u64 0, .int .u64 0, .int .u64 0], none, none⟩, ⟨(tw s), (tw s), none, none⟩]
def F40b_3o (n i : Nat) (t s s2 s3 : T3 P)  : List (Tmp × RG.SV) := [(6, (.v (.int .i64 (i : Int))))]
def F40b_5i (n i : Nat) (t s s2 s3 : T3 P)  : List RG.It := [⟨some 12, [], (.v (tv s)), .stay⟩,
  ⟨some 13, [], (.v (tv s)), .stay⟩,
  ⟨some 14, [(12, 0), (13, 1)], (.v (tv s2)), .call⟩,
  ⟨none, [(14, 2)], (.v undef), .put 3⟩]
def F40b_5b (n i : Nat) (t s s2 s3 : T3 P)  : List RG.Bl := [⟨(wn n), (wn n), none, none⟩, ⟨(tw t), (tw t), none, none⟩, ⟨[.int .u64 0, .int .u64 0, .int .u64 0, .int .u64 0, .int .u64 0, .int .u64 0, .int .u64 0, .int .u64 0, .int .u64 0, .int .u64 0, .int .u64 0, .int .u64 0], [.int .u64 0, .int .u64 0, .int .u64 0, .int .u64 0, .int .u64 0, .int .u64 0, .int .u64 0, .int .u64 0, .int .u64 0, .int .u64 0, .int .u64 0, .int .u64 0], none, none⟩, ⟨(tw s), (tw s2), none, some 3⟩]
def F40b_5o (n i : Nat) (t s s2 s3 : T3 P)  : List (Tmp × RG.SV) := [(5, (.p 3 0))]
def F40b_6i (n i : Nat) (t s s2 s3 : T3 P)  : List RG.It := [⟨some 15, [], (.v (nv n)), .stay⟩,
  ⟨some 16, [], (.v (.int .i64 (i : Int))), .stay⟩,
  ⟨some 17, [(15, 0), (16, 1)], (.v (.int .u64 0)), .call⟩,
  ⟨some 18, [(17, 2)], (.v (.bool false)), .stay⟩]
def F40b_6b (n i : Nat) (t s s2 s3 : T3 P)  : List RG.Bl := [⟨(wn n), (wn n), none, none⟩, ⟨(tw t), (tw t), none, none⟩, ⟨[.int .u64 0, .int .u64 0, .int .u64 0, .int .u64 0, .int .u64 0, .int .u64 0, .int .u64 0, .int .u64 0, .int .u64 0, .int .u64 0, .int .u64 0, .int .u64 0], [.int .u64 0, .int .u64 0, .int .u64 0, .int .u64 0, .int .u64 0, .int .u64 0, .int .u64 0, .int .u64 0, .int .u64 0, .int .u64 0, .int .u64 0, .int .u64 0], none, none⟩, ⟨(tw s2), (tw s2), none, none⟩]
def F40b_6o (n i : Nat) (t s s2 s3 : T3 P)  : List (Tmp × RG.SV) := [(2, (.p 0 0)), (6, (.v (.int .i64 (i : Int))))]
def F40b_4i (n i : Nat) (t s s2 s3 : T3 P)  : List RG.It := [⟨some 10, [], (.v (.int .i64 (i : Int))), .stay⟩,
  ⟨some 11, [(10, 0)], (.v (.int .i64 ((i : Int) - 1))), .stay⟩,
  ⟨some 6, [(11, 1)], (.v (.int .i64 ((i : Int) - 1))), .stay⟩]
def F40b_4b (n i : Nat) (t s s2 s3 : T3 P)  : List RG.Bl := [⟨(wn n), (wn n), none, none⟩, ⟨(tw t), (tw t), none, none⟩, ⟨[.int .u64 0, .int .u64 0, .int .u64 0, .int .u64 0, .int .u64 0, .int .u64 0, .int .u64 0, .int .u64 0, .int .u64 0, .int .u64 0, .int .u64 0, .int .u64 0], [.int .u64 0, .int .u64 0, .int .u64 0, .int .u64 0, .int .u64 0, .int .u64 0, .int .u64 0, .int .u64 0, .int .u64 0, .int .u64 0, .int .u64 0, .int .u64 0], none, none⟩, ⟨(tw s2), (tw s2), none, none⟩]
def F40b_4o (n i : Nat) (t s s2 s3 : T3 P)  : List (Tmp × RG.SV) := [(6, (.v (.int .i64 (i : Int))))]
def F40c_3i (n : Nat) (t s : T3 P)  : List RG.It := [⟨some 8, [], (.v (.int .i64 (-1))), .stay⟩,
  ⟨some 9, [(8, 0)], (.v (.bool false)), .stay⟩]
def F40c_3b (n : Nat) (t s : T3 P)  : List RG.Bl := [⟨(wn n), (wn n), none, none⟩, ⟨(tw t), (tw t), none, none⟩, ⟨[.int .u64 0, .int .u64 0, .int .u64 0, .int .u64 0, .int .u64 0, .int .u64 0, .int .u64 0, .int .u64 0, .int .u64 0, .int .u64 0, .int .u64 0, .int .u64 0], [.int .u64 0, .int .u64 0, .int .u64 0, .int .u64 0, .int .u64 0, .int .u64 0, .int .u64 0, .int .u64 0, .int .u64 0, .int .u64 0, .int .u64 0, .int .u64 0], none, none⟩, ⟨(tw s), (tw s), none, none⟩]
def F40c_3o (n : Nat) (t s : T3 P)  : List (Tmp × RG.SV) := [(6, (.v (.int .i64 (-1))))]
def F40c_8i (n : Nat) (t s : T3 P)  : List RG.It := [⟨some 22, [], (.v (tv s)), .stay⟩,
  ⟨none, [(22, 0)], (.v undef), .put 2⟩]
def F40c_8b (n : Nat) (t s : T3 P)  : List RG.Bl := [⟨(wn n), (wn n), none, none⟩, ⟨(tw t), (tw t), none, none⟩, ⟨[.int .u64 0, .int .u64 0, .int .u64 0, .int .u64 0, .int .u64 0, .int .u64 0, .int .u64 0, .int .u64 0, .int .u64 0, .int .u64 0, .int .u64 0, .int .u64 0], (tw s), none, some 1⟩, ⟨(tw s), (tw s), none, none⟩]
def F40c_8o (n : Nat) (t s : T3 P)  : List (Tmp × RG.SV) := [(5, (.p 3 0)), (4, (.p 2 0))]

set_option maxHeartbeats 2000000 in
set_option maxRecDepth 100000 in
theorem rTimes_c (C : Fl3 P) (n : Nat) (hn : n < top) (t : T3 P) {p : EC.Pt P} (h : FracT t p) : Gives 40 #[nv n, tv t] (tv (tmF n t 256)) := by
  intro w
  go_enter Try.func40, Try.ntmps40
  refine RG.var2 (v0 := nv n) (v1 := tv t) (n := 23) (by kernel_rfl) (by kernel_rfl) (by kernel_rfl) (by kernel_rfl) ?_
  intro a0 sl0 f0 f1
  have hS0 := RG.St.begin w
  repeat refine wp_seq ?_
  refine RG.region_text' (its := F40_0i n t) (bl := F40_0b n t) (olds := F40_0o n t) hS0 (RG.Reg.mk' (by rw [sl0.size]; kernel_rfl) ⟨f0, f1, trivial⟩ ⟨?_, ?_, ?_, trivial⟩) (by kernel_rfl) (by kernel_rfl) (RG.endB_st (by kernel_rfl)) ?_
  · exact RG.cert_box 0 rfl rfl _ rfl 33 0 rfl (nv n) (fun μ a K => K.old 0 (.v (nv n)) (List.Mem.head _) (by kernel_rfl)) (fun w => by kernel_rfl)
  · exact RG.cert_box 1 rfl rfl _ rfl 56 1 rfl (tv t) (fun μ a K => K.old 1 (.v (tv t)) (List.Mem.tail _ (List.Mem.head _)) (by kernel_rfl)) (fun w => by kernel_rfl)
  · exact RG.cert_alloc 2 rfl rfl _ rfl 56 rfl (fun w => by kernel_rfl)
  intro new1 w1 hl1 hS1
  obtain ⟨j1, i1, m1, rfl⟩ := RG.len3 hl1
  clear hl1
  replace hS1 : RG.St w w.heap.size [] [(wn n), (tw t), [.int .u64 0, .int .u64 0, .int .u64 0, .int .u64 0, .int .u64 0, .int .u64 0, .int .u64 0, .int .u64 0, .int .u64 0, .int .u64 0, .int .u64 0, .int .u64 0]] [j1, i1, m1] w1 := hS1
  have sl1 : RG.Sl (RG.puts (RG.ad ([] ++ [j1, i1, m1])) (F40_0i n t) a0) 23 := sl0.puts
  have f2_1 : (RG.puts (RG.ad ([] ++ [j1, i1, m1])) (F40_0i n t) a0).tmps[2]? = some (.pointer (some ⟨j1, 0, none⟩)) := by have h := RG.put_new (μ := RG.ad ([] ++ [j1, i1, m1])) (its := (F40_0i n t)) sl0 0 (by kernel_rfl) rfl rfl rfl; exact h
  have f3_1 : (RG.puts (RG.ad ([] ++ [j1, i1, m1])) (F40_0i n t) a0).tmps[3]? = some (.pointer (some ⟨i1, 0, none⟩)) := by have h := RG.put_new (μ := RG.ad ([] ++ [j1, i1, m1])) (its := (F40_0i n t)) sl0 1 (by kernel_rfl) rfl rfl rfl; exact h
  have f4_1 : (RG.puts (RG.ad ([] ++ [j1, i1, m1])) (F40_0i n t) a0).tmps[4]? = some (.pointer (some ⟨m1, 0, none⟩)) := by have h := RG.put_new (μ := RG.ad ([] ++ [j1, i1, m1])) (its := (F40_0i n t)) sl0 2 (by kernel_rfl) rfl rfl rfl; exact h
  generalize RG.puts (RG.ad ([] ++ [j1, i1, m1])) (F40_0i n t) a0 = a1 at sl1 f2_1 f3_1 f4_1 ⊢
  repeat refine wp_seq ?_
  refine RG.region_text' (its := F40_1i n t) (bl := F40_1b n t) (olds := F40_1o n t) hS1 (RG.Reg.mk' (by rw [sl1.size]; kernel_rfl) trivial ⟨?_, ?_, ?_, trivial⟩) (by kernel_rfl) (by kernel_rfl) (RG.endB_st (by kernel_rfl)) ?_
  · exact RG.cert_call0 rfl 68 (tv ((0, 1, 0) : T3 P)) rfl (fun a w => by kernel_rfl) (None_c C)
  · exact RG.cert_alloc 3 rfl rfl _ rfl 56 rfl (fun w => by kernel_rfl)
  · exact RG.cert_put 3 rfl _ rfl 56 (.tmp 5) (.tmp 7) rfl rfl rfl (fun μ a K => by have h := K.op 5 1 (List.Mem.head _) rfl; exact h) (fun μ a K => by have h := K.op 7 0 (List.Mem.tail _ (List.Mem.head _)) rfl; exact h) i56 rfl
  intro new2 w2 hl2 hS2
  obtain ⟨j2, rfl⟩ := RG.len1 hl2
  clear hl2
  replace hS2 : RG.St w w.heap.size [] [(wn n), (tw t), [.int .u64 0, .int .u64 0, .int .u64 0, .int .u64 0, .int .u64 0, .int .u64 0, .int .u64 0, .int .u64 0, .int .u64 0, .int .u64 0, .int .u64 0, .int .u64 0], (tw ((0, 1, 0) : T3 P))] [j1, i1, m1, j2] w2 := hS2
  have sl2 : RG.Sl (RG.puts (RG.ad ([j1, i1, m1] ++ [j2])) (F40_1i n t) a1) 23 := sl1.puts
  have f2_2 := RG.put_old (μ := RG.ad ([j1, i1, m1] ++ [j2])) (its := (F40_1i n t)) f2_1 (by kernel_rfl)
  have f3_2 := RG.put_old (μ := RG.ad ([j1, i1, m1] ++ [j2])) (its := (F40_1i n t)) f3_1 (by kernel_rfl)
  have f4_2 := RG.put_old (μ := RG.ad ([j1, i1, m1] ++ [j2])) (its := (F40_1i n t)) f4_1 (by kernel_rfl)
  have f5_2 : (RG.puts (RG.ad ([j1, i1, m1] ++ [j2])) (F40_1i n t) a1).tmps[5]? = some (.pointer (some ⟨j2, 0, none⟩)) := by have h := RG.put_new (μ := RG.ad ([j1, i1, m1] ++ [j2])) (its := (F40_1i n t)) sl1 1 (by kernel_rfl) rfl rfl rfl; exact h
  generalize RG.puts (RG.ad ([j1, i1, m1] ++ [j2])) (F40_1i n t) a1 = a2 at sl2 f2_2 f3_2 f4_2 f5_2 ⊢
  repeat refine wp_seq ?_
  refine RG.region_text' (its := F40_2i n t) (bl := F40_2b n t) (olds := F40_2o n t) hS2 (RG.Reg.mk' (by rw [sl2.size]; kernel_rfl) trivial ⟨?_, trivial⟩) (by kernel_rfl) (by kernel_rfl) (RG.endB_st (by kernel_rfl)) ?_
  · exact RG.cert_stay rfl (fun μ a w _ _ => by kernel_rfl)
  intro new3 w3 hl3 hS3
  obtain rfl := RG.len0 hl3
  replace hS3 : RG.St w w.heap.size [] [(wn n), (tw t), [.int .u64 0, .int .u64 0, .int .u64 0, .int .u64 0, .int .u64 0, .int .u64 0, .int .u64 0, .int .u64 0, .int .u64 0, .int .u64 0, .int .u64 0, .int .u64 0], (tw ((0, 1, 0) : T3 P))] [j1, i1, m1, j2] w3 := hS3
  have sl3 : RG.Sl (RG.puts (RG.ad ([j1, i1, m1, j2] ++ [])) (F40_2i n t) a2) 23 := sl2.puts
  have f2_3 := RG.put_old (μ := RG.ad ([j1, i1, m1, j2] ++ [])) (its := (F40_2i n t)) f2_2 (by kernel_rfl)
  have f3_3 := RG.put_old (μ := RG.ad ([j1, i1, m1, j2] ++ [])) (its := (F40_2i n t)) f3_2 (by kernel_rfl)
  have f4_3 := RG.put_old (μ := RG.ad ([j1, i1, m1, j2] ++ [])) (its := (F40_2i n t)) f4_2 (by kernel_rfl)
  have f5_3 := RG.put_old (μ := RG.ad ([j1, i1, m1, j2] ++ [])) (its := (F40_2i n t)) f5_2 (by kernel_rfl)
  have f6_3 : (RG.puts (RG.ad ([j1, i1, m1, j2] ++ [])) (F40_2i n t) a2).tmps[6]? = some (.int .i64 255) := by have h := RG.put_new (μ := RG.ad ([j1, i1, m1, j2] ++ [])) (its := (F40_2i n t)) sl2 0 (by kernel_rfl) rfl rfl rfl; exact h
  generalize RG.puts (RG.ad ([j1, i1, m1, j2] ++ [])) (F40_2i n t) a2 = a3 at sl3 f2_3 f3_3 f4_3 f5_3 f6_3 ⊢
  repeat refine wp_seq ?_
  refine wp_block ?_
  refine wp_loop_ghost (fun m a wr => m ≤ 256 ∧ RG.Sl a 23 ∧ a.tmps[2]? = some (.pointer (some ⟨j1, 0, none⟩)) ∧ a.tmps[3]? = some (.pointer (some ⟨i1, 0, none⟩)) ∧ a.tmps[4]? = some (.pointer (some ⟨m1, 0, none⟩)) ∧ a.tmps[5]? = some (.pointer (some ⟨j2, 0, none⟩)) ∧ a.tmps[6]? = some (.int .i64 ((m : Int) - 1)) ∧ RG.St w w.heap.size [] [wn n, tw t, [.int .u64 0, .int .u64 0, .int .u64 0, .int .u64 0, .int .u64 0, .int .u64 0, .int .u64 0, .int .u64 0, .int .u64 0, .int .u64 0, .int .u64 0, .int .u64 0], tw (tmF n t (256 - m))] [j1, i1, m1, j2] wr) 256 ⟨Nat.le_refl _, sl3, f2_3, f3_3, f4_3, f5_3, f6_3, ?_⟩ ?_
  · rw [Nat.sub_self, tmF]
    exact hS3
  intro m a wr
  rintro ⟨hm, sl, f2, f3, f4, f5, f6, hS⟩
  have hn2 : n < 2 ^ 256 := hn
  generalize j1 = k2 at f2 f3 f4 f5 hS
  generalize i1 = k3 at f2 f3 f4 f5 hS
  generalize m1 = k4 at f2 f3 f4 f5 hS
  generalize j2 = k5 at f2 f3 f4 f5 hS
  by_cases hz : m = 0
  · subst hz
    have e256 : tmF n t (256 - 0) = tmF n t 256 := rfl
    rw [e256] at hS
    obtain ⟨s, hs⟩ : ∃ s, tmF n t 256 = s := ⟨_, rfl⟩
    rw [hs] at hS ⊢
    repeat refine wp_seq ?_
    refine RG.region_text' (its := F40c_3i n t s) (bl := F40c_3b n t s) (olds := F40c_3o n t s) hS (RG.Reg.mk' (by rw [sl.size]; kernel_rfl) ⟨f6, trivial⟩ ⟨?_, ?_, trivial⟩) (by kernel_rfl) (by kernel_rfl) (RG.endB_st (by kernel_rfl)) ?_
    · exact RG.cert_move rfl 6 (Or.inl rfl) (fun μ a K => K.old 6 (.v (.int .i64 (-1))) (List.Mem.head _) (by kernel_rfl))
    · exact RG.cert_binc rfl .geq 3 3 8 (.int .i64 (-1)) (.int .i64 0) (.bool false) rfl rfl (fun μ a K => by have h := K.op 8 0 (List.Mem.head _) rfl; exact h) (fun w => by kernel_rfl) (fun w => by kernel_rfl)
    intro new1 w1 hl1 hS1
    obtain rfl := RG.len0 hl1
    replace hS1 : RG.St w w.heap.size [] [(wn n), (tw t), [.int .u64 0, .int .u64 0, .int .u64 0, .int .u64 0, .int .u64 0, .int .u64 0, .int .u64 0, .int .u64 0, .int .u64 0, .int .u64 0, .int .u64 0, .int .u64 0], (tw s)] [k2, k3, k4, k5] w1 := hS1
    have sl1 : RG.Sl (RG.puts (RG.ad ([k2, k3, k4, k5] ++ [])) (F40c_3i n t s) a) 23 := sl.puts
    have f4_1 := RG.put_old (μ := RG.ad ([k2, k3, k4, k5] ++ [])) (its := (F40c_3i n t s)) f4 (by kernel_rfl)
    have f5_1 := RG.put_old (μ := RG.ad ([k2, k3, k4, k5] ++ [])) (its := (F40c_3i n t s)) f5 (by kernel_rfl)
    have f9_1 : (RG.puts (RG.ad ([k2, k3, k4, k5] ++ [])) (F40c_3i n t s) a).tmps[9]? = some (.bool false) := by have h := RG.put_new (μ := RG.ad ([k2, k3, k4, k5] ++ [])) (its := (F40c_3i n t s)) sl 1 (by kernel_rfl) rfl rfl rfl; exact h
    generalize RG.puts (RG.ad ([k2, k3, k4, k5] ++ [])) (F40c_3i n t s) a = a1 at sl1 f4_1 f5_1 f9_1 ⊢
    repeat refine wp_seq ?_
    refine wp_cond_false (RG.eval_of f9_1) ?_
    refine wp_exit ?_
    dsimp only [Exit.then, Exit.inBlock]
    rw [if_pos rfl]
    repeat refine wp_seq ?_
    refine RG.region_text' (its := F40c_8i n t s) (bl := F40c_8b n t s) (olds := F40c_8o n t s) hS1 (RG.Reg.mk' (by rw [sl1.size]; kernel_rfl) ⟨f5_1, f4_1, trivial⟩ ⟨?_, ?_, trivial⟩) (by kernel_rfl) (by kernel_rfl) (RG.endB_st (by kernel_rfl)) ?_
    · exact RG.cert_load rfl 3 0 _ rfl rfl (by kernel_rfl) 56 5 rfl (tw s) rfl (fun μ a K => K.old 5 (.p 3 0) (List.Mem.head _) (by kernel_rfl)) (by kernel_rfl) u56 i56
    · exact RG.cert_put 2 rfl _ rfl 56 (.tmp 4) (.tmp 22) rfl rfl rfl (fun μ a K => K.old 4 (.p 2 0) (List.Mem.tail _ (List.Mem.head _)) (by kernel_rfl)) (fun μ a K => by have h := K.op 22 0 (List.Mem.head _) rfl; exact h) i56 rfl
    intro new2 w2 hl2 hS2
    obtain rfl := RG.len0 hl2
    replace hS2 : RG.St w w.heap.size [] [(wn n), (tw t), (tw s), (tw s)] [k2, k3, k4, k5] w2 := hS2
    have sl2 : RG.Sl (RG.puts (RG.ad ([k2, k3, k4, k5] ++ [])) (F40c_8i n t s) a1) 23 := sl1.puts
    have f4_2 := RG.put_old (μ := RG.ad ([k2, k3, k4, k5] ++ [])) (its := (F40c_8i n t s)) f4_1 (by kernel_rfl)
    generalize RG.puts (RG.ad ([k2, k3, k4, k5] ++ [])) (F40c_8i n t s) a1 = a2 at sl2 f4_2 ⊢
    refine wp_ret ?_
    refine bodyPost_ret (v := tv s) (RG.results_row hS2 4 56 rfl 2 _ rfl f4_2 u56 i56) sl2.defers ?_
    exact ⟨_, rfl, hS2.bel.below, rfl⟩
  · obtain ⟨i, rfl⟩ : ∃ i, m = i + 1 := ⟨m - 1, by omega⟩
    have hi : i < 256 := by omega
    replace f6 : a.tmps[6]? = some (.int .i64 (i : Int)) := by rw [f6]; congr 2; omega
    have ih := tmF_F C hn2 h (256 - (i + 1)) (by omega)
    obtain ⟨s, hs⟩ : ∃ s, tmF n t (256 - (i + 1)) = s := ⟨_, rfl⟩
    rw [hs] at hS ih
    obtain ⟨s2, hs2⟩ : ∃ s2, s2 = plF s s := ⟨_, rfl⟩
    have hp1 := (ih.plus C ih).1
    have ih2 := (ih.plus C ih).2
    rw [← hs2] at hp1 ih2
    obtain ⟨s3, hs3⟩ : ∃ s3, s3 = plF s2 t := ⟨_, rfl⟩
    have hp2 := (ih2.plus C h).1
    rw [← hs3] at hp2
    have hstep : tmF n t (256 - i) = if n / 2 ^ i % 2 = 1 then s3 else s2 := by
      rw [show 256 - i = 256 - (i + 1) + 1 by omega]
      show (if n / 2 ^ (255 - (256 - (i + 1))) % 2 = 1 then plF (plF (tmF n t (256 - (i + 1))) (tmF n t (256 - (i + 1)))) t else plF (tmF n t (256 - (i + 1))) (tmF n t (256 - (i + 1)))) = _
      rw [show 255 - (256 - (i + 1)) = i by omega, hs, ← hs2, ← hs3]
    by_cases hb : n / 2 ^ i % 2 = 1
    · rw [if_pos hb] at hstep
      repeat refine wp_seq ?_
      refine RG.region_text' (its := F40a_3i n i t s s2 s3) (bl := F40a_3b n i t s s2 s3) (olds := F40a_3o n i t s s2 s3) hS (RG.Reg.mk' (by rw [sl.size]; kernel_rfl) ⟨f6, trivial⟩ ⟨?_, ?_, trivial⟩) (by kernel_rfl) (by kernel_rfl) (RG.endB_st (by kernel_rfl)) ?_
      · exact RG.cert_move rfl 6 (Or.inl rfl) (fun μ a K => K.old 6 (.v (.int .i64 (i : Int))) (List.Mem.head _) (by kernel_rfl))
      · exact RG.cert_binc rfl .geq 3 3 8 (.int .i64 (i : Int)) (.int .i64 0) (.bool true) rfl rfl (fun μ a K => by have h := K.op 8 0 (List.Mem.head _) rfl; exact h) (fun w => by kernel_rfl) (geq0 i)
      intro new1 w1 hl1 hS1
      obtain rfl := RG.len0 hl1
      replace hS1 : RG.St w w.heap.size [] [(wn n), (tw t), [.int .u64 0, .int .u64 0, .int .u64 0, .int .u64 0, .int .u64 0, .int .u64 0, .int .u64 0, .int .u64 0, .int .u64 0, .int .u64 0, .int .u64 0, .int .u64 0], (tw s)] [k2, k3, k4, k5] w1 := hS1
      have sl1 : RG.Sl (RG.puts (RG.ad ([k2, k3, k4, k5] ++ [])) (F40a_3i n i t s s2 s3) a) 23 := sl.puts
      have f2_1 := RG.put_old (μ := RG.ad ([k2, k3, k4, k5] ++ [])) (its := (F40a_3i n i t s s2 s3)) f2 (by kernel_rfl)
      have f3_1 := RG.put_old (μ := RG.ad ([k2, k3, k4, k5] ++ [])) (its := (F40a_3i n i t s s2 s3)) f3 (by kernel_rfl)
      have f4_1 := RG.put_old (μ := RG.ad ([k2, k3, k4, k5] ++ [])) (its := (F40a_3i n i t s s2 s3)) f4 (by kernel_rfl)
      have f5_1 := RG.put_old (μ := RG.ad ([k2, k3, k4, k5] ++ [])) (its := (F40a_3i n i t s s2 s3)) f5 (by kernel_rfl)
      have f6_1 := RG.put_old (μ := RG.ad ([k2, k3, k4, k5] ++ [])) (its := (F40a_3i n i t s s2 s3)) f6 (by kernel_rfl)
      have f9_1 : (RG.puts (RG.ad ([k2, k3, k4, k5] ++ [])) (F40a_3i n i t s s2 s3) a).tmps[9]? = some (.bool true) := by have h := RG.put_new (μ := RG.ad ([k2, k3, k4, k5] ++ [])) (its := (F40a_3i n i t s s2 s3)) sl 1 (by kernel_rfl) rfl rfl rfl; exact h
      generalize RG.puts (RG.ad ([k2, k3, k4, k5] ++ [])) (F40a_3i n i t s s2 s3) a = a1 at sl1 f2_1 f3_1 f4_1 f5_1 f6_1 f9_1 ⊢
      repeat refine wp_seq ?_
      refine wp_cond_true (RG.eval_of f9_1) ?_
      refine wp_skip ?_
      refine wp_seq ?_
      refine wp_block ?_
      repeat refine wp_seq ?_
      refine RG.region_text' (its := F40a_5i n i t s s2 s3) (bl := F40a_5b n i t s s2 s3) (olds := F40a_5o n i t s s2 s3) hS1 (RG.Reg.mk' (by rw [sl1.size]; kernel_rfl) ⟨f5_1, trivial⟩ ⟨?_, ?_, ?_, ?_, trivial⟩) (by kernel_rfl) (by kernel_rfl) (RG.endB_st (by kernel_rfl)) ?_
      · exact RG.cert_load rfl 3 0 _ rfl rfl (by kernel_rfl) 56 5 rfl (tw s) rfl (fun μ a K => K.old 5 (.p 3 0) (List.Mem.head _) (by kernel_rfl)) (by kernel_rfl) u56 i56
      · exact RG.cert_load rfl 3 0 _ rfl rfl (by kernel_rfl) 56 5 rfl (tw s) rfl (fun μ a K => K.old 5 (.p 3 0) (List.Mem.head _) (by kernel_rfl)) (by kernel_rfl) u56 i56
      · exact RG.cert_call2 rfl 39 12 13 (tv s) (tv s) (tv s2) rfl (fun a w => by kernel_rfl) (fun μ a K => by have h := K.op 12 0 (List.Mem.head _) rfl; exact h) (fun μ a K => by have h := K.op 13 1 (List.Mem.tail _ (List.Mem.head _)) rfl; exact h) (hp1)
      · exact RG.cert_put 3 rfl _ rfl 56 (.tmp 5) (.tmp 14) rfl rfl rfl (fun μ a K => K.old 5 (.p 3 0) (List.Mem.head _) (by kernel_rfl)) (fun μ a K => by have h := K.op 14 2 (List.Mem.head _) rfl; exact h) i56 rfl
      intro new2 w2 hl2 hS2
      obtain rfl := RG.len0 hl2
      replace hS2 : RG.St w w.heap.size [] [(wn n), (tw t), [.int .u64 0, .int .u64 0, .int .u64 0, .int .u64 0, .int .u64 0, .int .u64 0, .int .u64 0, .int .u64 0, .int .u64 0, .int .u64 0, .int .u64 0, .int .u64 0], (tw s2)] [k2, k3, k4, k5] w2 := hS2
      have sl2 : RG.Sl (RG.puts (RG.ad ([k2, k3, k4, k5] ++ [])) (F40a_5i n i t s s2 s3) a1) 23 := sl1.puts
      have f2_2 := RG.put_old (μ := RG.ad ([k2, k3, k4, k5] ++ [])) (its := (F40a_5i n i t s s2 s3)) f2_1 (by kernel_rfl)
      have f3_2 := RG.put_old (μ := RG.ad ([k2, k3, k4, k5] ++ [])) (its := (F40a_5i n i t s s2 s3)) f3_1 (by kernel_rfl)
      have f4_2 := RG.put_old (μ := RG.ad ([k2, k3, k4, k5] ++ [])) (its := (F40a_5i n i t s s2 s3)) f4_1 (by kernel_rfl)
      have f5_2 := RG.put_old (μ := RG.ad ([k2, k3, k4, k5] ++ [])) (its := (F40a_5i n i t s s2 s3)) f5_1 (by kernel_rfl)
      have f6_2 := RG.put_old (μ := RG.ad ([k2, k3, k4, k5] ++ [])) (its := (F40a_5i n i t s s2 s3)) f6_1 (by kernel_rfl)
      generalize RG.puts (RG.ad ([k2, k3, k4, k5] ++ [])) (F40a_5i n i t s s2 s3) a1 = a2 at sl2 f2_2 f3_2 f4_2 f5_2 f6_2 ⊢
      repeat refine wp_seq ?_
      refine RG.region_text' (its := F40a_6i n i t s s2 s3) (bl := F40a_6b n i t s s2 s3) (olds := F40a_6o n i t s s2 s3) hS2 (RG.Reg.mk' (by rw [sl2.size]; kernel_rfl) ⟨f2_2, f6_2, trivial⟩ ⟨?_, ?_, ?_, ?_, trivial⟩) (by kernel_rfl) (by kernel_rfl) (RG.endB_st (by kernel_rfl)) ?_
      · exact RG.cert_load rfl 0 0 _ rfl rfl (by kernel_rfl) 33 2 rfl (wn n) rfl (fun μ a K => K.old 2 (.p 0 0) (List.Mem.head _) (by kernel_rfl)) (by kernel_rfl) u33 i33
      · exact RG.cert_move rfl 6 (Or.inl rfl) (fun μ a K => K.old 6 (.v (.int .i64 (i : Int))) (List.Mem.tail _ (List.Mem.head _)) (by kernel_rfl))
      · exact RG.cert_call2 rfl 65 15 16 (nv n) (.int .i64 (i : Int)) (.int .u64 1) rfl (fun a w => by kernel_rfl) (fun μ a K => by have h := K.op 15 0 (List.Mem.head _) rfl; exact h) (fun μ a K => by have h := K.op 16 1 (List.Mem.tail _ (List.Mem.head _)) rfl; exact h) (rBit_1 hn hi hb)
      · exact RG.cert_binc rfl .eql 31 31 17 (.int .u64 1) (.int .u64 1) (.bool true) rfl rfl (fun μ a K => by have h := K.op 17 2 (List.Mem.head _) rfl; exact h) (fun w => by kernel_rfl) (fun w => by kernel_rfl)
      intro new3 w3 hl3 hS3
      obtain rfl := RG.len0 hl3
      replace hS3 : RG.St w w.heap.size [] [(wn n), (tw t), [.int .u64 0, .int .u64 0, .int .u64 0, .int .u64 0, .int .u64 0, .int .u64 0, .int .u64 0, .int .u64 0, .int .u64 0, .int .u64 0, .int .u64 0, .int .u64 0], (tw s2)] [k2, k3, k4, k5] w3 := hS3
      have sl3 : RG.Sl (RG.puts (RG.ad ([k2, k3, k4, k5] ++ [])) (F40a_6i n i t s s2 s3) a2) 23 := sl2.puts
      have f2_3 := RG.put_old (μ := RG.ad ([k2, k3, k4, k5] ++ [])) (its := (F40a_6i n i t s s2 s3)) f2_2 (by kernel_rfl)
      have f3_3 := RG.put_old (μ := RG.ad ([k2, k3, k4, k5] ++ [])) (its := (F40a_6i n i t s s2 s3)) f3_2 (by kernel_rfl)
      have f4_3 := RG.put_old (μ := RG.ad ([k2, k3, k4, k5] ++ [])) (its := (F40a_6i n i t s s2 s3)) f4_2 (by kernel_rfl)
      have f5_3 := RG.put_old (μ := RG.ad ([k2, k3, k4, k5] ++ [])) (its := (F40a_6i n i t s s2 s3)) f5_2 (by kernel_rfl)
      have f6_3 := RG.put_old (μ := RG.ad ([k2, k3, k4, k5] ++ [])) (its := (F40a_6i n i t s s2 s3)) f6_2 (by kernel_rfl)
      have f18_3 : (RG.puts (RG.ad ([k2, k3, k4, k5] ++ [])) (F40a_6i n i t s s2 s3) a2).tmps[18]? = some (.bool true) := by have h := RG.put_new (μ := RG.ad ([k2, k3, k4, k5] ++ [])) (its := (F40a_6i n i t s s2 s3)) sl2 3 (by kernel_rfl) rfl rfl rfl; exact h
      generalize RG.puts (RG.ad ([k2, k3, k4, k5] ++ [])) (F40a_6i n i t s s2 s3) a2 = a3 at sl3 f2_3 f3_3 f4_3 f5_3 f6_3 f18_3 ⊢
      repeat refine wp_seq ?_
      refine wp_cond_true (RG.eval_of f18_3) ?_
      repeat refine wp_seq ?_
      refine RG.region_text' (its := F40a_7i n i t s s2 s3) (bl := F40a_7b n i t s s2 s3) (olds := F40a_7o n i t s s2 s3) hS3 (RG.Reg.mk' (by rw [sl3.size]; kernel_rfl) ⟨f5_3, f3_3, trivial⟩ ⟨?_, ?_, ?_, ?_, trivial⟩) (by kernel_rfl) (by kernel_rfl) (RG.endB_st (by kernel_rfl)) ?_
      · exact RG.cert_load rfl 3 0 _ rfl rfl (by kernel_rfl) 56 5 rfl (tw s2) rfl (fun μ a K => K.old 5 (.p 3 0) (List.Mem.head _) (by kernel_rfl)) (by kernel_rfl) u56 i56
      · exact RG.cert_load rfl 1 0 _ rfl rfl (by kernel_rfl) 56 3 rfl (tw t) rfl (fun μ a K => K.old 3 (.p 1 0) (List.Mem.tail _ (List.Mem.head _)) (by kernel_rfl)) (by kernel_rfl) u56 i56
      · exact RG.cert_call2 rfl 39 19 20 (tv s2) (tv t) (tv s3) rfl (fun a w => by kernel_rfl) (fun μ a K => by have h := K.op 19 0 (List.Mem.head _) rfl; exact h) (fun μ a K => by have h := K.op 20 1 (List.Mem.tail _ (List.Mem.head _)) rfl; exact h) (hp2)
      · exact RG.cert_put 3 rfl _ rfl 56 (.tmp 5) (.tmp 21) rfl rfl rfl (fun μ a K => K.old 5 (.p 3 0) (List.Mem.head _) (by kernel_rfl)) (fun μ a K => by have h := K.op 21 2 (List.Mem.head _) rfl; exact h) i56 rfl
      intro new4 w4 hl4 hS4
      obtain rfl := RG.len0 hl4
      replace hS4 : RG.St w w.heap.size [] [(wn n), (tw t), [.int .u64 0, .int .u64 0, .int .u64 0, .int .u64 0, .int .u64 0, .int .u64 0, .int .u64 0, .int .u64 0, .int .u64 0, .int .u64 0, .int .u64 0, .int .u64 0], (tw s3)] [k2, k3, k4, k5] w4 := hS4
      have sl4 : RG.Sl (RG.puts (RG.ad ([k2, k3, k4, k5] ++ [])) (F40a_7i n i t s s2 s3) a3) 23 := sl3.puts
      have f2_4 := RG.put_old (μ := RG.ad ([k2, k3, k4, k5] ++ [])) (its := (F40a_7i n i t s s2 s3)) f2_3 (by kernel_rfl)
      have f3_4 := RG.put_old (μ := RG.ad ([k2, k3, k4, k5] ++ [])) (its := (F40a_7i n i t s s2 s3)) f3_3 (by kernel_rfl)
      have f4_4 := RG.put_old (μ := RG.ad ([k2, k3, k4, k5] ++ [])) (its := (F40a_7i n i t s s2 s3)) f4_3 (by kernel_rfl)
      have f5_4 := RG.put_old (μ := RG.ad ([k2, k3, k4, k5] ++ [])) (its := (F40a_7i n i t s s2 s3)) f5_3 (by kernel_rfl)
      have f6_4 := RG.put_old (μ := RG.ad ([k2, k3, k4, k5] ++ [])) (its := (F40a_7i n i t s s2 s3)) f6_3 (by kernel_rfl)
      generalize RG.puts (RG.ad ([k2, k3, k4, k5] ++ [])) (F40a_7i n i t s s2 s3) a3 = a4 at sl4 f2_4 f3_4 f4_4 f5_4 f6_4 ⊢
      repeat refine wp_seq ?_
      refine RG.region_text' (its := F40a_4i n i t s s2 s3) (bl := F40a_4b n i t s s2 s3) (olds := F40a_4o n i t s s2 s3) hS4 (RG.Reg.mk' (by rw [sl4.size]; kernel_rfl) ⟨f6_4, trivial⟩ ⟨?_, ?_, ?_, trivial⟩) (by kernel_rfl) (by kernel_rfl) (RG.endB_st (by kernel_rfl)) ?_
      · exact RG.cert_move rfl 6 (Or.inl rfl) (fun μ a K => K.old 6 (.v (.int .i64 (i : Int))) (List.Mem.head _) (by kernel_rfl))
      · exact RG.cert_binc rfl .sub 3 3 10 (.int .i64 (i : Int)) (.int .i64 1) (.int .i64 ((i : Int) - 1)) rfl rfl (fun μ a K => by have h := K.op 10 0 (List.Mem.head _) rfl; exact h) (fun w => by kernel_rfl) (sub1 i (by omega))
      · exact RG.cert_move rfl 11 (Or.inr rfl) (fun μ a K => by have h := K.op 11 1 (List.Mem.head _) rfl; exact h)
      intro new5 w5 hl5 hS5
      obtain rfl := RG.len0 hl5
      replace hS5 : RG.St w w.heap.size [] [(wn n), (tw t), [.int .u64 0, .int .u64 0, .int .u64 0, .int .u64 0, .int .u64 0, .int .u64 0, .int .u64 0, .int .u64 0, .int .u64 0, .int .u64 0, .int .u64 0, .int .u64 0], (tw s3)] [k2, k3, k4, k5] w5 := hS5
      have sl5 : RG.Sl (RG.puts (RG.ad ([k2, k3, k4, k5] ++ [])) (F40a_4i n i t s s2 s3) a4) 23 := sl4.puts
      have f2_5 := RG.put_old (μ := RG.ad ([k2, k3, k4, k5] ++ [])) (its := (F40a_4i n i t s s2 s3)) f2_4 (by kernel_rfl)
      have f3_5 := RG.put_old (μ := RG.ad ([k2, k3, k4, k5] ++ [])) (its := (F40a_4i n i t s s2 s3)) f3_4 (by kernel_rfl)
      have f4_5 := RG.put_old (μ := RG.ad ([k2, k3, k4, k5] ++ [])) (its := (F40a_4i n i t s s2 s3)) f4_4 (by kernel_rfl)
      have f5_5 := RG.put_old (μ := RG.ad ([k2, k3, k4, k5] ++ [])) (its := (F40a_4i n i t s s2 s3)) f5_4 (by kernel_rfl)
      have f6_5 : (RG.puts (RG.ad ([k2, k3, k4, k5] ++ [])) (F40a_4i n i t s s2 s3) a4).tmps[6]? = some (.int .i64 ((i : Int) - 1)) := by have h := RG.put_new (μ := RG.ad ([k2, k3, k4, k5] ++ [])) (its := (F40a_4i n i t s s2 s3)) sl4 2 (by kernel_rfl) rfl rfl rfl; exact h
      generalize RG.puts (RG.ad ([k2, k3, k4, k5] ++ [])) (F40a_4i n i t s s2 s3) a4 = a5 at sl5 f2_5 f3_5 f4_5 f5_5 f6_5 ⊢
      show ∃ n', _
      exact ⟨i, Nat.lt_succ_self i, by omega, sl5, f2_5, f3_5, f4_5, f5_5, f6_5, by rw [hstep]; exact hS5⟩
    · rw [if_neg hb] at hstep
      repeat refine wp_seq ?_
      refine RG.region_text' (its := F40b_3i n i t s s2 s3) (bl := F40b_3b n i t s s2 s3) (olds := F40b_3o n i t s s2 s3) hS (RG.Reg.mk' (by rw [sl.size]; kernel_rfl) ⟨f6, trivial⟩ ⟨?_, ?_, trivial⟩) (by kernel_rfl) (by kernel_rfl) (RG.endB_st (by kernel_rfl)) ?_
      · exact RG.cert_move rfl 6 (Or.inl rfl) (fun μ a K => K.old 6 (.v (.int .i64 (i : Int))) (List.Mem.head _) (by kernel_rfl))
      · exact RG.cert_binc rfl .geq 3 3 8 (.int .i64 (i : Int)) (.int .i64 0) (.bool true) rfl rfl (fun μ a K => by have h := K.op 8 0 (List.Mem.head _) rfl; exact h) (fun w => by kernel_rfl) (geq0 i)
      intro new1 w1 hl1 hS1
      obtain rfl := RG.len0 hl1
      replace hS1 : RG.St w w.heap.size [] [(wn n), (tw t), [.int .u64 0, .int .u64 0, .int .u64 0, .int .u64 0, .int .u64 0, .int .u64 0, .int .u64 0, .int .u64 0, .int .u64 0, .int .u64 0, .int .u64 0, .int .u64 0], (tw s)] [k2, k3, k4, k5] w1 := hS1
      have sl1 : RG.Sl (RG.puts (RG.ad ([k2, k3, k4, k5] ++ [])) (F40b_3i n i t s s2 s3) a) 23 := sl.puts
      have f2_1 := RG.put_old (μ := RG.ad ([k2, k3, k4, k5] ++ [])) (its := (F40b_3i n i t s s2 s3)) f2 (by kernel_rfl)
      have f3_1 := RG.put_old (μ := RG.ad ([k2, k3, k4, k5] ++ [])) (its := (F40b_3i n i t s s2 s3)) f3 (by kernel_rfl)
      have f4_1 := RG.put_old (μ := RG.ad ([k2, k3, k4, k5] ++ [])) (its := (F40b_3i n i t s s2 s3)) f4 (by kernel_rfl)
      have f5_1 := RG.put_old (μ := RG.ad ([k2, k3, k4, k5] ++ [])) (its := (F40b_3i n i t s s2 s3)) f5 (by kernel_rfl)
      have f6_1 := RG.put_old (μ := RG.ad ([k2, k3, k4, k5] ++ [])) (its := (F40b_3i n i t s s2 s3)) f6 (by kernel_rfl)
      have f9_1 : (RG.puts (RG.ad ([k2, k3, k4, k5] ++ [])) (F40b_3i n i t s s2 s3) a).tmps[9]? = some (.bool true) := by have h := RG.put_new (μ := RG.ad ([k2, k3, k4, k5] ++ [])) (its := (F40b_3i n i t s s2 s3)) sl 1 (by kernel_rfl) rfl rfl rfl; exact h
      generalize RG.puts (RG.ad ([k2, k3, k4, k5] ++ [])) (F40b_3i n i t s s2 s3) a = a1 at sl1 f2_1 f3_1 f4_1 f5_1 f6_1 f9_1 ⊢
      repeat refine wp_seq ?_
      refine wp_cond_true (RG.eval_of f9_1) ?_
      refine wp_skip ?_
      refine wp_seq ?_
      refine wp_block ?_
      repeat refine wp_seq ?_
      refine RG.region_text' (its := F40b_5i n i t s s2 s3) (bl := F40b_5b n i t s s2 s3) (olds := F40b_5o n i t s s2 s3) hS1 (RG.Reg.mk' (by rw [sl1.size]; kernel_rfl) ⟨f5_1, trivial⟩ ⟨?_, ?_, ?_, ?_, trivial⟩) (by kernel_rfl) (by kernel_rfl) (RG.endB_st (by kernel_rfl)) ?_
      · exact RG.cert_load rfl 3 0 _ rfl rfl (by kernel_rfl) 56 5 rfl (tw s) rfl (fun μ a K => K.old 5 (.p 3 0) (List.Mem.head _) (by kernel_rfl)) (by kernel_rfl) u56 i56
      · exact RG.cert_load rfl 3 0 _ rfl rfl (by kernel_rfl) 56 5 rfl (tw s) rfl (fun μ a K => K.old 5 (.p 3 0) (List.Mem.head _) (by kernel_rfl)) (by kernel_rfl) u56 i56
      · exact RG.cert_call2 rfl 39 12 13 (tv s) (tv s) (tv s2) rfl (fun a w => by kernel_rfl) (fun μ a K => by have h := K.op 12 0 (List.Mem.head _) rfl; exact h) (fun μ a K => by have h := K.op 13 1 (List.Mem.tail _ (List.Mem.head _)) rfl; exact h) (hp1)
      · exact RG.cert_put 3 rfl _ rfl 56 (.tmp 5) (.tmp 14) rfl rfl rfl (fun μ a K => K.old 5 (.p 3 0) (List.Mem.head _) (by kernel_rfl)) (fun μ a K => by have h := K.op 14 2 (List.Mem.head _) rfl; exact h) i56 rfl
      intro new2 w2 hl2 hS2
      obtain rfl := RG.len0 hl2
      replace hS2 : RG.St w w.heap.size [] [(wn n), (tw t), [.int .u64 0, .int .u64 0, .int .u64 0, .int .u64 0, .int .u64 0, .int .u64 0, .int .u64 0, .int .u64 0, .int .u64 0, .int .u64 0, .int .u64 0, .int .u64 0], (tw s2)] [k2, k3, k4, k5] w2 := hS2
      have sl2 : RG.Sl (RG.puts (RG.ad ([k2, k3, k4, k5] ++ [])) (F40b_5i n i t s s2 s3) a1) 23 := sl1.puts
      have f2_2 := RG.put_old (μ := RG.ad ([k2, k3, k4, k5] ++ [])) (its := (F40b_5i n i t s s2 s3)) f2_1 (by kernel_rfl)
      have f3_2 := RG.put_old (μ := RG.ad ([k2, k3, k4, k5] ++ [])) (its := (F40b_5i n i t s s2 s3)) f3_1 (by kernel_rfl)
      have f4_2 := RG.put_old (μ := RG.ad ([k2, k3, k4, k5] ++ [])) (its := (F40b_5i n i t s s2 s3)) f4_1 (by kernel_rfl)
      have f5_2 := RG.put_old (μ := RG.ad ([k2, k3, k4, k5] ++ [])) (its := (F40b_5i n i t s s2 s3)) f5_1 (by kernel_rfl)
      have f6_2 := RG.put_old (μ := RG.ad ([k2, k3, k4, k5] ++ [])) (its := (F40b_5i n i t s s2 s3)) f6_1 (by kernel_rfl)
      generalize RG.puts (RG.ad ([k2, k3, k4, k5] ++ [])) (F40b_5i n i t s s2 s3) a1 = a2 at sl2 f2_2 f3_2 f4_2 f5_2 f6_2 ⊢
      repeat refine wp_seq ?_
      refine RG.region_text' (its := F40b_6i n i t s s2 s3) (bl := F40b_6b n i t s s2 s3) (olds := F40b_6o n i t s s2 s3) hS2 (RG.Reg.mk' (by rw [sl2.size]; kernel_rfl) ⟨f2_2, f6_2, trivial⟩ ⟨?_, ?_, ?_, ?_, trivial⟩) (by kernel_rfl) (by kernel_rfl) (RG.endB_st (by kernel_rfl)) ?_
      · exact RG.cert_load rfl 0 0 _ rfl rfl (by kernel_rfl) 33 2 rfl (wn n) rfl (fun μ a K => K.old 2 (.p 0 0) (List.Mem.head _) (by kernel_rfl)) (by kernel_rfl) u33 i33
      · exact RG.cert_move rfl 6 (Or.inl rfl) (fun μ a K => K.old 6 (.v (.int .i64 (i : Int))) (List.Mem.tail _ (List.Mem.head _)) (by kernel_rfl))
      · exact RG.cert_call2 rfl 65 15 16 (nv n) (.int .i64 (i : Int)) (.int .u64 0) rfl (fun a w => by kernel_rfl) (fun μ a K => by have h := K.op 15 0 (List.Mem.head _) rfl; exact h) (fun μ a K => by have h := K.op 16 1 (List.Mem.tail _ (List.Mem.head _)) rfl; exact h) (rBit_0 hn hi hb)
      · exact RG.cert_binc rfl .eql 31 31 17 (.int .u64 0) (.int .u64 1) (.bool false) rfl rfl (fun μ a K => by have h := K.op 17 2 (List.Mem.head _) rfl; exact h) (fun w => by kernel_rfl) (fun w => by kernel_rfl)
      intro new3 w3 hl3 hS3
      obtain rfl := RG.len0 hl3
      replace hS3 : RG.St w w.heap.size [] [(wn n), (tw t), [.int .u64 0, .int .u64 0, .int .u64 0, .int .u64 0, .int .u64 0, .int .u64 0, .int .u64 0, .int .u64 0, .int .u64 0, .int .u64 0, .int .u64 0, .int .u64 0], (tw s2)] [k2, k3, k4, k5] w3 := hS3
      have sl3 : RG.Sl (RG.puts (RG.ad ([k2, k3, k4, k5] ++ [])) (F40b_6i n i t s s2 s3) a2) 23 := sl2.puts
      have f2_3 := RG.put_old (μ := RG.ad ([k2, k3, k4, k5] ++ [])) (its := (F40b_6i n i t s s2 s3)) f2_2 (by kernel_rfl)
      have f3_3 := RG.put_old (μ := RG.ad ([k2, k3, k4, k5] ++ [])) (its := (F40b_6i n i t s s2 s3)) f3_2 (by kernel_rfl)
      have f4_3 := RG.put_old (μ := RG.ad ([k2, k3, k4, k5] ++ [])) (its := (F40b_6i n i t s s2 s3)) f4_2 (by kernel_rfl)
      have f5_3 := RG.put_old (μ := RG.ad ([k2, k3, k4, k5] ++ [])) (its := (F40b_6i n i t s s2 s3)) f5_2 (by kernel_rfl)
      have f6_3 := RG.put_old (μ := RG.ad ([k2, k3, k4, k5] ++ [])) (its := (F40b_6i n i t s s2 s3)) f6_2 (by kernel_rfl)
      have f18_3 : (RG.puts (RG.ad ([k2, k3, k4, k5] ++ [])) (F40b_6i n i t s s2 s3) a2).tmps[18]? = some (.bool false) := by have h := RG.put_new (μ := RG.ad ([k2, k3, k4, k5] ++ [])) (its := (F40b_6i n i t s s2 s3)) sl2 3 (by kernel_rfl) rfl rfl rfl; exact h
      generalize RG.puts (RG.ad ([k2, k3, k4, k5] ++ [])) (F40b_6i n i t s s2 s3) a2 = a3 at sl3 f2_3 f3_3 f4_3 f5_3 f6_3 f18_3 ⊢
      repeat refine wp_seq ?_
      refine wp_cond_false (RG.eval_of f18_3) ?_
      refine wp_skip ?_
      repeat refine wp_seq ?_
      refine RG.region_text' (its := F40b_4i n i t s s2 s3) (bl := F40b_4b n i t s s2 s3) (olds := F40b_4o n i t s s2 s3) hS3 (RG.Reg.mk' (by rw [sl3.size]; kernel_rfl) ⟨f6_3, trivial⟩ ⟨?_, ?_, ?_, trivial⟩) (by kernel_rfl) (by kernel_rfl) (RG.endB_st (by kernel_rfl)) ?_
      · exact RG.cert_move rfl 6 (Or.inl rfl) (fun μ a K => K.old 6 (.v (.int .i64 (i : Int))) (List.Mem.head _) (by kernel_rfl))
      · exact RG.cert_binc rfl .sub 3 3 10 (.int .i64 (i : Int)) (.int .i64 1) (.int .i64 ((i : Int) - 1)) rfl rfl (fun μ a K => by have h := K.op 10 0 (List.Mem.head _) rfl; exact h) (fun w => by kernel_rfl) (sub1 i (by omega))
      · exact RG.cert_move rfl 11 (Or.inr rfl) (fun μ a K => by have h := K.op 11 1 (List.Mem.head _) rfl; exact h)
      intro new4 w4 hl4 hS4
      obtain rfl := RG.len0 hl4
      replace hS4 : RG.St w w.heap.size [] [(wn n), (tw t), [.int .u64 0, .int .u64 0, .int .u64 0, .int .u64 0, .int .u64 0, .int .u64 0, .int .u64 0, .int .u64 0, .int .u64 0, .int .u64 0, .int .u64 0, .int .u64 0], (tw s2)] [k2, k3, k4, k5] w4 := hS4
      have sl4 : RG.Sl (RG.puts (RG.ad ([k2, k3, k4, k5] ++ [])) (F40b_4i n i t s s2 s3) a3) 23 := sl3.puts
      have f2_4 := RG.put_old (μ := RG.ad ([k2, k3, k4, k5] ++ [])) (its := (F40b_4i n i t s s2 s3)) f2_3 (by kernel_rfl)
      have f3_4 := RG.put_old (μ := RG.ad ([k2, k3, k4, k5] ++ [])) (its := (F40b_4i n i t s s2 s3)) f3_3 (by kernel_rfl)
      have f4_4 := RG.put_old (μ := RG.ad ([k2, k3, k4, k5] ++ [])) (its := (F40b_4i n i t s s2 s3)) f4_3 (by kernel_rfl)
      have f5_4 := RG.put_old (μ := RG.ad ([k2, k3, k4, k5] ++ [])) (its := (F40b_4i n i t s s2 s3)) f5_3 (by kernel_rfl)
      have f6_4 : (RG.puts (RG.ad ([k2, k3, k4, k5] ++ [])) (F40b_4i n i t s s2 s3) a3).tmps[6]? = some (.int .i64 ((i : Int) - 1)) := by have h := RG.put_new (μ := RG.ad ([k2, k3, k4, k5] ++ [])) (its := (F40b_4i n i t s s2 s3)) sl3 2 (by kernel_rfl) rfl rfl rfl; exact h
      generalize RG.puts (RG.ad ([k2, k3, k4, k5] ++ [])) (F40b_4i n i t s s2 s3) a3 = a4 at sl4 f2_4 f3_4 f4_4 f5_4 f6_4 ⊢
      show ∃ n', _
      exact ⟨i, Nat.lt_succ_self i, by omega, sl4, f2_4, f3_4, f4_4, f5_4, f6_4, by rw [hstep]; exact hS4⟩
end Go.Proofs.Ytdeidgbknlmhjab
