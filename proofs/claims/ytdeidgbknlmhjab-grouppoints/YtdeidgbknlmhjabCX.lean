import Derived.Test.YtdeidgbknlmhjabPL
import Derived.Deep.LoopGhost
set_option linter.unusedVariables false
set_option linter.unusedSimpArgs false
namespace Go.Proofs.Ytdeidgbknlmhjab
open Go.RowKit Go.Sort
variable {P : Nat} [NeZero P]

def F72a_0i (q : Option Addr) (gg n cap i m : Nat) (v : Value) (x y : Fin P) (C C2 : List Value)  : List RG.It := [⟨some 2, [], (.v (.slice none 0 0)), .stay⟩,
  ⟨some 3, [], (.v (.int .i64 0)), .stay⟩]
def F72a_0b (q : Option Addr) (gg n cap i m : Nat) (v : Value) (x y : Fin P) (C C2 : List Value)  : List RG.Bl := []
def F72a_0o (q : Option Addr) (gg n cap i m : Nat) (v : Value) (x y : Fin P) (C C2 : List Value)  : List (Tmp × RG.SV) := []
def F72a_1i (q : Option Addr) (gg n cap i m : Nat) (v : Value) (x y : Fin P) (C C2 : List Value)  : List RG.It := [⟨some 9, [], (.v (.slice q n cap)), .stay⟩,
  ⟨some 10, [(9, 0)], (.v (.int .i64 (n : Int))), .stay⟩,
  ⟨some 11, [(10, 1)], (.s 0 n n), .make 0⟩,
  ⟨some 4, [(11, 2)], (.s 0 n n), .stay⟩]
def F72a_1b (q : Option Addr) (gg n cap i m : Nat) (v : Value) (x y : Fin P) (C C2 : List Value)  : List RG.Bl := [⟨C, C, some 2, none⟩]
def F72a_1o (q : Option Addr) (gg n cap i m : Nat) (v : Value) (x y : Fin P) (C C2 : List Value)  : List (Tmp × RG.SV) := [(0, (.v (.slice q n cap)))]
def F72a_2i (q : Option Addr) (gg n cap i m : Nat) (v : Value) (x y : Fin P) (C C2 : List Value)  : List RG.It := [⟨some 12, [], (.v (.slice q n cap)), .stay⟩,
  ⟨some 13, [(12, 0)], (.v (.int .i64 (n : Int))), .stay⟩,
  ⟨some 14, [], (.v (.int .i64 0)), .stay⟩]
def F72a_2b (q : Option Addr) (gg n cap i m : Nat) (v : Value) (x y : Fin P) (C C2 : List Value)  : List RG.Bl := [⟨C, C, none, none⟩]
def F72a_2o (q : Option Addr) (gg n cap i m : Nat) (v : Value) (x y : Fin P) (C C2 : List Value)  : List (Tmp × RG.SV) := [(0, (.v (.slice q n cap)))]
def F72b_3i (q : Option Addr) (gg n cap i m : Nat) (v : Value) (x y : Fin P) (C C2 : List Value)  : List RG.It := [⟨some 15, [], (.v (.bool true)), .stay⟩]
def F72b_3b (q : Option Addr) (gg n cap i m : Nat) (v : Value) (x y : Fin P) (C C2 : List Value)  : List RG.Bl := [⟨C, C, none, none⟩]
def F72b_3o (q : Option Addr) (gg n cap i m : Nat) (v : Value) (x y : Fin P) (C C2 : List Value)  : List (Tmp × RG.SV) := [(14, (.v (.int .i64 (i : Int)))), (13, (.v (.int .i64 (n : Int))))]
def F72b_4i (q : Option Addr) (gg n cap i m : Nat) (v : Value) (x y : Fin P) (C C2 : List Value)  : List RG.It := [⟨some 16, [], (.v (.int .i64 (i : Int))), .stay⟩,
  ⟨some 17, [], (.v (.pointer (some ⟨gg, (0 + i), none⟩))), .stay⟩,
  ⟨some 18, [(17, 1)], (.v v), .stay⟩,
  ⟨some 5, [(16, 0)], (.v (.int .i64 (i : Int))), .stay⟩,
  ⟨some 6, [(18, 2)], (.v v), .stay⟩]
def F72b_4b (q : Option Addr) (gg n cap i m : Nat) (v : Value) (x y : Fin P) (C C2 : List Value)  : List RG.Bl := [⟨C, C, none, none⟩]
def F72b_4o (q : Option Addr) (gg n cap i m : Nat) (v : Value) (x y : Fin P) (C C2 : List Value)  : List (Tmp × RG.SV) := [(14, (.v (.int .i64 (i : Int)))), (12, (.v (.slice (some ⟨gg, 0, none⟩) n cap)))]
def F72b_5i (q : Option Addr) (gg n cap i m : Nat) (v : Value) (x y : Fin P) (C C2 : List Value)  : List RG.It := [⟨some 20, [], (.v v), .stay⟩,
  ⟨some 21, [(20, 0)], (.v (.tuple #[(pv x y), (.bool true)])), .call⟩,
  ⟨some 19, [(21, 1)], (.v (.tuple #[(pv x y), (.bool true)])), .stay⟩,
  ⟨some 22, [(19, 2)], (.v (pv x y)), .stay⟩,
  ⟨some 23, [(19, 2)], (.v (.bool true)), .stay⟩,
  ⟨some 7, [], (.p 1 0), .make 1⟩,
  ⟨none, [(7, 5), (22, 3)], (.v undef), .put 1⟩,
  ⟨some 8, [(23, 4)], (.v (.bool true)), .stay⟩]
def F72b_5b (q : Option Addr) (gg n cap i m : Nat) (v : Value) (x y : Fin P) (C C2 : List Value)  : List RG.Bl := [⟨C, C, none, none⟩, ⟨[.int .u64 0, .int .u64 0, .int .u64 0, .int .u64 0, .int .u64 0, .int .u64 0, .int .u64 0, .int .u64 0], (ws x ++ (ws y)), some 5, some 6⟩]
def F72b_5o (q : Option Addr) (gg n cap i m : Nat) (v : Value) (x y : Fin P) (C C2 : List Value)  : List (Tmp × RG.SV) := [(6, (.v v))]
def F72b_6i (q : Option Addr) (gg n cap i m : Nat) (v : Value) (x y : Fin P) (C C2 : List Value)  : List RG.It := [⟨some 24, [], (.v (.bool true)), .stay⟩,
  ⟨some 25, [(24, 0)], (.v (.bool false)), .stay⟩]
def F72b_6b (q : Option Addr) (gg n cap i m : Nat) (v : Value) (x y : Fin P) (C C2 : List Value)  : List RG.Bl := [⟨C, C, none, none⟩, ⟨(ws x ++ (ws y)), (ws x ++ (ws y)), none, none⟩]
def F72b_6o (q : Option Addr) (gg n cap i m : Nat) (v : Value) (x y : Fin P) (C C2 : List Value)  : List (Tmp × RG.SV) := [(8, (.v (.bool true)))]
def F72b_8i (q : Option Addr) (gg n cap i m : Nat) (v : Value) (x y : Fin P) (C C2 : List Value)  : List RG.It := [⟨some 26, [], (.s 0 n n), .stay⟩,
  ⟨some 27, [], (.v (.int .i64 (i : Int))), .stay⟩,
  ⟨some 28, [], (.v (pv x y)), .stay⟩,
  ⟨some 29, [(26, 0), (27, 1)], (.p 0 (0 + 8 * i)), .stay⟩,
  ⟨none, [(29, 3), (28, 2)], (.v undef), .put 0⟩]
def F72b_8b (q : Option Addr) (gg n cap i m : Nat) (v : Value) (x y : Fin P) (C C2 : List Value)  : List RG.Bl := [⟨C, C2, none, some 4⟩, ⟨(ws x ++ (ws y)), (ws x ++ (ws y)), none, none⟩]
def F72b_8o (q : Option Addr) (gg n cap i m : Nat) (v : Value) (x y : Fin P) (C C2 : List Value)  : List (Tmp × RG.SV) := [(4, (.s 0 n n)), (5, (.v (.int .i64 (i : Int)))), (7, (.p 1 0))]
def F72b_9i (q : Option Addr) (gg n cap i m : Nat) (v : Value) (x y : Fin P) (C C2 : List Value)  : List RG.It := [⟨some 30, [], (.v (.int .i64 ((i + 1 : Nat) : Int))), .stay⟩,
  ⟨some 14, [(30, 0)], (.v (.int .i64 ((i + 1 : Nat) : Int))), .stay⟩]
def F72b_9b (q : Option Addr) (gg n cap i m : Nat) (v : Value) (x y : Fin P) (C C2 : List Value)  : List RG.Bl := [⟨C2, C2, none, none⟩, ⟨(ws x ++ (ws y)), (ws x ++ (ws y)), none, none⟩]
def F72b_9o (q : Option Addr) (gg n cap i m : Nat) (v : Value) (x y : Fin P) (C C2 : List Value)  : List (Tmp × RG.SV) := [(14, (.v (.int .i64 (i : Int))))]
def F72f_3i (q : Option Addr) (gg n cap i m : Nat) (v : Value) (x y : Fin P) (C C2 : List Value)  : List RG.It := [⟨some 15, [], (.v (.bool true)), .stay⟩]
def F72f_3b (q : Option Addr) (gg n cap i m : Nat) (v : Value) (x y : Fin P) (C C2 : List Value)  : List RG.Bl := [⟨C, C, none, none⟩]
def F72f_3o (q : Option Addr) (gg n cap i m : Nat) (v : Value) (x y : Fin P) (C C2 : List Value)  : List (Tmp × RG.SV) := [(14, (.v (.int .i64 (i : Int)))), (13, (.v (.int .i64 (n : Int))))]
def F72f_4i (q : Option Addr) (gg n cap i m : Nat) (v : Value) (x y : Fin P) (C C2 : List Value)  : List RG.It := [⟨some 16, [], (.v (.int .i64 (i : Int))), .stay⟩,
  ⟨some 17, [], (.v (.pointer (some ⟨gg, (0 + i), none⟩))), .stay⟩,
  ⟨some 18, [(17, 1)], (.v v), .stay⟩,
  ⟨some 5, [(16, 0)], (.v (.int .i64 (i : Int))), .stay⟩,
  ⟨some 6, [(18, 2)], (.v v), .stay⟩]
def F72f_4b (q : Option Addr) (gg n cap i m : Nat) (v : Value) (x y : Fin P) (C C2 : List Value)  : List RG.Bl := [⟨C, C, none, none⟩]
def F72f_4o (q : Option Addr) (gg n cap i m : Nat) (v : Value) (x y : Fin P) (C C2 : List Value)  : List (Tmp × RG.SV) := [(14, (.v (.int .i64 (i : Int)))), (12, (.v (.slice (some ⟨gg, 0, none⟩) n cap)))]
def F72f_5i (q : Option Addr) (gg n cap i m : Nat) (v : Value) (x y : Fin P) (C C2 : List Value)  : List RG.It := [⟨some 20, [], (.v v), .stay⟩,
  ⟨some 21, [(20, 0)], (.v (.tuple #[(pv (0 : Fin P) (0 : Fin P)), (.bool false)])), .call⟩,
  ⟨some 19, [(21, 1)], (.v (.tuple #[(pv (0 : Fin P) (0 : Fin P)), (.bool false)])), .stay⟩,
  ⟨some 22, [(19, 2)], (.v (pv (0 : Fin P) (0 : Fin P))), .stay⟩,
  ⟨some 23, [(19, 2)], (.v (.bool false)), .stay⟩,
  ⟨some 7, [], (.p 1 0), .make 1⟩,
  ⟨none, [(7, 5), (22, 3)], (.v undef), .put 1⟩,
  ⟨some 8, [(23, 4)], (.v (.bool false)), .stay⟩]
def F72f_5b (q : Option Addr) (gg n cap i m : Nat) (v : Value) (x y : Fin P) (C C2 : List Value)  : List RG.Bl := [⟨C, C, none, none⟩, ⟨[.int .u64 0, .int .u64 0, .int .u64 0, .int .u64 0, .int .u64 0, .int .u64 0, .int .u64 0, .int .u64 0], (ws (0 : Fin P) ++ (ws (0 : Fin P))), some 5, some 6⟩]
def F72f_5o (q : Option Addr) (gg n cap i m : Nat) (v : Value) (x y : Fin P) (C C2 : List Value)  : List (Tmp × RG.SV) := [(6, (.v v))]
def F72f_6i (q : Option Addr) (gg n cap i m : Nat) (v : Value) (x y : Fin P) (C C2 : List Value)  : List RG.It := [⟨some 24, [], (.v (.bool false)), .stay⟩,
  ⟨some 25, [(24, 0)], (.v (.bool true)), .stay⟩]
def F72f_6b (q : Option Addr) (gg n cap i m : Nat) (v : Value) (x y : Fin P) (C C2 : List Value)  : List RG.Bl := [⟨C, C, none, none⟩, ⟨(ws (0 : Fin P) ++ (ws (0 : Fin P))), (ws (0 : Fin P) ++ (ws (0 : Fin P))), none, none⟩]
def F72f_6o (q : Option Addr) (gg n cap i m : Nat) (v : Value) (x y : Fin P) (C C2 : List Value)  : List (Tmp × RG.SV) := [(8, (.v (.bool false)))]
def F72f_7i (q : Option Addr) (gg n cap i m : Nat) (v : Value) (x y : Fin P) (C C2 : List Value)  : List RG.It := [⟨some 2, [], (.v (.slice none 0 0)), .stay⟩,
  ⟨some 3, [], (.v (.int .i64 4)), .stay⟩]
def F72f_7b (q : Option Addr) (gg n cap i m : Nat) (v : Value) (x y : Fin P) (C C2 : List Value)  : List RG.Bl := [⟨C, C, none, none⟩, ⟨(ws (0 : Fin P) ++ (ws (0 : Fin P))), (ws (0 : Fin P) ++ (ws (0 : Fin P))), none, none⟩]
def F72f_7o (q : Option Addr) (gg n cap i m : Nat) (v : Value) (x y : Fin P) (C C2 : List Value)  : List (Tmp × RG.SV) := []
def F72e_3i (q : Option Addr) (gg n cap i m : Nat) (v : Value) (x y : Fin P) (C C2 : List Value)  : List RG.It := [⟨some 15, [], (.v (.bool false)), .stay⟩]
def F72e_3b (q : Option Addr) (gg n cap i m : Nat) (v : Value) (x y : Fin P) (C C2 : List Value)  : List RG.Bl := [⟨C, C, none, none⟩]
def F72e_3o (q : Option Addr) (gg n cap i m : Nat) (v : Value) (x y : Fin P) (C C2 : List Value)  : List (Tmp × RG.SV) := [(14, (.v (.int .i64 (i : Int)))), (13, (.v (.int .i64 (n : Int))))]
def F72e_10i (q : Option Addr) (gg n cap i m : Nat) (v : Value) (x y : Fin P) (C C2 : List Value)  : List RG.It := [⟨some 31, [], (.s 0 n n), .stay⟩,
  ⟨some 2, [(31, 0)], (.s 0 n n), .stay⟩,
  ⟨some 3, [], (.v (.int .i64 0)), .stay⟩]
def F72e_10b (q : Option Addr) (gg n cap i m : Nat) (v : Value) (x y : Fin P) (C C2 : List Value)  : List RG.Bl := [⟨C, C, none, none⟩]
def F72e_10o (q : Option Addr) (gg n cap i m : Nat) (v : Value) (x y : Fin P) (C C2 : List Value)  : List (Tmp × RG.SV) := [(4, (.s 0 n n))]

/-- A list of arguments in a block. -/
def ArgsPts (w : World) (q : Option Addr) (n : Nat) (L : Nat → Bs) : Prop := 0 < n → ∃ gg, q = some ⟨gg, 0, none⟩ ∧ gg < w.heap.size ∧ ∀ j, j < n → ∃ v, w.cell? ⟨gg, j, none⟩ = some v ∧ Arg33 w v (L j)
def PtsR (P : Nat) [NeZero P] (w : World) (n : Nat) (L : Nat → Bs) (e : Value) (w' : World) : Prop :=
  (∃ k, w.heap.size ≤ k ∧ k < w'.heap.size ∧ e = .tuple #[.slice (some ⟨k, 0, none⟩) n n, .int .i64 0] ∧ ∀ j, j < n → ∃ p, rd P (L j) = some p ∧ w'.rangeAt k (8 * j) (ws p.1 ++ ws p.2)) ∨
  ((∃ j, j < n ∧ rd P (L j) = none) ∧ e = .tuple #[.slice none 0 0, .int .i64 4])

set_option maxHeartbeats 4000000 in
set_option maxRecDepth 100000 in
theorem Pts_c (F : Fld P) (n cap : Nat) (hn : n ≤ 512) (q : Option Addr) (L : Nat → Bs) (w : World) (hA : ArgsPts w q n L) : Calls Try.prog 72 #[.slice q n cap] w (Ret fun e w' => Below w.heap.size w w' ∧ PtsR P w n L e w') := by
  obtain ⟨C, hCl, hmk⟩ := mk112 n hn
  obtain ⟨i, -⟩ : ∃ i : Nat, i = 0 := ⟨_, rfl⟩
  obtain ⟨gg, -⟩ : ∃ i : Nat, i = 0 := ⟨_, rfl⟩
  obtain ⟨m, -⟩ : ∃ i : Nat, i = 0 := ⟨_, rfl⟩
  obtain ⟨v, -⟩ : ∃ v : Value, v = .bool true := ⟨_, rfl⟩
  obtain ⟨x, -⟩ : ∃ x : Fin P, x = 0 := ⟨_, rfl⟩
  obtain ⟨y, -⟩ : ∃ x : Fin P, x = 0 := ⟨_, rfl⟩
  obtain ⟨C2, -⟩ : ∃ c : List Value, c = C := ⟨_, rfl⟩
  go_enter Try.func72, Try.ntmps72
  refine RG.var1 (v0 := .slice q n cap) (n := 32) (by kernel_rfl) (by kernel_rfl) (by kernel_rfl) ?_
  intro a0 sl0 f0
  have hS0 := RG.St.begin w
  repeat refine wp_seq ?_
  refine RG.region_text' (its := F72a_0i q gg n cap i m v x y C C2) (bl := F72a_0b q gg n cap i m v x y C C2) (olds := F72a_0o q gg n cap i m v x y C C2) hS0 (RG.Reg.mk' (by rw [sl0.size]; kernel_rfl) trivial ⟨?_, ?_, trivial⟩) (by kernel_rfl) (by kernel_rfl) ⟨RG.endB1_st (by kernel_rfl), fun _ h => absurd h List.not_mem_nil⟩ ?_
  · exact RG.cert_stay rfl (fun μ a w _ _ => by kernel_rfl)
  · exact RG.cert_stay rfl (fun μ a w _ _ => by kernel_rfl)
  intro new1 w1 hl1 hS1
  obtain rfl := RG.len0 hl1
  replace hS1 : RG.St w w.heap.size [] [] [] w1 := hS1
  have sl1 : RG.Sl (RG.puts (RG.ad ([] ++ [])) (F72a_0i q gg n cap i m v x y C C2) a0) 32 := sl0.puts
  have f0_1 := RG.put_old (μ := RG.ad ([] ++ [])) (its := (F72a_0i q gg n cap i m v x y C C2)) f0 (by kernel_rfl)
  have f2_1 : (RG.puts (RG.ad ([] ++ [])) (F72a_0i q gg n cap i m v x y C C2) a0).tmps[2]? = some (.slice none 0 0) := by have h := RG.put_new (μ := RG.ad ([] ++ [])) (its := (F72a_0i q gg n cap i m v x y C C2)) sl0 0 (by kernel_rfl) rfl rfl rfl; exact h
  have f3_1 : (RG.puts (RG.ad ([] ++ [])) (F72a_0i q gg n cap i m v x y C C2) a0).tmps[3]? = some (.int .i64 0) := by have h := RG.put_new (μ := RG.ad ([] ++ [])) (its := (F72a_0i q gg n cap i m v x y C C2)) sl0 1 (by kernel_rfl) rfl rfl rfl; exact h
  generalize RG.puts (RG.ad ([] ++ [])) (F72a_0i q gg n cap i m v x y C C2) a0 = a1 at sl1 f0_1 f2_1 f3_1 ⊢
  repeat refine wp_seq ?_
  refine RG.region_text' (its := F72a_1i q gg n cap i m v x y C C2) (bl := F72a_1b q gg n cap i m v x y C C2) (olds := F72a_1o q gg n cap i m v x y C C2) hS1 (RG.Reg.mk' (by rw [sl1.size]; kernel_rfl) ⟨f0_1, trivial⟩ ⟨?_, ?_, ?_, ?_, trivial⟩) (by kernel_rfl) (by kernel_rfl) ⟨RG.endB1_st (by kernel_rfl), List.forall_mem_cons.2 ⟨rfl, fun _ h => absurd h List.not_mem_nil⟩⟩ ?_
  · exact RG.cert_move rfl 0 (Or.inl rfl) (fun μ a K => K.old 0 (.v (.slice q n cap)) (List.Mem.head _) (by kernel_rfl))
  · exact RG.cert_one rfl 9 (.v (.slice q n cap)) (.int .i64 (n : Int)) rfl (fun μ a K => by have h := K.op 9 0 (List.Mem.head _) rfl; exact h) (fun a w => by kernel_rfl) (fun μ w => by kernel_rfl)
  · exact RG.cert_makes 0 rfl _ rfl 112 109 10 10 n rfl rfl (fun μ a K => by have h := K.op 10 1 (List.Mem.head _) rfl; exact h) (fun μ a K => by have h := K.op 10 1 (List.Mem.head _) rfl; exact h) (hmk)
  · exact RG.cert_move rfl 11 (Or.inr rfl) (fun μ a K => by have h := K.op 11 2 (List.Mem.head _) rfl; exact h)
  intro new2 w2 hl2 hS2
  obtain ⟨j2, rfl⟩ := RG.len1 hl2
  clear hl2
  replace hS2 : RG.St w w.heap.size [] [C] [j2] w2 := hS2
  have sl2 : RG.Sl (RG.puts (RG.ad ([] ++ [j2])) (F72a_1i q gg n cap i m v x y C C2) a1) 32 := sl1.puts
  have f0_2 := RG.put_old (μ := RG.ad ([] ++ [j2])) (its := (F72a_1i q gg n cap i m v x y C C2)) f0_1 (by kernel_rfl)
  have f2_2 := RG.put_old (μ := RG.ad ([] ++ [j2])) (its := (F72a_1i q gg n cap i m v x y C C2)) f2_1 (by kernel_rfl)
  have f3_2 := RG.put_old (μ := RG.ad ([] ++ [j2])) (its := (F72a_1i q gg n cap i m v x y C C2)) f3_1 (by kernel_rfl)
  have f4_2 : (RG.puts (RG.ad ([] ++ [j2])) (F72a_1i q gg n cap i m v x y C C2) a1).tmps[4]? = some (.slice (some ⟨j2, 0, none⟩) n n) := by have h := RG.put_new (μ := RG.ad ([] ++ [j2])) (its := (F72a_1i q gg n cap i m v x y C C2)) sl1 3 (by kernel_rfl) rfl rfl rfl; exact h
  generalize RG.puts (RG.ad ([] ++ [j2])) (F72a_1i q gg n cap i m v x y C C2) a1 = a2 at sl2 f0_2 f2_2 f3_2 f4_2 ⊢
  repeat refine wp_seq ?_
  refine RG.region_text' (its := F72a_2i q gg n cap i m v x y C C2) (bl := F72a_2b q gg n cap i m v x y C C2) (olds := F72a_2o q gg n cap i m v x y C C2) hS2 (RG.Reg.mk' (by rw [sl2.size]; kernel_rfl) ⟨f0_2, trivial⟩ ⟨?_, ?_, ?_, trivial⟩) (by kernel_rfl) (by kernel_rfl) ⟨RG.endB1_st (by kernel_rfl), List.forall_mem_cons.2 ⟨rfl, fun _ h => absurd h List.not_mem_nil⟩⟩ ?_
  · exact RG.cert_move rfl 0 (Or.inl rfl) (fun μ a K => K.old 0 (.v (.slice q n cap)) (List.Mem.head _) (by kernel_rfl))
  · exact RG.cert_one rfl 12 (.v (.slice q n cap)) (.int .i64 (n : Int)) rfl (fun μ a K => by have h := K.op 12 0 (List.Mem.head _) rfl; exact h) (fun a w => by kernel_rfl) (fun μ w => by kernel_rfl)
  · exact RG.cert_stay rfl (fun μ a w _ _ => by kernel_rfl)
  intro new3 w3 hl3 hS3
  obtain rfl := RG.len0 hl3
  replace hS3 : RG.St w w.heap.size [] [C] [j2] w3 := hS3
  have sl3 : RG.Sl (RG.puts (RG.ad ([j2] ++ [])) (F72a_2i q gg n cap i m v x y C C2) a2) 32 := sl2.puts
  have f2_3 := RG.put_old (μ := RG.ad ([j2] ++ [])) (its := (F72a_2i q gg n cap i m v x y C C2)) f2_2 (by kernel_rfl)
  have f3_3 := RG.put_old (μ := RG.ad ([j2] ++ [])) (its := (F72a_2i q gg n cap i m v x y C C2)) f3_2 (by kernel_rfl)
  have f4_3 := RG.put_old (μ := RG.ad ([j2] ++ [])) (its := (F72a_2i q gg n cap i m v x y C C2)) f4_2 (by kernel_rfl)
  have f12_3 : (RG.puts (RG.ad ([j2] ++ [])) (F72a_2i q gg n cap i m v x y C C2) a2).tmps[12]? = some (.slice q n cap) := by have h := RG.put_new (μ := RG.ad ([j2] ++ [])) (its := (F72a_2i q gg n cap i m v x y C C2)) sl2 0 (by kernel_rfl) rfl rfl rfl; exact h
  have f13_3 : (RG.puts (RG.ad ([j2] ++ [])) (F72a_2i q gg n cap i m v x y C C2) a2).tmps[13]? = some (.int .i64 (n : Int)) := by have h := RG.put_new (μ := RG.ad ([j2] ++ [])) (its := (F72a_2i q gg n cap i m v x y C C2)) sl2 1 (by kernel_rfl) rfl rfl rfl; exact h
  have f14_3 : (RG.puts (RG.ad ([j2] ++ [])) (F72a_2i q gg n cap i m v x y C C2) a2).tmps[14]? = some (.int .i64 0) := by have h := RG.put_new (μ := RG.ad ([j2] ++ [])) (its := (F72a_2i q gg n cap i m v x y C C2)) sl2 2 (by kernel_rfl) rfl rfl rfl; exact h
  generalize RG.puts (RG.ad ([j2] ++ [])) (F72a_2i q gg n cap i m v x y C C2) a2 = a3 at sl3 f2_3 f3_3 f4_3 f12_3 f13_3 f14_3 ⊢
  repeat refine wp_seq ?_
  refine wp_block ?_
  refine wp_loop_ghost (fun m a wr => ∃ (i : Nat) (C : List Value), i + m = n ∧ (∀ j, j < i → (rd P (L j)).isSome = true) ∧ Rows 8 n (fun j => match rd P (L j) with | some p => ws p.1 ++ ws p.2 | none => []) i C ∧ RG.Sl a 32 ∧ a.tmps[4]? = some (.slice (some ⟨j2, 0, none⟩) n n) ∧ a.tmps[12]? = some (.slice q n cap) ∧ a.tmps[13]? = some (.int .i64 (n : Int)) ∧ a.tmps[14]? = some (.int .i64 (i : Int)) ∧ RG.St w w.heap.size [] [C] [j2] wr) n ⟨0, C, by omega, fun j hj => by omega, ⟨hCl, fun j r hj => by omega⟩, sl3, f4_3, f12_3, f13_3, f14_3, hS3⟩ ?_
  intro m' a wr
  rintro ⟨i, C, him, hall, hR, sl, p4, p12, p13, p14, hSp⟩
  generalize j2 = kt at p4 hSp
  by_cases hi : i < n
  · obtain ⟨gg, hqe, hgg, hc⟩ := hA (by omega)
    rw [hqe] at p12
    obtain ⟨v, hv, harg⟩ := hc i hi
    have hcell : w.cell? ⟨gg, 0 + i, none⟩ = some v := by rw [Nat.zero_add]; exact hv
    cases hrdv : rd P (L i) with
    | some pp =>
      obtain ⟨x, y⟩ := pp
      have hrd : ∀ w', RG.BelX w.heap.size [] w w' → Calls Try.prog 71 #[v] w' (Ret fun e w'' => Below w'.heap.size w' w'' ∧ e = .tuple #[pv x y, .bool true]) := fun w' hb => by
        have := readPoint_c F v (L i) w' (harg.below hb.below)
        rw [hrdv] at this
        exact this
      have hlen := hR.len
      have hoff : 0 + 8 * i + (ws x ++ ws y).length ≤ C.length := by rw [hlen]; show 0 + 8 * i + 8 ≤ 8 * n; omega
      obtain ⟨C2, hC2e⟩ : ∃ c, RG.rep C (0 + 8 * i) (ws x ++ ws y) = c := ⟨_, rfl⟩
      have hC2 := hC2e ▸ RG.rep_at hoff
      have hcl : C2.length = C.length := hC2e ▸ RG.rep_length hoff
      have hR2 : Rows 8 n (fun j => match rd P (L j) with | some p => ws p.1 ++ ws p.2 | none => []) (i + 1) C2 := by
        have := hR.next hi (by show List.length (match rd P (L i) with | some p => _ | none => _) = _; rw [hrdv]; rfl)
        rw [← hC2e]
        have e : (fun j => match rd P (L j) with | some p => ws p.1 ++ ws p.2 | none => []) i = (ws x ++ ws y) := by show (match rd P (L i) with | some p => _ | none => _) = _; rw [hrdv]
        rw [← e]
        exact this
      repeat refine wp_seq ?_
      refine RG.region_text' (its := F72b_3i q gg n cap i m v x y C C2) (bl := F72b_3b q gg n cap i m v x y C C2) (olds := F72b_3o q gg n cap i m v x y C C2) hSp (RG.Reg.mk' (by rw [sl.size]; kernel_rfl) ⟨p14, p13, trivial⟩ ⟨?_, trivial⟩) (by kernel_rfl) (by kernel_rfl) ⟨RG.endB1_st (by kernel_rfl), List.forall_mem_cons.2 ⟨rfl, fun _ h => absurd h List.not_mem_nil⟩⟩ ?_
      · exact RG.cert_bin rfl .lss 3 3 14 13 (.int .i64 (i : Int)) (.int .i64 (n : Int)) (.bool true) rfl rfl (fun μ a K => K.old 14 (.v (.int .i64 (i : Int))) (List.Mem.head _) (by kernel_rfl)) (fun μ a K => K.old 13 (.v (.int .i64 (n : Int))) (List.Mem.tail _ (List.Mem.head _)) (by kernel_rfl)) (fun w => by kernel_rfl) (lssn_t hi)
      intro new11 w11 hl11 hS11
      obtain rfl := RG.len0 hl11
      replace hS11 : RG.St w w.heap.size [] [C] [kt] w11 := hS11
      have sl11 : RG.Sl (RG.puts (RG.ad ([kt] ++ [])) (F72b_3i q gg n cap i m v x y C C2) a) 32 := sl.puts
      have f4_11 := RG.put_old (μ := RG.ad ([kt] ++ [])) (its := (F72b_3i q gg n cap i m v x y C C2)) p4 (by kernel_rfl)
      have f12_11 := RG.put_old (μ := RG.ad ([kt] ++ [])) (its := (F72b_3i q gg n cap i m v x y C C2)) p12 (by kernel_rfl)
      have f13_11 := RG.put_old (μ := RG.ad ([kt] ++ [])) (its := (F72b_3i q gg n cap i m v x y C C2)) p13 (by kernel_rfl)
      have f14_11 := RG.put_old (μ := RG.ad ([kt] ++ [])) (its := (F72b_3i q gg n cap i m v x y C C2)) p14 (by kernel_rfl)
      have f15_11 : (RG.puts (RG.ad ([kt] ++ [])) (F72b_3i q gg n cap i m v x y C C2) a).tmps[15]? = some (.bool true) := by have h := RG.put_new (μ := RG.ad ([kt] ++ [])) (its := (F72b_3i q gg n cap i m v x y C C2)) sl 0 (by kernel_rfl) rfl rfl rfl; exact h
      generalize RG.puts (RG.ad ([kt] ++ [])) (F72b_3i q gg n cap i m v x y C C2) a = a11 at sl11 f4_11 f12_11 f13_11 f14_11 f15_11 ⊢
      repeat refine wp_seq ?_
      refine wp_cond_true (RG.eval_of f15_11) ?_
      refine wp_skip ?_
      refine wp_seq ?_
      refine wp_block ?_
      repeat refine wp_seq ?_
      refine RG.region_text' (its := F72b_4i q gg n cap i m v x y C C2) (bl := F72b_4b q gg n cap i m v x y C C2) (olds := F72b_4o q gg n cap i m v x y C C2) hS11 (RG.Reg.mk' (by rw [sl11.size]; kernel_rfl) ⟨f14_11, f12_11, trivial⟩ ⟨?_, ?_, ?_, ?_, ?_, trivial⟩) (by kernel_rfl) (by kernel_rfl) ⟨RG.endB1_st (by kernel_rfl), List.forall_mem_cons.2 ⟨rfl, fun _ h => absurd h List.not_mem_nil⟩⟩ ?_
      · exact RG.cert_move rfl 14 (Or.inl rfl) (fun μ a K => K.old 14 (.v (.int .i64 (i : Int))) (List.Mem.head _) (by kernel_rfl))
      · exact RG.cert_idx rfl 46 12 14 rfl (.v (.slice (some ⟨gg, 0, none⟩) n cap)) (.int .i64 (i : Int)) (fun μ a K => K.old 12 (.v (.slice (some ⟨gg, 0, none⟩) n cap)) (List.Mem.tail _ (List.Mem.head _)) (by kernel_rfl)) (fun μ a K => K.old 14 (.v (.int .i64 (i : Int))) (List.Mem.head _) (by kernel_rfl)) (fun μ w => at46 _ 0 _ _ i hi w)
      · exact RG.cert_load1B rfl gg (0 + i) hgg List.not_mem_nil 23 17 rfl v rfl (fun μ a K => by have h := K.op 17 1 (List.Mem.head _) rfl; exact h) hcell u23
      · exact RG.cert_move rfl 16 (Or.inr rfl) (fun μ a K => by have h := K.op 16 0 (List.Mem.head _) rfl; exact h)
      · exact RG.cert_move rfl 18 (Or.inr rfl) (fun μ a K => by have h := K.op 18 2 (List.Mem.head _) rfl; exact h)
      intro new12 w12 hl12 hS12
      obtain rfl := RG.len0 hl12
      replace hS12 : RG.St w w.heap.size [] [C] [kt] w12 := hS12
      have sl12 : RG.Sl (RG.puts (RG.ad ([kt] ++ [])) (F72b_4i q gg n cap i m v x y C C2) a11) 32 := sl11.puts
      have f4_12 := RG.put_old (μ := RG.ad ([kt] ++ [])) (its := (F72b_4i q gg n cap i m v x y C C2)) f4_11 (by kernel_rfl)
      have f5_12 : (RG.puts (RG.ad ([kt] ++ [])) (F72b_4i q gg n cap i m v x y C C2) a11).tmps[5]? = some (.int .i64 (i : Int)) := by have h := RG.put_new (μ := RG.ad ([kt] ++ [])) (its := (F72b_4i q gg n cap i m v x y C C2)) sl11 3 (by kernel_rfl) rfl rfl rfl; exact h
      have f6_12 : (RG.puts (RG.ad ([kt] ++ [])) (F72b_4i q gg n cap i m v x y C C2) a11).tmps[6]? = some v := by have h := RG.put_new (μ := RG.ad ([kt] ++ [])) (its := (F72b_4i q gg n cap i m v x y C C2)) sl11 4 (by kernel_rfl) rfl rfl rfl; exact h
      have f12_12 := RG.put_old (μ := RG.ad ([kt] ++ [])) (its := (F72b_4i q gg n cap i m v x y C C2)) f12_11 (by kernel_rfl)
      have f13_12 := RG.put_old (μ := RG.ad ([kt] ++ [])) (its := (F72b_4i q gg n cap i m v x y C C2)) f13_11 (by kernel_rfl)
      have f14_12 := RG.put_old (μ := RG.ad ([kt] ++ [])) (its := (F72b_4i q gg n cap i m v x y C C2)) f14_11 (by kernel_rfl)
      generalize RG.puts (RG.ad ([kt] ++ [])) (F72b_4i q gg n cap i m v x y C C2) a11 = a12 at sl12 f4_12 f5_12 f6_12 f12_12 f13_12 f14_12 ⊢
      repeat refine wp_seq ?_
      refine RG.region_text' (its := F72b_5i q gg n cap i m v x y C C2) (bl := F72b_5b q gg n cap i m v x y C C2) (olds := F72b_5o q gg n cap i m v x y C C2) hS12 (RG.Reg.mk' (by rw [sl12.size]; kernel_rfl) ⟨f6_12, trivial⟩ ⟨?_, ?_, ?_, ?_, ?_, ?_, ?_, ?_, trivial⟩) (by kernel_rfl) (by kernel_rfl) ⟨RG.endB1_st (by kernel_rfl), List.forall_mem_cons.2 ⟨rfl, List.forall_mem_cons.2 ⟨rfl, fun _ h => absurd h List.not_mem_nil⟩⟩⟩ ?_
      · exact RG.cert_move rfl 6 (Or.inl rfl) (fun μ a K => K.old 6 (.v v) (List.Mem.head _) (by kernel_rfl))
      · exact RG.cert_callB1 rfl 71 20 v (.tuple #[(pv x y), (.bool true)]) rfl (fun a w => by kernel_rfl) (fun μ a K => by have h := K.op 20 0 (List.Mem.head _) rfl; exact h) hrd
      · exact RG.cert_move rfl 21 (Or.inl rfl) (fun μ a K => by have h := K.op 21 1 (List.Mem.head _) rfl; exact h)
      · exact RG.cert_extract rfl 19 0 #[(pv x y), (.bool true)] (pv x y) rfl rfl rfl (fun μ a K => by have h := K.op 19 2 (List.Mem.head _) rfl; exact h)
      · exact RG.cert_extract rfl 19 1 #[(pv x y), (.bool true)] (.bool true) rfl rfl rfl (fun μ a K => by have h := K.op 19 2 (List.Mem.head _) rfl; exact h)
      · exact RG.cert_alloc 1 rfl rfl _ rfl 109 rfl (fun w => by kernel_rfl)
      · exact RG.cert_put 1 rfl _ rfl 109 (.tmp 7) (.tmp 22) rfl rfl rfl (fun μ a K => by have h := K.op 7 5 (List.Mem.head _) rfl; exact h) (fun μ a K => by have h := K.op 22 3 (List.Mem.tail _ (List.Mem.head _)) rfl; exact h) i109 rfl
      · exact RG.cert_move rfl 23 (Or.inr rfl) (fun μ a K => by have h := K.op 23 4 (List.Mem.head _) rfl; exact h)
      intro new13 w13 hl13 hS13
      obtain ⟨j13, rfl⟩ := RG.len1 hl13
      clear hl13
      replace hS13 : RG.St w w.heap.size [] [C, (ws x ++ (ws y))] [kt, j13] w13 := hS13
      have sl13 : RG.Sl (RG.puts (RG.ad ([kt] ++ [j13])) (F72b_5i q gg n cap i m v x y C C2) a12) 32 := sl12.puts
      have f4_13 := RG.put_old (μ := RG.ad ([kt] ++ [j13])) (its := (F72b_5i q gg n cap i m v x y C C2)) f4_12 (by kernel_rfl)
      have f5_13 := RG.put_old (μ := RG.ad ([kt] ++ [j13])) (its := (F72b_5i q gg n cap i m v x y C C2)) f5_12 (by kernel_rfl)
      have f7_13 : (RG.puts (RG.ad ([kt] ++ [j13])) (F72b_5i q gg n cap i m v x y C C2) a12).tmps[7]? = some (.pointer (some ⟨j13, 0, none⟩)) := by have h := RG.put_new (μ := RG.ad ([kt] ++ [j13])) (its := (F72b_5i q gg n cap i m v x y C C2)) sl12 5 (by kernel_rfl) rfl rfl rfl; exact h
      have f8_13 : (RG.puts (RG.ad ([kt] ++ [j13])) (F72b_5i q gg n cap i m v x y C C2) a12).tmps[8]? = some (.bool true) := by have h := RG.put_new (μ := RG.ad ([kt] ++ [j13])) (its := (F72b_5i q gg n cap i m v x y C C2)) sl12 7 (by kernel_rfl) rfl rfl rfl; exact h
      have f12_13 := RG.put_old (μ := RG.ad ([kt] ++ [j13])) (its := (F72b_5i q gg n cap i m v x y C C2)) f12_12 (by kernel_rfl)
      have f13_13 := RG.put_old (μ := RG.ad ([kt] ++ [j13])) (its := (F72b_5i q gg n cap i m v x y C C2)) f13_12 (by kernel_rfl)
      have f14_13 := RG.put_old (μ := RG.ad ([kt] ++ [j13])) (its := (F72b_5i q gg n cap i m v x y C C2)) f14_12 (by kernel_rfl)
      generalize RG.puts (RG.ad ([kt] ++ [j13])) (F72b_5i q gg n cap i m v x y C C2) a12 = a13 at sl13 f4_13 f5_13 f7_13 f8_13 f12_13 f13_13 f14_13 ⊢
      repeat refine wp_seq ?_
      refine RG.region_text' (its := F72b_6i q gg n cap i m v x y C C2) (bl := F72b_6b q gg n cap i m v x y C C2) (olds := F72b_6o q gg n cap i m v x y C C2) hS13 (RG.Reg.mk' (by rw [sl13.size]; kernel_rfl) ⟨f8_13, trivial⟩ ⟨?_, ?_, trivial⟩) (by kernel_rfl) (by kernel_rfl) ⟨RG.endB1_st (by kernel_rfl), List.forall_mem_cons.2 ⟨rfl, List.forall_mem_cons.2 ⟨rfl, fun _ h => absurd h List.not_mem_nil⟩⟩⟩ ?_
      · exact RG.cert_move rfl 8 (Or.inl rfl) (fun μ a K => K.old 8 (.v (.bool true)) (List.Mem.head _) (by kernel_rfl))
      · exact RG.cert_not rfl 4 24 true rfl rfl (fun μ a K => by have h := K.op 24 0 (List.Mem.head _) rfl; exact h)
      intro new14 w14 hl14 hS14
      obtain rfl := RG.len0 hl14
      replace hS14 : RG.St w w.heap.size [] [C, (ws x ++ (ws y))] [kt, j13] w14 := hS14
      have sl14 : RG.Sl (RG.puts (RG.ad ([kt, j13] ++ [])) (F72b_6i q gg n cap i m v x y C C2) a13) 32 := sl13.puts
      have f4_14 := RG.put_old (μ := RG.ad ([kt, j13] ++ [])) (its := (F72b_6i q gg n cap i m v x y C C2)) f4_13 (by kernel_rfl)
      have f5_14 := RG.put_old (μ := RG.ad ([kt, j13] ++ [])) (its := (F72b_6i q gg n cap i m v x y C C2)) f5_13 (by kernel_rfl)
      have f7_14 := RG.put_old (μ := RG.ad ([kt, j13] ++ [])) (its := (F72b_6i q gg n cap i m v x y C C2)) f7_13 (by kernel_rfl)
      have f12_14 := RG.put_old (μ := RG.ad ([kt, j13] ++ [])) (its := (F72b_6i q gg n cap i m v x y C C2)) f12_13 (by kernel_rfl)
      have f13_14 := RG.put_old (μ := RG.ad ([kt, j13] ++ [])) (its := (F72b_6i q gg n cap i m v x y C C2)) f13_13 (by kernel_rfl)
      have f14_14 := RG.put_old (μ := RG.ad ([kt, j13] ++ [])) (its := (F72b_6i q gg n cap i m v x y C C2)) f14_13 (by kernel_rfl)
      have f25_14 : (RG.puts (RG.ad ([kt, j13] ++ [])) (F72b_6i q gg n cap i m v x y C C2) a13).tmps[25]? = some (.bool false) := by have h := RG.put_new (μ := RG.ad ([kt, j13] ++ [])) (its := (F72b_6i q gg n cap i m v x y C C2)) sl13 1 (by kernel_rfl) rfl rfl rfl; exact h
      generalize RG.puts (RG.ad ([kt, j13] ++ [])) (F72b_6i q gg n cap i m v x y C C2) a13 = a14 at sl14 f4_14 f5_14 f7_14 f12_14 f13_14 f14_14 f25_14 ⊢
      repeat refine wp_seq ?_
      refine wp_cond_false (RG.eval_of f25_14) ?_
      refine wp_skip ?_
      repeat refine wp_seq ?_
      refine RG.region_text' (its := F72b_8i q gg n cap i m v x y C C2) (bl := F72b_8b q gg n cap i m v x y C C2) (olds := F72b_8o q gg n cap i m v x y C C2) hS14 (RG.Reg.mk' (by rw [sl14.size]; kernel_rfl) ⟨f4_14, f5_14, f7_14, trivial⟩ ⟨?_, ?_, ?_, ?_, ?_, trivial⟩) (by kernel_rfl) (by kernel_rfl) ⟨RG.endB1_st (by kernel_rfl), List.forall_mem_cons.2 ⟨hcl, List.forall_mem_cons.2 ⟨rfl, fun _ h => absurd h List.not_mem_nil⟩⟩⟩ ?_
      · exact RG.cert_move rfl 4 (Or.inl rfl) (fun μ a K => K.old 4 (.s 0 n n) (List.Mem.head _) (by kernel_rfl))
      · exact RG.cert_move rfl 5 (Or.inl rfl) (fun μ a K => K.old 5 (.v (.int .i64 (i : Int))) (List.Mem.tail _ (List.Mem.head _)) (by kernel_rfl))
      · exact RG.cert_load rfl 1 0 _ rfl rfl (by kernel_rfl) 109 7 rfl (ws x ++ (ws y)) rfl (fun μ a K => K.old 7 (.p 1 0) (List.Mem.tail _ (List.Mem.tail _ (List.Mem.head _))) (by kernel_rfl)) (by kernel_rfl) u109 i109
      · exact RG.cert_idx rfl 112 26 27 rfl (.s 0 n n) (.int .i64 (i : Int)) (fun μ a K => by have h := K.op 26 0 (List.Mem.head _) rfl; exact h) (fun μ a K => by have h := K.op 27 1 (List.Mem.tail _ (List.Mem.head _)) rfl; exact h) (fun μ w => at112 _ 0 _ _ i hi w)
      · exact RG.cert_putAt 0 (0 + 8 * i) rfl _ rfl 109 (.tmp 29) (.tmp 28) (ws x ++ ws y) rfl rfl (fun μ a K => by have h := K.op 29 3 (List.Mem.head _) rfl; exact h) (fun μ a K => by have h := K.op 28 2 (List.Mem.tail _ (List.Mem.head _)) rfl; exact h) hoff hC2 i109 rfl
      intro new15 w15 hl15 hS15
      obtain rfl := RG.len0 hl15
      replace hS15 : RG.St w w.heap.size [] [C2, (ws x ++ (ws y))] [kt, j13] w15 := hS15
      have sl15 : RG.Sl (RG.puts (RG.ad ([kt, j13] ++ [])) (F72b_8i q gg n cap i m v x y C C2) a14) 32 := sl14.puts
      have f4_15 := RG.put_old (μ := RG.ad ([kt, j13] ++ [])) (its := (F72b_8i q gg n cap i m v x y C C2)) f4_14 (by kernel_rfl)
      have f12_15 := RG.put_old (μ := RG.ad ([kt, j13] ++ [])) (its := (F72b_8i q gg n cap i m v x y C C2)) f12_14 (by kernel_rfl)
      have f13_15 := RG.put_old (μ := RG.ad ([kt, j13] ++ [])) (its := (F72b_8i q gg n cap i m v x y C C2)) f13_14 (by kernel_rfl)
      have f14_15 := RG.put_old (μ := RG.ad ([kt, j13] ++ [])) (its := (F72b_8i q gg n cap i m v x y C C2)) f14_14 (by kernel_rfl)
      generalize RG.puts (RG.ad ([kt, j13] ++ [])) (F72b_8i q gg n cap i m v x y C C2) a14 = a15 at sl15 f4_15 f12_15 f13_15 f14_15 ⊢
      repeat refine wp_seq ?_
      refine RG.region_text' (its := F72b_9i q gg n cap i m v x y C C2) (bl := F72b_9b q gg n cap i m v x y C C2) (olds := F72b_9o q gg n cap i m v x y C C2) hS15 (RG.Reg.mk' (by rw [sl15.size]; kernel_rfl) ⟨f14_15, trivial⟩ ⟨?_, ?_, trivial⟩) (by kernel_rfl) (by kernel_rfl) ⟨RG.endB1_st (by kernel_rfl), List.forall_mem_cons.2 ⟨rfl, List.forall_mem_cons.2 ⟨rfl, fun _ h => absurd h List.not_mem_nil⟩⟩⟩ ?_
      · exact RG.cert_binc rfl .add 3 3 14 (.int .i64 (i : Int)) (.int .i64 1) (.int .i64 ((i + 1 : Nat) : Int)) rfl rfl (fun μ a K => K.old 14 (.v (.int .i64 (i : Int))) (List.Mem.head _) (by kernel_rfl)) (fun w => by kernel_rfl) (addn i 1 (by omega) (by omega))
      · exact RG.cert_move rfl 30 (Or.inl rfl) (fun μ a K => by have h := K.op 30 0 (List.Mem.head _) rfl; exact h)
      intro new16 w16 hl16 hS16
      obtain rfl := RG.len0 hl16
      replace hS16 : RG.St w w.heap.size [] [C2, (ws x ++ (ws y))] [kt, j13] w16 := hS16
      have sl16 : RG.Sl (RG.puts (RG.ad ([kt, j13] ++ [])) (F72b_9i q gg n cap i m v x y C C2) a15) 32 := sl15.puts
      have f4_16 := RG.put_old (μ := RG.ad ([kt, j13] ++ [])) (its := (F72b_9i q gg n cap i m v x y C C2)) f4_15 (by kernel_rfl)
      have f12_16 := RG.put_old (μ := RG.ad ([kt, j13] ++ [])) (its := (F72b_9i q gg n cap i m v x y C C2)) f12_15 (by kernel_rfl)
      have f13_16 := RG.put_old (μ := RG.ad ([kt, j13] ++ [])) (its := (F72b_9i q gg n cap i m v x y C C2)) f13_15 (by kernel_rfl)
      have f14_16 : (RG.puts (RG.ad ([kt, j13] ++ [])) (F72b_9i q gg n cap i m v x y C C2) a15).tmps[14]? = some (.int .i64 ((i + 1 : Nat) : Int)) := by have h := RG.put_new (μ := RG.ad ([kt, j13] ++ [])) (its := (F72b_9i q gg n cap i m v x y C C2)) sl15 1 (by kernel_rfl) rfl rfl rfl; exact h
      generalize RG.puts (RG.ad ([kt, j13] ++ [])) (F72b_9i q gg n cap i m v x y C C2) a15 = a16 at sl16 f4_16 f12_16 f13_16 f14_16 ⊢
      show ∃ n', _
      exact ⟨m' - 1, by omega, i + 1, C2, by omega, fun j hj => (by
        by_cases hji : j = i
        · rw [hji, hrdv]; rfl
        · exact hall j (by omega)), hR2, sl16, f4_16, (by rw [hqe]; exact f12_16), f13_16, f14_16, RG.St.init (cs := [C2]) (ks := [kt]) hS16⟩
    | none =>
      have hrd : ∀ w', RG.BelX w.heap.size [] w w' → Calls Try.prog 71 #[v] w' (Ret fun e w'' => Below w'.heap.size w' w'' ∧ e = .tuple #[pv (0 : Fin P) 0, .bool false]) := fun w' hb => by
        have := readPoint_c F v (L i) w' (harg.below hb.below)
        rw [hrdv] at this
        exact this
      repeat refine wp_seq ?_
      refine RG.region_text' (its := F72f_3i q gg n cap i m v x y C C2) (bl := F72f_3b q gg n cap i m v x y C C2) (olds := F72f_3o q gg n cap i m v x y C C2) hSp (RG.Reg.mk' (by rw [sl.size]; kernel_rfl) ⟨p14, p13, trivial⟩ ⟨?_, trivial⟩) (by kernel_rfl) (by kernel_rfl) ⟨RG.endB1_st (by kernel_rfl), List.forall_mem_cons.2 ⟨rfl, fun _ h => absurd h List.not_mem_nil⟩⟩ ?_
      · exact RG.cert_bin rfl .lss 3 3 14 13 (.int .i64 (i : Int)) (.int .i64 (n : Int)) (.bool true) rfl rfl (fun μ a K => K.old 14 (.v (.int .i64 (i : Int))) (List.Mem.head _) (by kernel_rfl)) (fun μ a K => K.old 13 (.v (.int .i64 (n : Int))) (List.Mem.tail _ (List.Mem.head _)) (by kernel_rfl)) (fun w => by kernel_rfl) (lssn_t hi)
      intro new21 w21 hl21 hS21
      obtain rfl := RG.len0 hl21
      replace hS21 : RG.St w w.heap.size [] [C] [kt] w21 := hS21
      have sl21 : RG.Sl (RG.puts (RG.ad ([kt] ++ [])) (F72f_3i q gg n cap i m v x y C C2) a) 32 := sl.puts
      have f12_21 := RG.put_old (μ := RG.ad ([kt] ++ [])) (its := (F72f_3i q gg n cap i m v x y C C2)) p12 (by kernel_rfl)
      have f14_21 := RG.put_old (μ := RG.ad ([kt] ++ [])) (its := (F72f_3i q gg n cap i m v x y C C2)) p14 (by kernel_rfl)
      have f15_21 : (RG.puts (RG.ad ([kt] ++ [])) (F72f_3i q gg n cap i m v x y C C2) a).tmps[15]? = some (.bool true) := by have h := RG.put_new (μ := RG.ad ([kt] ++ [])) (its := (F72f_3i q gg n cap i m v x y C C2)) sl 0 (by kernel_rfl) rfl rfl rfl; exact h
      generalize RG.puts (RG.ad ([kt] ++ [])) (F72f_3i q gg n cap i m v x y C C2) a = a21 at sl21 f12_21 f14_21 f15_21 ⊢
      repeat refine wp_seq ?_
      refine wp_cond_true (RG.eval_of f15_21) ?_
      refine wp_skip ?_
      refine wp_seq ?_
      refine wp_block ?_
      repeat refine wp_seq ?_
      refine RG.region_text' (its := F72f_4i q gg n cap i m v x y C C2) (bl := F72f_4b q gg n cap i m v x y C C2) (olds := F72f_4o q gg n cap i m v x y C C2) hS21 (RG.Reg.mk' (by rw [sl21.size]; kernel_rfl) ⟨f14_21, f12_21, trivial⟩ ⟨?_, ?_, ?_, ?_, ?_, trivial⟩) (by kernel_rfl) (by kernel_rfl) ⟨RG.endB1_st (by kernel_rfl), List.forall_mem_cons.2 ⟨rfl, fun _ h => absurd h List.not_mem_nil⟩⟩ ?_
      · exact RG.cert_move rfl 14 (Or.inl rfl) (fun μ a K => K.old 14 (.v (.int .i64 (i : Int))) (List.Mem.head _) (by kernel_rfl))
      · exact RG.cert_idx rfl 46 12 14 rfl (.v (.slice (some ⟨gg, 0, none⟩) n cap)) (.int .i64 (i : Int)) (fun μ a K => K.old 12 (.v (.slice (some ⟨gg, 0, none⟩) n cap)) (List.Mem.tail _ (List.Mem.head _)) (by kernel_rfl)) (fun μ a K => K.old 14 (.v (.int .i64 (i : Int))) (List.Mem.head _) (by kernel_rfl)) (fun μ w => at46 _ 0 _ _ i hi w)
      · exact RG.cert_load1B rfl gg (0 + i) hgg List.not_mem_nil 23 17 rfl v rfl (fun μ a K => by have h := K.op 17 1 (List.Mem.head _) rfl; exact h) hcell u23
      · exact RG.cert_move rfl 16 (Or.inr rfl) (fun μ a K => by have h := K.op 16 0 (List.Mem.head _) rfl; exact h)
      · exact RG.cert_move rfl 18 (Or.inr rfl) (fun μ a K => by have h := K.op 18 2 (List.Mem.head _) rfl; exact h)
      intro new22 w22 hl22 hS22
      obtain rfl := RG.len0 hl22
      replace hS22 : RG.St w w.heap.size [] [C] [kt] w22 := hS22
      have sl22 : RG.Sl (RG.puts (RG.ad ([kt] ++ [])) (F72f_4i q gg n cap i m v x y C C2) a21) 32 := sl21.puts
      have f6_22 : (RG.puts (RG.ad ([kt] ++ [])) (F72f_4i q gg n cap i m v x y C C2) a21).tmps[6]? = some v := by have h := RG.put_new (μ := RG.ad ([kt] ++ [])) (its := (F72f_4i q gg n cap i m v x y C C2)) sl21 4 (by kernel_rfl) rfl rfl rfl; exact h
      generalize RG.puts (RG.ad ([kt] ++ [])) (F72f_4i q gg n cap i m v x y C C2) a21 = a22 at sl22 f6_22 ⊢
      repeat refine wp_seq ?_
      refine RG.region_text' (its := F72f_5i q gg n cap i m v x y C C2) (bl := F72f_5b q gg n cap i m v x y C C2) (olds := F72f_5o q gg n cap i m v x y C C2) hS22 (RG.Reg.mk' (by rw [sl22.size]; kernel_rfl) ⟨f6_22, trivial⟩ ⟨?_, ?_, ?_, ?_, ?_, ?_, ?_, ?_, trivial⟩) (by kernel_rfl) (by kernel_rfl) ⟨RG.endB1_st (by kernel_rfl), List.forall_mem_cons.2 ⟨rfl, List.forall_mem_cons.2 ⟨rfl, fun _ h => absurd h List.not_mem_nil⟩⟩⟩ ?_
      · exact RG.cert_move rfl 6 (Or.inl rfl) (fun μ a K => K.old 6 (.v v) (List.Mem.head _) (by kernel_rfl))
      · exact RG.cert_callB1 rfl 71 20 v (.tuple #[(pv (0 : Fin P) (0 : Fin P)), (.bool false)]) rfl (fun a w => by kernel_rfl) (fun μ a K => by have h := K.op 20 0 (List.Mem.head _) rfl; exact h) hrd
      · exact RG.cert_move rfl 21 (Or.inl rfl) (fun μ a K => by have h := K.op 21 1 (List.Mem.head _) rfl; exact h)
      · exact RG.cert_extract rfl 19 0 #[(pv (0 : Fin P) (0 : Fin P)), (.bool false)] (pv (0 : Fin P) (0 : Fin P)) rfl rfl rfl (fun μ a K => by have h := K.op 19 2 (List.Mem.head _) rfl; exact h)
      · exact RG.cert_extract rfl 19 1 #[(pv (0 : Fin P) (0 : Fin P)), (.bool false)] (.bool false) rfl rfl rfl (fun μ a K => by have h := K.op 19 2 (List.Mem.head _) rfl; exact h)
      · exact RG.cert_alloc 1 rfl rfl _ rfl 109 rfl (fun w => by kernel_rfl)
      · exact RG.cert_put 1 rfl _ rfl 109 (.tmp 7) (.tmp 22) rfl rfl rfl (fun μ a K => by have h := K.op 7 5 (List.Mem.head _) rfl; exact h) (fun μ a K => by have h := K.op 22 3 (List.Mem.tail _ (List.Mem.head _)) rfl; exact h) i109 rfl
      · exact RG.cert_move rfl 23 (Or.inr rfl) (fun μ a K => by have h := K.op 23 4 (List.Mem.head _) rfl; exact h)
      intro new23 w23 hl23 hS23
      obtain ⟨j23, rfl⟩ := RG.len1 hl23
      clear hl23
      replace hS23 : RG.St w w.heap.size [] [C, (ws (0 : Fin P) ++ (ws (0 : Fin P)))] [kt, j23] w23 := hS23
      have sl23 : RG.Sl (RG.puts (RG.ad ([kt] ++ [j23])) (F72f_5i q gg n cap i m v x y C C2) a22) 32 := sl22.puts
      have f8_23 : (RG.puts (RG.ad ([kt] ++ [j23])) (F72f_5i q gg n cap i m v x y C C2) a22).tmps[8]? = some (.bool false) := by have h := RG.put_new (μ := RG.ad ([kt] ++ [j23])) (its := (F72f_5i q gg n cap i m v x y C C2)) sl22 7 (by kernel_rfl) rfl rfl rfl; exact h
      generalize RG.puts (RG.ad ([kt] ++ [j23])) (F72f_5i q gg n cap i m v x y C C2) a22 = a23 at sl23 f8_23 ⊢
      repeat refine wp_seq ?_
      refine RG.region_text' (its := F72f_6i q gg n cap i m v x y C C2) (bl := F72f_6b q gg n cap i m v x y C C2) (olds := F72f_6o q gg n cap i m v x y C C2) hS23 (RG.Reg.mk' (by rw [sl23.size]; kernel_rfl) ⟨f8_23, trivial⟩ ⟨?_, ?_, trivial⟩) (by kernel_rfl) (by kernel_rfl) ⟨RG.endB1_st (by kernel_rfl), List.forall_mem_cons.2 ⟨rfl, List.forall_mem_cons.2 ⟨rfl, fun _ h => absurd h List.not_mem_nil⟩⟩⟩ ?_
      · exact RG.cert_move rfl 8 (Or.inl rfl) (fun μ a K => K.old 8 (.v (.bool false)) (List.Mem.head _) (by kernel_rfl))
      · exact RG.cert_not rfl 4 24 false rfl rfl (fun μ a K => by have h := K.op 24 0 (List.Mem.head _) rfl; exact h)
      intro new24 w24 hl24 hS24
      obtain rfl := RG.len0 hl24
      replace hS24 : RG.St w w.heap.size [] [C, (ws (0 : Fin P) ++ (ws (0 : Fin P)))] [kt, j23] w24 := hS24
      have sl24 : RG.Sl (RG.puts (RG.ad ([kt, j23] ++ [])) (F72f_6i q gg n cap i m v x y C C2) a23) 32 := sl23.puts
      have f25_24 : (RG.puts (RG.ad ([kt, j23] ++ [])) (F72f_6i q gg n cap i m v x y C C2) a23).tmps[25]? = some (.bool true) := by have h := RG.put_new (μ := RG.ad ([kt, j23] ++ [])) (its := (F72f_6i q gg n cap i m v x y C C2)) sl23 1 (by kernel_rfl) rfl rfl rfl; exact h
      generalize RG.puts (RG.ad ([kt, j23] ++ [])) (F72f_6i q gg n cap i m v x y C C2) a23 = a24 at sl24 f25_24 ⊢
      repeat refine wp_seq ?_
      refine wp_cond_true (RG.eval_of f25_24) ?_
      repeat refine wp_seq ?_
      refine RG.region_text' (its := F72f_7i q gg n cap i m v x y C C2) (bl := F72f_7b q gg n cap i m v x y C C2) (olds := F72f_7o q gg n cap i m v x y C C2) hS24 (RG.Reg.mk' (by rw [sl24.size]; kernel_rfl) trivial ⟨?_, ?_, trivial⟩) (by kernel_rfl) (by kernel_rfl) ⟨RG.endB1_st (by kernel_rfl), List.forall_mem_cons.2 ⟨rfl, List.forall_mem_cons.2 ⟨rfl, fun _ h => absurd h List.not_mem_nil⟩⟩⟩ ?_
      · exact RG.cert_stay rfl (fun μ a w _ _ => by kernel_rfl)
      · exact RG.cert_stay rfl (fun μ a w _ _ => by kernel_rfl)
      intro new25 w25 hl25 hS25
      obtain rfl := RG.len0 hl25
      replace hS25 : RG.St w w.heap.size [] [C, (ws (0 : Fin P) ++ (ws (0 : Fin P)))] [kt, j23] w25 := hS25
      have sl25 : RG.Sl (RG.puts (RG.ad ([kt, j23] ++ [])) (F72f_7i q gg n cap i m v x y C C2) a24) 32 := sl24.puts
      have f2_25 : (RG.puts (RG.ad ([kt, j23] ++ [])) (F72f_7i q gg n cap i m v x y C C2) a24).tmps[2]? = some (.slice none 0 0) := by have h := RG.put_new (μ := RG.ad ([kt, j23] ++ [])) (its := (F72f_7i q gg n cap i m v x y C C2)) sl24 0 (by kernel_rfl) rfl rfl rfl; exact h
      have f3_25 : (RG.puts (RG.ad ([kt, j23] ++ [])) (F72f_7i q gg n cap i m v x y C C2) a24).tmps[3]? = some (.int .i64 4) := by have h := RG.put_new (μ := RG.ad ([kt, j23] ++ [])) (its := (F72f_7i q gg n cap i m v x y C C2)) sl24 1 (by kernel_rfl) rfl rfl rfl; exact h
      generalize RG.puts (RG.ad ([kt, j23] ++ [])) (F72f_7i q gg n cap i m v x y C C2) a24 = a25 at sl25 f2_25 f3_25 ⊢
      refine wp_ret ?_
      refine bodyPost_ret (v := .tuple #[.slice none 0 0, .int .i64 4]) (RG.results_tt 2 3 rfl _ _ f2_25 f3_25) sl25.defers ?_
      exact ⟨_, rfl, hS25.bel.below, Or.inr ⟨⟨i, hi, hrdv⟩, rfl⟩⟩
  · have hiN : i = n := by omega
    repeat refine wp_seq ?_
    refine RG.region_text' (its := F72e_3i q gg n cap i m v x y C C2) (bl := F72e_3b q gg n cap i m v x y C C2) (olds := F72e_3o q gg n cap i m v x y C C2) hSp (RG.Reg.mk' (by rw [sl.size]; kernel_rfl) ⟨p14, p13, trivial⟩ ⟨?_, trivial⟩) (by kernel_rfl) (by kernel_rfl) ⟨RG.endB1_st (by kernel_rfl), List.forall_mem_cons.2 ⟨rfl, fun _ h => absurd h List.not_mem_nil⟩⟩ ?_
    · exact RG.cert_bin rfl .lss 3 3 14 13 (.int .i64 (i : Int)) (.int .i64 (n : Int)) (.bool false) rfl rfl (fun μ a K => K.old 14 (.v (.int .i64 (i : Int))) (List.Mem.head _) (by kernel_rfl)) (fun μ a K => K.old 13 (.v (.int .i64 (n : Int))) (List.Mem.tail _ (List.Mem.head _)) (by kernel_rfl)) (fun w => by kernel_rfl) (lssn_f hi)
    intro new31 w31 hl31 hS31
    obtain rfl := RG.len0 hl31
    replace hS31 : RG.St w w.heap.size [] [C] [kt] w31 := hS31
    have sl31 : RG.Sl (RG.puts (RG.ad ([kt] ++ [])) (F72e_3i q gg n cap i m v x y C C2) a) 32 := sl.puts
    have f4_31 := RG.put_old (μ := RG.ad ([kt] ++ [])) (its := (F72e_3i q gg n cap i m v x y C C2)) p4 (by kernel_rfl)
    have f15_31 : (RG.puts (RG.ad ([kt] ++ [])) (F72e_3i q gg n cap i m v x y C C2) a).tmps[15]? = some (.bool false) := by have h := RG.put_new (μ := RG.ad ([kt] ++ [])) (its := (F72e_3i q gg n cap i m v x y C C2)) sl 0 (by kernel_rfl) rfl rfl rfl; exact h
    generalize RG.puts (RG.ad ([kt] ++ [])) (F72e_3i q gg n cap i m v x y C C2) a = a31 at sl31 f4_31 f15_31 ⊢
    repeat refine wp_seq ?_
    refine wp_cond_false (RG.eval_of f15_31) ?_
    refine wp_exit ?_
    dsimp only [Exit.then, Exit.inBlock]
    rw [if_pos rfl]
    repeat refine wp_seq ?_
    refine RG.region_text' (its := F72e_10i q gg n cap i m v x y C C2) (bl := F72e_10b q gg n cap i m v x y C C2) (olds := F72e_10o q gg n cap i m v x y C C2) hS31 (RG.Reg.mk' (by rw [sl31.size]; kernel_rfl) ⟨f4_31, trivial⟩ ⟨?_, ?_, ?_, trivial⟩) (by kernel_rfl) (by kernel_rfl) ⟨RG.endB1_st (by kernel_rfl), List.forall_mem_cons.2 ⟨rfl, fun _ h => absurd h List.not_mem_nil⟩⟩ ?_
    · exact RG.cert_move rfl 4 (Or.inl rfl) (fun μ a K => K.old 4 (.s 0 n n) (List.Mem.head _) (by kernel_rfl))
    · exact RG.cert_move rfl 31 (Or.inr rfl) (fun μ a K => by have h := K.op 31 0 (List.Mem.head _) rfl; exact h)
    · exact RG.cert_stay rfl (fun μ a w _ _ => by kernel_rfl)
    intro new32 w32 hl32 hS32
    obtain rfl := RG.len0 hl32
    replace hS32 : RG.St w w.heap.size [] [C] [kt] w32 := hS32
    have sl32 : RG.Sl (RG.puts (RG.ad ([kt] ++ [])) (F72e_10i q gg n cap i m v x y C C2) a31) 32 := sl31.puts
    have f2_32 : (RG.puts (RG.ad ([kt] ++ [])) (F72e_10i q gg n cap i m v x y C C2) a31).tmps[2]? = some (.slice (some ⟨kt, 0, none⟩) n n) := by have h := RG.put_new (μ := RG.ad ([kt] ++ [])) (its := (F72e_10i q gg n cap i m v x y C C2)) sl31 1 (by kernel_rfl) rfl rfl rfl; exact h
    have f3_32 : (RG.puts (RG.ad ([kt] ++ [])) (F72e_10i q gg n cap i m v x y C C2) a31).tmps[3]? = some (.int .i64 0) := by have h := RG.put_new (μ := RG.ad ([kt] ++ [])) (its := (F72e_10i q gg n cap i m v x y C C2)) sl31 2 (by kernel_rfl) rfl rfl rfl; exact h
    generalize RG.puts (RG.ad ([kt] ++ [])) (F72e_10i q gg n cap i m v x y C C2) a31 = a32 at sl32 f2_32 f3_32 ⊢
    refine wp_ret ?_
    refine bodyPost_ret (v := .tuple #[.slice (some ⟨kt, 0, none⟩) n n, .int .i64 0]) (RG.results_tt 2 3 rfl _ _ f2_32 f3_32) sl32.defers ?_
    refine ⟨_, rfl, hS32.bel.below, Or.inl ⟨kt, ?_, ?_, rfl, fun j hj => ?_⟩⟩
    · exact (hS32.has 0 C rfl).2.2.2.elim id (fun h => absurd h List.not_mem_nil)
    · exact (hS32.has 0 C rfl).2.2.1
    · obtain ⟨pp, hpp⟩ := Option.isSome_iff_exists.1 (hall j (by omega))
      refine ⟨pp, hpp, RG.range_sub (hS32.has 0 C rfl).1 (fun r hr => ?_)⟩
      have h5 := hR.row j r (by omega) hr
      rw [h5]
      show (match rd P (L j) with | some p => _ | none => _)[r]? = _
      rw [hpp]
def F81a_0i (q : Option Addr) (gg n cap i m : Nat) (v : Value) (C C2 : List Value)  : List RG.It := [⟨some 2, [], (.v (.slice none 0 0)), .stay⟩,
  ⟨some 3, [], (.v (.int .i64 0)), .stay⟩]
def F81a_0b (q : Option Addr) (gg n cap i m : Nat) (v : Value) (C C2 : List Value)  : List RG.Bl := []
def F81a_0o (q : Option Addr) (gg n cap i m : Nat) (v : Value) (C C2 : List Value)  : List (Tmp × RG.SV) := []
def F81a_1i (q : Option Addr) (gg n cap i m : Nat) (v : Value) (C C2 : List Value)  : List RG.It := [⟨some 9, [], (.v (.slice q n cap)), .stay⟩,
  ⟨some 10, [(9, 0)], (.v (.int .i64 (n : Int))), .stay⟩,
  ⟨some 11, [(10, 1)], (.s 0 n n), .make 0⟩,
  ⟨some 4, [(11, 2)], (.s 0 n n), .stay⟩]
def F81a_1b (q : Option Addr) (gg n cap i m : Nat) (v : Value) (C C2 : List Value)  : List RG.Bl := [⟨C, C, some 2, none⟩]
def F81a_1o (q : Option Addr) (gg n cap i m : Nat) (v : Value) (C C2 : List Value)  : List (Tmp × RG.SV) := [(0, (.v (.slice q n cap)))]
def F81a_2i (q : Option Addr) (gg n cap i m : Nat) (v : Value) (C C2 : List Value)  : List RG.It := [⟨some 12, [], (.v (.slice q n cap)), .stay⟩,
  ⟨some 13, [(12, 0)], (.v (.int .i64 (n : Int))), .stay⟩,
  ⟨some 14, [], (.v (.int .i64 0)), .stay⟩]
def F81a_2b (q : Option Addr) (gg n cap i m : Nat) (v : Value) (C C2 : List Value)  : List RG.Bl := [⟨C, C, none, none⟩]
def F81a_2o (q : Option Addr) (gg n cap i m : Nat) (v : Value) (C C2 : List Value)  : List (Tmp × RG.SV) := [(0, (.v (.slice q n cap)))]
def F81b_3i (q : Option Addr) (gg n cap i m : Nat) (v : Value) (C C2 : List Value)  : List RG.It := [⟨some 15, [], (.v (.bool true)), .stay⟩]
def F81b_3b (q : Option Addr) (gg n cap i m : Nat) (v : Value) (C C2 : List Value)  : List RG.Bl := [⟨C, C, none, none⟩]
def F81b_3o (q : Option Addr) (gg n cap i m : Nat) (v : Value) (C C2 : List Value)  : List (Tmp × RG.SV) := [(14, (.v (.int .i64 (i : Int)))), (13, (.v (.int .i64 (n : Int))))]
def F81b_4i (q : Option Addr) (gg n cap i m : Nat) (v : Value) (C C2 : List Value)  : List RG.It := [⟨some 16, [], (.v (.int .i64 (i : Int))), .stay⟩,
  ⟨some 17, [], (.v (.pointer (some ⟨gg, (0 + i), none⟩))), .stay⟩,
  ⟨some 18, [(17, 1)], (.v v), .stay⟩,
  ⟨some 5, [(16, 0)], (.v (.int .i64 (i : Int))), .stay⟩,
  ⟨some 6, [(18, 2)], (.v v), .stay⟩]
def F81b_4b (q : Option Addr) (gg n cap i m : Nat) (v : Value) (C C2 : List Value)  : List RG.Bl := [⟨C, C, none, none⟩]
def F81b_4o (q : Option Addr) (gg n cap i m : Nat) (v : Value) (C C2 : List Value)  : List (Tmp × RG.SV) := [(14, (.v (.int .i64 (i : Int)))), (12, (.v (.slice (some ⟨gg, 0, none⟩) n cap)))]
def F81b_5i (q : Option Addr) (gg n cap i m : Nat) (v : Value) (C C2 : List Value)  : List RG.It := [⟨some 20, [], (.v gv1), .call⟩,
  ⟨some 21, [], (.v v), .stay⟩,
  ⟨some 22, [(20, 0), (21, 1)], (.v (.tuple #[(nv m), (.bool true)])), .call⟩,
  ⟨some 19, [(22, 2)], (.v (.tuple #[(nv m), (.bool true)])), .stay⟩,
  ⟨some 23, [(19, 3)], (.v (nv m)), .stay⟩,
  ⟨some 24, [(19, 3)], (.v (.bool true)), .stay⟩,
  ⟨some 7, [], (.p 1 0), .make 1⟩,
  ⟨none, [(7, 6), (23, 4)], (.v undef), .put 1⟩,
  ⟨some 8, [(24, 5)], (.v (.bool true)), .stay⟩]
def F81b_5b (q : Option Addr) (gg n cap i m : Nat) (v : Value) (C C2 : List Value)  : List RG.Bl := [⟨C, C, none, none⟩, ⟨[.int .u64 0, .int .u64 0, .int .u64 0, .int .u64 0], (wn m), some 6, some 7⟩]
def F81b_5o (q : Option Addr) (gg n cap i m : Nat) (v : Value) (C C2 : List Value)  : List (Tmp × RG.SV) := [(6, (.v v))]
def F81b_6i (q : Option Addr) (gg n cap i m : Nat) (v : Value) (C C2 : List Value)  : List RG.It := [⟨some 25, [], (.v (.bool true)), .stay⟩,
  ⟨some 26, [(25, 0)], (.v (.bool false)), .stay⟩]
def F81b_6b (q : Option Addr) (gg n cap i m : Nat) (v : Value) (C C2 : List Value)  : List RG.Bl := [⟨C, C, none, none⟩, ⟨(wn m), (wn m), none, none⟩]
def F81b_6o (q : Option Addr) (gg n cap i m : Nat) (v : Value) (C C2 : List Value)  : List (Tmp × RG.SV) := [(8, (.v (.bool true)))]
def F81b_8i (q : Option Addr) (gg n cap i m : Nat) (v : Value) (C C2 : List Value)  : List RG.It := [⟨some 27, [], (.s 0 n n), .stay⟩,
  ⟨some 28, [], (.v (.int .i64 (i : Int))), .stay⟩,
  ⟨some 29, [], (.v (nv m)), .stay⟩,
  ⟨some 30, [(27, 0), (28, 1)], (.p 0 (0 + 4 * i)), .stay⟩,
  ⟨none, [(30, 3), (29, 2)], (.v undef), .put 0⟩]
def F81b_8b (q : Option Addr) (gg n cap i m : Nat) (v : Value) (C C2 : List Value)  : List RG.Bl := [⟨C, C2, none, some 4⟩, ⟨(wn m), (wn m), none, none⟩]
def F81b_8o (q : Option Addr) (gg n cap i m : Nat) (v : Value) (C C2 : List Value)  : List (Tmp × RG.SV) := [(4, (.s 0 n n)), (5, (.v (.int .i64 (i : Int)))), (7, (.p 1 0))]
def F81b_9i (q : Option Addr) (gg n cap i m : Nat) (v : Value) (C C2 : List Value)  : List RG.It := [⟨some 31, [], (.v (.int .i64 ((i + 1 : Nat) : Int))), .stay⟩,
  ⟨some 14, [(31, 0)], (.v (.int .i64 ((i + 1 : Nat) : Int))), .stay⟩]
def F81b_9b (q : Option Addr) (gg n cap i m : Nat) (v : Value) (C C2 : List Value)  : List RG.Bl := [⟨C2, C2, none, none⟩, ⟨(wn m), (wn m), none, none⟩]
def F81b_9o (q : Option Addr) (gg n cap i m : Nat) (v : Value) (C C2 : List Value)  : List (Tmp × RG.SV) := [(14, (.v (.int .i64 (i : Int))))]
def F81f_3i (q : Option Addr) (gg n cap i m : Nat) (v : Value) (C C2 : List Value)  : List RG.It := [⟨some 15, [], (.v (.bool true)), .stay⟩]
def F81f_3b (q : Option Addr) (gg n cap i m : Nat) (v : Value) (C C2 : List Value)  : List RG.Bl := [⟨C, C, none, none⟩]
def F81f_3o (q : Option Addr) (gg n cap i m : Nat) (v : Value) (C C2 : List Value)  : List (Tmp × RG.SV) := [(14, (.v (.int .i64 (i : Int)))), (13, (.v (.int .i64 (n : Int))))]
def F81f_4i (q : Option Addr) (gg n cap i m : Nat) (v : Value) (C C2 : List Value)  : List RG.It := [⟨some 16, [], (.v (.int .i64 (i : Int))), .stay⟩,
  ⟨some 17, [], (.v (.pointer (some ⟨gg, (0 + i), none⟩))), .stay⟩,
  ⟨some 18, [(17, 1)], (.v v), .stay⟩,
  ⟨some 5, [(16, 0)], (.v (.int .i64 (i : Int))), .stay⟩,
  ⟨some 6, [(18, 2)], (.v v), .stay⟩]
def F81f_4b (q : Option Addr) (gg n cap i m : Nat) (v : Value) (C C2 : List Value)  : List RG.Bl := [⟨C, C, none, none⟩]
def F81f_4o (q : Option Addr) (gg n cap i m : Nat) (v : Value) (C C2 : List Value)  : List (Tmp × RG.SV) := [(14, (.v (.int .i64 (i : Int)))), (12, (.v (.slice (some ⟨gg, 0, none⟩) n cap)))]
def F81f_5i (q : Option Addr) (gg n cap i m : Nat) (v : Value) (C C2 : List Value)  : List RG.It := [⟨some 20, [], (.v gv1), .call⟩,
  ⟨some 21, [], (.v v), .stay⟩,
  ⟨some 22, [(20, 0), (21, 1)], (.v (.tuple #[(nv 0), (.bool false)])), .call⟩,
  ⟨some 19, [(22, 2)], (.v (.tuple #[(nv 0), (.bool false)])), .stay⟩,
  ⟨some 23, [(19, 3)], (.v (nv 0)), .stay⟩,
  ⟨some 24, [(19, 3)], (.v (.bool false)), .stay⟩,
  ⟨some 7, [], (.p 1 0), .make 1⟩,
  ⟨none, [(7, 6), (23, 4)], (.v undef), .put 1⟩,
  ⟨some 8, [(24, 5)], (.v (.bool false)), .stay⟩]
def F81f_5b (q : Option Addr) (gg n cap i m : Nat) (v : Value) (C C2 : List Value)  : List RG.Bl := [⟨C, C, none, none⟩, ⟨[.int .u64 0, .int .u64 0, .int .u64 0, .int .u64 0], (wn 0), some 6, some 7⟩]
def F81f_5o (q : Option Addr) (gg n cap i m : Nat) (v : Value) (C C2 : List Value)  : List (Tmp × RG.SV) := [(6, (.v v))]
def F81f_6i (q : Option Addr) (gg n cap i m : Nat) (v : Value) (C C2 : List Value)  : List RG.It := [⟨some 25, [], (.v (.bool false)), .stay⟩,
  ⟨some 26, [(25, 0)], (.v (.bool true)), .stay⟩]
def F81f_6b (q : Option Addr) (gg n cap i m : Nat) (v : Value) (C C2 : List Value)  : List RG.Bl := [⟨C, C, none, none⟩, ⟨(wn 0), (wn 0), none, none⟩]
def F81f_6o (q : Option Addr) (gg n cap i m : Nat) (v : Value) (C C2 : List Value)  : List (Tmp × RG.SV) := [(8, (.v (.bool false)))]
def F81f_7i (q : Option Addr) (gg n cap i m : Nat) (v : Value) (C C2 : List Value)  : List RG.It := [⟨some 2, [], (.v (.slice none 0 0)), .stay⟩,
  ⟨some 3, [], (.v (.int .i64 3)), .stay⟩]
def F81f_7b (q : Option Addr) (gg n cap i m : Nat) (v : Value) (C C2 : List Value)  : List RG.Bl := [⟨C, C, none, none⟩, ⟨(wn 0), (wn 0), none, none⟩]
def F81f_7o (q : Option Addr) (gg n cap i m : Nat) (v : Value) (C C2 : List Value)  : List (Tmp × RG.SV) := []
def F81e_3i (q : Option Addr) (gg n cap i m : Nat) (v : Value) (C C2 : List Value)  : List RG.It := [⟨some 15, [], (.v (.bool false)), .stay⟩]
def F81e_3b (q : Option Addr) (gg n cap i m : Nat) (v : Value) (C C2 : List Value)  : List RG.Bl := [⟨C, C, none, none⟩]
def F81e_3o (q : Option Addr) (gg n cap i m : Nat) (v : Value) (C C2 : List Value)  : List (Tmp × RG.SV) := [(14, (.v (.int .i64 (i : Int)))), (13, (.v (.int .i64 (n : Int))))]
def F81e_10i (q : Option Addr) (gg n cap i m : Nat) (v : Value) (C C2 : List Value)  : List RG.It := [⟨some 32, [], (.s 0 n n), .stay⟩,
  ⟨some 2, [(32, 0)], (.s 0 n n), .stay⟩,
  ⟨some 3, [], (.v (.int .i64 0)), .stay⟩]
def F81e_10b (q : Option Addr) (gg n cap i m : Nat) (v : Value) (C C2 : List Value)  : List RG.Bl := [⟨C, C, none, none⟩]
def F81e_10o (q : Option Addr) (gg n cap i m : Nat) (v : Value) (C C2 : List Value)  : List (Tmp × RG.SV) := [(4, (.s 0 n n))]

/-- A list of arguments in a block. -/
def ArgsScs (w : World) (q : Option Addr) (n : Nat) (L : Nat → Bs) : Prop := 0 < n → ∃ gg, q = some ⟨gg, 0, none⟩ ∧ gg < w.heap.size ∧ ∀ j, j < n → ∃ v, w.cell? ⟨gg, j, none⟩ = some v ∧ Arg w v (L j)
def ScsR (N : Nat) (w : World) (n : Nat) (L : Nat → Bs) (e : Value) (w' : World) : Prop :=
  (∃ k, w.heap.size ≤ k ∧ k < w'.heap.size ∧ e = .tuple #[.slice (some ⟨k, 0, none⟩) n n, .int .i64 0] ∧ ∀ j, j < n → ∃ p, rq N (L j) = some p ∧ w'.rangeAt k (4 * j) (wn p)) ∨
  ((∃ j, j < n ∧ rq N (L j) = none) ∧ e = .tuple #[.slice none 0 0, .int .i64 3])

set_option maxHeartbeats 4000000 in
set_option maxRecDepth 100000 in
theorem Scs_c {N : Nat} (hG : Gap 4624529908474429119 4994812053365940164 1 N) (n cap : Nat) (hn : n ≤ 512) (q : Option Addr) (L : Nat → Bs) (w : World) (hA : ArgsScs w q n L) : Calls Try.prog 81 #[.slice q n cap] w (Ret fun e w' => Below w.heap.size w w' ∧ ScsR N w n L e w') := by
  obtain ⟨C, hCl, hmk⟩ := mk82 n hn
  obtain ⟨i, -⟩ : ∃ i : Nat, i = 0 := ⟨_, rfl⟩
  obtain ⟨gg, -⟩ : ∃ i : Nat, i = 0 := ⟨_, rfl⟩
  obtain ⟨m, -⟩ : ∃ i : Nat, i = 0 := ⟨_, rfl⟩
  obtain ⟨v, -⟩ : ∃ v : Value, v = .bool true := ⟨_, rfl⟩
  obtain ⟨C2, -⟩ : ∃ c : List Value, c = C := ⟨_, rfl⟩
  go_enter Try.func81, Try.ntmps81
  refine RG.var1 (v0 := .slice q n cap) (n := 33) (by kernel_rfl) (by kernel_rfl) (by kernel_rfl) ?_
  intro a0 sl0 f0
  have hS0 := RG.St.begin w
  repeat refine wp_seq ?_
  refine RG.region_text' (its := F81a_0i q gg n cap i m v C C2) (bl := F81a_0b q gg n cap i m v C C2) (olds := F81a_0o q gg n cap i m v C C2) hS0 (RG.Reg.mk' (by rw [sl0.size]; kernel_rfl) trivial ⟨?_, ?_, trivial⟩) (by kernel_rfl) (by kernel_rfl) ⟨RG.endB1_st (by kernel_rfl), fun _ h => absurd h List.not_mem_nil⟩ ?_
  · exact RG.cert_stay rfl (fun μ a w _ _ => by kernel_rfl)
  · exact RG.cert_stay rfl (fun μ a w _ _ => by kernel_rfl)
  intro new1 w1 hl1 hS1
  obtain rfl := RG.len0 hl1
  replace hS1 : RG.St w w.heap.size [] [] [] w1 := hS1
  have sl1 : RG.Sl (RG.puts (RG.ad ([] ++ [])) (F81a_0i q gg n cap i m v C C2) a0) 33 := sl0.puts
  have f0_1 := RG.put_old (μ := RG.ad ([] ++ [])) (its := (F81a_0i q gg n cap i m v C C2)) f0 (by kernel_rfl)
  have f2_1 : (RG.puts (RG.ad ([] ++ [])) (F81a_0i q gg n cap i m v C C2) a0).tmps[2]? = some (.slice none 0 0) := by have h := RG.put_new (μ := RG.ad ([] ++ [])) (its := (F81a_0i q gg n cap i m v C C2)) sl0 0 (by kernel_rfl) rfl rfl rfl; exact h
  have f3_1 : (RG.puts (RG.ad ([] ++ [])) (F81a_0i q gg n cap i m v C C2) a0).tmps[3]? = some (.int .i64 0) := by have h := RG.put_new (μ := RG.ad ([] ++ [])) (its := (F81a_0i q gg n cap i m v C C2)) sl0 1 (by kernel_rfl) rfl rfl rfl; exact h
  generalize RG.puts (RG.ad ([] ++ [])) (F81a_0i q gg n cap i m v C C2) a0 = a1 at sl1 f0_1 f2_1 f3_1 ⊢
  repeat refine wp_seq ?_
  refine RG.region_text' (its := F81a_1i q gg n cap i m v C C2) (bl := F81a_1b q gg n cap i m v C C2) (olds := F81a_1o q gg n cap i m v C C2) hS1 (RG.Reg.mk' (by rw [sl1.size]; kernel_rfl) ⟨f0_1, trivial⟩ ⟨?_, ?_, ?_, ?_, trivial⟩) (by kernel_rfl) (by kernel_rfl) ⟨RG.endB1_st (by kernel_rfl), List.forall_mem_cons.2 ⟨rfl, fun _ h => absurd h List.not_mem_nil⟩⟩ ?_
  · exact RG.cert_move rfl 0 (Or.inl rfl) (fun μ a K => K.old 0 (.v (.slice q n cap)) (List.Mem.head _) (by kernel_rfl))
  · exact RG.cert_one rfl 9 (.v (.slice q n cap)) (.int .i64 (n : Int)) rfl (fun μ a K => by have h := K.op 9 0 (List.Mem.head _) rfl; exact h) (fun a w => by kernel_rfl) (fun μ w => by kernel_rfl)
  · exact RG.cert_makes 0 rfl _ rfl 82 85 10 10 n rfl rfl (fun μ a K => by have h := K.op 10 1 (List.Mem.head _) rfl; exact h) (fun μ a K => by have h := K.op 10 1 (List.Mem.head _) rfl; exact h) (hmk)
  · exact RG.cert_move rfl 11 (Or.inr rfl) (fun μ a K => by have h := K.op 11 2 (List.Mem.head _) rfl; exact h)
  intro new2 w2 hl2 hS2
  obtain ⟨j2, rfl⟩ := RG.len1 hl2
  clear hl2
  replace hS2 : RG.St w w.heap.size [] [C] [j2] w2 := hS2
  have sl2 : RG.Sl (RG.puts (RG.ad ([] ++ [j2])) (F81a_1i q gg n cap i m v C C2) a1) 33 := sl1.puts
  have f0_2 := RG.put_old (μ := RG.ad ([] ++ [j2])) (its := (F81a_1i q gg n cap i m v C C2)) f0_1 (by kernel_rfl)
  have f2_2 := RG.put_old (μ := RG.ad ([] ++ [j2])) (its := (F81a_1i q gg n cap i m v C C2)) f2_1 (by kernel_rfl)
  have f3_2 := RG.put_old (μ := RG.ad ([] ++ [j2])) (its := (F81a_1i q gg n cap i m v C C2)) f3_1 (by kernel_rfl)
  have f4_2 : (RG.puts (RG.ad ([] ++ [j2])) (F81a_1i q gg n cap i m v C C2) a1).tmps[4]? = some (.slice (some ⟨j2, 0, none⟩) n n) := by have h := RG.put_new (μ := RG.ad ([] ++ [j2])) (its := (F81a_1i q gg n cap i m v C C2)) sl1 3 (by kernel_rfl) rfl rfl rfl; exact h
  generalize RG.puts (RG.ad ([] ++ [j2])) (F81a_1i q gg n cap i m v C C2) a1 = a2 at sl2 f0_2 f2_2 f3_2 f4_2 ⊢
  repeat refine wp_seq ?_
  refine RG.region_text' (its := F81a_2i q gg n cap i m v C C2) (bl := F81a_2b q gg n cap i m v C C2) (olds := F81a_2o q gg n cap i m v C C2) hS2 (RG.Reg.mk' (by rw [sl2.size]; kernel_rfl) ⟨f0_2, trivial⟩ ⟨?_, ?_, ?_, trivial⟩) (by kernel_rfl) (by kernel_rfl) ⟨RG.endB1_st (by kernel_rfl), List.forall_mem_cons.2 ⟨rfl, fun _ h => absurd h List.not_mem_nil⟩⟩ ?_
  · exact RG.cert_move rfl 0 (Or.inl rfl) (fun μ a K => K.old 0 (.v (.slice q n cap)) (List.Mem.head _) (by kernel_rfl))
  · exact RG.cert_one rfl 12 (.v (.slice q n cap)) (.int .i64 (n : Int)) rfl (fun μ a K => by have h := K.op 12 0 (List.Mem.head _) rfl; exact h) (fun a w => by kernel_rfl) (fun μ w => by kernel_rfl)
  · exact RG.cert_stay rfl (fun μ a w _ _ => by kernel_rfl)
  intro new3 w3 hl3 hS3
  obtain rfl := RG.len0 hl3
  replace hS3 : RG.St w w.heap.size [] [C] [j2] w3 := hS3
  have sl3 : RG.Sl (RG.puts (RG.ad ([j2] ++ [])) (F81a_2i q gg n cap i m v C C2) a2) 33 := sl2.puts
  have f2_3 := RG.put_old (μ := RG.ad ([j2] ++ [])) (its := (F81a_2i q gg n cap i m v C C2)) f2_2 (by kernel_rfl)
  have f3_3 := RG.put_old (μ := RG.ad ([j2] ++ [])) (its := (F81a_2i q gg n cap i m v C C2)) f3_2 (by kernel_rfl)
  have f4_3 := RG.put_old (μ := RG.ad ([j2] ++ [])) (its := (F81a_2i q gg n cap i m v C C2)) f4_2 (by kernel_rfl)
  have f12_3 : (RG.puts (RG.ad ([j2] ++ [])) (F81a_2i q gg n cap i m v C C2) a2).tmps[12]? = some (.slice q n cap) := by have h := RG.put_new (μ := RG.ad ([j2] ++ [])) (its := (F81a_2i q gg n cap i m v C C2)) sl2 0 (by kernel_rfl) rfl rfl rfl; exact h
  have f13_3 : (RG.puts (RG.ad ([j2] ++ [])) (F81a_2i q gg n cap i m v C C2) a2).tmps[13]? = some (.int .i64 (n : Int)) := by have h := RG.put_new (μ := RG.ad ([j2] ++ [])) (its := (F81a_2i q gg n cap i m v C C2)) sl2 1 (by kernel_rfl) rfl rfl rfl; exact h
  have f14_3 : (RG.puts (RG.ad ([j2] ++ [])) (F81a_2i q gg n cap i m v C C2) a2).tmps[14]? = some (.int .i64 0) := by have h := RG.put_new (μ := RG.ad ([j2] ++ [])) (its := (F81a_2i q gg n cap i m v C C2)) sl2 2 (by kernel_rfl) rfl rfl rfl; exact h
  generalize RG.puts (RG.ad ([j2] ++ [])) (F81a_2i q gg n cap i m v C C2) a2 = a3 at sl3 f2_3 f3_3 f4_3 f12_3 f13_3 f14_3 ⊢
  repeat refine wp_seq ?_
  refine wp_block ?_
  refine wp_loop_ghost (fun m a wr => ∃ (i : Nat) (C : List Value), i + m = n ∧ (∀ j, j < i → (rq N (L j)).isSome = true) ∧ Rows 4 n (fun j => match rq N (L j) with | some k => wn k | none => []) i C ∧ RG.Sl a 33 ∧ a.tmps[4]? = some (.slice (some ⟨j2, 0, none⟩) n n) ∧ a.tmps[12]? = some (.slice q n cap) ∧ a.tmps[13]? = some (.int .i64 (n : Int)) ∧ a.tmps[14]? = some (.int .i64 (i : Int)) ∧ RG.St w w.heap.size [] [C] [j2] wr) n ⟨0, C, by omega, fun j hj => by omega, ⟨hCl, fun j r hj => by omega⟩, sl3, f4_3, f12_3, f13_3, f14_3, hS3⟩ ?_
  intro m' a wr
  rintro ⟨i, C, him, hall, hR, sl, p4, p12, p13, p14, hSp⟩
  generalize j2 = kt at p4 hSp
  by_cases hi : i < n
  · obtain ⟨gg, hqe, hgg, hc⟩ := hA (by omega)
    rw [hqe] at p12
    obtain ⟨v, hv, harg⟩ := hc i hi
    have hcell : w.cell? ⟨gg, 0 + i, none⟩ = some v := by rw [Nat.zero_add]; exact hv
    cases hrdv : rq N (L i) with
    | some pp =>
      obtain ⟨m, rfl⟩ : ∃ m, m = pp := ⟨_, rfl⟩
      have hrd : ∀ w', RG.BelX w.heap.size [] w w' → Calls Try.prog 89 #[gv1, v] w' (Ret fun e w'' => Below w'.heap.size w' w'' ∧ e = .tuple #[nv m, .bool true]) := fun w' hb => by
        have := readQ_c hG v (L i) w' (harg.below hb.below)
        rw [hrdv] at this
        exact this
      have hlen := hR.len
      have hoff : 0 + 4 * i + (wn m).length ≤ C.length := by rw [hlen]; show 0 + 4 * i + 4 ≤ 4 * n; omega
      obtain ⟨C2, hC2e⟩ : ∃ c, RG.rep C (0 + 4 * i) (wn m) = c := ⟨_, rfl⟩
      have hC2 := hC2e ▸ RG.rep_at hoff
      have hcl : C2.length = C.length := hC2e ▸ RG.rep_length hoff
      have hR2 : Rows 4 n (fun j => match rq N (L j) with | some k => wn k | none => []) (i + 1) C2 := by
        have := hR.next hi (by show List.length (match rq N (L i) with | some p => _ | none => _) = _; rw [hrdv]; rfl)
        rw [← hC2e]
        have e : (fun j => match rq N (L j) with | some k => wn k | none => []) i = (wn m) := by show (match rq N (L i) with | some p => _ | none => _) = _; rw [hrdv]
        rw [← e]
        exact this
      repeat refine wp_seq ?_
      refine RG.region_text' (its := F81b_3i q gg n cap i m v C C2) (bl := F81b_3b q gg n cap i m v C C2) (olds := F81b_3o q gg n cap i m v C C2) hSp (RG.Reg.mk' (by rw [sl.size]; kernel_rfl) ⟨p14, p13, trivial⟩ ⟨?_, trivial⟩) (by kernel_rfl) (by kernel_rfl) ⟨RG.endB1_st (by kernel_rfl), List.forall_mem_cons.2 ⟨rfl, fun _ h => absurd h List.not_mem_nil⟩⟩ ?_
      · exact RG.cert_bin rfl .lss 3 3 14 13 (.int .i64 (i : Int)) (.int .i64 (n : Int)) (.bool true) rfl rfl (fun μ a K => K.old 14 (.v (.int .i64 (i : Int))) (List.Mem.head _) (by kernel_rfl)) (fun μ a K => K.old 13 (.v (.int .i64 (n : Int))) (List.Mem.tail _ (List.Mem.head _)) (by kernel_rfl)) (fun w => by kernel_rfl) (lssn_t hi)
      intro new11 w11 hl11 hS11
      obtain rfl := RG.len0 hl11
      replace hS11 : RG.St w w.heap.size [] [C] [kt] w11 := hS11
      have sl11 : RG.Sl (RG.puts (RG.ad ([kt] ++ [])) (F81b_3i q gg n cap i m v C C2) a) 33 := sl.puts
      have f4_11 := RG.put_old (μ := RG.ad ([kt] ++ [])) (its := (F81b_3i q gg n cap i m v C C2)) p4 (by kernel_rfl)
      have f12_11 := RG.put_old (μ := RG.ad ([kt] ++ [])) (its := (F81b_3i q gg n cap i m v C C2)) p12 (by kernel_rfl)
      have f13_11 := RG.put_old (μ := RG.ad ([kt] ++ [])) (its := (F81b_3i q gg n cap i m v C C2)) p13 (by kernel_rfl)
      have f14_11 := RG.put_old (μ := RG.ad ([kt] ++ [])) (its := (F81b_3i q gg n cap i m v C C2)) p14 (by kernel_rfl)
      have f15_11 : (RG.puts (RG.ad ([kt] ++ [])) (F81b_3i q gg n cap i m v C C2) a).tmps[15]? = some (.bool true) := by have h := RG.put_new (μ := RG.ad ([kt] ++ [])) (its := (F81b_3i q gg n cap i m v C C2)) sl 0 (by kernel_rfl) rfl rfl rfl; exact h
      generalize RG.puts (RG.ad ([kt] ++ [])) (F81b_3i q gg n cap i m v C C2) a = a11 at sl11 f4_11 f12_11 f13_11 f14_11 f15_11 ⊢
      repeat refine wp_seq ?_
      refine wp_cond_true (RG.eval_of f15_11) ?_
      refine wp_skip ?_
      refine wp_seq ?_
      refine wp_block ?_
      repeat refine wp_seq ?_
      refine RG.region_text' (its := F81b_4i q gg n cap i m v C C2) (bl := F81b_4b q gg n cap i m v C C2) (olds := F81b_4o q gg n cap i m v C C2) hS11 (RG.Reg.mk' (by rw [sl11.size]; kernel_rfl) ⟨f14_11, f12_11, trivial⟩ ⟨?_, ?_, ?_, ?_, ?_, trivial⟩) (by kernel_rfl) (by kernel_rfl) ⟨RG.endB1_st (by kernel_rfl), List.forall_mem_cons.2 ⟨rfl, fun _ h => absurd h List.not_mem_nil⟩⟩ ?_
      · exact RG.cert_move rfl 14 (Or.inl rfl) (fun μ a K => K.old 14 (.v (.int .i64 (i : Int))) (List.Mem.head _) (by kernel_rfl))
      · exact RG.cert_idx rfl 46 12 14 rfl (.v (.slice (some ⟨gg, 0, none⟩) n cap)) (.int .i64 (i : Int)) (fun μ a K => K.old 12 (.v (.slice (some ⟨gg, 0, none⟩) n cap)) (List.Mem.tail _ (List.Mem.head _)) (by kernel_rfl)) (fun μ a K => K.old 14 (.v (.int .i64 (i : Int))) (List.Mem.head _) (by kernel_rfl)) (fun μ w => at46 _ 0 _ _ i hi w)
      · exact RG.cert_load1B rfl gg (0 + i) hgg List.not_mem_nil 23 17 rfl v rfl (fun μ a K => by have h := K.op 17 1 (List.Mem.head _) rfl; exact h) hcell u23
      · exact RG.cert_move rfl 16 (Or.inr rfl) (fun μ a K => by have h := K.op 16 0 (List.Mem.head _) rfl; exact h)
      · exact RG.cert_move rfl 18 (Or.inr rfl) (fun μ a K => by have h := K.op 18 2 (List.Mem.head _) rfl; exact h)
      intro new12 w12 hl12 hS12
      obtain rfl := RG.len0 hl12
      replace hS12 : RG.St w w.heap.size [] [C] [kt] w12 := hS12
      have sl12 : RG.Sl (RG.puts (RG.ad ([kt] ++ [])) (F81b_4i q gg n cap i m v C C2) a11) 33 := sl11.puts
      have f4_12 := RG.put_old (μ := RG.ad ([kt] ++ [])) (its := (F81b_4i q gg n cap i m v C C2)) f4_11 (by kernel_rfl)
      have f5_12 : (RG.puts (RG.ad ([kt] ++ [])) (F81b_4i q gg n cap i m v C C2) a11).tmps[5]? = some (.int .i64 (i : Int)) := by have h := RG.put_new (μ := RG.ad ([kt] ++ [])) (its := (F81b_4i q gg n cap i m v C C2)) sl11 3 (by kernel_rfl) rfl rfl rfl; exact h
      have f6_12 : (RG.puts (RG.ad ([kt] ++ [])) (F81b_4i q gg n cap i m v C C2) a11).tmps[6]? = some v := by have h := RG.put_new (μ := RG.ad ([kt] ++ [])) (its := (F81b_4i q gg n cap i m v C C2)) sl11 4 (by kernel_rfl) rfl rfl rfl; exact h
      have f12_12 := RG.put_old (μ := RG.ad ([kt] ++ [])) (its := (F81b_4i q gg n cap i m v C C2)) f12_11 (by kernel_rfl)
      have f13_12 := RG.put_old (μ := RG.ad ([kt] ++ [])) (its := (F81b_4i q gg n cap i m v C C2)) f13_11 (by kernel_rfl)
      have f14_12 := RG.put_old (μ := RG.ad ([kt] ++ [])) (its := (F81b_4i q gg n cap i m v C C2)) f14_11 (by kernel_rfl)
      generalize RG.puts (RG.ad ([kt] ++ [])) (F81b_4i q gg n cap i m v C C2) a11 = a12 at sl12 f4_12 f5_12 f6_12 f12_12 f13_12 f14_12 ⊢
      repeat refine wp_seq ?_
      refine RG.region_text' (its := F81b_5i q gg n cap i m v C C2) (bl := F81b_5b q gg n cap i m v C C2) (olds := F81b_5o q gg n cap i m v C C2) hS12 (RG.Reg.mk' (by rw [sl12.size]; kernel_rfl) ⟨f6_12, trivial⟩ ⟨?_, ?_, ?_, ?_, ?_, ?_, ?_, ?_, ?_, trivial⟩) (by kernel_rfl) (by kernel_rfl) ⟨RG.endB1_st (by kernel_rfl), List.forall_mem_cons.2 ⟨rfl, List.forall_mem_cons.2 ⟨rfl, fun _ h => absurd h List.not_mem_nil⟩⟩⟩ ?_
      · exact RG.cert_call0 rfl 88 gv1 rfl (fun a w => by kernel_rfl) (Scalars_c)
      · exact RG.cert_move rfl 6 (Or.inl rfl) (fun μ a K => K.old 6 (.v v) (List.Mem.head _) (by kernel_rfl))
      · exact RG.cert_callB2 rfl 89 20 21 gv1 v (.tuple #[(nv m), (.bool true)]) rfl (fun a w => by kernel_rfl) (fun μ a K => by have h := K.op 20 0 (List.Mem.head _) rfl; exact h) (fun μ a K => by have h := K.op 21 1 (List.Mem.tail _ (List.Mem.head _)) rfl; exact h) hrd
      · exact RG.cert_move rfl 22 (Or.inl rfl) (fun μ a K => by have h := K.op 22 2 (List.Mem.head _) rfl; exact h)
      · exact RG.cert_extract rfl 19 0 #[(nv m), (.bool true)] (nv m) rfl rfl rfl (fun μ a K => by have h := K.op 19 3 (List.Mem.head _) rfl; exact h)
      · exact RG.cert_extract rfl 19 1 #[(nv m), (.bool true)] (.bool true) rfl rfl rfl (fun μ a K => by have h := K.op 19 3 (List.Mem.head _) rfl; exact h)
      · exact RG.cert_alloc 1 rfl rfl _ rfl 85 rfl (fun w => by kernel_rfl)
      · exact RG.cert_put 1 rfl _ rfl 85 (.tmp 7) (.tmp 23) rfl rfl rfl (fun μ a K => by have h := K.op 7 6 (List.Mem.head _) rfl; exact h) (fun μ a K => by have h := K.op 23 4 (List.Mem.tail _ (List.Mem.head _)) rfl; exact h) i85 rfl
      · exact RG.cert_move rfl 24 (Or.inr rfl) (fun μ a K => by have h := K.op 24 5 (List.Mem.head _) rfl; exact h)
      intro new13 w13 hl13 hS13
      obtain ⟨j13, rfl⟩ := RG.len1 hl13
      clear hl13
      replace hS13 : RG.St w w.heap.size [] [C, (wn m)] [kt, j13] w13 := hS13
      have sl13 : RG.Sl (RG.puts (RG.ad ([kt] ++ [j13])) (F81b_5i q gg n cap i m v C C2) a12) 33 := sl12.puts
      have f4_13 := RG.put_old (μ := RG.ad ([kt] ++ [j13])) (its := (F81b_5i q gg n cap i m v C C2)) f4_12 (by kernel_rfl)
      have f5_13 := RG.put_old (μ := RG.ad ([kt] ++ [j13])) (its := (F81b_5i q gg n cap i m v C C2)) f5_12 (by kernel_rfl)
      have f7_13 : (RG.puts (RG.ad ([kt] ++ [j13])) (F81b_5i q gg n cap i m v C C2) a12).tmps[7]? = some (.pointer (some ⟨j13, 0, none⟩)) := by have h := RG.put_new (μ := RG.ad ([kt] ++ [j13])) (its := (F81b_5i q gg n cap i m v C C2)) sl12 6 (by kernel_rfl) rfl rfl rfl; exact h
      have f8_13 : (RG.puts (RG.ad ([kt] ++ [j13])) (F81b_5i q gg n cap i m v C C2) a12).tmps[8]? = some (.bool true) := by have h := RG.put_new (μ := RG.ad ([kt] ++ [j13])) (its := (F81b_5i q gg n cap i m v C C2)) sl12 8 (by kernel_rfl) rfl rfl rfl; exact h
      have f12_13 := RG.put_old (μ := RG.ad ([kt] ++ [j13])) (its := (F81b_5i q gg n cap i m v C C2)) f12_12 (by kernel_rfl)
      have f13_13 := RG.put_old (μ := RG.ad ([kt] ++ [j13])) (its := (F81b_5i q gg n cap i m v C C2)) f13_12 (by kernel_rfl)
      have f14_13 := RG.put_old (μ := RG.ad ([kt] ++ [j13])) (its := (F81b_5i q gg n cap i m v C C2)) f14_12 (by kernel_rfl)
      generalize RG.puts (RG.ad ([kt] ++ [j13])) (F81b_5i q gg n cap i m v C C2) a12 = a13 at sl13 f4_13 f5_13 f7_13 f8_13 f12_13 f13_13 f14_13 ⊢
      repeat refine wp_seq ?_
      refine RG.region_text' (its := F81b_6i q gg n cap i m v C C2) (bl := F81b_6b q gg n cap i m v C C2) (olds := F81b_6o q gg n cap i m v C C2) hS13 (RG.Reg.mk' (by rw [sl13.size]; kernel_rfl) ⟨f8_13, trivial⟩ ⟨?_, ?_, trivial⟩) (by kernel_rfl) (by kernel_rfl) ⟨RG.endB1_st (by kernel_rfl), List.forall_mem_cons.2 ⟨rfl, List.forall_mem_cons.2 ⟨rfl, fun _ h => absurd h List.not_mem_nil⟩⟩⟩ ?_
      · exact RG.cert_move rfl 8 (Or.inl rfl) (fun μ a K => K.old 8 (.v (.bool true)) (List.Mem.head _) (by kernel_rfl))
      · exact RG.cert_not rfl 4 25 true rfl rfl (fun μ a K => by have h := K.op 25 0 (List.Mem.head _) rfl; exact h)
      intro new14 w14 hl14 hS14
      obtain rfl := RG.len0 hl14
      replace hS14 : RG.St w w.heap.size [] [C, (wn m)] [kt, j13] w14 := hS14
      have sl14 : RG.Sl (RG.puts (RG.ad ([kt, j13] ++ [])) (F81b_6i q gg n cap i m v C C2) a13) 33 := sl13.puts
      have f4_14 := RG.put_old (μ := RG.ad ([kt, j13] ++ [])) (its := (F81b_6i q gg n cap i m v C C2)) f4_13 (by kernel_rfl)
      have f5_14 := RG.put_old (μ := RG.ad ([kt, j13] ++ [])) (its := (F81b_6i q gg n cap i m v C C2)) f5_13 (by kernel_rfl)
      have f7_14 := RG.put_old (μ := RG.ad ([kt, j13] ++ [])) (its := (F81b_6i q gg n cap i m v C C2)) f7_13 (by kernel_rfl)
      have f12_14 := RG.put_old (μ := RG.ad ([kt, j13] ++ [])) (its := (F81b_6i q gg n cap i m v C C2)) f12_13 (by kernel_rfl)
      have f13_14 := RG.put_old (μ := RG.ad ([kt, j13] ++ [])) (its := (F81b_6i q gg n cap i m v C C2)) f13_13 (by kernel_rfl)
      have f14_14 := RG.put_old (μ := RG.ad ([kt, j13] ++ [])) (its := (F81b_6i q gg n cap i m v C C2)) f14_13 (by kernel_rfl)
      have f26_14 : (RG.puts (RG.ad ([kt, j13] ++ [])) (F81b_6i q gg n cap i m v C C2) a13).tmps[26]? = some (.bool false) := by have h := RG.put_new (μ := RG.ad ([kt, j13] ++ [])) (its := (F81b_6i q gg n cap i m v C C2)) sl13 1 (by kernel_rfl) rfl rfl rfl; exact h
      generalize RG.puts (RG.ad ([kt, j13] ++ [])) (F81b_6i q gg n cap i m v C C2) a13 = a14 at sl14 f4_14 f5_14 f7_14 f12_14 f13_14 f14_14 f26_14 ⊢
      repeat refine wp_seq ?_
      refine wp_cond_false (RG.eval_of f26_14) ?_
      refine wp_skip ?_
      repeat refine wp_seq ?_
      refine RG.region_text' (its := F81b_8i q gg n cap i m v C C2) (bl := F81b_8b q gg n cap i m v C C2) (olds := F81b_8o q gg n cap i m v C C2) hS14 (RG.Reg.mk' (by rw [sl14.size]; kernel_rfl) ⟨f4_14, f5_14, f7_14, trivial⟩ ⟨?_, ?_, ?_, ?_, ?_, trivial⟩) (by kernel_rfl) (by kernel_rfl) ⟨RG.endB1_st (by kernel_rfl), List.forall_mem_cons.2 ⟨hcl, List.forall_mem_cons.2 ⟨rfl, fun _ h => absurd h List.not_mem_nil⟩⟩⟩ ?_
      · exact RG.cert_move rfl 4 (Or.inl rfl) (fun μ a K => K.old 4 (.s 0 n n) (List.Mem.head _) (by kernel_rfl))
      · exact RG.cert_move rfl 5 (Or.inl rfl) (fun μ a K => K.old 5 (.v (.int .i64 (i : Int))) (List.Mem.tail _ (List.Mem.head _)) (by kernel_rfl))
      · exact RG.cert_load rfl 1 0 _ rfl rfl (by kernel_rfl) 85 7 rfl (wn m) rfl (fun μ a K => K.old 7 (.p 1 0) (List.Mem.tail _ (List.Mem.tail _ (List.Mem.head _))) (by kernel_rfl)) (by kernel_rfl) u85 i85
      · exact RG.cert_idx rfl 82 27 28 rfl (.s 0 n n) (.int .i64 (i : Int)) (fun μ a K => by have h := K.op 27 0 (List.Mem.head _) rfl; exact h) (fun μ a K => by have h := K.op 28 1 (List.Mem.tail _ (List.Mem.head _)) rfl; exact h) (fun μ w => at82 _ 0 _ _ i hi w)
      · exact RG.cert_putAt 0 (0 + 4 * i) rfl _ rfl 85 (.tmp 30) (.tmp 29) (wn m) rfl rfl (fun μ a K => by have h := K.op 30 3 (List.Mem.head _) rfl; exact h) (fun μ a K => by have h := K.op 29 2 (List.Mem.tail _ (List.Mem.head _)) rfl; exact h) hoff hC2 i85 rfl
      intro new15 w15 hl15 hS15
      obtain rfl := RG.len0 hl15
      replace hS15 : RG.St w w.heap.size [] [C2, (wn m)] [kt, j13] w15 := hS15
      have sl15 : RG.Sl (RG.puts (RG.ad ([kt, j13] ++ [])) (F81b_8i q gg n cap i m v C C2) a14) 33 := sl14.puts
      have f4_15 := RG.put_old (μ := RG.ad ([kt, j13] ++ [])) (its := (F81b_8i q gg n cap i m v C C2)) f4_14 (by kernel_rfl)
      have f12_15 := RG.put_old (μ := RG.ad ([kt, j13] ++ [])) (its := (F81b_8i q gg n cap i m v C C2)) f12_14 (by kernel_rfl)
      have f13_15 := RG.put_old (μ := RG.ad ([kt, j13] ++ [])) (its := (F81b_8i q gg n cap i m v C C2)) f13_14 (by kernel_rfl)
      have f14_15 := RG.put_old (μ := RG.ad ([kt, j13] ++ [])) (its := (F81b_8i q gg n cap i m v C C2)) f14_14 (by kernel_rfl)
      generalize RG.puts (RG.ad ([kt, j13] ++ [])) (F81b_8i q gg n cap i m v C C2) a14 = a15 at sl15 f4_15 f12_15 f13_15 f14_15 ⊢
      repeat refine wp_seq ?_
      refine RG.region_text' (its := F81b_9i q gg n cap i m v C C2) (bl := F81b_9b q gg n cap i m v C C2) (olds := F81b_9o q gg n cap i m v C C2) hS15 (RG.Reg.mk' (by rw [sl15.size]; kernel_rfl) ⟨f14_15, trivial⟩ ⟨?_, ?_, trivial⟩) (by kernel_rfl) (by kernel_rfl) ⟨RG.endB1_st (by kernel_rfl), List.forall_mem_cons.2 ⟨rfl, List.forall_mem_cons.2 ⟨rfl, fun _ h => absurd h List.not_mem_nil⟩⟩⟩ ?_
      · exact RG.cert_binc rfl .add 3 3 14 (.int .i64 (i : Int)) (.int .i64 1) (.int .i64 ((i + 1 : Nat) : Int)) rfl rfl (fun μ a K => K.old 14 (.v (.int .i64 (i : Int))) (List.Mem.head _) (by kernel_rfl)) (fun w => by kernel_rfl) (addn i 1 (by omega) (by omega))
      · exact RG.cert_move rfl 31 (Or.inl rfl) (fun μ a K => by have h := K.op 31 0 (List.Mem.head _) rfl; exact h)
      intro new16 w16 hl16 hS16
      obtain rfl := RG.len0 hl16
      replace hS16 : RG.St w w.heap.size [] [C2, (wn m)] [kt, j13] w16 := hS16
      have sl16 : RG.Sl (RG.puts (RG.ad ([kt, j13] ++ [])) (F81b_9i q gg n cap i m v C C2) a15) 33 := sl15.puts
      have f4_16 := RG.put_old (μ := RG.ad ([kt, j13] ++ [])) (its := (F81b_9i q gg n cap i m v C C2)) f4_15 (by kernel_rfl)
      have f12_16 := RG.put_old (μ := RG.ad ([kt, j13] ++ [])) (its := (F81b_9i q gg n cap i m v C C2)) f12_15 (by kernel_rfl)
      have f13_16 := RG.put_old (μ := RG.ad ([kt, j13] ++ [])) (its := (F81b_9i q gg n cap i m v C C2)) f13_15 (by kernel_rfl)
      have f14_16 : (RG.puts (RG.ad ([kt, j13] ++ [])) (F81b_9i q gg n cap i m v C C2) a15).tmps[14]? = some (.int .i64 ((i + 1 : Nat) : Int)) := by have h := RG.put_new (μ := RG.ad ([kt, j13] ++ [])) (its := (F81b_9i q gg n cap i m v C C2)) sl15 1 (by kernel_rfl) rfl rfl rfl; exact h
      generalize RG.puts (RG.ad ([kt, j13] ++ [])) (F81b_9i q gg n cap i m v C C2) a15 = a16 at sl16 f4_16 f12_16 f13_16 f14_16 ⊢
      show ∃ n', _
      exact ⟨m' - 1, by omega, i + 1, C2, by omega, fun j hj => (by
        by_cases hji : j = i
        · rw [hji, hrdv]; rfl
        · exact hall j (by omega)), hR2, sl16, f4_16, (by rw [hqe]; exact f12_16), f13_16, f14_16, RG.St.init (cs := [C2]) (ks := [kt]) hS16⟩
    | none =>
      have hrd : ∀ w', RG.BelX w.heap.size [] w w' → Calls Try.prog 89 #[gv1, v] w' (Ret fun e w'' => Below w'.heap.size w' w'' ∧ e = .tuple #[nv 0, .bool false]) := fun w' hb => by
        have := readQ_c hG v (L i) w' (harg.below hb.below)
        rw [hrdv] at this
        exact this
      repeat refine wp_seq ?_
      refine RG.region_text' (its := F81f_3i q gg n cap i m v C C2) (bl := F81f_3b q gg n cap i m v C C2) (olds := F81f_3o q gg n cap i m v C C2) hSp (RG.Reg.mk' (by rw [sl.size]; kernel_rfl) ⟨p14, p13, trivial⟩ ⟨?_, trivial⟩) (by kernel_rfl) (by kernel_rfl) ⟨RG.endB1_st (by kernel_rfl), List.forall_mem_cons.2 ⟨rfl, fun _ h => absurd h List.not_mem_nil⟩⟩ ?_
      · exact RG.cert_bin rfl .lss 3 3 14 13 (.int .i64 (i : Int)) (.int .i64 (n : Int)) (.bool true) rfl rfl (fun μ a K => K.old 14 (.v (.int .i64 (i : Int))) (List.Mem.head _) (by kernel_rfl)) (fun μ a K => K.old 13 (.v (.int .i64 (n : Int))) (List.Mem.tail _ (List.Mem.head _)) (by kernel_rfl)) (fun w => by kernel_rfl) (lssn_t hi)
      intro new21 w21 hl21 hS21
      obtain rfl := RG.len0 hl21
      replace hS21 : RG.St w w.heap.size [] [C] [kt] w21 := hS21
      have sl21 : RG.Sl (RG.puts (RG.ad ([kt] ++ [])) (F81f_3i q gg n cap i m v C C2) a) 33 := sl.puts
      have f12_21 := RG.put_old (μ := RG.ad ([kt] ++ [])) (its := (F81f_3i q gg n cap i m v C C2)) p12 (by kernel_rfl)
      have f14_21 := RG.put_old (μ := RG.ad ([kt] ++ [])) (its := (F81f_3i q gg n cap i m v C C2)) p14 (by kernel_rfl)
      have f15_21 : (RG.puts (RG.ad ([kt] ++ [])) (F81f_3i q gg n cap i m v C C2) a).tmps[15]? = some (.bool true) := by have h := RG.put_new (μ := RG.ad ([kt] ++ [])) (its := (F81f_3i q gg n cap i m v C C2)) sl 0 (by kernel_rfl) rfl rfl rfl; exact h
      generalize RG.puts (RG.ad ([kt] ++ [])) (F81f_3i q gg n cap i m v C C2) a = a21 at sl21 f12_21 f14_21 f15_21 ⊢
      repeat refine wp_seq ?_
      refine wp_cond_true (RG.eval_of f15_21) ?_
      refine wp_skip ?_
      refine wp_seq ?_
      refine wp_block ?_
      repeat refine wp_seq ?_
      refine RG.region_text' (its := F81f_4i q gg n cap i m v C C2) (bl := F81f_4b q gg n cap i m v C C2) (olds := F81f_4o q gg n cap i m v C C2) hS21 (RG.Reg.mk' (by rw [sl21.size]; kernel_rfl) ⟨f14_21, f12_21, trivial⟩ ⟨?_, ?_, ?_, ?_, ?_, trivial⟩) (by kernel_rfl) (by kernel_rfl) ⟨RG.endB1_st (by kernel_rfl), List.forall_mem_cons.2 ⟨rfl, fun _ h => absurd h List.not_mem_nil⟩⟩ ?_
      · exact RG.cert_move rfl 14 (Or.inl rfl) (fun μ a K => K.old 14 (.v (.int .i64 (i : Int))) (List.Mem.head _) (by kernel_rfl))
      · exact RG.cert_idx rfl 46 12 14 rfl (.v (.slice (some ⟨gg, 0, none⟩) n cap)) (.int .i64 (i : Int)) (fun μ a K => K.old 12 (.v (.slice (some ⟨gg, 0, none⟩) n cap)) (List.Mem.tail _ (List.Mem.head _)) (by kernel_rfl)) (fun μ a K => K.old 14 (.v (.int .i64 (i : Int))) (List.Mem.head _) (by kernel_rfl)) (fun μ w => at46 _ 0 _ _ i hi w)
      · exact RG.cert_load1B rfl gg (0 + i) hgg List.not_mem_nil 23 17 rfl v rfl (fun μ a K => by have h := K.op 17 1 (List.Mem.head _) rfl; exact h) hcell u23
      · exact RG.cert_move rfl 16 (Or.inr rfl) (fun μ a K => by have h := K.op 16 0 (List.Mem.head _) rfl; exact h)
      · exact RG.cert_move rfl 18 (Or.inr rfl) (fun μ a K => by have h := K.op 18 2 (List.Mem.head _) rfl; exact h)
      intro new22 w22 hl22 hS22
      obtain rfl := RG.len0 hl22
      replace hS22 : RG.St w w.heap.size [] [C] [kt] w22 := hS22
      have sl22 : RG.Sl (RG.puts (RG.ad ([kt] ++ [])) (F81f_4i q gg n cap i m v C C2) a21) 33 := sl21.puts
      have f6_22 : (RG.puts (RG.ad ([kt] ++ [])) (F81f_4i q gg n cap i m v C C2) a21).tmps[6]? = some v := by have h := RG.put_new (μ := RG.ad ([kt] ++ [])) (its := (F81f_4i q gg n cap i m v C C2)) sl21 4 (by kernel_rfl) rfl rfl rfl; exact h
      generalize RG.puts (RG.ad ([kt] ++ [])) (F81f_4i q gg n cap i m v C C2) a21 = a22 at sl22 f6_22 ⊢
      repeat refine wp_seq ?_
      refine RG.region_text' (its := F81f_5i q gg n cap i m v C C2) (bl := F81f_5b q gg n cap i m v C C2) (olds := F81f_5o q gg n cap i m v C C2) hS22 (RG.Reg.mk' (by rw [sl22.size]; kernel_rfl) ⟨f6_22, trivial⟩ ⟨?_, ?_, ?_, ?_, ?_, ?_, ?_, ?_, ?_, trivial⟩) (by kernel_rfl) (by kernel_rfl) ⟨RG.endB1_st (by kernel_rfl), List.forall_mem_cons.2 ⟨rfl, List.forall_mem_cons.2 ⟨rfl, fun _ h => absurd h List.not_mem_nil⟩⟩⟩ ?_
      · exact RG.cert_call0 rfl 88 gv1 rfl (fun a w => by kernel_rfl) (Scalars_c)
      · exact RG.cert_move rfl 6 (Or.inl rfl) (fun μ a K => K.old 6 (.v v) (List.Mem.head _) (by kernel_rfl))
      · exact RG.cert_callB2 rfl 89 20 21 gv1 v (.tuple #[(nv 0), (.bool false)]) rfl (fun a w => by kernel_rfl) (fun μ a K => by have h := K.op 20 0 (List.Mem.head _) rfl; exact h) (fun μ a K => by have h := K.op 21 1 (List.Mem.tail _ (List.Mem.head _)) rfl; exact h) hrd
      · exact RG.cert_move rfl 22 (Or.inl rfl) (fun μ a K => by have h := K.op 22 2 (List.Mem.head _) rfl; exact h)
      · exact RG.cert_extract rfl 19 0 #[(nv 0), (.bool false)] (nv 0) rfl rfl rfl (fun μ a K => by have h := K.op 19 3 (List.Mem.head _) rfl; exact h)
      · exact RG.cert_extract rfl 19 1 #[(nv 0), (.bool false)] (.bool false) rfl rfl rfl (fun μ a K => by have h := K.op 19 3 (List.Mem.head _) rfl; exact h)
      · exact RG.cert_alloc 1 rfl rfl _ rfl 85 rfl (fun w => by kernel_rfl)
      · exact RG.cert_put 1 rfl _ rfl 85 (.tmp 7) (.tmp 23) rfl rfl rfl (fun μ a K => by have h := K.op 7 6 (List.Mem.head _) rfl; exact h) (fun μ a K => by have h := K.op 23 4 (List.Mem.tail _ (List.Mem.head _)) rfl; exact h) i85 rfl
      · exact RG.cert_move rfl 24 (Or.inr rfl) (fun μ a K => by have h := K.op 24 5 (List.Mem.head _) rfl; exact h)
      intro new23 w23 hl23 hS23
      obtain ⟨j23, rfl⟩ := RG.len1 hl23
      clear hl23
      replace hS23 : RG.St w w.heap.size [] [C, (wn 0)] [kt, j23] w23 := hS23
      have sl23 : RG.Sl (RG.puts (RG.ad ([kt] ++ [j23])) (F81f_5i q gg n cap i m v C C2) a22) 33 := sl22.puts
      have f8_23 : (RG.puts (RG.ad ([kt] ++ [j23])) (F81f_5i q gg n cap i m v C C2) a22).tmps[8]? = some (.bool false) := by have h := RG.put_new (μ := RG.ad ([kt] ++ [j23])) (its := (F81f_5i q gg n cap i m v C C2)) sl22 8 (by kernel_rfl) rfl rfl rfl; exact h
      generalize RG.puts (RG.ad ([kt] ++ [j23])) (F81f_5i q gg n cap i m v C C2) a22 = a23 at sl23 f8_23 ⊢
      repeat refine wp_seq ?_
      refine RG.region_text' (its := F81f_6i q gg n cap i m v C C2) (bl := F81f_6b q gg n cap i m v C C2) (olds := F81f_6o q gg n cap i m v C C2) hS23 (RG.Reg.mk' (by rw [sl23.size]; kernel_rfl) ⟨f8_23, trivial⟩ ⟨?_, ?_, trivial⟩) (by kernel_rfl) (by kernel_rfl) ⟨RG.endB1_st (by kernel_rfl), List.forall_mem_cons.2 ⟨rfl, List.forall_mem_cons.2 ⟨rfl, fun _ h => absurd h List.not_mem_nil⟩⟩⟩ ?_
      · exact RG.cert_move rfl 8 (Or.inl rfl) (fun μ a K => K.old 8 (.v (.bool false)) (List.Mem.head _) (by kernel_rfl))
      · exact RG.cert_not rfl 4 25 false rfl rfl (fun μ a K => by have h := K.op 25 0 (List.Mem.head _) rfl; exact h)
      intro new24 w24 hl24 hS24
      obtain rfl := RG.len0 hl24
      replace hS24 : RG.St w w.heap.size [] [C, (wn 0)] [kt, j23] w24 := hS24
      have sl24 : RG.Sl (RG.puts (RG.ad ([kt, j23] ++ [])) (F81f_6i q gg n cap i m v C C2) a23) 33 := sl23.puts
      have f26_24 : (RG.puts (RG.ad ([kt, j23] ++ [])) (F81f_6i q gg n cap i m v C C2) a23).tmps[26]? = some (.bool true) := by have h := RG.put_new (μ := RG.ad ([kt, j23] ++ [])) (its := (F81f_6i q gg n cap i m v C C2)) sl23 1 (by kernel_rfl) rfl rfl rfl; exact h
      generalize RG.puts (RG.ad ([kt, j23] ++ [])) (F81f_6i q gg n cap i m v C C2) a23 = a24 at sl24 f26_24 ⊢
      repeat refine wp_seq ?_
      refine wp_cond_true (RG.eval_of f26_24) ?_
      repeat refine wp_seq ?_
      refine RG.region_text' (its := F81f_7i q gg n cap i m v C C2) (bl := F81f_7b q gg n cap i m v C C2) (olds := F81f_7o q gg n cap i m v C C2) hS24 (RG.Reg.mk' (by rw [sl24.size]; kernel_rfl) trivial ⟨?_, ?_, trivial⟩) (by kernel_rfl) (by kernel_rfl) ⟨RG.endB1_st (by kernel_rfl), List.forall_mem_cons.2 ⟨rfl, List.forall_mem_cons.2 ⟨rfl, fun _ h => absurd h List.not_mem_nil⟩⟩⟩ ?_
      · exact RG.cert_stay rfl (fun μ a w _ _ => by kernel_rfl)
      · exact RG.cert_stay rfl (fun μ a w _ _ => by kernel_rfl)
      intro new25 w25 hl25 hS25
      obtain rfl := RG.len0 hl25
      replace hS25 : RG.St w w.heap.size [] [C, (wn 0)] [kt, j23] w25 := hS25
      have sl25 : RG.Sl (RG.puts (RG.ad ([kt, j23] ++ [])) (F81f_7i q gg n cap i m v C C2) a24) 33 := sl24.puts
      have f2_25 : (RG.puts (RG.ad ([kt, j23] ++ [])) (F81f_7i q gg n cap i m v C C2) a24).tmps[2]? = some (.slice none 0 0) := by have h := RG.put_new (μ := RG.ad ([kt, j23] ++ [])) (its := (F81f_7i q gg n cap i m v C C2)) sl24 0 (by kernel_rfl) rfl rfl rfl; exact h
      have f3_25 : (RG.puts (RG.ad ([kt, j23] ++ [])) (F81f_7i q gg n cap i m v C C2) a24).tmps[3]? = some (.int .i64 3) := by have h := RG.put_new (μ := RG.ad ([kt, j23] ++ [])) (its := (F81f_7i q gg n cap i m v C C2)) sl24 1 (by kernel_rfl) rfl rfl rfl; exact h
      generalize RG.puts (RG.ad ([kt, j23] ++ [])) (F81f_7i q gg n cap i m v C C2) a24 = a25 at sl25 f2_25 f3_25 ⊢
      refine wp_ret ?_
      refine bodyPost_ret (v := .tuple #[.slice none 0 0, .int .i64 3]) (RG.results_tt 2 3 rfl _ _ f2_25 f3_25) sl25.defers ?_
      exact ⟨_, rfl, hS25.bel.below, Or.inr ⟨⟨i, hi, hrdv⟩, rfl⟩⟩
  · have hiN : i = n := by omega
    repeat refine wp_seq ?_
    refine RG.region_text' (its := F81e_3i q gg n cap i m v C C2) (bl := F81e_3b q gg n cap i m v C C2) (olds := F81e_3o q gg n cap i m v C C2) hSp (RG.Reg.mk' (by rw [sl.size]; kernel_rfl) ⟨p14, p13, trivial⟩ ⟨?_, trivial⟩) (by kernel_rfl) (by kernel_rfl) ⟨RG.endB1_st (by kernel_rfl), List.forall_mem_cons.2 ⟨rfl, fun _ h => absurd h List.not_mem_nil⟩⟩ ?_
    · exact RG.cert_bin rfl .lss 3 3 14 13 (.int .i64 (i : Int)) (.int .i64 (n : Int)) (.bool false) rfl rfl (fun μ a K => K.old 14 (.v (.int .i64 (i : Int))) (List.Mem.head _) (by kernel_rfl)) (fun μ a K => K.old 13 (.v (.int .i64 (n : Int))) (List.Mem.tail _ (List.Mem.head _)) (by kernel_rfl)) (fun w => by kernel_rfl) (lssn_f hi)
    intro new31 w31 hl31 hS31
    obtain rfl := RG.len0 hl31
    replace hS31 : RG.St w w.heap.size [] [C] [kt] w31 := hS31
    have sl31 : RG.Sl (RG.puts (RG.ad ([kt] ++ [])) (F81e_3i q gg n cap i m v C C2) a) 33 := sl.puts
    have f4_31 := RG.put_old (μ := RG.ad ([kt] ++ [])) (its := (F81e_3i q gg n cap i m v C C2)) p4 (by kernel_rfl)
    have f15_31 : (RG.puts (RG.ad ([kt] ++ [])) (F81e_3i q gg n cap i m v C C2) a).tmps[15]? = some (.bool false) := by have h := RG.put_new (μ := RG.ad ([kt] ++ [])) (its := (F81e_3i q gg n cap i m v C C2)) sl 0 (by kernel_rfl) rfl rfl rfl; exact h
    generalize RG.puts (RG.ad ([kt] ++ [])) (F81e_3i q gg n cap i m v C C2) a = a31 at sl31 f4_31 f15_31 ⊢
    repeat refine wp_seq ?_
    refine wp_cond_false (RG.eval_of f15_31) ?_
    refine wp_exit ?_
    dsimp only [Exit.then, Exit.inBlock]
    rw [if_pos rfl]
    repeat refine wp_seq ?_
    refine RG.region_text' (its := F81e_10i q gg n cap i m v C C2) (bl := F81e_10b q gg n cap i m v C C2) (olds := F81e_10o q gg n cap i m v C C2) hS31 (RG.Reg.mk' (by rw [sl31.size]; kernel_rfl) ⟨f4_31, trivial⟩ ⟨?_, ?_, ?_, trivial⟩) (by kernel_rfl) (by kernel_rfl) ⟨RG.endB1_st (by kernel_rfl), List.forall_mem_cons.2 ⟨rfl, fun _ h => absurd h List.not_mem_nil⟩⟩ ?_
    · exact RG.cert_move rfl 4 (Or.inl rfl) (fun μ a K => K.old 4 (.s 0 n n) (List.Mem.head _) (by kernel_rfl))
    · exact RG.cert_move rfl 32 (Or.inr rfl) (fun μ a K => by have h := K.op 32 0 (List.Mem.head _) rfl; exact h)
    · exact RG.cert_stay rfl (fun μ a w _ _ => by kernel_rfl)
    intro new32 w32 hl32 hS32
    obtain rfl := RG.len0 hl32
    replace hS32 : RG.St w w.heap.size [] [C] [kt] w32 := hS32
    have sl32 : RG.Sl (RG.puts (RG.ad ([kt] ++ [])) (F81e_10i q gg n cap i m v C C2) a31) 33 := sl31.puts
    have f2_32 : (RG.puts (RG.ad ([kt] ++ [])) (F81e_10i q gg n cap i m v C C2) a31).tmps[2]? = some (.slice (some ⟨kt, 0, none⟩) n n) := by have h := RG.put_new (μ := RG.ad ([kt] ++ [])) (its := (F81e_10i q gg n cap i m v C C2)) sl31 1 (by kernel_rfl) rfl rfl rfl; exact h
    have f3_32 : (RG.puts (RG.ad ([kt] ++ [])) (F81e_10i q gg n cap i m v C C2) a31).tmps[3]? = some (.int .i64 0) := by have h := RG.put_new (μ := RG.ad ([kt] ++ [])) (its := (F81e_10i q gg n cap i m v C C2)) sl31 2 (by kernel_rfl) rfl rfl rfl; exact h
    generalize RG.puts (RG.ad ([kt] ++ [])) (F81e_10i q gg n cap i m v C C2) a31 = a32 at sl32 f2_32 f3_32 ⊢
    refine wp_ret ?_
    refine bodyPost_ret (v := .tuple #[.slice (some ⟨kt, 0, none⟩) n n, .int .i64 0]) (RG.results_tt 2 3 rfl _ _ f2_32 f3_32) sl32.defers ?_
    refine ⟨_, rfl, hS32.bel.below, Or.inl ⟨kt, ?_, ?_, rfl, fun j hj => ?_⟩⟩
    · exact (hS32.has 0 C rfl).2.2.2.elim id (fun h => absurd h List.not_mem_nil)
    · exact (hS32.has 0 C rfl).2.2.1
    · obtain ⟨pp, hpp⟩ := Option.isSome_iff_exists.1 (hall j (by omega))
      refine ⟨pp, hpp, RG.range_sub (hS32.has 0 C rfl).1 (fun r hr => ?_)⟩
      have h5 := hR.row j r (by omega) hr
      rw [h5]
      show (match rq N (L j) with | some p => _ | none => _)[r]? = _
      rw [hpp]
end Go.Proofs.Ytdeidgbknlmhjab
