import Derived.Test.YtdeidgbknlmhjabSM
import Derived.Deep.LoopGhost
set_option linter.unusedVariables false
set_option linter.unusedSimpArgs false
namespace Go.Proofs.Ytdeidgbknlmhjab
open Go.RowKit Go.Sort
variable {P : Nat} [NeZero P]

theorem al117 {P : Nat} [NeZero P] (w : World) : (Instr.alloc 117 true (.tuple #[])).run Try.prog w = .ok (.pointer (some ⟨w.heap.size, 0, none⟩)) (w.alloc (.cells (tw ((0, 0, 0) : T3 P)).toArray 117)) := by
  show _ = Result.ok _ (w.alloc (.cells (ws (0 : Fin P) ++ (ws (0 : Fin P) ++ ws (0 : Fin P))).toArray 117))
  rw [← ws_zero]
  kernel_rfl
theorem ne8_f (w : World) : (binOp .neq 137 (.int .i8 0) (.int .i8 0)).run Try.prog w = .ok (.bool false) w := by kernel_rfl
theorem ne8_t {d : Int} (h : ¬ d = 0) (w : World) : (binOp .neq 137 (.int .i8 d) (.int .i8 0)).run Try.prog w = .ok (.bool true) w := by
  go_simp
theorem sub1' (q : Nat) (hq : q < 1000) (w : World) : (binOp .sub 3 (.int .i64 (q : Int)) (.int .i64 1)).run Try.prog w = .ok (.int .i64 ((q : Int) - 1)) w := sub64i _ _ (by omega) (by omega) w
theorem geq0' (i : Nat) (w : World) : (binOp .geq 3 (.int .i64 (i : Int)) (.int .i64 0)).run Try.prog w = .ok (.bool true) w := by
  go_simp

def F82a_0i (N kn ka i q : Nat) (ns : Nat → Nat) (xs ys : Nat → Fin P) (d : Int) (C C2 : List Value) (s s2 s3 s4 : T3 P)  : List RG.It := [⟨some 4, [], (.p 0 0), .make 0⟩]
def F82a_0b (N kn ka i q : Nat) (ns : Nat → Nat) (xs ys : Nat → Fin P) (d : Int) (C C2 : List Value) (s s2 s3 s4 : T3 P)  : List RG.Bl := [⟨[.int .u64 0, .int .u64 0, .int .u64 0, .int .u64 0, .int .u64 0, .int .u64 0, .int .u64 0, .int .u64 0], [.int .u64 0, .int .u64 0, .int .u64 0, .int .u64 0, .int .u64 0, .int .u64 0, .int .u64 0, .int .u64 0], some 0, none⟩]
def F82a_0o (N kn ka i q : Nat) (ns : Nat → Nat) (xs ys : Nat → Fin P) (d : Int) (C C2 : List Value) (s s2 s3 s4 : T3 P)  : List (Tmp × RG.SV) := []
def F82a_1i (N kn ka i q : Nat) (ns : Nat → Nat) (xs ys : Nat → Fin P) (d : Int) (C C2 : List Value) (s s2 s3 s4 : T3 P)  : List RG.It := [⟨some 11, [], (.v (.slice (some ⟨kn, 0, none⟩) N N)), .stay⟩,
  ⟨some 12, [(11, 0)], (.v (.int .i64 (N : Int))), .stay⟩,
  ⟨some 13, [(12, 1)], (.s 1 N N), .make 1⟩,
  ⟨some 5, [(13, 2)], (.s 1 N N), .stay⟩]
def F82a_1b (N kn ka i q : Nat) (ns : Nat → Nat) (xs ys : Nat → Fin P) (d : Int) (C C2 : List Value) (s s2 s3 s4 : T3 P)  : List RG.Bl := [⟨[.int .u64 0, .int .u64 0, .int .u64 0, .int .u64 0, .int .u64 0, .int .u64 0, .int .u64 0, .int .u64 0], [.int .u64 0, .int .u64 0, .int .u64 0, .int .u64 0, .int .u64 0, .int .u64 0, .int .u64 0, .int .u64 0], none, none⟩, ⟨C, C, some 2, none⟩]
def F82a_1o (N kn ka i q : Nat) (ns : Nat → Nat) (xs ys : Nat → Fin P) (d : Int) (C C2 : List Value) (s s2 s3 s4 : T3 P)  : List (Tmp × RG.SV) := [(0, (.v (.slice (some ⟨kn, 0, none⟩) N N)))]
def F82a_2i (N kn ka i q : Nat) (ns : Nat → Nat) (xs ys : Nat → Fin P) (d : Int) (C C2 : List Value) (s s2 s3 s4 : T3 P)  : List RG.It := [⟨some 14, [], (.s 1 N N), .stay⟩,
  ⟨some 15, [(14, 0)], (.v (.int .i64 (N : Int))), .stay⟩,
  ⟨some 16, [], (.v (.int .i64 0)), .stay⟩]
def F82a_2b (N kn ka i q : Nat) (ns : Nat → Nat) (xs ys : Nat → Fin P) (d : Int) (C C2 : List Value) (s s2 s3 s4 : T3 P)  : List RG.Bl := [⟨[.int .u64 0, .int .u64 0, .int .u64 0, .int .u64 0, .int .u64 0, .int .u64 0, .int .u64 0, .int .u64 0], [.int .u64 0, .int .u64 0, .int .u64 0, .int .u64 0, .int .u64 0, .int .u64 0, .int .u64 0, .int .u64 0], none, none⟩, ⟨C, C, none, none⟩]
def F82a_2o (N kn ka i q : Nat) (ns : Nat → Nat) (xs ys : Nat → Fin P) (d : Int) (C C2 : List Value) (s s2 s3 s4 : T3 P)  : List (Tmp × RG.SV) := [(5, (.s 1 N N))]
def F82b_3i (N kn ka i q : Nat) (ns : Nat → Nat) (xs ys : Nat → Fin P) (d : Int) (C C2 : List Value) (s s2 s3 s4 : T3 P)  : List RG.It := [⟨some 17, [], (.v (.bool true)), .stay⟩]
def F82b_3b (N kn ka i q : Nat) (ns : Nat → Nat) (xs ys : Nat → Fin P) (d : Int) (C C2 : List Value) (s s2 s3 s4 : T3 P)  : List RG.Bl := [⟨[.int .u64 0, .int .u64 0, .int .u64 0, .int .u64 0, .int .u64 0, .int .u64 0, .int .u64 0, .int .u64 0], [.int .u64 0, .int .u64 0, .int .u64 0, .int .u64 0, .int .u64 0, .int .u64 0, .int .u64 0, .int .u64 0], none, none⟩, ⟨C, C, none, none⟩]
def F82b_3o (N kn ka i q : Nat) (ns : Nat → Nat) (xs ys : Nat → Fin P) (d : Int) (C C2 : List Value) (s s2 s3 s4 : T3 P)  : List (Tmp × RG.SV) := [(16, (.v (.int .i64 (i : Int)))), (15, (.v (.int .i64 (N : Int))))]
def F82b_4i (N kn ka i q : Nat) (ns : Nat → Nat) (xs ys : Nat → Fin P) (d : Int) (C C2 : List Value) (s s2 s3 s4 : T3 P)  : List RG.It := [⟨some 18, [], (.v (.int .i64 (i : Int))), .stay⟩,
  ⟨some 6, [(18, 0)], (.v (.int .i64 (i : Int))), .stay⟩]
def F82b_4b (N kn ka i q : Nat) (ns : Nat → Nat) (xs ys : Nat → Fin P) (d : Int) (C C2 : List Value) (s s2 s3 s4 : T3 P)  : List RG.Bl := [⟨[.int .u64 0, .int .u64 0, .int .u64 0, .int .u64 0, .int .u64 0, .int .u64 0, .int .u64 0, .int .u64 0], [.int .u64 0, .int .u64 0, .int .u64 0, .int .u64 0, .int .u64 0, .int .u64 0, .int .u64 0, .int .u64 0], none, none⟩, ⟨C, C, none, none⟩]
def F82b_4o (N kn ka i q : Nat) (ns : Nat → Nat) (xs ys : Nat → Fin P) (d : Int) (C C2 : List Value) (s s2 s3 s4 : T3 P)  : List (Tmp × RG.SV) := [(16, (.v (.int .i64 (i : Int))))]
def F82b_5i (N kn ka i q : Nat) (ns : Nat → Nat) (xs ys : Nat → Fin P) (d : Int) (C C2 : List Value) (s s2 s3 s4 : T3 P)  : List RG.It := [⟨some 19, [], (.s 1 N N), .stay⟩,
  ⟨some 20, [], (.v (.int .i64 (i : Int))), .stay⟩,
  ⟨some 21, [(19, 0), (20, 1)], (.p 1 (353 * i)), .stay⟩,
  ⟨some 22, [], (.v (.slice (some ⟨kn, 0, none⟩) N N)), .stay⟩,
  ⟨some 23, [], (.v (.int .i64 (i : Int))), .stay⟩,
  ⟨some 24, [(22, 3), (23, 4)], (.v (.pointer (some ⟨kn, (0 + 4 * i), none⟩))), .stay⟩,
  ⟨some 25, [(24, 5)], (.v (nv (ns i))), .stay⟩,
  ⟨some 26, [], (.v (.slice (some ⟨ka, 0, none⟩) N N)), .stay⟩,
  ⟨some 27, [], (.v (.int .i64 (i : Int))), .stay⟩,
  ⟨some 28, [(26, 7), (27, 8)], (.v (.pointer (some ⟨ka, (0 + 8 * i), none⟩))), .stay⟩,
  ⟨some 29, [(28, 9)], (.v (pv (xs i) (ys i))), .stay⟩,
  ⟨some 30, [(21, 2), (25, 6), (29, 10)], (.v (.tuple #[])), .put 1⟩]
def F82b_5b (N kn ka i q : Nat) (ns : Nat → Nat) (xs ys : Nat → Fin P) (d : Int) (C C2 : List Value) (s s2 s3 s4 : T3 P)  : List RG.Bl := [⟨[.int .u64 0, .int .u64 0, .int .u64 0, .int .u64 0, .int .u64 0, .int .u64 0, .int .u64 0, .int .u64 0], [.int .u64 0, .int .u64 0, .int .u64 0, .int .u64 0, .int .u64 0, .int .u64 0, .int .u64 0, .int .u64 0], none, none⟩, ⟨C, C2, none, some 11⟩]
def F82b_5o (N kn ka i q : Nat) (ns : Nat → Nat) (xs ys : Nat → Fin P) (d : Int) (C C2 : List Value) (s s2 s3 s4 : T3 P)  : List (Tmp × RG.SV) := [(5, (.s 1 N N)), (6, (.v (.int .i64 (i : Int)))), (0, (.v (.slice (some ⟨kn, 0, none⟩) N N))), (1, (.v (.slice (some ⟨ka, 0, none⟩) N N)))]
def F82b_6i (N kn ka i q : Nat) (ns : Nat → Nat) (xs ys : Nat → Fin P) (d : Int) (C C2 : List Value) (s s2 s3 s4 : T3 P)  : List RG.It := [⟨some 31, [], (.v (.int .i64 ((i + 1 : Nat) : Int))), .stay⟩,
  ⟨some 16, [(31, 0)], (.v (.int .i64 ((i + 1 : Nat) : Int))), .stay⟩]
def F82b_6b (N kn ka i q : Nat) (ns : Nat → Nat) (xs ys : Nat → Fin P) (d : Int) (C C2 : List Value) (s s2 s3 s4 : T3 P)  : List RG.Bl := [⟨[.int .u64 0, .int .u64 0, .int .u64 0, .int .u64 0, .int .u64 0, .int .u64 0, .int .u64 0, .int .u64 0], [.int .u64 0, .int .u64 0, .int .u64 0, .int .u64 0, .int .u64 0, .int .u64 0, .int .u64 0, .int .u64 0], none, none⟩, ⟨C2, C2, none, none⟩]
def F82b_6o (N kn ka i q : Nat) (ns : Nat → Nat) (xs ys : Nat → Fin P) (d : Int) (C C2 : List Value) (s s2 s3 s4 : T3 P)  : List (Tmp × RG.SV) := [(16, (.v (.int .i64 (i : Int))))]
def F82c_3i (N kn ka i q : Nat) (ns : Nat → Nat) (xs ys : Nat → Fin P) (d : Int) (C C2 : List Value) (s s2 s3 s4 : T3 P)  : List RG.It := [⟨some 17, [], (.v (.bool false)), .stay⟩]
def F82c_3b (N kn ka i q : Nat) (ns : Nat → Nat) (xs ys : Nat → Fin P) (d : Int) (C C2 : List Value) (s s2 s3 s4 : T3 P)  : List RG.Bl := [⟨[.int .u64 0, .int .u64 0, .int .u64 0, .int .u64 0, .int .u64 0, .int .u64 0, .int .u64 0, .int .u64 0], [.int .u64 0, .int .u64 0, .int .u64 0, .int .u64 0, .int .u64 0, .int .u64 0, .int .u64 0, .int .u64 0], none, none⟩, ⟨C, C, none, none⟩]
def F82c_3o (N kn ka i q : Nat) (ns : Nat → Nat) (xs ys : Nat → Fin P) (d : Int) (C C2 : List Value) (s s2 s3 s4 : T3 P)  : List (Tmp × RG.SV) := [(16, (.v (.int .i64 (i : Int)))), (15, (.v (.int .i64 (N : Int))))]
def F82c_7i (N kn ka i q : Nat) (ns : Nat → Nat) (xs ys : Nat → Fin P) (d : Int) (C C2 : List Value) (s s2 s3 s4 : T3 P)  : List RG.It := [⟨some 7, [], (.p 2 0), .make 2⟩]
def F82c_7b (N kn ka i q : Nat) (ns : Nat → Nat) (xs ys : Nat → Fin P) (d : Int) (C C2 : List Value) (s s2 s3 s4 : T3 P)  : List RG.Bl := [⟨[.int .u64 0, .int .u64 0, .int .u64 0, .int .u64 0, .int .u64 0, .int .u64 0, .int .u64 0, .int .u64 0], [.int .u64 0, .int .u64 0, .int .u64 0, .int .u64 0, .int .u64 0, .int .u64 0, .int .u64 0, .int .u64 0], none, none⟩, ⟨C, C, none, none⟩, ⟨(tw ((0, 0, 0) : T3 P)), (tw ((0, 0, 0) : T3 P)), some 0, none⟩]
def F82c_7o (N kn ka i q : Nat) (ns : Nat → Nat) (xs ys : Nat → Fin P) (d : Int) (C C2 : List Value) (s s2 s3 s4 : T3 P)  : List (Tmp × RG.SV) := []
def F82c_8i (N kn ka i q : Nat) (ns : Nat → Nat) (xs ys : Nat → Fin P) (d : Int) (C C2 : List Value) (s s2 s3 s4 : T3 P)  : List RG.It := [⟨some 8, [], (.v (.int .i64 256)), .stay⟩]
def F82c_8b (N kn ka i q : Nat) (ns : Nat → Nat) (xs ys : Nat → Fin P) (d : Int) (C C2 : List Value) (s s2 s3 s4 : T3 P)  : List RG.Bl := [⟨[.int .u64 0, .int .u64 0, .int .u64 0, .int .u64 0, .int .u64 0, .int .u64 0, .int .u64 0, .int .u64 0], [.int .u64 0, .int .u64 0, .int .u64 0, .int .u64 0, .int .u64 0, .int .u64 0, .int .u64 0, .int .u64 0], none, none⟩, ⟨C, C, none, none⟩, ⟨(tw ((0, 0, 0) : T3 P)), (tw ((0, 0, 0) : T3 P)), none, none⟩]
def F82c_8o (N kn ka i q : Nat) (ns : Nat → Nat) (xs ys : Nat → Fin P) (d : Int) (C C2 : List Value) (s s2 s3 s4 : T3 P)  : List (Tmp × RG.SV) := []
def F82d_9i (N kn ka i q : Nat) (ns : Nat → Nat) (xs ys : Nat → Fin P) (d : Int) (C C2 : List Value) (s s2 s3 s4 : T3 P)  : List RG.It := [⟨some 32, [], (.v (.int .i64 (q : Int))), .stay⟩,
  ⟨some 33, [(32, 0)], (.v (.bool true)), .stay⟩]
def F82d_9b (N kn ka i q : Nat) (ns : Nat → Nat) (xs ys : Nat → Fin P) (d : Int) (C C2 : List Value) (s s2 s3 s4 : T3 P)  : List RG.Bl := [⟨[.int .u64 0, .int .u64 0, .int .u64 0, .int .u64 0, .int .u64 0, .int .u64 0, .int .u64 0, .int .u64 0], [.int .u64 0, .int .u64 0, .int .u64 0, .int .u64 0, .int .u64 0, .int .u64 0, .int .u64 0, .int .u64 0], none, none⟩, ⟨C, C, none, none⟩, ⟨(tw s), (tw s), none, none⟩]
def F82d_9o (N kn ka i q : Nat) (ns : Nat → Nat) (xs ys : Nat → Fin P) (d : Int) (C C2 : List Value) (s s2 s3 s4 : T3 P)  : List (Tmp × RG.SV) := [(8, (.v (.int .i64 (q : Int))))]
def F82d_11i (N kn ka i q : Nat) (ns : Nat → Nat) (xs ys : Nat → Fin P) (d : Int) (C C2 : List Value) (s s2 s3 s4 : T3 P)  : List RG.It := [⟨some 36, [], (.v (tv s)), .stay⟩,
  ⟨some 37, [(36, 0)], (.v (tv s2)), .call⟩,
  ⟨none, [(37, 1)], (.v undef), .put 2⟩]
def F82d_11b (N kn ka i q : Nat) (ns : Nat → Nat) (xs ys : Nat → Fin P) (d : Int) (C C2 : List Value) (s s2 s3 s4 : T3 P)  : List RG.Bl := [⟨[.int .u64 0, .int .u64 0, .int .u64 0, .int .u64 0, .int .u64 0, .int .u64 0, .int .u64 0, .int .u64 0], [.int .u64 0, .int .u64 0, .int .u64 0, .int .u64 0, .int .u64 0, .int .u64 0, .int .u64 0, .int .u64 0], none, none⟩, ⟨C, C, none, none⟩, ⟨(tw s), (tw s2), none, some 2⟩]
def F82d_11o (N kn ka i q : Nat) (ns : Nat → Nat) (xs ys : Nat → Fin P) (d : Int) (C C2 : List Value) (s s2 s3 s4 : T3 P)  : List (Tmp × RG.SV) := [(7, (.p 2 0))]
def F82d_12i (N kn ka i q : Nat) (ns : Nat → Nat) (xs ys : Nat → Fin P) (d : Int) (C C2 : List Value) (s s2 s3 s4 : T3 P)  : List RG.It := [⟨some 38, [], (.s 1 N N), .stay⟩,
  ⟨some 39, [(38, 0)], (.v (.int .i64 (N : Int))), .stay⟩,
  ⟨some 40, [], (.v (.int .i64 0)), .stay⟩]
def F82d_12b (N kn ka i q : Nat) (ns : Nat → Nat) (xs ys : Nat → Fin P) (d : Int) (C C2 : List Value) (s s2 s3 s4 : T3 P)  : List RG.Bl := [⟨[.int .u64 0, .int .u64 0, .int .u64 0, .int .u64 0, .int .u64 0, .int .u64 0, .int .u64 0, .int .u64 0], [.int .u64 0, .int .u64 0, .int .u64 0, .int .u64 0, .int .u64 0, .int .u64 0, .int .u64 0, .int .u64 0], none, none⟩, ⟨C, C, none, none⟩, ⟨(tw s2), (tw s2), none, none⟩]
def F82d_12o (N kn ka i q : Nat) (ns : Nat → Nat) (xs ys : Nat → Fin P) (d : Int) (C C2 : List Value) (s s2 s3 s4 : T3 P)  : List (Tmp × RG.SV) := [(5, (.s 1 N N))]
def F82e_9i (N kn ka i q : Nat) (ns : Nat → Nat) (xs ys : Nat → Fin P) (d : Int) (C C2 : List Value) (s s2 s3 s4 : T3 P)  : List RG.It := [⟨some 32, [], (.v (.int .i64 (-1))), .stay⟩,
  ⟨some 33, [(32, 0)], (.v (.bool false)), .stay⟩]
def F82e_9b (N kn ka i q : Nat) (ns : Nat → Nat) (xs ys : Nat → Fin P) (d : Int) (C C2 : List Value) (s s2 s3 s4 : T3 P)  : List RG.Bl := [⟨[.int .u64 0, .int .u64 0, .int .u64 0, .int .u64 0, .int .u64 0, .int .u64 0, .int .u64 0, .int .u64 0], [.int .u64 0, .int .u64 0, .int .u64 0, .int .u64 0, .int .u64 0, .int .u64 0, .int .u64 0, .int .u64 0], none, none⟩, ⟨C, C, none, none⟩, ⟨(tw s), (tw s), none, none⟩]
def F82e_9o (N kn ka i q : Nat) (ns : Nat → Nat) (xs ys : Nat → Fin P) (d : Int) (C C2 : List Value) (s s2 s3 s4 : T3 P)  : List (Tmp × RG.SV) := [(8, (.v (.int .i64 (-1))))]
def F82e_19i (N kn ka i q : Nat) (ns : Nat → Nat) (xs ys : Nat → Fin P) (d : Int) (C C2 : List Value) (s s2 s3 s4 : T3 P)  : List RG.It := [⟨some 60, [], (.v (tv s)), .stay⟩,
  ⟨some 61, [(60, 0)], (.v (pv (s.1 * (EC.inv s.2.2 * EC.inv s.2.2)) (s.2.1 * (EC.inv s.2.2 * EC.inv s.2.2) * EC.inv s.2.2))), .call⟩,
  ⟨none, [(61, 1)], (.v undef), .put 0⟩]
def F82e_19b (N kn ka i q : Nat) (ns : Nat → Nat) (xs ys : Nat → Fin P) (d : Int) (C C2 : List Value) (s s2 s3 s4 : T3 P)  : List RG.Bl := [⟨[.int .u64 0, .int .u64 0, .int .u64 0, .int .u64 0, .int .u64 0, .int .u64 0, .int .u64 0, .int .u64 0], (ws (s.1 * (EC.inv s.2.2 * EC.inv s.2.2)) ++ (ws (s.2.1 * (EC.inv s.2.2 * EC.inv s.2.2) * EC.inv s.2.2))), none, some 2⟩, ⟨C, C, none, none⟩, ⟨(tw s), (tw s), none, none⟩]
def F82e_19o (N kn ka i q : Nat) (ns : Nat → Nat) (xs ys : Nat → Fin P) (d : Int) (C C2 : List Value) (s s2 s3 s4 : T3 P)  : List (Tmp × RG.SV) := [(7, (.p 2 0)), (4, (.p 0 0))]
def F82f_13i (N kn ka i q : Nat) (ns : Nat → Nat) (xs ys : Nat → Fin P) (d : Int) (C C2 : List Value) (s s2 s3 s4 : T3 P)  : List RG.It := [⟨some 41, [], (.v (.bool true)), .stay⟩]
def F82f_13b (N kn ka i q : Nat) (ns : Nat → Nat) (xs ys : Nat → Fin P) (d : Int) (C C2 : List Value) (s s2 s3 s4 : T3 P)  : List RG.Bl := [⟨[.int .u64 0, .int .u64 0, .int .u64 0, .int .u64 0, .int .u64 0, .int .u64 0, .int .u64 0, .int .u64 0], [.int .u64 0, .int .u64 0, .int .u64 0, .int .u64 0, .int .u64 0, .int .u64 0, .int .u64 0, .int .u64 0], none, none⟩, ⟨C, C, none, none⟩, ⟨(tw s), (tw s), none, none⟩]
def F82f_13o (N kn ka i q : Nat) (ns : Nat → Nat) (xs ys : Nat → Fin P) (d : Int) (C C2 : List Value) (s s2 s3 s4 : T3 P)  : List (Tmp × RG.SV) := [(40, (.v (.int .i64 (i : Int)))), (39, (.v (.int .i64 (N : Int))))]
def F82f_14i (N kn ka i q : Nat) (ns : Nat → Nat) (xs ys : Nat → Fin P) (d : Int) (C C2 : List Value) (s s2 s3 s4 : T3 P)  : List RG.It := [⟨some 42, [], (.v (.int .i64 (i : Int))), .stay⟩,
  ⟨some 9, [(42, 0)], (.v (.int .i64 (i : Int))), .stay⟩]
def F82f_14b (N kn ka i q : Nat) (ns : Nat → Nat) (xs ys : Nat → Fin P) (d : Int) (C C2 : List Value) (s s2 s3 s4 : T3 P)  : List RG.Bl := [⟨[.int .u64 0, .int .u64 0, .int .u64 0, .int .u64 0, .int .u64 0, .int .u64 0, .int .u64 0, .int .u64 0], [.int .u64 0, .int .u64 0, .int .u64 0, .int .u64 0, .int .u64 0, .int .u64 0, .int .u64 0, .int .u64 0], none, none⟩, ⟨C, C, none, none⟩, ⟨(tw s), (tw s), none, none⟩]
def F82f_14o (N kn ka i q : Nat) (ns : Nat → Nat) (xs ys : Nat → Fin P) (d : Int) (C C2 : List Value) (s s2 s3 s4 : T3 P)  : List (Tmp × RG.SV) := [(40, (.v (.int .i64 (i : Int))))]
def F82f_15i (N kn ka i q : Nat) (ns : Nat → Nat) (xs ys : Nat → Fin P) (d : Int) (C C2 : List Value) (s s2 s3 s4 : T3 P)  : List RG.It := [⟨some 43, [], (.s 1 N N), .stay⟩,
  ⟨some 44, [], (.v (.int .i64 (i : Int))), .stay⟩,
  ⟨some 45, [], (.v (.int .i64 (q : Int))), .stay⟩,
  ⟨some 46, [(43, 0), (44, 1)], (.p 1 (353 * i)), .stay⟩,
  ⟨some 47, [(46, 3)], (.p 1 ((353 * i) + 96)), .stay⟩,
  ⟨some 48, [(47, 4), (45, 2)], (.p 1 (((353 * i) + 96) + q)), .stay⟩,
  ⟨some 49, [(48, 5)], (.v (.int .i8 0)), .stay⟩,
  ⟨some 10, [(49, 6)], (.v (.int .i8 0)), .stay⟩]
def F82f_15b (N kn ka i q : Nat) (ns : Nat → Nat) (xs ys : Nat → Fin P) (d : Int) (C C2 : List Value) (s s2 s3 s4 : T3 P)  : List RG.Bl := [⟨[.int .u64 0, .int .u64 0, .int .u64 0, .int .u64 0, .int .u64 0, .int .u64 0, .int .u64 0, .int .u64 0], [.int .u64 0, .int .u64 0, .int .u64 0, .int .u64 0, .int .u64 0, .int .u64 0, .int .u64 0, .int .u64 0], none, none⟩, ⟨C, C, none, none⟩, ⟨(tw s), (tw s), none, none⟩]
def F82f_15o (N kn ka i q : Nat) (ns : Nat → Nat) (xs ys : Nat → Fin P) (d : Int) (C C2 : List Value) (s s2 s3 s4 : T3 P)  : List (Tmp × RG.SV) := [(5, (.s 1 N N)), (9, (.v (.int .i64 (i : Int)))), (8, (.v (.int .i64 (q : Int))))]
def F82f_16i (N kn ka i q : Nat) (ns : Nat → Nat) (xs ys : Nat → Fin P) (d : Int) (C C2 : List Value) (s s2 s3 s4 : T3 P)  : List RG.It := [⟨some 50, [], (.v (.int .i8 0)), .stay⟩,
  ⟨some 51, [(50, 0)], (.v (.bool false)), .stay⟩]
def F82f_16b (N kn ka i q : Nat) (ns : Nat → Nat) (xs ys : Nat → Fin P) (d : Int) (C C2 : List Value) (s s2 s3 s4 : T3 P)  : List RG.Bl := [⟨[.int .u64 0, .int .u64 0, .int .u64 0, .int .u64 0, .int .u64 0, .int .u64 0, .int .u64 0, .int .u64 0], [.int .u64 0, .int .u64 0, .int .u64 0, .int .u64 0, .int .u64 0, .int .u64 0, .int .u64 0, .int .u64 0], none, none⟩, ⟨C, C, none, none⟩, ⟨(tw s), (tw s), none, none⟩]
def F82f_16o (N kn ka i q : Nat) (ns : Nat → Nat) (xs ys : Nat → Fin P) (d : Int) (C C2 : List Value) (s s2 s3 s4 : T3 P)  : List (Tmp × RG.SV) := [(10, (.v (.int .i8 0)))]
def F82f_18i (N kn ka i q : Nat) (ns : Nat → Nat) (xs ys : Nat → Fin P) (d : Int) (C C2 : List Value) (s s2 s3 s4 : T3 P)  : List RG.It := [⟨some 59, [], (.v (.int .i64 ((i + 1 : Nat) : Int))), .stay⟩,
  ⟨some 40, [(59, 0)], (.v (.int .i64 ((i + 1 : Nat) : Int))), .stay⟩]
def F82f_18b (N kn ka i q : Nat) (ns : Nat → Nat) (xs ys : Nat → Fin P) (d : Int) (C C2 : List Value) (s s2 s3 s4 : T3 P)  : List RG.Bl := [⟨[.int .u64 0, .int .u64 0, .int .u64 0, .int .u64 0, .int .u64 0, .int .u64 0, .int .u64 0, .int .u64 0], [.int .u64 0, .int .u64 0, .int .u64 0, .int .u64 0, .int .u64 0, .int .u64 0, .int .u64 0, .int .u64 0], none, none⟩, ⟨C, C, none, none⟩, ⟨(tw s), (tw s), none, none⟩]
def F82f_18o (N kn ka i q : Nat) (ns : Nat → Nat) (xs ys : Nat → Fin P) (d : Int) (C C2 : List Value) (s s2 s3 s4 : T3 P)  : List (Tmp × RG.SV) := [(40, (.v (.int .i64 (i : Int))))]
def F82g_13i (N kn ka i q : Nat) (ns : Nat → Nat) (xs ys : Nat → Fin P) (d : Int) (C C2 : List Value) (s s2 s3 s4 : T3 P)  : List RG.It := [⟨some 41, [], (.v (.bool true)), .stay⟩]
def F82g_13b (N kn ka i q : Nat) (ns : Nat → Nat) (xs ys : Nat → Fin P) (d : Int) (C C2 : List Value) (s s2 s3 s4 : T3 P)  : List RG.Bl := [⟨[.int .u64 0, .int .u64 0, .int .u64 0, .int .u64 0, .int .u64 0, .int .u64 0, .int .u64 0, .int .u64 0], [.int .u64 0, .int .u64 0, .int .u64 0, .int .u64 0, .int .u64 0, .int .u64 0, .int .u64 0, .int .u64 0], none, none⟩, ⟨C, C, none, none⟩, ⟨(tw s), (tw s), none, none⟩]
def F82g_13o (N kn ka i q : Nat) (ns : Nat → Nat) (xs ys : Nat → Fin P) (d : Int) (C C2 : List Value) (s s2 s3 s4 : T3 P)  : List (Tmp × RG.SV) := [(40, (.v (.int .i64 (i : Int)))), (39, (.v (.int .i64 (N : Int))))]
def F82g_14i (N kn ka i q : Nat) (ns : Nat → Nat) (xs ys : Nat → Fin P) (d : Int) (C C2 : List Value) (s s2 s3 s4 : T3 P)  : List RG.It := [⟨some 42, [], (.v (.int .i64 (i : Int))), .stay⟩,
  ⟨some 9, [(42, 0)], (.v (.int .i64 (i : Int))), .stay⟩]
def F82g_14b (N kn ka i q : Nat) (ns : Nat → Nat) (xs ys : Nat → Fin P) (d : Int) (C C2 : List Value) (s s2 s3 s4 : T3 P)  : List RG.Bl := [⟨[.int .u64 0, .int .u64 0, .int .u64 0, .int .u64 0, .int .u64 0, .int .u64 0, .int .u64 0, .int .u64 0], [.int .u64 0, .int .u64 0, .int .u64 0, .int .u64 0, .int .u64 0, .int .u64 0, .int .u64 0, .int .u64 0], none, none⟩, ⟨C, C, none, none⟩, ⟨(tw s), (tw s), none, none⟩]
def F82g_14o (N kn ka i q : Nat) (ns : Nat → Nat) (xs ys : Nat → Fin P) (d : Int) (C C2 : List Value) (s s2 s3 s4 : T3 P)  : List (Tmp × RG.SV) := [(40, (.v (.int .i64 (i : Int))))]
def F82g_15i (N kn ka i q : Nat) (ns : Nat → Nat) (xs ys : Nat → Fin P) (d : Int) (C C2 : List Value) (s s2 s3 s4 : T3 P)  : List RG.It := [⟨some 43, [], (.s 1 N N), .stay⟩,
  ⟨some 44, [], (.v (.int .i64 (i : Int))), .stay⟩,
  ⟨some 45, [], (.v (.int .i64 (q : Int))), .stay⟩,
  ⟨some 46, [(43, 0), (44, 1)], (.p 1 (353 * i)), .stay⟩,
  ⟨some 47, [(46, 3)], (.p 1 ((353 * i) + 96)), .stay⟩,
  ⟨some 48, [(47, 4), (45, 2)], (.p 1 (((353 * i) + 96) + q)), .stay⟩,
  ⟨some 49, [(48, 5)], (.v (.int .i8 d)), .stay⟩,
  ⟨some 10, [(49, 6)], (.v (.int .i8 d)), .stay⟩]
def F82g_15b (N kn ka i q : Nat) (ns : Nat → Nat) (xs ys : Nat → Fin P) (d : Int) (C C2 : List Value) (s s2 s3 s4 : T3 P)  : List RG.Bl := [⟨[.int .u64 0, .int .u64 0, .int .u64 0, .int .u64 0, .int .u64 0, .int .u64 0, .int .u64 0, .int .u64 0], [.int .u64 0, .int .u64 0, .int .u64 0, .int .u64 0, .int .u64 0, .int .u64 0, .int .u64 0, .int .u64 0], none, none⟩, ⟨C, C, none, none⟩, ⟨(tw s), (tw s), none, none⟩]
def F82g_15o (N kn ka i q : Nat) (ns : Nat → Nat) (xs ys : Nat → Fin P) (d : Int) (C C2 : List Value) (s s2 s3 s4 : T3 P)  : List (Tmp × RG.SV) := [(5, (.s 1 N N)), (9, (.v (.int .i64 (i : Int)))), (8, (.v (.int .i64 (q : Int))))]
def F82g_16i (N kn ka i q : Nat) (ns : Nat → Nat) (xs ys : Nat → Fin P) (d : Int) (C C2 : List Value) (s s2 s3 s4 : T3 P)  : List RG.It := [⟨some 50, [], (.v (.int .i8 d)), .stay⟩,
  ⟨some 51, [(50, 0)], (.v (.bool true)), .stay⟩]
def F82g_16b (N kn ka i q : Nat) (ns : Nat → Nat) (xs ys : Nat → Fin P) (d : Int) (C C2 : List Value) (s s2 s3 s4 : T3 P)  : List RG.Bl := [⟨[.int .u64 0, .int .u64 0, .int .u64 0, .int .u64 0, .int .u64 0, .int .u64 0, .int .u64 0, .int .u64 0], [.int .u64 0, .int .u64 0, .int .u64 0, .int .u64 0, .int .u64 0, .int .u64 0, .int .u64 0, .int .u64 0], none, none⟩, ⟨C, C, none, none⟩, ⟨(tw s), (tw s), none, none⟩]
def F82g_16o (N kn ka i q : Nat) (ns : Nat → Nat) (xs ys : Nat → Fin P) (d : Int) (C C2 : List Value) (s s2 s3 s4 : T3 P)  : List (Tmp × RG.SV) := [(10, (.v (.int .i8 d)))]
def F82g_17i (N kn ka i q : Nat) (ns : Nat → Nat) (xs ys : Nat → Fin P) (d : Int) (C C2 : List Value) (s s2 s3 s4 : T3 P)  : List RG.It := [⟨some 52, [], (.v (tv s)), .stay⟩,
  ⟨some 53, [], (.s 1 N N), .stay⟩,
  ⟨some 54, [], (.v (.int .i64 (i : Int))), .stay⟩,
  ⟨some 55, [(53, 1), (54, 2)], (.p 1 (353 * i)), .stay⟩,
  ⟨some 56, [], (.v (.int .i8 d)), .stay⟩,
  ⟨some 57, [(55, 3), (56, 4)], (.v (tv s3)), .call⟩,
  ⟨some 58, [(52, 0), (57, 5)], (.v (tv s4)), .call⟩,
  ⟨none, [(58, 6)], (.v undef), .put 2⟩]
def F82g_17b (N kn ka i q : Nat) (ns : Nat → Nat) (xs ys : Nat → Fin P) (d : Int) (C C2 : List Value) (s s2 s3 s4 : T3 P)  : List RG.Bl := [⟨[.int .u64 0, .int .u64 0, .int .u64 0, .int .u64 0, .int .u64 0, .int .u64 0, .int .u64 0, .int .u64 0], [.int .u64 0, .int .u64 0, .int .u64 0, .int .u64 0, .int .u64 0, .int .u64 0, .int .u64 0, .int .u64 0], none, none⟩, ⟨C, C, none, none⟩, ⟨(tw s), (tw s4), none, some 7⟩]
def F82g_17o (N kn ka i q : Nat) (ns : Nat → Nat) (xs ys : Nat → Fin P) (d : Int) (C C2 : List Value) (s s2 s3 s4 : T3 P)  : List (Tmp × RG.SV) := [(7, (.p 2 0)), (5, (.s 1 N N)), (9, (.v (.int .i64 (i : Int)))), (10, (.v (.int .i8 d)))]
def F82g_18i (N kn ka i q : Nat) (ns : Nat → Nat) (xs ys : Nat → Fin P) (d : Int) (C C2 : List Value) (s s2 s3 s4 : T3 P)  : List RG.It := [⟨some 59, [], (.v (.int .i64 ((i + 1 : Nat) : Int))), .stay⟩,
  ⟨some 40, [(59, 0)], (.v (.int .i64 ((i + 1 : Nat) : Int))), .stay⟩]
def F82g_18b (N kn ka i q : Nat) (ns : Nat → Nat) (xs ys : Nat → Fin P) (d : Int) (C C2 : List Value) (s s2 s3 s4 : T3 P)  : List RG.Bl := [⟨[.int .u64 0, .int .u64 0, .int .u64 0, .int .u64 0, .int .u64 0, .int .u64 0, .int .u64 0, .int .u64 0], [.int .u64 0, .int .u64 0, .int .u64 0, .int .u64 0, .int .u64 0, .int .u64 0, .int .u64 0, .int .u64 0], none, none⟩, ⟨C, C, none, none⟩, ⟨(tw s4), (tw s4), none, none⟩]
def F82g_18o (N kn ka i q : Nat) (ns : Nat → Nat) (xs ys : Nat → Fin P) (d : Int) (C C2 : List Value) (s s2 s3 s4 : T3 P)  : List (Tmp × RG.SV) := [(40, (.v (.int .i64 (i : Int))))]
def F82h_13i (N kn ka i q : Nat) (ns : Nat → Nat) (xs ys : Nat → Fin P) (d : Int) (C C2 : List Value) (s s2 s3 s4 : T3 P)  : List RG.It := [⟨some 41, [], (.v (.bool false)), .stay⟩]
def F82h_13b (N kn ka i q : Nat) (ns : Nat → Nat) (xs ys : Nat → Fin P) (d : Int) (C C2 : List Value) (s s2 s3 s4 : T3 P)  : List RG.Bl := [⟨[.int .u64 0, .int .u64 0, .int .u64 0, .int .u64 0, .int .u64 0, .int .u64 0, .int .u64 0, .int .u64 0], [.int .u64 0, .int .u64 0, .int .u64 0, .int .u64 0, .int .u64 0, .int .u64 0, .int .u64 0, .int .u64 0], none, none⟩, ⟨C, C, none, none⟩, ⟨(tw s), (tw s), none, none⟩]
def F82h_13o (N kn ka i q : Nat) (ns : Nat → Nat) (xs ys : Nat → Fin P) (d : Int) (C C2 : List Value) (s s2 s3 s4 : T3 P)  : List (Tmp × RG.SV) := [(40, (.v (.int .i64 (i : Int)))), (39, (.v (.int .i64 (N : Int))))]
def F82h_10i (N kn ka i q : Nat) (ns : Nat → Nat) (xs ys : Nat → Fin P) (d : Int) (C C2 : List Value) (s s2 s3 s4 : T3 P)  : List RG.It := [⟨some 34, [], (.v (.int .i64 (q : Int))), .stay⟩,
  ⟨some 35, [(34, 0)], (.v (.int .i64 ((q : Int) - 1))), .stay⟩,
  ⟨some 8, [(35, 1)], (.v (.int .i64 ((q : Int) - 1))), .stay⟩]
def F82h_10b (N kn ka i q : Nat) (ns : Nat → Nat) (xs ys : Nat → Fin P) (d : Int) (C C2 : List Value) (s s2 s3 s4 : T3 P)  : List RG.Bl := [⟨[.int .u64 0, .int .u64 0, .int .u64 0, .int .u64 0, .int .u64 0, .int .u64 0, .int .u64 0, .int .u64 0], [.int .u64 0, .int .u64 0, .int .u64 0, .int .u64 0, .int .u64 0, .int .u64 0, .int .u64 0, .int .u64 0], none, none⟩, ⟨C, C, none, none⟩, ⟨(tw s), (tw s), none, none⟩]
def F82h_10o (N kn ka i q : Nat) (ns : Nat → Nat) (xs ys : Nat → Fin P) (d : Int) (C C2 : List Value) (s s2 s3 s4 : T3 P)  : List (Tmp × RG.SV) := [(8, (.v (.int .i64 (q : Int))))]

set_option maxHeartbeats 4000000 in
set_option maxRecDepth 100000 in
theorem sums_c (F : Fld P) (N : Nat) (hN : N ≤ 512) (ns : Nat → Nat) (xs ys : Nat → Fin P) (hns : ∀ i, i < N → ns i < top) (kn ka : Nat) (w : World) (hkn : kn < w.heap.size) (hka : ka < w.heap.size)
    (hn : ∀ i, i < N → w.rangeAt kn (4 * i) (wn (ns i))) (ha : ∀ i, i < N → w.rangeAt ka (8 * i) (ws (xs i) ++ ws (ys i))) :
    Calls Try.prog 82 #[(.slice (some ⟨kn, 0, none⟩) N N), (.slice (some ⟨ka, 0, none⟩) N N)] w (Ret fun e w' => Below w.heap.size w w' ∧ ∃ s, s = sumJ ns xs ys N 257 ∧ e = pv (s.1 * (EC.inv s.2.2 * EC.inv s.2.2)) (s.2.1 * (EC.inv s.2.2 * EC.inv s.2.2) * EC.inv s.2.2)) := by
  obtain ⟨C, hCl, hmk⟩ := mk135 N hN
  have hstepC : ∀ (i : Nat) (c2 : List Value), fc (xs i) (ys i) (digs (ns i)) (cc ns xs ys C i) (353 * i) 8 = c2 → cc ns xs ys C (i + 1) = c2 := fun i c2 h => h
  obtain ⟨i, -⟩ : ∃ i : Nat, i = 0 := ⟨_, rfl⟩
  obtain ⟨q, -⟩ : ∃ i : Nat, i = 0 := ⟨_, rfl⟩
  obtain ⟨d, -⟩ : ∃ i : Int, i = 0 := ⟨_, rfl⟩
  obtain ⟨C2, -⟩ : ∃ c : List Value, c = C := ⟨_, rfl⟩
  obtain ⟨s, -⟩ : ∃ s : T3 P, s = (0, 0, 0) := ⟨_, rfl⟩
  obtain ⟨s2, -⟩ : ∃ s : T3 P, s = (0, 0, 0) := ⟨_, rfl⟩
  obtain ⟨s3, -⟩ : ∃ s : T3 P, s = (0, 0, 0) := ⟨_, rfl⟩
  obtain ⟨s4, -⟩ : ∃ s : T3 P, s = (0, 0, 0) := ⟨_, rfl⟩
  go_enter Try.func82, Try.ntmps82
  refine RG.var2 (v0 := (.slice (some ⟨kn, 0, none⟩) N N)) (v1 := (.slice (some ⟨ka, 0, none⟩) N N)) (n := 62) (by kernel_rfl) (by kernel_rfl) (by kernel_rfl) (by kernel_rfl) ?_
  intro a0 sl0 f0 f1
  have hS0 := RG.St.begin w
  repeat refine wp_seq ?_
  refine RG.region_text' (its := F82a_0i N kn ka i q ns xs ys d C C2 s s2 s3 s4) (bl := F82a_0b N kn ka i q ns xs ys d C C2 s s2 s3 s4) (olds := F82a_0o N kn ka i q ns xs ys d C C2 s s2 s3 s4) hS0 (RG.Reg.mk' (by rw [sl0.size]; kernel_rfl) trivial ⟨?_, trivial⟩) (by kernel_rfl) (by kernel_rfl) ⟨RG.endB1_st (by kernel_rfl), List.forall_mem_cons.2 ⟨rfl, fun _ h => absurd h List.not_mem_nil⟩⟩ ?_
  · exact RG.cert_alloc 0 rfl rfl _ rfl 109 rfl (fun w => by kernel_rfl)
  intro new1 w1 hl1 hS1
  obtain ⟨j1, rfl⟩ := RG.len1 hl1
  clear hl1
  replace hS1 : RG.St w w.heap.size [] [[.int .u64 0, .int .u64 0, .int .u64 0, .int .u64 0, .int .u64 0, .int .u64 0, .int .u64 0, .int .u64 0]] [j1] w1 := hS1
  have sl1 : RG.Sl (RG.puts (RG.ad ([] ++ [j1])) (F82a_0i N kn ka i q ns xs ys d C C2 s s2 s3 s4) a0) 62 := sl0.puts
  have f0_1 := RG.put_old (μ := RG.ad ([] ++ [j1])) (its := (F82a_0i N kn ka i q ns xs ys d C C2 s s2 s3 s4)) f0 (by kernel_rfl)
  have f1_1 := RG.put_old (μ := RG.ad ([] ++ [j1])) (its := (F82a_0i N kn ka i q ns xs ys d C C2 s s2 s3 s4)) f1 (by kernel_rfl)
  have f4_1 : (RG.puts (RG.ad ([] ++ [j1])) (F82a_0i N kn ka i q ns xs ys d C C2 s s2 s3 s4) a0).tmps[4]? = some (.pointer (some ⟨j1, 0, none⟩)) := by have h := RG.put_new (μ := RG.ad ([] ++ [j1])) (its := (F82a_0i N kn ka i q ns xs ys d C C2 s s2 s3 s4)) sl0 0 (by kernel_rfl) rfl rfl rfl; exact h
  generalize RG.puts (RG.ad ([] ++ [j1])) (F82a_0i N kn ka i q ns xs ys d C C2 s s2 s3 s4) a0 = a1 at sl1 f0_1 f1_1 f4_1 ⊢
  repeat refine wp_seq ?_
  refine RG.region_text' (its := F82a_1i N kn ka i q ns xs ys d C C2 s s2 s3 s4) (bl := F82a_1b N kn ka i q ns xs ys d C C2 s s2 s3 s4) (olds := F82a_1o N kn ka i q ns xs ys d C C2 s s2 s3 s4) hS1 (RG.Reg.mk' (by rw [sl1.size]; kernel_rfl) ⟨f0_1, trivial⟩ ⟨?_, ?_, ?_, ?_, trivial⟩) (by kernel_rfl) (by kernel_rfl) ⟨RG.endB1_st (by kernel_rfl), List.forall_mem_cons.2 ⟨rfl, List.forall_mem_cons.2 ⟨rfl, fun _ h => absurd h List.not_mem_nil⟩⟩⟩ ?_
  · exact RG.cert_move rfl 0 (Or.inl rfl) (fun μ a K => K.old 0 (.v (.slice (some ⟨kn, 0, none⟩) N N)) (List.Mem.head _) (by kernel_rfl))
  · exact RG.cert_one rfl 11 (.v (.slice (some ⟨kn, 0, none⟩) N N)) (.int .i64 (N : Int)) rfl (fun μ a K => by have h := K.op 11 0 (List.Mem.head _) rfl; exact h) (fun a w => by kernel_rfl) (fun μ w => by kernel_rfl)
  · exact RG.cert_makes 1 rfl _ rfl 135 140 12 12 N rfl rfl (fun μ a K => by have h := K.op 12 1 (List.Mem.head _) rfl; exact h) (fun μ a K => by have h := K.op 12 1 (List.Mem.head _) rfl; exact h) (hmk)
  · exact RG.cert_move rfl 13 (Or.inr rfl) (fun μ a K => by have h := K.op 13 2 (List.Mem.head _) rfl; exact h)
  intro new2 w2 hl2 hS2
  obtain ⟨j2, rfl⟩ := RG.len1 hl2
  clear hl2
  replace hS2 : RG.St w w.heap.size [] [[.int .u64 0, .int .u64 0, .int .u64 0, .int .u64 0, .int .u64 0, .int .u64 0, .int .u64 0, .int .u64 0], C] [j1, j2] w2 := hS2
  have sl2 : RG.Sl (RG.puts (RG.ad ([j1] ++ [j2])) (F82a_1i N kn ka i q ns xs ys d C C2 s s2 s3 s4) a1) 62 := sl1.puts
  have f0_2 := RG.put_old (μ := RG.ad ([j1] ++ [j2])) (its := (F82a_1i N kn ka i q ns xs ys d C C2 s s2 s3 s4)) f0_1 (by kernel_rfl)
  have f1_2 := RG.put_old (μ := RG.ad ([j1] ++ [j2])) (its := (F82a_1i N kn ka i q ns xs ys d C C2 s s2 s3 s4)) f1_1 (by kernel_rfl)
  have f4_2 := RG.put_old (μ := RG.ad ([j1] ++ [j2])) (its := (F82a_1i N kn ka i q ns xs ys d C C2 s s2 s3 s4)) f4_1 (by kernel_rfl)
  have f5_2 : (RG.puts (RG.ad ([j1] ++ [j2])) (F82a_1i N kn ka i q ns xs ys d C C2 s s2 s3 s4) a1).tmps[5]? = some (.slice (some ⟨j2, 0, none⟩) N N) := by have h := RG.put_new (μ := RG.ad ([j1] ++ [j2])) (its := (F82a_1i N kn ka i q ns xs ys d C C2 s s2 s3 s4)) sl1 3 (by kernel_rfl) rfl rfl rfl; exact h
  generalize RG.puts (RG.ad ([j1] ++ [j2])) (F82a_1i N kn ka i q ns xs ys d C C2 s s2 s3 s4) a1 = a2 at sl2 f0_2 f1_2 f4_2 f5_2 ⊢
  repeat refine wp_seq ?_
  refine RG.region_text' (its := F82a_2i N kn ka i q ns xs ys d C C2 s s2 s3 s4) (bl := F82a_2b N kn ka i q ns xs ys d C C2 s s2 s3 s4) (olds := F82a_2o N kn ka i q ns xs ys d C C2 s s2 s3 s4) hS2 (RG.Reg.mk' (by rw [sl2.size]; kernel_rfl) ⟨f5_2, trivial⟩ ⟨?_, ?_, ?_, trivial⟩) (by kernel_rfl) (by kernel_rfl) ⟨RG.endB1_st (by kernel_rfl), List.forall_mem_cons.2 ⟨rfl, List.forall_mem_cons.2 ⟨rfl, fun _ h => absurd h List.not_mem_nil⟩⟩⟩ ?_
  · exact RG.cert_move rfl 5 (Or.inl rfl) (fun μ a K => K.old 5 (.s 1 N N) (List.Mem.head _) (by kernel_rfl))
  · exact RG.cert_one rfl 14 (.s 1 N N) (.int .i64 (N : Int)) rfl (fun μ a K => by have h := K.op 14 0 (List.Mem.head _) rfl; exact h) (fun a w => by kernel_rfl) (fun μ w => by kernel_rfl)
  · exact RG.cert_stay rfl (fun μ a w _ _ => by kernel_rfl)
  intro new3 w3 hl3 hS3
  obtain rfl := RG.len0 hl3
  replace hS3 : RG.St w w.heap.size [] [[.int .u64 0, .int .u64 0, .int .u64 0, .int .u64 0, .int .u64 0, .int .u64 0, .int .u64 0, .int .u64 0], C] [j1, j2] w3 := hS3
  have sl3 : RG.Sl (RG.puts (RG.ad ([j1, j2] ++ [])) (F82a_2i N kn ka i q ns xs ys d C C2 s s2 s3 s4) a2) 62 := sl2.puts
  have f0_3 := RG.put_old (μ := RG.ad ([j1, j2] ++ [])) (its := (F82a_2i N kn ka i q ns xs ys d C C2 s s2 s3 s4)) f0_2 (by kernel_rfl)
  have f1_3 := RG.put_old (μ := RG.ad ([j1, j2] ++ [])) (its := (F82a_2i N kn ka i q ns xs ys d C C2 s s2 s3 s4)) f1_2 (by kernel_rfl)
  have f4_3 := RG.put_old (μ := RG.ad ([j1, j2] ++ [])) (its := (F82a_2i N kn ka i q ns xs ys d C C2 s s2 s3 s4)) f4_2 (by kernel_rfl)
  have f5_3 := RG.put_old (μ := RG.ad ([j1, j2] ++ [])) (its := (F82a_2i N kn ka i q ns xs ys d C C2 s s2 s3 s4)) f5_2 (by kernel_rfl)
  have f15_3 : (RG.puts (RG.ad ([j1, j2] ++ [])) (F82a_2i N kn ka i q ns xs ys d C C2 s s2 s3 s4) a2).tmps[15]? = some (.int .i64 (N : Int)) := by have h := RG.put_new (μ := RG.ad ([j1, j2] ++ [])) (its := (F82a_2i N kn ka i q ns xs ys d C C2 s s2 s3 s4)) sl2 1 (by kernel_rfl) rfl rfl rfl; exact h
  have f16_3 : (RG.puts (RG.ad ([j1, j2] ++ [])) (F82a_2i N kn ka i q ns xs ys d C C2 s s2 s3 s4) a2).tmps[16]? = some (.int .i64 0) := by have h := RG.put_new (μ := RG.ad ([j1, j2] ++ [])) (its := (F82a_2i N kn ka i q ns xs ys d C C2 s s2 s3 s4)) sl2 2 (by kernel_rfl) rfl rfl rfl; exact h
  generalize RG.puts (RG.ad ([j1, j2] ++ [])) (F82a_2i N kn ka i q ns xs ys d C C2 s s2 s3 s4) a2 = a3 at sl3 f0_3 f1_3 f4_3 f5_3 f15_3 f16_3 ⊢
  repeat refine wp_seq ?_
  refine wp_block ?_
  refine wp_loop_ghost (fun m a wr => ∃ i, i + m = N ∧ RG.Sl a 62 ∧ a.tmps[0]? = some (.slice (some ⟨kn, 0, none⟩) N N) ∧ a.tmps[1]? = some (.slice (some ⟨ka, 0, none⟩) N N) ∧ a.tmps[4]? = some (.pointer (some ⟨j1, 0, none⟩)) ∧ a.tmps[5]? = some (.slice (some ⟨j2, 0, none⟩) N N) ∧ a.tmps[15]? = some (.int .i64 (N : Int)) ∧ a.tmps[16]? = some (.int .i64 (i : Int)) ∧ RG.St w w.heap.size [] [[.int .u64 0, .int .u64 0, .int .u64 0, .int .u64 0, .int .u64 0, .int .u64 0, .int .u64 0, .int .u64 0], cc ns xs ys C i] [j1, j2] wr) N ⟨0, by omega, sl3, f0_3, f1_3, f4_3, f5_3, f15_3, f16_3, hS3⟩ ?_
  intro m a wr
  rintro ⟨i, him, sl, p0, p1, p4, p5, p15, p16, hSp⟩
  generalize j1 = kr at p4 hSp
  generalize j2 = kt at p5 hSp
  obtain ⟨C, hCe⟩ : ∃ c, cc ns xs ys C i = c := ⟨_, rfl⟩
  have hcc := cc_at (ns := ns) (xs := xs) (ys := ys) hCl i (by omega)
  rw [hCe] at hSp hcc
  by_cases hi : i < N
  · obtain ⟨C2, hC2e⟩ : ∃ c, fc (xs i) (ys i) (digs (ns i)) C (353 * i) 8 = c := ⟨_, rfl⟩
    have hoff : 353 * i + 353 ≤ C.length := by rw [hcc.1]; omega
    have hcl : C2.length = C.length := hC2e ▸ (fc_Fi hoff 8 (Nat.le_refl _)).len
    have hfill : ∀ (k : Nat) (w : World), w.there k 0 C.length → w.rangeAt k 0 C → Calls Try.prog 107 #[.pointer (some ⟨k, 353 * i, none⟩), nv (ns i), pv (xs i) (ys i)] w (Ret fun r w' => RG.PutTo k C.length C2 w w' ∧ r = .tuple #[]) := fun k w ht hr => hC2e ▸ fill_put F (hns i hi) (xs i) (ys i) C k (353 * i) hoff w ht hr
    have hrn : w.rangeAt kn (0 + 4 * i) (wn (ns i)) := by rw [Nat.zero_add]; exact hn i hi
    have hra : w.rangeAt ka (0 + 8 * i) (ws (xs i) ++ ws (ys i)) := by rw [Nat.zero_add]; exact ha i hi
    repeat refine wp_seq ?_
    refine RG.region_text' (its := F82b_3i N kn ka i q ns xs ys d C C2 s s2 s3 s4) (bl := F82b_3b N kn ka i q ns xs ys d C C2 s s2 s3 s4) (olds := F82b_3o N kn ka i q ns xs ys d C C2 s s2 s3 s4) hSp (RG.Reg.mk' (by rw [sl.size]; kernel_rfl) ⟨p16, p15, trivial⟩ ⟨?_, trivial⟩) (by kernel_rfl) (by kernel_rfl) ⟨RG.endB1_st (by kernel_rfl), List.forall_mem_cons.2 ⟨rfl, List.forall_mem_cons.2 ⟨rfl, fun _ h => absurd h List.not_mem_nil⟩⟩⟩ ?_
    · exact RG.cert_bin rfl .lss 3 3 16 15 (.int .i64 (i : Int)) (.int .i64 (N : Int)) (.bool true) rfl rfl (fun μ a K => K.old 16 (.v (.int .i64 (i : Int))) (List.Mem.head _) (by kernel_rfl)) (fun μ a K => K.old 15 (.v (.int .i64 (N : Int))) (List.Mem.tail _ (List.Mem.head _)) (by kernel_rfl)) (fun w => by kernel_rfl) (lssn_t hi)
    intro new11 w11 hl11 hS11
    obtain rfl := RG.len0 hl11
    replace hS11 : RG.St w w.heap.size [] [[.int .u64 0, .int .u64 0, .int .u64 0, .int .u64 0, .int .u64 0, .int .u64 0, .int .u64 0, .int .u64 0], C] [kr, kt] w11 := hS11
    have sl11 : RG.Sl (RG.puts (RG.ad ([kr, kt] ++ [])) (F82b_3i N kn ka i q ns xs ys d C C2 s s2 s3 s4) a) 62 := sl.puts
    have f0_11 := RG.put_old (μ := RG.ad ([kr, kt] ++ [])) (its := (F82b_3i N kn ka i q ns xs ys d C C2 s s2 s3 s4)) p0 (by kernel_rfl)
    have f1_11 := RG.put_old (μ := RG.ad ([kr, kt] ++ [])) (its := (F82b_3i N kn ka i q ns xs ys d C C2 s s2 s3 s4)) p1 (by kernel_rfl)
    have f4_11 := RG.put_old (μ := RG.ad ([kr, kt] ++ [])) (its := (F82b_3i N kn ka i q ns xs ys d C C2 s s2 s3 s4)) p4 (by kernel_rfl)
    have f5_11 := RG.put_old (μ := RG.ad ([kr, kt] ++ [])) (its := (F82b_3i N kn ka i q ns xs ys d C C2 s s2 s3 s4)) p5 (by kernel_rfl)
    have f15_11 := RG.put_old (μ := RG.ad ([kr, kt] ++ [])) (its := (F82b_3i N kn ka i q ns xs ys d C C2 s s2 s3 s4)) p15 (by kernel_rfl)
    have f16_11 := RG.put_old (μ := RG.ad ([kr, kt] ++ [])) (its := (F82b_3i N kn ka i q ns xs ys d C C2 s s2 s3 s4)) p16 (by kernel_rfl)
    have f17_11 : (RG.puts (RG.ad ([kr, kt] ++ [])) (F82b_3i N kn ka i q ns xs ys d C C2 s s2 s3 s4) a).tmps[17]? = some (.bool true) := by have h := RG.put_new (μ := RG.ad ([kr, kt] ++ [])) (its := (F82b_3i N kn ka i q ns xs ys d C C2 s s2 s3 s4)) sl 0 (by kernel_rfl) rfl rfl rfl; exact h
    generalize RG.puts (RG.ad ([kr, kt] ++ [])) (F82b_3i N kn ka i q ns xs ys d C C2 s s2 s3 s4) a = a11 at sl11 f0_11 f1_11 f4_11 f5_11 f15_11 f16_11 f17_11 ⊢
    repeat refine wp_seq ?_
    refine wp_cond_true (RG.eval_of f17_11) ?_
    refine wp_skip ?_
    refine wp_seq ?_
    refine wp_block ?_
    repeat refine wp_seq ?_
    refine RG.region_text' (its := F82b_4i N kn ka i q ns xs ys d C C2 s s2 s3 s4) (bl := F82b_4b N kn ka i q ns xs ys d C C2 s s2 s3 s4) (olds := F82b_4o N kn ka i q ns xs ys d C C2 s s2 s3 s4) hS11 (RG.Reg.mk' (by rw [sl11.size]; kernel_rfl) ⟨f16_11, trivial⟩ ⟨?_, ?_, trivial⟩) (by kernel_rfl) (by kernel_rfl) ⟨RG.endB1_st (by kernel_rfl), List.forall_mem_cons.2 ⟨rfl, List.forall_mem_cons.2 ⟨rfl, fun _ h => absurd h List.not_mem_nil⟩⟩⟩ ?_
    · exact RG.cert_move rfl 16 (Or.inl rfl) (fun μ a K => K.old 16 (.v (.int .i64 (i : Int))) (List.Mem.head _) (by kernel_rfl))
    · exact RG.cert_move rfl 18 (Or.inr rfl) (fun μ a K => by have h := K.op 18 0 (List.Mem.head _) rfl; exact h)
    intro new12 w12 hl12 hS12
    obtain rfl := RG.len0 hl12
    replace hS12 : RG.St w w.heap.size [] [[.int .u64 0, .int .u64 0, .int .u64 0, .int .u64 0, .int .u64 0, .int .u64 0, .int .u64 0, .int .u64 0], C] [kr, kt] w12 := hS12
    have sl12 : RG.Sl (RG.puts (RG.ad ([kr, kt] ++ [])) (F82b_4i N kn ka i q ns xs ys d C C2 s s2 s3 s4) a11) 62 := sl11.puts
    have f0_12 := RG.put_old (μ := RG.ad ([kr, kt] ++ [])) (its := (F82b_4i N kn ka i q ns xs ys d C C2 s s2 s3 s4)) f0_11 (by kernel_rfl)
    have f1_12 := RG.put_old (μ := RG.ad ([kr, kt] ++ [])) (its := (F82b_4i N kn ka i q ns xs ys d C C2 s s2 s3 s4)) f1_11 (by kernel_rfl)
    have f4_12 := RG.put_old (μ := RG.ad ([kr, kt] ++ [])) (its := (F82b_4i N kn ka i q ns xs ys d C C2 s s2 s3 s4)) f4_11 (by kernel_rfl)
    have f5_12 := RG.put_old (μ := RG.ad ([kr, kt] ++ [])) (its := (F82b_4i N kn ka i q ns xs ys d C C2 s s2 s3 s4)) f5_11 (by kernel_rfl)
    have f6_12 : (RG.puts (RG.ad ([kr, kt] ++ [])) (F82b_4i N kn ka i q ns xs ys d C C2 s s2 s3 s4) a11).tmps[6]? = some (.int .i64 (i : Int)) := by have h := RG.put_new (μ := RG.ad ([kr, kt] ++ [])) (its := (F82b_4i N kn ka i q ns xs ys d C C2 s s2 s3 s4)) sl11 1 (by kernel_rfl) rfl rfl rfl; exact h
    have f15_12 := RG.put_old (μ := RG.ad ([kr, kt] ++ [])) (its := (F82b_4i N kn ka i q ns xs ys d C C2 s s2 s3 s4)) f15_11 (by kernel_rfl)
    have f16_12 := RG.put_old (μ := RG.ad ([kr, kt] ++ [])) (its := (F82b_4i N kn ka i q ns xs ys d C C2 s s2 s3 s4)) f16_11 (by kernel_rfl)
    generalize RG.puts (RG.ad ([kr, kt] ++ [])) (F82b_4i N kn ka i q ns xs ys d C C2 s s2 s3 s4) a11 = a12 at sl12 f0_12 f1_12 f4_12 f5_12 f6_12 f15_12 f16_12 ⊢
    repeat refine wp_seq ?_
    refine RG.region_draws' (by kernel_rfl) (its := F82b_5i N kn ka i q ns xs ys d C C2 s s2 s3 s4) (bl := F82b_5b N kn ka i q ns xs ys d C C2 s s2 s3 s4) (olds := F82b_5o N kn ka i q ns xs ys d C C2 s s2 s3 s4) hS12 (RG.Reg.mk' (by rw [sl12.size]; kernel_rfl) ⟨f5_12, f6_12, f0_12, f1_12, trivial⟩ ⟨?_, ?_, ?_, ?_, ?_, ?_, ?_, ?_, ?_, ?_, ?_, ?_, trivial⟩) (by kernel_rfl) (by kernel_rfl) ⟨RG.endB1_st (by kernel_rfl), List.forall_mem_cons.2 ⟨rfl, List.forall_mem_cons.2 ⟨hcl, fun _ h => absurd h List.not_mem_nil⟩⟩⟩ ?_
    · exact RG.cert_move rfl 5 (Or.inl rfl) (fun μ a K => K.old 5 (.s 1 N N) (List.Mem.head _) (by kernel_rfl))
    · exact RG.cert_move rfl 6 (Or.inl rfl) (fun μ a K => K.old 6 (.v (.int .i64 (i : Int))) (List.Mem.tail _ (List.Mem.head _)) (by kernel_rfl))
    · exact RG.cert_idx rfl 135 19 20 rfl (.s 1 N N) (.int .i64 (i : Int)) (fun μ a K => by have h := K.op 19 0 (List.Mem.head _) rfl; exact h) (fun μ a K => by have h := K.op 20 1 (List.Mem.tail _ (List.Mem.head _)) rfl; exact h) (fun μ w => at135 _ _ _ i hi w)
    · exact RG.cert_move rfl 0 (Or.inl rfl) (fun μ a K => K.old 0 (.v (.slice (some ⟨kn, 0, none⟩) N N)) (List.Mem.tail _ (List.Mem.tail _ (List.Mem.head _))) (by kernel_rfl))
    · exact RG.cert_move rfl 6 (Or.inl rfl) (fun μ a K => K.old 6 (.v (.int .i64 (i : Int))) (List.Mem.tail _ (List.Mem.head _)) (by kernel_rfl))
    · exact RG.cert_idx rfl 82 22 23 rfl (.v (.slice (some ⟨kn, 0, none⟩) N N)) (.int .i64 (i : Int)) (fun μ a K => by have h := K.op 22 3 (List.Mem.head _) rfl; exact h) (fun μ a K => by have h := K.op 23 4 (List.Mem.tail _ (List.Mem.head _)) rfl; exact h) (fun μ w => at82 _ _ _ _ i hi w)
    · exact RG.cert_loadB rfl kn (0 + 4 * i) hkn List.not_mem_nil 85 24 rfl (wn (ns i)) rfl (fun μ a K => by have h := K.op 24 5 (List.Mem.head _) rfl; exact h) hrn u85 i85
    · exact RG.cert_move rfl 1 (Or.inl rfl) (fun μ a K => K.old 1 (.v (.slice (some ⟨ka, 0, none⟩) N N)) (List.Mem.tail _ (List.Mem.tail _ (List.Mem.tail _ (List.Mem.head _)))) (by kernel_rfl))
    · exact RG.cert_move rfl 6 (Or.inl rfl) (fun μ a K => K.old 6 (.v (.int .i64 (i : Int))) (List.Mem.tail _ (List.Mem.head _)) (by kernel_rfl))
    · exact RG.cert_idx rfl 112 26 27 rfl (.v (.slice (some ⟨ka, 0, none⟩) N N)) (.int .i64 (i : Int)) (fun μ a K => by have h := K.op 26 7 (List.Mem.head _) rfl; exact h) (fun μ a K => by have h := K.op 27 8 (List.Mem.tail _ (List.Mem.head _)) rfl; exact h) (fun μ w => at112 _ _ _ _ i hi w)
    · exact RG.cert_loadB rfl ka (0 + 8 * i) hka List.not_mem_nil 109 28 rfl (ws (xs i) ++ ws (ys i)) rfl (fun μ a K => by have h := K.op 28 9 (List.Mem.head _) rfl; exact h) hra u109 i109
    · exact RG.cert_callput3 1 rfl _ rfl 107 21 25 29 (.p 1 (353 * i)) (nv (ns i)) (pv (xs i) (ys i)) (.tuple #[]) rfl (fun a w => by kernel_rfl) (fun μ a K => by have h := K.op 21 2 (List.Mem.head _) rfl; exact h) (fun μ a K => by have h := K.op 25 6 (List.Mem.tail _ (List.Mem.head _)) rfl; exact h) (fun μ a K => by have h := K.op 29 10 (List.Mem.tail _ (List.Mem.tail _ (List.Mem.head _))) rfl; exact h) (fun μ w ht hr => hfill (μ 1) w ht hr)
    intro new13 w13 hl13 hS13
    obtain rfl := RG.len0 hl13
    replace hS13 : RG.St w w.heap.size [] [[.int .u64 0, .int .u64 0, .int .u64 0, .int .u64 0, .int .u64 0, .int .u64 0, .int .u64 0, .int .u64 0], C2] [kr, kt] w13 := hS13
    have sl13 : RG.Sl (RG.puts (RG.ad ([kr, kt] ++ [])) (F82b_5i N kn ka i q ns xs ys d C C2 s s2 s3 s4) a12) 62 := sl12.puts
    have f0_13 := RG.put_old (μ := RG.ad ([kr, kt] ++ [])) (its := (F82b_5i N kn ka i q ns xs ys d C C2 s s2 s3 s4)) f0_12 (by kernel_rfl)
    have f1_13 := RG.put_old (μ := RG.ad ([kr, kt] ++ [])) (its := (F82b_5i N kn ka i q ns xs ys d C C2 s s2 s3 s4)) f1_12 (by kernel_rfl)
    have f4_13 := RG.put_old (μ := RG.ad ([kr, kt] ++ [])) (its := (F82b_5i N kn ka i q ns xs ys d C C2 s s2 s3 s4)) f4_12 (by kernel_rfl)
    have f5_13 := RG.put_old (μ := RG.ad ([kr, kt] ++ [])) (its := (F82b_5i N kn ka i q ns xs ys d C C2 s s2 s3 s4)) f5_12 (by kernel_rfl)
    have f15_13 := RG.put_old (μ := RG.ad ([kr, kt] ++ [])) (its := (F82b_5i N kn ka i q ns xs ys d C C2 s s2 s3 s4)) f15_12 (by kernel_rfl)
    have f16_13 := RG.put_old (μ := RG.ad ([kr, kt] ++ [])) (its := (F82b_5i N kn ka i q ns xs ys d C C2 s s2 s3 s4)) f16_12 (by kernel_rfl)
    generalize RG.puts (RG.ad ([kr, kt] ++ [])) (F82b_5i N kn ka i q ns xs ys d C C2 s s2 s3 s4) a12 = a13 at sl13 f0_13 f1_13 f4_13 f5_13 f15_13 f16_13 ⊢
    repeat refine wp_seq ?_
    refine RG.region_text' (its := F82b_6i N kn ka i q ns xs ys d C C2 s s2 s3 s4) (bl := F82b_6b N kn ka i q ns xs ys d C C2 s s2 s3 s4) (olds := F82b_6o N kn ka i q ns xs ys d C C2 s s2 s3 s4) hS13 (RG.Reg.mk' (by rw [sl13.size]; kernel_rfl) ⟨f16_13, trivial⟩ ⟨?_, ?_, trivial⟩) (by kernel_rfl) (by kernel_rfl) ⟨RG.endB1_st (by kernel_rfl), List.forall_mem_cons.2 ⟨rfl, List.forall_mem_cons.2 ⟨rfl, fun _ h => absurd h List.not_mem_nil⟩⟩⟩ ?_
    · exact RG.cert_binc rfl .add 3 3 16 (.int .i64 (i : Int)) (.int .i64 1) (.int .i64 ((i + 1 : Nat) : Int)) rfl rfl (fun μ a K => K.old 16 (.v (.int .i64 (i : Int))) (List.Mem.head _) (by kernel_rfl)) (fun w => by kernel_rfl) (addn i 1 (by omega) (by omega))
    · exact RG.cert_move rfl 31 (Or.inl rfl) (fun μ a K => by have h := K.op 31 0 (List.Mem.head _) rfl; exact h)
    intro new14 w14 hl14 hS14
    obtain rfl := RG.len0 hl14
    replace hS14 : RG.St w w.heap.size [] [[.int .u64 0, .int .u64 0, .int .u64 0, .int .u64 0, .int .u64 0, .int .u64 0, .int .u64 0, .int .u64 0], C2] [kr, kt] w14 := hS14
    have sl14 : RG.Sl (RG.puts (RG.ad ([kr, kt] ++ [])) (F82b_6i N kn ka i q ns xs ys d C C2 s s2 s3 s4) a13) 62 := sl13.puts
    have f0_14 := RG.put_old (μ := RG.ad ([kr, kt] ++ [])) (its := (F82b_6i N kn ka i q ns xs ys d C C2 s s2 s3 s4)) f0_13 (by kernel_rfl)
    have f1_14 := RG.put_old (μ := RG.ad ([kr, kt] ++ [])) (its := (F82b_6i N kn ka i q ns xs ys d C C2 s s2 s3 s4)) f1_13 (by kernel_rfl)
    have f4_14 := RG.put_old (μ := RG.ad ([kr, kt] ++ [])) (its := (F82b_6i N kn ka i q ns xs ys d C C2 s s2 s3 s4)) f4_13 (by kernel_rfl)
    have f5_14 := RG.put_old (μ := RG.ad ([kr, kt] ++ [])) (its := (F82b_6i N kn ka i q ns xs ys d C C2 s s2 s3 s4)) f5_13 (by kernel_rfl)
    have f15_14 := RG.put_old (μ := RG.ad ([kr, kt] ++ [])) (its := (F82b_6i N kn ka i q ns xs ys d C C2 s s2 s3 s4)) f15_13 (by kernel_rfl)
    have f16_14 : (RG.puts (RG.ad ([kr, kt] ++ [])) (F82b_6i N kn ka i q ns xs ys d C C2 s s2 s3 s4) a13).tmps[16]? = some (.int .i64 ((i + 1 : Nat) : Int)) := by have h := RG.put_new (μ := RG.ad ([kr, kt] ++ [])) (its := (F82b_6i N kn ka i q ns xs ys d C C2 s s2 s3 s4)) sl13 1 (by kernel_rfl) rfl rfl rfl; exact h
    generalize RG.puts (RG.ad ([kr, kt] ++ [])) (F82b_6i N kn ka i q ns xs ys d C C2 s s2 s3 s4) a13 = a14 at sl14 f0_14 f1_14 f4_14 f5_14 f15_14 f16_14 ⊢
    show ∃ n', _
    refine ⟨m - 1, by omega, i + 1, by omega, sl14, f0_14, f1_14, f4_14, f5_14, f15_14, f16_14, ?_⟩
    rw [hstepC i C2 (by rw [hCe]; exact hC2e)]
    exact hS14
  · have hiN : i = N := by omega
    rw [hiN] at hcc
    have hcN := hcc.2
    repeat refine wp_seq ?_
    refine RG.region_text' (its := F82c_3i N kn ka i q ns xs ys d C C2 s s2 s3 s4) (bl := F82c_3b N kn ka i q ns xs ys d C C2 s s2 s3 s4) (olds := F82c_3o N kn ka i q ns xs ys d C C2 s s2 s3 s4) hSp (RG.Reg.mk' (by rw [sl.size]; kernel_rfl) ⟨p16, p15, trivial⟩ ⟨?_, trivial⟩) (by kernel_rfl) (by kernel_rfl) ⟨RG.endB1_st (by kernel_rfl), List.forall_mem_cons.2 ⟨rfl, List.forall_mem_cons.2 ⟨rfl, fun _ h => absurd h List.not_mem_nil⟩⟩⟩ ?_
    · exact RG.cert_bin rfl .lss 3 3 16 15 (.int .i64 (i : Int)) (.int .i64 (N : Int)) (.bool false) rfl rfl (fun μ a K => K.old 16 (.v (.int .i64 (i : Int))) (List.Mem.head _) (by kernel_rfl)) (fun μ a K => K.old 15 (.v (.int .i64 (N : Int))) (List.Mem.tail _ (List.Mem.head _)) (by kernel_rfl)) (fun w => by kernel_rfl) (lssn_f hi)
    intro new21 w21 hl21 hS21
    obtain rfl := RG.len0 hl21
    replace hS21 : RG.St w w.heap.size [] [[.int .u64 0, .int .u64 0, .int .u64 0, .int .u64 0, .int .u64 0, .int .u64 0, .int .u64 0, .int .u64 0], C] [kr, kt] w21 := hS21
    have sl21 : RG.Sl (RG.puts (RG.ad ([kr, kt] ++ [])) (F82c_3i N kn ka i q ns xs ys d C C2 s s2 s3 s4) a) 62 := sl.puts
    have f4_21 := RG.put_old (μ := RG.ad ([kr, kt] ++ [])) (its := (F82c_3i N kn ka i q ns xs ys d C C2 s s2 s3 s4)) p4 (by kernel_rfl)
    have f5_21 := RG.put_old (μ := RG.ad ([kr, kt] ++ [])) (its := (F82c_3i N kn ka i q ns xs ys d C C2 s s2 s3 s4)) p5 (by kernel_rfl)
    have f17_21 : (RG.puts (RG.ad ([kr, kt] ++ [])) (F82c_3i N kn ka i q ns xs ys d C C2 s s2 s3 s4) a).tmps[17]? = some (.bool false) := by have h := RG.put_new (μ := RG.ad ([kr, kt] ++ [])) (its := (F82c_3i N kn ka i q ns xs ys d C C2 s s2 s3 s4)) sl 0 (by kernel_rfl) rfl rfl rfl; exact h
    generalize RG.puts (RG.ad ([kr, kt] ++ [])) (F82c_3i N kn ka i q ns xs ys d C C2 s s2 s3 s4) a = a21 at sl21 f4_21 f5_21 f17_21 ⊢
    repeat refine wp_seq ?_
    refine wp_cond_false (RG.eval_of f17_21) ?_
    refine wp_exit ?_
    dsimp only [Exit.then, Exit.inBlock]
    rw [if_pos rfl]
    repeat refine wp_seq ?_
    refine RG.region_text' (its := F82c_7i N kn ka i q ns xs ys d C C2 s s2 s3 s4) (bl := F82c_7b N kn ka i q ns xs ys d C C2 s s2 s3 s4) (olds := F82c_7o N kn ka i q ns xs ys d C C2 s s2 s3 s4) hS21 (RG.Reg.mk' (by rw [sl21.size]; kernel_rfl) trivial ⟨?_, trivial⟩) (by kernel_rfl) (by kernel_rfl) ⟨RG.endB1_st (by kernel_rfl), List.forall_mem_cons.2 ⟨rfl, List.forall_mem_cons.2 ⟨rfl, List.forall_mem_cons.2 ⟨rfl, fun _ h => absurd h List.not_mem_nil⟩⟩⟩⟩ ?_
    · exact RG.cert_alloc 2 rfl rfl _ rfl 117 rfl (al117)
    intro new22 w22 hl22 hS22
    obtain ⟨j22, rfl⟩ := RG.len1 hl22
    clear hl22
    replace hS22 : RG.St w w.heap.size [] [[.int .u64 0, .int .u64 0, .int .u64 0, .int .u64 0, .int .u64 0, .int .u64 0, .int .u64 0, .int .u64 0], C, (tw ((0, 0, 0) : T3 P))] [kr, kt, j22] w22 := hS22
    have sl22 : RG.Sl (RG.puts (RG.ad ([kr, kt] ++ [j22])) (F82c_7i N kn ka i q ns xs ys d C C2 s s2 s3 s4) a21) 62 := sl21.puts
    have f4_22 := RG.put_old (μ := RG.ad ([kr, kt] ++ [j22])) (its := (F82c_7i N kn ka i q ns xs ys d C C2 s s2 s3 s4)) f4_21 (by kernel_rfl)
    have f5_22 := RG.put_old (μ := RG.ad ([kr, kt] ++ [j22])) (its := (F82c_7i N kn ka i q ns xs ys d C C2 s s2 s3 s4)) f5_21 (by kernel_rfl)
    have f7_22 : (RG.puts (RG.ad ([kr, kt] ++ [j22])) (F82c_7i N kn ka i q ns xs ys d C C2 s s2 s3 s4) a21).tmps[7]? = some (.pointer (some ⟨j22, 0, none⟩)) := by have h := RG.put_new (μ := RG.ad ([kr, kt] ++ [j22])) (its := (F82c_7i N kn ka i q ns xs ys d C C2 s s2 s3 s4)) sl21 0 (by kernel_rfl) rfl rfl rfl; exact h
    generalize RG.puts (RG.ad ([kr, kt] ++ [j22])) (F82c_7i N kn ka i q ns xs ys d C C2 s s2 s3 s4) a21 = a22 at sl22 f4_22 f5_22 f7_22 ⊢
    repeat refine wp_seq ?_
    refine RG.region_text' (its := F82c_8i N kn ka i q ns xs ys d C C2 s s2 s3 s4) (bl := F82c_8b N kn ka i q ns xs ys d C C2 s s2 s3 s4) (olds := F82c_8o N kn ka i q ns xs ys d C C2 s s2 s3 s4) hS22 (RG.Reg.mk' (by rw [sl22.size]; kernel_rfl) trivial ⟨?_, trivial⟩) (by kernel_rfl) (by kernel_rfl) ⟨RG.endB1_st (by kernel_rfl), List.forall_mem_cons.2 ⟨rfl, List.forall_mem_cons.2 ⟨rfl, List.forall_mem_cons.2 ⟨rfl, fun _ h => absurd h List.not_mem_nil⟩⟩⟩⟩ ?_
    · exact RG.cert_stay rfl (fun μ a w _ _ => by kernel_rfl)
    intro new23 w23 hl23 hS23
    obtain rfl := RG.len0 hl23
    replace hS23 : RG.St w w.heap.size [] [[.int .u64 0, .int .u64 0, .int .u64 0, .int .u64 0, .int .u64 0, .int .u64 0, .int .u64 0, .int .u64 0], C, (tw ((0, 0, 0) : T3 P))] [kr, kt, j22] w23 := hS23
    have sl23 : RG.Sl (RG.puts (RG.ad ([kr, kt, j22] ++ [])) (F82c_8i N kn ka i q ns xs ys d C C2 s s2 s3 s4) a22) 62 := sl22.puts
    have f4_23 := RG.put_old (μ := RG.ad ([kr, kt, j22] ++ [])) (its := (F82c_8i N kn ka i q ns xs ys d C C2 s s2 s3 s4)) f4_22 (by kernel_rfl)
    have f5_23 := RG.put_old (μ := RG.ad ([kr, kt, j22] ++ [])) (its := (F82c_8i N kn ka i q ns xs ys d C C2 s s2 s3 s4)) f5_22 (by kernel_rfl)
    have f7_23 := RG.put_old (μ := RG.ad ([kr, kt, j22] ++ [])) (its := (F82c_8i N kn ka i q ns xs ys d C C2 s s2 s3 s4)) f7_22 (by kernel_rfl)
    have f8_23 : (RG.puts (RG.ad ([kr, kt, j22] ++ [])) (F82c_8i N kn ka i q ns xs ys d C C2 s s2 s3 s4) a22).tmps[8]? = some (.int .i64 256) := by have h := RG.put_new (μ := RG.ad ([kr, kt, j22] ++ [])) (its := (F82c_8i N kn ka i q ns xs ys d C C2 s s2 s3 s4)) sl22 0 (by kernel_rfl) rfl rfl rfl; exact h
    generalize RG.puts (RG.ad ([kr, kt, j22] ++ [])) (F82c_8i N kn ka i q ns xs ys d C C2 s s2 s3 s4) a22 = a23 at sl23 f4_23 f5_23 f7_23 f8_23 ⊢
    repeat refine wp_seq ?_
    refine wp_block ?_
    refine wp_loop_ghost (fun m a wr => m ≤ 257 ∧ RG.Sl a 62 ∧ a.tmps[4]? = some (.pointer (some ⟨kr, 0, none⟩)) ∧ a.tmps[5]? = some (.slice (some ⟨kt, 0, none⟩) N N) ∧ a.tmps[7]? = some (.pointer (some ⟨j22, 0, none⟩)) ∧ a.tmps[8]? = some (.int .i64 ((m : Int) - 1)) ∧ RG.St w w.heap.size [] [[.int .u64 0, .int .u64 0, .int .u64 0, .int .u64 0, .int .u64 0, .int .u64 0, .int .u64 0, .int .u64 0], C, tw (sumJ ns xs ys N (257 - m))] [kr, kt, j22] wr) 257 ⟨Nat.le_refl _, sl23, f4_23, f5_23, f7_23, f8_23, ?_⟩ ?_
    · rw [Nat.sub_self, sumJ]
      exact hS23
    intro m b wr
    rintro ⟨hm, slb, q4, q5, q7, q8, hSq⟩
    generalize j22 = kl at q7 hSq
    by_cases hz : m = 0
    · subst hz
      rw [show 257 - 0 = 257 from rfl] at hSq
      obtain ⟨s, hse⟩ : ∃ s, sumJ ns xs ys N 257 = s := ⟨_, rfl⟩
      rw [hse] at hSq
      repeat refine wp_seq ?_
      refine RG.region_text' (its := F82e_9i N kn ka i q ns xs ys d C C2 s s2 s3 s4) (bl := F82e_9b N kn ka i q ns xs ys d C C2 s s2 s3 s4) (olds := F82e_9o N kn ka i q ns xs ys d C C2 s s2 s3 s4) hSq (RG.Reg.mk' (by rw [slb.size]; kernel_rfl) ⟨q8, trivial⟩ ⟨?_, ?_, trivial⟩) (by kernel_rfl) (by kernel_rfl) ⟨RG.endB1_st (by kernel_rfl), List.forall_mem_cons.2 ⟨rfl, List.forall_mem_cons.2 ⟨rfl, List.forall_mem_cons.2 ⟨rfl, fun _ h => absurd h List.not_mem_nil⟩⟩⟩⟩ ?_
      · exact RG.cert_move rfl 8 (Or.inl rfl) (fun μ a K => K.old 8 (.v (.int .i64 (-1))) (List.Mem.head _) (by kernel_rfl))
      · exact RG.cert_binc rfl .geq 3 3 32 (.int .i64 (-1)) (.int .i64 0) (.bool false) rfl rfl (fun μ a K => by have h := K.op 32 0 (List.Mem.head _) rfl; exact h) (fun w => by kernel_rfl) (fun w => by kernel_rfl)
      intro new41 w41 hl41 hS41
      obtain rfl := RG.len0 hl41
      replace hS41 : RG.St w w.heap.size [] [[.int .u64 0, .int .u64 0, .int .u64 0, .int .u64 0, .int .u64 0, .int .u64 0, .int .u64 0, .int .u64 0], C, (tw s)] [kr, kt, kl] w41 := hS41
      have sl41 : RG.Sl (RG.puts (RG.ad ([kr, kt, kl] ++ [])) (F82e_9i N kn ka i q ns xs ys d C C2 s s2 s3 s4) b) 62 := slb.puts
      have f4_41 := RG.put_old (μ := RG.ad ([kr, kt, kl] ++ [])) (its := (F82e_9i N kn ka i q ns xs ys d C C2 s s2 s3 s4)) q4 (by kernel_rfl)
      have f7_41 := RG.put_old (μ := RG.ad ([kr, kt, kl] ++ [])) (its := (F82e_9i N kn ka i q ns xs ys d C C2 s s2 s3 s4)) q7 (by kernel_rfl)
      have f33_41 : (RG.puts (RG.ad ([kr, kt, kl] ++ [])) (F82e_9i N kn ka i q ns xs ys d C C2 s s2 s3 s4) b).tmps[33]? = some (.bool false) := by have h := RG.put_new (μ := RG.ad ([kr, kt, kl] ++ [])) (its := (F82e_9i N kn ka i q ns xs ys d C C2 s s2 s3 s4)) slb 1 (by kernel_rfl) rfl rfl rfl; exact h
      generalize RG.puts (RG.ad ([kr, kt, kl] ++ [])) (F82e_9i N kn ka i q ns xs ys d C C2 s s2 s3 s4) b = a41 at sl41 f4_41 f7_41 f33_41 ⊢
      repeat refine wp_seq ?_
      refine wp_cond_false (RG.eval_of f33_41) ?_
      refine wp_exit ?_
      dsimp only [Exit.then, Exit.inBlock]
      rw [if_pos rfl]
      repeat refine wp_seq ?_
      refine RG.region_text' (its := F82e_19i N kn ka i q ns xs ys d C C2 s s2 s3 s4) (bl := F82e_19b N kn ka i q ns xs ys d C C2 s s2 s3 s4) (olds := F82e_19o N kn ka i q ns xs ys d C C2 s s2 s3 s4) hS41 (RG.Reg.mk' (by rw [sl41.size]; kernel_rfl) ⟨f7_41, f4_41, trivial⟩ ⟨?_, ?_, ?_, trivial⟩) (by kernel_rfl) (by kernel_rfl) ⟨RG.endB1_st (by kernel_rfl), List.forall_mem_cons.2 ⟨rfl, List.forall_mem_cons.2 ⟨rfl, List.forall_mem_cons.2 ⟨rfl, fun _ h => absurd h List.not_mem_nil⟩⟩⟩⟩ ?_
      · exact RG.cert_load rfl 2 0 _ rfl rfl (by kernel_rfl) 117 7 rfl (tw s) rfl (fun μ a K => K.old 7 (.p 2 0) (List.Mem.head _) (by kernel_rfl)) (by kernel_rfl) u117 i117
      · exact RG.cert_call1 rfl 75 60 (tv s) (pv (s.1 * (EC.inv s.2.2 * EC.inv s.2.2)) (s.2.1 * (EC.inv s.2.2 * EC.inv s.2.2) * EC.inv s.2.2)) rfl (fun a w => by kernel_rfl) (fun μ a K => by have h := K.op 60 0 (List.Mem.head _) rfl; exact h) (ptJ_c F s)
      · exact RG.cert_put 0 rfl _ rfl 109 (.tmp 4) (.tmp 61) rfl rfl rfl (fun μ a K => K.old 4 (.p 0 0) (List.Mem.tail _ (List.Mem.head _)) (by kernel_rfl)) (fun μ a K => by have h := K.op 61 1 (List.Mem.head _) rfl; exact h) i109 rfl
      intro new42 w42 hl42 hS42
      obtain rfl := RG.len0 hl42
      replace hS42 : RG.St w w.heap.size [] [(ws (s.1 * (EC.inv s.2.2 * EC.inv s.2.2)) ++ (ws (s.2.1 * (EC.inv s.2.2 * EC.inv s.2.2) * EC.inv s.2.2))), C, (tw s)] [kr, kt, kl] w42 := hS42
      have sl42 : RG.Sl (RG.puts (RG.ad ([kr, kt, kl] ++ [])) (F82e_19i N kn ka i q ns xs ys d C C2 s s2 s3 s4) a41) 62 := sl41.puts
      have f4_42 := RG.put_old (μ := RG.ad ([kr, kt, kl] ++ [])) (its := (F82e_19i N kn ka i q ns xs ys d C C2 s s2 s3 s4)) f4_41 (by kernel_rfl)
      generalize RG.puts (RG.ad ([kr, kt, kl] ++ [])) (F82e_19i N kn ka i q ns xs ys d C C2 s s2 s3 s4) a41 = a42 at sl42 f4_42 ⊢
      refine wp_ret ?_
      refine bodyPost_ret (v := pv (s.1 * (EC.inv s.2.2 * EC.inv s.2.2)) (s.2.1 * (EC.inv s.2.2 * EC.inv s.2.2) * EC.inv s.2.2)) (RG.results_row hS42 4 109 rfl 0 _ rfl f4_42 u109 i109) sl42.defers ?_
      exact ⟨_, rfl, hS42.bel.below, s, hse.symm, rfl⟩
    · obtain ⟨q, rfl⟩ : ∃ q, m = q + 1 := ⟨m - 1, by omega⟩
      have hq : q < 257 := by omega
      replace q8 : b.tmps[8]? = some (.int .i64 (q : Int)) := by rw [q8]; congr 2; omega
      obtain ⟨s, hse⟩ : ∃ s, sumJ ns xs ys N (257 - (q + 1)) = s := ⟨_, rfl⟩
      rw [hse] at hSq
      obtain ⟨s2, hs2e⟩ : ∃ t, twJ s = t := ⟨_, rfl⟩
      have hs2 : Gives 103 #[tv s] (tv s2) := hs2e ▸ twJ_c F s
      have hnext : sumJ ns xs ys N (257 - q) = inn ns xs ys s2 q N := by
        rw [show 257 - q = 257 - (q + 1) + 1 by omega]
        show inn ns xs ys (twJ (sumJ ns xs ys N (257 - (q + 1)))) (256 - (257 - (q + 1))) N = _
        rw [hse, hs2e, show 256 - (257 - (q + 1)) = q by omega]
      repeat refine wp_seq ?_
      refine RG.region_text' (its := F82d_9i N kn ka i q ns xs ys d C C2 s s2 s3 s4) (bl := F82d_9b N kn ka i q ns xs ys d C C2 s s2 s3 s4) (olds := F82d_9o N kn ka i q ns xs ys d C C2 s s2 s3 s4) hSq (RG.Reg.mk' (by rw [slb.size]; kernel_rfl) ⟨q8, trivial⟩ ⟨?_, ?_, trivial⟩) (by kernel_rfl) (by kernel_rfl) ⟨RG.endB1_st (by kernel_rfl), List.forall_mem_cons.2 ⟨rfl, List.forall_mem_cons.2 ⟨rfl, List.forall_mem_cons.2 ⟨rfl, fun _ h => absurd h List.not_mem_nil⟩⟩⟩⟩ ?_
      · exact RG.cert_move rfl 8 (Or.inl rfl) (fun μ a K => K.old 8 (.v (.int .i64 (q : Int))) (List.Mem.head _) (by kernel_rfl))
      · exact RG.cert_binc rfl .geq 3 3 32 (.int .i64 (q : Int)) (.int .i64 0) (.bool true) rfl rfl (fun μ a K => by have h := K.op 32 0 (List.Mem.head _) rfl; exact h) (fun w => by kernel_rfl) (geq0' q)
      intro new31 w31 hl31 hS31
      obtain rfl := RG.len0 hl31
      replace hS31 : RG.St w w.heap.size [] [[.int .u64 0, .int .u64 0, .int .u64 0, .int .u64 0, .int .u64 0, .int .u64 0, .int .u64 0, .int .u64 0], C, (tw s)] [kr, kt, kl] w31 := hS31
      have sl31 : RG.Sl (RG.puts (RG.ad ([kr, kt, kl] ++ [])) (F82d_9i N kn ka i q ns xs ys d C C2 s s2 s3 s4) b) 62 := slb.puts
      have f4_31 := RG.put_old (μ := RG.ad ([kr, kt, kl] ++ [])) (its := (F82d_9i N kn ka i q ns xs ys d C C2 s s2 s3 s4)) q4 (by kernel_rfl)
      have f5_31 := RG.put_old (μ := RG.ad ([kr, kt, kl] ++ [])) (its := (F82d_9i N kn ka i q ns xs ys d C C2 s s2 s3 s4)) q5 (by kernel_rfl)
      have f7_31 := RG.put_old (μ := RG.ad ([kr, kt, kl] ++ [])) (its := (F82d_9i N kn ka i q ns xs ys d C C2 s s2 s3 s4)) q7 (by kernel_rfl)
      have f8_31 := RG.put_old (μ := RG.ad ([kr, kt, kl] ++ [])) (its := (F82d_9i N kn ka i q ns xs ys d C C2 s s2 s3 s4)) q8 (by kernel_rfl)
      have f33_31 : (RG.puts (RG.ad ([kr, kt, kl] ++ [])) (F82d_9i N kn ka i q ns xs ys d C C2 s s2 s3 s4) b).tmps[33]? = some (.bool true) := by have h := RG.put_new (μ := RG.ad ([kr, kt, kl] ++ [])) (its := (F82d_9i N kn ka i q ns xs ys d C C2 s s2 s3 s4)) slb 1 (by kernel_rfl) rfl rfl rfl; exact h
      generalize RG.puts (RG.ad ([kr, kt, kl] ++ [])) (F82d_9i N kn ka i q ns xs ys d C C2 s s2 s3 s4) b = a31 at sl31 f4_31 f5_31 f7_31 f8_31 f33_31 ⊢
      repeat refine wp_seq ?_
      refine wp_cond_true (RG.eval_of f33_31) ?_
      refine wp_skip ?_
      refine wp_seq ?_
      refine wp_block ?_
      repeat refine wp_seq ?_
      refine RG.region_text' (its := F82d_11i N kn ka i q ns xs ys d C C2 s s2 s3 s4) (bl := F82d_11b N kn ka i q ns xs ys d C C2 s s2 s3 s4) (olds := F82d_11o N kn ka i q ns xs ys d C C2 s s2 s3 s4) hS31 (RG.Reg.mk' (by rw [sl31.size]; kernel_rfl) ⟨f7_31, trivial⟩ ⟨?_, ?_, ?_, trivial⟩) (by kernel_rfl) (by kernel_rfl) ⟨RG.endB1_st (by kernel_rfl), List.forall_mem_cons.2 ⟨rfl, List.forall_mem_cons.2 ⟨rfl, List.forall_mem_cons.2 ⟨rfl, fun _ h => absurd h List.not_mem_nil⟩⟩⟩⟩ ?_
      · exact RG.cert_load rfl 2 0 _ rfl rfl (by kernel_rfl) 117 7 rfl (tw s) rfl (fun μ a K => K.old 7 (.p 2 0) (List.Mem.head _) (by kernel_rfl)) (by kernel_rfl) u117 i117
      · exact RG.cert_call1 rfl 103 36 (tv s) (tv s2) rfl (fun a w => by kernel_rfl) (fun μ a K => by have h := K.op 36 0 (List.Mem.head _) rfl; exact h) (hs2)
      · exact RG.cert_put 2 rfl _ rfl 117 (.tmp 7) (.tmp 37) rfl rfl rfl (fun μ a K => K.old 7 (.p 2 0) (List.Mem.head _) (by kernel_rfl)) (fun μ a K => by have h := K.op 37 1 (List.Mem.head _) rfl; exact h) i117 rfl
      intro new32 w32 hl32 hS32
      obtain rfl := RG.len0 hl32
      replace hS32 : RG.St w w.heap.size [] [[.int .u64 0, .int .u64 0, .int .u64 0, .int .u64 0, .int .u64 0, .int .u64 0, .int .u64 0, .int .u64 0], C, (tw s2)] [kr, kt, kl] w32 := hS32
      have sl32 : RG.Sl (RG.puts (RG.ad ([kr, kt, kl] ++ [])) (F82d_11i N kn ka i q ns xs ys d C C2 s s2 s3 s4) a31) 62 := sl31.puts
      have f4_32 := RG.put_old (μ := RG.ad ([kr, kt, kl] ++ [])) (its := (F82d_11i N kn ka i q ns xs ys d C C2 s s2 s3 s4)) f4_31 (by kernel_rfl)
      have f5_32 := RG.put_old (μ := RG.ad ([kr, kt, kl] ++ [])) (its := (F82d_11i N kn ka i q ns xs ys d C C2 s s2 s3 s4)) f5_31 (by kernel_rfl)
      have f7_32 := RG.put_old (μ := RG.ad ([kr, kt, kl] ++ [])) (its := (F82d_11i N kn ka i q ns xs ys d C C2 s s2 s3 s4)) f7_31 (by kernel_rfl)
      have f8_32 := RG.put_old (μ := RG.ad ([kr, kt, kl] ++ [])) (its := (F82d_11i N kn ka i q ns xs ys d C C2 s s2 s3 s4)) f8_31 (by kernel_rfl)
      generalize RG.puts (RG.ad ([kr, kt, kl] ++ [])) (F82d_11i N kn ka i q ns xs ys d C C2 s s2 s3 s4) a31 = a32 at sl32 f4_32 f5_32 f7_32 f8_32 ⊢
      repeat refine wp_seq ?_
      refine RG.region_text' (its := F82d_12i N kn ka i q ns xs ys d C C2 s s2 s3 s4) (bl := F82d_12b N kn ka i q ns xs ys d C C2 s s2 s3 s4) (olds := F82d_12o N kn ka i q ns xs ys d C C2 s s2 s3 s4) hS32 (RG.Reg.mk' (by rw [sl32.size]; kernel_rfl) ⟨f5_32, trivial⟩ ⟨?_, ?_, ?_, trivial⟩) (by kernel_rfl) (by kernel_rfl) ⟨RG.endB1_st (by kernel_rfl), List.forall_mem_cons.2 ⟨rfl, List.forall_mem_cons.2 ⟨rfl, List.forall_mem_cons.2 ⟨rfl, fun _ h => absurd h List.not_mem_nil⟩⟩⟩⟩ ?_
      · exact RG.cert_move rfl 5 (Or.inl rfl) (fun μ a K => K.old 5 (.s 1 N N) (List.Mem.head _) (by kernel_rfl))
      · exact RG.cert_one rfl 38 (.s 1 N N) (.int .i64 (N : Int)) rfl (fun μ a K => by have h := K.op 38 0 (List.Mem.head _) rfl; exact h) (fun a w => by kernel_rfl) (fun μ w => by kernel_rfl)
      · exact RG.cert_stay rfl (fun μ a w _ _ => by kernel_rfl)
      intro new33 w33 hl33 hS33
      obtain rfl := RG.len0 hl33
      replace hS33 : RG.St w w.heap.size [] [[.int .u64 0, .int .u64 0, .int .u64 0, .int .u64 0, .int .u64 0, .int .u64 0, .int .u64 0, .int .u64 0], C, (tw s2)] [kr, kt, kl] w33 := hS33
      have sl33 : RG.Sl (RG.puts (RG.ad ([kr, kt, kl] ++ [])) (F82d_12i N kn ka i q ns xs ys d C C2 s s2 s3 s4) a32) 62 := sl32.puts
      have f4_33 := RG.put_old (μ := RG.ad ([kr, kt, kl] ++ [])) (its := (F82d_12i N kn ka i q ns xs ys d C C2 s s2 s3 s4)) f4_32 (by kernel_rfl)
      have f5_33 := RG.put_old (μ := RG.ad ([kr, kt, kl] ++ [])) (its := (F82d_12i N kn ka i q ns xs ys d C C2 s s2 s3 s4)) f5_32 (by kernel_rfl)
      have f7_33 := RG.put_old (μ := RG.ad ([kr, kt, kl] ++ [])) (its := (F82d_12i N kn ka i q ns xs ys d C C2 s s2 s3 s4)) f7_32 (by kernel_rfl)
      have f8_33 := RG.put_old (μ := RG.ad ([kr, kt, kl] ++ [])) (its := (F82d_12i N kn ka i q ns xs ys d C C2 s s2 s3 s4)) f8_32 (by kernel_rfl)
      have f39_33 : (RG.puts (RG.ad ([kr, kt, kl] ++ [])) (F82d_12i N kn ka i q ns xs ys d C C2 s s2 s3 s4) a32).tmps[39]? = some (.int .i64 (N : Int)) := by have h := RG.put_new (μ := RG.ad ([kr, kt, kl] ++ [])) (its := (F82d_12i N kn ka i q ns xs ys d C C2 s s2 s3 s4)) sl32 1 (by kernel_rfl) rfl rfl rfl; exact h
      have f40_33 : (RG.puts (RG.ad ([kr, kt, kl] ++ [])) (F82d_12i N kn ka i q ns xs ys d C C2 s s2 s3 s4) a32).tmps[40]? = some (.int .i64 0) := by have h := RG.put_new (μ := RG.ad ([kr, kt, kl] ++ [])) (its := (F82d_12i N kn ka i q ns xs ys d C C2 s s2 s3 s4)) sl32 2 (by kernel_rfl) rfl rfl rfl; exact h
      generalize RG.puts (RG.ad ([kr, kt, kl] ++ [])) (F82d_12i N kn ka i q ns xs ys d C C2 s s2 s3 s4) a32 = a33 at sl33 f4_33 f5_33 f7_33 f8_33 f39_33 f40_33 ⊢
      repeat refine wp_seq ?_
      refine wp_block ?_
      refine wp_loop_ghost (fun m a wr => ∃ i, i + m = N ∧ RG.Sl a 62 ∧ a.tmps[4]? = some (.pointer (some ⟨kr, 0, none⟩)) ∧ a.tmps[5]? = some (.slice (some ⟨kt, 0, none⟩) N N) ∧ a.tmps[7]? = some (.pointer (some ⟨kl, 0, none⟩)) ∧ a.tmps[8]? = some (.int .i64 (q : Int)) ∧ a.tmps[39]? = some (.int .i64 (N : Int)) ∧ a.tmps[40]? = some (.int .i64 (i : Int)) ∧ RG.St w w.heap.size [] [[.int .u64 0, .int .u64 0, .int .u64 0, .int .u64 0, .int .u64 0, .int .u64 0, .int .u64 0, .int .u64 0], C, tw (inn ns xs ys s2 q i)] [kr, kt, kl] wr) N ⟨0, by omega, sl33, f4_33, f5_33, f7_33, f8_33, f39_33, f40_33, hS33⟩ ?_
      intro m' c wr
      rintro ⟨i, him, slc, r4, r5, r7, r8, r39, r40, hSr⟩
      obtain ⟨s, hse3⟩ : ∃ s, inn ns xs ys s2 q i = s := ⟨_, rfl⟩
      rw [hse3] at hSr
      by_cases hi : i < N
      · obtain ⟨h1, h2⟩ := hcN i hi
        obtain ⟨d, hde⟩ : ∃ d, digs (ns i) q = d := ⟨_, rfl⟩
        have hdig : C[353 * i + 96 + q]? = some (.int .i8 d) := hde ▸ h1 q hq
        have hCne : C ≠ [] := by intro h; rw [h] at hdig; simp at hdig
        have hstep : inn ns xs ys s2 q (i + 1) = if d = 0 then s else plJ s (tmJ (xs i) (ys i) d) := by rw [← hse3, ← hde]; rfl
        by_cases hdz : d = 0
        · rw [if_pos hdz] at hstep
          rw [hdz] at hdig
          repeat refine wp_seq ?_
          refine RG.region_text' (its := F82f_13i N kn ka i q ns xs ys d C C2 s s2 s3 s4) (bl := F82f_13b N kn ka i q ns xs ys d C C2 s s2 s3 s4) (olds := F82f_13o N kn ka i q ns xs ys d C C2 s s2 s3 s4) hSr (RG.Reg.mk' (by rw [slc.size]; kernel_rfl) ⟨r40, r39, trivial⟩ ⟨?_, trivial⟩) (by kernel_rfl) (by kernel_rfl) ⟨RG.endB1_st (by kernel_rfl), List.forall_mem_cons.2 ⟨rfl, List.forall_mem_cons.2 ⟨rfl, List.forall_mem_cons.2 ⟨rfl, fun _ h => absurd h List.not_mem_nil⟩⟩⟩⟩ ?_
          · exact RG.cert_bin rfl .lss 3 3 40 39 (.int .i64 (i : Int)) (.int .i64 (N : Int)) (.bool true) rfl rfl (fun μ a K => K.old 40 (.v (.int .i64 (i : Int))) (List.Mem.head _) (by kernel_rfl)) (fun μ a K => K.old 39 (.v (.int .i64 (N : Int))) (List.Mem.tail _ (List.Mem.head _)) (by kernel_rfl)) (fun w => by kernel_rfl) (lssn_t hi)
          intro new51 w51 hl51 hS51
          obtain rfl := RG.len0 hl51
          replace hS51 : RG.St w w.heap.size [] [[.int .u64 0, .int .u64 0, .int .u64 0, .int .u64 0, .int .u64 0, .int .u64 0, .int .u64 0, .int .u64 0], C, (tw s)] [kr, kt, kl] w51 := hS51
          have sl51 : RG.Sl (RG.puts (RG.ad ([kr, kt, kl] ++ [])) (F82f_13i N kn ka i q ns xs ys d C C2 s s2 s3 s4) c) 62 := slc.puts
          have f4_51 := RG.put_old (μ := RG.ad ([kr, kt, kl] ++ [])) (its := (F82f_13i N kn ka i q ns xs ys d C C2 s s2 s3 s4)) r4 (by kernel_rfl)
          have f5_51 := RG.put_old (μ := RG.ad ([kr, kt, kl] ++ [])) (its := (F82f_13i N kn ka i q ns xs ys d C C2 s s2 s3 s4)) r5 (by kernel_rfl)
          have f7_51 := RG.put_old (μ := RG.ad ([kr, kt, kl] ++ [])) (its := (F82f_13i N kn ka i q ns xs ys d C C2 s s2 s3 s4)) r7 (by kernel_rfl)
          have f8_51 := RG.put_old (μ := RG.ad ([kr, kt, kl] ++ [])) (its := (F82f_13i N kn ka i q ns xs ys d C C2 s s2 s3 s4)) r8 (by kernel_rfl)
          have f39_51 := RG.put_old (μ := RG.ad ([kr, kt, kl] ++ [])) (its := (F82f_13i N kn ka i q ns xs ys d C C2 s s2 s3 s4)) r39 (by kernel_rfl)
          have f40_51 := RG.put_old (μ := RG.ad ([kr, kt, kl] ++ [])) (its := (F82f_13i N kn ka i q ns xs ys d C C2 s s2 s3 s4)) r40 (by kernel_rfl)
          have f41_51 : (RG.puts (RG.ad ([kr, kt, kl] ++ [])) (F82f_13i N kn ka i q ns xs ys d C C2 s s2 s3 s4) c).tmps[41]? = some (.bool true) := by have h := RG.put_new (μ := RG.ad ([kr, kt, kl] ++ [])) (its := (F82f_13i N kn ka i q ns xs ys d C C2 s s2 s3 s4)) slc 0 (by kernel_rfl) rfl rfl rfl; exact h
          generalize RG.puts (RG.ad ([kr, kt, kl] ++ [])) (F82f_13i N kn ka i q ns xs ys d C C2 s s2 s3 s4) c = a51 at sl51 f4_51 f5_51 f7_51 f8_51 f39_51 f40_51 f41_51 ⊢
          repeat refine wp_seq ?_
          refine wp_cond_true (RG.eval_of f41_51) ?_
          refine wp_skip ?_
          refine wp_seq ?_
          refine wp_block ?_
          repeat refine wp_seq ?_
          refine RG.region_text' (its := F82f_14i N kn ka i q ns xs ys d C C2 s s2 s3 s4) (bl := F82f_14b N kn ka i q ns xs ys d C C2 s s2 s3 s4) (olds := F82f_14o N kn ka i q ns xs ys d C C2 s s2 s3 s4) hS51 (RG.Reg.mk' (by rw [sl51.size]; kernel_rfl) ⟨f40_51, trivial⟩ ⟨?_, ?_, trivial⟩) (by kernel_rfl) (by kernel_rfl) ⟨RG.endB1_st (by kernel_rfl), List.forall_mem_cons.2 ⟨rfl, List.forall_mem_cons.2 ⟨rfl, List.forall_mem_cons.2 ⟨rfl, fun _ h => absurd h List.not_mem_nil⟩⟩⟩⟩ ?_
          · exact RG.cert_move rfl 40 (Or.inl rfl) (fun μ a K => K.old 40 (.v (.int .i64 (i : Int))) (List.Mem.head _) (by kernel_rfl))
          · exact RG.cert_move rfl 42 (Or.inr rfl) (fun μ a K => by have h := K.op 42 0 (List.Mem.head _) rfl; exact h)
          intro new52 w52 hl52 hS52
          obtain rfl := RG.len0 hl52
          replace hS52 : RG.St w w.heap.size [] [[.int .u64 0, .int .u64 0, .int .u64 0, .int .u64 0, .int .u64 0, .int .u64 0, .int .u64 0, .int .u64 0], C, (tw s)] [kr, kt, kl] w52 := hS52
          have sl52 : RG.Sl (RG.puts (RG.ad ([kr, kt, kl] ++ [])) (F82f_14i N kn ka i q ns xs ys d C C2 s s2 s3 s4) a51) 62 := sl51.puts
          have f4_52 := RG.put_old (μ := RG.ad ([kr, kt, kl] ++ [])) (its := (F82f_14i N kn ka i q ns xs ys d C C2 s s2 s3 s4)) f4_51 (by kernel_rfl)
          have f5_52 := RG.put_old (μ := RG.ad ([kr, kt, kl] ++ [])) (its := (F82f_14i N kn ka i q ns xs ys d C C2 s s2 s3 s4)) f5_51 (by kernel_rfl)
          have f7_52 := RG.put_old (μ := RG.ad ([kr, kt, kl] ++ [])) (its := (F82f_14i N kn ka i q ns xs ys d C C2 s s2 s3 s4)) f7_51 (by kernel_rfl)
          have f8_52 := RG.put_old (μ := RG.ad ([kr, kt, kl] ++ [])) (its := (F82f_14i N kn ka i q ns xs ys d C C2 s s2 s3 s4)) f8_51 (by kernel_rfl)
          have f9_52 : (RG.puts (RG.ad ([kr, kt, kl] ++ [])) (F82f_14i N kn ka i q ns xs ys d C C2 s s2 s3 s4) a51).tmps[9]? = some (.int .i64 (i : Int)) := by have h := RG.put_new (μ := RG.ad ([kr, kt, kl] ++ [])) (its := (F82f_14i N kn ka i q ns xs ys d C C2 s s2 s3 s4)) sl51 1 (by kernel_rfl) rfl rfl rfl; exact h
          have f39_52 := RG.put_old (μ := RG.ad ([kr, kt, kl] ++ [])) (its := (F82f_14i N kn ka i q ns xs ys d C C2 s s2 s3 s4)) f39_51 (by kernel_rfl)
          have f40_52 := RG.put_old (μ := RG.ad ([kr, kt, kl] ++ [])) (its := (F82f_14i N kn ka i q ns xs ys d C C2 s s2 s3 s4)) f40_51 (by kernel_rfl)
          generalize RG.puts (RG.ad ([kr, kt, kl] ++ [])) (F82f_14i N kn ka i q ns xs ys d C C2 s s2 s3 s4) a51 = a52 at sl52 f4_52 f5_52 f7_52 f8_52 f9_52 f39_52 f40_52 ⊢
          repeat refine wp_seq ?_
          refine RG.region_text' (its := F82f_15i N kn ka i q ns xs ys d C C2 s s2 s3 s4) (bl := F82f_15b N kn ka i q ns xs ys d C C2 s s2 s3 s4) (olds := F82f_15o N kn ka i q ns xs ys d C C2 s s2 s3 s4) hS52 (RG.Reg.mk' (by rw [sl52.size]; kernel_rfl) ⟨f5_52, f9_52, f8_52, trivial⟩ ⟨?_, ?_, ?_, ?_, ?_, ?_, ?_, ?_, trivial⟩) (by kernel_rfl) (by kernel_rfl) ⟨RG.endB1_st (by kernel_rfl), List.forall_mem_cons.2 ⟨rfl, List.forall_mem_cons.2 ⟨rfl, List.forall_mem_cons.2 ⟨rfl, fun _ h => absurd h List.not_mem_nil⟩⟩⟩⟩ ?_
          · exact RG.cert_move rfl 5 (Or.inl rfl) (fun μ a K => K.old 5 (.s 1 N N) (List.Mem.head _) (by kernel_rfl))
          · exact RG.cert_move rfl 9 (Or.inl rfl) (fun μ a K => K.old 9 (.v (.int .i64 (i : Int))) (List.Mem.tail _ (List.Mem.head _)) (by kernel_rfl))
          · exact RG.cert_move rfl 8 (Or.inl rfl) (fun μ a K => K.old 8 (.v (.int .i64 (q : Int))) (List.Mem.tail _ (List.Mem.tail _ (List.Mem.head _))) (by kernel_rfl))
          · exact RG.cert_idx rfl 135 43 44 rfl (.s 1 N N) (.int .i64 (i : Int)) (fun μ a K => by have h := K.op 43 0 (List.Mem.head _) rfl; exact h) (fun μ a K => by have h := K.op 44 1 (List.Mem.tail _ (List.Mem.head _)) rfl; exact h) (fun μ w => at135 _ _ _ i hi w)
          · exact RG.cert_field rfl 140 46 1 rfl 1 (353 * i) ((353 * i) + 96) rfl (fun μ a K => by have h := K.op 46 3 (List.Mem.head _) rfl; exact h) (fun k w => by kernel_rfl)
          · exact RG.cert_idx rfl 138 47 45 rfl (.p 1 ((353 * i) + 96)) (.int .i64 (q : Int)) (fun μ a K => by have h := K.op 47 4 (List.Mem.head _) rfl; exact h) (fun μ a K => by have h := K.op 45 2 (List.Mem.tail _ (List.Mem.head _)) rfl; exact h) (fun μ w => at138 _ _ q hq w)
          · exact RG.cert_load1 rfl 1 (((353 * i) + 96) + q) _ rfl rfl (by kernel_rfl) 137 48 rfl (.int .i8 0) rfl (fun μ a K => by have h := K.op 48 5 (List.Mem.head _) rfl; exact h) hdig u137
          · exact RG.cert_move rfl 49 (Or.inr rfl) (fun μ a K => by have h := K.op 49 6 (List.Mem.head _) rfl; exact h)
          intro new53 w53 hl53 hS53
          obtain rfl := RG.len0 hl53
          replace hS53 : RG.St w w.heap.size [] [[.int .u64 0, .int .u64 0, .int .u64 0, .int .u64 0, .int .u64 0, .int .u64 0, .int .u64 0, .int .u64 0], C, (tw s)] [kr, kt, kl] w53 := hS53
          have sl53 : RG.Sl (RG.puts (RG.ad ([kr, kt, kl] ++ [])) (F82f_15i N kn ka i q ns xs ys d C C2 s s2 s3 s4) a52) 62 := sl52.puts
          have f4_53 := RG.put_old (μ := RG.ad ([kr, kt, kl] ++ [])) (its := (F82f_15i N kn ka i q ns xs ys d C C2 s s2 s3 s4)) f4_52 (by kernel_rfl)
          have f5_53 := RG.put_old (μ := RG.ad ([kr, kt, kl] ++ [])) (its := (F82f_15i N kn ka i q ns xs ys d C C2 s s2 s3 s4)) f5_52 (by kernel_rfl)
          have f7_53 := RG.put_old (μ := RG.ad ([kr, kt, kl] ++ [])) (its := (F82f_15i N kn ka i q ns xs ys d C C2 s s2 s3 s4)) f7_52 (by kernel_rfl)
          have f8_53 := RG.put_old (μ := RG.ad ([kr, kt, kl] ++ [])) (its := (F82f_15i N kn ka i q ns xs ys d C C2 s s2 s3 s4)) f8_52 (by kernel_rfl)
          have f10_53 : (RG.puts (RG.ad ([kr, kt, kl] ++ [])) (F82f_15i N kn ka i q ns xs ys d C C2 s s2 s3 s4) a52).tmps[10]? = some (.int .i8 0) := by have h := RG.put_new (μ := RG.ad ([kr, kt, kl] ++ [])) (its := (F82f_15i N kn ka i q ns xs ys d C C2 s s2 s3 s4)) sl52 7 (by kernel_rfl) rfl rfl rfl; exact h
          have f39_53 := RG.put_old (μ := RG.ad ([kr, kt, kl] ++ [])) (its := (F82f_15i N kn ka i q ns xs ys d C C2 s s2 s3 s4)) f39_52 (by kernel_rfl)
          have f40_53 := RG.put_old (μ := RG.ad ([kr, kt, kl] ++ [])) (its := (F82f_15i N kn ka i q ns xs ys d C C2 s s2 s3 s4)) f40_52 (by kernel_rfl)
          generalize RG.puts (RG.ad ([kr, kt, kl] ++ [])) (F82f_15i N kn ka i q ns xs ys d C C2 s s2 s3 s4) a52 = a53 at sl53 f4_53 f5_53 f7_53 f8_53 f10_53 f39_53 f40_53 ⊢
          repeat refine wp_seq ?_
          refine RG.region_text' (its := F82f_16i N kn ka i q ns xs ys d C C2 s s2 s3 s4) (bl := F82f_16b N kn ka i q ns xs ys d C C2 s s2 s3 s4) (olds := F82f_16o N kn ka i q ns xs ys d C C2 s s2 s3 s4) hS53 (RG.Reg.mk' (by rw [sl53.size]; kernel_rfl) ⟨f10_53, trivial⟩ ⟨?_, ?_, trivial⟩) (by kernel_rfl) (by kernel_rfl) ⟨RG.endB1_st (by kernel_rfl), List.forall_mem_cons.2 ⟨rfl, List.forall_mem_cons.2 ⟨rfl, List.forall_mem_cons.2 ⟨rfl, fun _ h => absurd h List.not_mem_nil⟩⟩⟩⟩ ?_
          · exact RG.cert_move rfl 10 (Or.inl rfl) (fun μ a K => K.old 10 (.v (.int .i8 0)) (List.Mem.head _) (by kernel_rfl))
          · exact RG.cert_binc rfl .neq 137 137 50 (.int .i8 0) (.int .i8 0) (.bool false) rfl rfl (fun μ a K => by have h := K.op 50 0 (List.Mem.head _) rfl; exact h) (fun w => by kernel_rfl) (ne8_f)
          intro new54 w54 hl54 hS54
          obtain rfl := RG.len0 hl54
          replace hS54 : RG.St w w.heap.size [] [[.int .u64 0, .int .u64 0, .int .u64 0, .int .u64 0, .int .u64 0, .int .u64 0, .int .u64 0, .int .u64 0], C, (tw s)] [kr, kt, kl] w54 := hS54
          have sl54 : RG.Sl (RG.puts (RG.ad ([kr, kt, kl] ++ [])) (F82f_16i N kn ka i q ns xs ys d C C2 s s2 s3 s4) a53) 62 := sl53.puts
          have f4_54 := RG.put_old (μ := RG.ad ([kr, kt, kl] ++ [])) (its := (F82f_16i N kn ka i q ns xs ys d C C2 s s2 s3 s4)) f4_53 (by kernel_rfl)
          have f5_54 := RG.put_old (μ := RG.ad ([kr, kt, kl] ++ [])) (its := (F82f_16i N kn ka i q ns xs ys d C C2 s s2 s3 s4)) f5_53 (by kernel_rfl)
          have f7_54 := RG.put_old (μ := RG.ad ([kr, kt, kl] ++ [])) (its := (F82f_16i N kn ka i q ns xs ys d C C2 s s2 s3 s4)) f7_53 (by kernel_rfl)
          have f8_54 := RG.put_old (μ := RG.ad ([kr, kt, kl] ++ [])) (its := (F82f_16i N kn ka i q ns xs ys d C C2 s s2 s3 s4)) f8_53 (by kernel_rfl)
          have f39_54 := RG.put_old (μ := RG.ad ([kr, kt, kl] ++ [])) (its := (F82f_16i N kn ka i q ns xs ys d C C2 s s2 s3 s4)) f39_53 (by kernel_rfl)
          have f40_54 := RG.put_old (μ := RG.ad ([kr, kt, kl] ++ [])) (its := (F82f_16i N kn ka i q ns xs ys d C C2 s s2 s3 s4)) f40_53 (by kernel_rfl)
          have f51_54 : (RG.puts (RG.ad ([kr, kt, kl] ++ [])) (F82f_16i N kn ka i q ns xs ys d C C2 s s2 s3 s4) a53).tmps[51]? = some (.bool false) := by have h := RG.put_new (μ := RG.ad ([kr, kt, kl] ++ [])) (its := (F82f_16i N kn ka i q ns xs ys d C C2 s s2 s3 s4)) sl53 1 (by kernel_rfl) rfl rfl rfl; exact h
          generalize RG.puts (RG.ad ([kr, kt, kl] ++ [])) (F82f_16i N kn ka i q ns xs ys d C C2 s s2 s3 s4) a53 = a54 at sl54 f4_54 f5_54 f7_54 f8_54 f39_54 f40_54 f51_54 ⊢
          repeat refine wp_seq ?_
          refine wp_cond_false (RG.eval_of f51_54) ?_
          refine wp_skip ?_
          repeat refine wp_seq ?_
          refine RG.region_text' (its := F82f_18i N kn ka i q ns xs ys d C C2 s s2 s3 s4) (bl := F82f_18b N kn ka i q ns xs ys d C C2 s s2 s3 s4) (olds := F82f_18o N kn ka i q ns xs ys d C C2 s s2 s3 s4) hS54 (RG.Reg.mk' (by rw [sl54.size]; kernel_rfl) ⟨f40_54, trivial⟩ ⟨?_, ?_, trivial⟩) (by kernel_rfl) (by kernel_rfl) ⟨RG.endB1_st (by kernel_rfl), List.forall_mem_cons.2 ⟨rfl, List.forall_mem_cons.2 ⟨rfl, List.forall_mem_cons.2 ⟨rfl, fun _ h => absurd h List.not_mem_nil⟩⟩⟩⟩ ?_
          · exact RG.cert_binc rfl .add 3 3 40 (.int .i64 (i : Int)) (.int .i64 1) (.int .i64 ((i + 1 : Nat) : Int)) rfl rfl (fun μ a K => K.old 40 (.v (.int .i64 (i : Int))) (List.Mem.head _) (by kernel_rfl)) (fun w => by kernel_rfl) (addn i 1 (by omega) (by omega))
          · exact RG.cert_move rfl 59 (Or.inl rfl) (fun μ a K => by have h := K.op 59 0 (List.Mem.head _) rfl; exact h)
          intro new55 w55 hl55 hS55
          obtain rfl := RG.len0 hl55
          replace hS55 : RG.St w w.heap.size [] [[.int .u64 0, .int .u64 0, .int .u64 0, .int .u64 0, .int .u64 0, .int .u64 0, .int .u64 0, .int .u64 0], C, (tw s)] [kr, kt, kl] w55 := hS55
          have sl55 : RG.Sl (RG.puts (RG.ad ([kr, kt, kl] ++ [])) (F82f_18i N kn ka i q ns xs ys d C C2 s s2 s3 s4) a54) 62 := sl54.puts
          have f4_55 := RG.put_old (μ := RG.ad ([kr, kt, kl] ++ [])) (its := (F82f_18i N kn ka i q ns xs ys d C C2 s s2 s3 s4)) f4_54 (by kernel_rfl)
          have f5_55 := RG.put_old (μ := RG.ad ([kr, kt, kl] ++ [])) (its := (F82f_18i N kn ka i q ns xs ys d C C2 s s2 s3 s4)) f5_54 (by kernel_rfl)
          have f7_55 := RG.put_old (μ := RG.ad ([kr, kt, kl] ++ [])) (its := (F82f_18i N kn ka i q ns xs ys d C C2 s s2 s3 s4)) f7_54 (by kernel_rfl)
          have f8_55 := RG.put_old (μ := RG.ad ([kr, kt, kl] ++ [])) (its := (F82f_18i N kn ka i q ns xs ys d C C2 s s2 s3 s4)) f8_54 (by kernel_rfl)
          have f39_55 := RG.put_old (μ := RG.ad ([kr, kt, kl] ++ [])) (its := (F82f_18i N kn ka i q ns xs ys d C C2 s s2 s3 s4)) f39_54 (by kernel_rfl)
          have f40_55 : (RG.puts (RG.ad ([kr, kt, kl] ++ [])) (F82f_18i N kn ka i q ns xs ys d C C2 s s2 s3 s4) a54).tmps[40]? = some (.int .i64 ((i + 1 : Nat) : Int)) := by have h := RG.put_new (μ := RG.ad ([kr, kt, kl] ++ [])) (its := (F82f_18i N kn ka i q ns xs ys d C C2 s s2 s3 s4)) sl54 1 (by kernel_rfl) rfl rfl rfl; exact h
          generalize RG.puts (RG.ad ([kr, kt, kl] ++ [])) (F82f_18i N kn ka i q ns xs ys d C C2 s s2 s3 s4) a54 = a55 at sl55 f4_55 f5_55 f7_55 f8_55 f39_55 f40_55 ⊢
          show ∃ n', _
          exact ⟨m' - 1, by omega, i + 1, by omega, sl55, f4_55, f5_55, f7_55, f8_55, f39_55, f40_55, by rw [hstep]; exact hS55⟩
        · rw [if_neg hdz] at hstep
          have hodd : d % 2 = 1 ∧ -15 ≤ d ∧ d ≤ 15 := by
            obtain ⟨_, _, -, hD⟩ := digs_DI (show ns i < 2 ^ 256 from hns i hi)
            rcases hD.ho q with h | h
            · exact absurd (hde ▸ h) hdz
            · exact hde ▸ h
          obtain ⟨s3, hs3e⟩ : ∃ t, tmJ (xs i) (ys i) d = t := ⟨_, rfl⟩
          obtain ⟨s4, hs4e⟩ : ∃ t, plJ s s3 = t := ⟨_, rfl⟩
          have hs4 : Gives 74 #[tv s, tv s3] (tv s4) := hs4e ▸ plJ_c F s s3
          have htm : ∀ (k : Nat) (w : World), k < w.heap.size → w.rangeAt k 0 C → Calls Try.prog 108 #[.pointer (some ⟨k, 353 * i, none⟩), .int .i8 d] w (Ret fun r w' => Below w.heap.size w w' ∧ r = tv s3) := fun k w hlt hr =>
            hs3e ▸ times_d F k (353 * i) (xs i) (ys i) hodd.1 hodd.2 w hlt (fun qq hqq => RG.range_sub hr (fun j hj => by rw [Nat.add_zero]; exact h2 qq j hqq (by rw [tw_length] at hj; exact hj)))
          rw [hs3e, hs4e] at hstep
          repeat refine wp_seq ?_
          refine RG.region_text' (its := F82g_13i N kn ka i q ns xs ys d C C2 s s2 s3 s4) (bl := F82g_13b N kn ka i q ns xs ys d C C2 s s2 s3 s4) (olds := F82g_13o N kn ka i q ns xs ys d C C2 s s2 s3 s4) hSr (RG.Reg.mk' (by rw [slc.size]; kernel_rfl) ⟨r40, r39, trivial⟩ ⟨?_, trivial⟩) (by kernel_rfl) (by kernel_rfl) ⟨RG.endB1_st (by kernel_rfl), List.forall_mem_cons.2 ⟨rfl, List.forall_mem_cons.2 ⟨rfl, List.forall_mem_cons.2 ⟨rfl, fun _ h => absurd h List.not_mem_nil⟩⟩⟩⟩ ?_
          · exact RG.cert_bin rfl .lss 3 3 40 39 (.int .i64 (i : Int)) (.int .i64 (N : Int)) (.bool true) rfl rfl (fun μ a K => K.old 40 (.v (.int .i64 (i : Int))) (List.Mem.head _) (by kernel_rfl)) (fun μ a K => K.old 39 (.v (.int .i64 (N : Int))) (List.Mem.tail _ (List.Mem.head _)) (by kernel_rfl)) (fun w => by kernel_rfl) (lssn_t hi)
          intro new51 w51 hl51 hS51
          obtain rfl := RG.len0 hl51
          replace hS51 : RG.St w w.heap.size [] [[.int .u64 0, .int .u64 0, .int .u64 0, .int .u64 0, .int .u64 0, .int .u64 0, .int .u64 0, .int .u64 0], C, (tw s)] [kr, kt, kl] w51 := hS51
          have sl51 : RG.Sl (RG.puts (RG.ad ([kr, kt, kl] ++ [])) (F82g_13i N kn ka i q ns xs ys d C C2 s s2 s3 s4) c) 62 := slc.puts
          have f4_51 := RG.put_old (μ := RG.ad ([kr, kt, kl] ++ [])) (its := (F82g_13i N kn ka i q ns xs ys d C C2 s s2 s3 s4)) r4 (by kernel_rfl)
          have f5_51 := RG.put_old (μ := RG.ad ([kr, kt, kl] ++ [])) (its := (F82g_13i N kn ka i q ns xs ys d C C2 s s2 s3 s4)) r5 (by kernel_rfl)
          have f7_51 := RG.put_old (μ := RG.ad ([kr, kt, kl] ++ [])) (its := (F82g_13i N kn ka i q ns xs ys d C C2 s s2 s3 s4)) r7 (by kernel_rfl)
          have f8_51 := RG.put_old (μ := RG.ad ([kr, kt, kl] ++ [])) (its := (F82g_13i N kn ka i q ns xs ys d C C2 s s2 s3 s4)) r8 (by kernel_rfl)
          have f39_51 := RG.put_old (μ := RG.ad ([kr, kt, kl] ++ [])) (its := (F82g_13i N kn ka i q ns xs ys d C C2 s s2 s3 s4)) r39 (by kernel_rfl)
          have f40_51 := RG.put_old (μ := RG.ad ([kr, kt, kl] ++ [])) (its := (F82g_13i N kn ka i q ns xs ys d C C2 s s2 s3 s4)) r40 (by kernel_rfl)
          have f41_51 : (RG.puts (RG.ad ([kr, kt, kl] ++ [])) (F82g_13i N kn ka i q ns xs ys d C C2 s s2 s3 s4) c).tmps[41]? = some (.bool true) := by have h := RG.put_new (μ := RG.ad ([kr, kt, kl] ++ [])) (its := (F82g_13i N kn ka i q ns xs ys d C C2 s s2 s3 s4)) slc 0 (by kernel_rfl) rfl rfl rfl; exact h
          generalize RG.puts (RG.ad ([kr, kt, kl] ++ [])) (F82g_13i N kn ka i q ns xs ys d C C2 s s2 s3 s4) c = a51 at sl51 f4_51 f5_51 f7_51 f8_51 f39_51 f40_51 f41_51 ⊢
          repeat refine wp_seq ?_
          refine wp_cond_true (RG.eval_of f41_51) ?_
          refine wp_skip ?_
          refine wp_seq ?_
          refine wp_block ?_
          repeat refine wp_seq ?_
          refine RG.region_text' (its := F82g_14i N kn ka i q ns xs ys d C C2 s s2 s3 s4) (bl := F82g_14b N kn ka i q ns xs ys d C C2 s s2 s3 s4) (olds := F82g_14o N kn ka i q ns xs ys d C C2 s s2 s3 s4) hS51 (RG.Reg.mk' (by rw [sl51.size]; kernel_rfl) ⟨f40_51, trivial⟩ ⟨?_, ?_, trivial⟩) (by kernel_rfl) (by kernel_rfl) ⟨RG.endB1_st (by kernel_rfl), List.forall_mem_cons.2 ⟨rfl, List.forall_mem_cons.2 ⟨rfl, List.forall_mem_cons.2 ⟨rfl, fun _ h => absurd h List.not_mem_nil⟩⟩⟩⟩ ?_
          · exact RG.cert_move rfl 40 (Or.inl rfl) (fun μ a K => K.old 40 (.v (.int .i64 (i : Int))) (List.Mem.head _) (by kernel_rfl))
          · exact RG.cert_move rfl 42 (Or.inr rfl) (fun μ a K => by have h := K.op 42 0 (List.Mem.head _) rfl; exact h)
          intro new52 w52 hl52 hS52
          obtain rfl := RG.len0 hl52
          replace hS52 : RG.St w w.heap.size [] [[.int .u64 0, .int .u64 0, .int .u64 0, .int .u64 0, .int .u64 0, .int .u64 0, .int .u64 0, .int .u64 0], C, (tw s)] [kr, kt, kl] w52 := hS52
          have sl52 : RG.Sl (RG.puts (RG.ad ([kr, kt, kl] ++ [])) (F82g_14i N kn ka i q ns xs ys d C C2 s s2 s3 s4) a51) 62 := sl51.puts
          have f4_52 := RG.put_old (μ := RG.ad ([kr, kt, kl] ++ [])) (its := (F82g_14i N kn ka i q ns xs ys d C C2 s s2 s3 s4)) f4_51 (by kernel_rfl)
          have f5_52 := RG.put_old (μ := RG.ad ([kr, kt, kl] ++ [])) (its := (F82g_14i N kn ka i q ns xs ys d C C2 s s2 s3 s4)) f5_51 (by kernel_rfl)
          have f7_52 := RG.put_old (μ := RG.ad ([kr, kt, kl] ++ [])) (its := (F82g_14i N kn ka i q ns xs ys d C C2 s s2 s3 s4)) f7_51 (by kernel_rfl)
          have f8_52 := RG.put_old (μ := RG.ad ([kr, kt, kl] ++ [])) (its := (F82g_14i N kn ka i q ns xs ys d C C2 s s2 s3 s4)) f8_51 (by kernel_rfl)
          have f9_52 : (RG.puts (RG.ad ([kr, kt, kl] ++ [])) (F82g_14i N kn ka i q ns xs ys d C C2 s s2 s3 s4) a51).tmps[9]? = some (.int .i64 (i : Int)) := by have h := RG.put_new (μ := RG.ad ([kr, kt, kl] ++ [])) (its := (F82g_14i N kn ka i q ns xs ys d C C2 s s2 s3 s4)) sl51 1 (by kernel_rfl) rfl rfl rfl; exact h
          have f39_52 := RG.put_old (μ := RG.ad ([kr, kt, kl] ++ [])) (its := (F82g_14i N kn ka i q ns xs ys d C C2 s s2 s3 s4)) f39_51 (by kernel_rfl)
          have f40_52 := RG.put_old (μ := RG.ad ([kr, kt, kl] ++ [])) (its := (F82g_14i N kn ka i q ns xs ys d C C2 s s2 s3 s4)) f40_51 (by kernel_rfl)
          generalize RG.puts (RG.ad ([kr, kt, kl] ++ [])) (F82g_14i N kn ka i q ns xs ys d C C2 s s2 s3 s4) a51 = a52 at sl52 f4_52 f5_52 f7_52 f8_52 f9_52 f39_52 f40_52 ⊢
          repeat refine wp_seq ?_
          refine RG.region_text' (its := F82g_15i N kn ka i q ns xs ys d C C2 s s2 s3 s4) (bl := F82g_15b N kn ka i q ns xs ys d C C2 s s2 s3 s4) (olds := F82g_15o N kn ka i q ns xs ys d C C2 s s2 s3 s4) hS52 (RG.Reg.mk' (by rw [sl52.size]; kernel_rfl) ⟨f5_52, f9_52, f8_52, trivial⟩ ⟨?_, ?_, ?_, ?_, ?_, ?_, ?_, ?_, trivial⟩) (by kernel_rfl) (by kernel_rfl) ⟨RG.endB1_st (by kernel_rfl), List.forall_mem_cons.2 ⟨rfl, List.forall_mem_cons.2 ⟨rfl, List.forall_mem_cons.2 ⟨rfl, fun _ h => absurd h List.not_mem_nil⟩⟩⟩⟩ ?_
          · exact RG.cert_move rfl 5 (Or.inl rfl) (fun μ a K => K.old 5 (.s 1 N N) (List.Mem.head _) (by kernel_rfl))
          · exact RG.cert_move rfl 9 (Or.inl rfl) (fun μ a K => K.old 9 (.v (.int .i64 (i : Int))) (List.Mem.tail _ (List.Mem.head _)) (by kernel_rfl))
          · exact RG.cert_move rfl 8 (Or.inl rfl) (fun μ a K => K.old 8 (.v (.int .i64 (q : Int))) (List.Mem.tail _ (List.Mem.tail _ (List.Mem.head _))) (by kernel_rfl))
          · exact RG.cert_idx rfl 135 43 44 rfl (.s 1 N N) (.int .i64 (i : Int)) (fun μ a K => by have h := K.op 43 0 (List.Mem.head _) rfl; exact h) (fun μ a K => by have h := K.op 44 1 (List.Mem.tail _ (List.Mem.head _)) rfl; exact h) (fun μ w => at135 _ _ _ i hi w)
          · exact RG.cert_field rfl 140 46 1 rfl 1 (353 * i) ((353 * i) + 96) rfl (fun μ a K => by have h := K.op 46 3 (List.Mem.head _) rfl; exact h) (fun k w => by kernel_rfl)
          · exact RG.cert_idx rfl 138 47 45 rfl (.p 1 ((353 * i) + 96)) (.int .i64 (q : Int)) (fun μ a K => by have h := K.op 47 4 (List.Mem.head _) rfl; exact h) (fun μ a K => by have h := K.op 45 2 (List.Mem.tail _ (List.Mem.head _)) rfl; exact h) (fun μ w => at138 _ _ q hq w)
          · exact RG.cert_load1 rfl 1 (((353 * i) + 96) + q) _ rfl rfl (by kernel_rfl) 137 48 rfl (.int .i8 d) rfl (fun μ a K => by have h := K.op 48 5 (List.Mem.head _) rfl; exact h) hdig u137
          · exact RG.cert_move rfl 49 (Or.inr rfl) (fun μ a K => by have h := K.op 49 6 (List.Mem.head _) rfl; exact h)
          intro new53 w53 hl53 hS53
          obtain rfl := RG.len0 hl53
          replace hS53 : RG.St w w.heap.size [] [[.int .u64 0, .int .u64 0, .int .u64 0, .int .u64 0, .int .u64 0, .int .u64 0, .int .u64 0, .int .u64 0], C, (tw s)] [kr, kt, kl] w53 := hS53
          have sl53 : RG.Sl (RG.puts (RG.ad ([kr, kt, kl] ++ [])) (F82g_15i N kn ka i q ns xs ys d C C2 s s2 s3 s4) a52) 62 := sl52.puts
          have f4_53 := RG.put_old (μ := RG.ad ([kr, kt, kl] ++ [])) (its := (F82g_15i N kn ka i q ns xs ys d C C2 s s2 s3 s4)) f4_52 (by kernel_rfl)
          have f5_53 := RG.put_old (μ := RG.ad ([kr, kt, kl] ++ [])) (its := (F82g_15i N kn ka i q ns xs ys d C C2 s s2 s3 s4)) f5_52 (by kernel_rfl)
          have f7_53 := RG.put_old (μ := RG.ad ([kr, kt, kl] ++ [])) (its := (F82g_15i N kn ka i q ns xs ys d C C2 s s2 s3 s4)) f7_52 (by kernel_rfl)
          have f8_53 := RG.put_old (μ := RG.ad ([kr, kt, kl] ++ [])) (its := (F82g_15i N kn ka i q ns xs ys d C C2 s s2 s3 s4)) f8_52 (by kernel_rfl)
          have f9_53 := RG.put_old (μ := RG.ad ([kr, kt, kl] ++ [])) (its := (F82g_15i N kn ka i q ns xs ys d C C2 s s2 s3 s4)) f9_52 (by kernel_rfl)
          have f10_53 : (RG.puts (RG.ad ([kr, kt, kl] ++ [])) (F82g_15i N kn ka i q ns xs ys d C C2 s s2 s3 s4) a52).tmps[10]? = some (.int .i8 d) := by have h := RG.put_new (μ := RG.ad ([kr, kt, kl] ++ [])) (its := (F82g_15i N kn ka i q ns xs ys d C C2 s s2 s3 s4)) sl52 7 (by kernel_rfl) rfl rfl rfl; exact h
          have f39_53 := RG.put_old (μ := RG.ad ([kr, kt, kl] ++ [])) (its := (F82g_15i N kn ka i q ns xs ys d C C2 s s2 s3 s4)) f39_52 (by kernel_rfl)
          have f40_53 := RG.put_old (μ := RG.ad ([kr, kt, kl] ++ [])) (its := (F82g_15i N kn ka i q ns xs ys d C C2 s s2 s3 s4)) f40_52 (by kernel_rfl)
          generalize RG.puts (RG.ad ([kr, kt, kl] ++ [])) (F82g_15i N kn ka i q ns xs ys d C C2 s s2 s3 s4) a52 = a53 at sl53 f4_53 f5_53 f7_53 f8_53 f9_53 f10_53 f39_53 f40_53 ⊢
          repeat refine wp_seq ?_
          refine RG.region_text' (its := F82g_16i N kn ka i q ns xs ys d C C2 s s2 s3 s4) (bl := F82g_16b N kn ka i q ns xs ys d C C2 s s2 s3 s4) (olds := F82g_16o N kn ka i q ns xs ys d C C2 s s2 s3 s4) hS53 (RG.Reg.mk' (by rw [sl53.size]; kernel_rfl) ⟨f10_53, trivial⟩ ⟨?_, ?_, trivial⟩) (by kernel_rfl) (by kernel_rfl) ⟨RG.endB1_st (by kernel_rfl), List.forall_mem_cons.2 ⟨rfl, List.forall_mem_cons.2 ⟨rfl, List.forall_mem_cons.2 ⟨rfl, fun _ h => absurd h List.not_mem_nil⟩⟩⟩⟩ ?_
          · exact RG.cert_move rfl 10 (Or.inl rfl) (fun μ a K => K.old 10 (.v (.int .i8 d)) (List.Mem.head _) (by kernel_rfl))
          · exact RG.cert_binc rfl .neq 137 137 50 (.int .i8 d) (.int .i8 0) (.bool true) rfl rfl (fun μ a K => by have h := K.op 50 0 (List.Mem.head _) rfl; exact h) (fun w => by kernel_rfl) (ne8_t hdz)
          intro new54 w54 hl54 hS54
          obtain rfl := RG.len0 hl54
          replace hS54 : RG.St w w.heap.size [] [[.int .u64 0, .int .u64 0, .int .u64 0, .int .u64 0, .int .u64 0, .int .u64 0, .int .u64 0, .int .u64 0], C, (tw s)] [kr, kt, kl] w54 := hS54
          have sl54 : RG.Sl (RG.puts (RG.ad ([kr, kt, kl] ++ [])) (F82g_16i N kn ka i q ns xs ys d C C2 s s2 s3 s4) a53) 62 := sl53.puts
          have f4_54 := RG.put_old (μ := RG.ad ([kr, kt, kl] ++ [])) (its := (F82g_16i N kn ka i q ns xs ys d C C2 s s2 s3 s4)) f4_53 (by kernel_rfl)
          have f5_54 := RG.put_old (μ := RG.ad ([kr, kt, kl] ++ [])) (its := (F82g_16i N kn ka i q ns xs ys d C C2 s s2 s3 s4)) f5_53 (by kernel_rfl)
          have f7_54 := RG.put_old (μ := RG.ad ([kr, kt, kl] ++ [])) (its := (F82g_16i N kn ka i q ns xs ys d C C2 s s2 s3 s4)) f7_53 (by kernel_rfl)
          have f8_54 := RG.put_old (μ := RG.ad ([kr, kt, kl] ++ [])) (its := (F82g_16i N kn ka i q ns xs ys d C C2 s s2 s3 s4)) f8_53 (by kernel_rfl)
          have f9_54 := RG.put_old (μ := RG.ad ([kr, kt, kl] ++ [])) (its := (F82g_16i N kn ka i q ns xs ys d C C2 s s2 s3 s4)) f9_53 (by kernel_rfl)
          have f10_54 := RG.put_old (μ := RG.ad ([kr, kt, kl] ++ [])) (its := (F82g_16i N kn ka i q ns xs ys d C C2 s s2 s3 s4)) f10_53 (by kernel_rfl)
          have f39_54 := RG.put_old (μ := RG.ad ([kr, kt, kl] ++ [])) (its := (F82g_16i N kn ka i q ns xs ys d C C2 s s2 s3 s4)) f39_53 (by kernel_rfl)
          have f40_54 := RG.put_old (μ := RG.ad ([kr, kt, kl] ++ [])) (its := (F82g_16i N kn ka i q ns xs ys d C C2 s s2 s3 s4)) f40_53 (by kernel_rfl)
          have f51_54 : (RG.puts (RG.ad ([kr, kt, kl] ++ [])) (F82g_16i N kn ka i q ns xs ys d C C2 s s2 s3 s4) a53).tmps[51]? = some (.bool true) := by have h := RG.put_new (μ := RG.ad ([kr, kt, kl] ++ [])) (its := (F82g_16i N kn ka i q ns xs ys d C C2 s s2 s3 s4)) sl53 1 (by kernel_rfl) rfl rfl rfl; exact h
          generalize RG.puts (RG.ad ([kr, kt, kl] ++ [])) (F82g_16i N kn ka i q ns xs ys d C C2 s s2 s3 s4) a53 = a54 at sl54 f4_54 f5_54 f7_54 f8_54 f9_54 f10_54 f39_54 f40_54 f51_54 ⊢
          repeat refine wp_seq ?_
          refine wp_cond_true (RG.eval_of f51_54) ?_
          repeat refine wp_seq ?_
          refine RG.region_draws' (by kernel_rfl) (its := F82g_17i N kn ka i q ns xs ys d C C2 s s2 s3 s4) (bl := F82g_17b N kn ka i q ns xs ys d C C2 s s2 s3 s4) (olds := F82g_17o N kn ka i q ns xs ys d C C2 s s2 s3 s4) hS54 (RG.Reg.mk' (by rw [sl54.size]; kernel_rfl) ⟨f7_54, f5_54, f9_54, f10_54, trivial⟩ ⟨?_, ?_, ?_, ?_, ?_, ?_, ?_, ?_, trivial⟩) (by kernel_rfl) (by kernel_rfl) ⟨RG.endB1_st (by kernel_rfl), List.forall_mem_cons.2 ⟨rfl, List.forall_mem_cons.2 ⟨rfl, List.forall_mem_cons.2 ⟨rfl, fun _ h => absurd h List.not_mem_nil⟩⟩⟩⟩ ?_
          · exact RG.cert_load rfl 2 0 _ rfl rfl (by kernel_rfl) 117 7 rfl (tw s) rfl (fun μ a K => K.old 7 (.p 2 0) (List.Mem.head _) (by kernel_rfl)) (by kernel_rfl) u117 i117
          · exact RG.cert_move rfl 5 (Or.inl rfl) (fun μ a K => K.old 5 (.s 1 N N) (List.Mem.tail _ (List.Mem.head _)) (by kernel_rfl))
          · exact RG.cert_move rfl 9 (Or.inl rfl) (fun μ a K => K.old 9 (.v (.int .i64 (i : Int))) (List.Mem.tail _ (List.Mem.tail _ (List.Mem.head _))) (by kernel_rfl))
          · exact RG.cert_idx rfl 135 53 54 rfl (.s 1 N N) (.int .i64 (i : Int)) (fun μ a K => by have h := K.op 53 1 (List.Mem.head _) rfl; exact h) (fun μ a K => by have h := K.op 54 2 (List.Mem.tail _ (List.Mem.head _)) rfl; exact h) (fun μ w => at135 _ _ _ i hi w)
          · exact RG.cert_move rfl 10 (Or.inl rfl) (fun μ a K => K.old 10 (.v (.int .i8 d)) (List.Mem.tail _ (List.Mem.tail _ (List.Mem.tail _ (List.Mem.head _)))) (by kernel_rfl))
          · exact RG.cert_callM2 rfl 1 _ rfl rfl (by kernel_rfl) hCne 108 55 56 (.p 1 (353 * i)) (.int .i8 d) (tv s3) rfl (fun a w => by kernel_rfl) (fun μ a K => by have h := K.op 55 3 (List.Mem.head _) rfl; exact h) (fun μ a K => by have h := K.op 56 4 (List.Mem.tail _ (List.Mem.head _)) rfl; exact h) (fun μ w hlt hr => htm (μ 1) w hlt hr)
          · exact RG.cert_call2 rfl 74 52 57 (tv s) (tv s3) (tv s4) rfl (fun a w => by kernel_rfl) (fun μ a K => by have h := K.op 52 0 (List.Mem.head _) rfl; exact h) (fun μ a K => by have h := K.op 57 5 (List.Mem.tail _ (List.Mem.head _)) rfl; exact h) (hs4)
          · exact RG.cert_put 2 rfl _ rfl 117 (.tmp 7) (.tmp 58) rfl rfl rfl (fun μ a K => K.old 7 (.p 2 0) (List.Mem.head _) (by kernel_rfl)) (fun μ a K => by have h := K.op 58 6 (List.Mem.head _) rfl; exact h) i117 rfl
          intro new55 w55 hl55 hS55
          obtain rfl := RG.len0 hl55
          replace hS55 : RG.St w w.heap.size [] [[.int .u64 0, .int .u64 0, .int .u64 0, .int .u64 0, .int .u64 0, .int .u64 0, .int .u64 0, .int .u64 0], C, (tw s4)] [kr, kt, kl] w55 := hS55
          have sl55 : RG.Sl (RG.puts (RG.ad ([kr, kt, kl] ++ [])) (F82g_17i N kn ka i q ns xs ys d C C2 s s2 s3 s4) a54) 62 := sl54.puts
          have f4_55 := RG.put_old (μ := RG.ad ([kr, kt, kl] ++ [])) (its := (F82g_17i N kn ka i q ns xs ys d C C2 s s2 s3 s4)) f4_54 (by kernel_rfl)
          have f5_55 := RG.put_old (μ := RG.ad ([kr, kt, kl] ++ [])) (its := (F82g_17i N kn ka i q ns xs ys d C C2 s s2 s3 s4)) f5_54 (by kernel_rfl)
          have f7_55 := RG.put_old (μ := RG.ad ([kr, kt, kl] ++ [])) (its := (F82g_17i N kn ka i q ns xs ys d C C2 s s2 s3 s4)) f7_54 (by kernel_rfl)
          have f8_55 := RG.put_old (μ := RG.ad ([kr, kt, kl] ++ [])) (its := (F82g_17i N kn ka i q ns xs ys d C C2 s s2 s3 s4)) f8_54 (by kernel_rfl)
          have f39_55 := RG.put_old (μ := RG.ad ([kr, kt, kl] ++ [])) (its := (F82g_17i N kn ka i q ns xs ys d C C2 s s2 s3 s4)) f39_54 (by kernel_rfl)
          have f40_55 := RG.put_old (μ := RG.ad ([kr, kt, kl] ++ [])) (its := (F82g_17i N kn ka i q ns xs ys d C C2 s s2 s3 s4)) f40_54 (by kernel_rfl)
          generalize RG.puts (RG.ad ([kr, kt, kl] ++ [])) (F82g_17i N kn ka i q ns xs ys d C C2 s s2 s3 s4) a54 = a55 at sl55 f4_55 f5_55 f7_55 f8_55 f39_55 f40_55 ⊢
          repeat refine wp_seq ?_
          refine RG.region_text' (its := F82g_18i N kn ka i q ns xs ys d C C2 s s2 s3 s4) (bl := F82g_18b N kn ka i q ns xs ys d C C2 s s2 s3 s4) (olds := F82g_18o N kn ka i q ns xs ys d C C2 s s2 s3 s4) hS55 (RG.Reg.mk' (by rw [sl55.size]; kernel_rfl) ⟨f40_55, trivial⟩ ⟨?_, ?_, trivial⟩) (by kernel_rfl) (by kernel_rfl) ⟨RG.endB1_st (by kernel_rfl), List.forall_mem_cons.2 ⟨rfl, List.forall_mem_cons.2 ⟨rfl, List.forall_mem_cons.2 ⟨rfl, fun _ h => absurd h List.not_mem_nil⟩⟩⟩⟩ ?_
          · exact RG.cert_binc rfl .add 3 3 40 (.int .i64 (i : Int)) (.int .i64 1) (.int .i64 ((i + 1 : Nat) : Int)) rfl rfl (fun μ a K => K.old 40 (.v (.int .i64 (i : Int))) (List.Mem.head _) (by kernel_rfl)) (fun w => by kernel_rfl) (addn i 1 (by omega) (by omega))
          · exact RG.cert_move rfl 59 (Or.inl rfl) (fun μ a K => by have h := K.op 59 0 (List.Mem.head _) rfl; exact h)
          intro new56 w56 hl56 hS56
          obtain rfl := RG.len0 hl56
          replace hS56 : RG.St w w.heap.size [] [[.int .u64 0, .int .u64 0, .int .u64 0, .int .u64 0, .int .u64 0, .int .u64 0, .int .u64 0, .int .u64 0], C, (tw s4)] [kr, kt, kl] w56 := hS56
          have sl56 : RG.Sl (RG.puts (RG.ad ([kr, kt, kl] ++ [])) (F82g_18i N kn ka i q ns xs ys d C C2 s s2 s3 s4) a55) 62 := sl55.puts
          have f4_56 := RG.put_old (μ := RG.ad ([kr, kt, kl] ++ [])) (its := (F82g_18i N kn ka i q ns xs ys d C C2 s s2 s3 s4)) f4_55 (by kernel_rfl)
          have f5_56 := RG.put_old (μ := RG.ad ([kr, kt, kl] ++ [])) (its := (F82g_18i N kn ka i q ns xs ys d C C2 s s2 s3 s4)) f5_55 (by kernel_rfl)
          have f7_56 := RG.put_old (μ := RG.ad ([kr, kt, kl] ++ [])) (its := (F82g_18i N kn ka i q ns xs ys d C C2 s s2 s3 s4)) f7_55 (by kernel_rfl)
          have f8_56 := RG.put_old (μ := RG.ad ([kr, kt, kl] ++ [])) (its := (F82g_18i N kn ka i q ns xs ys d C C2 s s2 s3 s4)) f8_55 (by kernel_rfl)
          have f39_56 := RG.put_old (μ := RG.ad ([kr, kt, kl] ++ [])) (its := (F82g_18i N kn ka i q ns xs ys d C C2 s s2 s3 s4)) f39_55 (by kernel_rfl)
          have f40_56 : (RG.puts (RG.ad ([kr, kt, kl] ++ [])) (F82g_18i N kn ka i q ns xs ys d C C2 s s2 s3 s4) a55).tmps[40]? = some (.int .i64 ((i + 1 : Nat) : Int)) := by have h := RG.put_new (μ := RG.ad ([kr, kt, kl] ++ [])) (its := (F82g_18i N kn ka i q ns xs ys d C C2 s s2 s3 s4)) sl55 1 (by kernel_rfl) rfl rfl rfl; exact h
          generalize RG.puts (RG.ad ([kr, kt, kl] ++ [])) (F82g_18i N kn ka i q ns xs ys d C C2 s s2 s3 s4) a55 = a56 at sl56 f4_56 f5_56 f7_56 f8_56 f39_56 f40_56 ⊢
          show ∃ n', _
          exact ⟨m' - 1, by omega, i + 1, by omega, sl56, f4_56, f5_56, f7_56, f8_56, f39_56, f40_56, by rw [hstep]; exact hS56⟩
      · have hiN3 : i = N := by omega
        rw [hiN3] at hse3
        rw [hse3] at hnext
        repeat refine wp_seq ?_
        refine RG.region_text' (its := F82h_13i N kn ka i q ns xs ys d C C2 s s2 s3 s4) (bl := F82h_13b N kn ka i q ns xs ys d C C2 s s2 s3 s4) (olds := F82h_13o N kn ka i q ns xs ys d C C2 s s2 s3 s4) hSr (RG.Reg.mk' (by rw [slc.size]; kernel_rfl) ⟨r40, r39, trivial⟩ ⟨?_, trivial⟩) (by kernel_rfl) (by kernel_rfl) ⟨RG.endB1_st (by kernel_rfl), List.forall_mem_cons.2 ⟨rfl, List.forall_mem_cons.2 ⟨rfl, List.forall_mem_cons.2 ⟨rfl, fun _ h => absurd h List.not_mem_nil⟩⟩⟩⟩ ?_
        · exact RG.cert_bin rfl .lss 3 3 40 39 (.int .i64 (i : Int)) (.int .i64 (N : Int)) (.bool false) rfl rfl (fun μ a K => K.old 40 (.v (.int .i64 (i : Int))) (List.Mem.head _) (by kernel_rfl)) (fun μ a K => K.old 39 (.v (.int .i64 (N : Int))) (List.Mem.tail _ (List.Mem.head _)) (by kernel_rfl)) (fun w => by kernel_rfl) (lssn_f hi)
        intro new61 w61 hl61 hS61
        obtain rfl := RG.len0 hl61
        replace hS61 : RG.St w w.heap.size [] [[.int .u64 0, .int .u64 0, .int .u64 0, .int .u64 0, .int .u64 0, .int .u64 0, .int .u64 0, .int .u64 0], C, (tw s)] [kr, kt, kl] w61 := hS61
        have sl61 : RG.Sl (RG.puts (RG.ad ([kr, kt, kl] ++ [])) (F82h_13i N kn ka i q ns xs ys d C C2 s s2 s3 s4) c) 62 := slc.puts
        have f4_61 := RG.put_old (μ := RG.ad ([kr, kt, kl] ++ [])) (its := (F82h_13i N kn ka i q ns xs ys d C C2 s s2 s3 s4)) r4 (by kernel_rfl)
        have f5_61 := RG.put_old (μ := RG.ad ([kr, kt, kl] ++ [])) (its := (F82h_13i N kn ka i q ns xs ys d C C2 s s2 s3 s4)) r5 (by kernel_rfl)
        have f7_61 := RG.put_old (μ := RG.ad ([kr, kt, kl] ++ [])) (its := (F82h_13i N kn ka i q ns xs ys d C C2 s s2 s3 s4)) r7 (by kernel_rfl)
        have f8_61 := RG.put_old (μ := RG.ad ([kr, kt, kl] ++ [])) (its := (F82h_13i N kn ka i q ns xs ys d C C2 s s2 s3 s4)) r8 (by kernel_rfl)
        have f41_61 : (RG.puts (RG.ad ([kr, kt, kl] ++ [])) (F82h_13i N kn ka i q ns xs ys d C C2 s s2 s3 s4) c).tmps[41]? = some (.bool false) := by have h := RG.put_new (μ := RG.ad ([kr, kt, kl] ++ [])) (its := (F82h_13i N kn ka i q ns xs ys d C C2 s s2 s3 s4)) slc 0 (by kernel_rfl) rfl rfl rfl; exact h
        generalize RG.puts (RG.ad ([kr, kt, kl] ++ [])) (F82h_13i N kn ka i q ns xs ys d C C2 s s2 s3 s4) c = a61 at sl61 f4_61 f5_61 f7_61 f8_61 f41_61 ⊢
        repeat refine wp_seq ?_
        refine wp_cond_false (RG.eval_of f41_61) ?_
        refine wp_exit ?_
        dsimp only [Exit.then, Exit.inBlock]
        rw [if_pos rfl]
        repeat refine wp_seq ?_
        refine RG.region_text' (its := F82h_10i N kn ka i q ns xs ys d C C2 s s2 s3 s4) (bl := F82h_10b N kn ka i q ns xs ys d C C2 s s2 s3 s4) (olds := F82h_10o N kn ka i q ns xs ys d C C2 s s2 s3 s4) hS61 (RG.Reg.mk' (by rw [sl61.size]; kernel_rfl) ⟨f8_61, trivial⟩ ⟨?_, ?_, ?_, trivial⟩) (by kernel_rfl) (by kernel_rfl) ⟨RG.endB1_st (by kernel_rfl), List.forall_mem_cons.2 ⟨rfl, List.forall_mem_cons.2 ⟨rfl, List.forall_mem_cons.2 ⟨rfl, fun _ h => absurd h List.not_mem_nil⟩⟩⟩⟩ ?_
        · exact RG.cert_move rfl 8 (Or.inl rfl) (fun μ a K => K.old 8 (.v (.int .i64 (q : Int))) (List.Mem.head _) (by kernel_rfl))
        · exact RG.cert_binc rfl .sub 3 3 34 (.int .i64 (q : Int)) (.int .i64 1) (.int .i64 ((q : Int) - 1)) rfl rfl (fun μ a K => by have h := K.op 34 0 (List.Mem.head _) rfl; exact h) (fun w => by kernel_rfl) (sub1' q (by omega))
        · exact RG.cert_move rfl 35 (Or.inr rfl) (fun μ a K => by have h := K.op 35 1 (List.Mem.head _) rfl; exact h)
        intro new62 w62 hl62 hS62
        obtain rfl := RG.len0 hl62
        replace hS62 : RG.St w w.heap.size [] [[.int .u64 0, .int .u64 0, .int .u64 0, .int .u64 0, .int .u64 0, .int .u64 0, .int .u64 0, .int .u64 0], C, (tw s)] [kr, kt, kl] w62 := hS62
        have sl62 : RG.Sl (RG.puts (RG.ad ([kr, kt, kl] ++ [])) (F82h_10i N kn ka i q ns xs ys d C C2 s s2 s3 s4) a61) 62 := sl61.puts
        have f4_62 := RG.put_old (μ := RG.ad ([kr, kt, kl] ++ [])) (its := (F82h_10i N kn ka i q ns xs ys d C C2 s s2 s3 s4)) f4_61 (by kernel_rfl)
        have f5_62 := RG.put_old (μ := RG.ad ([kr, kt, kl] ++ [])) (its := (F82h_10i N kn ka i q ns xs ys d C C2 s s2 s3 s4)) f5_61 (by kernel_rfl)
        have f7_62 := RG.put_old (μ := RG.ad ([kr, kt, kl] ++ [])) (its := (F82h_10i N kn ka i q ns xs ys d C C2 s s2 s3 s4)) f7_61 (by kernel_rfl)
        have f8_62 : (RG.puts (RG.ad ([kr, kt, kl] ++ [])) (F82h_10i N kn ka i q ns xs ys d C C2 s s2 s3 s4) a61).tmps[8]? = some (.int .i64 ((q : Int) - 1)) := by have h := RG.put_new (μ := RG.ad ([kr, kt, kl] ++ [])) (its := (F82h_10i N kn ka i q ns xs ys d C C2 s s2 s3 s4)) sl61 2 (by kernel_rfl) rfl rfl rfl; exact h
        generalize RG.puts (RG.ad ([kr, kt, kl] ++ [])) (F82h_10i N kn ka i q ns xs ys d C C2 s s2 s3 s4) a61 = a62 at sl62 f4_62 f5_62 f7_62 f8_62 ⊢
        show ∃ n', _
        exact ⟨q, Nat.lt_succ_self q, by omega, sl62, f4_62, f5_62, f7_62, f8_62, by rw [hnext]; exact hS62⟩
end Go.Proofs.Ytdeidgbknlmhjab
