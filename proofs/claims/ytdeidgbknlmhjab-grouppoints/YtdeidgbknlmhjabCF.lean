import Derived.Test.YtdeidgbknlmhjabTF
import Derived.Deep.LoopGhost
set_option linter.unusedVariables false
set_option linter.unusedSimpArgs false
namespace Go.Proofs.Ytdeidgbknlmhjab
open Go.RowKit Go.Sort
variable {P : Nat} [NeZero P]

def F107a_0i (n off i : Nat) (x y : Fin P) (s0 s2 s3 sp : T3 P) (D : Nat → Int) (C0 C1 C2 : List Value)  : List RG.It := [⟨some 4, [], (.p 1 0), .make 1⟩,
  ⟨some 5, [], (.p 2 0), .make 2⟩]
def F107a_0b (n off i : Nat) (x y : Fin P) (s0 s2 s3 sp : T3 P) (D : Nat → Int) (C0 C1 C2 : List Value)  : List RG.Bl := [⟨C0, C0, none, none⟩, ⟨(wn n), (wn n), some 0, none⟩, ⟨(ws x ++ (ws y)), (ws x ++ (ws y)), some 1, none⟩]
def F107a_0o (n off i : Nat) (x y : Fin P) (s0 s2 s3 sp : T3 P) (D : Nat → Int) (C0 C1 C2 : List Value)  : List (Tmp × RG.SV) := [(1, (.v (nv n))), (2, (.v (pv x y)))]
def F107b_1i (n off i : Nat) (x y : Fin P) (s0 s2 s3 sp : T3 P) (D : Nat → Int) (C0 C1 C2 : List Value)  : List RG.It := [⟨some 8, [], (.p 0 off), .stay⟩,
  ⟨some 9, [], (.v (nv n)), .stay⟩,
  ⟨some 10, [(9, 1)], (.v (dv D)), .call⟩,
  ⟨some 11, [(8, 0)], (.p 0 off), .stay⟩,
  ⟨some 12, [(11, 3)], (.p 0 (off + 96)), .stay⟩,
  ⟨none, [(12, 4), (10, 2)], (.v undef), .put 0⟩]
def F107b_1b (n off i : Nat) (x y : Fin P) (s0 s2 s3 sp : T3 P) (D : Nat → Int) (C0 C1 C2 : List Value)  : List RG.Bl := [⟨C0, C1, none, some 5⟩, ⟨(wn n), (wn n), none, none⟩, ⟨(ws x ++ (ws y)), (ws x ++ (ws y)), none, none⟩]
def F107b_1o (n off i : Nat) (x y : Fin P) (s0 s2 s3 sp : T3 P) (D : Nat → Int) (C0 C1 C2 : List Value)  : List (Tmp × RG.SV) := [(0, (.p 0 off)), (4, (.p 1 0))]
def F107c_2i (n off i : Nat) (x y : Fin P) (s0 s2 s3 sp : T3 P) (D : Nat → Int) (C0 C1 C2 : List Value)  : List RG.It := [⟨some 13, [], (.p 0 off), .stay⟩,
  ⟨some 14, [], (.v (pv x y)), .stay⟩,
  ⟨some 15, [(14, 1)], (.v (tv s0)), .call⟩,
  ⟨some 16, [(13, 0)], (.p 0 off), .stay⟩,
  ⟨some 17, [(16, 3)], (.p 0 (off + 0)), .stay⟩,
  ⟨some 18, [(17, 4)], (.p 0 ((off + 0) + 12 * 0)), .stay⟩,
  ⟨none, [(18, 5), (15, 2)], (.v undef), .put 0⟩]
def F107c_2b (n off i : Nat) (x y : Fin P) (s0 s2 s3 sp : T3 P) (D : Nat → Int) (C0 C1 C2 : List Value)  : List RG.Bl := [⟨C1, C2, none, some 6⟩, ⟨(wn n), (wn n), none, none⟩, ⟨(ws x ++ (ws y)), (ws x ++ (ws y)), none, none⟩]
def F107c_2o (n off i : Nat) (x y : Fin P) (s0 s2 s3 sp : T3 P) (D : Nat → Int) (C0 C1 C2 : List Value)  : List (Tmp × RG.SV) := [(0, (.p 0 off)), (5, (.p 2 0))]
def F107d_3i (n off i : Nat) (x y : Fin P) (s0 s2 s3 sp : T3 P) (D : Nat → Int) (C0 C1 C2 : List Value)  : List RG.It := [⟨some 19, [], (.p 0 off), .stay⟩,
  ⟨some 20, [(19, 0)], (.p 0 off), .stay⟩,
  ⟨some 21, [(20, 1)], (.p 0 (off + 0)), .stay⟩,
  ⟨some 22, [(21, 2)], (.p 0 ((off + 0) + 12 * 0)), .stay⟩,
  ⟨some 23, [(22, 3)], (.v (tv s0)), .stay⟩,
  ⟨some 24, [(23, 4)], (.v (tv s2)), .call⟩,
  ⟨some 6, [], (.p 3 0), .make 3⟩,
  ⟨none, [(6, 6), (24, 5)], (.v undef), .put 3⟩]
def F107d_3b (n off i : Nat) (x y : Fin P) (s0 s2 s3 sp : T3 P) (D : Nat → Int) (C0 C1 C2 : List Value)  : List RG.Bl := [⟨C2, C2, none, none⟩, ⟨(wn n), (wn n), none, none⟩, ⟨(ws x ++ (ws y)), (ws x ++ (ws y)), none, none⟩, ⟨[.int .u64 0, .int .u64 0, .int .u64 0, .int .u64 0, .int .u64 0, .int .u64 0, .int .u64 0, .int .u64 0, .int .u64 0, .int .u64 0, .int .u64 0, .int .u64 0], (tw s2), some 6, some 7⟩]
def F107d_3o (n off i : Nat) (x y : Fin P) (s0 s2 s3 sp : T3 P) (D : Nat → Int) (C0 C1 C2 : List Value)  : List (Tmp × RG.SV) := [(0, (.p 0 off))]
def F107d_4i (n off i : Nat) (x y : Fin P) (s0 s2 s3 sp : T3 P) (D : Nat → Int) (C0 C1 C2 : List Value)  : List RG.It := [⟨some 7, [], (.v (.int .i64 1)), .stay⟩]
def F107d_4b (n off i : Nat) (x y : Fin P) (s0 s2 s3 sp : T3 P) (D : Nat → Int) (C0 C1 C2 : List Value)  : List RG.Bl := [⟨C2, C2, none, none⟩, ⟨(wn n), (wn n), none, none⟩, ⟨(ws x ++ (ws y)), (ws x ++ (ws y)), none, none⟩, ⟨(tw s2), (tw s2), none, none⟩]
def F107d_4o (n off i : Nat) (x y : Fin P) (s0 s2 s3 sp : T3 P) (D : Nat → Int) (C0 C1 C2 : List Value)  : List (Tmp × RG.SV) := []
def F107e_5i (n off i : Nat) (x y : Fin P) (s0 s2 s3 sp : T3 P) (D : Nat → Int) (C0 C1 C2 : List Value)  : List RG.It := [⟨some 25, [], (.v (.int .i64 (i : Int))), .stay⟩,
  ⟨some 26, [(25, 0)], (.v (.bool true)), .stay⟩]
def F107e_5b (n off i : Nat) (x y : Fin P) (s0 s2 s3 sp : T3 P) (D : Nat → Int) (C0 C1 C2 : List Value)  : List RG.Bl := [⟨C1, C1, none, none⟩, ⟨(wn n), (wn n), none, none⟩, ⟨(ws x ++ (ws y)), (ws x ++ (ws y)), none, none⟩, ⟨(tw s2), (tw s2), none, none⟩]
def F107e_5o (n off i : Nat) (x y : Fin P) (s0 s2 s3 sp : T3 P) (D : Nat → Int) (C0 C1 C2 : List Value)  : List (Tmp × RG.SV) := [(7, (.v (.int .i64 (i : Int))))]
def F107e_7i (n off i : Nat) (x y : Fin P) (s0 s2 s3 sp : T3 P) (D : Nat → Int) (C0 C1 C2 : List Value)  : List RG.It := [⟨some 29, [], (.p 0 off), .stay⟩,
  ⟨some 30, [], (.v (.int .i64 (i : Int))), .stay⟩,
  ⟨some 31, [], (.p 0 off), .stay⟩,
  ⟨some 32, [], (.v (.int .i64 (i : Int))), .stay⟩,
  ⟨some 33, [(32, 3)], (.v (.int .i64 ((i - 1 : Nat) : Int))), .stay⟩,
  ⟨some 34, [(31, 2)], (.p 0 off), .stay⟩,
  ⟨some 35, [(34, 5)], (.p 0 (off + 0)), .stay⟩,
  ⟨some 36, [(35, 6), (33, 4)], (.p 0 ((off + 0) + 12 * (i - 1))), .stay⟩,
  ⟨some 37, [(36, 7)], (.v (tv sp)), .stay⟩,
  ⟨some 38, [], (.v (tv s2)), .stay⟩,
  ⟨some 39, [(37, 8), (38, 9)], (.v (tv s3)), .call⟩,
  ⟨some 40, [(29, 0)], (.p 0 off), .stay⟩,
  ⟨some 41, [(40, 11)], (.p 0 (off + 0)), .stay⟩,
  ⟨some 42, [(41, 12), (30, 1)], (.p 0 ((off + 0) + 12 * i)), .stay⟩,
  ⟨none, [(42, 13), (39, 10)], (.v undef), .put 0⟩]
def F107e_7b (n off i : Nat) (x y : Fin P) (s0 s2 s3 sp : T3 P) (D : Nat → Int) (C0 C1 C2 : List Value)  : List RG.Bl := [⟨C1, C2, none, some 14⟩, ⟨(wn n), (wn n), none, none⟩, ⟨(ws x ++ (ws y)), (ws x ++ (ws y)), none, none⟩, ⟨(tw s2), (tw s2), none, none⟩]
def F107e_7o (n off i : Nat) (x y : Fin P) (s0 s2 s3 sp : T3 P) (D : Nat → Int) (C0 C1 C2 : List Value)  : List (Tmp × RG.SV) := [(0, (.p 0 off)), (7, (.v (.int .i64 (i : Int)))), (6, (.p 3 0))]
def F107e_6i (n off i : Nat) (x y : Fin P) (s0 s2 s3 sp : T3 P) (D : Nat → Int) (C0 C1 C2 : List Value)  : List RG.It := [⟨some 27, [], (.v (.int .i64 (i : Int))), .stay⟩,
  ⟨some 28, [(27, 0)], (.v (.int .i64 ((i + 1 : Nat) : Int))), .stay⟩,
  ⟨some 7, [(28, 1)], (.v (.int .i64 ((i + 1 : Nat) : Int))), .stay⟩]
def F107e_6b (n off i : Nat) (x y : Fin P) (s0 s2 s3 sp : T3 P) (D : Nat → Int) (C0 C1 C2 : List Value)  : List RG.Bl := [⟨C2, C2, none, none⟩, ⟨(wn n), (wn n), none, none⟩, ⟨(ws x ++ (ws y)), (ws x ++ (ws y)), none, none⟩, ⟨(tw s2), (tw s2), none, none⟩]
def F107e_6o (n off i : Nat) (x y : Fin P) (s0 s2 s3 sp : T3 P) (D : Nat → Int) (C0 C1 C2 : List Value)  : List (Tmp × RG.SV) := [(7, (.v (.int .i64 (i : Int))))]
def F107f_5i (n off i : Nat) (x y : Fin P) (s0 s2 s3 sp : T3 P) (D : Nat → Int) (C0 C1 C2 : List Value)  : List RG.It := [⟨some 25, [], (.v (.int .i64 (i : Int))), .stay⟩,
  ⟨some 26, [(25, 0)], (.v (.bool false)), .stay⟩]
def F107f_5b (n off i : Nat) (x y : Fin P) (s0 s2 s3 sp : T3 P) (D : Nat → Int) (C0 C1 C2 : List Value)  : List RG.Bl := [⟨C1, C1, none, none⟩, ⟨(wn n), (wn n), none, none⟩, ⟨(ws x ++ (ws y)), (ws x ++ (ws y)), none, none⟩, ⟨(tw s2), (tw s2), none, none⟩]
def F107f_5o (n off i : Nat) (x y : Fin P) (s0 s2 s3 sp : T3 P) (D : Nat → Int) (C0 C1 C2 : List Value)  : List (Tmp × RG.SV) := [(7, (.v (.int .i64 (i : Int))))]

set_option maxHeartbeats 2000000 in
set_option maxRecDepth 100000 in
theorem fill_c (F : Fld P) {n : Nat} (hn : n < top) (x y : Fin P) (C0 : List Value) (kt off : Nat) (hoff : off + 353 ≤ C0.length) (w : World) (hk : kt < w.heap.size) (ht : w.there kt 0 C0.length) (hr : w.rangeAt kt 0 C0) :
    Calls Try.prog 107 #[.pointer (some ⟨kt, off, none⟩), nv n, pv x y] w (Ret fun r w' => (∃ C, Fi x y (digs n) C0 off 8 C ∧ RG.PutTo kt C0.length C w w') ∧ r = .tuple #[]) := by
  obtain ⟨D, hDe⟩ : ∃ D, digs n = D := ⟨_, rfl⟩
  have hD : Gives 115 #[nv n] (dv D) := hDe ▸ digits_c hn
  obtain ⟨s0, hs0e⟩ : ∃ s, raJ x y = s := ⟨_, rfl⟩
  have hs0 : Gives 73 #[pv x y] (tv s0) := hs0e ▸ raJ_c F x y
  obtain ⟨s2, hs2e⟩ : ∃ s, twJ s0 = s := ⟨_, rfl⟩
  have hs2 : Gives 103 #[tv s0] (tv s2) := hs2e ▸ twJ_c F s0
  obtain ⟨C1, hC1e⟩ : ∃ c, RG.rep C0 (off + 96) (dg D) = c := ⟨_, rfl⟩
  have hlD : off + 96 + (dg D).length ≤ C0.length := by rw [dg_length]; omega
  have hC1 := hC1e ▸ RG.rep_at hlD
  have hL1 : C1.length = C0.length := hC1e ▸ RG.rep_length hlD
  have F1 : Fi x y D C0 off 0 C1 := hC1e ▸ Fi.first hoff
  obtain ⟨C2, hC2e⟩ : ∃ c, RG.rep C1 (off + 0 + 12 * 0) (tw s0) = c := ⟨_, rfl⟩
  have hlS : off + 0 + 12 * 0 + (tw s0).length ≤ C1.length := by rw [tw_length]; omega
  have hC2 := hC2e ▸ RG.rep_at hlS
  have hL2 : C2.length = C1.length := hC2e ▸ RG.rep_length hlS
  have F2 : Fi x y D C0 off 1 C2 := by
    have := F1.next hoff (by decide)
    rw [← hC2e, ← hs0e]
    exact this
  have hsub0 : (C2.drop (off + 0 + 12 * 0)).take (tw s0).length = tw s0 := by
    have := F2.sub hoff (q := 0) (by decide) (by decide)
    rw [← hs0e]
    exact this
  obtain ⟨i, hi0⟩ : ∃ i : Nat, i = 0 := ⟨_, rfl⟩
  obtain ⟨s3, -⟩ : ∃ s : T3 P, s = s0 := ⟨_, rfl⟩
  obtain ⟨sp, -⟩ : ∃ s : T3 P, s = s0 := ⟨_, rfl⟩
  go_enter Try.func107, Try.ntmps107
  refine RG.var3 (v0 := .pointer (some ⟨kt, off, none⟩)) (v1 := nv n) (v2 := pv x y) (n := 43) (by kernel_rfl) (by kernel_rfl) (by kernel_rfl) (by kernel_rfl) (by kernel_rfl) ?_
  intro a0 sl0 f0 f1 f2
  have hS0 := RG.St.lent hk hr ht
  repeat refine wp_seq ?_
  refine RG.region_text' (its := F107a_0i n off i x y s0 s2 s3 sp D C0 C1 C2) (bl := F107a_0b n off i x y s0 s2 s3 sp D C0 C1 C2) (olds := F107a_0o n off i x y s0 s2 s3 sp D C0 C1 C2) hS0 (RG.Reg.mk' (by rw [sl0.size]; kernel_rfl) ⟨f1, f2, trivial⟩ ⟨?_, ?_, trivial⟩) (by kernel_rfl) (by kernel_rfl) ⟨RG.endB1_st (by kernel_rfl), List.forall_mem_cons.2 ⟨rfl, List.forall_mem_cons.2 ⟨rfl, List.forall_mem_cons.2 ⟨rfl, fun _ h => absurd h List.not_mem_nil⟩⟩⟩⟩ ?_
  · exact RG.cert_box 1 rfl rfl _ rfl 85 1 rfl (nv n) (fun μ a K => K.old 1 (.v (nv n)) (List.Mem.head _) (by kernel_rfl)) (fun w => by kernel_rfl)
  · exact RG.cert_box 2 rfl rfl _ rfl 109 2 rfl (pv x y) (fun μ a K => K.old 2 (.v (pv x y)) (List.Mem.tail _ (List.Mem.head _)) (by kernel_rfl)) (fun w => by kernel_rfl)
  intro new1 w1 hl1 hS1
  obtain ⟨j1, i1, rfl⟩ := RG.len2 hl1
  clear hl1
  replace hS1 : RG.St w w.heap.size [kt] [C0, (wn n), (ws x ++ (ws y))] [kt, j1, i1] w1 := hS1
  have sl1 : RG.Sl (RG.puts (RG.ad ([kt] ++ [j1, i1])) (F107a_0i n off i x y s0 s2 s3 sp D C0 C1 C2) a0) 43 := sl0.puts
  have f0_1 := RG.put_old (μ := RG.ad ([kt] ++ [j1, i1])) (its := (F107a_0i n off i x y s0 s2 s3 sp D C0 C1 C2)) f0 (by kernel_rfl)
  have f4_1 : (RG.puts (RG.ad ([kt] ++ [j1, i1])) (F107a_0i n off i x y s0 s2 s3 sp D C0 C1 C2) a0).tmps[4]? = some (.pointer (some ⟨j1, 0, none⟩)) := by have h := RG.put_new (μ := RG.ad ([kt] ++ [j1, i1])) (its := (F107a_0i n off i x y s0 s2 s3 sp D C0 C1 C2)) sl0 0 (by kernel_rfl) rfl rfl rfl; exact h
  have f5_1 : (RG.puts (RG.ad ([kt] ++ [j1, i1])) (F107a_0i n off i x y s0 s2 s3 sp D C0 C1 C2) a0).tmps[5]? = some (.pointer (some ⟨i1, 0, none⟩)) := by have h := RG.put_new (μ := RG.ad ([kt] ++ [j1, i1])) (its := (F107a_0i n off i x y s0 s2 s3 sp D C0 C1 C2)) sl0 1 (by kernel_rfl) rfl rfl rfl; exact h
  generalize RG.puts (RG.ad ([kt] ++ [j1, i1])) (F107a_0i n off i x y s0 s2 s3 sp D C0 C1 C2) a0 = a1 at sl1 f0_1 f4_1 f5_1 ⊢
  repeat refine wp_seq ?_
  refine RG.region_text' (its := F107b_1i n off i x y s0 s2 s3 sp D C0 C1 C2) (bl := F107b_1b n off i x y s0 s2 s3 sp D C0 C1 C2) (olds := F107b_1o n off i x y s0 s2 s3 sp D C0 C1 C2) hS1 (RG.Reg.mk' (by rw [sl1.size]; kernel_rfl) ⟨f0_1, f4_1, trivial⟩ ⟨?_, ?_, ?_, ?_, ?_, ?_, trivial⟩) (by kernel_rfl) (by kernel_rfl) ⟨RG.endB1_st (by kernel_rfl), List.forall_mem_cons.2 ⟨hL1, List.forall_mem_cons.2 ⟨rfl, List.forall_mem_cons.2 ⟨rfl, fun _ h => absurd h List.not_mem_nil⟩⟩⟩⟩ ?_
  · exact RG.cert_move rfl 0 (Or.inl rfl) (fun μ a K => K.old 0 (.p 0 off) (List.Mem.head _) (by kernel_rfl))
  · exact RG.cert_load rfl 1 0 _ rfl rfl (by kernel_rfl) 85 4 rfl (wn n) rfl (fun μ a K => K.old 4 (.p 1 0) (List.Mem.tail _ (List.Mem.head _)) (by kernel_rfl)) (by kernel_rfl) u85 i85
  · exact RG.cert_call1 rfl 115 9 (nv n) (dv D) rfl (fun a w => by kernel_rfl) (fun μ a K => by have h := K.op 9 1 (List.Mem.head _) rfl; exact h) (hD)
  · exact RG.cert_nil rfl 8 rfl (.p 0 off) (fun μ => ⟨_, rfl⟩) rfl (fun μ a K => by have h := K.op 8 0 (List.Mem.head _) rfl; exact h)
  · exact RG.cert_field rfl 140 11 1 rfl 0 off (off + 96) rfl (fun μ a K => by have h := K.op 11 3 (List.Mem.head _) rfl; exact h) (fun k w => by kernel_rfl)
  · exact RG.cert_putAt 0 (off + 96) rfl _ rfl 138 (.tmp 12) (.tmp 10) (dg D) rfl rfl (fun μ a K => by have h := K.op 12 4 (List.Mem.head _) rfl; exact h) (fun μ a K => by have h := K.op 10 2 (List.Mem.tail _ (List.Mem.head _)) rfl; exact h) (by show off + 96 + (dg D).length ≤ C0.length; rw [dg_length]; omega) (hC1) (by show _ = some (dg _).length; rw [dg_length]; exact i138) (dg_one _)
  intro new2 w2 hl2 hS2
  obtain rfl := RG.len0 hl2
  replace hS2 : RG.St w w.heap.size [kt] [C1, (wn n), (ws x ++ (ws y))] [kt, j1, i1] w2 := hS2
  have sl2 : RG.Sl (RG.puts (RG.ad ([kt, j1, i1] ++ [])) (F107b_1i n off i x y s0 s2 s3 sp D C0 C1 C2) a1) 43 := sl1.puts
  have f0_2 := RG.put_old (μ := RG.ad ([kt, j1, i1] ++ [])) (its := (F107b_1i n off i x y s0 s2 s3 sp D C0 C1 C2)) f0_1 (by kernel_rfl)
  have f5_2 := RG.put_old (μ := RG.ad ([kt, j1, i1] ++ [])) (its := (F107b_1i n off i x y s0 s2 s3 sp D C0 C1 C2)) f5_1 (by kernel_rfl)
  generalize RG.puts (RG.ad ([kt, j1, i1] ++ [])) (F107b_1i n off i x y s0 s2 s3 sp D C0 C1 C2) a1 = a2 at sl2 f0_2 f5_2 ⊢
  repeat refine wp_seq ?_
  refine RG.region_draws' (by kernel_rfl) (its := F107c_2i n off i x y s0 s2 s3 sp D C0 C1 C2) (bl := F107c_2b n off i x y s0 s2 s3 sp D C0 C1 C2) (olds := F107c_2o n off i x y s0 s2 s3 sp D C0 C1 C2) hS2 (RG.Reg.mk' (by rw [sl2.size]; kernel_rfl) ⟨f0_2, f5_2, trivial⟩ ⟨?_, ?_, ?_, ?_, ?_, ?_, ?_, trivial⟩) (by kernel_rfl) (by kernel_rfl) ⟨RG.endB1_st (by kernel_rfl), List.forall_mem_cons.2 ⟨hL2, List.forall_mem_cons.2 ⟨rfl, List.forall_mem_cons.2 ⟨rfl, fun _ h => absurd h List.not_mem_nil⟩⟩⟩⟩ ?_
  · exact RG.cert_move rfl 0 (Or.inl rfl) (fun μ a K => K.old 0 (.p 0 off) (List.Mem.head _) (by kernel_rfl))
  · exact RG.cert_load rfl 2 0 _ rfl rfl (by kernel_rfl) 109 5 rfl (ws x ++ (ws y)) rfl (fun μ a K => K.old 5 (.p 2 0) (List.Mem.tail _ (List.Mem.head _)) (by kernel_rfl)) (by kernel_rfl) u109 i109
  · exact RG.cert_call1 rfl 73 14 (pv x y) (tv s0) rfl (fun a w => by kernel_rfl) (fun μ a K => by have h := K.op 14 1 (List.Mem.head _) rfl; exact h) (hs0)
  · exact RG.cert_nil rfl 13 rfl (.p 0 off) (fun μ => ⟨_, rfl⟩) rfl (fun μ a K => by have h := K.op 13 0 (List.Mem.head _) rfl; exact h)
  · exact RG.cert_field rfl 140 16 0 rfl 0 off (off + 0) rfl (fun μ a K => by have h := K.op 16 3 (List.Mem.head _) rfl; exact h) (fun k w => by kernel_rfl)
  · exact RG.cert_idxc rfl 136 17 (.int .i64 0) rfl (.p 0 (off + 0)) (fun μ a K => by have h := K.op 17 4 (List.Mem.head _) rfl; exact h) (fun μ w => at136 _ _ 0 (by decide) w)
  · exact RG.cert_putAt 0 ((off + 0) + 12 * 0) rfl _ rfl 117 (.tmp 18) (.tmp 15) (tw s0) rfl rfl (fun μ a K => by have h := K.op 18 5 (List.Mem.head _) rfl; exact h) (fun μ a K => by have h := K.op 15 2 (List.Mem.tail _ (List.Mem.head _)) rfl; exact h) (by show off + 0 + 12 * 0 + (tw s0).length ≤ C1.length; rw [tw_length]; omega) (hC2) i117 (tw_one _)
  intro new3 w3 hl3 hS3
  obtain rfl := RG.len0 hl3
  replace hS3 : RG.St w w.heap.size [kt] [C2, (wn n), (ws x ++ (ws y))] [kt, j1, i1] w3 := hS3
  have sl3 : RG.Sl (RG.puts (RG.ad ([kt, j1, i1] ++ [])) (F107c_2i n off i x y s0 s2 s3 sp D C0 C1 C2) a2) 43 := sl2.puts
  have f0_3 := RG.put_old (μ := RG.ad ([kt, j1, i1] ++ [])) (its := (F107c_2i n off i x y s0 s2 s3 sp D C0 C1 C2)) f0_2 (by kernel_rfl)
  generalize RG.puts (RG.ad ([kt, j1, i1] ++ [])) (F107c_2i n off i x y s0 s2 s3 sp D C0 C1 C2) a2 = a3 at sl3 f0_3 ⊢
  repeat refine wp_seq ?_
  refine RG.region_text' (its := F107d_3i n off i x y s0 s2 s3 sp D C0 C1 C2) (bl := F107d_3b n off i x y s0 s2 s3 sp D C0 C1 C2) (olds := F107d_3o n off i x y s0 s2 s3 sp D C0 C1 C2) hS3 (RG.Reg.mk' (by rw [sl3.size]; kernel_rfl) ⟨f0_3, trivial⟩ ⟨?_, ?_, ?_, ?_, ?_, ?_, ?_, ?_, trivial⟩) (by kernel_rfl) (by kernel_rfl) ⟨RG.endB1_st (by kernel_rfl), List.forall_mem_cons.2 ⟨rfl, List.forall_mem_cons.2 ⟨rfl, List.forall_mem_cons.2 ⟨rfl, List.forall_mem_cons.2 ⟨rfl, fun _ h => absurd h List.not_mem_nil⟩⟩⟩⟩⟩ ?_
  · exact RG.cert_move rfl 0 (Or.inl rfl) (fun μ a K => K.old 0 (.p 0 off) (List.Mem.head _) (by kernel_rfl))
  · exact RG.cert_nil rfl 19 rfl (.p 0 off) (fun μ => ⟨_, rfl⟩) rfl (fun μ a K => by have h := K.op 19 0 (List.Mem.head _) rfl; exact h)
  · exact RG.cert_field rfl 140 20 0 rfl 0 off (off + 0) rfl (fun μ a K => by have h := K.op 20 1 (List.Mem.head _) rfl; exact h) (fun k w => by kernel_rfl)
  · exact RG.cert_idxc rfl 136 21 (.int .i64 0) rfl (.p 0 (off + 0)) (fun μ a K => by have h := K.op 21 2 (List.Mem.head _) rfl; exact h) (fun μ w => at136 _ _ 0 (by decide) w)
  · exact RG.cert_load rfl 0 ((off + 0) + 12 * 0) _ rfl rfl (by kernel_rfl) 117 22 rfl (tw s0) rfl (fun μ a K => by have h := K.op 22 3 (List.Mem.head _) rfl; exact h) (hsub0) u117 i117
  · exact RG.cert_call1 rfl 103 23 (tv s0) (tv s2) rfl (fun a w => by kernel_rfl) (fun μ a K => by have h := K.op 23 4 (List.Mem.head _) rfl; exact h) (hs2)
  · exact RG.cert_alloc 3 rfl rfl _ rfl 117 rfl (fun w => by kernel_rfl)
  · exact RG.cert_put 3 rfl _ rfl 117 (.tmp 6) (.tmp 24) rfl rfl rfl (fun μ a K => by have h := K.op 6 6 (List.Mem.head _) rfl; exact h) (fun μ a K => by have h := K.op 24 5 (List.Mem.tail _ (List.Mem.head _)) rfl; exact h) i117 rfl
  intro new4 w4 hl4 hS4
  obtain ⟨j4, rfl⟩ := RG.len1 hl4
  clear hl4
  replace hS4 : RG.St w w.heap.size [kt] [C2, (wn n), (ws x ++ (ws y)), (tw s2)] [kt, j1, i1, j4] w4 := hS4
  have sl4 : RG.Sl (RG.puts (RG.ad ([kt, j1, i1] ++ [j4])) (F107d_3i n off i x y s0 s2 s3 sp D C0 C1 C2) a3) 43 := sl3.puts
  have f0_4 := RG.put_old (μ := RG.ad ([kt, j1, i1] ++ [j4])) (its := (F107d_3i n off i x y s0 s2 s3 sp D C0 C1 C2)) f0_3 (by kernel_rfl)
  have f6_4 : (RG.puts (RG.ad ([kt, j1, i1] ++ [j4])) (F107d_3i n off i x y s0 s2 s3 sp D C0 C1 C2) a3).tmps[6]? = some (.pointer (some ⟨j4, 0, none⟩)) := by have h := RG.put_new (μ := RG.ad ([kt, j1, i1] ++ [j4])) (its := (F107d_3i n off i x y s0 s2 s3 sp D C0 C1 C2)) sl3 6 (by kernel_rfl) rfl rfl rfl; exact h
  generalize RG.puts (RG.ad ([kt, j1, i1] ++ [j4])) (F107d_3i n off i x y s0 s2 s3 sp D C0 C1 C2) a3 = a4 at sl4 f0_4 f6_4 ⊢
  repeat refine wp_seq ?_
  refine RG.region_text' (its := F107d_4i n off i x y s0 s2 s3 sp D C0 C1 C2) (bl := F107d_4b n off i x y s0 s2 s3 sp D C0 C1 C2) (olds := F107d_4o n off i x y s0 s2 s3 sp D C0 C1 C2) hS4 (RG.Reg.mk' (by rw [sl4.size]; kernel_rfl) trivial ⟨?_, trivial⟩) (by kernel_rfl) (by kernel_rfl) ⟨RG.endB1_st (by kernel_rfl), List.forall_mem_cons.2 ⟨rfl, List.forall_mem_cons.2 ⟨rfl, List.forall_mem_cons.2 ⟨rfl, List.forall_mem_cons.2 ⟨rfl, fun _ h => absurd h List.not_mem_nil⟩⟩⟩⟩⟩ ?_
  · exact RG.cert_stay rfl (fun μ a w _ _ => by kernel_rfl)
  intro new5 w5 hl5 hS5
  obtain rfl := RG.len0 hl5
  replace hS5 : RG.St w w.heap.size [kt] [C2, (wn n), (ws x ++ (ws y)), (tw s2)] [kt, j1, i1, j4] w5 := hS5
  have sl5 : RG.Sl (RG.puts (RG.ad ([kt, j1, i1, j4] ++ [])) (F107d_4i n off i x y s0 s2 s3 sp D C0 C1 C2) a4) 43 := sl4.puts
  have f0_5 := RG.put_old (μ := RG.ad ([kt, j1, i1, j4] ++ [])) (its := (F107d_4i n off i x y s0 s2 s3 sp D C0 C1 C2)) f0_4 (by kernel_rfl)
  have f6_5 := RG.put_old (μ := RG.ad ([kt, j1, i1, j4] ++ [])) (its := (F107d_4i n off i x y s0 s2 s3 sp D C0 C1 C2)) f6_4 (by kernel_rfl)
  have f7_5 : (RG.puts (RG.ad ([kt, j1, i1, j4] ++ [])) (F107d_4i n off i x y s0 s2 s3 sp D C0 C1 C2) a4).tmps[7]? = some (.int .i64 1) := by have h := RG.put_new (μ := RG.ad ([kt, j1, i1, j4] ++ [])) (its := (F107d_4i n off i x y s0 s2 s3 sp D C0 C1 C2)) sl4 0 (by kernel_rfl) rfl rfl rfl; exact h
  generalize RG.puts (RG.ad ([kt, j1, i1, j4] ++ [])) (F107d_4i n off i x y s0 s2 s3 sp D C0 C1 C2) a4 = a5 at sl5 f0_5 f6_5 f7_5 ⊢
  subst hDe
  subst hs0e
  subst hs2e
  clear hC1 hC2 hsub0 hL1 hL2 hlD hlS
  repeat refine wp_seq ?_
  refine wp_block ?_
  refine wp_loop_ghost (fun m a wr => ∃ (i : Nat) (C : List Value), 1 ≤ i ∧ i ≤ 8 ∧ i + m = 8 ∧ Fi x y (digs n) C0 off i C ∧ RG.Sl a 43 ∧ a.tmps[0]? = some (.pointer (some ⟨kt, off, none⟩)) ∧ a.tmps[6]? = some (.pointer (some ⟨j4, 0, none⟩)) ∧ a.tmps[7]? = some (.int .i64 (i : Int)) ∧ RG.St w w.heap.size [kt] [C, wn n, ws x ++ ws y, tw (twJ (raJ x y))] [kt, j1, i1, j4] wr) 7 ⟨1, C2, by omega, by omega, by omega, F2, sl5, f0_5, f6_5, f7_5, hS5⟩ ?_
  intro m a wr
  rintro ⟨i, C1, hi1, hi8, hm, hF, sl, g0, g6, g7, hS⟩
  generalize j1 = k1 at g6 hS
  generalize i1 = k2 at g6 hS
  generalize j4 = k3 at g6 hS
  obtain ⟨D, hDe⟩ : ∃ D, digs n = D := ⟨_, rfl⟩
  rw [hDe] at hF
  obtain ⟨s0, hs0e⟩ : ∃ s, raJ x y = s := ⟨_, rfl⟩
  obtain ⟨s2, hs2e⟩ : ∃ s, twJ (raJ x y) = s := ⟨_, rfl⟩
  rw [hs2e] at hS
  obtain ⟨sp, hspe⟩ : ∃ s, od x y (i - 1) = s := ⟨_, rfl⟩
  obtain ⟨s3, hs3e⟩ : ∃ s, plJ sp s2 = s := ⟨_, rfl⟩
  have hs3 : Gives 74 #[tv sp, tv s2] (tv s3) := hs3e ▸ plJ_c F sp s2
  have hlen := hF.len
  by_cases hi : i < 8
  · have hod : od x y i = s3 := by
      obtain ⟨q, rfl⟩ : ∃ q, i = q + 1 := ⟨i - 1, by omega⟩
      rw [← hs3e, ← hspe, ← hs2e]
      rfl
    have hsubp : (C1.drop (off + 0 + 12 * (i - 1))).take (tw sp).length = tw sp := by
      have := hF.sub hoff (q := i - 1) (by omega) (by omega)
      rw [hspe] at this
      exact this
    obtain ⟨C2, hC2e⟩ : ∃ c, RG.rep C1 (off + 0 + 12 * i) (tw s3) = c := ⟨_, rfl⟩
    have hlS : off + 0 + 12 * i + (tw s3).length ≤ C1.length := by rw [tw_length]; omega
    have hC2 := hC2e ▸ RG.rep_at hlS
    have hL2 : C2.length = C1.length := hC2e ▸ RG.rep_length hlS
    have hF2 : Fi x y D C0 off (i + 1) C2 := by
      have := hF.next hoff hi
      rw [hod] at this
      rw [← hC2e]
      exact this
    have hsb : ∀ w, (binOp .sub 3 (.int .i64 (i : Int)) (.int .i64 1)).run Try.prog w = .ok (.int .i64 ((i - 1 : Nat) : Int)) w := fun w => by
      rw [sub64i _ _ (by omega) (by omega), show (i : Int) - 1 = ((i - 1 : Nat) : Int) by omega]
    clear hs0e hC2e
    repeat refine wp_seq ?_
    refine RG.region_text' (its := F107e_5i n off i x y s0 s2 s3 sp D C0 C1 C2) (bl := F107e_5b n off i x y s0 s2 s3 sp D C0 C1 C2) (olds := F107e_5o n off i x y s0 s2 s3 sp D C0 C1 C2) hS (RG.Reg.mk' (by rw [sl.size]; kernel_rfl) ⟨g7, trivial⟩ ⟨?_, ?_, trivial⟩) (by kernel_rfl) (by kernel_rfl) ⟨RG.endB1_st (by kernel_rfl), List.forall_mem_cons.2 ⟨rfl, List.forall_mem_cons.2 ⟨rfl, List.forall_mem_cons.2 ⟨rfl, List.forall_mem_cons.2 ⟨rfl, fun _ h => absurd h List.not_mem_nil⟩⟩⟩⟩⟩ ?_
    · exact RG.cert_move rfl 7 (Or.inl rfl) (fun μ a K => K.old 7 (.v (.int .i64 (i : Int))) (List.Mem.head _) (by kernel_rfl))
    · exact RG.cert_binc rfl .lss 3 3 25 (.int .i64 (i : Int)) (.int .i64 8) (.bool true) rfl rfl (fun μ a K => by have h := K.op 25 0 (List.Mem.head _) rfl; exact h) (fun w => by kernel_rfl) (lssn_t (n := 8) hi)
    intro new1 w1 hl1 hS1
    obtain rfl := RG.len0 hl1
    replace hS1 : RG.St w w.heap.size [kt] [C1, (wn n), (ws x ++ (ws y)), (tw s2)] [kt, k1, k2, k3] w1 := hS1
    have sl1 : RG.Sl (RG.puts (RG.ad ([kt, k1, k2, k3] ++ [])) (F107e_5i n off i x y s0 s2 s3 sp D C0 C1 C2) a) 43 := sl.puts
    have f0_1 := RG.put_old (μ := RG.ad ([kt, k1, k2, k3] ++ [])) (its := (F107e_5i n off i x y s0 s2 s3 sp D C0 C1 C2)) g0 (by kernel_rfl)
    have f6_1 := RG.put_old (μ := RG.ad ([kt, k1, k2, k3] ++ [])) (its := (F107e_5i n off i x y s0 s2 s3 sp D C0 C1 C2)) g6 (by kernel_rfl)
    have f7_1 := RG.put_old (μ := RG.ad ([kt, k1, k2, k3] ++ [])) (its := (F107e_5i n off i x y s0 s2 s3 sp D C0 C1 C2)) g7 (by kernel_rfl)
    have f26_1 : (RG.puts (RG.ad ([kt, k1, k2, k3] ++ [])) (F107e_5i n off i x y s0 s2 s3 sp D C0 C1 C2) a).tmps[26]? = some (.bool true) := by have h := RG.put_new (μ := RG.ad ([kt, k1, k2, k3] ++ [])) (its := (F107e_5i n off i x y s0 s2 s3 sp D C0 C1 C2)) sl 1 (by kernel_rfl) rfl rfl rfl; exact h
    generalize RG.puts (RG.ad ([kt, k1, k2, k3] ++ [])) (F107e_5i n off i x y s0 s2 s3 sp D C0 C1 C2) a = a1 at sl1 f0_1 f6_1 f7_1 f26_1 ⊢
    repeat refine wp_seq ?_
    refine wp_cond_true (RG.eval_of f26_1) ?_
    refine wp_skip ?_
    refine wp_seq ?_
    refine wp_block ?_
    repeat refine wp_seq ?_
    refine RG.region_draws' (by kernel_rfl) (its := F107e_7i n off i x y s0 s2 s3 sp D C0 C1 C2) (bl := F107e_7b n off i x y s0 s2 s3 sp D C0 C1 C2) (olds := F107e_7o n off i x y s0 s2 s3 sp D C0 C1 C2) hS1 (RG.Reg.mk' (by rw [sl1.size]; kernel_rfl) ⟨f0_1, f7_1, f6_1, trivial⟩ ⟨?_, ?_, ?_, ?_, ?_, ?_, ?_, ?_, ?_, ?_, ?_, ?_, ?_, ?_, ?_, trivial⟩) (by kernel_rfl) (by kernel_rfl) ⟨RG.endB1_st (by kernel_rfl), List.forall_mem_cons.2 ⟨hL2, List.forall_mem_cons.2 ⟨rfl, List.forall_mem_cons.2 ⟨rfl, List.forall_mem_cons.2 ⟨rfl, fun _ h => absurd h List.not_mem_nil⟩⟩⟩⟩⟩ ?_
    · exact RG.cert_move rfl 0 (Or.inl rfl) (fun μ a K => K.old 0 (.p 0 off) (List.Mem.head _) (by kernel_rfl))
    · exact RG.cert_move rfl 7 (Or.inl rfl) (fun μ a K => K.old 7 (.v (.int .i64 (i : Int))) (List.Mem.tail _ (List.Mem.head _)) (by kernel_rfl))
    · exact RG.cert_move rfl 0 (Or.inl rfl) (fun μ a K => K.old 0 (.p 0 off) (List.Mem.head _) (by kernel_rfl))
    · exact RG.cert_move rfl 7 (Or.inl rfl) (fun μ a K => K.old 7 (.v (.int .i64 (i : Int))) (List.Mem.tail _ (List.Mem.head _)) (by kernel_rfl))
    · exact RG.cert_binc rfl .sub 3 3 32 (.int .i64 (i : Int)) (.int .i64 1) (.int .i64 ((i - 1 : Nat) : Int)) rfl rfl (fun μ a K => by have h := K.op 32 3 (List.Mem.head _) rfl; exact h) (fun w => by kernel_rfl) (hsb)
    · exact RG.cert_nil rfl 31 rfl (.p 0 off) (fun μ => ⟨_, rfl⟩) rfl (fun μ a K => by have h := K.op 31 2 (List.Mem.head _) rfl; exact h)
    · exact RG.cert_field rfl 140 34 0 rfl 0 off (off + 0) rfl (fun μ a K => by have h := K.op 34 5 (List.Mem.head _) rfl; exact h) (fun k w => by kernel_rfl)
    · exact RG.cert_idx rfl 136 35 33 rfl (.p 0 (off + 0)) (.int .i64 ((i - 1 : Nat) : Int)) (fun μ a K => by have h := K.op 35 6 (List.Mem.head _) rfl; exact h) (fun μ a K => by have h := K.op 33 4 (List.Mem.tail _ (List.Mem.head _)) rfl; exact h) (fun μ w => at136 _ _ (i - 1) (by omega) w)
    · exact RG.cert_load rfl 0 ((off + 0) + 12 * (i - 1)) _ rfl rfl (by kernel_rfl) 117 36 rfl (tw sp) rfl (fun μ a K => by have h := K.op 36 7 (List.Mem.head _) rfl; exact h) (hsubp) u117 i117
    · exact RG.cert_load rfl 3 0 _ rfl rfl (by kernel_rfl) 117 6 rfl (tw s2) rfl (fun μ a K => K.old 6 (.p 3 0) (List.Mem.tail _ (List.Mem.tail _ (List.Mem.head _))) (by kernel_rfl)) (by kernel_rfl) u117 i117
    · exact RG.cert_call2 rfl 74 37 38 (tv sp) (tv s2) (tv s3) rfl (fun a w => by kernel_rfl) (fun μ a K => by have h := K.op 37 8 (List.Mem.head _) rfl; exact h) (fun μ a K => by have h := K.op 38 9 (List.Mem.tail _ (List.Mem.head _)) rfl; exact h) (hs3)
    · exact RG.cert_nil rfl 29 rfl (.p 0 off) (fun μ => ⟨_, rfl⟩) rfl (fun μ a K => by have h := K.op 29 0 (List.Mem.head _) rfl; exact h)
    · exact RG.cert_field rfl 140 40 0 rfl 0 off (off + 0) rfl (fun μ a K => by have h := K.op 40 11 (List.Mem.head _) rfl; exact h) (fun k w => by kernel_rfl)
    · exact RG.cert_idx rfl 136 41 30 rfl (.p 0 (off + 0)) (.int .i64 (i : Int)) (fun μ a K => by have h := K.op 41 12 (List.Mem.head _) rfl; exact h) (fun μ a K => by have h := K.op 30 1 (List.Mem.tail _ (List.Mem.head _)) rfl; exact h) (fun μ w => at136 _ _ i (by omega) w)
    · exact RG.cert_putAt 0 ((off + 0) + 12 * i) rfl _ rfl 117 (.tmp 42) (.tmp 39) (tw s3) rfl rfl (fun μ a K => by have h := K.op 42 13 (List.Mem.head _) rfl; exact h) (fun μ a K => by have h := K.op 39 10 (List.Mem.tail _ (List.Mem.head _)) rfl; exact h) (by show off + 0 + 12 * i + (tw s3).length ≤ C1.length; rw [tw_length]; omega) (hC2) i117 (tw_one _)
    intro new2 w2 hl2 hS2
    obtain rfl := RG.len0 hl2
    replace hS2 : RG.St w w.heap.size [kt] [C2, (wn n), (ws x ++ (ws y)), (tw s2)] [kt, k1, k2, k3] w2 := hS2
    have sl2 : RG.Sl (RG.puts (RG.ad ([kt, k1, k2, k3] ++ [])) (F107e_7i n off i x y s0 s2 s3 sp D C0 C1 C2) a1) 43 := sl1.puts
    have f0_2 := RG.put_old (μ := RG.ad ([kt, k1, k2, k3] ++ [])) (its := (F107e_7i n off i x y s0 s2 s3 sp D C0 C1 C2)) f0_1 (by kernel_rfl)
    have f6_2 := RG.put_old (μ := RG.ad ([kt, k1, k2, k3] ++ [])) (its := (F107e_7i n off i x y s0 s2 s3 sp D C0 C1 C2)) f6_1 (by kernel_rfl)
    have f7_2 := RG.put_old (μ := RG.ad ([kt, k1, k2, k3] ++ [])) (its := (F107e_7i n off i x y s0 s2 s3 sp D C0 C1 C2)) f7_1 (by kernel_rfl)
    generalize RG.puts (RG.ad ([kt, k1, k2, k3] ++ [])) (F107e_7i n off i x y s0 s2 s3 sp D C0 C1 C2) a1 = a2 at sl2 f0_2 f6_2 f7_2 ⊢
    repeat refine wp_seq ?_
    refine RG.region_text' (its := F107e_6i n off i x y s0 s2 s3 sp D C0 C1 C2) (bl := F107e_6b n off i x y s0 s2 s3 sp D C0 C1 C2) (olds := F107e_6o n off i x y s0 s2 s3 sp D C0 C1 C2) hS2 (RG.Reg.mk' (by rw [sl2.size]; kernel_rfl) ⟨f7_2, trivial⟩ ⟨?_, ?_, ?_, trivial⟩) (by kernel_rfl) (by kernel_rfl) ⟨RG.endB1_st (by kernel_rfl), List.forall_mem_cons.2 ⟨rfl, List.forall_mem_cons.2 ⟨rfl, List.forall_mem_cons.2 ⟨rfl, List.forall_mem_cons.2 ⟨rfl, fun _ h => absurd h List.not_mem_nil⟩⟩⟩⟩⟩ ?_
    · exact RG.cert_move rfl 7 (Or.inl rfl) (fun μ a K => K.old 7 (.v (.int .i64 (i : Int))) (List.Mem.head _) (by kernel_rfl))
    · exact RG.cert_binc rfl .add 3 3 27 (.int .i64 (i : Int)) (.int .i64 1) (.int .i64 ((i + 1 : Nat) : Int)) rfl rfl (fun μ a K => by have h := K.op 27 0 (List.Mem.head _) rfl; exact h) (fun w => by kernel_rfl) (addn i 1 (by omega) (by omega))
    · exact RG.cert_move rfl 28 (Or.inr rfl) (fun μ a K => by have h := K.op 28 1 (List.Mem.head _) rfl; exact h)
    intro new3 w3 hl3 hS3
    obtain rfl := RG.len0 hl3
    replace hS3 : RG.St w w.heap.size [kt] [C2, (wn n), (ws x ++ (ws y)), (tw s2)] [kt, k1, k2, k3] w3 := hS3
    have sl3 : RG.Sl (RG.puts (RG.ad ([kt, k1, k2, k3] ++ [])) (F107e_6i n off i x y s0 s2 s3 sp D C0 C1 C2) a2) 43 := sl2.puts
    have f0_3 := RG.put_old (μ := RG.ad ([kt, k1, k2, k3] ++ [])) (its := (F107e_6i n off i x y s0 s2 s3 sp D C0 C1 C2)) f0_2 (by kernel_rfl)
    have f6_3 := RG.put_old (μ := RG.ad ([kt, k1, k2, k3] ++ [])) (its := (F107e_6i n off i x y s0 s2 s3 sp D C0 C1 C2)) f6_2 (by kernel_rfl)
    have f7_3 : (RG.puts (RG.ad ([kt, k1, k2, k3] ++ [])) (F107e_6i n off i x y s0 s2 s3 sp D C0 C1 C2) a2).tmps[7]? = some (.int .i64 ((i + 1 : Nat) : Int)) := by have h := RG.put_new (μ := RG.ad ([kt, k1, k2, k3] ++ [])) (its := (F107e_6i n off i x y s0 s2 s3 sp D C0 C1 C2)) sl2 2 (by kernel_rfl) rfl rfl rfl; exact h
    generalize RG.puts (RG.ad ([kt, k1, k2, k3] ++ [])) (F107e_6i n off i x y s0 s2 s3 sp D C0 C1 C2) a2 = a3 at sl3 f0_3 f6_3 f7_3 ⊢
    show ∃ n', _
    exact ⟨m - 1, by omega, i + 1, C2, by omega, by omega, by omega, hDe.symm ▸ hF2, sl3, f0_3, f6_3, f7_3, by rw [hs2e]; exact hS3⟩
  · have hi9 : i = 8 := by omega
    obtain ⟨C2, -⟩ : ∃ c : List Value, c = C1 := ⟨_, rfl⟩
    repeat refine wp_seq ?_
    refine RG.region_text' (its := F107f_5i n off i x y s0 s2 s3 sp D C0 C1 C2) (bl := F107f_5b n off i x y s0 s2 s3 sp D C0 C1 C2) (olds := F107f_5o n off i x y s0 s2 s3 sp D C0 C1 C2) hS (RG.Reg.mk' (by rw [sl.size]; kernel_rfl) ⟨g7, trivial⟩ ⟨?_, ?_, trivial⟩) (by kernel_rfl) (by kernel_rfl) ⟨RG.endB1_st (by kernel_rfl), List.forall_mem_cons.2 ⟨rfl, List.forall_mem_cons.2 ⟨rfl, List.forall_mem_cons.2 ⟨rfl, List.forall_mem_cons.2 ⟨rfl, fun _ h => absurd h List.not_mem_nil⟩⟩⟩⟩⟩ ?_
    · exact RG.cert_move rfl 7 (Or.inl rfl) (fun μ a K => K.old 7 (.v (.int .i64 (i : Int))) (List.Mem.head _) (by kernel_rfl))
    · exact RG.cert_binc rfl .lss 3 3 25 (.int .i64 (i : Int)) (.int .i64 8) (.bool false) rfl rfl (fun μ a K => by have h := K.op 25 0 (List.Mem.head _) rfl; exact h) (fun w => by kernel_rfl) (lssn_f (n := 8) hi)
    intro new1 w1 hl1 hS1
    obtain rfl := RG.len0 hl1
    replace hS1 : RG.St w w.heap.size [kt] [C1, (wn n), (ws x ++ (ws y)), (tw s2)] [kt, k1, k2, k3] w1 := hS1
    have sl1 : RG.Sl (RG.puts (RG.ad ([kt, k1, k2, k3] ++ [])) (F107f_5i n off i x y s0 s2 s3 sp D C0 C1 C2) a) 43 := sl.puts
    have f0_1 := RG.put_old (μ := RG.ad ([kt, k1, k2, k3] ++ [])) (its := (F107f_5i n off i x y s0 s2 s3 sp D C0 C1 C2)) g0 (by kernel_rfl)
    have f6_1 := RG.put_old (μ := RG.ad ([kt, k1, k2, k3] ++ [])) (its := (F107f_5i n off i x y s0 s2 s3 sp D C0 C1 C2)) g6 (by kernel_rfl)
    have f7_1 := RG.put_old (μ := RG.ad ([kt, k1, k2, k3] ++ [])) (its := (F107f_5i n off i x y s0 s2 s3 sp D C0 C1 C2)) g7 (by kernel_rfl)
    have f26_1 : (RG.puts (RG.ad ([kt, k1, k2, k3] ++ [])) (F107f_5i n off i x y s0 s2 s3 sp D C0 C1 C2) a).tmps[26]? = some (.bool false) := by have h := RG.put_new (μ := RG.ad ([kt, k1, k2, k3] ++ [])) (its := (F107f_5i n off i x y s0 s2 s3 sp D C0 C1 C2)) sl 1 (by kernel_rfl) rfl rfl rfl; exact h
    generalize RG.puts (RG.ad ([kt, k1, k2, k3] ++ [])) (F107f_5i n off i x y s0 s2 s3 sp D C0 C1 C2) a = a1 at sl1 f0_1 f6_1 f7_1 f26_1 ⊢
    repeat refine wp_seq ?_
    refine wp_cond_false (RG.eval_of f26_1) ?_
    refine wp_exit ?_
    dsimp only [Exit.then, Exit.inBlock]
    rw [if_pos rfl]
    exact ⟨sl1.defers, .tuple #[], RG.results_none rfl, _, rfl, ⟨C1, hDe.symm ▸ hi9 ▸ hF, hS1.putTo hF.len⟩, rfl⟩

end Go.Proofs.Ytdeidgbknlmhjab
