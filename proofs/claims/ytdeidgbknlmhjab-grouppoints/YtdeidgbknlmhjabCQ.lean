import Derived.Test.YtdeidgbknlmhjabCP
set_option linter.unusedVariables false
set_option linter.unusedSimpArgs false
namespace Go.Proofs.Ytdeidgbknlmhjab
open Go.RowKit Go.Sort
variable {P : Nat} [NeZero P]

def F103_0i (x y z c1 c2 c3 c4 c5 c6 c7 c8 c9 c10 c11 c12 c13 c14 c15 c16 c17 c18 c19 : Fin P) : List RG.It := [⟨some 1, [], (.p 0 0), .make 0⟩,
  ⟨some 2, [], (.p 1 0), .make 1⟩]
def F103_0b (x y z c1 c2 c3 c4 c5 c6 c7 c8 c9 c10 c11 c12 c13 c14 c15 c16 c17 c18 c19 : Fin P) : List RG.Bl := [⟨(ws x ++ (ws y ++ (ws z))), (ws x ++ (ws y ++ (ws z))), some 0, none⟩, ⟨[.int .u64 0, .int .u64 0, .int .u64 0, .int .u64 0, .int .u64 0, .int .u64 0, .int .u64 0, .int .u64 0, .int .u64 0, .int .u64 0, .int .u64 0, .int .u64 0], [.int .u64 0, .int .u64 0, .int .u64 0, .int .u64 0, .int .u64 0, .int .u64 0, .int .u64 0, .int .u64 0, .int .u64 0, .int .u64 0, .int .u64 0, .int .u64 0], some 1, none⟩]
def F103_0o (x y z c1 c2 c3 c4 c5 c6 c7 c8 c9 c10 c11 c12 c13 c14 c15 c16 c17 c18 c19 : Fin P) : List (Tmp × RG.SV) := [(0, (.v (rv x y z)))]
def F103_1i (x y z c1 c2 c3 c4 c5 c6 c7 c8 c9 c10 c11 c12 c13 c14 c15 c16 c17 c18 c19 : Fin P) : List RG.It := [⟨some 9, [], (.p 0 0), .stay⟩,
  ⟨some 10, [(9, 0)], (.v (fv x)), .stay⟩,
  ⟨some 11, [], (.p 0 0), .stay⟩,
  ⟨some 12, [(11, 2)], (.v (fv x)), .stay⟩,
  ⟨some 13, [(10, 1), (12, 3)], (.v (fv c1)), .call⟩,
  ⟨some 14, [], (.p 0 4), .stay⟩,
  ⟨some 15, [(14, 5)], (.v (fv y)), .stay⟩,
  ⟨some 16, [], (.p 0 4), .stay⟩,
  ⟨some 17, [(16, 7)], (.v (fv y)), .stay⟩,
  ⟨some 18, [(15, 6), (17, 8)], (.v (fv c2)), .call⟩,
  ⟨some 3, [], (.p 2 0), .make 2⟩,
  ⟨some 4, [], (.p 3 0), .make 3⟩,
  ⟨none, [(3, 10), (13, 4)], (.v undef), .put 2⟩,
  ⟨none, [(4, 11), (18, 9)], (.v undef), .put 3⟩]
def F103_1b (x y z c1 c2 c3 c4 c5 c6 c7 c8 c9 c10 c11 c12 c13 c14 c15 c16 c17 c18 c19 : Fin P) : List RG.Bl := [⟨(ws x ++ (ws y ++ (ws z))), (ws x ++ (ws y ++ (ws z))), none, none⟩, ⟨[.int .u64 0, .int .u64 0, .int .u64 0, .int .u64 0, .int .u64 0, .int .u64 0, .int .u64 0, .int .u64 0, .int .u64 0, .int .u64 0, .int .u64 0, .int .u64 0], [.int .u64 0, .int .u64 0, .int .u64 0, .int .u64 0, .int .u64 0, .int .u64 0, .int .u64 0, .int .u64 0, .int .u64 0, .int .u64 0, .int .u64 0, .int .u64 0], none, none⟩, ⟨[.int .u64 0, .int .u64 0, .int .u64 0, .int .u64 0], (ws c1), some 10, some 12⟩, ⟨[.int .u64 0, .int .u64 0, .int .u64 0, .int .u64 0], (ws c2), some 11, some 13⟩]
def F103_1o (x y z c1 c2 c3 c4 c5 c6 c7 c8 c9 c10 c11 c12 c13 c14 c15 c16 c17 c18 c19 : Fin P) : List (Tmp × RG.SV) := [(1, (.p 0 0))]
def F103_2i (x y z c1 c2 c3 c4 c5 c6 c7 c8 c9 c10 c11 c12 c13 c14 c15 c16 c17 c18 c19 : Fin P) : List RG.It := [⟨some 19, [], (.p 0 0), .stay⟩,
  ⟨some 20, [(19, 0)], (.v (fv x)), .stay⟩,
  ⟨some 21, [], (.v (fv c2)), .stay⟩,
  ⟨some 22, [(20, 1), (21, 2)], (.v (fv c3)), .call⟩,
  ⟨some 23, [(22, 3)], (.v (fv c4)), .call⟩,
  ⟨some 24, [(23, 4)], (.v (fv c5)), .call⟩,
  ⟨some 5, [], (.p 4 0), .make 4⟩,
  ⟨none, [(5, 6), (24, 5)], (.v undef), .put 4⟩]
def F103_2b (x y z c1 c2 c3 c4 c5 c6 c7 c8 c9 c10 c11 c12 c13 c14 c15 c16 c17 c18 c19 : Fin P) : List RG.Bl := [⟨(ws x ++ (ws y ++ (ws z))), (ws x ++ (ws y ++ (ws z))), none, none⟩, ⟨[.int .u64 0, .int .u64 0, .int .u64 0, .int .u64 0, .int .u64 0, .int .u64 0, .int .u64 0, .int .u64 0, .int .u64 0, .int .u64 0, .int .u64 0, .int .u64 0], [.int .u64 0, .int .u64 0, .int .u64 0, .int .u64 0, .int .u64 0, .int .u64 0, .int .u64 0, .int .u64 0, .int .u64 0, .int .u64 0, .int .u64 0, .int .u64 0], none, none⟩, ⟨(ws c1), (ws c1), none, none⟩, ⟨(ws c2), (ws c2), none, none⟩, ⟨[.int .u64 0, .int .u64 0, .int .u64 0, .int .u64 0], (ws c5), some 6, some 7⟩]
def F103_2o (x y z c1 c2 c3 c4 c5 c6 c7 c8 c9 c10 c11 c12 c13 c14 c15 c16 c17 c18 c19 : Fin P) : List (Tmp × RG.SV) := [(1, (.p 0 0)), (4, (.p 3 0))]
def F103_3i (x y z c1 c2 c3 c4 c5 c6 c7 c8 c9 c10 c11 c12 c13 c14 c15 c16 c17 c18 c19 : Fin P) : List RG.It := [⟨some 25, [], (.v (fv c1)), .stay⟩,
  ⟨some 26, [(25, 0)], (.v (fv c6)), .call⟩,
  ⟨some 27, [], (.v (fv c1)), .stay⟩,
  ⟨some 28, [(26, 1), (27, 2)], (.v (fv c7)), .call⟩,
  ⟨some 6, [], (.p 5 0), .make 5⟩,
  ⟨none, [(6, 4), (28, 3)], (.v undef), .put 5⟩]
def F103_3b (x y z c1 c2 c3 c4 c5 c6 c7 c8 c9 c10 c11 c12 c13 c14 c15 c16 c17 c18 c19 : Fin P) : List RG.Bl := [⟨(ws x ++ (ws y ++ (ws z))), (ws x ++ (ws y ++ (ws z))), none, none⟩, ⟨[.int .u64 0, .int .u64 0, .int .u64 0, .int .u64 0, .int .u64 0, .int .u64 0, .int .u64 0, .int .u64 0, .int .u64 0, .int .u64 0, .int .u64 0, .int .u64 0], [.int .u64 0, .int .u64 0, .int .u64 0, .int .u64 0, .int .u64 0, .int .u64 0, .int .u64 0, .int .u64 0, .int .u64 0, .int .u64 0, .int .u64 0, .int .u64 0], none, none⟩, ⟨(ws c1), (ws c1), none, none⟩, ⟨(ws c2), (ws c2), none, none⟩, ⟨(ws c5), (ws c5), none, none⟩, ⟨[.int .u64 0, .int .u64 0, .int .u64 0, .int .u64 0], (ws c7), some 4, some 5⟩]
def F103_3o (x y z c1 c2 c3 c4 c5 c6 c7 c8 c9 c10 c11 c12 c13 c14 c15 c16 c17 c18 c19 : Fin P) : List (Tmp × RG.SV) := [(3, (.p 2 0))]
def F103_4i (x y z c1 c2 c3 c4 c5 c6 c7 c8 c9 c10 c11 c12 c13 c14 c15 c16 c17 c18 c19 : Fin P) : List RG.It := [⟨some 29, [], (.v (fv c7)), .stay⟩,
  ⟨some 30, [], (.v (fv c7)), .stay⟩,
  ⟨some 31, [(29, 0), (30, 1)], (.v (fv c8)), .call⟩,
  ⟨some 32, [], (.v (fv c5)), .stay⟩,
  ⟨some 33, [(32, 3)], (.v (fv c9)), .call⟩,
  ⟨some 34, [(31, 2), (33, 4)], (.v (fv c10)), .call⟩,
  ⟨some 7, [], (.p 6 0), .make 6⟩,
  ⟨none, [(7, 6), (34, 5)], (.v undef), .put 6⟩]
def F103_4b (x y z c1 c2 c3 c4 c5 c6 c7 c8 c9 c10 c11 c12 c13 c14 c15 c16 c17 c18 c19 : Fin P) : List RG.Bl := [⟨(ws x ++ (ws y ++ (ws z))), (ws x ++ (ws y ++ (ws z))), none, none⟩, ⟨[.int .u64 0, .int .u64 0, .int .u64 0, .int .u64 0, .int .u64 0, .int .u64 0, .int .u64 0, .int .u64 0, .int .u64 0, .int .u64 0, .int .u64 0, .int .u64 0], [.int .u64 0, .int .u64 0, .int .u64 0, .int .u64 0, .int .u64 0, .int .u64 0, .int .u64 0, .int .u64 0, .int .u64 0, .int .u64 0, .int .u64 0, .int .u64 0], none, none⟩, ⟨(ws c1), (ws c1), none, none⟩, ⟨(ws c2), (ws c2), none, none⟩, ⟨(ws c5), (ws c5), none, none⟩, ⟨(ws c7), (ws c7), none, none⟩, ⟨[.int .u64 0, .int .u64 0, .int .u64 0, .int .u64 0], (ws c10), some 6, some 7⟩]
def F103_4o (x y z c1 c2 c3 c4 c5 c6 c7 c8 c9 c10 c11 c12 c13 c14 c15 c16 c17 c18 c19 : Fin P) : List (Tmp × RG.SV) := [(6, (.p 5 0)), (5, (.p 4 0))]
def F103_5i (x y z c1 c2 c3 c4 c5 c6 c7 c8 c9 c10 c11 c12 c13 c14 c15 c16 c17 c18 c19 : Fin P) : List RG.It := [⟨some 35, [], (.v (fv c7)), .stay⟩,
  ⟨some 36, [], (.v (fv c5)), .stay⟩,
  ⟨some 37, [], (.v (fv c10)), .stay⟩,
  ⟨some 38, [(36, 1), (37, 2)], (.v (fv c11)), .call⟩,
  ⟨some 39, [(35, 0), (38, 3)], (.v (fv c12)), .call⟩,
  ⟨some 40, [], (.v (fv c2)), .stay⟩,
  ⟨some 41, [], (.v (fv c2)), .stay⟩,
  ⟨some 42, [(40, 5), (41, 6)], (.v (fv c13)), .call⟩,
  ⟨some 43, [(42, 7)], (.v (fv c14)), .call⟩,
  ⟨some 44, [(43, 8)], (.v (fv c15)), .call⟩,
  ⟨some 45, [(44, 9)], (.v (fv c16)), .call⟩,
  ⟨some 46, [(39, 4), (45, 10)], (.v (fv c17)), .call⟩,
  ⟨some 8, [], (.p 7 0), .make 7⟩,
  ⟨none, [(8, 12), (46, 11)], (.v undef), .put 7⟩]
def F103_5b (x y z c1 c2 c3 c4 c5 c6 c7 c8 c9 c10 c11 c12 c13 c14 c15 c16 c17 c18 c19 : Fin P) : List RG.Bl := [⟨(ws x ++ (ws y ++ (ws z))), (ws x ++ (ws y ++ (ws z))), none, none⟩, ⟨[.int .u64 0, .int .u64 0, .int .u64 0, .int .u64 0, .int .u64 0, .int .u64 0, .int .u64 0, .int .u64 0, .int .u64 0, .int .u64 0, .int .u64 0, .int .u64 0], [.int .u64 0, .int .u64 0, .int .u64 0, .int .u64 0, .int .u64 0, .int .u64 0, .int .u64 0, .int .u64 0, .int .u64 0, .int .u64 0, .int .u64 0, .int .u64 0], none, none⟩, ⟨(ws c1), (ws c1), none, none⟩, ⟨(ws c2), (ws c2), none, none⟩, ⟨(ws c5), (ws c5), none, none⟩, ⟨(ws c7), (ws c7), none, none⟩, ⟨(ws c10), (ws c10), none, none⟩, ⟨[.int .u64 0, .int .u64 0, .int .u64 0, .int .u64 0], (ws c17), some 12, some 13⟩]
def F103_5o (x y z c1 c2 c3 c4 c5 c6 c7 c8 c9 c10 c11 c12 c13 c14 c15 c16 c17 c18 c19 : Fin P) : List (Tmp × RG.SV) := [(6, (.p 5 0)), (5, (.p 4 0)), (7, (.p 6 0)), (4, (.p 3 0))]
def F103_6i (x y z c1 c2 c3 c4 c5 c6 c7 c8 c9 c10 c11 c12 c13 c14 c15 c16 c17 c18 c19 : Fin P) : List RG.It := [⟨some 47, [], (.v (fv c10)), .stay⟩,
  ⟨some 48, [], (.v (fv c17)), .stay⟩,
  ⟨some 49, [], (.p 0 4), .stay⟩,
  ⟨some 50, [(49, 2)], (.v (fv y)), .stay⟩,
  ⟨some 51, [], (.p 0 8), .stay⟩,
  ⟨some 52, [(51, 4)], (.v (fv z)), .stay⟩,
  ⟨some 53, [(50, 3), (52, 5)], (.v (fv c18)), .call⟩,
  ⟨some 54, [(53, 6)], (.v (fv c19)), .call⟩,
  ⟨some 55, [(47, 0), (48, 1), (54, 7)], (.v (rv c10 c17 c19)), .stay⟩,
  ⟨none, [(55, 8)], (.v undef), .put 1⟩]
def F103_6b (x y z c1 c2 c3 c4 c5 c6 c7 c8 c9 c10 c11 c12 c13 c14 c15 c16 c17 c18 c19 : Fin P) : List RG.Bl := [⟨(ws x ++ (ws y ++ (ws z))), (ws x ++ (ws y ++ (ws z))), none, none⟩, ⟨[.int .u64 0, .int .u64 0, .int .u64 0, .int .u64 0, .int .u64 0, .int .u64 0, .int .u64 0, .int .u64 0, .int .u64 0, .int .u64 0, .int .u64 0, .int .u64 0], (ws c10 ++ (ws c17 ++ (ws c19))), none, some 9⟩, ⟨(ws c1), (ws c1), none, none⟩, ⟨(ws c2), (ws c2), none, none⟩, ⟨(ws c5), (ws c5), none, none⟩, ⟨(ws c7), (ws c7), none, none⟩, ⟨(ws c10), (ws c10), none, none⟩, ⟨(ws c17), (ws c17), none, none⟩]
def F103_6o (x y z c1 c2 c3 c4 c5 c6 c7 c8 c9 c10 c11 c12 c13 c14 c15 c16 c17 c18 c19 : Fin P) : List (Tmp × RG.SV) := [(7, (.p 6 0)), (8, (.p 7 0)), (1, (.p 0 0)), (2, (.p 1 0))]
set_option maxHeartbeats 2000000 in
set_option maxRecDepth 100000 in
theorem twice_c (C : Fld P) (x y z : Fin P) : Gives 103 #[(rv x y z)] (rv (EC.twX x y) (EC.twY x y) (EC.twZ y z)) := by
  intro w
  obtain ⟨c1, hc1⟩ : ∃ c, c = x * x := ⟨_, rfl⟩
  obtain ⟨c2, hc2⟩ : ∃ c, c = y * y := ⟨_, rfl⟩
  obtain ⟨c3, hc3⟩ : ∃ c, c = x * c2 := ⟨_, rfl⟩
  obtain ⟨c4, hc4⟩ : ∃ c, c = EC.dbl c3 := ⟨_, rfl⟩
  obtain ⟨c5, hc5⟩ : ∃ c, c = EC.dbl c4 := ⟨_, rfl⟩
  obtain ⟨c6, hc6⟩ : ∃ c, c = EC.dbl c1 := ⟨_, rfl⟩
  obtain ⟨c7, hc7⟩ : ∃ c, c = c6 + c1 := ⟨_, rfl⟩
  obtain ⟨c8, hc8⟩ : ∃ c, c = c7 * c7 := ⟨_, rfl⟩
  obtain ⟨c9, hc9⟩ : ∃ c, c = EC.dbl c5 := ⟨_, rfl⟩
  obtain ⟨c10, hc10⟩ : ∃ c, c = c8 - c9 := ⟨_, rfl⟩
  obtain ⟨c11, hc11⟩ : ∃ c, c = c5 - c10 := ⟨_, rfl⟩
  obtain ⟨c12, hc12⟩ : ∃ c, c = c7 * c11 := ⟨_, rfl⟩
  obtain ⟨c13, hc13⟩ : ∃ c, c = c2 * c2 := ⟨_, rfl⟩
  obtain ⟨c14, hc14⟩ : ∃ c, c = EC.dbl c13 := ⟨_, rfl⟩
  obtain ⟨c15, hc15⟩ : ∃ c, c = EC.dbl c14 := ⟨_, rfl⟩
  obtain ⟨c16, hc16⟩ : ∃ c, c = EC.dbl c15 := ⟨_, rfl⟩
  obtain ⟨c17, hc17⟩ : ∃ c, c = c12 - c16 := ⟨_, rfl⟩
  obtain ⟨c18, hc18⟩ : ∃ c, c = y * z := ⟨_, rfl⟩
  obtain ⟨c19, hc19⟩ : ∃ c, c = EC.dbl c18 := ⟨_, rfl⟩
  have hfin : ((rv c10 c17 c19) : Value) = (rv (EC.twX x y) (EC.twY x y) (EC.twZ y z)) := by
    subst_vars; rfl
  rw [← hfin]
  go_enter Try.func103, Try.ntmps103
  have hS0 := RG.St.begin w
  repeat refine wp_seq ?_
  refine RG.region_text (its := F103_0i x y z c1 c2 c3 c4 c5 c6 c7 c8 c9 c10 c11 c12 c13 c14 c15 c16 c17 c18 c19) (bl := F103_0b x y z c1 c2 c3 c4 c5 c6 c7 c8 c9 c10 c11 c12 c13 c14 c15 c16 c17 c18 c19) (olds := F103_0o x y z c1 c2 c3 c4 c5 c6 c7 c8 c9 c10 c11 c12 c13 c14 c15 c16 c17 c18 c19) hS0 (RG.Reg.mk' (by kernel_rfl) ⟨by kernel_rfl, trivial⟩ ⟨?_, ?_, trivial⟩) (by kernel_rfl) (by kernel_rfl) (by kernel_rfl) ?_
  · exact RG.cert_box 0 rfl rfl _ rfl 117 0 rfl (rv x y z) (fun μ a K => K.old 0 (.v (rv x y z)) (List.Mem.head _) (by kernel_rfl)) (fun w => by kernel_rfl)
  · exact RG.cert_alloc 1 rfl rfl _ rfl 117 rfl (fun w => by kernel_rfl)
  intro new1 w1 hl1 hS1
  obtain ⟨j1, i1, rfl⟩ := RG.len2 hl1
  repeat refine wp_seq ?_
  refine RG.region_draws (by kernel_rfl) (its := F103_1i x y z c1 c2 c3 c4 c5 c6 c7 c8 c9 c10 c11 c12 c13 c14 c15 c16 c17 c18 c19) (bl := F103_1b x y z c1 c2 c3 c4 c5 c6 c7 c8 c9 c10 c11 c12 c13 c14 c15 c16 c17 c18 c19) (olds := F103_1o x y z c1 c2 c3 c4 c5 c6 c7 c8 c9 c10 c11 c12 c13 c14 c15 c16 c17 c18 c19) hS1 (RG.Reg.mk' (by kernel_rfl) ⟨by kernel_rfl, trivial⟩ ⟨?_, ?_, ?_, ?_, ?_, ?_, ?_, ?_, ?_, ?_, ?_, ?_, ?_, ?_, trivial⟩) (by kernel_rfl) (by kernel_rfl) (by kernel_rfl) ?_
  · exact RG.cert_field rfl 117 1 0 rfl 0 0 0 rfl (fun μ a K => K.old 1 (.p 0 0) (List.Mem.head _) (by kernel_rfl)) (fun k w => by kernel_rfl)
  · exact RG.cert_load rfl 0 0 _ rfl rfl (by kernel_rfl) 115 9 rfl (ws x) rfl (fun μ a K => by have h := K.op 9 0 (List.Mem.head _) rfl; exact h) (by kernel_rfl) u115 i115
  · exact RG.cert_field rfl 117 1 0 rfl 0 0 0 rfl (fun μ a K => K.old 1 (.p 0 0) (List.Mem.head _) (by kernel_rfl)) (fun k w => by kernel_rfl)
  · exact RG.cert_load rfl 0 0 _ rfl rfl (by kernel_rfl) 115 11 rfl (ws x) rfl (fun μ a K => by have h := K.op 11 2 (List.Mem.head _) rfl; exact h) (by kernel_rfl) u115 i115
  · exact RG.cert_call2 rfl 102 10 12 (fv x) (fv x) (fv c1) rfl (fun a w => by kernel_rfl) (fun μ a K => by have h := K.op 10 1 (List.Mem.head _) rfl; exact h) (fun μ a K => by have h := K.op 12 3 (List.Mem.tail _ (List.Mem.head _)) rfl; exact h) (hc1 ▸ CTimes_c C x x)
  · exact RG.cert_field rfl 117 1 1 rfl 0 0 4 rfl (fun μ a K => K.old 1 (.p 0 0) (List.Mem.head _) (by kernel_rfl)) (fun k w => by kernel_rfl)
  · exact RG.cert_load rfl 0 4 _ rfl rfl (by kernel_rfl) 115 14 rfl (ws y) rfl (fun μ a K => by have h := K.op 14 5 (List.Mem.head _) rfl; exact h) (by kernel_rfl) u115 i115
  · exact RG.cert_field rfl 117 1 1 rfl 0 0 4 rfl (fun μ a K => K.old 1 (.p 0 0) (List.Mem.head _) (by kernel_rfl)) (fun k w => by kernel_rfl)
  · exact RG.cert_load rfl 0 4 _ rfl rfl (by kernel_rfl) 115 16 rfl (ws y) rfl (fun μ a K => by have h := K.op 16 7 (List.Mem.head _) rfl; exact h) (by kernel_rfl) u115 i115
  · exact RG.cert_call2 rfl 102 15 17 (fv y) (fv y) (fv c2) rfl (fun a w => by kernel_rfl) (fun μ a K => by have h := K.op 15 6 (List.Mem.head _) rfl; exact h) (fun μ a K => by have h := K.op 17 8 (List.Mem.tail _ (List.Mem.head _)) rfl; exact h) (hc2 ▸ CTimes_c C y y)
  · exact RG.cert_alloc 2 rfl rfl _ rfl 115 rfl (fun w => by kernel_rfl)
  · exact RG.cert_alloc 3 rfl rfl _ rfl 115 rfl (fun w => by kernel_rfl)
  · exact RG.cert_put 2 rfl _ rfl 115 (.tmp 3) (.tmp 13) rfl rfl rfl (fun μ a K => by have h := K.op 3 10 (List.Mem.head _) rfl; exact h) (fun μ a K => by have h := K.op 13 4 (List.Mem.tail _ (List.Mem.head _)) rfl; exact h) i115 rfl
  · exact RG.cert_put 3 rfl _ rfl 115 (.tmp 4) (.tmp 18) rfl rfl rfl (fun μ a K => by have h := K.op 4 11 (List.Mem.head _) rfl; exact h) (fun μ a K => by have h := K.op 18 9 (List.Mem.tail _ (List.Mem.head _)) rfl; exact h) i115 rfl
  intro new2 w2 hl2 hS2
  obtain ⟨j2, i2, rfl⟩ := RG.len2 hl2
  repeat refine wp_seq ?_
  refine RG.region_text (its := F103_2i x y z c1 c2 c3 c4 c5 c6 c7 c8 c9 c10 c11 c12 c13 c14 c15 c16 c17 c18 c19) (bl := F103_2b x y z c1 c2 c3 c4 c5 c6 c7 c8 c9 c10 c11 c12 c13 c14 c15 c16 c17 c18 c19) (olds := F103_2o x y z c1 c2 c3 c4 c5 c6 c7 c8 c9 c10 c11 c12 c13 c14 c15 c16 c17 c18 c19) hS2 (RG.Reg.mk' (by kernel_rfl) ⟨by kernel_rfl, by kernel_rfl, trivial⟩ ⟨?_, ?_, ?_, ?_, ?_, ?_, ?_, ?_, trivial⟩) (by kernel_rfl) (by kernel_rfl) (by kernel_rfl) ?_
  · exact RG.cert_field rfl 117 1 0 rfl 0 0 0 rfl (fun μ a K => K.old 1 (.p 0 0) (List.Mem.head _) (by kernel_rfl)) (fun k w => by kernel_rfl)
  · exact RG.cert_load rfl 0 0 _ rfl rfl (by kernel_rfl) 115 19 rfl (ws x) rfl (fun μ a K => by have h := K.op 19 0 (List.Mem.head _) rfl; exact h) (by kernel_rfl) u115 i115
  · exact RG.cert_load rfl 3 0 _ rfl rfl (by kernel_rfl) 115 4 rfl (ws c2) rfl (fun μ a K => K.old 4 (.p 3 0) (List.Mem.tail _ (List.Mem.head _)) (by kernel_rfl)) (by kernel_rfl) u115 i115
  · exact RG.cert_call2 rfl 102 20 21 (fv x) (fv c2) (fv c3) rfl (fun a w => by kernel_rfl) (fun μ a K => by have h := K.op 20 1 (List.Mem.head _) rfl; exact h) (fun μ a K => by have h := K.op 21 2 (List.Mem.tail _ (List.Mem.head _)) rfl; exact h) (hc3 ▸ CTimes_c C x c2)
  · exact RG.cert_call1 rfl 105 22 (fv c3) (fv c4) rfl (fun a w => by kernel_rfl) (fun μ a K => by have h := K.op 22 3 (List.Mem.head _) rfl; exact h) (hc4 ▸ double_c C c3)
  · exact RG.cert_call1 rfl 105 23 (fv c4) (fv c5) rfl (fun a w => by kernel_rfl) (fun μ a K => by have h := K.op 23 4 (List.Mem.head _) rfl; exact h) (hc5 ▸ double_c C c4)
  · exact RG.cert_alloc 4 rfl rfl _ rfl 115 rfl (fun w => by kernel_rfl)
  · exact RG.cert_put 4 rfl _ rfl 115 (.tmp 5) (.tmp 24) rfl rfl rfl (fun μ a K => by have h := K.op 5 6 (List.Mem.head _) rfl; exact h) (fun μ a K => by have h := K.op 24 5 (List.Mem.tail _ (List.Mem.head _)) rfl; exact h) i115 rfl
  intro new3 w3 hl3 hS3
  obtain ⟨j3, rfl⟩ := RG.len1 hl3
  repeat refine wp_seq ?_
  refine RG.region_draws (by kernel_rfl) (its := F103_3i x y z c1 c2 c3 c4 c5 c6 c7 c8 c9 c10 c11 c12 c13 c14 c15 c16 c17 c18 c19) (bl := F103_3b x y z c1 c2 c3 c4 c5 c6 c7 c8 c9 c10 c11 c12 c13 c14 c15 c16 c17 c18 c19) (olds := F103_3o x y z c1 c2 c3 c4 c5 c6 c7 c8 c9 c10 c11 c12 c13 c14 c15 c16 c17 c18 c19) hS3 (RG.Reg.mk' (by kernel_rfl) ⟨by kernel_rfl, trivial⟩ ⟨?_, ?_, ?_, ?_, ?_, ?_, trivial⟩) (by kernel_rfl) (by kernel_rfl) (by kernel_rfl) ?_
  · exact RG.cert_load rfl 2 0 _ rfl rfl (by kernel_rfl) 115 3 rfl (ws c1) rfl (fun μ a K => K.old 3 (.p 2 0) (List.Mem.head _) (by kernel_rfl)) (by kernel_rfl) u115 i115
  · exact RG.cert_call1 rfl 105 25 (fv c1) (fv c6) rfl (fun a w => by kernel_rfl) (fun μ a K => by have h := K.op 25 0 (List.Mem.head _) rfl; exact h) (hc6 ▸ double_c C c1)
  · exact RG.cert_load rfl 2 0 _ rfl rfl (by kernel_rfl) 115 3 rfl (ws c1) rfl (fun μ a K => K.old 3 (.p 2 0) (List.Mem.head _) (by kernel_rfl)) (by kernel_rfl) u115 i115
  · exact RG.cert_call2 rfl 114 26 27 (fv c6) (fv c1) (fv c7) rfl (fun a w => by kernel_rfl) (fun μ a K => by have h := K.op 26 1 (List.Mem.head _) rfl; exact h) (fun μ a K => by have h := K.op 27 2 (List.Mem.tail _ (List.Mem.head _)) rfl; exact h) (hc7 ▸ CPlus_c C c6 c1)
  · exact RG.cert_alloc 5 rfl rfl _ rfl 115 rfl (fun w => by kernel_rfl)
  · exact RG.cert_put 5 rfl _ rfl 115 (.tmp 6) (.tmp 28) rfl rfl rfl (fun μ a K => by have h := K.op 6 4 (List.Mem.head _) rfl; exact h) (fun μ a K => by have h := K.op 28 3 (List.Mem.tail _ (List.Mem.head _)) rfl; exact h) i115 rfl
  intro new4 w4 hl4 hS4
  obtain ⟨j4, rfl⟩ := RG.len1 hl4
  repeat refine wp_seq ?_
  refine RG.region_draws (by kernel_rfl) (its := F103_4i x y z c1 c2 c3 c4 c5 c6 c7 c8 c9 c10 c11 c12 c13 c14 c15 c16 c17 c18 c19) (bl := F103_4b x y z c1 c2 c3 c4 c5 c6 c7 c8 c9 c10 c11 c12 c13 c14 c15 c16 c17 c18 c19) (olds := F103_4o x y z c1 c2 c3 c4 c5 c6 c7 c8 c9 c10 c11 c12 c13 c14 c15 c16 c17 c18 c19) hS4 (RG.Reg.mk' (by kernel_rfl) ⟨by kernel_rfl, by kernel_rfl, trivial⟩ ⟨?_, ?_, ?_, ?_, ?_, ?_, ?_, ?_, trivial⟩) (by kernel_rfl) (by kernel_rfl) (by kernel_rfl) ?_
  · exact RG.cert_load rfl 5 0 _ rfl rfl (by kernel_rfl) 115 6 rfl (ws c7) rfl (fun μ a K => K.old 6 (.p 5 0) (List.Mem.head _) (by kernel_rfl)) (by kernel_rfl) u115 i115
  · exact RG.cert_load rfl 5 0 _ rfl rfl (by kernel_rfl) 115 6 rfl (ws c7) rfl (fun μ a K => K.old 6 (.p 5 0) (List.Mem.head _) (by kernel_rfl)) (by kernel_rfl) u115 i115
  · exact RG.cert_call2 rfl 102 29 30 (fv c7) (fv c7) (fv c8) rfl (fun a w => by kernel_rfl) (fun μ a K => by have h := K.op 29 0 (List.Mem.head _) rfl; exact h) (fun μ a K => by have h := K.op 30 1 (List.Mem.tail _ (List.Mem.head _)) rfl; exact h) (hc8 ▸ CTimes_c C c7 c7)
  · exact RG.cert_load rfl 4 0 _ rfl rfl (by kernel_rfl) 115 5 rfl (ws c5) rfl (fun μ a K => K.old 5 (.p 4 0) (List.Mem.tail _ (List.Mem.head _)) (by kernel_rfl)) (by kernel_rfl) u115 i115
  · exact RG.cert_call1 rfl 105 32 (fv c5) (fv c9) rfl (fun a w => by kernel_rfl) (fun μ a K => by have h := K.op 32 3 (List.Mem.head _) rfl; exact h) (hc9 ▸ double_c C c5)
  · exact RG.cert_call2 rfl 104 31 33 (fv c8) (fv c9) (fv c10) rfl (fun a w => by kernel_rfl) (fun μ a K => by have h := K.op 31 2 (List.Mem.head _) rfl; exact h) (fun μ a K => by have h := K.op 33 4 (List.Mem.tail _ (List.Mem.head _)) rfl; exact h) (hc10 ▸ CMinus_c C c8 c9)
  · exact RG.cert_alloc 6 rfl rfl _ rfl 115 rfl (fun w => by kernel_rfl)
  · exact RG.cert_put 6 rfl _ rfl 115 (.tmp 7) (.tmp 34) rfl rfl rfl (fun μ a K => by have h := K.op 7 6 (List.Mem.head _) rfl; exact h) (fun μ a K => by have h := K.op 34 5 (List.Mem.tail _ (List.Mem.head _)) rfl; exact h) i115 rfl
  intro new5 w5 hl5 hS5
  obtain ⟨j5, rfl⟩ := RG.len1 hl5
  repeat refine wp_seq ?_
  refine RG.region_draws (by kernel_rfl) (its := F103_5i x y z c1 c2 c3 c4 c5 c6 c7 c8 c9 c10 c11 c12 c13 c14 c15 c16 c17 c18 c19) (bl := F103_5b x y z c1 c2 c3 c4 c5 c6 c7 c8 c9 c10 c11 c12 c13 c14 c15 c16 c17 c18 c19) (olds := F103_5o x y z c1 c2 c3 c4 c5 c6 c7 c8 c9 c10 c11 c12 c13 c14 c15 c16 c17 c18 c19) hS5 (RG.Reg.mk' (by kernel_rfl) ⟨by kernel_rfl, by kernel_rfl, by kernel_rfl, by kernel_rfl, trivial⟩ ⟨?_, ?_, ?_, ?_, ?_, ?_, ?_, ?_, ?_, ?_, ?_, ?_, ?_, ?_, trivial⟩) (by kernel_rfl) (by kernel_rfl) (by kernel_rfl) ?_
  · exact RG.cert_load rfl 5 0 _ rfl rfl (by kernel_rfl) 115 6 rfl (ws c7) rfl (fun μ a K => K.old 6 (.p 5 0) (List.Mem.head _) (by kernel_rfl)) (by kernel_rfl) u115 i115
  · exact RG.cert_load rfl 4 0 _ rfl rfl (by kernel_rfl) 115 5 rfl (ws c5) rfl (fun μ a K => K.old 5 (.p 4 0) (List.Mem.tail _ (List.Mem.head _)) (by kernel_rfl)) (by kernel_rfl) u115 i115
  · exact RG.cert_load rfl 6 0 _ rfl rfl (by kernel_rfl) 115 7 rfl (ws c10) rfl (fun μ a K => K.old 7 (.p 6 0) (List.Mem.tail _ (List.Mem.tail _ (List.Mem.head _))) (by kernel_rfl)) (by kernel_rfl) u115 i115
  · exact RG.cert_call2 rfl 104 36 37 (fv c5) (fv c10) (fv c11) rfl (fun a w => by kernel_rfl) (fun μ a K => by have h := K.op 36 1 (List.Mem.head _) rfl; exact h) (fun μ a K => by have h := K.op 37 2 (List.Mem.tail _ (List.Mem.head _)) rfl; exact h) (hc11 ▸ CMinus_c C c5 c10)
  · exact RG.cert_call2 rfl 102 35 38 (fv c7) (fv c11) (fv c12) rfl (fun a w => by kernel_rfl) (fun μ a K => by have h := K.op 35 0 (List.Mem.head _) rfl; exact h) (fun μ a K => by have h := K.op 38 3 (List.Mem.tail _ (List.Mem.head _)) rfl; exact h) (hc12 ▸ CTimes_c C c7 c11)
  · exact RG.cert_load rfl 3 0 _ rfl rfl (by kernel_rfl) 115 4 rfl (ws c2) rfl (fun μ a K => K.old 4 (.p 3 0) (List.Mem.tail _ (List.Mem.tail _ (List.Mem.tail _ (List.Mem.head _)))) (by kernel_rfl)) (by kernel_rfl) u115 i115
  · exact RG.cert_load rfl 3 0 _ rfl rfl (by kernel_rfl) 115 4 rfl (ws c2) rfl (fun μ a K => K.old 4 (.p 3 0) (List.Mem.tail _ (List.Mem.tail _ (List.Mem.tail _ (List.Mem.head _)))) (by kernel_rfl)) (by kernel_rfl) u115 i115
  · exact RG.cert_call2 rfl 102 40 41 (fv c2) (fv c2) (fv c13) rfl (fun a w => by kernel_rfl) (fun μ a K => by have h := K.op 40 5 (List.Mem.head _) rfl; exact h) (fun μ a K => by have h := K.op 41 6 (List.Mem.tail _ (List.Mem.head _)) rfl; exact h) (hc13 ▸ CTimes_c C c2 c2)
  · exact RG.cert_call1 rfl 105 42 (fv c13) (fv c14) rfl (fun a w => by kernel_rfl) (fun μ a K => by have h := K.op 42 7 (List.Mem.head _) rfl; exact h) (hc14 ▸ double_c C c13)
  · exact RG.cert_call1 rfl 105 43 (fv c14) (fv c15) rfl (fun a w => by kernel_rfl) (fun μ a K => by have h := K.op 43 8 (List.Mem.head _) rfl; exact h) (hc15 ▸ double_c C c14)
  · exact RG.cert_call1 rfl 105 44 (fv c15) (fv c16) rfl (fun a w => by kernel_rfl) (fun μ a K => by have h := K.op 44 9 (List.Mem.head _) rfl; exact h) (hc16 ▸ double_c C c15)
  · exact RG.cert_call2 rfl 104 39 45 (fv c12) (fv c16) (fv c17) rfl (fun a w => by kernel_rfl) (fun μ a K => by have h := K.op 39 4 (List.Mem.head _) rfl; exact h) (fun μ a K => by have h := K.op 45 10 (List.Mem.tail _ (List.Mem.head _)) rfl; exact h) (hc17 ▸ CMinus_c C c12 c16)
  · exact RG.cert_alloc 7 rfl rfl _ rfl 115 rfl (fun w => by kernel_rfl)
  · exact RG.cert_put 7 rfl _ rfl 115 (.tmp 8) (.tmp 46) rfl rfl rfl (fun μ a K => by have h := K.op 8 12 (List.Mem.head _) rfl; exact h) (fun μ a K => by have h := K.op 46 11 (List.Mem.tail _ (List.Mem.head _)) rfl; exact h) i115 rfl
  intro new6 w6 hl6 hS6
  obtain ⟨j6, rfl⟩ := RG.len1 hl6
  repeat refine wp_seq ?_
  refine RG.region_draws (by kernel_rfl) (its := F103_6i x y z c1 c2 c3 c4 c5 c6 c7 c8 c9 c10 c11 c12 c13 c14 c15 c16 c17 c18 c19) (bl := F103_6b x y z c1 c2 c3 c4 c5 c6 c7 c8 c9 c10 c11 c12 c13 c14 c15 c16 c17 c18 c19) (olds := F103_6o x y z c1 c2 c3 c4 c5 c6 c7 c8 c9 c10 c11 c12 c13 c14 c15 c16 c17 c18 c19) hS6 (RG.Reg.mk' (by kernel_rfl) ⟨by kernel_rfl, by kernel_rfl, by kernel_rfl, by kernel_rfl, trivial⟩ ⟨?_, ?_, ?_, ?_, ?_, ?_, ?_, ?_, ?_, ?_, trivial⟩) (by kernel_rfl) (by kernel_rfl) (by kernel_rfl) ?_
  · exact RG.cert_load rfl 6 0 _ rfl rfl (by kernel_rfl) 115 7 rfl (ws c10) rfl (fun μ a K => K.old 7 (.p 6 0) (List.Mem.head _) (by kernel_rfl)) (by kernel_rfl) u115 i115
  · exact RG.cert_load rfl 7 0 _ rfl rfl (by kernel_rfl) 115 8 rfl (ws c17) rfl (fun μ a K => K.old 8 (.p 7 0) (List.Mem.tail _ (List.Mem.head _)) (by kernel_rfl)) (by kernel_rfl) u115 i115
  · exact RG.cert_field rfl 117 1 1 rfl 0 0 4 rfl (fun μ a K => K.old 1 (.p 0 0) (List.Mem.tail _ (List.Mem.tail _ (List.Mem.head _))) (by kernel_rfl)) (fun k w => by kernel_rfl)
  · exact RG.cert_load rfl 0 4 _ rfl rfl (by kernel_rfl) 115 49 rfl (ws y) rfl (fun μ a K => by have h := K.op 49 2 (List.Mem.head _) rfl; exact h) (by kernel_rfl) u115 i115
  · exact RG.cert_field rfl 117 1 2 rfl 0 0 8 rfl (fun μ a K => K.old 1 (.p 0 0) (List.Mem.tail _ (List.Mem.tail _ (List.Mem.head _))) (by kernel_rfl)) (fun k w => by kernel_rfl)
  · exact RG.cert_load rfl 0 8 _ rfl rfl (by kernel_rfl) 115 51 rfl (ws z) rfl (fun μ a K => by have h := K.op 51 4 (List.Mem.head _) rfl; exact h) (by kernel_rfl) u115 i115
  · exact RG.cert_call2 rfl 102 50 52 (fv y) (fv z) (fv c18) rfl (fun a w => by kernel_rfl) (fun μ a K => by have h := K.op 50 3 (List.Mem.head _) rfl; exact h) (fun μ a K => by have h := K.op 52 5 (List.Mem.tail _ (List.Mem.head _)) rfl; exact h) (hc18 ▸ CTimes_c C y z)
  · exact RG.cert_call1 rfl 105 53 (fv c18) (fv c19) rfl (fun a w => by kernel_rfl) (fun μ a K => by have h := K.op 53 6 (List.Mem.head _) rfl; exact h) (hc19 ▸ double_c C c18)
  · exact RG.cert_build3 rfl 117 47 48 54 rfl (fv c10) (fv c17) (fv c19) (rv c10 c17 c19) rfl (fun μ a K => by have h := K.op 47 0 (List.Mem.head _) rfl; exact h) (fun μ a K => by have h := K.op 48 1 (List.Mem.tail _ (List.Mem.head _)) rfl; exact h) (fun μ a K => by have h := K.op 54 7 (List.Mem.tail _ (List.Mem.tail _ (List.Mem.head _))) rfl; exact h) (fun w => by kernel_rfl)
  · exact RG.cert_put 1 rfl _ rfl 117 (.tmp 2) (.tmp 55) rfl rfl rfl (fun μ a K => K.old 2 (.p 1 0) (List.Mem.tail _ (List.Mem.tail _ (List.Mem.tail _ (List.Mem.head _)))) (by kernel_rfl)) (fun μ a K => by have h := K.op 55 8 (List.Mem.head _) rfl; exact h) i117 rfl
  intro new7 w7 hl7 hS7
  obtain rfl := RG.len0 hl7
  refine wp_ret ?_
  refine bodyPost_ret (v := (rv c10 c17 c19)) (RG.results_row hS7 2 117 rfl 1 _ rfl (by kernel_rfl) u117 i117) (by kernel_rfl) ?_
  exact ⟨_, rfl, hS7.bel.below, rfl⟩

def F116_0i (x y z c1 : Fin P) : List RG.It := [⟨some 1, [], (.p 0 0), .make 0⟩,
  ⟨some 2, [], (.p 1 0), .make 1⟩]
def F116_0b (x y z c1 : Fin P) : List RG.Bl := [⟨(ws x ++ (ws y ++ (ws z))), (ws x ++ (ws y ++ (ws z))), some 0, none⟩, ⟨[.int .u64 0, .int .u64 0, .int .u64 0, .int .u64 0, .int .u64 0, .int .u64 0, .int .u64 0, .int .u64 0, .int .u64 0, .int .u64 0, .int .u64 0, .int .u64 0], [.int .u64 0, .int .u64 0, .int .u64 0, .int .u64 0, .int .u64 0, .int .u64 0, .int .u64 0, .int .u64 0, .int .u64 0, .int .u64 0, .int .u64 0, .int .u64 0], some 1, none⟩]
def F116_0o (x y z c1 : Fin P) : List (Tmp × RG.SV) := [(0, (.v (rv x y z)))]
def F116_1i (x y z c1 : Fin P) : List RG.It := [⟨some 3, [], (.p 0 0), .stay⟩,
  ⟨some 4, [(3, 0)], (.v (fv x)), .stay⟩,
  ⟨some 5, [], (.v (fv (0 : Fin P))), .stay⟩,
  ⟨some 6, [], (.p 0 4), .stay⟩,
  ⟨some 7, [(6, 3)], (.v (fv y)), .stay⟩,
  ⟨some 8, [(5, 2), (7, 4)], (.v (fv c1)), .call⟩,
  ⟨some 9, [], (.p 0 8), .stay⟩,
  ⟨some 10, [(9, 6)], (.v (fv z)), .stay⟩,
  ⟨some 11, [(4, 1), (8, 5), (10, 7)], (.v (rv x c1 z)), .stay⟩,
  ⟨none, [(11, 8)], (.v undef), .put 1⟩]
def F116_1b (x y z c1 : Fin P) : List RG.Bl := [⟨(ws x ++ (ws y ++ (ws z))), (ws x ++ (ws y ++ (ws z))), none, none⟩, ⟨[.int .u64 0, .int .u64 0, .int .u64 0, .int .u64 0, .int .u64 0, .int .u64 0, .int .u64 0, .int .u64 0, .int .u64 0, .int .u64 0, .int .u64 0, .int .u64 0], (ws x ++ (ws c1 ++ (ws z))), none, some 9⟩]
def F116_1o (x y z c1 : Fin P) : List (Tmp × RG.SV) := [(1, (.p 0 0)), (2, (.p 1 0))]
set_option maxHeartbeats 2000000 in
set_option maxRecDepth 100000 in
theorem opposite_c (C : Fld P) (x y z : Fin P) : Gives 116 #[(rv x y z)] (rv x (0 - y) z) := by
  intro w
  obtain ⟨c1, hc1⟩ : ∃ c, c = (0 : Fin P) - y := ⟨_, rfl⟩
  have hfin : ((rv x c1 z) : Value) = (rv x (0 - y) z) := by
    subst_vars; rfl
  rw [← hfin]
  go_enter Try.func116, Try.ntmps116
  have hS0 := RG.St.begin w
  repeat refine wp_seq ?_
  refine RG.region_text (its := F116_0i x y z c1) (bl := F116_0b x y z c1) (olds := F116_0o x y z c1) hS0 (RG.Reg.mk' (by kernel_rfl) ⟨by kernel_rfl, trivial⟩ ⟨?_, ?_, trivial⟩) (by kernel_rfl) (by kernel_rfl) (by kernel_rfl) ?_
  · exact RG.cert_box 0 rfl rfl _ rfl 117 0 rfl (rv x y z) (fun μ a K => K.old 0 (.v (rv x y z)) (List.Mem.head _) (by kernel_rfl)) (fun w => by kernel_rfl)
  · exact RG.cert_alloc 1 rfl rfl _ rfl 117 rfl (fun w => by kernel_rfl)
  intro new1 w1 hl1 hS1
  obtain ⟨j1, i1, rfl⟩ := RG.len2 hl1
  repeat refine wp_seq ?_
  refine RG.region_draws (by kernel_rfl) (its := F116_1i x y z c1) (bl := F116_1b x y z c1) (olds := F116_1o x y z c1) hS1 (RG.Reg.mk' (by kernel_rfl) ⟨by kernel_rfl, by kernel_rfl, trivial⟩ ⟨?_, ?_, ?_, ?_, ?_, ?_, ?_, ?_, ?_, ?_, trivial⟩) (by kernel_rfl) (by kernel_rfl) (by kernel_rfl) ?_
  · exact RG.cert_field rfl 117 1 0 rfl 0 0 0 rfl (fun μ a K => K.old 1 (.p 0 0) (List.Mem.head _) (by kernel_rfl)) (fun k w => by kernel_rfl)
  · exact RG.cert_load rfl 0 0 _ rfl rfl (by kernel_rfl) 115 3 rfl (ws x) rfl (fun μ a K => by have h := K.op 3 0 (List.Mem.head _) rfl; exact h) (by kernel_rfl) u115 i115
  · exact RG.cert_stay rfl (fun μ a w _ _ => by rw [show RG.SV.at μ (.v (fv (0 : Fin P))) = (fv (0 : Fin P)) from rfl, ← zero_fv]; kernel_rfl)
  · exact RG.cert_field rfl 117 1 1 rfl 0 0 4 rfl (fun μ a K => K.old 1 (.p 0 0) (List.Mem.head _) (by kernel_rfl)) (fun k w => by kernel_rfl)
  · exact RG.cert_load rfl 0 4 _ rfl rfl (by kernel_rfl) 115 6 rfl (ws y) rfl (fun μ a K => by have h := K.op 6 3 (List.Mem.head _) rfl; exact h) (by kernel_rfl) u115 i115
  · exact RG.cert_call2 rfl 104 5 7 (fv (0 : Fin P)) (fv y) (fv c1) rfl (fun a w => by kernel_rfl) (fun μ a K => by have h := K.op 5 2 (List.Mem.head _) rfl; exact h) (fun μ a K => by have h := K.op 7 4 (List.Mem.tail _ (List.Mem.head _)) rfl; exact h) (hc1 ▸ CMinus_c C (0 : Fin P) y)
  · exact RG.cert_field rfl 117 1 2 rfl 0 0 8 rfl (fun μ a K => K.old 1 (.p 0 0) (List.Mem.head _) (by kernel_rfl)) (fun k w => by kernel_rfl)
  · exact RG.cert_load rfl 0 8 _ rfl rfl (by kernel_rfl) 115 9 rfl (ws z) rfl (fun μ a K => by have h := K.op 9 6 (List.Mem.head _) rfl; exact h) (by kernel_rfl) u115 i115
  · exact RG.cert_build3 rfl 117 4 8 10 rfl (fv x) (fv c1) (fv z) (rv x c1 z) rfl (fun μ a K => by have h := K.op 4 1 (List.Mem.head _) rfl; exact h) (fun μ a K => by have h := K.op 8 5 (List.Mem.tail _ (List.Mem.head _)) rfl; exact h) (fun μ a K => by have h := K.op 10 7 (List.Mem.tail _ (List.Mem.tail _ (List.Mem.head _))) rfl; exact h) (fun w => by kernel_rfl)
  · exact RG.cert_put 1 rfl _ rfl 117 (.tmp 2) (.tmp 11) rfl rfl rfl (fun μ a K => K.old 2 (.p 1 0) (List.Mem.tail _ (List.Mem.head _)) (by kernel_rfl)) (fun μ a K => by have h := K.op 11 8 (List.Mem.head _) rfl; exact h) i117 rfl
  intro new2 w2 hl2 hS2
  obtain rfl := RG.len0 hl2
  refine wp_ret ?_
  refine bodyPost_ret (v := (rv x c1 z)) (RG.results_row hS2 2 117 rfl 1 _ rfl (by kernel_rfl) u117 i117) (by kernel_rfl) ?_
  exact ⟨_, rfl, hS2.bel.below, rfl⟩

def F75_0i (x y z c1 c2 c3 c4 c5 : Fin P) : List RG.It := [⟨some 1, [], (.p 0 0), .make 0⟩,
  ⟨some 2, [], (.p 1 0), .make 1⟩]
def F75_0b (x y z c1 c2 c3 c4 c5 : Fin P) : List RG.Bl := [⟨(ws x ++ (ws y ++ (ws z))), (ws x ++ (ws y ++ (ws z))), some 0, none⟩, ⟨[.int .u64 0, .int .u64 0, .int .u64 0, .int .u64 0, .int .u64 0, .int .u64 0, .int .u64 0, .int .u64 0], [.int .u64 0, .int .u64 0, .int .u64 0, .int .u64 0, .int .u64 0, .int .u64 0, .int .u64 0, .int .u64 0], some 1, none⟩]
def F75_0o (x y z c1 c2 c3 c4 c5 : Fin P) : List (Tmp × RG.SV) := [(0, (.v (rv x y z)))]
def F75_1i (x y z c1 c2 c3 c4 c5 : Fin P) : List RG.It := [⟨some 5, [], (.v gv0), .call⟩,
  ⟨some 6, [], (.p 0 8), .stay⟩,
  ⟨some 7, [(6, 1)], (.v (fv z)), .stay⟩,
  ⟨some 8, [(7, 2)], (.v (fv z)), .call⟩,
  ⟨some 9, [(5, 0), (8, 3)], (.v (fv c1)), .call⟩,
  ⟨some 10, [(9, 4)], (.v (fv c1)), .call⟩,
  ⟨some 3, [], (.p 2 0), .make 2⟩,
  ⟨none, [(3, 6), (10, 5)], (.v undef), .put 2⟩]
def F75_1b (x y z c1 c2 c3 c4 c5 : Fin P) : List RG.Bl := [⟨(ws x ++ (ws y ++ (ws z))), (ws x ++ (ws y ++ (ws z))), none, none⟩, ⟨[.int .u64 0, .int .u64 0, .int .u64 0, .int .u64 0, .int .u64 0, .int .u64 0, .int .u64 0, .int .u64 0], [.int .u64 0, .int .u64 0, .int .u64 0, .int .u64 0, .int .u64 0, .int .u64 0, .int .u64 0, .int .u64 0], none, none⟩, ⟨[.int .u64 0, .int .u64 0, .int .u64 0, .int .u64 0], (ws c1), some 6, some 7⟩]
def F75_1o (x y z c1 c2 c3 c4 c5 : Fin P) : List (Tmp × RG.SV) := [(1, (.p 0 0))]
def F75_2i (x y z c1 c2 c3 c4 c5 : Fin P) : List RG.It := [⟨some 11, [], (.v (fv c1)), .stay⟩,
  ⟨some 12, [], (.v (fv c1)), .stay⟩,
  ⟨some 13, [(11, 0), (12, 1)], (.v (fv c2)), .call⟩,
  ⟨some 4, [], (.p 3 0), .make 3⟩,
  ⟨none, [(4, 3), (13, 2)], (.v undef), .put 3⟩]
def F75_2b (x y z c1 c2 c3 c4 c5 : Fin P) : List RG.Bl := [⟨(ws x ++ (ws y ++ (ws z))), (ws x ++ (ws y ++ (ws z))), none, none⟩, ⟨[.int .u64 0, .int .u64 0, .int .u64 0, .int .u64 0, .int .u64 0, .int .u64 0, .int .u64 0, .int .u64 0], [.int .u64 0, .int .u64 0, .int .u64 0, .int .u64 0, .int .u64 0, .int .u64 0, .int .u64 0, .int .u64 0], none, none⟩, ⟨(ws c1), (ws c1), none, none⟩, ⟨[.int .u64 0, .int .u64 0, .int .u64 0, .int .u64 0], (ws c2), some 3, some 4⟩]
def F75_2o (x y z c1 c2 c3 c4 c5 : Fin P) : List (Tmp × RG.SV) := [(3, (.p 2 0))]
def F75_3i (x y z c1 c2 c3 c4 c5 : Fin P) : List RG.It := [⟨some 14, [], (.p 0 0), .stay⟩,
  ⟨some 15, [(14, 0)], (.v (fv x)), .stay⟩,
  ⟨some 16, [], (.v (fv c2)), .stay⟩,
  ⟨some 17, [(15, 1), (16, 2)], (.v (fv c3)), .call⟩,
  ⟨some 18, [(17, 3)], (.v (fv c3)), .call⟩,
  ⟨some 19, [], (.p 0 4), .stay⟩,
  ⟨some 20, [(19, 5)], (.v (fv y)), .stay⟩,
  ⟨some 21, [], (.v (fv c2)), .stay⟩,
  ⟨some 22, [(20, 6), (21, 7)], (.v (fv c4)), .call⟩,
  ⟨some 23, [], (.v (fv c1)), .stay⟩,
  ⟨some 24, [(22, 8), (23, 9)], (.v (fv c5)), .call⟩,
  ⟨some 25, [(24, 10)], (.v (fv c5)), .call⟩,
  ⟨some 26, [(18, 4), (25, 11)], (.v (pv c3 c5)), .stay⟩,
  ⟨none, [(26, 12)], (.v undef), .put 1⟩]
def F75_3b (x y z c1 c2 c3 c4 c5 : Fin P) : List RG.Bl := [⟨(ws x ++ (ws y ++ (ws z))), (ws x ++ (ws y ++ (ws z))), none, none⟩, ⟨[.int .u64 0, .int .u64 0, .int .u64 0, .int .u64 0, .int .u64 0, .int .u64 0, .int .u64 0, .int .u64 0], (ws c3 ++ (ws c5)), none, some 13⟩, ⟨(ws c1), (ws c1), none, none⟩, ⟨(ws c2), (ws c2), none, none⟩]
def F75_3o (x y z c1 c2 c3 c4 c5 : Fin P) : List (Tmp × RG.SV) := [(1, (.p 0 0)), (4, (.p 3 0)), (3, (.p 2 0)), (2, (.p 1 0))]
set_option maxHeartbeats 2000000 in
set_option maxRecDepth 100000 in
theorem point_c (C : Fld P) (x y z : Fin P) : Gives 75 #[(rv x y z)] (pv (x * (EC.inv z * EC.inv z)) (y * (EC.inv z * EC.inv z) * EC.inv z)) := by
  intro w
  obtain ⟨c1, hc1⟩ : ∃ c, c = EC.inv z := ⟨_, rfl⟩
  obtain ⟨c2, hc2⟩ : ∃ c, c = c1 * c1 := ⟨_, rfl⟩
  obtain ⟨c3, hc3⟩ : ∃ c, c = x * c2 := ⟨_, rfl⟩
  obtain ⟨c4, hc4⟩ : ∃ c, c = y * c2 := ⟨_, rfl⟩
  obtain ⟨c5, hc5⟩ : ∃ c, c = c4 * c1 := ⟨_, rfl⟩
  have hfin : ((pv c3 c5) : Value) = (pv (x * (EC.inv z * EC.inv z)) (y * (EC.inv z * EC.inv z) * EC.inv z)) := by
    subst_vars; rfl
  rw [← hfin]
  go_enter Try.func75, Try.ntmps75
  have hS0 := RG.St.begin w
  repeat refine wp_seq ?_
  refine RG.region_text (its := F75_0i x y z c1 c2 c3 c4 c5) (bl := F75_0b x y z c1 c2 c3 c4 c5) (olds := F75_0o x y z c1 c2 c3 c4 c5) hS0 (RG.Reg.mk' (by kernel_rfl) ⟨by kernel_rfl, trivial⟩ ⟨?_, ?_, trivial⟩) (by kernel_rfl) (by kernel_rfl) (by kernel_rfl) ?_
  · exact RG.cert_box 0 rfl rfl _ rfl 117 0 rfl (rv x y z) (fun μ a K => K.old 0 (.v (rv x y z)) (List.Mem.head _) (by kernel_rfl)) (fun w => by kernel_rfl)
  · exact RG.cert_alloc 1 rfl rfl _ rfl 109 rfl (fun w => by kernel_rfl)
  intro new1 w1 hl1 hS1
  obtain ⟨j1, i1, rfl⟩ := RG.len2 hl1
  repeat refine wp_seq ?_
  refine RG.region_draws (by kernel_rfl) (its := F75_1i x y z c1 c2 c3 c4 c5) (bl := F75_1b x y z c1 c2 c3 c4 c5) (olds := F75_1o x y z c1 c2 c3 c4 c5) hS1 (RG.Reg.mk' (by kernel_rfl) ⟨by kernel_rfl, trivial⟩ ⟨?_, ?_, ?_, ?_, ?_, ?_, ?_, ?_, trivial⟩) (by kernel_rfl) (by kernel_rfl) (by kernel_rfl) ?_
  · exact RG.cert_call0 rfl 63 gv0 rfl (fun a w => by kernel_rfl) (Coordinates_c)
  · exact RG.cert_field rfl 117 1 2 rfl 0 0 8 rfl (fun μ a K => K.old 1 (.p 0 0) (List.Mem.head _) (by kernel_rfl)) (fun k w => by kernel_rfl)
  · exact RG.cert_load rfl 0 8 _ rfl rfl (by kernel_rfl) 115 6 rfl (ws z) rfl (fun μ a K => by have h := K.op 6 1 (List.Mem.head _) rfl; exact h) (by kernel_rfl) u115 i115
  · exact RG.cert_call1 rfl 106 7 (fv z) (fv z) rfl (fun a w => by kernel_rfl) (fun μ a K => by have h := K.op 7 2 (List.Mem.head _) rfl; exact h) (Numb_c C z)
  · exact RG.cert_call2 rfl 50 5 8 gv0 (fv z) (fv c1) rfl (fun a w => by kernel_rfl) (fun μ a K => by have h := K.op 5 0 (List.Mem.head _) rfl; exact h) (fun μ a K => by have h := K.op 8 3 (List.Mem.tail _ (List.Mem.head _)) rfl; exact h) (hc1 ▸ Inverse_c C z)
  · exact RG.cert_call1 rfl 100 9 (fv c1) (fv c1) rfl (fun a w => by kernel_rfl) (fun μ a K => by have h := K.op 9 4 (List.Mem.head _) rfl; exact h) (Coord_c C c1)
  · exact RG.cert_alloc 2 rfl rfl _ rfl 115 rfl (fun w => by kernel_rfl)
  · exact RG.cert_put 2 rfl _ rfl 115 (.tmp 3) (.tmp 10) rfl rfl rfl (fun μ a K => by have h := K.op 3 6 (List.Mem.head _) rfl; exact h) (fun μ a K => by have h := K.op 10 5 (List.Mem.tail _ (List.Mem.head _)) rfl; exact h) i115 rfl
  intro new2 w2 hl2 hS2
  obtain ⟨j2, rfl⟩ := RG.len1 hl2
  repeat refine wp_seq ?_
  refine RG.region_text (its := F75_2i x y z c1 c2 c3 c4 c5) (bl := F75_2b x y z c1 c2 c3 c4 c5) (olds := F75_2o x y z c1 c2 c3 c4 c5) hS2 (RG.Reg.mk' (by kernel_rfl) ⟨by kernel_rfl, trivial⟩ ⟨?_, ?_, ?_, ?_, ?_, trivial⟩) (by kernel_rfl) (by kernel_rfl) (by kernel_rfl) ?_
  · exact RG.cert_load rfl 2 0 _ rfl rfl (by kernel_rfl) 115 3 rfl (ws c1) rfl (fun μ a K => K.old 3 (.p 2 0) (List.Mem.head _) (by kernel_rfl)) (by kernel_rfl) u115 i115
  · exact RG.cert_load rfl 2 0 _ rfl rfl (by kernel_rfl) 115 3 rfl (ws c1) rfl (fun μ a K => K.old 3 (.p 2 0) (List.Mem.head _) (by kernel_rfl)) (by kernel_rfl) u115 i115
  · exact RG.cert_call2 rfl 102 11 12 (fv c1) (fv c1) (fv c2) rfl (fun a w => by kernel_rfl) (fun μ a K => by have h := K.op 11 0 (List.Mem.head _) rfl; exact h) (fun μ a K => by have h := K.op 12 1 (List.Mem.tail _ (List.Mem.head _)) rfl; exact h) (hc2 ▸ CTimes_c C c1 c1)
  · exact RG.cert_alloc 3 rfl rfl _ rfl 115 rfl (fun w => by kernel_rfl)
  · exact RG.cert_put 3 rfl _ rfl 115 (.tmp 4) (.tmp 13) rfl rfl rfl (fun μ a K => by have h := K.op 4 3 (List.Mem.head _) rfl; exact h) (fun μ a K => by have h := K.op 13 2 (List.Mem.tail _ (List.Mem.head _)) rfl; exact h) i115 rfl
  intro new3 w3 hl3 hS3
  obtain ⟨j3, rfl⟩ := RG.len1 hl3
  repeat refine wp_seq ?_
  refine RG.region_draws (by kernel_rfl) (its := F75_3i x y z c1 c2 c3 c4 c5) (bl := F75_3b x y z c1 c2 c3 c4 c5) (olds := F75_3o x y z c1 c2 c3 c4 c5) hS3 (RG.Reg.mk' (by kernel_rfl) ⟨by kernel_rfl, by kernel_rfl, by kernel_rfl, by kernel_rfl, trivial⟩ ⟨?_, ?_, ?_, ?_, ?_, ?_, ?_, ?_, ?_, ?_, ?_, ?_, ?_, ?_, trivial⟩) (by kernel_rfl) (by kernel_rfl) (by kernel_rfl) ?_
  · exact RG.cert_field rfl 117 1 0 rfl 0 0 0 rfl (fun μ a K => K.old 1 (.p 0 0) (List.Mem.head _) (by kernel_rfl)) (fun k w => by kernel_rfl)
  · exact RG.cert_load rfl 0 0 _ rfl rfl (by kernel_rfl) 115 14 rfl (ws x) rfl (fun μ a K => by have h := K.op 14 0 (List.Mem.head _) rfl; exact h) (by kernel_rfl) u115 i115
  · exact RG.cert_load rfl 3 0 _ rfl rfl (by kernel_rfl) 115 4 rfl (ws c2) rfl (fun μ a K => K.old 4 (.p 3 0) (List.Mem.tail _ (List.Mem.head _)) (by kernel_rfl)) (by kernel_rfl) u115 i115
  · exact RG.cert_call2 rfl 102 15 16 (fv x) (fv c2) (fv c3) rfl (fun a w => by kernel_rfl) (fun μ a K => by have h := K.op 15 1 (List.Mem.head _) rfl; exact h) (fun μ a K => by have h := K.op 16 2 (List.Mem.tail _ (List.Mem.head _)) rfl; exact h) (hc3 ▸ CTimes_c C x c2)
  · exact RG.cert_call1 rfl 106 17 (fv c3) (fv c3) rfl (fun a w => by kernel_rfl) (fun μ a K => by have h := K.op 17 3 (List.Mem.head _) rfl; exact h) (Numb_c C c3)
  · exact RG.cert_field rfl 117 1 1 rfl 0 0 4 rfl (fun μ a K => K.old 1 (.p 0 0) (List.Mem.head _) (by kernel_rfl)) (fun k w => by kernel_rfl)
  · exact RG.cert_load rfl 0 4 _ rfl rfl (by kernel_rfl) 115 19 rfl (ws y) rfl (fun μ a K => by have h := K.op 19 5 (List.Mem.head _) rfl; exact h) (by kernel_rfl) u115 i115
  · exact RG.cert_load rfl 3 0 _ rfl rfl (by kernel_rfl) 115 4 rfl (ws c2) rfl (fun μ a K => K.old 4 (.p 3 0) (List.Mem.tail _ (List.Mem.head _)) (by kernel_rfl)) (by kernel_rfl) u115 i115
  · exact RG.cert_call2 rfl 102 20 21 (fv y) (fv c2) (fv c4) rfl (fun a w => by kernel_rfl) (fun μ a K => by have h := K.op 20 6 (List.Mem.head _) rfl; exact h) (fun μ a K => by have h := K.op 21 7 (List.Mem.tail _ (List.Mem.head _)) rfl; exact h) (hc4 ▸ CTimes_c C y c2)
  · exact RG.cert_load rfl 2 0 _ rfl rfl (by kernel_rfl) 115 3 rfl (ws c1) rfl (fun μ a K => K.old 3 (.p 2 0) (List.Mem.tail _ (List.Mem.tail _ (List.Mem.head _))) (by kernel_rfl)) (by kernel_rfl) u115 i115
  · exact RG.cert_call2 rfl 102 22 23 (fv c4) (fv c1) (fv c5) rfl (fun a w => by kernel_rfl) (fun μ a K => by have h := K.op 22 8 (List.Mem.head _) rfl; exact h) (fun μ a K => by have h := K.op 23 9 (List.Mem.tail _ (List.Mem.head _)) rfl; exact h) (hc5 ▸ CTimes_c C c4 c1)
  · exact RG.cert_call1 rfl 106 24 (fv c5) (fv c5) rfl (fun a w => by kernel_rfl) (fun μ a K => by have h := K.op 24 10 (List.Mem.head _) rfl; exact h) (Numb_c C c5)
  · exact RG.cert_build2 rfl 109 18 25 rfl (fv c3) (fv c5) (pv c3 c5) rfl (fun μ a K => by have h := K.op 18 4 (List.Mem.head _) rfl; exact h) (fun μ a K => by have h := K.op 25 11 (List.Mem.tail _ (List.Mem.head _)) rfl; exact h) (fun w => by kernel_rfl)
  · exact RG.cert_put 1 rfl _ rfl 109 (.tmp 2) (.tmp 26) rfl rfl rfl (fun μ a K => K.old 2 (.p 1 0) (List.Mem.tail _ (List.Mem.tail _ (List.Mem.tail _ (List.Mem.head _)))) (by kernel_rfl)) (fun μ a K => by have h := K.op 26 12 (List.Mem.head _) rfl; exact h) i109 rfl
  intro new4 w4 hl4 hS4
  obtain rfl := RG.len0 hl4
  refine wp_ret ?_
  refine bodyPost_ret (v := (pv c3 c5)) (RG.results_row hS4 2 109 rfl 1 _ rfl (by kernel_rfl) u109 i109) (by kernel_rfl) ?_
  exact ⟨_, rfl, hS4.bel.below, rfl⟩

end Go.Proofs.Ytdeidgbknlmhjab
