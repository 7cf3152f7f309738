import Derived.Test.YtdeidgbknlmhjabB34
set_option linter.unusedVariables false
set_option linter.unusedSimpArgs false
namespace Go.Proofs.Ytdeidgbknlmhjab
open Go.RowKit Go.Sort Go.Deep
variable {P : Nat} [NeZero P]

def F31d2_5i (m : Nat) (bs : Bs) (x y y2 : Fin P)  : List RG.It := [⟨some 27, [], (.v rv0), .call⟩,
  ⟨some 28, [], (.v (.string ⟨bs⟩)), .stay⟩,
  ⟨some 29, [(28, 1)], (.v (.string ⟨tl33 bs⟩)), .stay⟩,
  ⟨some 30, [(27, 0), (29, 2)], (.v (.tuple #[(nv m), (.bool false)])), .call⟩,
  ⟨some 26, [(30, 3)], (.v (.tuple #[(nv m), (.bool false)])), .stay⟩,
  ⟨some 31, [(26, 4)], (.v (nv m)), .stay⟩,
  ⟨some 32, [(26, 4)], (.v (.bool false)), .stay⟩,
  ⟨some 4, [], (.p 1 0), .make 1⟩,
  ⟨none, [(4, 7), (31, 5)], (.v undef), .put 1⟩,
  ⟨some 5, [(32, 6)], (.v (.bool false)), .stay⟩]
def F31d2_5b (m : Nat) (bs : Bs) (x y y2 : Fin P)  : List RG.Bl := [⟨[.int .u64 0, .int .u64 0, .int .u64 0, .int .u64 0, .int .u64 0, .int .u64 0, .int .u64 0, .int .u64 0, .int .u64 0, .int .u64 0, .int .u64 0, .int .u64 0], [.int .u64 0, .int .u64 0, .int .u64 0, .int .u64 0, .int .u64 0, .int .u64 0, .int .u64 0, .int .u64 0, .int .u64 0, .int .u64 0, .int .u64 0, .int .u64 0], none, none⟩, ⟨[.int .u64 0, .int .u64 0, .int .u64 0, .int .u64 0], (wn m), some 7, some 8⟩]
def F31d2_5o (m : Nat) (bs : Bs) (x y y2 : Fin P)  : List (Tmp × RG.SV) := [(0, (.v (.string ⟨bs⟩)))]
def F31d2_6i (m : Nat) (bs : Bs) (x y y2 : Fin P)  : List RG.It := [⟨some 33, [], (.v (.bool false)), .stay⟩,
  ⟨some 34, [(33, 0)], (.v (.bool true)), .stay⟩]
def F31d2_6b (m : Nat) (bs : Bs) (x y y2 : Fin P)  : List RG.Bl := [⟨[.int .u64 0, .int .u64 0, .int .u64 0, .int .u64 0, .int .u64 0, .int .u64 0, .int .u64 0, .int .u64 0, .int .u64 0, .int .u64 0, .int .u64 0, .int .u64 0], [.int .u64 0, .int .u64 0, .int .u64 0, .int .u64 0, .int .u64 0, .int .u64 0, .int .u64 0, .int .u64 0, .int .u64 0, .int .u64 0, .int .u64 0, .int .u64 0], none, none⟩, ⟨(wn m), (wn m), none, none⟩]
def F31d2_6o (m : Nat) (bs : Bs) (x y y2 : Fin P)  : List (Tmp × RG.SV) := [(5, (.v (.bool false)))]
def F31d2_7i (m : Nat) (bs : Bs) (x y y2 : Fin P)  : List RG.It := [⟨some 35, [], (.v (rv (0 : Fin P) (0 : Fin P) (0 : Fin P))), .stay⟩,
  ⟨none, [(35, 0)], (.v undef), .put 0⟩,
  ⟨some 3, [], (.v (.bool false)), .stay⟩]
def F31d2_7b (m : Nat) (bs : Bs) (x y y2 : Fin P)  : List RG.Bl := [⟨[.int .u64 0, .int .u64 0, .int .u64 0, .int .u64 0, .int .u64 0, .int .u64 0, .int .u64 0, .int .u64 0, .int .u64 0, .int .u64 0, .int .u64 0, .int .u64 0], (ws (0 : Fin P) ++ (ws (0 : Fin P) ++ (ws (0 : Fin P)))), none, some 1⟩, ⟨(wn m), (wn m), none, none⟩]
def F31d2_7o (m : Nat) (bs : Bs) (x y y2 : Fin P)  : List (Tmp × RG.SV) := [(2, (.p 0 0))]
set_option maxHeartbeats 4000000 in
set_option maxRecDepth 100000 in
theorem rr_num2 (C : Fl3 P) (m : Nat) (bs : Bs) (x y y2 : Fin P) (w : World) (hs : bs.size = 33) (hz : ¬ bs = zs33) (hm : ub bs[0]! = 2) (hnum : Gives 17 #[rv0, .string ⟨tl33 bs⟩] (.tuple #[nv m, .bool false])) : Calls Try.prog 31 #[.string ⟨bs⟩] w (Ret fun e w' => Below w.heap.size w w' ∧ e = .tuple #[rv (0 : Fin P) 0 0, .bool false]) := by
  have hmk := mk33
  have hcv := conv33 w
  have hse := str_ne3 hz
  unfold W5 z12 at hcv
  have hs2 : (⟨bs⟩ : ByteArray).size = 33 := hs
  have hix := ixS bs hs 2 hm
  have hS0 := W5_st w
  unfold W5 z12 at hS0
  go_enter Try.func31, Try.ntmps31
  go_wp2_with fail
  rename_i hK
  clear hmk hcv hse hs2 hix
  generalize (w.alloc _).alloc _ = w0 at hS0 ⊢
  refine RG.mid3 (v0 := .string ⟨bs⟩) (v1 := .pointer (some ⟨w.heap.size, 0, none⟩)) (v2 := .bool false) (n := 48) 0 2 3 rfl rfl rfl rfl rfl ?_
  intro a0 sl0 f0 f2 f3
  repeat refine wp_seq ?_
  refine RG.region_draws' (by kernel_rfl) (its := F31d2_5i m bs x y y2) (bl := F31d2_5b m bs x y y2) (olds := F31d2_5o m bs x y y2) hS0 (RG.Reg.mk' (by rw [sl0.size]; kernel_rfl) ⟨f0, trivial⟩ ⟨?_, ?_, ?_, ?_, ?_, ?_, ?_, ?_, ?_, ?_, trivial⟩) (by kernel_rfl) (by kernel_rfl) (RG.endB_st (by kernel_rfl)) ?_
  · exact RG.cert_call0 rfl 69 rv0 rfl (fun a w => by kernel_rfl) (F3_c)
  · exact RG.cert_move rfl 0 (Or.inl rfl) (fun μ a K => K.old 0 (.v (.string ⟨bs⟩)) (List.Mem.head _) (by kernel_rfl))
  · exact RG.cert_slice1 rfl 9 28 (.int .i64 1) (.string ⟨bs⟩) (.string ⟨tl33 bs⟩) rfl rfl (fun μ a K => by have h := K.op 28 1 (List.Mem.head _) rfl; exact h) (slS bs hs)
  · exact RG.cert_call2 rfl 17 27 29 rv0 (.string ⟨tl33 bs⟩) (.tuple #[(nv m), (.bool false)]) rfl (fun a w => by kernel_rfl) (fun μ a K => by have h := K.op 27 0 (List.Mem.head _) rfl; exact h) (fun μ a K => by have h := K.op 29 2 (List.Mem.tail _ (List.Mem.head _)) rfl; exact h) (hnum)
  · exact RG.cert_move rfl 30 (Or.inl rfl) (fun μ a K => by have h := K.op 30 3 (List.Mem.head _) rfl; exact h)
  · exact RG.cert_extract rfl 26 0 #[(nv m), (.bool false)] (nv m) rfl rfl rfl (fun μ a K => by have h := K.op 26 4 (List.Mem.head _) rfl; exact h)
  · exact RG.cert_extract rfl 26 1 #[(nv m), (.bool false)] (.bool false) rfl rfl rfl (fun μ a K => by have h := K.op 26 4 (List.Mem.head _) rfl; exact h)
  · exact RG.cert_alloc 1 rfl rfl _ rfl 33 rfl (fun w => by kernel_rfl)
  · exact RG.cert_put 1 rfl _ rfl 33 (.tmp 4) (.tmp 31) rfl rfl rfl (fun μ a K => by have h := K.op 4 7 (List.Mem.head _) rfl; exact h) (fun μ a K => by have h := K.op 31 5 (List.Mem.tail _ (List.Mem.head _)) rfl; exact h) i33 rfl
  · exact RG.cert_move rfl 32 (Or.inr rfl) (fun μ a K => by have h := K.op 32 6 (List.Mem.head _) rfl; exact h)
  intro new1 w1 hl1 hS1
  obtain ⟨j1, rfl⟩ := RG.len1 hl1
  clear hl1
  replace hS1 : RG.St w w.heap.size [] [[.int .u64 0, .int .u64 0, .int .u64 0, .int .u64 0, .int .u64 0, .int .u64 0, .int .u64 0, .int .u64 0, .int .u64 0, .int .u64 0, .int .u64 0, .int .u64 0], (wn m)] [w.heap.size, j1] w1 := hS1
  have sl1 : RG.Sl (RG.puts (RG.ad ([w.heap.size] ++ [j1])) (F31d2_5i m bs x y y2) a0) 48 := sl0.puts
  have f2_1 := RG.put_old (μ := RG.ad ([w.heap.size] ++ [j1])) (its := (F31d2_5i m bs x y y2)) f2 (by kernel_rfl)
  have f3_1 := RG.put_old (μ := RG.ad ([w.heap.size] ++ [j1])) (its := (F31d2_5i m bs x y y2)) f3 (by kernel_rfl)
  have f5_1 : (RG.puts (RG.ad ([w.heap.size] ++ [j1])) (F31d2_5i m bs x y y2) a0).tmps[5]? = some (.bool false) := by have h := RG.put_new (μ := RG.ad ([w.heap.size] ++ [j1])) (its := (F31d2_5i m bs x y y2)) sl0 9 (by kernel_rfl) rfl rfl rfl; exact h
  generalize RG.puts (RG.ad ([w.heap.size] ++ [j1])) (F31d2_5i m bs x y y2) a0 = a1 at sl1 f2_1 f3_1 f5_1 ⊢
  refine hK _ _ ?_
  repeat refine wp_seq ?_
  refine RG.region_text' (its := F31d2_6i m bs x y y2) (bl := F31d2_6b m bs x y y2) (olds := F31d2_6o m bs x y y2) hS1 (RG.Reg.mk' (by rw [sl1.size]; kernel_rfl) ⟨f5_1, trivial⟩ ⟨?_, ?_, trivial⟩) (by kernel_rfl) (by kernel_rfl) (RG.endB_st (by kernel_rfl)) ?_
  · exact RG.cert_move rfl 5 (Or.inl rfl) (fun μ a K => K.old 5 (.v (.bool false)) (List.Mem.head _) (by kernel_rfl))
  · exact RG.cert_not rfl 4 33 false rfl rfl (fun μ a K => by have h := K.op 33 0 (List.Mem.head _) rfl; exact h)
  intro new2 w2 hl2 hS2
  obtain rfl := RG.len0 hl2
  replace hS2 : RG.St w w.heap.size [] [[.int .u64 0, .int .u64 0, .int .u64 0, .int .u64 0, .int .u64 0, .int .u64 0, .int .u64 0, .int .u64 0, .int .u64 0, .int .u64 0, .int .u64 0, .int .u64 0], (wn m)] [w.heap.size, j1] w2 := hS2
  have sl2 : RG.Sl (RG.puts (RG.ad ([w.heap.size, j1] ++ [])) (F31d2_6i m bs x y y2) a1) 48 := sl1.puts
  have f2_2 := RG.put_old (μ := RG.ad ([w.heap.size, j1] ++ [])) (its := (F31d2_6i m bs x y y2)) f2_1 (by kernel_rfl)
  have f3_2 := RG.put_old (μ := RG.ad ([w.heap.size, j1] ++ [])) (its := (F31d2_6i m bs x y y2)) f3_1 (by kernel_rfl)
  have f34_2 : (RG.puts (RG.ad ([w.heap.size, j1] ++ [])) (F31d2_6i m bs x y y2) a1).tmps[34]? = some (.bool true) := by have h := RG.put_new (μ := RG.ad ([w.heap.size, j1] ++ [])) (its := (F31d2_6i m bs x y y2)) sl1 1 (by kernel_rfl) rfl rfl rfl; exact h
  generalize RG.puts (RG.ad ([w.heap.size, j1] ++ [])) (F31d2_6i m bs x y y2) a1 = a2 at sl2 f2_2 f3_2 f34_2 ⊢
  repeat refine wp_seq ?_
  refine wp_cond_true (RG.eval_of f34_2) ?_
  repeat refine wp_seq ?_
  refine RG.region_text' (its := F31d2_7i m bs x y y2) (bl := F31d2_7b m bs x y y2) (olds := F31d2_7o m bs x y y2) hS2 (RG.Reg.mk' (by rw [sl2.size]; kernel_rfl) ⟨f2_2, trivial⟩ ⟨?_, ?_, ?_, trivial⟩) (by kernel_rfl) (by kernel_rfl) (RG.endB_st (by kernel_rfl)) ?_
  · exact RG.cert_stay rfl (fun μ a w _ _ => by rw [show RG.SV.at μ (.v (rv (0 : Fin P) (0 : Fin P) (0 : Fin P))) = (rv (0 : Fin P) (0 : Fin P) (0 : Fin P)) from rfl, ← zero_rv]; kernel_rfl)
  · exact RG.cert_put 0 rfl _ rfl 56 (.tmp 2) (.tmp 35) rfl rfl rfl (fun μ a K => K.old 2 (.p 0 0) (List.Mem.head _) (by kernel_rfl)) (fun μ a K => by have h := K.op 35 0 (List.Mem.head _) rfl; exact h) i56 rfl
  · exact RG.cert_stay rfl (fun μ a w _ _ => by kernel_rfl)
  intro new3 w3 hl3 hS3
  obtain rfl := RG.len0 hl3
  replace hS3 : RG.St w w.heap.size [] [(ws (0 : Fin P) ++ (ws (0 : Fin P) ++ (ws (0 : Fin P)))), (wn m)] [w.heap.size, j1] w3 := hS3
  have sl3 : RG.Sl (RG.puts (RG.ad ([w.heap.size, j1] ++ [])) (F31d2_7i m bs x y y2) a2) 48 := sl2.puts
  have f2_3 := RG.put_old (μ := RG.ad ([w.heap.size, j1] ++ [])) (its := (F31d2_7i m bs x y y2)) f2_2 (by kernel_rfl)
  have f3_3 : (RG.puts (RG.ad ([w.heap.size, j1] ++ [])) (F31d2_7i m bs x y y2) a2).tmps[3]? = some (.bool false) := by have h := RG.put_new (μ := RG.ad ([w.heap.size, j1] ++ [])) (its := (F31d2_7i m bs x y y2)) sl2 2 (by kernel_rfl) rfl rfl rfl; exact h
  generalize RG.puts (RG.ad ([w.heap.size, j1] ++ [])) (F31d2_7i m bs x y y2) a2 = a3 at sl3 f2_3 f3_3 ⊢
  refine wp_ret ?_
  refine bodyPost_ret (v := (.tuple #[(rv (0 : Fin P) (0 : Fin P) (0 : Fin P)), (.bool false)])) (RG.results_rt hS3 2 3 56 rfl 0 _ rfl f2_3 _ f3_3 u56 i56) sl3.defers ?_
  exact ⟨_, rfl, hS3.bel.below, rfl⟩

def F31e2_5i (m : Nat) (bs : Bs) (x y y2 : Fin P)  : List RG.It := [⟨some 27, [], (.v rv0), .call⟩,
  ⟨some 28, [], (.v (.string ⟨bs⟩)), .stay⟩,
  ⟨some 29, [(28, 1)], (.v (.string ⟨tl33 bs⟩)), .stay⟩,
  ⟨some 30, [(27, 0), (29, 2)], (.v (.tuple #[(fv x), (.bool true)])), .call⟩,
  ⟨some 26, [(30, 3)], (.v (.tuple #[(fv x), (.bool true)])), .stay⟩,
  ⟨some 31, [(26, 4)], (.v (fv x)), .stay⟩,
  ⟨some 32, [(26, 4)], (.v (.bool true)), .stay⟩,
  ⟨some 4, [], (.p 1 0), .make 1⟩,
  ⟨none, [(4, 7), (31, 5)], (.v undef), .put 1⟩,
  ⟨some 5, [(32, 6)], (.v (.bool true)), .stay⟩]
def F31e2_5b (m : Nat) (bs : Bs) (x y y2 : Fin P)  : List RG.Bl := [⟨[.int .u64 0, .int .u64 0, .int .u64 0, .int .u64 0, .int .u64 0, .int .u64 0, .int .u64 0, .int .u64 0, .int .u64 0, .int .u64 0, .int .u64 0, .int .u64 0], [.int .u64 0, .int .u64 0, .int .u64 0, .int .u64 0, .int .u64 0, .int .u64 0, .int .u64 0, .int .u64 0, .int .u64 0, .int .u64 0, .int .u64 0, .int .u64 0], none, none⟩, ⟨[.int .u64 0, .int .u64 0, .int .u64 0, .int .u64 0], (ws x), some 7, some 8⟩]
def F31e2_5o (m : Nat) (bs : Bs) (x y y2 : Fin P)  : List (Tmp × RG.SV) := [(0, (.v (.string ⟨bs⟩)))]
def F31e2_6i (m : Nat) (bs : Bs) (x y y2 : Fin P)  : List RG.It := [⟨some 33, [], (.v (.bool true)), .stay⟩,
  ⟨some 34, [(33, 0)], (.v (.bool false)), .stay⟩]
def F31e2_6b (m : Nat) (bs : Bs) (x y y2 : Fin P)  : List RG.Bl := [⟨[.int .u64 0, .int .u64 0, .int .u64 0, .int .u64 0, .int .u64 0, .int .u64 0, .int .u64 0, .int .u64 0, .int .u64 0, .int .u64 0, .int .u64 0, .int .u64 0], [.int .u64 0, .int .u64 0, .int .u64 0, .int .u64 0, .int .u64 0, .int .u64 0, .int .u64 0, .int .u64 0, .int .u64 0, .int .u64 0, .int .u64 0, .int .u64 0], none, none⟩, ⟨(ws x), (ws x), none, none⟩]
def F31e2_6o (m : Nat) (bs : Bs) (x y y2 : Fin P)  : List (Tmp × RG.SV) := [(5, (.v (.bool true)))]
def F31e2_8i (m : Nat) (bs : Bs) (x y y2 : Fin P)  : List RG.It := [⟨some 37, [], (.v (fv x)), .stay⟩,
  ⟨some 38, [(37, 0)], (.v (.tuple #[(rv x (0 : Fin P) (1 : Fin P)), (.bool false)])), .call⟩,
  ⟨some 36, [(38, 1)], (.v (.tuple #[(rv x (0 : Fin P) (1 : Fin P)), (.bool false)])), .stay⟩,
  ⟨some 39, [(36, 2)], (.v (rv x (0 : Fin P) (1 : Fin P))), .stay⟩,
  ⟨some 40, [(36, 2)], (.v (.bool false)), .stay⟩,
  ⟨some 6, [], (.p 2 0), .make 2⟩,
  ⟨none, [(6, 5), (39, 3)], (.v undef), .put 2⟩,
  ⟨some 5, [(40, 4)], (.v (.bool false)), .stay⟩]
def F31e2_8b (m : Nat) (bs : Bs) (x y y2 : Fin P)  : List RG.Bl := [⟨[.int .u64 0, .int .u64 0, .int .u64 0, .int .u64 0, .int .u64 0, .int .u64 0, .int .u64 0, .int .u64 0, .int .u64 0, .int .u64 0, .int .u64 0, .int .u64 0], [.int .u64 0, .int .u64 0, .int .u64 0, .int .u64 0, .int .u64 0, .int .u64 0, .int .u64 0, .int .u64 0, .int .u64 0, .int .u64 0, .int .u64 0, .int .u64 0], none, none⟩, ⟨(ws x), (ws x), none, none⟩, ⟨[.int .u64 0, .int .u64 0, .int .u64 0, .int .u64 0, .int .u64 0, .int .u64 0, .int .u64 0, .int .u64 0, .int .u64 0, .int .u64 0, .int .u64 0, .int .u64 0], (ws x ++ (ws (0 : Fin P) ++ (ws (1 : Fin P)))), some 5, some 6⟩]
def F31e2_8o (m : Nat) (bs : Bs) (x y y2 : Fin P)  : List (Tmp × RG.SV) := [(4, (.p 1 0))]
def F31e2_9i (m : Nat) (bs : Bs) (x y y2 : Fin P)  : List RG.It := [⟨some 41, [], (.v (.string ⟨bs⟩)), .stay⟩,
  ⟨some 42, [(41, 0)], (.v (.int .u8 2)), .stay⟩,
  ⟨some 43, [(42, 1)], (.v (.bool false)), .stay⟩]
def F31e2_9b (m : Nat) (bs : Bs) (x y y2 : Fin P)  : List RG.Bl := [⟨[.int .u64 0, .int .u64 0, .int .u64 0, .int .u64 0, .int .u64 0, .int .u64 0, .int .u64 0, .int .u64 0, .int .u64 0, .int .u64 0, .int .u64 0, .int .u64 0], [.int .u64 0, .int .u64 0, .int .u64 0, .int .u64 0, .int .u64 0, .int .u64 0, .int .u64 0, .int .u64 0, .int .u64 0, .int .u64 0, .int .u64 0, .int .u64 0], none, none⟩, ⟨(ws x), (ws x), none, none⟩, ⟨(ws x ++ (ws (0 : Fin P) ++ (ws (1 : Fin P)))), (ws x ++ (ws (0 : Fin P) ++ (ws (1 : Fin P)))), none, none⟩]
def F31e2_9o (m : Nat) (bs : Bs) (x y y2 : Fin P)  : List (Tmp × RG.SV) := [(0, (.v (.string ⟨bs⟩)))]
def F31e2_11i (m : Nat) (bs : Bs) (x y y2 : Fin P)  : List RG.It := [⟨some 46, [], (.v (rv x (0 : Fin P) (1 : Fin P))), .stay⟩,
  ⟨some 47, [], (.v (.bool false)), .stay⟩,
  ⟨none, [(46, 0)], (.v undef), .put 0⟩,
  ⟨some 3, [(47, 1)], (.v (.bool false)), .stay⟩]
def F31e2_11b (m : Nat) (bs : Bs) (x y y2 : Fin P)  : List RG.Bl := [⟨[.int .u64 0, .int .u64 0, .int .u64 0, .int .u64 0, .int .u64 0, .int .u64 0, .int .u64 0, .int .u64 0, .int .u64 0, .int .u64 0, .int .u64 0, .int .u64 0], (ws x ++ (ws (0 : Fin P) ++ (ws (1 : Fin P)))), none, some 2⟩, ⟨(ws x), (ws x), none, none⟩, ⟨(ws x ++ (ws (0 : Fin P) ++ (ws (1 : Fin P)))), (ws x ++ (ws (0 : Fin P) ++ (ws (1 : Fin P)))), none, none⟩]
def F31e2_11o (m : Nat) (bs : Bs) (x y y2 : Fin P)  : List (Tmp × RG.SV) := [(6, (.p 2 0)), (5, (.v (.bool false))), (2, (.p 0 0))]
set_option maxHeartbeats 4000000 in
set_option maxRecDepth 100000 in
theorem rr_none2 (C : Fl3 P) (m : Nat) (bs : Bs) (x y y2 : Fin P) (w : World) (hs : bs.size = 33) (hz : ¬ bs = zs33) (hm : ub bs[0]! = 2) (hx : beV (tl33 bs).toList = x.val) (hr : rt (x * x * x + 7) = none) : Calls Try.prog 31 #[.string ⟨bs⟩] w (Ret fun e w' => Below w.heap.size w w' ∧ e = .tuple #[rv x 0 1, .bool false]) := by
  have hmk := mk33
  have hcv := conv33 w
  have hse := str_ne3 hz
  unfold W5 z12 at hcv
  have hs2 : (⟨bs⟩ : ByteArray).size = 33 := hs
  have hix := ixS bs hs 2 hm
  have hS0 := W5_st w
  unfold W5 z12 at hS0
  go_enter Try.func31, Try.ntmps31
  go_wp2_with fail
  rename_i hK
  clear hmk hcv hse hs2 hix
  generalize (w.alloc _).alloc _ = w0 at hS0 ⊢
  refine RG.mid3 (v0 := .string ⟨bs⟩) (v1 := .pointer (some ⟨w.heap.size, 0, none⟩)) (v2 := .bool false) (n := 48) 0 2 3 rfl rfl rfl rfl rfl ?_
  intro a0 sl0 f0 f2 f3
  repeat refine wp_seq ?_
  refine RG.region_draws' (by kernel_rfl) (its := F31e2_5i m bs x y y2) (bl := F31e2_5b m bs x y y2) (olds := F31e2_5o m bs x y y2) hS0 (RG.Reg.mk' (by rw [sl0.size]; kernel_rfl) ⟨f0, trivial⟩ ⟨?_, ?_, ?_, ?_, ?_, ?_, ?_, ?_, ?_, ?_, trivial⟩) (by kernel_rfl) (by kernel_rfl) (RG.endB_st (by kernel_rfl)) ?_
  · exact RG.cert_call0 rfl 69 rv0 rfl (fun a w => by kernel_rfl) (F3_c)
  · exact RG.cert_move rfl 0 (Or.inl rfl) (fun μ a K => K.old 0 (.v (.string ⟨bs⟩)) (List.Mem.head _) (by kernel_rfl))
  · exact RG.cert_slice1 rfl 9 28 (.int .i64 1) (.string ⟨bs⟩) (.string ⟨tl33 bs⟩) rfl rfl (fun μ a K => by have h := K.op 28 1 (List.Mem.head _) rfl; exact h) (slS bs hs)
  · exact RG.cert_call2 rfl 17 27 29 rv0 (.string ⟨tl33 bs⟩) (.tuple #[(fv x), (.bool true)]) rfl (fun a w => by kernel_rfl) (fun μ a K => by have h := K.op 27 0 (List.Mem.head _) rfl; exact h) (fun μ a K => by have h := K.op 29 2 (List.Mem.tail _ (List.Mem.head _)) rfl; exact h) (rNumber_y C (tl33 bs) (tl33_size hs) hx)
  · exact RG.cert_move rfl 30 (Or.inl rfl) (fun μ a K => by have h := K.op 30 3 (List.Mem.head _) rfl; exact h)
  · exact RG.cert_extract rfl 26 0 #[(fv x), (.bool true)] (fv x) rfl rfl rfl (fun μ a K => by have h := K.op 26 4 (List.Mem.head _) rfl; exact h)
  · exact RG.cert_extract rfl 26 1 #[(fv x), (.bool true)] (.bool true) rfl rfl rfl (fun μ a K => by have h := K.op 26 4 (List.Mem.head _) rfl; exact h)
  · exact RG.cert_alloc 1 rfl rfl _ rfl 33 rfl (fun w => by kernel_rfl)
  · exact RG.cert_put 1 rfl _ rfl 33 (.tmp 4) (.tmp 31) rfl rfl rfl (fun μ a K => by have h := K.op 4 7 (List.Mem.head _) rfl; exact h) (fun μ a K => by have h := K.op 31 5 (List.Mem.tail _ (List.Mem.head _)) rfl; exact h) i33 rfl
  · exact RG.cert_move rfl 32 (Or.inr rfl) (fun μ a K => by have h := K.op 32 6 (List.Mem.head _) rfl; exact h)
  intro new1 w1 hl1 hS1
  obtain ⟨j1, rfl⟩ := RG.len1 hl1
  clear hl1
  replace hS1 : RG.St w w.heap.size [] [[.int .u64 0, .int .u64 0, .int .u64 0, .int .u64 0, .int .u64 0, .int .u64 0, .int .u64 0, .int .u64 0, .int .u64 0, .int .u64 0, .int .u64 0, .int .u64 0], (ws x)] [w.heap.size, j1] w1 := hS1
  have sl1 : RG.Sl (RG.puts (RG.ad ([w.heap.size] ++ [j1])) (F31e2_5i m bs x y y2) a0) 48 := sl0.puts
  have f0_1 := RG.put_old (μ := RG.ad ([w.heap.size] ++ [j1])) (its := (F31e2_5i m bs x y y2)) f0 (by kernel_rfl)
  have f2_1 := RG.put_old (μ := RG.ad ([w.heap.size] ++ [j1])) (its := (F31e2_5i m bs x y y2)) f2 (by kernel_rfl)
  have f3_1 := RG.put_old (μ := RG.ad ([w.heap.size] ++ [j1])) (its := (F31e2_5i m bs x y y2)) f3 (by kernel_rfl)
  have f4_1 : (RG.puts (RG.ad ([w.heap.size] ++ [j1])) (F31e2_5i m bs x y y2) a0).tmps[4]? = some (.pointer (some ⟨j1, 0, none⟩)) := by have h := RG.put_new (μ := RG.ad ([w.heap.size] ++ [j1])) (its := (F31e2_5i m bs x y y2)) sl0 7 (by kernel_rfl) rfl rfl rfl; exact h
  have f5_1 : (RG.puts (RG.ad ([w.heap.size] ++ [j1])) (F31e2_5i m bs x y y2) a0).tmps[5]? = some (.bool true) := by have h := RG.put_new (μ := RG.ad ([w.heap.size] ++ [j1])) (its := (F31e2_5i m bs x y y2)) sl0 9 (by kernel_rfl) rfl rfl rfl; exact h
  generalize RG.puts (RG.ad ([w.heap.size] ++ [j1])) (F31e2_5i m bs x y y2) a0 = a1 at sl1 f0_1 f2_1 f3_1 f4_1 f5_1 ⊢
  refine hK _ _ ?_
  repeat refine wp_seq ?_
  refine RG.region_text' (its := F31e2_6i m bs x y y2) (bl := F31e2_6b m bs x y y2) (olds := F31e2_6o m bs x y y2) hS1 (RG.Reg.mk' (by rw [sl1.size]; kernel_rfl) ⟨f5_1, trivial⟩ ⟨?_, ?_, trivial⟩) (by kernel_rfl) (by kernel_rfl) (RG.endB_st (by kernel_rfl)) ?_
  · exact RG.cert_move rfl 5 (Or.inl rfl) (fun μ a K => K.old 5 (.v (.bool true)) (List.Mem.head _) (by kernel_rfl))
  · exact RG.cert_not rfl 4 33 true rfl rfl (fun μ a K => by have h := K.op 33 0 (List.Mem.head _) rfl; exact h)
  intro new2 w2 hl2 hS2
  obtain rfl := RG.len0 hl2
  replace hS2 : RG.St w w.heap.size [] [[.int .u64 0, .int .u64 0, .int .u64 0, .int .u64 0, .int .u64 0, .int .u64 0, .int .u64 0, .int .u64 0, .int .u64 0, .int .u64 0, .int .u64 0, .int .u64 0], (ws x)] [w.heap.size, j1] w2 := hS2
  have sl2 : RG.Sl (RG.puts (RG.ad ([w.heap.size, j1] ++ [])) (F31e2_6i m bs x y y2) a1) 48 := sl1.puts
  have f0_2 := RG.put_old (μ := RG.ad ([w.heap.size, j1] ++ [])) (its := (F31e2_6i m bs x y y2)) f0_1 (by kernel_rfl)
  have f2_2 := RG.put_old (μ := RG.ad ([w.heap.size, j1] ++ [])) (its := (F31e2_6i m bs x y y2)) f2_1 (by kernel_rfl)
  have f3_2 := RG.put_old (μ := RG.ad ([w.heap.size, j1] ++ [])) (its := (F31e2_6i m bs x y y2)) f3_1 (by kernel_rfl)
  have f4_2 := RG.put_old (μ := RG.ad ([w.heap.size, j1] ++ [])) (its := (F31e2_6i m bs x y y2)) f4_1 (by kernel_rfl)
  have f5_2 := RG.put_old (μ := RG.ad ([w.heap.size, j1] ++ [])) (its := (F31e2_6i m bs x y y2)) f5_1 (by kernel_rfl)
  have f34_2 : (RG.puts (RG.ad ([w.heap.size, j1] ++ [])) (F31e2_6i m bs x y y2) a1).tmps[34]? = some (.bool false) := by have h := RG.put_new (μ := RG.ad ([w.heap.size, j1] ++ [])) (its := (F31e2_6i m bs x y y2)) sl1 1 (by kernel_rfl) rfl rfl rfl; exact h
  generalize RG.puts (RG.ad ([w.heap.size, j1] ++ [])) (F31e2_6i m bs x y y2) a1 = a2 at sl2 f0_2 f2_2 f3_2 f4_2 f5_2 f34_2 ⊢
  repeat refine wp_seq ?_
  refine wp_cond_false (RG.eval_of f34_2) ?_
  refine wp_skip ?_
  repeat refine wp_seq ?_
  refine RG.region_text' (its := F31e2_8i m bs x y y2) (bl := F31e2_8b m bs x y y2) (olds := F31e2_8o m bs x y y2) hS2 (RG.Reg.mk' (by rw [sl2.size]; kernel_rfl) ⟨f4_2, trivial⟩ ⟨?_, ?_, ?_, ?_, ?_, ?_, ?_, ?_, trivial⟩) (by kernel_rfl) (by kernel_rfl) (RG.endB_st (by kernel_rfl)) ?_
  · exact RG.cert_load rfl 1 0 _ rfl rfl (by kernel_rfl) 33 4 rfl (ws x) rfl (fun μ a K => K.old 4 (.p 1 0) (List.Mem.head _) (by kernel_rfl)) (by kernel_rfl) u33 i33
  · exact RG.cert_call1 rfl 70 37 (fv x) (.tuple #[(rv x (0 : Fin P) (1 : Fin P)), (.bool false)]) rfl (fun a w => by kernel_rfl) (fun μ a K => by have h := K.op 37 0 (List.Mem.head _) rfl; exact h) (rat_n_c C x hr)
  · exact RG.cert_move rfl 38 (Or.inl rfl) (fun μ a K => by have h := K.op 38 1 (List.Mem.head _) rfl; exact h)
  · exact RG.cert_extract rfl 36 0 #[(rv x (0 : Fin P) (1 : Fin P)), (.bool false)] (rv x (0 : Fin P) (1 : Fin P)) rfl rfl rfl (fun μ a K => by have h := K.op 36 2 (List.Mem.head _) rfl; exact h)
  · exact RG.cert_extract rfl 36 1 #[(rv x (0 : Fin P) (1 : Fin P)), (.bool false)] (.bool false) rfl rfl rfl (fun μ a K => by have h := K.op 36 2 (List.Mem.head _) rfl; exact h)
  · exact RG.cert_alloc 2 rfl rfl _ rfl 56 rfl (fun w => by kernel_rfl)
  · exact RG.cert_put 2 rfl _ rfl 56 (.tmp 6) (.tmp 39) rfl rfl rfl (fun μ a K => by have h := K.op 6 5 (List.Mem.head _) rfl; exact h) (fun μ a K => by have h := K.op 39 3 (List.Mem.tail _ (List.Mem.head _)) rfl; exact h) i56 rfl
  · exact RG.cert_move rfl 40 (Or.inr rfl) (fun μ a K => by have h := K.op 40 4 (List.Mem.head _) rfl; exact h)
  intro new3 w3 hl3 hS3
  obtain ⟨j3, rfl⟩ := RG.len1 hl3
  clear hl3
  replace hS3 : RG.St w w.heap.size [] [[.int .u64 0, .int .u64 0, .int .u64 0, .int .u64 0, .int .u64 0, .int .u64 0, .int .u64 0, .int .u64 0, .int .u64 0, .int .u64 0, .int .u64 0, .int .u64 0], (ws x), (ws x ++ (ws (0 : Fin P) ++ (ws (1 : Fin P))))] [w.heap.size, j1, j3] w3 := hS3
  have sl3 : RG.Sl (RG.puts (RG.ad ([w.heap.size, j1] ++ [j3])) (F31e2_8i m bs x y y2) a2) 48 := sl2.puts
  have f0_3 := RG.put_old (μ := RG.ad ([w.heap.size, j1] ++ [j3])) (its := (F31e2_8i m bs x y y2)) f0_2 (by kernel_rfl)
  have f2_3 := RG.put_old (μ := RG.ad ([w.heap.size, j1] ++ [j3])) (its := (F31e2_8i m bs x y y2)) f2_2 (by kernel_rfl)
  have f3_3 := RG.put_old (μ := RG.ad ([w.heap.size, j1] ++ [j3])) (its := (F31e2_8i m bs x y y2)) f3_2 (by kernel_rfl)
  have f5_3 : (RG.puts (RG.ad ([w.heap.size, j1] ++ [j3])) (F31e2_8i m bs x y y2) a2).tmps[5]? = some (.bool false) := by have h := RG.put_new (μ := RG.ad ([w.heap.size, j1] ++ [j3])) (its := (F31e2_8i m bs x y y2)) sl2 7 (by kernel_rfl) rfl rfl rfl; exact h
  have f6_3 : (RG.puts (RG.ad ([w.heap.size, j1] ++ [j3])) (F31e2_8i m bs x y y2) a2).tmps[6]? = some (.pointer (some ⟨j3, 0, none⟩)) := by have h := RG.put_new (μ := RG.ad ([w.heap.size, j1] ++ [j3])) (its := (F31e2_8i m bs x y y2)) sl2 5 (by kernel_rfl) rfl rfl rfl; exact h
  generalize RG.puts (RG.ad ([w.heap.size, j1] ++ [j3])) (F31e2_8i m bs x y y2) a2 = a3 at sl3 f0_3 f2_3 f3_3 f5_3 f6_3 ⊢
  repeat refine wp_seq ?_
  refine RG.region_text' (its := F31e2_9i m bs x y y2) (bl := F31e2_9b m bs x y y2) (olds := F31e2_9o m bs x y y2) hS3 (RG.Reg.mk' (by rw [sl3.size]; kernel_rfl) ⟨f0_3, trivial⟩ ⟨?_, ?_, ?_, trivial⟩) (by kernel_rfl) (by kernel_rfl) (RG.endB_st (by kernel_rfl)) ?_
  · exact RG.cert_move rfl 0 (Or.inl rfl) (fun μ a K => K.old 0 (.v (.string ⟨bs⟩)) (List.Mem.head _) (by kernel_rfl))
  · exact RG.cert_index rfl 9 41 (.int .i64 0) (.string ⟨bs⟩) (.int .u8 2) rfl rfl (fun μ a K => by have h := K.op 41 0 (List.Mem.head _) rfl; exact h) (ixS bs hs 2 hm)
  · exact RG.cert_binc rfl .eql 5 5 42 (.int .u8 2) (.int .u8 3) (.bool false) rfl rfl (fun μ a K => by have h := K.op 42 1 (List.Mem.head _) rfl; exact h) (fun w => by kernel_rfl) (fun w => by kernel_rfl)
  intro new4 w4 hl4 hS4
  obtain rfl := RG.len0 hl4
  replace hS4 : RG.St w w.heap.size [] [[.int .u64 0, .int .u64 0, .int .u64 0, .int .u64 0, .int .u64 0, .int .u64 0, .int .u64 0, .int .u64 0, .int .u64 0, .int .u64 0, .int .u64 0, .int .u64 0], (ws x), (ws x ++ (ws (0 : Fin P) ++ (ws (1 : Fin P))))] [w.heap.size, j1, j3] w4 := hS4
  have sl4 : RG.Sl (RG.puts (RG.ad ([w.heap.size, j1, j3] ++ [])) (F31e2_9i m bs x y y2) a3) 48 := sl3.puts
  have f2_4 := RG.put_old (μ := RG.ad ([w.heap.size, j1, j3] ++ [])) (its := (F31e2_9i m bs x y y2)) f2_3 (by kernel_rfl)
  have f3_4 := RG.put_old (μ := RG.ad ([w.heap.size, j1, j3] ++ [])) (its := (F31e2_9i m bs x y y2)) f3_3 (by kernel_rfl)
  have f5_4 := RG.put_old (μ := RG.ad ([w.heap.size, j1, j3] ++ [])) (its := (F31e2_9i m bs x y y2)) f5_3 (by kernel_rfl)
  have f6_4 := RG.put_old (μ := RG.ad ([w.heap.size, j1, j3] ++ [])) (its := (F31e2_9i m bs x y y2)) f6_3 (by kernel_rfl)
  have f43_4 : (RG.puts (RG.ad ([w.heap.size, j1, j3] ++ [])) (F31e2_9i m bs x y y2) a3).tmps[43]? = some (.bool false) := by have h := RG.put_new (μ := RG.ad ([w.heap.size, j1, j3] ++ [])) (its := (F31e2_9i m bs x y y2)) sl3 2 (by kernel_rfl) rfl rfl rfl; exact h
  generalize RG.puts (RG.ad ([w.heap.size, j1, j3] ++ [])) (F31e2_9i m bs x y y2) a3 = a4 at sl4 f2_4 f3_4 f5_4 f6_4 f43_4 ⊢
  repeat refine wp_seq ?_
  refine wp_cond_false (RG.eval_of f43_4) ?_
  refine wp_skip ?_
  repeat refine wp_seq ?_
  refine RG.region_text' (its := F31e2_11i m bs x y y2) (bl := F31e2_11b m bs x y y2) (olds := F31e2_11o m bs x y y2) hS4 (RG.Reg.mk' (by rw [sl4.size]; kernel_rfl) ⟨f6_4, f5_4, f2_4, trivial⟩ ⟨?_, ?_, ?_, ?_, trivial⟩) (by kernel_rfl) (by kernel_rfl) (RG.endB_st (by kernel_rfl)) ?_
  · exact RG.cert_load rfl 2 0 _ rfl rfl (by kernel_rfl) 56 6 rfl (ws x ++ (ws (0 : Fin P) ++ (ws (1 : Fin P)))) rfl (fun μ a K => K.old 6 (.p 2 0) (List.Mem.head _) (by kernel_rfl)) (by kernel_rfl) u56 i56
  · exact RG.cert_move rfl 5 (Or.inl rfl) (fun μ a K => K.old 5 (.v (.bool false)) (List.Mem.tail _ (List.Mem.head _)) (by kernel_rfl))
  · exact RG.cert_put 0 rfl _ rfl 56 (.tmp 2) (.tmp 46) rfl rfl rfl (fun μ a K => K.old 2 (.p 0 0) (List.Mem.tail _ (List.Mem.tail _ (List.Mem.head _))) (by kernel_rfl)) (fun μ a K => by have h := K.op 46 0 (List.Mem.head _) rfl; exact h) i56 rfl
  · exact RG.cert_move rfl 47 (Or.inr rfl) (fun μ a K => by have h := K.op 47 1 (List.Mem.head _) rfl; exact h)
  intro new5 w5 hl5 hS5
  obtain rfl := RG.len0 hl5
  replace hS5 : RG.St w w.heap.size [] [(ws x ++ (ws (0 : Fin P) ++ (ws (1 : Fin P)))), (ws x), (ws x ++ (ws (0 : Fin P) ++ (ws (1 : Fin P))))] [w.heap.size, j1, j3] w5 := hS5
  have sl5 : RG.Sl (RG.puts (RG.ad ([w.heap.size, j1, j3] ++ [])) (F31e2_11i m bs x y y2) a4) 48 := sl4.puts
  have f2_5 := RG.put_old (μ := RG.ad ([w.heap.size, j1, j3] ++ [])) (its := (F31e2_11i m bs x y y2)) f2_4 (by kernel_rfl)
  have f3_5 : (RG.puts (RG.ad ([w.heap.size, j1, j3] ++ [])) (F31e2_11i m bs x y y2) a4).tmps[3]? = some (.bool false) := by have h := RG.put_new (μ := RG.ad ([w.heap.size, j1, j3] ++ [])) (its := (F31e2_11i m bs x y y2)) sl4 3 (by kernel_rfl) rfl rfl rfl; exact h
  generalize RG.puts (RG.ad ([w.heap.size, j1, j3] ++ [])) (F31e2_11i m bs x y y2) a4 = a5 at sl5 f2_5 f3_5 ⊢
  refine wp_ret ?_
  refine bodyPost_ret (v := (.tuple #[(rv x (0 : Fin P) (1 : Fin P)), (.bool false)])) (RG.results_rt hS5 2 3 56 rfl 0 _ rfl f2_5 _ f3_5 u56 i56) sl5.defers ?_
  exact ⟨_, rfl, hS5.bel.below, rfl⟩

def F31f2_5i (m : Nat) (bs : Bs) (x y y2 : Fin P)  : List RG.It := [⟨some 27, [], (.v rv0), .call⟩,
  ⟨some 28, [], (.v (.string ⟨bs⟩)), .stay⟩,
  ⟨some 29, [(28, 1)], (.v (.string ⟨tl33 bs⟩)), .stay⟩,
  ⟨some 30, [(27, 0), (29, 2)], (.v (.tuple #[(fv x), (.bool true)])), .call⟩,
  ⟨some 26, [(30, 3)], (.v (.tuple #[(fv x), (.bool true)])), .stay⟩,
  ⟨some 31, [(26, 4)], (.v (fv x)), .stay⟩,
  ⟨some 32, [(26, 4)], (.v (.bool true)), .stay⟩,
  ⟨some 4, [], (.p 1 0), .make 1⟩,
  ⟨none, [(4, 7), (31, 5)], (.v undef), .put 1⟩,
  ⟨some 5, [(32, 6)], (.v (.bool true)), .stay⟩]
def F31f2_5b (m : Nat) (bs : Bs) (x y y2 : Fin P)  : List RG.Bl := [⟨[.int .u64 0, .int .u64 0, .int .u64 0, .int .u64 0, .int .u64 0, .int .u64 0, .int .u64 0, .int .u64 0, .int .u64 0, .int .u64 0, .int .u64 0, .int .u64 0], [.int .u64 0, .int .u64 0, .int .u64 0, .int .u64 0, .int .u64 0, .int .u64 0, .int .u64 0, .int .u64 0, .int .u64 0, .int .u64 0, .int .u64 0, .int .u64 0], none, none⟩, ⟨[.int .u64 0, .int .u64 0, .int .u64 0, .int .u64 0], (ws x), some 7, some 8⟩]
def F31f2_5o (m : Nat) (bs : Bs) (x y y2 : Fin P)  : List (Tmp × RG.SV) := [(0, (.v (.string ⟨bs⟩)))]
def F31f2_6i (m : Nat) (bs : Bs) (x y y2 : Fin P)  : List RG.It := [⟨some 33, [], (.v (.bool true)), .stay⟩,
  ⟨some 34, [(33, 0)], (.v (.bool false)), .stay⟩]
def F31f2_6b (m : Nat) (bs : Bs) (x y y2 : Fin P)  : List RG.Bl := [⟨[.int .u64 0, .int .u64 0, .int .u64 0, .int .u64 0, .int .u64 0, .int .u64 0, .int .u64 0, .int .u64 0, .int .u64 0, .int .u64 0, .int .u64 0, .int .u64 0], [.int .u64 0, .int .u64 0, .int .u64 0, .int .u64 0, .int .u64 0, .int .u64 0, .int .u64 0, .int .u64 0, .int .u64 0, .int .u64 0, .int .u64 0, .int .u64 0], none, none⟩, ⟨(ws x), (ws x), none, none⟩]
def F31f2_6o (m : Nat) (bs : Bs) (x y y2 : Fin P)  : List (Tmp × RG.SV) := [(5, (.v (.bool true)))]
def F31f2_8i (m : Nat) (bs : Bs) (x y y2 : Fin P)  : List RG.It := [⟨some 37, [], (.v (fv x)), .stay⟩,
  ⟨some 38, [(37, 0)], (.v (.tuple #[(rv x y (1 : Fin P)), (.bool true)])), .call⟩,
  ⟨some 36, [(38, 1)], (.v (.tuple #[(rv x y (1 : Fin P)), (.bool true)])), .stay⟩,
  ⟨some 39, [(36, 2)], (.v (rv x y (1 : Fin P))), .stay⟩,
  ⟨some 40, [(36, 2)], (.v (.bool true)), .stay⟩,
  ⟨some 6, [], (.p 2 0), .make 2⟩,
  ⟨none, [(6, 5), (39, 3)], (.v undef), .put 2⟩,
  ⟨some 5, [(40, 4)], (.v (.bool true)), .stay⟩]
def F31f2_8b (m : Nat) (bs : Bs) (x y y2 : Fin P)  : List RG.Bl := [⟨[.int .u64 0, .int .u64 0, .int .u64 0, .int .u64 0, .int .u64 0, .int .u64 0, .int .u64 0, .int .u64 0, .int .u64 0, .int .u64 0, .int .u64 0, .int .u64 0], [.int .u64 0, .int .u64 0, .int .u64 0, .int .u64 0, .int .u64 0, .int .u64 0, .int .u64 0, .int .u64 0, .int .u64 0, .int .u64 0, .int .u64 0, .int .u64 0], none, none⟩, ⟨(ws x), (ws x), none, none⟩, ⟨[.int .u64 0, .int .u64 0, .int .u64 0, .int .u64 0, .int .u64 0, .int .u64 0, .int .u64 0, .int .u64 0, .int .u64 0, .int .u64 0, .int .u64 0, .int .u64 0], (ws x ++ (ws y ++ (ws (1 : Fin P)))), some 5, some 6⟩]
def F31f2_8o (m : Nat) (bs : Bs) (x y y2 : Fin P)  : List (Tmp × RG.SV) := [(4, (.p 1 0))]
def F31f2_9i (m : Nat) (bs : Bs) (x y y2 : Fin P)  : List RG.It := [⟨some 41, [], (.v (.string ⟨bs⟩)), .stay⟩,
  ⟨some 42, [(41, 0)], (.v (.int .u8 2)), .stay⟩,
  ⟨some 43, [(42, 1)], (.v (.bool false)), .stay⟩]
def F31f2_9b (m : Nat) (bs : Bs) (x y y2 : Fin P)  : List RG.Bl := [⟨[.int .u64 0, .int .u64 0, .int .u64 0, .int .u64 0, .int .u64 0, .int .u64 0, .int .u64 0, .int .u64 0, .int .u64 0, .int .u64 0, .int .u64 0, .int .u64 0], [.int .u64 0, .int .u64 0, .int .u64 0, .int .u64 0, .int .u64 0, .int .u64 0, .int .u64 0, .int .u64 0, .int .u64 0, .int .u64 0, .int .u64 0, .int .u64 0], none, none⟩, ⟨(ws x), (ws x), none, none⟩, ⟨(ws x ++ (ws y ++ (ws (1 : Fin P)))), (ws x ++ (ws y ++ (ws (1 : Fin P)))), none, none⟩]
def F31f2_9o (m : Nat) (bs : Bs) (x y y2 : Fin P)  : List (Tmp × RG.SV) := [(0, (.v (.string ⟨bs⟩)))]
def F31f2_11i (m : Nat) (bs : Bs) (x y y2 : Fin P)  : List RG.It := [⟨some 46, [], (.v (rv x y (1 : Fin P))), .stay⟩,
  ⟨some 47, [], (.v (.bool true)), .stay⟩,
  ⟨none, [(46, 0)], (.v undef), .put 0⟩,
  ⟨some 3, [(47, 1)], (.v (.bool true)), .stay⟩]
def F31f2_11b (m : Nat) (bs : Bs) (x y y2 : Fin P)  : List RG.Bl := [⟨[.int .u64 0, .int .u64 0, .int .u64 0, .int .u64 0, .int .u64 0, .int .u64 0, .int .u64 0, .int .u64 0, .int .u64 0, .int .u64 0, .int .u64 0, .int .u64 0], (ws x ++ (ws y ++ (ws (1 : Fin P)))), none, some 2⟩, ⟨(ws x), (ws x), none, none⟩, ⟨(ws x ++ (ws y ++ (ws (1 : Fin P)))), (ws x ++ (ws y ++ (ws (1 : Fin P)))), none, none⟩]
def F31f2_11o (m : Nat) (bs : Bs) (x y y2 : Fin P)  : List (Tmp × RG.SV) := [(6, (.p 2 0)), (5, (.v (.bool true))), (2, (.p 0 0))]
set_option maxHeartbeats 4000000 in
set_option maxRecDepth 100000 in
theorem rr_some2 (C : Fl3 P) (m : Nat) (bs : Bs) (x y y2 : Fin P) (w : World) (hs : bs.size = 33) (hz : ¬ bs = zs33) (hm : ub bs[0]! = 2) (hx : beV (tl33 bs).toList = x.val) (hr : rt (x * x * x + 7) = some y) : Calls Try.prog 31 #[.string ⟨bs⟩] w (Ret fun e w' => Below w.heap.size w w' ∧ e = .tuple #[rv x y 1, .bool true]) := by
  have hmk := mk33
  have hcv := conv33 w
  have hse := str_ne3 hz
  unfold W5 z12 at hcv
  have hs2 : (⟨bs⟩ : ByteArray).size = 33 := hs
  have hix := ixS bs hs 2 hm
  have hS0 := W5_st w
  unfold W5 z12 at hS0
  go_enter Try.func31, Try.ntmps31
  go_wp2_with fail
  rename_i hK
  clear hmk hcv hse hs2 hix
  generalize (w.alloc _).alloc _ = w0 at hS0 ⊢
  refine RG.mid3 (v0 := .string ⟨bs⟩) (v1 := .pointer (some ⟨w.heap.size, 0, none⟩)) (v2 := .bool false) (n := 48) 0 2 3 rfl rfl rfl rfl rfl ?_
  intro a0 sl0 f0 f2 f3
  repeat refine wp_seq ?_
  refine RG.region_draws' (by kernel_rfl) (its := F31f2_5i m bs x y y2) (bl := F31f2_5b m bs x y y2) (olds := F31f2_5o m bs x y y2) hS0 (RG.Reg.mk' (by rw [sl0.size]; kernel_rfl) ⟨f0, trivial⟩ ⟨?_, ?_, ?_, ?_, ?_, ?_, ?_, ?_, ?_, ?_, trivial⟩) (by kernel_rfl) (by kernel_rfl) (RG.endB_st (by kernel_rfl)) ?_
  · exact RG.cert_call0 rfl 69 rv0 rfl (fun a w => by kernel_rfl) (F3_c)
  · exact RG.cert_move rfl 0 (Or.inl rfl) (fun μ a K => K.old 0 (.v (.string ⟨bs⟩)) (List.Mem.head _) (by kernel_rfl))
  · exact RG.cert_slice1 rfl 9 28 (.int .i64 1) (.string ⟨bs⟩) (.string ⟨tl33 bs⟩) rfl rfl (fun μ a K => by have h := K.op 28 1 (List.Mem.head _) rfl; exact h) (slS bs hs)
  · exact RG.cert_call2 rfl 17 27 29 rv0 (.string ⟨tl33 bs⟩) (.tuple #[(fv x), (.bool true)]) rfl (fun a w => by kernel_rfl) (fun μ a K => by have h := K.op 27 0 (List.Mem.head _) rfl; exact h) (fun μ a K => by have h := K.op 29 2 (List.Mem.tail _ (List.Mem.head _)) rfl; exact h) (rNumber_y C (tl33 bs) (tl33_size hs) hx)
  · exact RG.cert_move rfl 30 (Or.inl rfl) (fun μ a K => by have h := K.op 30 3 (List.Mem.head _) rfl; exact h)
  · exact RG.cert_extract rfl 26 0 #[(fv x), (.bool true)] (fv x) rfl rfl rfl (fun μ a K => by have h := K.op 26 4 (List.Mem.head _) rfl; exact h)
  · exact RG.cert_extract rfl 26 1 #[(fv x), (.bool true)] (.bool true) rfl rfl rfl (fun μ a K => by have h := K.op 26 4 (List.Mem.head _) rfl; exact h)
  · exact RG.cert_alloc 1 rfl rfl _ rfl 33 rfl (fun w => by kernel_rfl)
  · exact RG.cert_put 1 rfl _ rfl 33 (.tmp 4) (.tmp 31) rfl rfl rfl (fun μ a K => by have h := K.op 4 7 (List.Mem.head _) rfl; exact h) (fun μ a K => by have h := K.op 31 5 (List.Mem.tail _ (List.Mem.head _)) rfl; exact h) i33 rfl
  · exact RG.cert_move rfl 32 (Or.inr rfl) (fun μ a K => by have h := K.op 32 6 (List.Mem.head _) rfl; exact h)
  intro new1 w1 hl1 hS1
  obtain ⟨j1, rfl⟩ := RG.len1 hl1
  clear hl1
  replace hS1 : RG.St w w.heap.size [] [[.int .u64 0, .int .u64 0, .int .u64 0, .int .u64 0, .int .u64 0, .int .u64 0, .int .u64 0, .int .u64 0, .int .u64 0, .int .u64 0, .int .u64 0, .int .u64 0], (ws x)] [w.heap.size, j1] w1 := hS1
  have sl1 : RG.Sl (RG.puts (RG.ad ([w.heap.size] ++ [j1])) (F31f2_5i m bs x y y2) a0) 48 := sl0.puts
  have f0_1 := RG.put_old (μ := RG.ad ([w.heap.size] ++ [j1])) (its := (F31f2_5i m bs x y y2)) f0 (by kernel_rfl)
  have f2_1 := RG.put_old (μ := RG.ad ([w.heap.size] ++ [j1])) (its := (F31f2_5i m bs x y y2)) f2 (by kernel_rfl)
  have f3_1 := RG.put_old (μ := RG.ad ([w.heap.size] ++ [j1])) (its := (F31f2_5i m bs x y y2)) f3 (by kernel_rfl)
  have f4_1 : (RG.puts (RG.ad ([w.heap.size] ++ [j1])) (F31f2_5i m bs x y y2) a0).tmps[4]? = some (.pointer (some ⟨j1, 0, none⟩)) := by have h := RG.put_new (μ := RG.ad ([w.heap.size] ++ [j1])) (its := (F31f2_5i m bs x y y2)) sl0 7 (by kernel_rfl) rfl rfl rfl; exact h
  have f5_1 : (RG.puts (RG.ad ([w.heap.size] ++ [j1])) (F31f2_5i m bs x y y2) a0).tmps[5]? = some (.bool true) := by have h := RG.put_new (μ := RG.ad ([w.heap.size] ++ [j1])) (its := (F31f2_5i m bs x y y2)) sl0 9 (by kernel_rfl) rfl rfl rfl; exact h
  generalize RG.puts (RG.ad ([w.heap.size] ++ [j1])) (F31f2_5i m bs x y y2) a0 = a1 at sl1 f0_1 f2_1 f3_1 f4_1 f5_1 ⊢
  refine hK _ _ ?_
  repeat refine wp_seq ?_
  refine RG.region_text' (its := F31f2_6i m bs x y y2) (bl := F31f2_6b m bs x y y2) (olds := F31f2_6o m bs x y y2) hS1 (RG.Reg.mk' (by rw [sl1.size]; kernel_rfl) ⟨f5_1, trivial⟩ ⟨?_, ?_, trivial⟩) (by kernel_rfl) (by kernel_rfl) (RG.endB_st (by kernel_rfl)) ?_
  · exact RG.cert_move rfl 5 (Or.inl rfl) (fun μ a K => K.old 5 (.v (.bool true)) (List.Mem.head _) (by kernel_rfl))
  · exact RG.cert_not rfl 4 33 true rfl rfl (fun μ a K => by have h := K.op 33 0 (List.Mem.head _) rfl; exact h)
  intro new2 w2 hl2 hS2
  obtain rfl := RG.len0 hl2
  replace hS2 : RG.St w w.heap.size [] [[.int .u64 0, .int .u64 0, .int .u64 0, .int .u64 0, .int .u64 0, .int .u64 0, .int .u64 0, .int .u64 0, .int .u64 0, .int .u64 0, .int .u64 0, .int .u64 0], (ws x)] [w.heap.size, j1] w2 := hS2
  have sl2 : RG.Sl (RG.puts (RG.ad ([w.heap.size, j1] ++ [])) (F31f2_6i m bs x y y2) a1) 48 := sl1.puts
  have f0_2 := RG.put_old (μ := RG.ad ([w.heap.size, j1] ++ [])) (its := (F31f2_6i m bs x y y2)) f0_1 (by kernel_rfl)
  have f2_2 := RG.put_old (μ := RG.ad ([w.heap.size, j1] ++ [])) (its := (F31f2_6i m bs x y y2)) f2_1 (by kernel_rfl)
  have f3_2 := RG.put_old (μ := RG.ad ([w.heap.size, j1] ++ [])) (its := (F31f2_6i m bs x y y2)) f3_1 (by kernel_rfl)
  have f4_2 := RG.put_old (μ := RG.ad ([w.heap.size, j1] ++ [])) (its := (F31f2_6i m bs x y y2)) f4_1 (by kernel_rfl)
  have f5_2 := RG.put_old (μ := RG.ad ([w.heap.size, j1] ++ [])) (its := (F31f2_6i m bs x y y2)) f5_1 (by kernel_rfl)
  have f34_2 : (RG.puts (RG.ad ([w.heap.size, j1] ++ [])) (F31f2_6i m bs x y y2) a1).tmps[34]? = some (.bool false) := by have h := RG.put_new (μ := RG.ad ([w.heap.size, j1] ++ [])) (its := (F31f2_6i m bs x y y2)) sl1 1 (by kernel_rfl) rfl rfl rfl; exact h
  generalize RG.puts (RG.ad ([w.heap.size, j1] ++ [])) (F31f2_6i m bs x y y2) a1 = a2 at sl2 f0_2 f2_2 f3_2 f4_2 f5_2 f34_2 ⊢
  repeat refine wp_seq ?_
  refine wp_cond_false (RG.eval_of f34_2) ?_
  refine wp_skip ?_
  repeat refine wp_seq ?_
  refine RG.region_text' (its := F31f2_8i m bs x y y2) (bl := F31f2_8b m bs x y y2) (olds := F31f2_8o m bs x y y2) hS2 (RG.Reg.mk' (by rw [sl2.size]; kernel_rfl) ⟨f4_2, trivial⟩ ⟨?_, ?_, ?_, ?_, ?_, ?_, ?_, ?_, trivial⟩) (by kernel_rfl) (by kernel_rfl) (RG.endB_st (by kernel_rfl)) ?_
  · exact RG.cert_load rfl 1 0 _ rfl rfl (by kernel_rfl) 33 4 rfl (ws x) rfl (fun μ a K => K.old 4 (.p 1 0) (List.Mem.head _) (by kernel_rfl)) (by kernel_rfl) u33 i33
  · exact RG.cert_call1 rfl 70 37 (fv x) (.tuple #[(rv x y (1 : Fin P)), (.bool true)]) rfl (fun a w => by kernel_rfl) (fun μ a K => by have h := K.op 37 0 (List.Mem.head _) rfl; exact h) (rat_y_c C x y hr)
  · exact RG.cert_move rfl 38 (Or.inl rfl) (fun μ a K => by have h := K.op 38 1 (List.Mem.head _) rfl; exact h)
  · exact RG.cert_extract rfl 36 0 #[(rv x y (1 : Fin P)), (.bool true)] (rv x y (1 : Fin P)) rfl rfl rfl (fun μ a K => by have h := K.op 36 2 (List.Mem.head _) rfl; exact h)
  · exact RG.cert_extract rfl 36 1 #[(rv x y (1 : Fin P)), (.bool true)] (.bool true) rfl rfl rfl (fun μ a K => by have h := K.op 36 2 (List.Mem.head _) rfl; exact h)
  · exact RG.cert_alloc 2 rfl rfl _ rfl 56 rfl (fun w => by kernel_rfl)
  · exact RG.cert_put 2 rfl _ rfl 56 (.tmp 6) (.tmp 39) rfl rfl rfl (fun μ a K => by have h := K.op 6 5 (List.Mem.head _) rfl; exact h) (fun μ a K => by have h := K.op 39 3 (List.Mem.tail _ (List.Mem.head _)) rfl; exact h) i56 rfl
  · exact RG.cert_move rfl 40 (Or.inr rfl) (fun μ a K => by have h := K.op 40 4 (List.Mem.head _) rfl; exact h)
  intro new3 w3 hl3 hS3
  obtain ⟨j3, rfl⟩ := RG.len1 hl3
  clear hl3
  replace hS3 : RG.St w w.heap.size [] [[.int .u64 0, .int .u64 0, .int .u64 0, .int .u64 0, .int .u64 0, .int .u64 0, .int .u64 0, .int .u64 0, .int .u64 0, .int .u64 0, .int .u64 0, .int .u64 0], (ws x), (ws x ++ (ws y ++ (ws (1 : Fin P))))] [w.heap.size, j1, j3] w3 := hS3
  have sl3 : RG.Sl (RG.puts (RG.ad ([w.heap.size, j1] ++ [j3])) (F31f2_8i m bs x y y2) a2) 48 := sl2.puts
  have f0_3 := RG.put_old (μ := RG.ad ([w.heap.size, j1] ++ [j3])) (its := (F31f2_8i m bs x y y2)) f0_2 (by kernel_rfl)
  have f2_3 := RG.put_old (μ := RG.ad ([w.heap.size, j1] ++ [j3])) (its := (F31f2_8i m bs x y y2)) f2_2 (by kernel_rfl)
  have f3_3 := RG.put_old (μ := RG.ad ([w.heap.size, j1] ++ [j3])) (its := (F31f2_8i m bs x y y2)) f3_2 (by kernel_rfl)
  have f5_3 : (RG.puts (RG.ad ([w.heap.size, j1] ++ [j3])) (F31f2_8i m bs x y y2) a2).tmps[5]? = some (.bool true) := by have h := RG.put_new (μ := RG.ad ([w.heap.size, j1] ++ [j3])) (its := (F31f2_8i m bs x y y2)) sl2 7 (by kernel_rfl) rfl rfl rfl; exact h
  have f6_3 : (RG.puts (RG.ad ([w.heap.size, j1] ++ [j3])) (F31f2_8i m bs x y y2) a2).tmps[6]? = some (.pointer (some ⟨j3, 0, none⟩)) := by have h := RG.put_new (μ := RG.ad ([w.heap.size, j1] ++ [j3])) (its := (F31f2_8i m bs x y y2)) sl2 5 (by kernel_rfl) rfl rfl rfl; exact h
  generalize RG.puts (RG.ad ([w.heap.size, j1] ++ [j3])) (F31f2_8i m bs x y y2) a2 = a3 at sl3 f0_3 f2_3 f3_3 f5_3 f6_3 ⊢
  repeat refine wp_seq ?_
  refine RG.region_text' (its := F31f2_9i m bs x y y2) (bl := F31f2_9b m bs x y y2) (olds := F31f2_9o m bs x y y2) hS3 (RG.Reg.mk' (by rw [sl3.size]; kernel_rfl) ⟨f0_3, trivial⟩ ⟨?_, ?_, ?_, trivial⟩) (by kernel_rfl) (by kernel_rfl) (RG.endB_st (by kernel_rfl)) ?_
  · exact RG.cert_move rfl 0 (Or.inl rfl) (fun μ a K => K.old 0 (.v (.string ⟨bs⟩)) (List.Mem.head _) (by kernel_rfl))
  · exact RG.cert_index rfl 9 41 (.int .i64 0) (.string ⟨bs⟩) (.int .u8 2) rfl rfl (fun μ a K => by have h := K.op 41 0 (List.Mem.head _) rfl; exact h) (ixS bs hs 2 hm)
  · exact RG.cert_binc rfl .eql 5 5 42 (.int .u8 2) (.int .u8 3) (.bool false) rfl rfl (fun μ a K => by have h := K.op 42 1 (List.Mem.head _) rfl; exact h) (fun w => by kernel_rfl) (fun w => by kernel_rfl)
  intro new4 w4 hl4 hS4
  obtain rfl := RG.len0 hl4
  replace hS4 : RG.St w w.heap.size [] [[.int .u64 0, .int .u64 0, .int .u64 0, .int .u64 0, .int .u64 0, .int .u64 0, .int .u64 0, .int .u64 0, .int .u64 0, .int .u64 0, .int .u64 0, .int .u64 0], (ws x), (ws x ++ (ws y ++ (ws (1 : Fin P))))] [w.heap.size, j1, j3] w4 := hS4
  have sl4 : RG.Sl (RG.puts (RG.ad ([w.heap.size, j1, j3] ++ [])) (F31f2_9i m bs x y y2) a3) 48 := sl3.puts
  have f2_4 := RG.put_old (μ := RG.ad ([w.heap.size, j1, j3] ++ [])) (its := (F31f2_9i m bs x y y2)) f2_3 (by kernel_rfl)
  have f3_4 := RG.put_old (μ := RG.ad ([w.heap.size, j1, j3] ++ [])) (its := (F31f2_9i m bs x y y2)) f3_3 (by kernel_rfl)
  have f5_4 := RG.put_old (μ := RG.ad ([w.heap.size, j1, j3] ++ [])) (its := (F31f2_9i m bs x y y2)) f5_3 (by kernel_rfl)
  have f6_4 := RG.put_old (μ := RG.ad ([w.heap.size, j1, j3] ++ [])) (its := (F31f2_9i m bs x y y2)) f6_3 (by kernel_rfl)
  have f43_4 : (RG.puts (RG.ad ([w.heap.size, j1, j3] ++ [])) (F31f2_9i m bs x y y2) a3).tmps[43]? = some (.bool false) := by have h := RG.put_new (μ := RG.ad ([w.heap.size, j1, j3] ++ [])) (its := (F31f2_9i m bs x y y2)) sl3 2 (by kernel_rfl) rfl rfl rfl; exact h
  generalize RG.puts (RG.ad ([w.heap.size, j1, j3] ++ [])) (F31f2_9i m bs x y y2) a3 = a4 at sl4 f2_4 f3_4 f5_4 f6_4 f43_4 ⊢
  repeat refine wp_seq ?_
  refine wp_cond_false (RG.eval_of f43_4) ?_
  refine wp_skip ?_
  repeat refine wp_seq ?_
  refine RG.region_text' (its := F31f2_11i m bs x y y2) (bl := F31f2_11b m bs x y y2) (olds := F31f2_11o m bs x y y2) hS4 (RG.Reg.mk' (by rw [sl4.size]; kernel_rfl) ⟨f6_4, f5_4, f2_4, trivial⟩ ⟨?_, ?_, ?_, ?_, trivial⟩) (by kernel_rfl) (by kernel_rfl) (RG.endB_st (by kernel_rfl)) ?_
  · exact RG.cert_load rfl 2 0 _ rfl rfl (by kernel_rfl) 56 6 rfl (ws x ++ (ws y ++ (ws (1 : Fin P)))) rfl (fun μ a K => K.old 6 (.p 2 0) (List.Mem.head _) (by kernel_rfl)) (by kernel_rfl) u56 i56
  · exact RG.cert_move rfl 5 (Or.inl rfl) (fun μ a K => K.old 5 (.v (.bool true)) (List.Mem.tail _ (List.Mem.head _)) (by kernel_rfl))
  · exact RG.cert_put 0 rfl _ rfl 56 (.tmp 2) (.tmp 46) rfl rfl rfl (fun μ a K => K.old 2 (.p 0 0) (List.Mem.tail _ (List.Mem.tail _ (List.Mem.head _))) (by kernel_rfl)) (fun μ a K => by have h := K.op 46 0 (List.Mem.head _) rfl; exact h) i56 rfl
  · exact RG.cert_move rfl 47 (Or.inr rfl) (fun μ a K => by have h := K.op 47 1 (List.Mem.head _) rfl; exact h)
  intro new5 w5 hl5 hS5
  obtain rfl := RG.len0 hl5
  replace hS5 : RG.St w w.heap.size [] [(ws x ++ (ws y ++ (ws (1 : Fin P)))), (ws x), (ws x ++ (ws y ++ (ws (1 : Fin P))))] [w.heap.size, j1, j3] w5 := hS5
  have sl5 : RG.Sl (RG.puts (RG.ad ([w.heap.size, j1, j3] ++ [])) (F31f2_11i m bs x y y2) a4) 48 := sl4.puts
  have f2_5 := RG.put_old (μ := RG.ad ([w.heap.size, j1, j3] ++ [])) (its := (F31f2_11i m bs x y y2)) f2_4 (by kernel_rfl)
  have f3_5 : (RG.puts (RG.ad ([w.heap.size, j1, j3] ++ [])) (F31f2_11i m bs x y y2) a4).tmps[3]? = some (.bool true) := by have h := RG.put_new (μ := RG.ad ([w.heap.size, j1, j3] ++ [])) (its := (F31f2_11i m bs x y y2)) sl4 3 (by kernel_rfl) rfl rfl rfl; exact h
  generalize RG.puts (RG.ad ([w.heap.size, j1, j3] ++ [])) (F31f2_11i m bs x y y2) a4 = a5 at sl5 f2_5 f3_5 ⊢
  refine wp_ret ?_
  refine bodyPost_ret (v := (.tuple #[(rv x y (1 : Fin P)), (.bool true)])) (RG.results_rt hS5 2 3 56 rfl 0 _ rfl f2_5 _ f3_5 u56 i56) sl5.defers ?_
  exact ⟨_, rfl, hS5.bel.below, rfl⟩

def F31d3_5i (m : Nat) (bs : Bs) (x y y2 : Fin P)  : List RG.It := [⟨some 27, [], (.v rv0), .call⟩,
  ⟨some 28, [], (.v (.string ⟨bs⟩)), .stay⟩,
  ⟨some 29, [(28, 1)], (.v (.string ⟨tl33 bs⟩)), .stay⟩,
  ⟨some 30, [(27, 0), (29, 2)], (.v (.tuple #[(nv m), (.bool false)])), .call⟩,
  ⟨some 26, [(30, 3)], (.v (.tuple #[(nv m), (.bool false)])), .stay⟩,
  ⟨some 31, [(26, 4)], (.v (nv m)), .stay⟩,
  ⟨some 32, [(26, 4)], (.v (.bool false)), .stay⟩,
  ⟨some 4, [], (.p 1 0), .make 1⟩,
  ⟨none, [(4, 7), (31, 5)], (.v undef), .put 1⟩,
  ⟨some 5, [(32, 6)], (.v (.bool false)), .stay⟩]
def F31d3_5b (m : Nat) (bs : Bs) (x y y2 : Fin P)  : List RG.Bl := [⟨[.int .u64 0, .int .u64 0, .int .u64 0, .int .u64 0, .int .u64 0, .int .u64 0, .int .u64 0, .int .u64 0, .int .u64 0, .int .u64 0, .int .u64 0, .int .u64 0], [.int .u64 0, .int .u64 0, .int .u64 0, .int .u64 0, .int .u64 0, .int .u64 0, .int .u64 0, .int .u64 0, .int .u64 0, .int .u64 0, .int .u64 0, .int .u64 0], none, none⟩, ⟨[.int .u64 0, .int .u64 0, .int .u64 0, .int .u64 0], (wn m), some 7, some 8⟩]
def F31d3_5o (m : Nat) (bs : Bs) (x y y2 : Fin P)  : List (Tmp × RG.SV) := [(0, (.v (.string ⟨bs⟩)))]
def F31d3_6i (m : Nat) (bs : Bs) (x y y2 : Fin P)  : List RG.It := [⟨some 33, [], (.v (.bool false)), .stay⟩,
  ⟨some 34, [(33, 0)], (.v (.bool true)), .stay⟩]
def F31d3_6b (m : Nat) (bs : Bs) (x y y2 : Fin P)  : List RG.Bl := [⟨[.int .u64 0, .int .u64 0, .int .u64 0, .int .u64 0, .int .u64 0, .int .u64 0, .int .u64 0, .int .u64 0, .int .u64 0, .int .u64 0, .int .u64 0, .int .u64 0], [.int .u64 0, .int .u64 0, .int .u64 0, .int .u64 0, .int .u64 0, .int .u64 0, .int .u64 0, .int .u64 0, .int .u64 0, .int .u64 0, .int .u64 0, .int .u64 0], none, none⟩, ⟨(wn m), (wn m), none, none⟩]
def F31d3_6o (m : Nat) (bs : Bs) (x y y2 : Fin P)  : List (Tmp × RG.SV) := [(5, (.v (.bool false)))]
def F31d3_7i (m : Nat) (bs : Bs) (x y y2 : Fin P)  : List RG.It := [⟨some 35, [], (.v (rv (0 : Fin P) (0 : Fin P) (0 : Fin P))), .stay⟩,
  ⟨none, [(35, 0)], (.v undef), .put 0⟩,
  ⟨some 3, [], (.v (.bool false)), .stay⟩]
def F31d3_7b (m : Nat) (bs : Bs) (x y y2 : Fin P)  : List RG.Bl := [⟨[.int .u64 0, .int .u64 0, .int .u64 0, .int .u64 0, .int .u64 0, .int .u64 0, .int .u64 0, .int .u64 0, .int .u64 0, .int .u64 0, .int .u64 0, .int .u64 0], (ws (0 : Fin P) ++ (ws (0 : Fin P) ++ (ws (0 : Fin P)))), none, some 1⟩, ⟨(wn m), (wn m), none, none⟩]
def F31d3_7o (m : Nat) (bs : Bs) (x y y2 : Fin P)  : List (Tmp × RG.SV) := [(2, (.p 0 0))]
set_option maxHeartbeats 4000000 in
set_option maxRecDepth 100000 in
theorem rr_num3 (C : Fl3 P) (m : Nat) (bs : Bs) (x y y2 : Fin P) (w : World) (hs : bs.size = 33) (hz : ¬ bs = zs33) (hm : ub bs[0]! = 3) (hnum : Gives 17 #[rv0, .string ⟨tl33 bs⟩] (.tuple #[nv m, .bool false])) : Calls Try.prog 31 #[.string ⟨bs⟩] w (Ret fun e w' => Below w.heap.size w w' ∧ e = .tuple #[rv (0 : Fin P) 0 0, .bool false]) := by
  have hmk := mk33
  have hcv := conv33 w
  have hse := str_ne3 hz
  unfold W5 z12 at hcv
  have hs2 : (⟨bs⟩ : ByteArray).size = 33 := hs
  have hix := ixS bs hs 3 hm
  have hS0 := W5_st w
  unfold W5 z12 at hS0
  go_enter Try.func31, Try.ntmps31
  go_wp2_with fail
  rename_i hK
  clear hmk hcv hse hs2 hix
  generalize (w.alloc _).alloc _ = w0 at hS0 ⊢
  refine RG.mid3 (v0 := .string ⟨bs⟩) (v1 := .pointer (some ⟨w.heap.size, 0, none⟩)) (v2 := .bool false) (n := 48) 0 2 3 rfl rfl rfl rfl rfl ?_
  intro a0 sl0 f0 f2 f3
  repeat refine wp_seq ?_
  refine RG.region_draws' (by kernel_rfl) (its := F31d3_5i m bs x y y2) (bl := F31d3_5b m bs x y y2) (olds := F31d3_5o m bs x y y2) hS0 (RG.Reg.mk' (by rw [sl0.size]; kernel_rfl) ⟨f0, trivial⟩ ⟨?_, ?_, ?_, ?_, ?_, ?_, ?_, ?_, ?_, ?_, trivial⟩) (by kernel_rfl) (by kernel_rfl) (RG.endB_st (by kernel_rfl)) ?_
  · exact RG.cert_call0 rfl 69 rv0 rfl (fun a w => by kernel_rfl) (F3_c)
  · exact RG.cert_move rfl 0 (Or.inl rfl) (fun μ a K => K.old 0 (.v (.string ⟨bs⟩)) (List.Mem.head _) (by kernel_rfl))
  · exact RG.cert_slice1 rfl 9 28 (.int .i64 1) (.string ⟨bs⟩) (.string ⟨tl33 bs⟩) rfl rfl (fun μ a K => by have h := K.op 28 1 (List.Mem.head _) rfl; exact h) (slS bs hs)
  · exact RG.cert_call2 rfl 17 27 29 rv0 (.string ⟨tl33 bs⟩) (.tuple #[(nv m), (.bool false)]) rfl (fun a w => by kernel_rfl) (fun μ a K => by have h := K.op 27 0 (List.Mem.head _) rfl; exact h) (fun μ a K => by have h := K.op 29 2 (List.Mem.tail _ (List.Mem.head _)) rfl; exact h) (hnum)
  · exact RG.cert_move rfl 30 (Or.inl rfl) (fun μ a K => by have h := K.op 30 3 (List.Mem.head _) rfl; exact h)
  · exact RG.cert_extract rfl 26 0 #[(nv m), (.bool false)] (nv m) rfl rfl rfl (fun μ a K => by have h := K.op 26 4 (List.Mem.head _) rfl; exact h)
  · exact RG.cert_extract rfl 26 1 #[(nv m), (.bool false)] (.bool false) rfl rfl rfl (fun μ a K => by have h := K.op 26 4 (List.Mem.head _) rfl; exact h)
  · exact RG.cert_alloc 1 rfl rfl _ rfl 33 rfl (fun w => by kernel_rfl)
  · exact RG.cert_put 1 rfl _ rfl 33 (.tmp 4) (.tmp 31) rfl rfl rfl (fun μ a K => by have h := K.op 4 7 (List.Mem.head _) rfl; exact h) (fun μ a K => by have h := K.op 31 5 (List.Mem.tail _ (List.Mem.head _)) rfl; exact h) i33 rfl
  · exact RG.cert_move rfl 32 (Or.inr rfl) (fun μ a K => by have h := K.op 32 6 (List.Mem.head _) rfl; exact h)
  intro new1 w1 hl1 hS1
  obtain ⟨j1, rfl⟩ := RG.len1 hl1
  clear hl1
  replace hS1 : RG.St w w.heap.size [] [[.int .u64 0, .int .u64 0, .int .u64 0, .int .u64 0, .int .u64 0, .int .u64 0, .int .u64 0, .int .u64 0, .int .u64 0, .int .u64 0, .int .u64 0, .int .u64 0], (wn m)] [w.heap.size, j1] w1 := hS1
  have sl1 : RG.Sl (RG.puts (RG.ad ([w.heap.size] ++ [j1])) (F31d3_5i m bs x y y2) a0) 48 := sl0.puts
  have f2_1 := RG.put_old (μ := RG.ad ([w.heap.size] ++ [j1])) (its := (F31d3_5i m bs x y y2)) f2 (by kernel_rfl)
  have f3_1 := RG.put_old (μ := RG.ad ([w.heap.size] ++ [j1])) (its := (F31d3_5i m bs x y y2)) f3 (by kernel_rfl)
  have f5_1 : (RG.puts (RG.ad ([w.heap.size] ++ [j1])) (F31d3_5i m bs x y y2) a0).tmps[5]? = some (.bool false) := by have h := RG.put_new (μ := RG.ad ([w.heap.size] ++ [j1])) (its := (F31d3_5i m bs x y y2)) sl0 9 (by kernel_rfl) rfl rfl rfl; exact h
  generalize RG.puts (RG.ad ([w.heap.size] ++ [j1])) (F31d3_5i m bs x y y2) a0 = a1 at sl1 f2_1 f3_1 f5_1 ⊢
  refine hK _ _ ?_
  repeat refine wp_seq ?_
  refine RG.region_text' (its := F31d3_6i m bs x y y2) (bl := F31d3_6b m bs x y y2) (olds := F31d3_6o m bs x y y2) hS1 (RG.Reg.mk' (by rw [sl1.size]; kernel_rfl) ⟨f5_1, trivial⟩ ⟨?_, ?_, trivial⟩) (by kernel_rfl) (by kernel_rfl) (RG.endB_st (by kernel_rfl)) ?_
  · exact RG.cert_move rfl 5 (Or.inl rfl) (fun μ a K => K.old 5 (.v (.bool false)) (List.Mem.head _) (by kernel_rfl))
  · exact RG.cert_not rfl 4 33 false rfl rfl (fun μ a K => by have h := K.op 33 0 (List.Mem.head _) rfl; exact h)
  intro new2 w2 hl2 hS2
  obtain rfl := RG.len0 hl2
  replace hS2 : RG.St w w.heap.size [] [[.int .u64 0, .int .u64 0, .int .u64 0, .int .u64 0, .int .u64 0, .int .u64 0, .int .u64 0, .int .u64 0, .int .u64 0, .int .u64 0, .int .u64 0, .int .u64 0], (wn m)] [w.heap.size, j1] w2 := hS2
  have sl2 : RG.Sl (RG.puts (RG.ad ([w.heap.size, j1] ++ [])) (F31d3_6i m bs x y y2) a1) 48 := sl1.puts
  have f2_2 := RG.put_old (μ := RG.ad ([w.heap.size, j1] ++ [])) (its := (F31d3_6i m bs x y y2)) f2_1 (by kernel_rfl)
  have f3_2 := RG.put_old (μ := RG.ad ([w.heap.size, j1] ++ [])) (its := (F31d3_6i m bs x y y2)) f3_1 (by kernel_rfl)
  have f34_2 : (RG.puts (RG.ad ([w.heap.size, j1] ++ [])) (F31d3_6i m bs x y y2) a1).tmps[34]? = some (.bool true) := by have h := RG.put_new (μ := RG.ad ([w.heap.size, j1] ++ [])) (its := (F31d3_6i m bs x y y2)) sl1 1 (by kernel_rfl) rfl rfl rfl; exact h
  generalize RG.puts (RG.ad ([w.heap.size, j1] ++ [])) (F31d3_6i m bs x y y2) a1 = a2 at sl2 f2_2 f3_2 f34_2 ⊢
  repeat refine wp_seq ?_
  refine wp_cond_true (RG.eval_of f34_2) ?_
  repeat refine wp_seq ?_
  refine RG.region_text' (its := F31d3_7i m bs x y y2) (bl := F31d3_7b m bs x y y2) (olds := F31d3_7o m bs x y y2) hS2 (RG.Reg.mk' (by rw [sl2.size]; kernel_rfl) ⟨f2_2, trivial⟩ ⟨?_, ?_, ?_, trivial⟩) (by kernel_rfl) (by kernel_rfl) (RG.endB_st (by kernel_rfl)) ?_
  · exact RG.cert_stay rfl (fun μ a w _ _ => by rw [show RG.SV.at μ (.v (rv (0 : Fin P) (0 : Fin P) (0 : Fin P))) = (rv (0 : Fin P) (0 : Fin P) (0 : Fin P)) from rfl, ← zero_rv]; kernel_rfl)
  · exact RG.cert_put 0 rfl _ rfl 56 (.tmp 2) (.tmp 35) rfl rfl rfl (fun μ a K => K.old 2 (.p 0 0) (List.Mem.head _) (by kernel_rfl)) (fun μ a K => by have h := K.op 35 0 (List.Mem.head _) rfl; exact h) i56 rfl
  · exact RG.cert_stay rfl (fun μ a w _ _ => by kernel_rfl)
  intro new3 w3 hl3 hS3
  obtain rfl := RG.len0 hl3
  replace hS3 : RG.St w w.heap.size [] [(ws (0 : Fin P) ++ (ws (0 : Fin P) ++ (ws (0 : Fin P)))), (wn m)] [w.heap.size, j1] w3 := hS3
  have sl3 : RG.Sl (RG.puts (RG.ad ([w.heap.size, j1] ++ [])) (F31d3_7i m bs x y y2) a2) 48 := sl2.puts
  have f2_3 := RG.put_old (μ := RG.ad ([w.heap.size, j1] ++ [])) (its := (F31d3_7i m bs x y y2)) f2_2 (by kernel_rfl)
  have f3_3 : (RG.puts (RG.ad ([w.heap.size, j1] ++ [])) (F31d3_7i m bs x y y2) a2).tmps[3]? = some (.bool false) := by have h := RG.put_new (μ := RG.ad ([w.heap.size, j1] ++ [])) (its := (F31d3_7i m bs x y y2)) sl2 2 (by kernel_rfl) rfl rfl rfl; exact h
  generalize RG.puts (RG.ad ([w.heap.size, j1] ++ [])) (F31d3_7i m bs x y y2) a2 = a3 at sl3 f2_3 f3_3 ⊢
  refine wp_ret ?_
  refine bodyPost_ret (v := (.tuple #[(rv (0 : Fin P) (0 : Fin P) (0 : Fin P)), (.bool false)])) (RG.results_rt hS3 2 3 56 rfl 0 _ rfl f2_3 _ f3_3 u56 i56) sl3.defers ?_
  exact ⟨_, rfl, hS3.bel.below, rfl⟩

def F31e3_5i (m : Nat) (bs : Bs) (x y y2 : Fin P)  : List RG.It := [⟨some 27, [], (.v rv0), .call⟩,
  ⟨some 28, [], (.v (.string ⟨bs⟩)), .stay⟩,
  ⟨some 29, [(28, 1)], (.v (.string ⟨tl33 bs⟩)), .stay⟩,
  ⟨some 30, [(27, 0), (29, 2)], (.v (.tuple #[(fv x), (.bool true)])), .call⟩,
  ⟨some 26, [(30, 3)], (.v (.tuple #[(fv x), (.bool true)])), .stay⟩,
  ⟨some 31, [(26, 4)], (.v (fv x)), .stay⟩,
  ⟨some 32, [(26, 4)], (.v (.bool true)), .stay⟩,
  ⟨some 4, [], (.p 1 0), .make 1⟩,
  ⟨none, [(4, 7), (31, 5)], (.v undef), .put 1⟩,
  ⟨some 5, [(32, 6)], (.v (.bool true)), .stay⟩]
def F31e3_5b (m : Nat) (bs : Bs) (x y y2 : Fin P)  : List RG.Bl := [⟨[.int .u64 0, .int .u64 0, .int .u64 0, .int .u64 0, .int .u64 0, .int .u64 0, .int .u64 0, .int .u64 0, .int .u64 0, .int .u64 0, .int .u64 0, .int .u64 0], [.int .u64 0, .int .u64 0, .int .u64 0, .int .u64 0, .int .u64 0, .int .u64 0, .int .u64 0, .int .u64 0, .int .u64 0, .int .u64 0, .int .u64 0, .int .u64 0], none, none⟩, ⟨[.int .u64 0, .int .u64 0, .int .u64 0, .int .u64 0], (ws x), some 7, some 8⟩]
def F31e3_5o (m : Nat) (bs : Bs) (x y y2 : Fin P)  : List (Tmp × RG.SV) := [(0, (.v (.string ⟨bs⟩)))]
def F31e3_6i (m : Nat) (bs : Bs) (x y y2 : Fin P)  : List RG.It := [⟨some 33, [], (.v (.bool true)), .stay⟩,
  ⟨some 34, [(33, 0)], (.v (.bool false)), .stay⟩]
def F31e3_6b (m : Nat) (bs : Bs) (x y y2 : Fin P)  : List RG.Bl := [⟨[.int .u64 0, .int .u64 0, .int .u64 0, .int .u64 0, .int .u64 0, .int .u64 0, .int .u64 0, .int .u64 0, .int .u64 0, .int .u64 0, .int .u64 0, .int .u64 0], [.int .u64 0, .int .u64 0, .int .u64 0, .int .u64 0, .int .u64 0, .int .u64 0, .int .u64 0, .int .u64 0, .int .u64 0, .int .u64 0, .int .u64 0, .int .u64 0], none, none⟩, ⟨(ws x), (ws x), none, none⟩]
def F31e3_6o (m : Nat) (bs : Bs) (x y y2 : Fin P)  : List (Tmp × RG.SV) := [(5, (.v (.bool true)))]
def F31e3_8i (m : Nat) (bs : Bs) (x y y2 : Fin P)  : List RG.It := [⟨some 37, [], (.v (fv x)), .stay⟩,
  ⟨some 38, [(37, 0)], (.v (.tuple #[(rv x (0 : Fin P) (1 : Fin P)), (.bool false)])), .call⟩,
  ⟨some 36, [(38, 1)], (.v (.tuple #[(rv x (0 : Fin P) (1 : Fin P)), (.bool false)])), .stay⟩,
  ⟨some 39, [(36, 2)], (.v (rv x (0 : Fin P) (1 : Fin P))), .stay⟩,
  ⟨some 40, [(36, 2)], (.v (.bool false)), .stay⟩,
  ⟨some 6, [], (.p 2 0), .make 2⟩,
  ⟨none, [(6, 5), (39, 3)], (.v undef), .put 2⟩,
  ⟨some 5, [(40, 4)], (.v (.bool false)), .stay⟩]
def F31e3_8b (m : Nat) (bs : Bs) (x y y2 : Fin P)  : List RG.Bl := [⟨[.int .u64 0, .int .u64 0, .int .u64 0, .int .u64 0, .int .u64 0, .int .u64 0, .int .u64 0, .int .u64 0, .int .u64 0, .int .u64 0, .int .u64 0, .int .u64 0], [.int .u64 0, .int .u64 0, .int .u64 0, .int .u64 0, .int .u64 0, .int .u64 0, .int .u64 0, .int .u64 0, .int .u64 0, .int .u64 0, .int .u64 0, .int .u64 0], none, none⟩, ⟨(ws x), (ws x), none, none⟩, ⟨[.int .u64 0, .int .u64 0, .int .u64 0, .int .u64 0, .int .u64 0, .int .u64 0, .int .u64 0, .int .u64 0, .int .u64 0, .int .u64 0, .int .u64 0, .int .u64 0], (ws x ++ (ws (0 : Fin P) ++ (ws (1 : Fin P)))), some 5, some 6⟩]
def F31e3_8o (m : Nat) (bs : Bs) (x y y2 : Fin P)  : List (Tmp × RG.SV) := [(4, (.p 1 0))]
def F31e3_9i (m : Nat) (bs : Bs) (x y y2 : Fin P)  : List RG.It := [⟨some 41, [], (.v (.string ⟨bs⟩)), .stay⟩,
  ⟨some 42, [(41, 0)], (.v (.int .u8 3)), .stay⟩,
  ⟨some 43, [(42, 1)], (.v (.bool true)), .stay⟩]
def F31e3_9b (m : Nat) (bs : Bs) (x y y2 : Fin P)  : List RG.Bl := [⟨[.int .u64 0, .int .u64 0, .int .u64 0, .int .u64 0, .int .u64 0, .int .u64 0, .int .u64 0, .int .u64 0, .int .u64 0, .int .u64 0, .int .u64 0, .int .u64 0], [.int .u64 0, .int .u64 0, .int .u64 0, .int .u64 0, .int .u64 0, .int .u64 0, .int .u64 0, .int .u64 0, .int .u64 0, .int .u64 0, .int .u64 0, .int .u64 0], none, none⟩, ⟨(ws x), (ws x), none, none⟩, ⟨(ws x ++ (ws (0 : Fin P) ++ (ws (1 : Fin P)))), (ws x ++ (ws (0 : Fin P) ++ (ws (1 : Fin P)))), none, none⟩]
def F31e3_9o (m : Nat) (bs : Bs) (x y y2 : Fin P)  : List (Tmp × RG.SV) := [(0, (.v (.string ⟨bs⟩)))]
def F31e3_10i (m : Nat) (bs : Bs) (x y y2 : Fin P)  : List RG.It := [⟨some 44, [], (.v (rv x (0 : Fin P) (1 : Fin P))), .stay⟩,
  ⟨some 45, [(44, 0)], (.v (rv x y2 (1 : Fin P))), .call⟩,
  ⟨none, [(45, 1)], (.v undef), .put 2⟩]
def F31e3_10b (m : Nat) (bs : Bs) (x y y2 : Fin P)  : List RG.Bl := [⟨[.int .u64 0, .int .u64 0, .int .u64 0, .int .u64 0, .int .u64 0, .int .u64 0, .int .u64 0, .int .u64 0, .int .u64 0, .int .u64 0, .int .u64 0, .int .u64 0], [.int .u64 0, .int .u64 0, .int .u64 0, .int .u64 0, .int .u64 0, .int .u64 0, .int .u64 0, .int .u64 0, .int .u64 0, .int .u64 0, .int .u64 0, .int .u64 0], none, none⟩, ⟨(ws x), (ws x), none, none⟩, ⟨(ws x ++ (ws (0 : Fin P) ++ (ws (1 : Fin P)))), (ws x ++ (ws y2 ++ (ws (1 : Fin P)))), none, some 2⟩]
def F31e3_10o (m : Nat) (bs : Bs) (x y y2 : Fin P)  : List (Tmp × RG.SV) := [(6, (.p 2 0))]
def F31e3_11i (m : Nat) (bs : Bs) (x y y2 : Fin P)  : List RG.It := [⟨some 46, [], (.v (rv x y2 (1 : Fin P))), .stay⟩,
  ⟨some 47, [], (.v (.bool false)), .stay⟩,
  ⟨none, [(46, 0)], (.v undef), .put 0⟩,
  ⟨some 3, [(47, 1)], (.v (.bool false)), .stay⟩]
def F31e3_11b (m : Nat) (bs : Bs) (x y y2 : Fin P)  : List RG.Bl := [⟨[.int .u64 0, .int .u64 0, .int .u64 0, .int .u64 0, .int .u64 0, .int .u64 0, .int .u64 0, .int .u64 0, .int .u64 0, .int .u64 0, .int .u64 0, .int .u64 0], (ws x ++ (ws y2 ++ (ws (1 : Fin P)))), none, some 2⟩, ⟨(ws x), (ws x), none, none⟩, ⟨(ws x ++ (ws y2 ++ (ws (1 : Fin P)))), (ws x ++ (ws y2 ++ (ws (1 : Fin P)))), none, none⟩]
def F31e3_11o (m : Nat) (bs : Bs) (x y y2 : Fin P)  : List (Tmp × RG.SV) := [(6, (.p 2 0)), (5, (.v (.bool false))), (2, (.p 0 0))]
set_option maxHeartbeats 4000000 in
set_option maxRecDepth 100000 in
theorem rr_none3 (C : Fl3 P) (m : Nat) (bs : Bs) (x y y2 : Fin P) (w : World) (hs : bs.size = 33) (hz : ¬ bs = zs33) (hm : ub bs[0]! = 3) (hx : beV (tl33 bs).toList = x.val) (hr : rt (x * x * x + 7) = none) (hy2 : 0 - (0 : Fin P) = y2) : Calls Try.prog 31 #[.string ⟨bs⟩] w (Ret fun e w' => Below w.heap.size w w' ∧ e = .tuple #[rv x y2 1, .bool false]) := by
  have hmk := mk33
  have hcv := conv33 w
  have hse := str_ne3 hz
  unfold W5 z12 at hcv
  have hs2 : (⟨bs⟩ : ByteArray).size = 33 := hs
  have hix := ixS bs hs 3 hm
  have hS0 := W5_st w
  unfold W5 z12 at hS0
  go_enter Try.func31, Try.ntmps31
  go_wp2_with fail
  rename_i hK
  clear hmk hcv hse hs2 hix
  generalize (w.alloc _).alloc _ = w0 at hS0 ⊢
  refine RG.mid3 (v0 := .string ⟨bs⟩) (v1 := .pointer (some ⟨w.heap.size, 0, none⟩)) (v2 := .bool false) (n := 48) 0 2 3 rfl rfl rfl rfl rfl ?_
  intro a0 sl0 f0 f2 f3
  repeat refine wp_seq ?_
  refine RG.region_draws' (by kernel_rfl) (its := F31e3_5i m bs x y y2) (bl := F31e3_5b m bs x y y2) (olds := F31e3_5o m bs x y y2) hS0 (RG.Reg.mk' (by rw [sl0.size]; kernel_rfl) ⟨f0, trivial⟩ ⟨?_, ?_, ?_, ?_, ?_, ?_, ?_, ?_, ?_, ?_, trivial⟩) (by kernel_rfl) (by kernel_rfl) (RG.endB_st (by kernel_rfl)) ?_
  · exact RG.cert_call0 rfl 69 rv0 rfl (fun a w => by kernel_rfl) (F3_c)
  · exact RG.cert_move rfl 0 (Or.inl rfl) (fun μ a K => K.old 0 (.v (.string ⟨bs⟩)) (List.Mem.head _) (by kernel_rfl))
  · exact RG.cert_slice1 rfl 9 28 (.int .i64 1) (.string ⟨bs⟩) (.string ⟨tl33 bs⟩) rfl rfl (fun μ a K => by have h := K.op 28 1 (List.Mem.head _) rfl; exact h) (slS bs hs)
  · exact RG.cert_call2 rfl 17 27 29 rv0 (.string ⟨tl33 bs⟩) (.tuple #[(fv x), (.bool true)]) rfl (fun a w => by kernel_rfl) (fun μ a K => by have h := K.op 27 0 (List.Mem.head _) rfl; exact h) (fun μ a K => by have h := K.op 29 2 (List.Mem.tail _ (List.Mem.head _)) rfl; exact h) (rNumber_y C (tl33 bs) (tl33_size hs) hx)
  · exact RG.cert_move rfl 30 (Or.inl rfl) (fun μ a K => by have h := K.op 30 3 (List.Mem.head _) rfl; exact h)
  · exact RG.cert_extract rfl 26 0 #[(fv x), (.bool true)] (fv x) rfl rfl rfl (fun μ a K => by have h := K.op 26 4 (List.Mem.head _) rfl; exact h)
  · exact RG.cert_extract rfl 26 1 #[(fv x), (.bool true)] (.bool true) rfl rfl rfl (fun μ a K => by have h := K.op 26 4 (List.Mem.head _) rfl; exact h)
  · exact RG.cert_alloc 1 rfl rfl _ rfl 33 rfl (fun w => by kernel_rfl)
  · exact RG.cert_put 1 rfl _ rfl 33 (.tmp 4) (.tmp 31) rfl rfl rfl (fun μ a K => by have h := K.op 4 7 (List.Mem.head _) rfl; exact h) (fun μ a K => by have h := K.op 31 5 (List.Mem.tail _ (List.Mem.head _)) rfl; exact h) i33 rfl
  · exact RG.cert_move rfl 32 (Or.inr rfl) (fun μ a K => by have h := K.op 32 6 (List.Mem.head _) rfl; exact h)
  intro new1 w1 hl1 hS1
  obtain ⟨j1, rfl⟩ := RG.len1 hl1
  clear hl1
  replace hS1 : RG.St w w.heap.size [] [[.int .u64 0, .int .u64 0, .int .u64 0, .int .u64 0, .int .u64 0, .int .u64 0, .int .u64 0, .int .u64 0, .int .u64 0, .int .u64 0, .int .u64 0, .int .u64 0], (ws x)] [w.heap.size, j1] w1 := hS1
  have sl1 : RG.Sl (RG.puts (RG.ad ([w.heap.size] ++ [j1])) (F31e3_5i m bs x y y2) a0) 48 := sl0.puts
  have f0_1 := RG.put_old (μ := RG.ad ([w.heap.size] ++ [j1])) (its := (F31e3_5i m bs x y y2)) f0 (by kernel_rfl)
  have f2_1 := RG.put_old (μ := RG.ad ([w.heap.size] ++ [j1])) (its := (F31e3_5i m bs x y y2)) f2 (by kernel_rfl)
  have f3_1 := RG.put_old (μ := RG.ad ([w.heap.size] ++ [j1])) (its := (F31e3_5i m bs x y y2)) f3 (by kernel_rfl)
  have f4_1 : (RG.puts (RG.ad ([w.heap.size] ++ [j1])) (F31e3_5i m bs x y y2) a0).tmps[4]? = some (.pointer (some ⟨j1, 0, none⟩)) := by have h := RG.put_new (μ := RG.ad ([w.heap.size] ++ [j1])) (its := (F31e3_5i m bs x y y2)) sl0 7 (by kernel_rfl) rfl rfl rfl; exact h
  have f5_1 : (RG.puts (RG.ad ([w.heap.size] ++ [j1])) (F31e3_5i m bs x y y2) a0).tmps[5]? = some (.bool true) := by have h := RG.put_new (μ := RG.ad ([w.heap.size] ++ [j1])) (its := (F31e3_5i m bs x y y2)) sl0 9 (by kernel_rfl) rfl rfl rfl; exact h
  generalize RG.puts (RG.ad ([w.heap.size] ++ [j1])) (F31e3_5i m bs x y y2) a0 = a1 at sl1 f0_1 f2_1 f3_1 f4_1 f5_1 ⊢
  refine hK _ _ ?_
  repeat refine wp_seq ?_
  refine RG.region_text' (its := F31e3_6i m bs x y y2) (bl := F31e3_6b m bs x y y2) (olds := F31e3_6o m bs x y y2) hS1 (RG.Reg.mk' (by rw [sl1.size]; kernel_rfl) ⟨f5_1, trivial⟩ ⟨?_, ?_, trivial⟩) (by kernel_rfl) (by kernel_rfl) (RG.endB_st (by kernel_rfl)) ?_
  · exact RG.cert_move rfl 5 (Or.inl rfl) (fun μ a K => K.old 5 (.v (.bool true)) (List.Mem.head _) (by kernel_rfl))
  · exact RG.cert_not rfl 4 33 true rfl rfl (fun μ a K => by have h := K.op 33 0 (List.Mem.head _) rfl; exact h)
  intro new2 w2 hl2 hS2
  obtain rfl := RG.len0 hl2
  replace hS2 : RG.St w w.heap.size [] [[.int .u64 0, .int .u64 0, .int .u64 0, .int .u64 0, .int .u64 0, .int .u64 0, .int .u64 0, .int .u64 0, .int .u64 0, .int .u64 0, .int .u64 0, .int .u64 0], (ws x)] [w.heap.size, j1] w2 := hS2
  have sl2 : RG.Sl (RG.puts (RG.ad ([w.heap.size, j1] ++ [])) (F31e3_6i m bs x y y2) a1) 48 := sl1.puts
  have f0_2 := RG.put_old (μ := RG.ad ([w.heap.size, j1] ++ [])) (its := (F31e3_6i m bs x y y2)) f0_1 (by kernel_rfl)
  have f2_2 := RG.put_old (μ := RG.ad ([w.heap.size, j1] ++ [])) (its := (F31e3_6i m bs x y y2)) f2_1 (by kernel_rfl)
  have f3_2 := RG.put_old (μ := RG.ad ([w.heap.size, j1] ++ [])) (its := (F31e3_6i m bs x y y2)) f3_1 (by kernel_rfl)
  have f4_2 := RG.put_old (μ := RG.ad ([w.heap.size, j1] ++ [])) (its := (F31e3_6i m bs x y y2)) f4_1 (by kernel_rfl)
  have f5_2 := RG.put_old (μ := RG.ad ([w.heap.size, j1] ++ [])) (its := (F31e3_6i m bs x y y2)) f5_1 (by kernel_rfl)
  have f34_2 : (RG.puts (RG.ad ([w.heap.size, j1] ++ [])) (F31e3_6i m bs x y y2) a1).tmps[34]? = some (.bool false) := by have h := RG.put_new (μ := RG.ad ([w.heap.size, j1] ++ [])) (its := (F31e3_6i m bs x y y2)) sl1 1 (by kernel_rfl) rfl rfl rfl; exact h
  generalize RG.puts (RG.ad ([w.heap.size, j1] ++ [])) (F31e3_6i m bs x y y2) a1 = a2 at sl2 f0_2 f2_2 f3_2 f4_2 f5_2 f34_2 ⊢
  repeat refine wp_seq ?_
  refine wp_cond_false (RG.eval_of f34_2) ?_
  refine wp_skip ?_
  repeat refine wp_seq ?_
  refine RG.region_text' (its := F31e3_8i m bs x y y2) (bl := F31e3_8b m bs x y y2) (olds := F31e3_8o m bs x y y2) hS2 (RG.Reg.mk' (by rw [sl2.size]; kernel_rfl) ⟨f4_2, trivial⟩ ⟨?_, ?_, ?_, ?_, ?_, ?_, ?_, ?_, trivial⟩) (by kernel_rfl) (by kernel_rfl) (RG.endB_st (by kernel_rfl)) ?_
  · exact RG.cert_load rfl 1 0 _ rfl rfl (by kernel_rfl) 33 4 rfl (ws x) rfl (fun μ a K => K.old 4 (.p 1 0) (List.Mem.head _) (by kernel_rfl)) (by kernel_rfl) u33 i33
  · exact RG.cert_call1 rfl 70 37 (fv x) (.tuple #[(rv x (0 : Fin P) (1 : Fin P)), (.bool false)]) rfl (fun a w => by kernel_rfl) (fun μ a K => by have h := K.op 37 0 (List.Mem.head _) rfl; exact h) (rat_n_c C x hr)
  · exact RG.cert_move rfl 38 (Or.inl rfl) (fun μ a K => by have h := K.op 38 1 (List.Mem.head _) rfl; exact h)
  · exact RG.cert_extract rfl 36 0 #[(rv x (0 : Fin P) (1 : Fin P)), (.bool false)] (rv x (0 : Fin P) (1 : Fin P)) rfl rfl rfl (fun μ a K => by have h := K.op 36 2 (List.Mem.head _) rfl; exact h)
  · exact RG.cert_extract rfl 36 1 #[(rv x (0 : Fin P) (1 : Fin P)), (.bool false)] (.bool false) rfl rfl rfl (fun μ a K => by have h := K.op 36 2 (List.Mem.head _) rfl; exact h)
  · exact RG.cert_alloc 2 rfl rfl _ rfl 56 rfl (fun w => by kernel_rfl)
  · exact RG.cert_put 2 rfl _ rfl 56 (.tmp 6) (.tmp 39) rfl rfl rfl (fun μ a K => by have h := K.op 6 5 (List.Mem.head _) rfl; exact h) (fun μ a K => by have h := K.op 39 3 (List.Mem.tail _ (List.Mem.head _)) rfl; exact h) i56 rfl
  · exact RG.cert_move rfl 40 (Or.inr rfl) (fun μ a K => by have h := K.op 40 4 (List.Mem.head _) rfl; exact h)
  intro new3 w3 hl3 hS3
  obtain ⟨j3, rfl⟩ := RG.len1 hl3
  clear hl3
  replace hS3 : RG.St w w.heap.size [] [[.int .u64 0, .int .u64 0, .int .u64 0, .int .u64 0, .int .u64 0, .int .u64 0, .int .u64 0, .int .u64 0, .int .u64 0, .int .u64 0, .int .u64 0, .int .u64 0], (ws x), (ws x ++ (ws (0 : Fin P) ++ (ws (1 : Fin P))))] [w.heap.size, j1, j3] w3 := hS3
  have sl3 : RG.Sl (RG.puts (RG.ad ([w.heap.size, j1] ++ [j3])) (F31e3_8i m bs x y y2) a2) 48 := sl2.puts
  have f0_3 := RG.put_old (μ := RG.ad ([w.heap.size, j1] ++ [j3])) (its := (F31e3_8i m bs x y y2)) f0_2 (by kernel_rfl)
  have f2_3 := RG.put_old (μ := RG.ad ([w.heap.size, j1] ++ [j3])) (its := (F31e3_8i m bs x y y2)) f2_2 (by kernel_rfl)
  have f3_3 := RG.put_old (μ := RG.ad ([w.heap.size, j1] ++ [j3])) (its := (F31e3_8i m bs x y y2)) f3_2 (by kernel_rfl)
  have f5_3 : (RG.puts (RG.ad ([w.heap.size, j1] ++ [j3])) (F31e3_8i m bs x y y2) a2).tmps[5]? = some (.bool false) := by have h := RG.put_new (μ := RG.ad ([w.heap.size, j1] ++ [j3])) (its := (F31e3_8i m bs x y y2)) sl2 7 (by kernel_rfl) rfl rfl rfl; exact h
  have f6_3 : (RG.puts (RG.ad ([w.heap.size, j1] ++ [j3])) (F31e3_8i m bs x y y2) a2).tmps[6]? = some (.pointer (some ⟨j3, 0, none⟩)) := by have h := RG.put_new (μ := RG.ad ([w.heap.size, j1] ++ [j3])) (its := (F31e3_8i m bs x y y2)) sl2 5 (by kernel_rfl) rfl rfl rfl; exact h
  generalize RG.puts (RG.ad ([w.heap.size, j1] ++ [j3])) (F31e3_8i m bs x y y2) a2 = a3 at sl3 f0_3 f2_3 f3_3 f5_3 f6_3 ⊢
  repeat refine wp_seq ?_
  refine RG.region_text' (its := F31e3_9i m bs x y y2) (bl := F31e3_9b m bs x y y2) (olds := F31e3_9o m bs x y y2) hS3 (RG.Reg.mk' (by rw [sl3.size]; kernel_rfl) ⟨f0_3, trivial⟩ ⟨?_, ?_, ?_, trivial⟩) (by kernel_rfl) (by kernel_rfl) (RG.endB_st (by kernel_rfl)) ?_
  · exact RG.cert_move rfl 0 (Or.inl rfl) (fun μ a K => K.old 0 (.v (.string ⟨bs⟩)) (List.Mem.head _) (by kernel_rfl))
  · exact RG.cert_index rfl 9 41 (.int .i64 0) (.string ⟨bs⟩) (.int .u8 3) rfl rfl (fun μ a K => by have h := K.op 41 0 (List.Mem.head _) rfl; exact h) (ixS bs hs 3 hm)
  · exact RG.cert_binc rfl .eql 5 5 42 (.int .u8 3) (.int .u8 3) (.bool true) rfl rfl (fun μ a K => by have h := K.op 42 1 (List.Mem.head _) rfl; exact h) (fun w => by kernel_rfl) (fun w => by kernel_rfl)
  intro new4 w4 hl4 hS4
  obtain rfl := RG.len0 hl4
  replace hS4 : RG.St w w.heap.size [] [[.int .u64 0, .int .u64 0, .int .u64 0, .int .u64 0, .int .u64 0, .int .u64 0, .int .u64 0, .int .u64 0, .int .u64 0, .int .u64 0, .int .u64 0, .int .u64 0], (ws x), (ws x ++ (ws (0 : Fin P) ++ (ws (1 : Fin P))))] [w.heap.size, j1, j3] w4 := hS4
  have sl4 : RG.Sl (RG.puts (RG.ad ([w.heap.size, j1, j3] ++ [])) (F31e3_9i m bs x y y2) a3) 48 := sl3.puts
  have f2_4 := RG.put_old (μ := RG.ad ([w.heap.size, j1, j3] ++ [])) (its := (F31e3_9i m bs x y y2)) f2_3 (by kernel_rfl)
  have f3_4 := RG.put_old (μ := RG.ad ([w.heap.size, j1, j3] ++ [])) (its := (F31e3_9i m bs x y y2)) f3_3 (by kernel_rfl)
  have f5_4 := RG.put_old (μ := RG.ad ([w.heap.size, j1, j3] ++ [])) (its := (F31e3_9i m bs x y y2)) f5_3 (by kernel_rfl)
  have f6_4 := RG.put_old (μ := RG.ad ([w.heap.size, j1, j3] ++ [])) (its := (F31e3_9i m bs x y y2)) f6_3 (by kernel_rfl)
  have f43_4 : (RG.puts (RG.ad ([w.heap.size, j1, j3] ++ [])) (F31e3_9i m bs x y y2) a3).tmps[43]? = some (.bool true) := by have h := RG.put_new (μ := RG.ad ([w.heap.size, j1, j3] ++ [])) (its := (F31e3_9i m bs x y y2)) sl3 2 (by kernel_rfl) rfl rfl rfl; exact h
  generalize RG.puts (RG.ad ([w.heap.size, j1, j3] ++ [])) (F31e3_9i m bs x y y2) a3 = a4 at sl4 f2_4 f3_4 f5_4 f6_4 f43_4 ⊢
  repeat refine wp_seq ?_
  refine wp_cond_true (RG.eval_of f43_4) ?_
  repeat refine wp_seq ?_
  refine RG.region_text' (its := F31e3_10i m bs x y y2) (bl := F31e3_10b m bs x y y2) (olds := F31e3_10o m bs x y y2) hS4 (RG.Reg.mk' (by rw [sl4.size]; kernel_rfl) ⟨f6_4, trivial⟩ ⟨?_, ?_, ?_, trivial⟩) (by kernel_rfl) (by kernel_rfl) (RG.endB_st (by kernel_rfl)) ?_
  · exact RG.cert_load rfl 2 0 _ rfl rfl (by kernel_rfl) 56 6 rfl (ws x ++ (ws (0 : Fin P) ++ (ws (1 : Fin P)))) rfl (fun μ a K => K.old 6 (.p 2 0) (List.Mem.head _) (by kernel_rfl)) (by kernel_rfl) u56 i56
  · exact RG.cert_call1 rfl 37 44 (rv x (0 : Fin P) (1 : Fin P)) (rv x y2 (1 : Fin P)) rfl (fun a w => by kernel_rfl) (fun μ a K => by have h := K.op 44 0 (List.Mem.head _) rfl; exact h) (hy2 ▸ rNeg3_c C x (0 : Fin P) 1)
  · exact RG.cert_put 2 rfl _ rfl 56 (.tmp 6) (.tmp 45) rfl rfl rfl (fun μ a K => K.old 6 (.p 2 0) (List.Mem.head _) (by kernel_rfl)) (fun μ a K => by have h := K.op 45 1 (List.Mem.head _) rfl; exact h) i56 rfl
  intro new5 w5 hl5 hS5
  obtain rfl := RG.len0 hl5
  replace hS5 : RG.St w w.heap.size [] [[.int .u64 0, .int .u64 0, .int .u64 0, .int .u64 0, .int .u64 0, .int .u64 0, .int .u64 0, .int .u64 0, .int .u64 0, .int .u64 0, .int .u64 0, .int .u64 0], (ws x), (ws x ++ (ws y2 ++ (ws (1 : Fin P))))] [w.heap.size, j1, j3] w5 := hS5
  have sl5 : RG.Sl (RG.puts (RG.ad ([w.heap.size, j1, j3] ++ [])) (F31e3_10i m bs x y y2) a4) 48 := sl4.puts
  have f2_5 := RG.put_old (μ := RG.ad ([w.heap.size, j1, j3] ++ [])) (its := (F31e3_10i m bs x y y2)) f2_4 (by kernel_rfl)
  have f3_5 := RG.put_old (μ := RG.ad ([w.heap.size, j1, j3] ++ [])) (its := (F31e3_10i m bs x y y2)) f3_4 (by kernel_rfl)
  have f5_5 := RG.put_old (μ := RG.ad ([w.heap.size, j1, j3] ++ [])) (its := (F31e3_10i m bs x y y2)) f5_4 (by kernel_rfl)
  have f6_5 := RG.put_old (μ := RG.ad ([w.heap.size, j1, j3] ++ [])) (its := (F31e3_10i m bs x y y2)) f6_4 (by kernel_rfl)
  generalize RG.puts (RG.ad ([w.heap.size, j1, j3] ++ [])) (F31e3_10i m bs x y y2) a4 = a5 at sl5 f2_5 f3_5 f5_5 f6_5 ⊢
  repeat refine wp_seq ?_
  refine RG.region_text' (its := F31e3_11i m bs x y y2) (bl := F31e3_11b m bs x y y2) (olds := F31e3_11o m bs x y y2) hS5 (RG.Reg.mk' (by rw [sl5.size]; kernel_rfl) ⟨f6_5, f5_5, f2_5, trivial⟩ ⟨?_, ?_, ?_, ?_, trivial⟩) (by kernel_rfl) (by kernel_rfl) (RG.endB_st (by kernel_rfl)) ?_
  · exact RG.cert_load rfl 2 0 _ rfl rfl (by kernel_rfl) 56 6 rfl (ws x ++ (ws y2 ++ (ws (1 : Fin P)))) rfl (fun μ a K => K.old 6 (.p 2 0) (List.Mem.head _) (by kernel_rfl)) (by kernel_rfl) u56 i56
  · exact RG.cert_move rfl 5 (Or.inl rfl) (fun μ a K => K.old 5 (.v (.bool false)) (List.Mem.tail _ (List.Mem.head _)) (by kernel_rfl))
  · exact RG.cert_put 0 rfl _ rfl 56 (.tmp 2) (.tmp 46) rfl rfl rfl (fun μ a K => K.old 2 (.p 0 0) (List.Mem.tail _ (List.Mem.tail _ (List.Mem.head _))) (by kernel_rfl)) (fun μ a K => by have h := K.op 46 0 (List.Mem.head _) rfl; exact h) i56 rfl
  · exact RG.cert_move rfl 47 (Or.inr rfl) (fun μ a K => by have h := K.op 47 1 (List.Mem.head _) rfl; exact h)
  intro new6 w6 hl6 hS6
  obtain rfl := RG.len0 hl6
  replace hS6 : RG.St w w.heap.size [] [(ws x ++ (ws y2 ++ (ws (1 : Fin P)))), (ws x), (ws x ++ (ws y2 ++ (ws (1 : Fin P))))] [w.heap.size, j1, j3] w6 := hS6
  have sl6 : RG.Sl (RG.puts (RG.ad ([w.heap.size, j1, j3] ++ [])) (F31e3_11i m bs x y y2) a5) 48 := sl5.puts
  have f2_6 := RG.put_old (μ := RG.ad ([w.heap.size, j1, j3] ++ [])) (its := (F31e3_11i m bs x y y2)) f2_5 (by kernel_rfl)
  have f3_6 : (RG.puts (RG.ad ([w.heap.size, j1, j3] ++ [])) (F31e3_11i m bs x y y2) a5).tmps[3]? = some (.bool false) := by have h := RG.put_new (μ := RG.ad ([w.heap.size, j1, j3] ++ [])) (its := (F31e3_11i m bs x y y2)) sl5 3 (by kernel_rfl) rfl rfl rfl; exact h
  generalize RG.puts (RG.ad ([w.heap.size, j1, j3] ++ [])) (F31e3_11i m bs x y y2) a5 = a6 at sl6 f2_6 f3_6 ⊢
  refine wp_ret ?_
  refine bodyPost_ret (v := (.tuple #[(rv x y2 (1 : Fin P)), (.bool false)])) (RG.results_rt hS6 2 3 56 rfl 0 _ rfl f2_6 _ f3_6 u56 i56) sl6.defers ?_
  exact ⟨_, rfl, hS6.bel.below, rfl⟩

def F31f3_5i (m : Nat) (bs : Bs) (x y y2 : Fin P)  : List RG.It := [⟨some 27, [], (.v rv0), .call⟩,
  ⟨some 28, [], (.v (.string ⟨bs⟩)), .stay⟩,
  ⟨some 29, [(28, 1)], (.v (.string ⟨tl33 bs⟩)), .stay⟩,
  ⟨some 30, [(27, 0), (29, 2)], (.v (.tuple #[(fv x), (.bool true)])), .call⟩,
  ⟨some 26, [(30, 3)], (.v (.tuple #[(fv x), (.bool true)])), .stay⟩,
  ⟨some 31, [(26, 4)], (.v (fv x)), .stay⟩,
  ⟨some 32, [(26, 4)], (.v (.bool true)), .stay⟩,
  ⟨some 4, [], (.p 1 0), .make 1⟩,
  ⟨none, [(4, 7), (31, 5)], (.v undef), .put 1⟩,
  ⟨some 5, [(32, 6)], (.v (.bool true)), .stay⟩]
def F31f3_5b (m : Nat) (bs : Bs) (x y y2 : Fin P)  : List RG.Bl := [⟨[.int .u64 0, .int .u64 0, .int .u64 0, .int .u64 0, .int .u64 0, .int .u64 0, .int .u64 0, .int .u64 0, .int .u64 0, .int .u64 0, .int .u64 0, .int .u64 0], [.int .u64 0, .int .u64 0, .int .u64 0, .int .u64 0, .int .u64 0, .int .u64 0, .int .u64 0, .int .u64 0, .int .u64 0, .int .u64 0, .int .u64 0, .int .u64 0], none, none⟩, ⟨[.int .u64 0, .int .u64 0, .int .u64 0, .int .u64 0], (ws x), some 7, some 8⟩]
def F31f3_5o (m : Nat) (bs : Bs) (x y y2 : Fin P)  : List (Tmp × RG.SV) := [(0, (.v (.string ⟨bs⟩)))]
def F31f3_6i (m : Nat) (bs : Bs) (x y y2 : Fin P)  : List RG.It := [⟨some 33, [], (.v (.bool true)), .stay⟩,
  ⟨some 34, [(33, 0)], (.v (.bool false)), .stay⟩]
def F31f3_6b (m : Nat) (bs : Bs) (x y y2 : Fin P)  : List RG.Bl := [⟨[.int .u64 0, .int .u64 0, .int .u64 0, .int .u64 0, .int .u64 0, .int .u64 0, .int .u64 0, .int .u64 0, .int .u64 0, .int .u64 0, .int .u64 0, .int .u64 0], [.int .u64 0, .int .u64 0, .int .u64 0, .int .u64 0, .int .u64 0, .int .u64 0, .int .u64 0, .int .u64 0, .int .u64 0, .int .u64 0, .int .u64 0, .int .u64 0], none, none⟩, ⟨(ws x), (ws x), none, none⟩]
def F31f3_6o (m : Nat) (bs : Bs) (x y y2 : Fin P)  : List (Tmp × RG.SV) := [(5, (.v (.bool true)))]
def F31f3_8i (m : Nat) (bs : Bs) (x y y2 : Fin P)  : List RG.It := [⟨some 37, [], (.v (fv x)), .stay⟩,
  ⟨some 38, [(37, 0)], (.v (.tuple #[(rv x y (1 : Fin P)), (.bool true)])), .call⟩,
  ⟨some 36, [(38, 1)], (.v (.tuple #[(rv x y (1 : Fin P)), (.bool true)])), .stay⟩,
  ⟨some 39, [(36, 2)], (.v (rv x y (1 : Fin P))), .stay⟩,
  ⟨some 40, [(36, 2)], (.v (.bool true)), .stay⟩,
  ⟨some 6, [], (.p 2 0), .make 2⟩,
  ⟨none, [(6, 5), (39, 3)], (.v undef), .put 2⟩,
  ⟨some 5, [(40, 4)], (.v (.bool true)), .stay⟩]
def F31f3_8b (m : Nat) (bs : Bs) (x y y2 : Fin P)  : List RG.Bl := [⟨[.int .u64 0, .int .u64 0, .int .u64 0, .int .u64 0, .int .u64 0, .int .u64 0, .int .u64 0, .int .u64 0, .int .u64 0, .int .u64 0, .int .u64 0, .int .u64 0], [.int .u64 0, .int .u64 0, .int .u64 0, .int .u64 0, .int .u64 0, .int .u64 0, .int .u64 0, .int .u64 0, .int .u64 0, .int .u64 0, .int .u64 0, .int .u64 0], none, none⟩, ⟨(ws x), (ws x), none, none⟩, ⟨[.int .u64 0, .int .u64 0, .int .u64 0, .int .u64 0, .int .u64 0, .int .u64 0, .int .u64 0, .int .u64 0, .int .u64 0, .int .u64 0, .int .u64 0, .int .u64 0], (ws x ++ (ws y ++ (ws (1 : Fin P)))), some 5, some 6⟩]
def F31f3_8o (m : Nat) (bs : Bs) (x y y2 : Fin P)  : List (Tmp × RG.SV) := [(4, (.p 1 0))]
def F31f3_9i (m : Nat) (bs : Bs) (x y y2 : Fin P)  : List RG.It := [⟨some 41, [], (.v (.string ⟨bs⟩)), .stay⟩,
  ⟨some 42, [(41, 0)], (.v (.int .u8 3)), .stay⟩,
  ⟨some 43, [(42, 1)], (.v (.bool true)), .stay⟩]
def F31f3_9b (m : Nat) (bs : Bs) (x y y2 : Fin P)  : List RG.Bl := [⟨[.int .u64 0, .int .u64 0, .int .u64 0, .int .u64 0, .int .u64 0, .int .u64 0, .int .u64 0, .int .u64 0, .int .u64 0, .int .u64 0, .int .u64 0, .int .u64 0], [.int .u64 0, .int .u64 0, .int .u64 0, .int .u64 0, .int .u64 0, .int .u64 0, .int .u64 0, .int .u64 0, .int .u64 0, .int .u64 0, .int .u64 0, .int .u64 0], none, none⟩, ⟨(ws x), (ws x), none, none⟩, ⟨(ws x ++ (ws y ++ (ws (1 : Fin P)))), (ws x ++ (ws y ++ (ws (1 : Fin P)))), none, none⟩]
def F31f3_9o (m : Nat) (bs : Bs) (x y y2 : Fin P)  : List (Tmp × RG.SV) := [(0, (.v (.string ⟨bs⟩)))]
def F31f3_10i (m : Nat) (bs : Bs) (x y y2 : Fin P)  : List RG.It := [⟨some 44, [], (.v (rv x y (1 : Fin P))), .stay⟩,
  ⟨some 45, [(44, 0)], (.v (rv x y2 (1 : Fin P))), .call⟩,
  ⟨none, [(45, 1)], (.v undef), .put 2⟩]
def F31f3_10b (m : Nat) (bs : Bs) (x y y2 : Fin P)  : List RG.Bl := [⟨[.int .u64 0, .int .u64 0, .int .u64 0, .int .u64 0, .int .u64 0, .int .u64 0, .int .u64 0, .int .u64 0, .int .u64 0, .int .u64 0, .int .u64 0, .int .u64 0], [.int .u64 0, .int .u64 0, .int .u64 0, .int .u64 0, .int .u64 0, .int .u64 0, .int .u64 0, .int .u64 0, .int .u64 0, .int .u64 0, .int .u64 0, .int .u64 0], none, none⟩, ⟨(ws x), (ws x), none, none⟩, ⟨(ws x ++ (ws y ++ (ws (1 : Fin P)))), (ws x ++ (ws y2 ++ (ws (1 : Fin P)))), none, some 2⟩]
def F31f3_10o (m : Nat) (bs : Bs) (x y y2 : Fin P)  : List (Tmp × RG.SV) := [(6, (.p 2 0))]
def F31f3_11i (m : Nat) (bs : Bs) (x y y2 : Fin P)  : List RG.It := [⟨some 46, [], (.v (rv x y2 (1 : Fin P))), .stay⟩,
  ⟨some 47, [], (.v (.bool true)), .stay⟩,
  ⟨none, [(46, 0)], (.v undef), .put 0⟩,
  ⟨some 3, [(47, 1)], (.v (.bool true)), .stay⟩]
def F31f3_11b (m : Nat) (bs : Bs) (x y y2 : Fin P)  : List RG.Bl := [⟨[.int .u64 0, .int .u64 0, .int .u64 0, .int .u64 0, .int .u64 0, .int .u64 0, .int .u64 0, .int .u64 0, .int .u64 0, .int .u64 0, .int .u64 0, .int .u64 0], (ws x ++ (ws y2 ++ (ws (1 : Fin P)))), none, some 2⟩, ⟨(ws x), (ws x), none, none⟩, ⟨(ws x ++ (ws y2 ++ (ws (1 : Fin P)))), (ws x ++ (ws y2 ++ (ws (1 : Fin P)))), none, none⟩]
def F31f3_11o (m : Nat) (bs : Bs) (x y y2 : Fin P)  : List (Tmp × RG.SV) := [(6, (.p 2 0)), (5, (.v (.bool true))), (2, (.p 0 0))]
set_option maxHeartbeats 4000000 in
set_option maxRecDepth 100000 in
theorem rr_some3 (C : Fl3 P) (m : Nat) (bs : Bs) (x y y2 : Fin P) (w : World) (hs : bs.size = 33) (hz : ¬ bs = zs33) (hm : ub bs[0]! = 3) (hx : beV (tl33 bs).toList = x.val) (hr : rt (x * x * x + 7) = some y) (hy2 : 0 - y = y2) : Calls Try.prog 31 #[.string ⟨bs⟩] w (Ret fun e w' => Below w.heap.size w w' ∧ e = .tuple #[rv x y2 1, .bool true]) := by
  have hmk := mk33
  have hcv := conv33 w
  have hse := str_ne3 hz
  unfold W5 z12 at hcv
  have hs2 : (⟨bs⟩ : ByteArray).size = 33 := hs
  have hix := ixS bs hs 3 hm
  have hS0 := W5_st w
  unfold W5 z12 at hS0
  go_enter Try.func31, Try.ntmps31
  go_wp2_with fail
  rename_i hK
  clear hmk hcv hse hs2 hix
  generalize (w.alloc _).alloc _ = w0 at hS0 ⊢
  refine RG.mid3 (v0 := .string ⟨bs⟩) (v1 := .pointer (some ⟨w.heap.size, 0, none⟩)) (v2 := .bool false) (n := 48) 0 2 3 rfl rfl rfl rfl rfl ?_
  intro a0 sl0 f0 f2 f3
  repeat refine wp_seq ?_
  refine RG.region_draws' (by kernel_rfl) (its := F31f3_5i m bs x y y2) (bl := F31f3_5b m bs x y y2) (olds := F31f3_5o m bs x y y2) hS0 (RG.Reg.mk' (by rw [sl0.size]; kernel_rfl) ⟨f0, trivial⟩ ⟨?_, ?_, ?_, ?_, ?_, ?_, ?_, ?_, ?_, ?_, trivial⟩) (by kernel_rfl) (by kernel_rfl) (RG.endB_st (by kernel_rfl)) ?_
  · exact RG.cert_call0 rfl 69 rv0 rfl (fun a w => by kernel_rfl) (F3_c)
  · exact RG.cert_move rfl 0 (Or.inl rfl) (fun μ a K => K.old 0 (.v (.string ⟨bs⟩)) (List.Mem.head _) (by kernel_rfl))
  · exact RG.cert_slice1 rfl 9 28 (.int .i64 1) (.string ⟨bs⟩) (.string ⟨tl33 bs⟩) rfl rfl (fun μ a K => by have h := K.op 28 1 (List.Mem.head _) rfl; exact h) (slS bs hs)
  · exact RG.cert_call2 rfl 17 27 29 rv0 (.string ⟨tl33 bs⟩) (.tuple #[(fv x), (.bool true)]) rfl (fun a w => by kernel_rfl) (fun μ a K => by have h := K.op 27 0 (List.Mem.head _) rfl; exact h) (fun μ a K => by have h := K.op 29 2 (List.Mem.tail _ (List.Mem.head _)) rfl; exact h) (rNumber_y C (tl33 bs) (tl33_size hs) hx)
  · exact RG.cert_move rfl 30 (Or.inl rfl) (fun μ a K => by have h := K.op 30 3 (List.Mem.head _) rfl; exact h)
  · exact RG.cert_extract rfl 26 0 #[(fv x), (.bool true)] (fv x) rfl rfl rfl (fun μ a K => by have h := K.op 26 4 (List.Mem.head _) rfl; exact h)
  · exact RG.cert_extract rfl 26 1 #[(fv x), (.bool true)] (.bool true) rfl rfl rfl (fun μ a K => by have h := K.op 26 4 (List.Mem.head _) rfl; exact h)
  · exact RG.cert_alloc 1 rfl rfl _ rfl 33 rfl (fun w => by kernel_rfl)
  · exact RG.cert_put 1 rfl _ rfl 33 (.tmp 4) (.tmp 31) rfl rfl rfl (fun μ a K => by have h := K.op 4 7 (List.Mem.head _) rfl; exact h) (fun μ a K => by have h := K.op 31 5 (List.Mem.tail _ (List.Mem.head _)) rfl; exact h) i33 rfl
  · exact RG.cert_move rfl 32 (Or.inr rfl) (fun μ a K => by have h := K.op 32 6 (List.Mem.head _) rfl; exact h)
  intro new1 w1 hl1 hS1
  obtain ⟨j1, rfl⟩ := RG.len1 hl1
  clear hl1
  replace hS1 : RG.St w w.heap.size [] [[.int .u64 0, .int .u64 0, .int .u64 0, .int .u64 0, .int .u64 0, .int .u64 0, .int .u64 0, .int .u64 0, .int .u64 0, .int .u64 0, .int .u64 0, .int .u64 0], (ws x)] [w.heap.size, j1] w1 := hS1
  have sl1 : RG.Sl (RG.puts (RG.ad ([w.heap.size] ++ [j1])) (F31f3_5i m bs x y y2) a0) 48 := sl0.puts
  have f0_1 := RG.put_old (μ := RG.ad ([w.heap.size] ++ [j1])) (its := (F31f3_5i m bs x y y2)) f0 (by kernel_rfl)
  have f2_1 := RG.put_old (μ := RG.ad ([w.heap.size] ++ [j1])) (its := (F31f3_5i m bs x y y2)) f2 (by kernel_rfl)
  have f3_1 := RG.put_old (μ := RG.ad ([w.heap.size] ++ [j1])) (its := (F31f3_5i m bs x y y2)) f3 (by kernel_rfl)
  have f4_1 : (RG.puts (RG.ad ([w.heap.size] ++ [j1])) (F31f3_5i m bs x y y2) a0).tmps[4]? = some (.pointer (some ⟨j1, 0, none⟩)) := by have h := RG.put_new (μ := RG.ad ([w.heap.size] ++ [j1])) (its := (F31f3_5i m bs x y y2)) sl0 7 (by kernel_rfl) rfl rfl rfl; exact h
  have f5_1 : (RG.puts (RG.ad ([w.heap.size] ++ [j1])) (F31f3_5i m bs x y y2) a0).tmps[5]? = some (.bool true) := by have h := RG.put_new (μ := RG.ad ([w.heap.size] ++ [j1])) (its := (F31f3_5i m bs x y y2)) sl0 9 (by kernel_rfl) rfl rfl rfl; exact h
  generalize RG.puts (RG.ad ([w.heap.size] ++ [j1])) (F31f3_5i m bs x y y2) a0 = a1 at sl1 f0_1 f2_1 f3_1 f4_1 f5_1 ⊢
  refine hK _ _ ?_
  repeat refine wp_seq ?_
  refine RG.region_text' (its := F31f3_6i m bs x y y2) (bl := F31f3_6b m bs x y y2) (olds := F31f3_6o m bs x y y2) hS1 (RG.Reg.mk' (by rw [sl1.size]; kernel_rfl) ⟨f5_1, trivial⟩ ⟨?_, ?_, trivial⟩) (by kernel_rfl) (by kernel_rfl) (RG.endB_st (by kernel_rfl)) ?_
  · exact RG.cert_move rfl 5 (Or.inl rfl) (fun μ a K => K.old 5 (.v (.bool true)) (List.Mem.head _) (by kernel_rfl))
  · exact RG.cert_not rfl 4 33 true rfl rfl (fun μ a K => by have h := K.op 33 0 (List.Mem.head _) rfl; exact h)
  intro new2 w2 hl2 hS2
  obtain rfl := RG.len0 hl2
  replace hS2 : RG.St w w.heap.size [] [[.int .u64 0, .int .u64 0, .int .u64 0, .int .u64 0, .int .u64 0, .int .u64 0, .int .u64 0, .int .u64 0, .int .u64 0, .int .u64 0, .int .u64 0, .int .u64 0], (ws x)] [w.heap.size, j1] w2 := hS2
  have sl2 : RG.Sl (RG.puts (RG.ad ([w.heap.size, j1] ++ [])) (F31f3_6i m bs x y y2) a1) 48 := sl1.puts
  have f0_2 := RG.put_old (μ := RG.ad ([w.heap.size, j1] ++ [])) (its := (F31f3_6i m bs x y y2)) f0_1 (by kernel_rfl)
  have f2_2 := RG.put_old (μ := RG.ad ([w.heap.size, j1] ++ [])) (its := (F31f3_6i m bs x y y2)) f2_1 (by kernel_rfl)
  have f3_2 := RG.put_old (μ := RG.ad ([w.heap.size, j1] ++ [])) (its := (F31f3_6i m bs x y y2)) f3_1 (by kernel_rfl)
  have f4_2 := RG.put_old (μ := RG.ad ([w.heap.size, j1] ++ [])) (its := (F31f3_6i m bs x y y2)) f4_1 (by kernel_rfl)
  have f5_2 := RG.put_old (μ := RG.ad ([w.heap.size, j1] ++ [])) (its := (F31f3_6i m bs x y y2)) f5_1 (by kernel_rfl)
  have f34_2 : (RG.puts (RG.ad ([w.heap.size, j1] ++ [])) (F31f3_6i m bs x y y2) a1).tmps[34]? = some (.bool false) := by have h := RG.put_new (μ := RG.ad ([w.heap.size, j1] ++ [])) (its := (F31f3_6i m bs x y y2)) sl1 1 (by kernel_rfl) rfl rfl rfl; exact h
  generalize RG.puts (RG.ad ([w.heap.size, j1] ++ [])) (F31f3_6i m bs x y y2) a1 = a2 at sl2 f0_2 f2_2 f3_2 f4_2 f5_2 f34_2 ⊢
  repeat refine wp_seq ?_
  refine wp_cond_false (RG.eval_of f34_2) ?_
  refine wp_skip ?_
  repeat refine wp_seq ?_
  refine RG.region_text' (its := F31f3_8i m bs x y y2) (bl := F31f3_8b m bs x y y2) (olds := F31f3_8o m bs x y y2) hS2 (RG.Reg.mk' (by rw [sl2.size]; kernel_rfl) ⟨f4_2, trivial⟩ ⟨?_, ?_, ?_, ?_, ?_, ?_, ?_, ?_, trivial⟩) (by kernel_rfl) (by kernel_rfl) (RG.endB_st (by kernel_rfl)) ?_
  · exact RG.cert_load rfl 1 0 _ rfl rfl (by kernel_rfl) 33 4 rfl (ws x) rfl (fun μ a K => K.old 4 (.p 1 0) (List.Mem.head _) (by kernel_rfl)) (by kernel_rfl) u33 i33
  · exact RG.cert_call1 rfl 70 37 (fv x) (.tuple #[(rv x y (1 : Fin P)), (.bool true)]) rfl (fun a w => by kernel_rfl) (fun μ a K => by have h := K.op 37 0 (List.Mem.head _) rfl; exact h) (rat_y_c C x y hr)
  · exact RG.cert_move rfl 38 (Or.inl rfl) (fun μ a K => by have h := K.op 38 1 (List.Mem.head _) rfl; exact h)
  · exact RG.cert_extract rfl 36 0 #[(rv x y (1 : Fin P)), (.bool true)] (rv x y (1 : Fin P)) rfl rfl rfl (fun μ a K => by have h := K.op 36 2 (List.Mem.head _) rfl; exact h)
  · exact RG.cert_extract rfl 36 1 #[(rv x y (1 : Fin P)), (.bool true)] (.bool true) rfl rfl rfl (fun μ a K => by have h := K.op 36 2 (List.Mem.head _) rfl; exact h)
  · exact RG.cert_alloc 2 rfl rfl _ rfl 56 rfl (fun w => by kernel_rfl)
  · exact RG.cert_put 2 rfl _ rfl 56 (.tmp 6) (.tmp 39) rfl rfl rfl (fun μ a K => by have h := K.op 6 5 (List.Mem.head _) rfl; exact h) (fun μ a K => by have h := K.op 39 3 (List.Mem.tail _ (List.Mem.head _)) rfl; exact h) i56 rfl
  · exact RG.cert_move rfl 40 (Or.inr rfl) (fun μ a K => by have h := K.op 40 4 (List.Mem.head _) rfl; exact h)
  intro new3 w3 hl3 hS3
  obtain ⟨j3, rfl⟩ := RG.len1 hl3
  clear hl3
  replace hS3 : RG.St w w.heap.size [] [[.int .u64 0, .int .u64 0, .int .u64 0, .int .u64 0, .int .u64 0, .int .u64 0, .int .u64 0, .int .u64 0, .int .u64 0, .int .u64 0, .int .u64 0, .int .u64 0], (ws x), (ws x ++ (ws y ++ (ws (1 : Fin P))))] [w.heap.size, j1, j3] w3 := hS3
  have sl3 : RG.Sl (RG.puts (RG.ad ([w.heap.size, j1] ++ [j3])) (F31f3_8i m bs x y y2) a2) 48 := sl2.puts
  have f0_3 := RG.put_old (μ := RG.ad ([w.heap.size, j1] ++ [j3])) (its := (F31f3_8i m bs x y y2)) f0_2 (by kernel_rfl)
  have f2_3 := RG.put_old (μ := RG.ad ([w.heap.size, j1] ++ [j3])) (its := (F31f3_8i m bs x y y2)) f2_2 (by kernel_rfl)
  have f3_3 := RG.put_old (μ := RG.ad ([w.heap.size, j1] ++ [j3])) (its := (F31f3_8i m bs x y y2)) f3_2 (by kernel_rfl)
  have f5_3 : (RG.puts (RG.ad ([w.heap.size, j1] ++ [j3])) (F31f3_8i m bs x y y2) a2).tmps[5]? = some (.bool true) := by have h := RG.put_new (μ := RG.ad ([w.heap.size, j1] ++ [j3])) (its := (F31f3_8i m bs x y y2)) sl2 7 (by kernel_rfl) rfl rfl rfl; exact h
  have f6_3 : (RG.puts (RG.ad ([w.heap.size, j1] ++ [j3])) (F31f3_8i m bs x y y2) a2).tmps[6]? = some (.pointer (some ⟨j3, 0, none⟩)) := by have h := RG.put_new (μ := RG.ad ([w.heap.size, j1] ++ [j3])) (its := (F31f3_8i m bs x y y2)) sl2 5 (by kernel_rfl) rfl rfl rfl; exact h
  generalize RG.puts (RG.ad ([w.heap.size, j1] ++ [j3])) (F31f3_8i m bs x y y2) a2 = a3 at sl3 f0_3 f2_3 f3_3 f5_3 f6_3 ⊢
  repeat refine wp_seq ?_
  refine RG.region_text' (its := F31f3_9i m bs x y y2) (bl := F31f3_9b m bs x y y2) (olds := F31f3_9o m bs x y y2) hS3 (RG.Reg.mk' (by rw [sl3.size]; kernel_rfl) ⟨f0_3, trivial⟩ ⟨?_, ?_, ?_, trivial⟩) (by kernel_rfl) (by kernel_rfl) (RG.endB_st (by kernel_rfl)) ?_
  · exact RG.cert_move rfl 0 (Or.inl rfl) (fun μ a K => K.old 0 (.v (.string ⟨bs⟩)) (List.Mem.head _) (by kernel_rfl))
  · exact RG.cert_index rfl 9 41 (.int .i64 0) (.string ⟨bs⟩) (.int .u8 3) rfl rfl (fun μ a K => by have h := K.op 41 0 (List.Mem.head _) rfl; exact h) (ixS bs hs 3 hm)
  · exact RG.cert_binc rfl .eql 5 5 42 (.int .u8 3) (.int .u8 3) (.bool true) rfl rfl (fun μ a K => by have h := K.op 42 1 (List.Mem.head _) rfl; exact h) (fun w => by kernel_rfl) (fun w => by kernel_rfl)
  intro new4 w4 hl4 hS4
  obtain rfl := RG.len0 hl4
  replace hS4 : RG.St w w.heap.size [] [[.int .u64 0, .int .u64 0, .int .u64 0, .int .u64 0, .int .u64 0, .int .u64 0, .int .u64 0, .int .u64 0, .int .u64 0, .int .u64 0, .int .u64 0, .int .u64 0], (ws x), (ws x ++ (ws y ++ (ws (1 : Fin P))))] [w.heap.size, j1, j3] w4 := hS4
  have sl4 : RG.Sl (RG.puts (RG.ad ([w.heap.size, j1, j3] ++ [])) (F31f3_9i m bs x y y2) a3) 48 := sl3.puts
  have f2_4 := RG.put_old (μ := RG.ad ([w.heap.size, j1, j3] ++ [])) (its := (F31f3_9i m bs x y y2)) f2_3 (by kernel_rfl)
  have f3_4 := RG.put_old (μ := RG.ad ([w.heap.size, j1, j3] ++ [])) (its := (F31f3_9i m bs x y y2)) f3_3 (by kernel_rfl)
  have f5_4 := RG.put_old (μ := RG.ad ([w.heap.size, j1, j3] ++ [])) (its := (F31f3_9i m bs x y y2)) f5_3 (by kernel_rfl)
  have f6_4 := RG.put_old (μ := RG.ad ([w.heap.size, j1, j3] ++ [])) (its := (F31f3_9i m bs x y y2)) f6_3 (by kernel_rfl)
  have f43_4 : (RG.puts (RG.ad ([w.heap.size, j1, j3] ++ [])) (F31f3_9i m bs x y y2) a3).tmps[43]? = some (.bool true) := by have h := RG.put_new (μ := RG.ad ([w.heap.size, j1, j3] ++ [])) (its := (F31f3_9i m bs x y y2)) sl3 2 (by kernel_rfl) rfl rfl rfl; exact h
  generalize RG.puts (RG.ad ([w.heap.size, j1, j3] ++ [])) (F31f3_9i m bs x y y2) a3 = a4 at sl4 f2_4 f3_4 f5_4 f6_4 f43_4 ⊢
  repeat refine wp_seq ?_
  refine wp_cond_true (RG.eval_of f43_4) ?_
  repeat refine wp_seq ?_
  refine RG.region_text' (its := F31f3_10i m bs x y y2) (bl := F31f3_10b m bs x y y2) (olds := F31f3_10o m bs x y y2) hS4 (RG.Reg.mk' (by rw [sl4.size]; kernel_rfl) ⟨f6_4, trivial⟩ ⟨?_, ?_, ?_, trivial⟩) (by kernel_rfl) (by kernel_rfl) (RG.endB_st (by kernel_rfl)) ?_
  · exact RG.cert_load rfl 2 0 _ rfl rfl (by kernel_rfl) 56 6 rfl (ws x ++ (ws y ++ (ws (1 : Fin P)))) rfl (fun μ a K => K.old 6 (.p 2 0) (List.Mem.head _) (by kernel_rfl)) (by kernel_rfl) u56 i56
  · exact RG.cert_call1 rfl 37 44 (rv x y (1 : Fin P)) (rv x y2 (1 : Fin P)) rfl (fun a w => by kernel_rfl) (fun μ a K => by have h := K.op 44 0 (List.Mem.head _) rfl; exact h) (hy2 ▸ rNeg3_c C x y 1)
  · exact RG.cert_put 2 rfl _ rfl 56 (.tmp 6) (.tmp 45) rfl rfl rfl (fun μ a K => K.old 6 (.p 2 0) (List.Mem.head _) (by kernel_rfl)) (fun μ a K => by have h := K.op 45 1 (List.Mem.head _) rfl; exact h) i56 rfl
  intro new5 w5 hl5 hS5
  obtain rfl := RG.len0 hl5
  replace hS5 : RG.St w w.heap.size [] [[.int .u64 0, .int .u64 0, .int .u64 0, .int .u64 0, .int .u64 0, .int .u64 0, .int .u64 0, .int .u64 0, .int .u64 0, .int .u64 0, .int .u64 0, .int .u64 0], (ws x), (ws x ++ (ws y2 ++ (ws (1 : Fin P))))] [w.heap.size, j1, j3] w5 := hS5
  have sl5 : RG.Sl (RG.puts (RG.ad ([w.heap.size, j1, j3] ++ [])) (F31f3_10i m bs x y y2) a4) 48 := sl4.puts
  have f2_5 := RG.put_old (μ := RG.ad ([w.heap.size, j1, j3] ++ [])) (its := (F31f3_10i m bs x y y2)) f2_4 (by kernel_rfl)
  have f3_5 := RG.put_old (μ := RG.ad ([w.heap.size, j1, j3] ++ [])) (its := (F31f3_10i m bs x y y2)) f3_4 (by kernel_rfl)
  have f5_5 := RG.put_old (μ := RG.ad ([w.heap.size, j1, j3] ++ [])) (its := (F31f3_10i m bs x y y2)) f5_4 (by kernel_rfl)
  have f6_5 := RG.put_old (μ := RG.ad ([w.heap.size, j1, j3] ++ [])) (its := (F31f3_10i m bs x y y2)) f6_4 (by kernel_rfl)
  generalize RG.puts (RG.ad ([w.heap.size, j1, j3] ++ [])) (F31f3_10i m bs x y y2) a4 = a5 at sl5 f2_5 f3_5 f5_5 f6_5 ⊢
  repeat refine wp_seq ?_
  refine RG.region_text' (its := F31f3_11i m bs x y y2) (bl := F31f3_11b m bs x y y2) (olds := F31f3_11o m bs x y y2) hS5 (RG.Reg.mk' (by rw [sl5.size]; kernel_rfl) ⟨f6_5, f5_5, f2_5, trivial⟩ ⟨?_, ?_, ?_, ?_, trivial⟩) (by kernel_rfl) (by kernel_rfl) (RG.endB_st (by kernel_rfl)) ?_
  · exact RG.cert_load rfl 2 0 _ rfl rfl (by kernel_rfl) 56 6 rfl (ws x ++ (ws y2 ++ (ws (1 : Fin P)))) rfl (fun μ a K => K.old 6 (.p 2 0) (List.Mem.head _) (by kernel_rfl)) (by kernel_rfl) u56 i56
  · exact RG.cert_move rfl 5 (Or.inl rfl) (fun μ a K => K.old 5 (.v (.bool true)) (List.Mem.tail _ (List.Mem.head _)) (by kernel_rfl))
  · exact RG.cert_put 0 rfl _ rfl 56 (.tmp 2) (.tmp 46) rfl rfl rfl (fun μ a K => K.old 2 (.p 0 0) (List.Mem.tail _ (List.Mem.tail _ (List.Mem.head _))) (by kernel_rfl)) (fun μ a K => by have h := K.op 46 0 (List.Mem.head _) rfl; exact h) i56 rfl
  · exact RG.cert_move rfl 47 (Or.inr rfl) (fun μ a K => by have h := K.op 47 1 (List.Mem.head _) rfl; exact h)
  intro new6 w6 hl6 hS6
  obtain rfl := RG.len0 hl6
  replace hS6 : RG.St w w.heap.size [] [(ws x ++ (ws y2 ++ (ws (1 : Fin P)))), (ws x), (ws x ++ (ws y2 ++ (ws (1 : Fin P))))] [w.heap.size, j1, j3] w6 := hS6
  have sl6 : RG.Sl (RG.puts (RG.ad ([w.heap.size, j1, j3] ++ [])) (F31f3_11i m bs x y y2) a5) 48 := sl5.puts
  have f2_6 := RG.put_old (μ := RG.ad ([w.heap.size, j1, j3] ++ [])) (its := (F31f3_11i m bs x y y2)) f2_5 (by kernel_rfl)
  have f3_6 : (RG.puts (RG.ad ([w.heap.size, j1, j3] ++ [])) (F31f3_11i m bs x y y2) a5).tmps[3]? = some (.bool true) := by have h := RG.put_new (μ := RG.ad ([w.heap.size, j1, j3] ++ [])) (its := (F31f3_11i m bs x y y2)) sl5 3 (by kernel_rfl) rfl rfl rfl; exact h
  generalize RG.puts (RG.ad ([w.heap.size, j1, j3] ++ [])) (F31f3_11i m bs x y y2) a5 = a6 at sl6 f2_6 f3_6 ⊢
  refine wp_ret ?_
  refine bodyPost_ret (v := (.tuple #[(rv x y2 (1 : Fin P)), (.bool true)])) (RG.results_rt hS6 2 3 56 rfl 0 _ rfl f2_6 _ f3_6 u56 i56) sl6.defers ?_
  exact ⟨_, rfl, hS6.bel.below, rfl⟩

end Go.Proofs.Ytdeidgbknlmhjab
