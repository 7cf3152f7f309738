import Derived.Deep.RegionHeld3
import Derived.Deep.LoopGhost
import Derived.Lib.LazyBuf
import Derived.Test.YticolhhalbbogaeSS6
set_option linter.unusedVariables false
set_option linter.unusedSimpArgs false
set_option linter.unusedVariables false
set_option linter.unusedSimpArgs false
namespace Go.Proofs.Yticolhhalbbogae
open Go.RowKit Go.Sort Go.Deep
variable {P : Nat} [NeZero P]
def z12 : Array Value := #[.int .u64 0, .int .u64 0, .int .u64 0, .int .u64 0, .int .u64 0, .int .u64 0, .int .u64 0, .int .u64 0, .int .u64 0, .int .u64 0, .int .u64 0, .int .u64 0]
def W5 (w : World) : World := (w.alloc (.cells z12 54)).alloc (.cells (madeCells #[.int .u8 0] 33) 5)
theorem W5_st (w : World) : RG.St w w.heap.size [] [z12.toList] [w.heap.size] (W5 w) := (RG.St.new w z12.toList 54).more (below1 _ _)
theorem conv33 (w : World) : (convert 22 9 (.slice (some ⟨w.heap.size + 1, 0, none⟩) 33 33)).run Try.prog (W5 w) = .ok (.string ⟨zs33⟩) (W5 w) :=
  conv_str Try.prog 22 9 5 slice22 int5 str9 _ _ 0 33 33 _ (made33 w _) (by decide)
theorem str_eq (a : Bs) : ((⟨a⟩ : ByteArray).toList == (⟨a⟩ : ByteArray).toList) = true := by simp
theorem str_ne3 {a b : Bs} (h : ¬ a = b) : ((⟨a⟩ : ByteArray).toList == (⟨b⟩ : ByteArray).toList) = false := by
  rw [ByteArray.toList_eq, ByteArray.toList_eq]
  simp only [beq_eq_false_iff_ne, ne_eq]
  exact fun e => h (Array.toList_inj.1 e)
theorem slS (bs : Bs) (hs : bs.size = 33) (w : World) : (Instr.sliceAt 9 (.string ⟨bs⟩) (some (.int .i64 1)) none none).run Try.prog w = .ok (.string ⟨tl33 bs⟩) w := by
  have h : (⟨bs⟩ : ByteArray).size = 33 := hs
  go_simp
  have h2 : ((⟨bs⟩ : ByteArray).extract 1 33).data = tl33 bs := by rw [ByteArray.data_extract]; rfl
  rw [← h2]
theorem mark_of {bs : Bs} (hs : bs.size = 33) (hp : 0 < (⟨bs⟩ : ByteArray).size) : (((⟨bs⟩ : ByteArray)[0]'hp).toNat : Int) = ub bs[0]! := by
  rw [getElem!_pos bs 0 (by omega)]
  rfl
theorem ixS (bs : Bs) (hs : bs.size = 33) (m : Int) (hm : ub bs[0]! = m) (w : World) : (Instr.index 9 (.string ⟨bs⟩) (.int .i64 0)).run Try.prog w = .ok (.int .u8 m) w := by
  have h : (⟨bs⟩ : ByteArray).size = 33 := hs
  have h2 : ∀ hp, (((⟨bs⟩ : ByteArray)[0]'hp).toNat : Int) = m := fun hp => by rw [mark_of hs, hm]
  go_simp
theorem rNumber_y (C : Fl3 P) (bs : Bs) (hs : bs.size = 32) {x : Fin P} (hx : beV bs.toList = x.val) : Gives 37 #[rv0, .string ⟨bs⟩] (.tuple #[fv x, .bool true]) := fun w =>
  (rNumber_any _ _ _ _ _ _ _ _ P ⟨bs⟩ C.ref w).mono (by
    rintro e w' ⟨v, rfl, hb, a, b, c, d, ok, rfl, h1, h2, h3, -⟩
    cases ok with
    | false => exact absurd ⟨hs, by rw [hx]; exact x.isLt⟩ (h2 rfl)
    | true =>
      have h4 := (h1 rfl).2
      rw [hx] at h4
      refine ⟨_, rfl, hb, ?_⟩
      rw [C.toFld.four x |>.inj h4])
theorem rNumber_n (C : Fl3 P) (bs : Bs) (hs : bs.size = 32) (hx : ¬ beV bs.toList < P) : Gives 37 #[rv0, .string ⟨bs⟩] (.tuple #[nv (beV bs.toList), .bool false]) := fun w =>
  (rNumber_any _ _ _ _ _ _ _ _ P ⟨bs⟩ C.ref w).mono (by
    rintro e w' ⟨v, rfl, hb, a, b, c, d, ok, rfl, h1, h2, h3, -⟩
    cases ok with
    | true => exact absurd (h1 rfl).1.2 hx
    | false =>
      have h4 := h3 hs
      refine ⟨_, rfl, hb, ?_⟩
      rw [h4.nv])
def n12 (P : Nat) [NeZero P] : List Value := ws (0 : Fin P) ++ (ws (1 : Fin P) ++ ws (0 : Fin P))
set_option maxHeartbeats 2000000 in
set_option maxRecDepth 100000 in
theorem rr_zero (C : Fl3 P) (w : World) : Calls Try.prog 23 #[.string ⟨zs33⟩] w (Ret fun e w' => Below w.heap.size w w' ∧ e = .tuple #[rv (0 : Fin P) 1 0, .bool true]) := by
  have hmk := mk33
  have hcv := conv33 w
  have hse := str_eq zs33
  unfold W5 z12 at hcv
  have hN := None_c C
  have hrv : rv (0 : Fin P) 1 0 = .agg (n12 P).toArray := rfl
  rw [hrv] at hN ⊢
  have hln : (n12 P).length = 12 := rfl
  have hone : (n12 P).all (·.oneCell') = true := rfl
  generalize n12 P = N at hN hln hone ⊢
  go_enter Try.func23, Try.ntmps23
  go_wp2_with fail
  refine (hN _).mono ?_
  rintro e w1 ⟨v, rfl, hb, rfl⟩
  obtain ⟨w2, s0, s1, s2, hS⟩ := (RG.St.more (W5_st w) hb).store1 (P := Try.prog) 54 (D := N) hln (by rw [hln]; exact i56) hone
  clear hcv hmk hN hse
  go_wp2
  refine bodyPost_ret (v := .tuple #[.agg N.toArray, .bool true]) (RG.results_rt hS 2 3 54 rfl 0 _ rfl rfl _ rfl u56 (by rw [hln]; exact i56)) rfl ?_
  exact ⟨_, rfl, hS.bel.below, rfl⟩
set_option maxHeartbeats 2000000 in
set_option maxRecDepth 100000 in
theorem rr_len (C : Fl3 P) (bs : Bs) (hs : ¬ bs.size = 33) (w : World) : Calls Try.prog 23 #[.string ⟨bs⟩] w (Ret fun e w' => Below w.heap.size w w' ∧ e = .tuple #[rv (0 : Fin P) 0 0, .bool false]) := by
  have hmk := mk33
  have hcv := conv33 w
  have hse := str_ne3 (a := bs) (b := zs33) (fun h => hs (by rw [h]; rfl))
  unfold W5 z12 at hcv
  have hs2 : ¬ (⟨bs⟩ : ByteArray).size = 33 := hs
  rw [← zero_rv]
  go_enter Try.func23, Try.ntmps23
  go_wp2
  refine bodyPost_ret (v := .tuple #[.agg z12, .bool false]) (RG.results_rt (W5_st w) 2 3 54 rfl 0 _ rfl rfl _ rfl u56 i56) rfl ?_
  exact ⟨_, rfl, (W5_st w).bel.below, rfl⟩
set_option maxHeartbeats 2000000 in
set_option maxRecDepth 100000 in
theorem rr_mark (C : Fl3 P) (bs : Bs) (hs : bs.size = 33) (hz : ¬ bs = zs33) (m : Int) (hm : ub bs[0]! = m) (hm2 : ¬ m = 2) (hm3 : ¬ m = 3) (w : World) : Calls Try.prog 23 #[.string ⟨bs⟩] w (Ret fun e w' => Below w.heap.size w w' ∧ e = .tuple #[rv (0 : Fin P) 0 0, .bool false]) := by
  have hmk := mk33
  have hcv := conv33 w
  have hse := str_ne3 hz
  unfold W5 z12 at hcv
  have hs2 : (⟨bs⟩ : ByteArray).size = 33 := hs
  have hix := ixS bs hs m hm
  have e2 : (m != 2) = true := by simpa using hm2
  have e3 : (m != 3) = true := by simpa using hm3
  rw [← zero_rv]
  go_enter Try.func23, Try.ntmps23
  go_wp2
  refine bodyPost_ret (v := .tuple #[.agg z12, .bool false]) (RG.results_rt (W5_st w) 2 3 54 rfl 0 _ rfl rfl _ rfl u56 i56) rfl ?_
  exact ⟨_, rfl, (W5_st w).bel.below, rfl⟩
end Go.Proofs.Yticolhhalbbogae
namespace Go.Proofs.Yticolhhalbbogae
open Go.RowKit Go.Sort Go.Deep
variable {P : Nat} [NeZero P]
def F31d2_5 (m : Nat) (bs : Bs) (x : Fin P) : List RG.It := [.c 27 [] rv0, .x 28 [] (.string ⟨bs⟩), .x 29 [(28, 1)] (.string ⟨tl33 bs⟩), .c 30 [(27, 0), (29, 2)] (.tuple #[(nv m), (.bool false)]), .x 26 [(30, 3)] (.tuple #[(nv m), (.bool false)]), .x 31 [(26, 4)] (nv m), .x 32 [(26, 4)] (.bool false), .m 4 [] 1, .u [(4, 7), (31, 5)] 1, .x 5 [(32, 6)] (.bool false)]
def F31d2_6 (x : Fin P) : List RG.It := [.x 33 [] (.bool false), .x 34 [(33, 0)] (.bool true)]
def F31d2_7 (x : Fin P) : List RG.It := [.x 35 [] (rv (0 : Fin P) (0 : Fin P) (0 : Fin P)), .u [(35, 0)] 0, .x 3 [] (.bool false)]
set_option maxHeartbeats 4000000 in
set_option maxRecDepth 100000 in
theorem rr_num2 (C : Fl3 P) (m : Nat) (bs : Bs) (x y y2 : Fin P) (w : World) (hs : bs.size = 33) (hz : ¬ bs = zs33) (hm : ub bs[0]! = 2) (hnum : Gives 37 #[rv0, .string ⟨tl33 bs⟩] (.tuple #[nv m, .bool false])) : Calls Try.prog 23 #[.string ⟨bs⟩] w (Ret fun e w' => Below w.heap.size w w' ∧ e = .tuple #[rv (0 : Fin P) 0 0, .bool false]) := by
  have hmk := mk33
  have hcv := conv33 w
  have hse := str_ne3 hz
  unfold W5 z12 at hcv
  have hs2 : (⟨bs⟩ : ByteArray).size = 33 := hs
  have hix := ixS bs hs 2 hm
  have hS0 := W5_st w
  unfold W5 z12 at hS0
  go_enter Try.func23, Try.ntmps23
  go_wp2_with fail
  rename_i hK
  clear hmk hcv hse hs2 hix
  generalize (w.alloc _).alloc _ = w0 at hS0 ⊢
  refine RG.mid3 (v0 := .string ⟨bs⟩) (v1 := .pointer (some ⟨w.heap.size, 0, none⟩)) (v2 := .bool false) (n := 48) 0 2 3 rfl rfl rfl rfl rfl ?_
  intro a0 sl0 f0 f2 f3
  have M0 : RG.M w w.heap.size [] 48 [(RG.z 12)] [w.heap.size] [(0, (.v (.string ⟨bs⟩))), (2, (.p 0 0)), (3, (.v (.bool false)))] a0 _ := ⟨hS0, sl0, ⟨f0, f2, f3, trivial⟩⟩
  repeat refine wp_seq ?_
  refine M0.dr (by kernel_rfl) (F31d2_5 m bs x) [(7, (RG.z 4))] [(1, 8, (wn m))] [(RG.z 12), (wn m)] [(2, (.p 0 0)), (3, (.v (.bool false))), (5, (.v (.bool false)))] (by kernel_rfl) (by kernel_rfl) ⟨RG.cl (F3_c) fun _ _ => by kernel_rfl, RG.st fun _ _ => by kernel_rfl, RG.cert_slice1 rfl 9 28 (.int .i64 1) (.string ⟨bs⟩) (.string ⟨tl33 bs⟩) rfl rfl (RG.sx fun _ => by kernel_rfl) (slS bs hs), RG.cl (hnum) fun _ _ => by kernel_rfl, RG.st fun _ _ => by kernel_rfl, RG.st fun _ _ => by kernel_rfl, RG.st fun _ _ => by kernel_rfl, RG.mk 1 44 fun _ _ => by kernel_rfl, RG.pt i33 (by kernel_rfl), RG.st fun _ _ => by kernel_rfl, trivial⟩ ?_
  intro j1 a1 w1 M1
  refine hK _ _ ?_
  repeat refine wp_seq ?_
  refine M1.tx0 (F31d2_6 x) [(2, (.p 0 0)), (3, (.v (.bool false))), (34, (.v (.bool true)))] (by kernel_rfl) ⟨RG.st fun _ _ => by kernel_rfl, RG.st fun _ _ => by kernel_rfl, trivial⟩ ?_
  intro a2 w2 M2
  repeat refine wp_seq ?_
  refine wp_cond_true (M2.ev (by kernel_rfl)) ?_
  repeat refine wp_seq ?_
  refine M2.tx (F31d2_7 x) [] [(0, 1, (ws (0 : Fin P) ++ (ws (0 : Fin P) ++ (ws (0 : Fin P)))))] [(ws (0 : Fin P) ++ (ws (0 : Fin P) ++ (ws (0 : Fin P)))), (wn m)] [(2, (.p 0 0)), (3, (.v (.bool false)))] (by kernel_rfl) (by kernel_rfl) ⟨RG.se (zero_rv (P := P)) fun _ _ => by kernel_rfl, RG.pt i56 (by kernel_rfl), RG.st fun _ _ => by kernel_rfl, trivial⟩ ?_
  intro a3 w3 M3
  have hS3 : RG.St w w.heap.size [] [(ws (0 : Fin P) ++ (ws (0 : Fin P) ++ (ws (0 : Fin P)))), (wn m)] [w.heap.size, j1] _ := M3.st
  have sl3 := M3.sl
  have f2_3 : a3.tmps[2]? = some (.pointer (some ⟨w.heap.size, 0, none⟩)) := M3.at (s := (.p 0 0)) (by kernel_rfl)
  have f3_3 : a3.tmps[3]? = some (.bool false) := M3.at (s := (.v (.bool false))) (by kernel_rfl)
  refine wp_ret ?_
  refine bodyPost_ret (v := (.tuple #[(rv (0 : Fin P) (0 : Fin P) (0 : Fin P)), (.bool false)])) (RG.results_rt hS3 2 3 54 rfl 0 _ rfl f2_3 _ f3_3 u56 i56) sl3.defers ?_
  exact ⟨_, rfl, hS3.bel.below, rfl⟩
def F31e2_5 (m : Nat) (bs : Bs) (x : Fin P) : List RG.It := [.c 27 [] rv0, .x 28 [] (.string ⟨bs⟩), .x 29 [(28, 1)] (.string ⟨tl33 bs⟩), .c 30 [(27, 0), (29, 2)] (.tuple #[(fv x), (.bool true)]), .x 26 [(30, 3)] (.tuple #[(fv x), (.bool true)]), .x 31 [(26, 4)] (fv x), .x 32 [(26, 4)] (.bool true), .m 4 [] 1, .u [(4, 7), (31, 5)] 1, .x 5 [(32, 6)] (.bool true)]
def F31e2_6 (x : Fin P) : List RG.It := [.x 33 [] (.bool true), .x 34 [(33, 0)] (.bool false)]
def F31e2_8 (m : Nat) (x : Fin P) : List RG.It := [.x 37 [] (fv x), .c 38 [(37, 0)] (.tuple #[(rv x (0 : Fin P) (1 : Fin P)), (.bool false)]), .x 36 [(38, 1)] (.tuple #[(rv x (0 : Fin P) (1 : Fin P)), (.bool false)]), .x 39 [(36, 2)] (rv x (0 : Fin P) (1 : Fin P)), .x 40 [(36, 2)] (.bool false), .m 6 [] 2, .u [(6, 5), (39, 3)] 2, .x 5 [(40, 4)] (.bool false)]
def F31e2_9 (bs : Bs) (x : Fin P) : List RG.It := [.x 41 [] (.string ⟨bs⟩), .x 42 [(41, 0)] (.int .u8 2), .x 43 [(42, 1)] (.bool false)]
def F31e2_11 (x : Fin P) : List RG.It := [.x 46 [] (rv x (0 : Fin P) (1 : Fin P)), .x 47 [] (.bool false), .u [(46, 0)] 0, .x 3 [(47, 1)] (.bool false)]
set_option maxHeartbeats 4000000 in
set_option maxRecDepth 100000 in
theorem rr_none2 (C : Fl3 P) (m : Nat) (bs : Bs) (x y y2 : Fin P) (w : World) (hs : bs.size = 33) (hz : ¬ bs = zs33) (hm : ub bs[0]! = 2) (hx : beV (tl33 bs).toList = x.val) (hr : rt (x * x * x + 7) = none) : Calls Try.prog 23 #[.string ⟨bs⟩] w (Ret fun e w' => Below w.heap.size w w' ∧ e = .tuple #[rv x 0 1, .bool false]) := by
  have hmk := mk33
  have hcv := conv33 w
  have hse := str_ne3 hz
  unfold W5 z12 at hcv
  have hs2 : (⟨bs⟩ : ByteArray).size = 33 := hs
  have hix := ixS bs hs 2 hm
  have hS0 := W5_st w
  unfold W5 z12 at hS0
  go_enter Try.func23, Try.ntmps23
  go_wp2_with fail
  rename_i hK
  clear hmk hcv hse hs2 hix
  generalize (w.alloc _).alloc _ = w0 at hS0 ⊢
  refine RG.mid3 (v0 := .string ⟨bs⟩) (v1 := .pointer (some ⟨w.heap.size, 0, none⟩)) (v2 := .bool false) (n := 48) 0 2 3 rfl rfl rfl rfl rfl ?_
  intro a0 sl0 f0 f2 f3
  have M0 : RG.M w w.heap.size [] 48 [(RG.z 12)] [w.heap.size] [(0, (.v (.string ⟨bs⟩))), (2, (.p 0 0)), (3, (.v (.bool false)))] a0 _ := ⟨hS0, sl0, ⟨f0, f2, f3, trivial⟩⟩
  repeat refine wp_seq ?_
  refine M0.dr (by kernel_rfl) (F31e2_5 m bs x) [(7, (RG.z 4))] [(1, 8, (ws x))] [(RG.z 12), (ws x)] [(0, (.v (.string ⟨bs⟩))), (2, (.p 0 0)), (3, (.v (.bool false))), (4, (.p 1 0)), (5, (.v (.bool true)))] (by kernel_rfl) (by kernel_rfl) ⟨RG.cl (F3_c) fun _ _ => by kernel_rfl, RG.st fun _ _ => by kernel_rfl, RG.cert_slice1 rfl 9 28 (.int .i64 1) (.string ⟨bs⟩) (.string ⟨tl33 bs⟩) rfl rfl (RG.sx fun _ => by kernel_rfl) (slS bs hs), RG.cl (rNumber_y C (tl33 bs) (tl33_size hs) hx) fun _ _ => by kernel_rfl, RG.st fun _ _ => by kernel_rfl, RG.st fun _ _ => by kernel_rfl, RG.st fun _ _ => by kernel_rfl, RG.mk 1 44 fun _ _ => by kernel_rfl, RG.pt i33 (by kernel_rfl), RG.st fun _ _ => by kernel_rfl, trivial⟩ ?_
  intro j1 a1 w1 M1
  refine hK _ _ ?_
  repeat refine wp_seq ?_
  refine M1.tx0 (F31e2_6 x) [(0, (.v (.string ⟨bs⟩))), (2, (.p 0 0)), (3, (.v (.bool false))), (4, (.p 1 0)), (5, (.v (.bool true))), (34, (.v (.bool false)))] (by kernel_rfl) ⟨RG.st fun _ _ => by kernel_rfl, RG.st fun _ _ => by kernel_rfl, trivial⟩ ?_
  intro a2 w2 M2
  repeat refine wp_seq ?_
  refine wp_cond_false (M2.ev (by kernel_rfl)) ?_
  refine wp_skip ?_
  repeat refine wp_seq ?_
  refine M2.tx (F31e2_8 m x) [(5, (RG.z 12))] [(2, 6, (ws x ++ (ws (0 : Fin P) ++ (ws (1 : Fin P)))))] [(RG.z 12), (ws x), (ws x ++ (ws (0 : Fin P) ++ (ws (1 : Fin P))))] [(0, (.v (.string ⟨bs⟩))), (2, (.p 0 0)), (3, (.v (.bool false))), (5, (.v (.bool false))), (6, (.p 2 0))] (by kernel_rfl) (by kernel_rfl) ⟨RG.ld u33 i33 (by kernel_rfl), RG.cl (rat_n_c C x hr) fun _ _ => by kernel_rfl, RG.st fun _ _ => by kernel_rfl, RG.st fun _ _ => by kernel_rfl, RG.st fun _ _ => by kernel_rfl, RG.mk 2 54 fun _ _ => by kernel_rfl, RG.pt i56 (by kernel_rfl), RG.st fun _ _ => by kernel_rfl, trivial⟩ ?_
  intro j3 a3 w3 M3
  repeat refine wp_seq ?_
  refine M3.tx0 (F31e2_9 bs x) [(2, (.p 0 0)), (3, (.v (.bool false))), (5, (.v (.bool false))), (6, (.p 2 0)), (43, (.v (.bool false)))] (by kernel_rfl) ⟨RG.st fun _ _ => by kernel_rfl, RG.cert_index rfl 9 41 (.int .i64 0) (.string ⟨bs⟩) (.int .u8 2) rfl rfl (RG.sx fun _ => by kernel_rfl) (ixS bs hs 2 hm), RG.st fun _ _ => by kernel_rfl, trivial⟩ ?_
  intro a4 w4 M4
  repeat refine wp_seq ?_
  refine wp_cond_false (M4.ev (by kernel_rfl)) ?_
  refine wp_skip ?_
  repeat refine wp_seq ?_
  refine M4.tx (F31e2_11 x) [] [(0, 2, (ws x ++ (ws (0 : Fin P) ++ (ws (1 : Fin P)))))] [(ws x ++ (ws (0 : Fin P) ++ (ws (1 : Fin P)))), (ws x), (ws x ++ (ws (0 : Fin P) ++ (ws (1 : Fin P))))] [(2, (.p 0 0)), (3, (.v (.bool false)))] (by kernel_rfl) (by kernel_rfl) ⟨RG.ld u56 i56 (by kernel_rfl), RG.st fun _ _ => by kernel_rfl, RG.pt i56 (by kernel_rfl), RG.st fun _ _ => by kernel_rfl, trivial⟩ ?_
  intro a5 w5 M5
  have hS5 : RG.St w w.heap.size [] [(ws x ++ (ws (0 : Fin P) ++ (ws (1 : Fin P)))), (ws x), (ws x ++ (ws (0 : Fin P) ++ (ws (1 : Fin P))))] [w.heap.size, j1, j3] _ := M5.st
  have sl5 := M5.sl
  have f2_5 : a5.tmps[2]? = some (.pointer (some ⟨w.heap.size, 0, none⟩)) := M5.at (s := (.p 0 0)) (by kernel_rfl)
  have f3_5 : a5.tmps[3]? = some (.bool false) := M5.at (s := (.v (.bool false))) (by kernel_rfl)
  refine wp_ret ?_
  refine bodyPost_ret (v := (.tuple #[(rv x (0 : Fin P) (1 : Fin P)), (.bool false)])) (RG.results_rt hS5 2 3 54 rfl 0 _ rfl f2_5 _ f3_5 u56 i56) sl5.defers ?_
  exact ⟨_, rfl, hS5.bel.below, rfl⟩
def F31f2_5 (m : Nat) (bs : Bs) (x : Fin P) : List RG.It := [.c 27 [] rv0, .x 28 [] (.string ⟨bs⟩), .x 29 [(28, 1)] (.string ⟨tl33 bs⟩), .c 30 [(27, 0), (29, 2)] (.tuple #[(fv x), (.bool true)]), .x 26 [(30, 3)] (.tuple #[(fv x), (.bool true)]), .x 31 [(26, 4)] (fv x), .x 32 [(26, 4)] (.bool true), .m 4 [] 1, .u [(4, 7), (31, 5)] 1, .x 5 [(32, 6)] (.bool true)]
def F31f2_6 (x : Fin P) : List RG.It := [.x 33 [] (.bool true), .x 34 [(33, 0)] (.bool false)]
def F31f2_8 (m : Nat) (x y : Fin P) : List RG.It := [.x 37 [] (fv x), .c 38 [(37, 0)] (.tuple #[(rv x y (1 : Fin P)), (.bool true)]), .x 36 [(38, 1)] (.tuple #[(rv x y (1 : Fin P)), (.bool true)]), .x 39 [(36, 2)] (rv x y (1 : Fin P)), .x 40 [(36, 2)] (.bool true), .m 6 [] 2, .u [(6, 5), (39, 3)] 2, .x 5 [(40, 4)] (.bool true)]
def F31f2_9 (bs : Bs) (x : Fin P) : List RG.It := [.x 41 [] (.string ⟨bs⟩), .x 42 [(41, 0)] (.int .u8 2), .x 43 [(42, 1)] (.bool false)]
def F31f2_11 (x y : Fin P) : List RG.It := [.x 46 [] (rv x y (1 : Fin P)), .x 47 [] (.bool true), .u [(46, 0)] 0, .x 3 [(47, 1)] (.bool true)]
set_option maxHeartbeats 4000000 in
set_option maxRecDepth 100000 in
theorem rr_some2 (C : Fl3 P) (m : Nat) (bs : Bs) (x y y2 : Fin P) (w : World) (hs : bs.size = 33) (hz : ¬ bs = zs33) (hm : ub bs[0]! = 2) (hx : beV (tl33 bs).toList = x.val) (hr : rt (x * x * x + 7) = some y) : Calls Try.prog 23 #[.string ⟨bs⟩] w (Ret fun e w' => Below w.heap.size w w' ∧ e = .tuple #[rv x y 1, .bool true]) := by
  have hmk := mk33
  have hcv := conv33 w
  have hse := str_ne3 hz
  unfold W5 z12 at hcv
  have hs2 : (⟨bs⟩ : ByteArray).size = 33 := hs
  have hix := ixS bs hs 2 hm
  have hS0 := W5_st w
  unfold W5 z12 at hS0
  go_enter Try.func23, Try.ntmps23
  go_wp2_with fail
  rename_i hK
  clear hmk hcv hse hs2 hix
  generalize (w.alloc _).alloc _ = w0 at hS0 ⊢
  refine RG.mid3 (v0 := .string ⟨bs⟩) (v1 := .pointer (some ⟨w.heap.size, 0, none⟩)) (v2 := .bool false) (n := 48) 0 2 3 rfl rfl rfl rfl rfl ?_
  intro a0 sl0 f0 f2 f3
  have M0 : RG.M w w.heap.size [] 48 [(RG.z 12)] [w.heap.size] [(0, (.v (.string ⟨bs⟩))), (2, (.p 0 0)), (3, (.v (.bool false)))] a0 _ := ⟨hS0, sl0, ⟨f0, f2, f3, trivial⟩⟩
  repeat refine wp_seq ?_
  refine M0.dr (by kernel_rfl) (F31f2_5 m bs x) [(7, (RG.z 4))] [(1, 8, (ws x))] [(RG.z 12), (ws x)] [(0, (.v (.string ⟨bs⟩))), (2, (.p 0 0)), (3, (.v (.bool false))), (4, (.p 1 0)), (5, (.v (.bool true)))] (by kernel_rfl) (by kernel_rfl) ⟨RG.cl (F3_c) fun _ _ => by kernel_rfl, RG.st fun _ _ => by kernel_rfl, RG.cert_slice1 rfl 9 28 (.int .i64 1) (.string ⟨bs⟩) (.string ⟨tl33 bs⟩) rfl rfl (RG.sx fun _ => by kernel_rfl) (slS bs hs), RG.cl (rNumber_y C (tl33 bs) (tl33_size hs) hx) fun _ _ => by kernel_rfl, RG.st fun _ _ => by kernel_rfl, RG.st fun _ _ => by kernel_rfl, RG.st fun _ _ => by kernel_rfl, RG.mk 1 44 fun _ _ => by kernel_rfl, RG.pt i33 (by kernel_rfl), RG.st fun _ _ => by kernel_rfl, trivial⟩ ?_
  intro j1 a1 w1 M1
  refine hK _ _ ?_
  repeat refine wp_seq ?_
  refine M1.tx0 (F31f2_6 x) [(0, (.v (.string ⟨bs⟩))), (2, (.p 0 0)), (3, (.v (.bool false))), (4, (.p 1 0)), (5, (.v (.bool true))), (34, (.v (.bool false)))] (by kernel_rfl) ⟨RG.st fun _ _ => by kernel_rfl, RG.st fun _ _ => by kernel_rfl, trivial⟩ ?_
  intro a2 w2 M2
  repeat refine wp_seq ?_
  refine wp_cond_false (M2.ev (by kernel_rfl)) ?_
  refine wp_skip ?_
  repeat refine wp_seq ?_
  refine M2.tx (F31f2_8 m x y) [(5, (RG.z 12))] [(2, 6, (ws x ++ (ws y ++ (ws (1 : Fin P)))))] [(RG.z 12), (ws x), (ws x ++ (ws y ++ (ws (1 : Fin P))))] [(0, (.v (.string ⟨bs⟩))), (2, (.p 0 0)), (3, (.v (.bool false))), (5, (.v (.bool true))), (6, (.p 2 0))] (by kernel_rfl) (by kernel_rfl) ⟨RG.ld u33 i33 (by kernel_rfl), RG.cl (rat_y_c C x y hr) fun _ _ => by kernel_rfl, RG.st fun _ _ => by kernel_rfl, RG.st fun _ _ => by kernel_rfl, RG.st fun _ _ => by kernel_rfl, RG.mk 2 54 fun _ _ => by kernel_rfl, RG.pt i56 (by kernel_rfl), RG.st fun _ _ => by kernel_rfl, trivial⟩ ?_
  intro j3 a3 w3 M3
  repeat refine wp_seq ?_
  refine M3.tx0 (F31f2_9 bs x) [(2, (.p 0 0)), (3, (.v (.bool false))), (5, (.v (.bool true))), (6, (.p 2 0)), (43, (.v (.bool false)))] (by kernel_rfl) ⟨RG.st fun _ _ => by kernel_rfl, RG.cert_index rfl 9 41 (.int .i64 0) (.string ⟨bs⟩) (.int .u8 2) rfl rfl (RG.sx fun _ => by kernel_rfl) (ixS bs hs 2 hm), RG.st fun _ _ => by kernel_rfl, trivial⟩ ?_
  intro a4 w4 M4
  repeat refine wp_seq ?_
  refine wp_cond_false (M4.ev (by kernel_rfl)) ?_
  refine wp_skip ?_
  repeat refine wp_seq ?_
  refine M4.tx (F31f2_11 x y) [] [(0, 2, (ws x ++ (ws y ++ (ws (1 : Fin P)))))] [(ws x ++ (ws y ++ (ws (1 : Fin P)))), (ws x), (ws x ++ (ws y ++ (ws (1 : Fin P))))] [(2, (.p 0 0)), (3, (.v (.bool true)))] (by kernel_rfl) (by kernel_rfl) ⟨RG.ld u56 i56 (by kernel_rfl), RG.st fun _ _ => by kernel_rfl, RG.pt i56 (by kernel_rfl), RG.st fun _ _ => by kernel_rfl, trivial⟩ ?_
  intro a5 w5 M5
  have hS5 : RG.St w w.heap.size [] [(ws x ++ (ws y ++ (ws (1 : Fin P)))), (ws x), (ws x ++ (ws y ++ (ws (1 : Fin P))))] [w.heap.size, j1, j3] _ := M5.st
  have sl5 := M5.sl
  have f2_5 : a5.tmps[2]? = some (.pointer (some ⟨w.heap.size, 0, none⟩)) := M5.at (s := (.p 0 0)) (by kernel_rfl)
  have f3_5 : a5.tmps[3]? = some (.bool true) := M5.at (s := (.v (.bool true))) (by kernel_rfl)
  refine wp_ret ?_
  refine bodyPost_ret (v := (.tuple #[(rv x y (1 : Fin P)), (.bool true)])) (RG.results_rt hS5 2 3 54 rfl 0 _ rfl f2_5 _ f3_5 u56 i56) sl5.defers ?_
  exact ⟨_, rfl, hS5.bel.below, rfl⟩
def F31d3_5 (m : Nat) (bs : Bs) (x : Fin P) : List RG.It := [.c 27 [] rv0, .x 28 [] (.string ⟨bs⟩), .x 29 [(28, 1)] (.string ⟨tl33 bs⟩), .c 30 [(27, 0), (29, 2)] (.tuple #[(nv m), (.bool false)]), .x 26 [(30, 3)] (.tuple #[(nv m), (.bool false)]), .x 31 [(26, 4)] (nv m), .x 32 [(26, 4)] (.bool false), .m 4 [] 1, .u [(4, 7), (31, 5)] 1, .x 5 [(32, 6)] (.bool false)]
def F31d3_6 (x : Fin P) : List RG.It := [.x 33 [] (.bool false), .x 34 [(33, 0)] (.bool true)]
def F31d3_7 (x : Fin P) : List RG.It := [.x 35 [] (rv (0 : Fin P) (0 : Fin P) (0 : Fin P)), .u [(35, 0)] 0, .x 3 [] (.bool false)]
set_option maxHeartbeats 4000000 in
set_option maxRecDepth 100000 in
theorem rr_num3 (C : Fl3 P) (m : Nat) (bs : Bs) (x y y2 : Fin P) (w : World) (hs : bs.size = 33) (hz : ¬ bs = zs33) (hm : ub bs[0]! = 3) (hnum : Gives 37 #[rv0, .string ⟨tl33 bs⟩] (.tuple #[nv m, .bool false])) : Calls Try.prog 23 #[.string ⟨bs⟩] w (Ret fun e w' => Below w.heap.size w w' ∧ e = .tuple #[rv (0 : Fin P) 0 0, .bool false]) := by
  have hmk := mk33
  have hcv := conv33 w
  have hse := str_ne3 hz
  unfold W5 z12 at hcv
  have hs2 : (⟨bs⟩ : ByteArray).size = 33 := hs
  have hix := ixS bs hs 3 hm
  have hS0 := W5_st w
  unfold W5 z12 at hS0
  go_enter Try.func23, Try.ntmps23
  go_wp2_with fail
  rename_i hK
  clear hmk hcv hse hs2 hix
  generalize (w.alloc _).alloc _ = w0 at hS0 ⊢
  refine RG.mid3 (v0 := .string ⟨bs⟩) (v1 := .pointer (some ⟨w.heap.size, 0, none⟩)) (v2 := .bool false) (n := 48) 0 2 3 rfl rfl rfl rfl rfl ?_
  intro a0 sl0 f0 f2 f3
  have M0 : RG.M w w.heap.size [] 48 [(RG.z 12)] [w.heap.size] [(0, (.v (.string ⟨bs⟩))), (2, (.p 0 0)), (3, (.v (.bool false)))] a0 _ := ⟨hS0, sl0, ⟨f0, f2, f3, trivial⟩⟩
  repeat refine wp_seq ?_
  refine M0.dr (by kernel_rfl) (F31d3_5 m bs x) [(7, (RG.z 4))] [(1, 8, (wn m))] [(RG.z 12), (wn m)] [(2, (.p 0 0)), (3, (.v (.bool false))), (5, (.v (.bool false)))] (by kernel_rfl) (by kernel_rfl) ⟨RG.cl (F3_c) fun _ _ => by kernel_rfl, RG.st fun _ _ => by kernel_rfl, RG.cert_slice1 rfl 9 28 (.int .i64 1) (.string ⟨bs⟩) (.string ⟨tl33 bs⟩) rfl rfl (RG.sx fun _ => by kernel_rfl) (slS bs hs), RG.cl (hnum) fun _ _ => by kernel_rfl, RG.st fun _ _ => by kernel_rfl, RG.st fun _ _ => by kernel_rfl, RG.st fun _ _ => by kernel_rfl, RG.mk 1 44 fun _ _ => by kernel_rfl, RG.pt i33 (by kernel_rfl), RG.st fun _ _ => by kernel_rfl, trivial⟩ ?_
  intro j1 a1 w1 M1
  refine hK _ _ ?_
  repeat refine wp_seq ?_
  refine M1.tx0 (F31d3_6 x) [(2, (.p 0 0)), (3, (.v (.bool false))), (34, (.v (.bool true)))] (by kernel_rfl) ⟨RG.st fun _ _ => by kernel_rfl, RG.st fun _ _ => by kernel_rfl, trivial⟩ ?_
  intro a2 w2 M2
  repeat refine wp_seq ?_
  refine wp_cond_true (M2.ev (by kernel_rfl)) ?_
  repeat refine wp_seq ?_
  refine M2.tx (F31d3_7 x) [] [(0, 1, (ws (0 : Fin P) ++ (ws (0 : Fin P) ++ (ws (0 : Fin P)))))] [(ws (0 : Fin P) ++ (ws (0 : Fin P) ++ (ws (0 : Fin P)))), (wn m)] [(2, (.p 0 0)), (3, (.v (.bool false)))] (by kernel_rfl) (by kernel_rfl) ⟨RG.se (zero_rv (P := P)) fun _ _ => by kernel_rfl, RG.pt i56 (by kernel_rfl), RG.st fun _ _ => by kernel_rfl, trivial⟩ ?_
  intro a3 w3 M3
  have hS3 : RG.St w w.heap.size [] [(ws (0 : Fin P) ++ (ws (0 : Fin P) ++ (ws (0 : Fin P)))), (wn m)] [w.heap.size, j1] _ := M3.st
  have sl3 := M3.sl
  have f2_3 : a3.tmps[2]? = some (.pointer (some ⟨w.heap.size, 0, none⟩)) := M3.at (s := (.p 0 0)) (by kernel_rfl)
  have f3_3 : a3.tmps[3]? = some (.bool false) := M3.at (s := (.v (.bool false))) (by kernel_rfl)
  refine wp_ret ?_
  refine bodyPost_ret (v := (.tuple #[(rv (0 : Fin P) (0 : Fin P) (0 : Fin P)), (.bool false)])) (RG.results_rt hS3 2 3 54 rfl 0 _ rfl f2_3 _ f3_3 u56 i56) sl3.defers ?_
  exact ⟨_, rfl, hS3.bel.below, rfl⟩
def F31e3_5 (m : Nat) (bs : Bs) (x : Fin P) : List RG.It := [.c 27 [] rv0, .x 28 [] (.string ⟨bs⟩), .x 29 [(28, 1)] (.string ⟨tl33 bs⟩), .c 30 [(27, 0), (29, 2)] (.tuple #[(fv x), (.bool true)]), .x 26 [(30, 3)] (.tuple #[(fv x), (.bool true)]), .x 31 [(26, 4)] (fv x), .x 32 [(26, 4)] (.bool true), .m 4 [] 1, .u [(4, 7), (31, 5)] 1, .x 5 [(32, 6)] (.bool true)]
def F31e3_6 (x : Fin P) : List RG.It := [.x 33 [] (.bool true), .x 34 [(33, 0)] (.bool false)]
def F31e3_8 (m : Nat) (x : Fin P) : List RG.It := [.x 37 [] (fv x), .c 38 [(37, 0)] (.tuple #[(rv x (0 : Fin P) (1 : Fin P)), (.bool false)]), .x 36 [(38, 1)] (.tuple #[(rv x (0 : Fin P) (1 : Fin P)), (.bool false)]), .x 39 [(36, 2)] (rv x (0 : Fin P) (1 : Fin P)), .x 40 [(36, 2)] (.bool false), .m 6 [] 2, .u [(6, 5), (39, 3)] 2, .x 5 [(40, 4)] (.bool false)]
def F31e3_9 (bs : Bs) (x : Fin P) : List RG.It := [.x 41 [] (.string ⟨bs⟩), .x 42 [(41, 0)] (.int .u8 3), .x 43 [(42, 1)] (.bool true)]
def F31e3_10 (x y2 : Fin P) : List RG.It := [.x 44 [] (rv x (0 : Fin P) (1 : Fin P)), .c 45 [(44, 0)] (rv x y2 (1 : Fin P)), .u [(45, 1)] 2]
def F31e3_11 (x y2 : Fin P) : List RG.It := [.x 46 [] (rv x y2 (1 : Fin P)), .x 47 [] (.bool false), .u [(46, 0)] 0, .x 3 [(47, 1)] (.bool false)]
set_option maxHeartbeats 4000000 in
set_option maxRecDepth 100000 in
theorem rr_none3 (C : Fl3 P) (m : Nat) (bs : Bs) (x y y2 : Fin P) (w : World) (hs : bs.size = 33) (hz : ¬ bs = zs33) (hm : ub bs[0]! = 3) (hx : beV (tl33 bs).toList = x.val) (hr : rt (x * x * x + 7) = none) (hy2 : 0 - (0 : Fin P) = y2) : Calls Try.prog 23 #[.string ⟨bs⟩] w (Ret fun e w' => Below w.heap.size w w' ∧ e = .tuple #[rv x y2 1, .bool false]) := by
  have hmk := mk33
  have hcv := conv33 w
  have hse := str_ne3 hz
  unfold W5 z12 at hcv
  have hs2 : (⟨bs⟩ : ByteArray).size = 33 := hs
  have hix := ixS bs hs 3 hm
  have hS0 := W5_st w
  unfold W5 z12 at hS0
  go_enter Try.func23, Try.ntmps23
  go_wp2_with fail
  rename_i hK
  clear hmk hcv hse hs2 hix
  generalize (w.alloc _).alloc _ = w0 at hS0 ⊢
  refine RG.mid3 (v0 := .string ⟨bs⟩) (v1 := .pointer (some ⟨w.heap.size, 0, none⟩)) (v2 := .bool false) (n := 48) 0 2 3 rfl rfl rfl rfl rfl ?_
  intro a0 sl0 f0 f2 f3
  have M0 : RG.M w w.heap.size [] 48 [(RG.z 12)] [w.heap.size] [(0, (.v (.string ⟨bs⟩))), (2, (.p 0 0)), (3, (.v (.bool false)))] a0 _ := ⟨hS0, sl0, ⟨f0, f2, f3, trivial⟩⟩
  repeat refine wp_seq ?_
  refine M0.dr (by kernel_rfl) (F31e3_5 m bs x) [(7, (RG.z 4))] [(1, 8, (ws x))] [(RG.z 12), (ws x)] [(0, (.v (.string ⟨bs⟩))), (2, (.p 0 0)), (3, (.v (.bool false))), (4, (.p 1 0)), (5, (.v (.bool true)))] (by kernel_rfl) (by kernel_rfl) ⟨RG.cl (F3_c) fun _ _ => by kernel_rfl, RG.st fun _ _ => by kernel_rfl, RG.cert_slice1 rfl 9 28 (.int .i64 1) (.string ⟨bs⟩) (.string ⟨tl33 bs⟩) rfl rfl (RG.sx fun _ => by kernel_rfl) (slS bs hs), RG.cl (rNumber_y C (tl33 bs) (tl33_size hs) hx) fun _ _ => by kernel_rfl, RG.st fun _ _ => by kernel_rfl, RG.st fun _ _ => by kernel_rfl, RG.st fun _ _ => by kernel_rfl, RG.mk 1 44 fun _ _ => by kernel_rfl, RG.pt i33 (by kernel_rfl), RG.st fun _ _ => by kernel_rfl, trivial⟩ ?_
  intro j1 a1 w1 M1
  refine hK _ _ ?_
  repeat refine wp_seq ?_
  refine M1.tx0 (F31e3_6 x) [(0, (.v (.string ⟨bs⟩))), (2, (.p 0 0)), (3, (.v (.bool false))), (4, (.p 1 0)), (5, (.v (.bool true))), (34, (.v (.bool false)))] (by kernel_rfl) ⟨RG.st fun _ _ => by kernel_rfl, RG.st fun _ _ => by kernel_rfl, trivial⟩ ?_
  intro a2 w2 M2
  repeat refine wp_seq ?_
  refine wp_cond_false (M2.ev (by kernel_rfl)) ?_
  refine wp_skip ?_
  repeat refine wp_seq ?_
  refine M2.tx (F31e3_8 m x) [(5, (RG.z 12))] [(2, 6, (ws x ++ (ws (0 : Fin P) ++ (ws (1 : Fin P)))))] [(RG.z 12), (ws x), (ws x ++ (ws (0 : Fin P) ++ (ws (1 : Fin P))))] [(0, (.v (.string ⟨bs⟩))), (2, (.p 0 0)), (3, (.v (.bool false))), (5, (.v (.bool false))), (6, (.p 2 0))] (by kernel_rfl) (by kernel_rfl) ⟨RG.ld u33 i33 (by kernel_rfl), RG.cl (rat_n_c C x hr) fun _ _ => by kernel_rfl, RG.st fun _ _ => by kernel_rfl, RG.st fun _ _ => by kernel_rfl, RG.st fun _ _ => by kernel_rfl, RG.mk 2 54 fun _ _ => by kernel_rfl, RG.pt i56 (by kernel_rfl), RG.st fun _ _ => by kernel_rfl, trivial⟩ ?_
  intro j3 a3 w3 M3
  repeat refine wp_seq ?_
  refine M3.tx0 (F31e3_9 bs x) [(2, (.p 0 0)), (3, (.v (.bool false))), (5, (.v (.bool false))), (6, (.p 2 0)), (43, (.v (.bool true)))] (by kernel_rfl) ⟨RG.st fun _ _ => by kernel_rfl, RG.cert_index rfl 9 41 (.int .i64 0) (.string ⟨bs⟩) (.int .u8 3) rfl rfl (RG.sx fun _ => by kernel_rfl) (ixS bs hs 3 hm), RG.st fun _ _ => by kernel_rfl, trivial⟩ ?_
  intro a4 w4 M4
  repeat refine wp_seq ?_
  refine wp_cond_true (M4.ev (by kernel_rfl)) ?_
  repeat refine wp_seq ?_
  refine M4.tx (F31e3_10 x y2) [] [(2, 2, (ws x ++ (ws y2 ++ (ws (1 : Fin P)))))] [(RG.z 12), (ws x), (ws x ++ (ws y2 ++ (ws (1 : Fin P))))] [(2, (.p 0 0)), (3, (.v (.bool false))), (5, (.v (.bool false))), (6, (.p 2 0))] (by kernel_rfl) (by kernel_rfl) ⟨RG.ld u56 i56 (by kernel_rfl), RG.cl (f := 48) (args := #[(rv x (0 : Fin P) (1 : Fin P))]) (v := (rv x y2 (1 : Fin P))) (hy2 ▸ rNeg3_c C x (0 : Fin P) 1) fun _ _ => by kernel_rfl, RG.pt i56 (by kernel_rfl), trivial⟩ ?_
  intro a5 w5 M5
  repeat refine wp_seq ?_
  refine M5.tx (F31e3_11 x y2) [] [(0, 2, (ws x ++ (ws y2 ++ (ws (1 : Fin P)))))] [(ws x ++ (ws y2 ++ (ws (1 : Fin P)))), (ws x), (ws x ++ (ws y2 ++ (ws (1 : Fin P))))] [(2, (.p 0 0)), (3, (.v (.bool false)))] (by kernel_rfl) (by kernel_rfl) ⟨RG.ld u56 i56 (by kernel_rfl), RG.st fun _ _ => by kernel_rfl, RG.pt i56 (by kernel_rfl), RG.st fun _ _ => by kernel_rfl, trivial⟩ ?_
  intro a6 w6 M6
  have hS6 : RG.St w w.heap.size [] [(ws x ++ (ws y2 ++ (ws (1 : Fin P)))), (ws x), (ws x ++ (ws y2 ++ (ws (1 : Fin P))))] [w.heap.size, j1, j3] _ := M6.st
  have sl6 := M6.sl
  have f2_6 : a6.tmps[2]? = some (.pointer (some ⟨w.heap.size, 0, none⟩)) := M6.at (s := (.p 0 0)) (by kernel_rfl)
  have f3_6 : a6.tmps[3]? = some (.bool false) := M6.at (s := (.v (.bool false))) (by kernel_rfl)
  refine wp_ret ?_
  refine bodyPost_ret (v := (.tuple #[(rv x y2 (1 : Fin P)), (.bool false)])) (RG.results_rt hS6 2 3 54 rfl 0 _ rfl f2_6 _ f3_6 u56 i56) sl6.defers ?_
  exact ⟨_, rfl, hS6.bel.below, rfl⟩
def F31f3_5 (m : Nat) (bs : Bs) (x : Fin P) : List RG.It := [.c 27 [] rv0, .x 28 [] (.string ⟨bs⟩), .x 29 [(28, 1)] (.string ⟨tl33 bs⟩), .c 30 [(27, 0), (29, 2)] (.tuple #[(fv x), (.bool true)]), .x 26 [(30, 3)] (.tuple #[(fv x), (.bool true)]), .x 31 [(26, 4)] (fv x), .x 32 [(26, 4)] (.bool true), .m 4 [] 1, .u [(4, 7), (31, 5)] 1, .x 5 [(32, 6)] (.bool true)]
def F31f3_6 (x : Fin P) : List RG.It := [.x 33 [] (.bool true), .x 34 [(33, 0)] (.bool false)]
def F31f3_8 (m : Nat) (x y : Fin P) : List RG.It := [.x 37 [] (fv x), .c 38 [(37, 0)] (.tuple #[(rv x y (1 : Fin P)), (.bool true)]), .x 36 [(38, 1)] (.tuple #[(rv x y (1 : Fin P)), (.bool true)]), .x 39 [(36, 2)] (rv x y (1 : Fin P)), .x 40 [(36, 2)] (.bool true), .m 6 [] 2, .u [(6, 5), (39, 3)] 2, .x 5 [(40, 4)] (.bool true)]
def F31f3_9 (bs : Bs) (x : Fin P) : List RG.It := [.x 41 [] (.string ⟨bs⟩), .x 42 [(41, 0)] (.int .u8 3), .x 43 [(42, 1)] (.bool true)]
def F31f3_10 (x y y2 : Fin P) : List RG.It := [.x 44 [] (rv x y (1 : Fin P)), .c 45 [(44, 0)] (rv x y2 (1 : Fin P)), .u [(45, 1)] 2]
def F31f3_11 (x y2 : Fin P) : List RG.It := [.x 46 [] (rv x y2 (1 : Fin P)), .x 47 [] (.bool true), .u [(46, 0)] 0, .x 3 [(47, 1)] (.bool true)]
set_option maxHeartbeats 4000000 in
set_option maxRecDepth 100000 in
theorem rr_some3 (C : Fl3 P) (m : Nat) (bs : Bs) (x y y2 : Fin P) (w : World) (hs : bs.size = 33) (hz : ¬ bs = zs33) (hm : ub bs[0]! = 3) (hx : beV (tl33 bs).toList = x.val) (hr : rt (x * x * x + 7) = some y) (hy2 : 0 - y = y2) : Calls Try.prog 23 #[.string ⟨bs⟩] w (Ret fun e w' => Below w.heap.size w w' ∧ e = .tuple #[rv x y2 1, .bool true]) := by
  have hmk := mk33
  have hcv := conv33 w
  have hse := str_ne3 hz
  unfold W5 z12 at hcv
  have hs2 : (⟨bs⟩ : ByteArray).size = 33 := hs
  have hix := ixS bs hs 3 hm
  have hS0 := W5_st w
  unfold W5 z12 at hS0
  go_enter Try.func23, Try.ntmps23
  go_wp2_with fail
  rename_i hK
  clear hmk hcv hse hs2 hix
  generalize (w.alloc _).alloc _ = w0 at hS0 ⊢
  refine RG.mid3 (v0 := .string ⟨bs⟩) (v1 := .pointer (some ⟨w.heap.size, 0, none⟩)) (v2 := .bool false) (n := 48) 0 2 3 rfl rfl rfl rfl rfl ?_
  intro a0 sl0 f0 f2 f3
  have M0 : RG.M w w.heap.size [] 48 [(RG.z 12)] [w.heap.size] [(0, (.v (.string ⟨bs⟩))), (2, (.p 0 0)), (3, (.v (.bool false)))] a0 _ := ⟨hS0, sl0, ⟨f0, f2, f3, trivial⟩⟩
  repeat refine wp_seq ?_
  refine M0.dr (by kernel_rfl) (F31f3_5 m bs x) [(7, (RG.z 4))] [(1, 8, (ws x))] [(RG.z 12), (ws x)] [(0, (.v (.string ⟨bs⟩))), (2, (.p 0 0)), (3, (.v (.bool false))), (4, (.p 1 0)), (5, (.v (.bool true)))] (by kernel_rfl) (by kernel_rfl) ⟨RG.cl (F3_c) fun _ _ => by kernel_rfl, RG.st fun _ _ => by kernel_rfl, RG.cert_slice1 rfl 9 28 (.int .i64 1) (.string ⟨bs⟩) (.string ⟨tl33 bs⟩) rfl rfl (RG.sx fun _ => by kernel_rfl) (slS bs hs), RG.cl (rNumber_y C (tl33 bs) (tl33_size hs) hx) fun _ _ => by kernel_rfl, RG.st fun _ _ => by kernel_rfl, RG.st fun _ _ => by kernel_rfl, RG.st fun _ _ => by kernel_rfl, RG.mk 1 44 fun _ _ => by kernel_rfl, RG.pt i33 (by kernel_rfl), RG.st fun _ _ => by kernel_rfl, trivial⟩ ?_
  intro j1 a1 w1 M1
  refine hK _ _ ?_
  repeat refine wp_seq ?_
  refine M1.tx0 (F31f3_6 x) [(0, (.v (.string ⟨bs⟩))), (2, (.p 0 0)), (3, (.v (.bool false))), (4, (.p 1 0)), (5, (.v (.bool true))), (34, (.v (.bool false)))] (by kernel_rfl) ⟨RG.st fun _ _ => by kernel_rfl, RG.st fun _ _ => by kernel_rfl, trivial⟩ ?_
  intro a2 w2 M2
  repeat refine wp_seq ?_
  refine wp_cond_false (M2.ev (by kernel_rfl)) ?_
  refine wp_skip ?_
  repeat refine wp_seq ?_
  refine M2.tx (F31f3_8 m x y) [(5, (RG.z 12))] [(2, 6, (ws x ++ (ws y ++ (ws (1 : Fin P)))))] [(RG.z 12), (ws x), (ws x ++ (ws y ++ (ws (1 : Fin P))))] [(0, (.v (.string ⟨bs⟩))), (2, (.p 0 0)), (3, (.v (.bool false))), (5, (.v (.bool true))), (6, (.p 2 0))] (by kernel_rfl) (by kernel_rfl) ⟨RG.ld u33 i33 (by kernel_rfl), RG.cl (rat_y_c C x y hr) fun _ _ => by kernel_rfl, RG.st fun _ _ => by kernel_rfl, RG.st fun _ _ => by kernel_rfl, RG.st fun _ _ => by kernel_rfl, RG.mk 2 54 fun _ _ => by kernel_rfl, RG.pt i56 (by kernel_rfl), RG.st fun _ _ => by kernel_rfl, trivial⟩ ?_
  intro j3 a3 w3 M3
  repeat refine wp_seq ?_
  refine M3.tx0 (F31f3_9 bs x) [(2, (.p 0 0)), (3, (.v (.bool false))), (5, (.v (.bool true))), (6, (.p 2 0)), (43, (.v (.bool true)))] (by kernel_rfl) ⟨RG.st fun _ _ => by kernel_rfl, RG.cert_index rfl 9 41 (.int .i64 0) (.string ⟨bs⟩) (.int .u8 3) rfl rfl (RG.sx fun _ => by kernel_rfl) (ixS bs hs 3 hm), RG.st fun _ _ => by kernel_rfl, trivial⟩ ?_
  intro a4 w4 M4
  repeat refine wp_seq ?_
  refine wp_cond_true (M4.ev (by kernel_rfl)) ?_
  repeat refine wp_seq ?_
  refine M4.tx (F31f3_10 x y y2) [] [(2, 2, (ws x ++ (ws y2 ++ (ws (1 : Fin P)))))] [(RG.z 12), (ws x), (ws x ++ (ws y2 ++ (ws (1 : Fin P))))] [(2, (.p 0 0)), (3, (.v (.bool false))), (5, (.v (.bool true))), (6, (.p 2 0))] (by kernel_rfl) (by kernel_rfl) ⟨RG.ld u56 i56 (by kernel_rfl), RG.cl (f := 48) (args := #[(rv x y (1 : Fin P))]) (v := (rv x y2 (1 : Fin P))) (hy2 ▸ rNeg3_c C x y 1) fun _ _ => by kernel_rfl, RG.pt i56 (by kernel_rfl), trivial⟩ ?_
  intro a5 w5 M5
  repeat refine wp_seq ?_
  refine M5.tx (F31f3_11 x y2) [] [(0, 2, (ws x ++ (ws y2 ++ (ws (1 : Fin P)))))] [(ws x ++ (ws y2 ++ (ws (1 : Fin P)))), (ws x), (ws x ++ (ws y2 ++ (ws (1 : Fin P))))] [(2, (.p 0 0)), (3, (.v (.bool true)))] (by kernel_rfl) (by kernel_rfl) ⟨RG.ld u56 i56 (by kernel_rfl), RG.st fun _ _ => by kernel_rfl, RG.pt i56 (by kernel_rfl), RG.st fun _ _ => by kernel_rfl, trivial⟩ ?_
  intro a6 w6 M6
  have hS6 : RG.St w w.heap.size [] [(ws x ++ (ws y2 ++ (ws (1 : Fin P)))), (ws x), (ws x ++ (ws y2 ++ (ws (1 : Fin P))))] [w.heap.size, j1, j3] _ := M6.st
  have sl6 := M6.sl
  have f2_6 : a6.tmps[2]? = some (.pointer (some ⟨w.heap.size, 0, none⟩)) := M6.at (s := (.p 0 0)) (by kernel_rfl)
  have f3_6 : a6.tmps[3]? = some (.bool true) := M6.at (s := (.v (.bool true))) (by kernel_rfl)
  refine wp_ret ?_
  refine bodyPost_ret (v := (.tuple #[(rv x y2 (1 : Fin P)), (.bool true)])) (RG.results_rt hS6 2 3 54 rfl 0 _ rfl f2_6 _ f3_6 u56 i56) sl6.defers ?_
  exact ⟨_, rfl, hS6.bel.below, rfl⟩
end Go.Proofs.Yticolhhalbbogae
namespace Go.Proofs.Yticolhhalbbogae
open Go.RowKit Go.Sort
variable {P : Nat} [NeZero P]
def FracT (t : T3 P) (p : EC.Pt P) : Prop := EC.Frac t.1 t.2.1 t.2.2 p ∧ EC.On p
def dbF (t : T3 P) : T3 P := (EC.fdE t.2.1 t.2.2 * EC.fdT t.1 t.2.1 t.2.2, EC.fdD t.1 * (t.1 * (EC.fdE t.2.1 t.2.2 * EC.fdE t.2.1 t.2.2) - EC.fdT t.1 t.2.1 t.2.2) - t.2.1 * (EC.fdE t.2.1 t.2.2 * EC.fdE t.2.1 t.2.2 * EC.fdE t.2.1 t.2.2), EC.fdE t.2.1 t.2.2 * EC.fdE t.2.1 t.2.2 * EC.fdE t.2.1 t.2.2 * t.2.2)
def plF (a b : T3 P) : T3 P :=
  if a.2.2 = 0 then b else if b.2.2 = 0 then a else
  if b.1 * a.2.2 = a.1 * b.2.2 then (if b.2.1 * a.2.2 = a.2.1 * b.2.2 then dbF a else (0, 1, 0)) else
  ((b.1 * a.2.2 - a.1 * b.2.2) * EC.frT (b.2.1 * a.2.2 - a.2.1 * b.2.2) (b.1 * a.2.2 - a.1 * b.2.2) (a.2.2 * b.2.2) (a.1 * b.2.2),
   (b.2.1 * a.2.2 - a.2.1 * b.2.2) * (a.1 * b.2.2 * ((b.1 * a.2.2 - a.1 * b.2.2) * (b.1 * a.2.2 - a.1 * b.2.2)) - EC.frT (b.2.1 * a.2.2 - a.2.1 * b.2.2) (b.1 * a.2.2 - a.1 * b.2.2) (a.2.2 * b.2.2) (a.1 * b.2.2)) - a.2.1 * b.2.2 * ((b.1 * a.2.2 - a.1 * b.2.2) * (b.1 * a.2.2 - a.1 * b.2.2) * (b.1 * a.2.2 - a.1 * b.2.2)),
   (b.1 * a.2.2 - a.1 * b.2.2) * (b.1 * a.2.2 - a.1 * b.2.2) * (b.1 * a.2.2 - a.1 * b.2.2) * (a.2.2 * b.2.2))
theorem FracT.plus (C : Fl3 P) {a b : T3 P} {p q : EC.Pt P} (h : FracT a p) (h' : FracT b q) : Gives 26 #[tv a, tv b] (tv (plF a b)) ∧ FracT (plF a b) (EC.add p q) := by
  have ho := C.cur.on h.2 h'.2
  obtain ⟨x1, y1, z1⟩ := a
  obtain ⟨x2, y2, z2⟩ := b
  unfold plF
  by_cases n1 : z1 = 0
  · rw [if_pos n1]
    obtain rfl := h.1.zero n1
    exact ⟨rPlus_a_c C x1 y1 z1 x2 y2 z2 n1, h'⟩
  · rw [if_neg n1]
    by_cases n2 : z2 = 0
    · rw [if_pos n2]
      obtain rfl := h'.1.zero n2
      refine ⟨rPlus_b_c C x1 y1 z1 x2 y2 z2 n1 n2, ?_⟩
      rw [EC.add_none]
      exact h
    · rw [if_neg n2]
      rcases h.1.plus C.cur h.2 h'.1 h'.2 n1 n2 with ⟨e1, e2, e3⟩ | ⟨e1, e2, e3, e4⟩ | ⟨e1, e2⟩
      · rw [if_pos e1, if_neg e2]
        refine ⟨rPlus_c_c C x1 y1 z1 x2 y2 z2 n1 n2 e1 e2, ?_, ho⟩
        rw [e3]
        exact rfl
      · rw [if_pos e1, if_pos e2]
        refine ⟨rPlus_d_c C x1 y1 z1 x2 y2 z2 n1 n2 e1 e2 e3, ?_, ho⟩
        rw [e4]
        exact h.1.double C.cur h.2 n1
      · rw [if_neg e1]
        exact ⟨rPlus_e_c C x1 y1 z1 x2 y2 z2 n1 n2 e1, e2, ho⟩
theorem FracT.none : FracT ((0, 1, 0) : T3 P) .none := ⟨rfl, EC.none_on⟩
theorem FracT.neg {t : T3 P} {p : EC.Pt P} (h : FracT t p) : FracT ((t.1, 0 - t.2.1, t.2.2) : T3 P) (EC.neg p) := ⟨h.1.neg, EC.neg_on h.2⟩
/-- What the reference's Times has behind m rounds. -/
def tmF (n : Nat) (t : T3 P) : Nat → T3 P
  | 0 => (0, 1, 0)
  | m + 1 => if n / 2 ^ (255 - m) % 2 = 1 then plF (plF (tmF n t m) (tmF n t m)) t else plF (tmF n t m) (tmF n t m)
theorem tmF_F (C : Fl3 P) {n : Nat} {t : T3 P} {p : EC.Pt P} (hn : n < 2 ^ 256) (h : FracT t p) : ∀ m, m ≤ 256 → FracT (tmF n t m) (EC.mul (n / 2 ^ (256 - m)) p)
  | 0, _ => by
    rw [Nat.sub_zero, Nat.div_eq_of_lt hn]
    exact FracT.none
  | m + 1, hm => by
    have ih := tmF_F C hn h m (by omega)
    have e1 : 256 - m = 255 - m + 1 := by omega
    rw [show 256 - (m + 1) = 255 - m by omega, div_bit n (255 - m), ← e1]
    unfold tmF
    have h2 := (ih.plus C ih).2
    rw [← EC.mul_add C.cur h.2, ← Nat.two_mul] at h2
    by_cases hb : n / 2 ^ (255 - m) % 2 = 1
    · rw [if_pos hb, hb]
      exact (h2.plus C h).2
    · rw [if_neg hb, show n / 2 ^ (255 - m) % 2 = 0 by omega]
      exact h2
end Go.Proofs.Yticolhhalbbogae
namespace Go.Proofs.Yticolhhalbbogae
open Go.RowKit Go.Sort
variable {P : Nat} [NeZero P]
theorem frac_one (C : Fld P) (x y : Fin P) : EC.Frac x y 1 (.some (x, y) : EC.Pt P) := ⟨fun h => C.cur.two (by grobner), by grobner, by grobner⟩
/-- What the reference's Read answers. -/
def RReadR (P : Nat) [NeZero P] (bs : Bs) (e : Value) : Prop := match rd P bs with
  | none => ∃ t : T3 P, e = .tuple #[tv t, .bool false]
  | some p => ∃ (t : T3 P) (q : EC.Pt P), e = .tuple #[tv t, .bool true] ∧ EC.Pair p.1 p.2 q ∧ FracT t q
theorem rRead_c (C : Fl3 P) (bs : Bs) (w : World) : Calls Try.prog 23 #[.string ⟨bs⟩] w (Ret fun e w' => Below w.heap.size w w' ∧ RReadR P bs e) := by
  unfold RReadR rd
  by_cases hs : bs.size = 33
  · rw [if_pos hs]
    by_cases hz : Zero33 bs
    · rw [if_pos hz]
      obtain rfl := (zero33_iff hs).1 hz
      refine (rr_zero C w).mono ?_
      rintro e w' ⟨v, rfl, hb, rfl⟩
      exact ⟨_, rfl, hb, (0, 1, 0), .none, rfl, ⟨rfl, rfl⟩, FracT.none⟩
    · rw [if_neg hz]
      have hz' : ¬ bs = zs33 := fun h => hz ((zero33_iff hs).2 h)
      by_cases hm : ub bs[0]! = 2 ∨ ub bs[0]! = 3
      · rw [if_pos hm]
        by_cases hx : beV (tl33 bs).toList < P
        · rw [if_pos hx]
          have hx' : beV (tl33 bs).toList = (rdx P bs).val := (Nat.mod_eq_of_lt hx).symm
          cases hr : rt (rdx P bs * rdx P bs * rdx P bs + 7) with
          | none =>
            rcases hm with hm | hm
            · refine (rr_none2 C 0 bs (rdx P bs) 0 0 w hs hz' hm hx' hr).mono ?_
              rintro e w' ⟨v, rfl, hb, rfl⟩
              exact ⟨_, rfl, hb, (rdx P bs, 0, 1), rfl⟩
            · refine (rr_none3 C 0 bs (rdx P bs) 0 (0 - 0) w hs hz' hm hx' hr rfl).mono ?_
              rintro e w' ⟨v, rfl, hb, rfl⟩
              exact ⟨_, rfl, hb, (rdx P bs, 0 - 0, 1), rfl⟩
          | some y =>
            have hsq := rt_sq hr
            rcases hm with hm | hm
            · rw [Option.map_some, if_neg (by rw [hm]; decide)]
              refine (rr_some2 C 0 bs (rdx P bs) y 0 w hs hz' hm hx' hr).mono ?_
              rintro e w' ⟨v, rfl, hb, rfl⟩
              exact ⟨_, rfl, hb, (rdx P bs, y, 1), .some (rdx P bs, y), rfl, ⟨rfl, rfl⟩, frac_one C.toFld _ _, on_of hsq⟩
            · rw [Option.map_some, if_pos hm]
              refine (rr_some3 C 0 bs (rdx P bs) y (0 - y) w hs hz' hm hx' hr rfl).mono ?_
              rintro e w' ⟨v, rfl, hb, rfl⟩
              exact ⟨_, rfl, hb, (rdx P bs, 0 - y, 1), .some (rdx P bs, 0 - y), rfl, ⟨rfl, rfl⟩, frac_one C.toFld _ _, on_neg hsq⟩
        · rw [if_neg hx]
          have hn := rNumber_n C (tl33 bs) (tl33_size hs) hx
          rcases hm with hm | hm
          · refine (rr_num2 C _ bs 0 0 0 w hs hz' hm hn).mono ?_
            rintro e w' ⟨v, rfl, hb, rfl⟩
            exact ⟨_, rfl, hb, (0, 0, 0), rfl⟩
          · refine (rr_num3 C _ bs 0 0 0 w hs hz' hm hn).mono ?_
            rintro e w' ⟨v, rfl, hb, rfl⟩
            exact ⟨_, rfl, hb, (0, 0, 0), rfl⟩
      · rw [if_neg hm]
        refine (rr_mark C bs hs hz' _ rfl (fun h => hm (Or.inl h)) (fun h => hm (Or.inr h)) w).mono ?_
        rintro e w' ⟨v, rfl, hb, rfl⟩
        exact ⟨_, rfl, hb, (0, 0, 0), rfl⟩
  · rw [if_neg hs]
    refine (rr_len C bs hs w).mono ?_
    rintro e w' ⟨v, rfl, hb, rfl⟩
    exact ⟨_, rfl, hb, (0, 0, 0), rfl⟩
end Go.Proofs.Yticolhhalbbogae
namespace Go.Proofs.Yticolhhalbbogae
open Go.RowKit Go.Sort Go.Deep
theorem uFq : (Try.prog.underlying 48).map (·.isRow) = some true := by kernel_rfl
theorem iFq : (Try.prog.info? 48).map (·.size) = some 8 := by kernel_rfl
def rl1 : List Value := [.int .u64 13822214165235122497, .int .u64 13451932020343611451, .int .u64 18446744073709551614, .int .u64 18446744073709551615, .int .u64 4624529908474429119, .int .u64 4994812053365940164, .int .u64 1, .int .u64 0]
def rv1 : Value := .agg rl1.toArray
theorem rMake1_c : Gives 38 #[.int .i64 1] rv1 := fun w => (rMake1 w).mono (by rintro e w' ⟨v, rfl, hb, rfl⟩; exact ⟨_, rfl, hb, rfl⟩)
def F32_0 : List RG.It := [.m 0 [] 0]
def F32_1 : List RG.It := [.c 1 [] rv1, .u [(1, 0)] 0]
set_option maxHeartbeats 2000000 in
set_option maxRecDepth 100000 in
theorem Q3_c  : Gives 18 #[] rv1 := by
  intro w
  go_enter Try.func18, Try.ntmps18
  refine RG.M.enter [] 2 (by kernel_rfl) ?_
  intro a0 M0
  repeat refine wp_seq ?_
  refine M0.tx F32_0 [(0, (RG.z 8))] [] [(RG.z 8)] [(0, (.p 0 0))] (by kernel_rfl) (by kernel_rfl) ⟨RG.mk 0 48 fun _ _ => by kernel_rfl, trivial⟩ ?_
  intro j1 a1 w1 M1
  repeat refine wp_seq ?_
  refine M1.tx F32_1 [] [(0, 1, rl1)] [rl1] [(0, (.p 0 0))] (by kernel_rfl) (by kernel_rfl) ⟨RG.cl (rMake1_c) fun _ _ => by kernel_rfl, RG.pt iFq (by kernel_rfl), trivial⟩ ?_
  intro a2 w2 M2
  refine wp_ret ?_
  refine bodyPost_ret (v := rv1) (RG.results_row M2.st 0 48 rfl 0 _ rfl (M2.at (s := (.p 0 0)) (by kernel_rfl)) uFq iFq) M2.sl.defers ?_
  exact ⟨_, rfl, M2.st.bel.below, rfl⟩
/-- What the reference's Number answers, modulo the order. -/
def nuV (bs : Bs) : Nat := if bs.size = 32 then beV bs.toList else 0
theorem rNum_v {N : Nat} (hR : RefP 13822214165235122497 13451932020343611451 18446744073709551614 18446744073709551615 4624529908474429119 4994812053365940164 1 0 N) (s : ByteArray) : Gives 37 #[rv1, .string s] (.tuple #[nv (nuV s.data), .bool (rq N s.data).isSome]) := fun w =>
  (rNumber_any _ _ _ _ _ _ _ _ N s hR w).mono (by
    rintro e w' ⟨v, rfl, hb, a, b, c, d, ok, rfl, h1, h2, h3, h4⟩
    refine ⟨_, rfl, hb, ?_⟩
    unfold nuV rq
    cases ok with
    | true =>
      obtain ⟨hi, hF⟩ := h1 rfl
      rw [if_pos (show s.data.size = 32 ∧ beV s.data.toList < N from hi), if_pos (show s.data.size = 32 from hi.1), hF.nv]
      rfl
    | false =>
      rw [if_neg (show ¬ (s.data.size = 32 ∧ beV s.data.toList < N) from h2 rfl)]
      by_cases hs : s.data.size = 32
      · rw [if_pos hs, (h3 hs).nv]
        rfl
      · rw [if_neg hs]
        obtain ⟨rfl, rfl, rfl, rfl⟩ := h4 hs
        rfl)
theorem rq_nu {N : Nat} {bs : Bs} {n : Nat} (h : rq N bs = some n) : n = nuV bs := by
  unfold rq at h
  split at h
  · rename_i hc
    unfold nuV
    rw [if_pos hc.1]
    exact (Option.some.inj h).symm
  · cases h
end Go.Proofs.Yticolhhalbbogae
namespace Go.Proofs.Yticolhhalbbogae
open Go.RowKit Go.Sort Go.Deep
variable {P : Nat} [NeZero P]
theorem nuV_top {bs : Bs} {N : Nat} (hN : N ≤ top) {n : Nat} (h : rq N bs = some n) : nuV bs < top := rq_nu h ▸ rq_top hN h
/-- What the reference's Read answers. -/
def rdT (P : Nat) [NeZero P] (bs : Bs) : T3 P :=
  if bs.size = 33 then if Zero33 bs then (0, 1, 0) else if ub bs[0]! = 2 ∨ ub bs[0]! = 3 then if beV (tl33 bs).toList < P then
    (rdx P bs, if ub bs[0]! = 3 then 0 - (rt (rdx P bs * rdx P bs * rdx P bs + 7)).getD 0 else (rt (rdx P bs * rdx P bs * rdx P bs + 7)).getD 0, 1) else (0, 0, 0) else (0, 0, 0) else (0, 0, 0)
theorem rRead_v (C : Fl3 P) (bs : Bs) : Gives 23 #[.string ⟨bs⟩] (.tuple #[tv (rdT P bs), .bool (rd P bs).isSome]) := by
  intro w
  unfold rdT rd
  by_cases hs : bs.size = 33
  · rw [if_pos hs, if_pos hs]
    by_cases hz : Zero33 bs
    · rw [if_pos hz, if_pos hz]
      obtain rfl := (zero33_iff hs).1 hz
      exact rr_zero C w
    · rw [if_neg hz, if_neg hz]
      have hz' : ¬ bs = zs33 := fun h => hz ((zero33_iff hs).2 h)
      by_cases hm : ub bs[0]! = 2 ∨ ub bs[0]! = 3
      · rw [if_pos hm, if_pos hm]
        by_cases hx : beV (tl33 bs).toList < P
        · rw [if_pos hx, if_pos hx]
          have hx' : beV (tl33 bs).toList = (rdx P bs).val := (Nat.mod_eq_of_lt hx).symm
          cases hr : rt (rdx P bs * rdx P bs * rdx P bs + 7) with
          | none =>
            rcases hm with hm | hm
            · rw [if_neg (by rw [hm]; decide)]
              exact rr_none2 C 0 bs (rdx P bs) 0 0 w hs hz' hm hx' hr
            · rw [if_pos hm]
              exact rr_none3 C 0 bs (rdx P bs) 0 (0 - 0) w hs hz' hm hx' hr rfl
          | some y =>
            rcases hm with hm | hm
            · rw [Option.map_some, if_neg (by rw [hm]; decide), if_neg (by rw [hm]; decide)]
              exact rr_some2 C 0 bs (rdx P bs) y 0 w hs hz' hm hx' hr
            · rw [Option.map_some, if_pos hm, if_pos hm]
              exact rr_some3 C 0 bs (rdx P bs) y (0 - y) w hs hz' hm hx' hr rfl
        · rw [if_neg hx, if_neg hx]
          have hn := rNumber_n C (tl33 bs) (tl33_size hs) hx
          rcases hm with hm | hm
          · exact rr_num2 C _ bs 0 0 0 w hs hz' hm hn
          · exact rr_num3 C _ bs 0 0 0 w hs hz' hm hn
      · rw [if_neg hm, if_neg hm]
        exact rr_mark C bs hs hz' _ rfl (fun h => hm (Or.inl h)) (fun h => hm (Or.inr h)) w
  · rw [if_neg hs, if_neg hs]
    exact rr_len C bs hs w
/-- The point that bytes are; nothing, where they are none. -/
def ptOf (P : Nat) [NeZero P] (bs : Bs) : EC.Pt P := match rd P bs with | some p => pt p | none => none
theorem ptOf_of {bs : Bs} {p : Fin P × Fin P} (h : rd P bs = some p) : ptOf P bs = pt p := by unfold ptOf; rw [h]
theorem rdT_frac (C : Fl3 P) {bs : Bs} (h : (rd P bs).isSome = true) : FracT (rdT P bs) (ptOf P bs) := by
  obtain ⟨p, hp⟩ := Option.isSome_iff_exists.1 h
  rw [ptOf_of hp]
  have hp0 := hp
  unfold rdT
  unfold rd at hp
  split at hp
  · rename_i hs
    rw [if_pos hs]
    split at hp
    · rename_i hz
      rw [if_pos hz]
      obtain rfl := Option.some.inj hp
      unfold pt
      rw [if_pos ⟨rfl, rfl⟩]
      exact FracT.none
    · rename_i hz
      rw [if_neg hz]
      split at hp
      · rename_i hm
        rw [if_pos hm]
        split at hp
        · rename_i hx
          rw [if_pos hx]
          obtain ⟨y, hr, hpe⟩ := Option.map_eq_some_iff.1 hp
          have hsq := rt_sq hr
          have hon := rd_on C.toFld hp0
          rw [hr]
          show FracT (rdx P bs, (if ub bs[0]! = 3 then 0 - y else y), 1) (pt p)
          have hb : p = (rdx P bs, if ub bs[0]! = 3 then 0 - y else y) := hpe.symm
          have hpt : pt p = some p := by
            unfold pt
            rw [if_neg]
            rintro ⟨-, h2⟩
            rw [hb] at h2
            dsimp only at h2
            split at h2
            · exact C.toFld.cur.y_ne (on_neg hsq) h2
            · exact C.toFld.cur.y_ne (on_of hsq) h2
          rw [hpt, hb]
          split
          · exact ⟨frac_one C.toFld _ _, on_neg hsq⟩
          · exact ⟨frac_one C.toFld _ _, on_of hsq⟩
        · cases hp
      · cases hp
  · cases hp
end Go.Proofs.Yticolhhalbbogae
namespace Go.Proofs.Yticolhhalbbogae
open Go.RowKit Go.Sort Go.Deep
/-- Bytes of a number, one by one, as the reference lays them. -/
def bytesTo (T : Bs) : Nat → Bs
  | 0 => Array.replicate 32 0
  | k + 1 => (bytesTo T k).setIfInBounds k T[k]!
theorem bytesTo_size (T : Bs) (k : Nat) : (bytesTo T k).size = 32 := by
  induction k with
  | zero => simp [bytesTo]
  | succ k ih => simp [bytesTo, ih]
theorem bytesTo_at (T : Bs) (k j : Nat) (hk : k ≤ 32) (hj : j < k) : (bytesTo T k)[j]! = T[j]! := by
  induction k with
  | zero => omega
  | succ k ih =>
    by_cases h : j = k
    · subst h
      exact getElem!_set_same _ _ _ (by rw [bytesTo_size]; omega)
    · rw [bytesTo, getElem!_set_other _ _ _ _ h]
      exact ih (by omega) (by omega)
theorem bytesTo_all {w : World} {g : Nat} {T : Bs} (hT : T.size = 32) (h : Holds encB w g 0 (bytesTo T 32)) : Holds encB w g 0 T := by
  intro j hj
  rw [← bytesTo_at T 32 j (Nat.le_refl _) (by omega)]
  exact h j (by rw [bytesTo_size]; omega)
/-- The word in which a byte lies. -/
def wordOf (a b c d k : Nat) : Nat := if k < 8 then a else if k < 16 then b else if k < 24 then c else d
theorem be8_at (x j : Nat) (hj : j < 8) : (be8 x)[j]! = UInt8.ofNat (x / 2 ^ (8 * (7 - j))) := by
  match j, hj with
  | 0, _ => rfl
  | 1, _ => rfl
  | 2, _ => rfl
  | 3, _ => rfl
  | 4, _ => rfl
  | 5, _ => rfl
  | 6, _ => rfl
  | 7, _ =>
    show UInt8.ofNat x = UInt8.ofNat (x / 2 ^ (8 * (7 - 7)))
    rw [Nat.sub_self, Nat.mul_zero, Nat.pow_zero, Nat.div_one]
theorem be32_at (a b c d i : Nat) (hi : i < 32) : (be32 a b c d)[i]! = UInt8.ofNat (wordOf a b c d (31 - i) / 2 ^ (8 * ((31 - i) % 8))) := by
  have e : be32 a b c d = be8 d ++ be8 c ++ be8 b ++ be8 a := rfl
  have s1 : (be8 d ++ be8 c).size = 16 := by simp only [Array.size_append, be8_size]
  have s2 : (be8 d ++ be8 c ++ be8 b).size = 24 := by simp only [Array.size_append, be8_size]
  unfold wordOf
  by_cases k1 : i < 8
  · rw [if_neg (by omega), if_neg (by omega), if_neg (by omega), show (31 - i) % 8 = 7 - i by omega, ← be8_at d i k1,
      e, app_front _ _ i (by omega), ← getElem!_pos (be8 d ++ be8 c ++ be8 b) i (by omega), app_front _ _ i (by omega), ← getElem!_pos (be8 d ++ be8 c) i (by omega), app_front _ _ i (by rw [be8_size]; exact k1), ← getElem!_pos (be8 d) i (by rw [be8_size]; exact k1)]
  · by_cases k2 : i < 16
    · rw [if_neg (by omega), if_neg (by omega), if_pos (by omega), show (31 - i) % 8 = 7 - (i - 8) by omega, ← be8_at c (i - 8) (by omega),
        e, app_front _ _ i (by omega), ← getElem!_pos (be8 d ++ be8 c ++ be8 b) i (by omega), app_front _ _ i (by omega), ← getElem!_pos (be8 d ++ be8 c) i (by omega), app_back _ _ i (by rw [be8_size]; omega) (by rw [be8_size, be8_size]; omega), be8_size]
    · by_cases k3 : i < 24
      · rw [if_neg (by omega), if_pos (by omega), show (31 - i) % 8 = 7 - (i - 16) by omega, ← be8_at b (i - 16) (by omega),
          e, app_front _ _ i (by omega), ← getElem!_pos (be8 d ++ be8 c ++ be8 b) i (by omega), app_back _ _ i (by omega) (by rw [s1, be8_size]; omega), s1]
      · rw [if_pos (by omega), show (31 - i) % 8 = 7 - (i - 24) by omega, ← be8_at a (i - 24) (by omega),
          e, app_back _ _ i (by omega) (by rw [s2, be8_size]; omega), s2]
theorem wordOf_lt {a b c d : Nat} (k : Nat) (ha : a < 18446744073709551616) (hb : b < 18446744073709551616) (hc : c < 18446744073709551616) (hd : d < 18446744073709551616) : wordOf a b c d k < 18446744073709551616 := by
  unfold wordOf; split; exact ha; split; exact hb; split; exact hc; exact hd
theorem At4.word {w : World} {k a b c d : Nat} (h : At4 w k a b c d) (i : Nat) (hi : i < 32) : w.cell? ⟨k, i / 8, none⟩ = some (.int .u64 (wordOf a b c d i : Int)) := by
  unfold wordOf
  by_cases h1 : i < 8
  · rw [if_pos h1, show i / 8 = 0 by omega]; exact h.c0
  · rw [if_neg h1]
    by_cases h2 : i < 16
    · rw [if_pos h2, show i / 8 = 1 by omega]; exact h.c1
    · rw [if_neg h2]
      by_cases h3 : i < 24
      · rw [if_pos h3, show i / 8 = 2 by omega]; exact h.c2
      · rw [if_neg h3, show i / 8 = 3 by omega]; exact h.c3
set_option maxHeartbeats 2000000 in
set_option maxRecDepth 100000 in
theorem rBytes_any (x : Value) (m : Nat) (w : World) (hx : Four x m) :
    Calls Try.prog 22 #[x] w (Ret fun e w' => Below w.heap.size w w' ∧ ∃ a b c d : Nat, x = .agg #[.int .u64 (a : Int), .int .u64 (b : Int), .int .u64 (c : Int), .int .u64 (d : Int)] ∧ e = .string ⟨be32 a b c d⟩) := by
  obtain ⟨a, b, c, d, rfl, ha, hb, hc, hd, em⟩ := hx
  clear em
  have hmk : ∀ w : World, (Instr.makeSlice 22 (.int .i64 32) (.int .i64 32)).run Try.prog w = .ok (.slice (some ⟨w.heap.size, 0, none⟩) 32 32) (w.alloc (.cells (madeCells #[.int .u8 0] 32) 5)) :=
    run_make_row' (P := Try.prog) 22 5 (.int .u8 0) 1 slice22 info5 rfl .i64 .i64 32 (by omega) (by omega)
  go_enter Try.func22, Try.ntmps22
  go_wp2
  have hH0 : Holds encB (((w.alloc (.cells #[.int .u64 (a : Int), .int .u64 (b : Int), .int .u64 (c : Int), .int .u64 (d : Int)] 44)).alloc (.cells (madeCells #[.int .u8 0] 32) 5))) (w.heap.size + 1) 0 (Array.replicate 32 0) := by
    have := Holds.made (enc := encB) (w.alloc (.cells #[.int .u64 (a : Int), .int .u64 (b : Int), .int .u64 (c : Int), .int .u64 (d : Int)] 44)) 5 32 0
    rw [World.size_alloc] at this
    exact this
  have hb0 := below2 w (.cells #[.int .u64 (a : Int), .int .u64 (b : Int), .int .u64 (c : Int), .int .u64 (d : Int)] 44) (.cells (madeCells #[.int .u8 0] 32) 5)
  have X := (At4.made w 44 a b c d rfl).alloc (.cells (madeCells #[.int .u8 0] 32) 5)
  generalize World.alloc _ _ = W at hH0 hb0 X ⊢
  have HBW : Hid (Below w.heap.size w W) := hb0
  clear hb0 hmk
  go_loopg [4] 32 (fun gk s4 wr => ∃ (k : Nat), k + gk = 32 ∧ s4 = .int .i64 (k : Int) ∧ Holds encB wr (w.heap.size + 1) 0 (bytesTo (be32 a b c d) k) ∧ At4 wr w.heap.size a b c d ∧ Hid (Below w.heap.size w wr))
  case atStart => exact ⟨0, rfl, rfl, hH0, X, HBW⟩
  case round =>
    obtain ⟨k, hk, rfl, hB, X', HB⟩ := hrel
    by_cases hlt : k < 32
    · obtain ⟨c0, f0⟩ := hB k (by rw [bytesTo_size]; omega)
      rw [Nat.zero_add] at c0 f0
      have xw := X'.word (31 - k) (by omega)
      have hwl := wordOf_lt (31 - k) ha hb hc hd
      have hbyte := be32_at a b c d k hlt
      obtain ⟨q, hq⟩ : ∃ q, 31 - k = q := ⟨_, rfl⟩
      rw [hq] at xw hwl hbyte
      generalize wordOf a b c d q = v at xw hwl hbyte
      have i1 : (31 : Int) - (k : Int) = (q : Int) := by omega
      have i2 : (q : Int).tdiv 8 = ((q / 8 : Nat) : Int) := by rw [Int.tdiv_eq_ediv_of_nonneg (by omega)]; omega
      have i3 : (q : Int).tmod 8 = ((q % 8 : Nat) : Int) := by rw [Int.tmod_eq_emod_of_nonneg (by omega)]; omega
      have i4 : (q / 8 : Nat) < 4 := by omega
      have hlt' : (k : Int) < 32 := by omega
      have hs1 : (8 : Int) * ((q % 8 : Nat) : Int) = ((8 * (q % 8) : Nat) : Int) := by omega
      have hv : (Value.int .u8 ((v : Int) / 2 ^ (8 * (q % 8)) % 256)) = encB (be32 a b c d)[k]! := by
        rw [hbyte, ← byte_at v (2 ^ (8 * (q % 8))), Int.natCast_pow]
        rfl
      have Hv : Hid (_ = _) := hv
      clear hv hbyte hq
      go_wp2
      rw [Hv.out]
      go_roundg (gk - 1)
      case measure => omega
      case rel =>
        refine ⟨k + 1, by omega, rfl, ?_, X'.other (by omega) _, HB.out.setCell (p := ⟨w.heap.size + 1, k, none⟩) (Nat.le_succ _) _⟩
        have := Holds.set hB (i := k) (by rw [bytesTo_size]; omega) (be32 a b c d)[k]!
        rw [Nat.zero_add] at this
        exact this
    · have hk32 : k = 32 := by omega
      subst hk32
      have hT := bytesTo_all (be32_size a b c d) hB
      have kc := conv_str Try.prog 22 9 5 slice22 int5 str9 wr (w.heap.size + 1) 0 32 32 _ hT (be32_size a b c d)
      clear hB hT
      go_wp2
      go_ret
      exact ⟨_, rfl, HB.out, a, b, c, d, rfl, rfl⟩
end Go.Proofs.Yticolhhalbbogae
namespace Go.Proofs.Yticolhhalbbogae
open Go.RowKit Go.Sort Go.Deep
/-- The order. -/
structure Ord (N : Nat) : Prop where
  gap : Gap 4624529908474429119 4994812053365940164 1 N
  ref : RefP 13822214165235122497 13451932020343611451 18446744073709551614 18446744073709551615 4624529908474429119 4994812053365940164 1 0 N
  le : N ≤ top
  n2 : 2 ≤ N % 18446744073709551616
variable {N : Nat}
theorem Ord.pos (O : Ord N) : 0 < N := by have := O.n2; omega
theorem Ord.four (O : Ord N) {a : Nat} (h : a < N) : Four (nv a) a := four_nv (Nat.lt_of_lt_of_le h O.le)
def sMi (N a b : Nat) : Nat := (a + N - b) % N
def sTi (N a b : Nat) : Nat := a * b % N
def sIn (N a : Nat) : Nat := a ^ (N - 2) % N
theorem Ord.mi (O : Ord N) (a b : Nat) : sMi N a b < N := Nat.mod_lt _ O.pos
theorem Ord.ti (O : Ord N) (a b : Nat) : sTi N a b < N := Nat.mod_lt _ O.pos
theorem Ord.inv (O : Ord N) (a : Nat) : sIn N a < N := Nat.mod_lt _ O.pos
theorem sMinus_c (O : Ord N) {a b : Nat} (ha : a < N) (hb : b < N) : Gives 33 #[gv1, nv a, nv b] (nv (sMi N a b)) := fun w =>
  (Minus_any _ _ _ N _ _ a b O.gap (O.four ha) (O.four hb) ha hb w).mono (by rintro e w' ⟨v, rfl, hb, hF⟩; exact ⟨_, rfl, hb, hF.nv⟩)
theorem sTimes_c (O : Ord N) {a b : Nat} (ha : a < N) (hb : b < N) : Gives 34 #[gv1, nv a, nv b] (nv (sTi N a b)) := fun w =>
  (Times_any _ _ _ N _ _ a b O.gap (O.four ha) (O.four hb) w).mono (by rintro e w' ⟨v, rfl, hb, hF⟩; exact ⟨_, rfl, hb, hF.nv⟩)
theorem sInv_c (O : Ord N) {a : Nat} (ha : a < N) : Gives 35 #[gv1, nv a] (nv (sIn N a)) := fun w =>
  (Inverse_any _ _ _ N _ a O.gap O.n2 (O.four ha) w).mono (by rintro e w' ⟨v, rfl, hb, hF⟩; exact ⟨_, rfl, hb, hF.nv⟩)
theorem qSub_c (O : Ord N) {a b : Nat} (ha : a < N) (hb : b < N) : Gives 20 #[rv1, nv a, nv b] (nv (sMi N a b)) := fun w =>
  (rSub_any _ _ _ _ _ _ _ _ N _ _ a b O.ref (O.four ha) (O.four hb) hb w).mono (by rintro e w' ⟨v, rfl, hb, hF⟩; exact ⟨_, rfl, hb, hF.nv⟩)
theorem qMul_c (O : Ord N) {a b : Nat} (ha : a < N) (hb : b < N) : Gives 19 #[rv1, nv a, nv b] (nv (sTi N a b)) := fun w =>
  (rMul_R O.ref (O.four ha) (O.four hb) w).mono (by rintro e w' ⟨v, rfl, hb, hF⟩; exact ⟨_, rfl, hb, hF.nv⟩)
theorem qInv_c (O : Ord N) {a : Nat} (ha : a < N) : Gives 21 #[rv1, nv a] (nv (sIn N a)) := fun w =>
  (rInv_any _ _ _ _ _ _ _ _ N _ a O.ref (O.four ha) w).mono (by rintro e w' ⟨v, rfl, hb, hF⟩; exact ⟨_, rfl, hb, hF.nv⟩)
theorem nv_words {a x y z u : Nat} (h : nv a = .agg #[.int .u64 (x : Int), .int .u64 (y : Int), .int .u64 (z : Int), .int .u64 (u : Int)]) : be32 x y z u = bx a := by
  have h1 : wn a = [.int .u64 (x : Int), .int .u64 (y : Int), .int .u64 (z : Int), .int .u64 (u : Int)] := by
    unfold nv at h
    injection h with h
    exact congrArg Array.toList h
  unfold wn at h1
  simp only [List.cons.injEq, Value.int.injEq, true_and, and_true, Int.natCast_inj] at h1
  obtain ⟨rfl, rfl, rfl, rfl⟩ := h1
  rfl
theorem qBytes_c (O : Ord N) {a : Nat} (ha : a < N) : Gives 22 #[nv a] (.string ⟨bx a⟩) := fun w =>
  (rBytes_any _ a w (O.four ha)).mono (by
    rintro e w' ⟨v, rfl, hb, x, y, z, u, he, rfl⟩
    exact ⟨_, rfl, hb, by rw [nv_words he]⟩)
/-- Bytes as cells. -/
def cb (b : Bs) : List Value := b.toList.map encB
theorem cb_length (b : Bs) : (cb b).length = b.size := by unfold cb; rw [List.length_map, Array.length_toList]
theorem cb_range {w : World} {g : Nat} {b : Bs} (h : Holds encB w g 0 b) : w.rangeAt g 0 (cb b) ∧ w.there g 0 (cb b).length := by
  refine ⟨fun j v hv => ?_, fun j hj => ?_⟩
  · have hj : j < b.size := by rw [← cb_length]; exact (List.getElem?_eq_some_iff.1 hv).1
    rw [(h j hj).1]
    unfold cb at hv
    rw [List.getElem?_map, Array.getElem?_toList, Array.getElem?_eq_getElem hj] at hv
    rw [getElem!_pos b j hj]
    exact hv
  · rw [cb_length] at hj
    exact ⟨by rw [(h j hj).1]; rfl, (h j hj).2⟩
theorem cb_holds {w : World} {g : Nat} {b : Bs} (h1 : w.rangeAt g 0 (cb b)) (h2 : w.there g 0 (cb b).length) : Holds encB w g 0 b := fun j hj => by
  refine ⟨h1 j _ ?_, (h2 j (by rw [cb_length]; exact hj)).2⟩
  unfold cb
  rw [List.getElem?_map, Array.getElem?_toList, Array.getElem?_eq_getElem hj, getElem!_pos b j hj]
  rfl
/-- A call answers new memory: n bytes. -/
def GivesB (f : FuncId) (args : Array Value) (b : Bs) (n : Nat) : Prop := ∀ w, Calls Try.prog f args w (Ret fun e w' => ∃ k, RG.Made w k (cb b) w' ∧ e = .slice (some ⟨k, 0, none⟩) n n)
theorem sBytes_c (O : Ord N) {a : Nat} (ha : a < N) : GivesB 36 #[nv a] (bx a) 32 := fun w =>
  (Bytes_any _ a w (O.four ha)).mono (by
    rintro e w' ⟨v, rfl, hb, g, x, y, z, u, rfl, hle, he, hH⟩
    rw [nv_words he] at hH
    obtain ⟨h1, h2⟩ := cb_range hH
    exact ⟨_, rfl, g, ⟨hb, hle, Holds.lt hH (by rw [bx_size]; omega), h1, h2⟩, rfl⟩)
/-- Two numbers are one? -/
theorem nv_inj {a b : Nat} (ha : a < top) (hb : b < top) : (nv a = nv b) ↔ a = b := ⟨fun h => (four_nv ha).num (h ▸ four_nv hb), fun h => h ▸ rfl⟩
end Go.Proofs.Yticolhhalbbogae
namespace Go.Proofs.Yticolhhalbbogae
open Go.RowKit Go.Sort Go.Deep
theorem eqN {a b : Nat} (ha : a < top) (hb : b < top) (w : World) : (binOp .eql 44 (nv a) (nv b)).run Try.prog w = .ok (.bool (decide (a = b))) w := by
  have h1 : (binOp .eql 44 (nv a) (nv b)).run Try.prog w = .ok (.bool (decide (a % 18446744073709551616 = b % 18446744073709551616 ∧ a / 18446744073709551616 % 18446744073709551616 = b / 18446744073709551616 % 18446744073709551616 ∧ a / 340282366920938463463374607431768211456 % 18446744073709551616 = b / 340282366920938463463374607431768211456 % 18446744073709551616 ∧ a / 6277101735386680763835789423207666416102355444464034512896 % 18446744073709551616 = b / 6277101735386680763835789423207666416102355444464034512896 % 18446744073709551616))) w := by
    show (binOp .eql 44 (.agg _) (.agg _)).run Try.prog w = _
    rw [run_eql_struct]
    have h2 := eqR_d 9998 (a % 18446744073709551616) (a / 18446744073709551616 % 18446744073709551616) (a / 340282366920938463463374607431768211456 % 18446744073709551616) (a / 6277101735386680763835789423207666416102355444464034512896 % 18446744073709551616) (b % 18446744073709551616) (b / 18446744073709551616 % 18446744073709551616) (b / 340282366920938463463374607431768211456 % 18446744073709551616) (b / 6277101735386680763835789423207666416102355444464034512896 % 18446744073709551616) w
    unfold wn
    rw [h2, Result.andThen_ok]
  rw [h1]
  simp only [wn_inj ha hb]
theorem eqS2 (a b c d p q r s : Nat) (w : World) : (binOp .eql 40 (.agg #[.int .u64 (a : Int), .int .u64 (b : Int), .int .u64 (c : Int), .int .u64 (d : Int)]) (.agg #[.int .u64 (p : Int), .int .u64 (q : Int), .int .u64 (r : Int), .int .u64 (s : Int)])).run Try.prog w = .ok (.bool (decide (a = p ∧ b = q ∧ c = r ∧ d = s))) w := by
  go_simp
  rw [eqP_d 9997, Result.andThen_ok]
  by_cases h1 : a = p ∧ b = q ∧ c = r ∧ d = s
  · rw [decide_eq_true h1]
    obtain ⟨rfl, rfl, rfl, rfl⟩ := h1
    simp
  · have h2 : (decide (a = p) && (decide (b = q) && (decide (c = r) && decide (d = s)))) = false := by
      rw [← Bool.not_eq_true, Bool.and_eq_true, Bool.and_eq_true, Bool.and_eq_true]
      simpa using h1
    rw [decide_eq_false h1, h2]
    simp
theorem eqS {a b : Nat} (ha : a < top) (hb : b < top) (w : World) : (binOp .eql 40 (nv a) (nv b)).run Try.prog w = .ok (.bool (decide (a = b))) w := by
  refine (eqS2 (a % 18446744073709551616) (a / 18446744073709551616 % 18446744073709551616) (a / 340282366920938463463374607431768211456 % 18446744073709551616) (a / 6277101735386680763835789423207666416102355444464034512896 % 18446744073709551616) (b % 18446744073709551616) (b / 18446744073709551616 % 18446744073709551616) (b / 340282366920938463463374607431768211456 % 18446744073709551616) (b / 6277101735386680763835789423207666416102355444464034512896 % 18446744073709551616) w).trans ?_
  simp only [wn_inj ha hb]
end Go.Proofs.Yticolhhalbbogae
set_option linter.unusedVariables false
namespace Go.Proofs.Yticolhhalbbogae
open Go.RowKit Go.Sort Go.Deep
variable {N : Nat}
theorem u40 : (Try.prog.underlying 40).map (·.isRow) = some true := by kernel_rfl
theorem i40 : (Try.prog.info? 40).map (·.size) = some 4 := by kernel_rfl
theorem u38 : (Try.prog.underlying 38).map (·.isRow) = some true := by kernel_rfl
theorem i38 : (Try.prog.info? 38).map (·.size) = some 4 := by kernel_rfl
theorem u44 : (Try.prog.underlying 44).map (·.isRow) = some true := by kernel_rfl
theorem i44 : (Try.prog.info? 44).map (·.size) = some 4 := by kernel_rfl
theorem u48 : (Try.prog.underlying 48).map (·.isRow) = some true := by kernel_rfl
theorem i48 : (Try.prog.info? 48).map (·.size) = some 8 := by kernel_rfl
def F13_0 : List RG.It := [.m 2 [] 0, .m 3 [] 1, .m 4 [] 2]
def F13_1 (N a b : Nat) : List RG.It := [.c 5 [] gv1, .s 6 [] (.p 0 0), .x 7 [(6, 1)] (nv a), .s 8 [] (.p 1 0), .x 9 [(8, 3)] (nv b), .c 10 [(5, 0), (7, 2), (9, 4)] (nv (sMi N a b)), .x 11 [(10, 5)] (nv (sMi N a b)), .u [(11, 6)] 2]
set_option maxHeartbeats 2000000 in
set_option maxRecDepth 100000 in
theorem sMin_c (O : Ord N) (a b : Nat) (ha : a < N) (hb : b < N) : Gives 13 #[(nv a), (nv b)] (nv (sMi N a b)) := by
  intro w
  go_enter Try.func13, Try.ntmps13
  refine RG.M.enter [(0, (.v (nv a))), (1, (.v (nv b)))] 12 (by kernel_rfl) ?_
  intro a0 M0
  repeat refine wp_seq ?_
  refine M0.tx F13_0 [(0, (wn a)), (1, (wn b)), (2, (RG.z 4))] [] [(wn a), (wn b), (RG.z 4)] [(2, (.p 0 0)), (3, (.p 1 0)), (4, (.p 2 0))] (by kernel_rfl) (by kernel_rfl) ⟨RG.mk 0 40 fun _ _ => by kernel_rfl, RG.mk 1 40 fun _ _ => by kernel_rfl, RG.mk 2 40 fun _ _ => by kernel_rfl, trivial⟩ ?_
  intro j1 i1 m1 a1 w1 M1
  repeat refine wp_seq ?_
  refine M1.dr (by kernel_rfl) (F13_1 N a b) [] [(2, 7, (wn (sMi N a b)))] [(wn a), (wn b), (wn (sMi N a b))] [(4, (.p 2 0))] (by kernel_rfl) (by kernel_rfl) ⟨RG.cl (Scalars_c) fun _ _ => by kernel_rfl, RG.st fun _ _ => by kernel_rfl, RG.ld u38 i38 (by kernel_rfl), RG.st fun _ _ => by kernel_rfl, RG.ld u38 i38 (by kernel_rfl), RG.cl (sMinus_c O ha hb) fun _ _ => by kernel_rfl, RG.st fun _ _ => by kernel_rfl, RG.pt i40 (by kernel_rfl), trivial⟩ ?_
  intro a2 w2 M2
  refine wp_ret ?_
  refine bodyPost_ret (v := (nv (sMi N a b))) (RG.results_row M2.st 4 40 rfl 2 _ rfl (M2.at (s := (.p 2 0)) (by kernel_rfl)) u40 i40) M2.sl.defers ?_
  exact ⟨_, rfl, M2.st.bel.below, rfl⟩
def F14_0 : List RG.It := [.m 2 [] 0, .m 3 [] 1, .m 4 [] 2]
def F14_1 (N a b : Nat) : List RG.It := [.c 5 [] gv1, .s 6 [] (.p 0 0), .x 7 [(6, 1)] (nv a), .s 8 [] (.p 1 0), .x 9 [(8, 3)] (nv b), .c 10 [(5, 0), (7, 2), (9, 4)] (nv (sTi N a b)), .x 11 [(10, 5)] (nv (sTi N a b)), .u [(11, 6)] 2]
set_option maxHeartbeats 2000000 in
set_option maxRecDepth 100000 in
theorem sTim_c (O : Ord N) (a b : Nat) (ha : a < N) (hb : b < N) : Gives 14 #[(nv a), (nv b)] (nv (sTi N a b)) := by
  intro w
  go_enter Try.func14, Try.ntmps14
  refine RG.M.enter [(0, (.v (nv a))), (1, (.v (nv b)))] 12 (by kernel_rfl) ?_
  intro a0 M0
  repeat refine wp_seq ?_
  refine M0.tx F14_0 [(0, (wn a)), (1, (wn b)), (2, (RG.z 4))] [] [(wn a), (wn b), (RG.z 4)] [(2, (.p 0 0)), (3, (.p 1 0)), (4, (.p 2 0))] (by kernel_rfl) (by kernel_rfl) ⟨RG.mk 0 40 fun _ _ => by kernel_rfl, RG.mk 1 40 fun _ _ => by kernel_rfl, RG.mk 2 40 fun _ _ => by kernel_rfl, trivial⟩ ?_
  intro j1 i1 m1 a1 w1 M1
  repeat refine wp_seq ?_
  refine M1.dr (by kernel_rfl) (F14_1 N a b) [] [(2, 7, (wn (sTi N a b)))] [(wn a), (wn b), (wn (sTi N a b))] [(4, (.p 2 0))] (by kernel_rfl) (by kernel_rfl) ⟨RG.cl (Scalars_c) fun _ _ => by kernel_rfl, RG.st fun _ _ => by kernel_rfl, RG.ld u38 i38 (by kernel_rfl), RG.st fun _ _ => by kernel_rfl, RG.ld u38 i38 (by kernel_rfl), RG.cl (sTimes_c O ha hb) fun _ _ => by kernel_rfl, RG.st fun _ _ => by kernel_rfl, RG.pt i40 (by kernel_rfl), trivial⟩ ?_
  intro a2 w2 M2
  refine wp_ret ?_
  refine bodyPost_ret (v := (nv (sTi N a b))) (RG.results_row M2.st 4 40 rfl 2 _ rfl (M2.at (s := (.p 2 0)) (by kernel_rfl)) u40 i40) M2.sl.defers ?_
  exact ⟨_, rfl, M2.st.bel.below, rfl⟩
def F15_0 : List RG.It := [.m 1 [] 0, .m 2 [] 1]
def F15_1 (N a : Nat) : List RG.It := [.c 3 [] gv1, .s 4 [] (.p 0 0), .x 5 [(4, 1)] (nv a), .c 6 [(3, 0), (5, 2)] (nv (sIn N a)), .x 7 [(6, 3)] (nv (sIn N a)), .u [(7, 4)] 1]
set_option maxHeartbeats 2000000 in
set_option maxRecDepth 100000 in
theorem sInv2_c (O : Ord N) (a : Nat) (ha : a < N) : Gives 15 #[(nv a)] (nv (sIn N a)) := by
  intro w
  go_enter Try.func15, Try.ntmps15
  refine RG.M.enter [(0, (.v (nv a)))] 8 (by kernel_rfl) ?_
  intro a0 M0
  repeat refine wp_seq ?_
  refine M0.tx F15_0 [(0, (wn a)), (1, (RG.z 4))] [] [(wn a), (RG.z 4)] [(1, (.p 0 0)), (2, (.p 1 0))] (by kernel_rfl) (by kernel_rfl) ⟨RG.mk 0 40 fun _ _ => by kernel_rfl, RG.mk 1 40 fun _ _ => by kernel_rfl, trivial⟩ ?_
  intro j1 i1 a1 w1 M1
  repeat refine wp_seq ?_
  refine M1.dr (by kernel_rfl) (F15_1 N a) [] [(1, 5, (wn (sIn N a)))] [(wn a), (wn (sIn N a))] [(2, (.p 1 0))] (by kernel_rfl) (by kernel_rfl) ⟨RG.cl (Scalars_c) fun _ _ => by kernel_rfl, RG.st fun _ _ => by kernel_rfl, RG.ld u38 i38 (by kernel_rfl), RG.cl (sInv_c O ha) fun _ _ => by kernel_rfl, RG.st fun _ _ => by kernel_rfl, RG.pt i40 (by kernel_rfl), trivial⟩ ?_
  intro a2 w2 M2
  refine wp_ret ?_
  refine bodyPost_ret (v := (nv (sIn N a))) (RG.results_row M2.st 2 40 rfl 1 _ rfl (M2.at (s := (.p 1 0)) (by kernel_rfl)) u40 i40) M2.sl.defers ?_
  exact ⟨_, rfl, M2.st.bel.below, rfl⟩
def FSR_0 : List RG.It := [.m 2 [] 0, .x 3 [] (.bool false)]
def FSR_1 (v : Value) (m : Nat) (ok : Bool) : List RG.It := [.c 7 [] gv1, .x 8 [] v, .c 9 [(7, 0), (8, 1)] (.tuple #[(nv m), (.bool ok)]), .x 6 [(9, 2)] (.tuple #[(nv m), (.bool ok)]), .x 10 [(6, 3)] (nv m), .x 11 [(6, 3)] (.bool ok), .m 4 [] 1, .u [(4, 6), (10, 4)] 1, .x 5 [(11, 5)] (.bool ok)]
def FSR_2 (m : Nat) (ok : Bool) : List RG.It := [.x 12 [] (nv m), .x 13 [(12, 0)] (nv m), .x 14 [] (.bool ok), .u [(13, 1)] 0, .x 3 [(14, 2)] (.bool ok)]
set_option maxHeartbeats 2000000 in
set_option maxRecDepth 100000 in
theorem sread_m (v : Value) (m : Nat) (ok : Bool) (w : World) (hrd : ∀ w', RG.BelX w.heap.size [] w w' → Calls Try.prog 32 #[gv1, v] w' (Ret fun e w'' => Below w'.heap.size w' w'' ∧ e = .tuple #[nv m, .bool ok])) :
    Calls Try.prog 12 #[v] w (Ret fun e w' => Below w.heap.size w w' ∧ e = .tuple #[nv m, .bool ok]) := by
  go_enter Try.func12, Try.ntmps12
  refine RG.M.enter [(0, .v v)] 15 (by kernel_rfl) ?_
  intro a0 M0
  repeat refine wp_seq ?_
  refine M0.tx FSR_0 [(0, (RG.z 4))] [] [(RG.z 4)] [(0, (.v v)), (2, (.p 0 0)), (3, (.v (.bool false)))] (by kernel_rfl) (by kernel_rfl) ⟨RG.mk 0 40 fun _ _ => by kernel_rfl, RG.st fun _ _ => by kernel_rfl, trivial⟩ ?_
  intro j1 a1 w1 M1
  repeat refine wp_seq ?_
  refine M1.tx (FSR_1 v m ok) [(6, (RG.z 4))] [(1, 7, (wn m))] [(RG.z 4), (wn m)] [(2, (.p 0 0)), (3, (.v (.bool false))), (4, (.p 1 0)), (5, (.v (.bool ok)))] (by kernel_rfl) (by kernel_rfl) ⟨RG.cl (Scalars_c) fun _ _ => by kernel_rfl, RG.st fun _ _ => by kernel_rfl, RG.clB (fun _ _ => by kernel_rfl) hrd, RG.st fun _ _ => by kernel_rfl, RG.st fun _ _ => by kernel_rfl, RG.st fun _ _ => by kernel_rfl, RG.mk 1 38 fun _ _ => by kernel_rfl, RG.pt i38 (by kernel_rfl), RG.st fun _ _ => by kernel_rfl, trivial⟩ ?_
  intro j2 a2 w2 M2
  repeat refine wp_seq ?_
  refine M2.tx (FSR_2 m ok) [] [(0, 3, (wn m))] [(wn m), (wn m)] [(2, (.p 0 0)), (3, (.v (.bool ok)))] (by kernel_rfl) (by kernel_rfl) ⟨RG.ld u38 i38 (by kernel_rfl), RG.st fun _ _ => by kernel_rfl, RG.st fun _ _ => by kernel_rfl, RG.pt i40 (by kernel_rfl), RG.st fun _ _ => by kernel_rfl, trivial⟩ ?_
  intro a3 w3 M3
  refine wp_ret ?_
  refine bodyPost_ret (v := .tuple #[nv m, .bool ok]) (RG.results_rt M3.st 2 3 40 rfl 0 _ rfl (M3.at (s := .p 0 0) (by kernel_rfl)) _ (M3.av (v := .bool ok) (by kernel_rfl)) u40 i40) M3.sl.defers ?_
  exact ⟨_, rfl, M3.st.bel.below, rfl⟩
theorem sread_c (O : Ord N) (v : Value) (bs : Bs) (w : World) (hv : Arg w v bs) : Calls Try.prog 12 #[v] w (Ret fun e w' => Below w.heap.size w w' ∧ e = .tuple #[nv ((rq N bs).getD 0), .bool (rq N bs).isSome]) := by
  refine sread_m v _ _ w fun w' hb => ?_
  have h := readQ_c O.gap v bs w' (hv.below hb.below)
  cases hr : rq N bs with
  | none => rw [hr] at h; exact h
  | some n => rw [hr] at h; exact h
def FSB_0 : List RG.It := [.m 1 [] 0, .x 2 [] (.slice none 0 0)]
def FSB_1 (a : Nat) : List RG.It := [.s 3 [] (.p 0 0), .x 4 [(3, 0)] (nv a), ⟨some 5, [(4, 1)], (.s 1 32 32), .make 1⟩, .s 2 [(5, 2)] (.s 1 32 32)]
set_option maxHeartbeats 2000000 in
set_option maxRecDepth 100000 in
theorem sbytes_c (O : Ord N) {a : Nat} (ha : a < N) : GivesB 16 #[nv a] (bx a) 32 := by
  intro w
  go_enter Try.func16, Try.ntmps16
  refine RG.M.enter [(0, .v (nv a))] 6 (by kernel_rfl) ?_
  intro a0 M0
  repeat refine wp_seq ?_
  refine M0.tx FSB_0 [(0, (wn a))] [] [(wn a)] [(1, (.p 0 0)), (2, (.v (.slice none 0 0)))] (by kernel_rfl) (by kernel_rfl) ⟨RG.mk 0 40 fun _ _ => by kernel_rfl, RG.st fun _ _ => by kernel_rfl, trivial⟩ ?_
  intro j1 a1 w1 M1
  repeat refine wp_seq ?_
  refine M1.tx (FSB_1 a) [(2, (cb (bx a)))] [] [(wn a), (cb (bx a))] [(2, (.s 1 32 32))] (by kernel_rfl) (by kernel_rfl) ⟨RG.st fun _ _ => by kernel_rfl, RG.ld u38 i38 (by kernel_rfl), RG.cm 1 (fun w _ => sBytes_c O ha w) fun _ _ => by kernel_rfl, RG.st fun _ _ => by kernel_rfl, trivial⟩ ?_
  intro j2 a2 w2 M2
  refine wp_ret ?_
  refine bodyPost_ret (v := _) (RG.results_t 2 rfl _ (M2.at (s := .s 1 32 32) (by kernel_rfl))) M2.sl.defers ?_
  exact ⟨_, rfl, _, M2.st.made (b := 1) rfl, rfl⟩
def FQS_0 : List RG.It := [.m 2 [] 0, .x 3 [] (.bool false)]
def FQS_1 (s : ByteArray) (m : Nat) (ok : Bool) : List RG.It := [.c 4 [] rv1, .x 5 [] (.string s), .c 6 [(4, 0), (5, 1)] (.tuple #[(nv m), (.bool ok)]), .x 7 [(6, 2)] (nv m), .x 8 [(6, 2)] (.bool ok), .u [(7, 3)] 0, .x 3 [(8, 4)] (.bool ok)]
set_option maxHeartbeats 2000000 in
set_option maxRecDepth 100000 in
theorem qscal_c (O : Ord N) (s : ByteArray) : Gives 17 #[.string s] (.tuple #[nv (nuV s.data), .bool (rq N s.data).isSome]) := by
  intro w
  have hnum := rNum_v O.ref s
  obtain ⟨m, hm⟩ : ∃ m, m = nuV s.data := ⟨_, rfl⟩
  obtain ⟨ok, hok⟩ : ∃ b, b = (rq N s.data).isSome := ⟨_, rfl⟩
  rw [← hm, ← hok] at hnum ⊢
  go_enter Try.func17, Try.ntmps17
  refine RG.M.enter [(0, .v (.string s))] 9 (by kernel_rfl) ?_
  intro a0 M0
  repeat refine wp_seq ?_
  refine M0.tx FQS_0 [(0, (RG.z 4))] [] [(RG.z 4)] [(0, (.v (.string s))), (2, (.p 0 0)), (3, (.v (.bool false)))] (by kernel_rfl) (by kernel_rfl) ⟨RG.mk 0 44 fun _ _ => by kernel_rfl, RG.st fun _ _ => by kernel_rfl, trivial⟩ ?_
  intro j1 a1 w1 M1
  repeat refine wp_seq ?_
  refine M1.tx (FQS_1 s m ok) [] [(0, 5, (wn m))] [(wn m)] [(2, (.p 0 0)), (3, (.v (.bool ok)))] (by kernel_rfl) (by kernel_rfl) ⟨RG.cl (Q3_c) fun _ _ => by kernel_rfl, RG.st fun _ _ => by kernel_rfl, RG.cl (hnum) fun _ _ => by kernel_rfl, RG.st fun _ _ => by kernel_rfl, RG.st fun _ _ => by kernel_rfl, RG.pt i44 (by kernel_rfl), RG.st fun _ _ => by kernel_rfl, trivial⟩ ?_
  intro a2 w2 M2
  refine wp_ret ?_
  refine bodyPost_ret (v := .tuple #[nv m, .bool ok]) (RG.results_rt M2.st 2 3 44 rfl 0 _ rfl (M2.at (s := .p 0 0) (by kernel_rfl)) _ (M2.av (v := .bool ok) (by kernel_rfl)) u44 i44) M2.sl.defers ?_
  exact ⟨_, rfl, M2.st.bel.below, rfl⟩
end Go.Proofs.Yticolhhalbbogae
set_option linter.unusedVariables false
namespace Go.Proofs.Yticolhhalbbogae
open Go.RowKit Go.Sort Go.Deep
variable {N : Nat}
theorem u22 : (Try.prog.underlying 22).map (·.isRow) = some false := by kernel_rfl
theorem at62 (k o n c i : Nat) (hi : i < n) (w : World) : (Instr.indexAt 62 (.slice (some ⟨k, o, none⟩) n c) (.int .i64 (i : Int))).run Try.prog w = .ok (.pointer (some ⟨k, o + i, none⟩)) w := by
  have h1 : ¬ (i : Int) < 0 := by omega
  have h2 : (i : Int) < n := by omega
  go_simp
theorem at33 (k o n c i : Nat) (hi : i < n) (w : World) : (Instr.indexAt 33 (.slice (some ⟨k, o, none⟩) n c) (.int .i64 (i : Int))).run Try.prog w = .ok (.pointer (some ⟨k, o + 4 * i, none⟩)) w := by
  have h1 : ¬ (i : Int) < 0 := by omega
  have h2 : (i : Int) < n := by omega
  go_simp
theorem mkSL (N : Nat) (hN : N ≤ 512) : ∃ C0 : List Value, C0.length = 4 * N ∧ ∀ w : World, (Instr.makeSlice 33 (.int .i64 (N : Int)) (.int .i64 (N : Int))).run Try.prog w = .ok (.slice (some ⟨w.heap.size, 0, none⟩) N N) (w.alloc (.cells C0.toArray 40)) := by
  have hu : Try.prog.underlying 33 = some (.slice 40) := by kernel_rfl
  have hi : (Try.prog.info? 40).map (fun i => (i.size, decide (i.bytes ≤ 4000), i.zero.isSome)) = some (4, true, true) := by kernel_rfl
  obtain ⟨i, hi1, hi2⟩ := Option.map_eq_some_iff.1 hi
  simp only [Prod.mk.injEq, decide_eq_true_eq] at hi2
  obtain ⟨h1, h2, h3⟩ := hi2
  obtain ⟨z, hz⟩ := Option.isSome_iff_exists.1 h3
  refine ⟨(madeCells z.cells (N * 4)).toList, by rw [Array.length_toList, size_madeCells, Nat.mul_comm], fun w => ?_⟩
  have hb : (i.bytes : Int) * (N : Int) ≤ 281474976710656 := by
    have : i.bytes * N ≤ 4000 * 512 := Nat.mul_le_mul h2 hN
    have h5 : ((i.bytes * N : Nat) : Int) ≤ 281474976710656 := by omega
    rwa [Int.natCast_mul] at h5
  have := run_make (P := Try.prog) w 33 40 i z hu hi1 hz .i64 .i64 (N : Int) (N : Int) (by omega) (by omega) hb (by omega)
  rw [Int.toNat_natCast, h1] at this
  rw [Array.toArray_toList]
  exact this
def FAa_0 : List RG.It := [.x 4 [] (.slice none 0 0), .x 5 [] (.bool false)]
def FAa_1 (q : Option Addr) (n cap : Nat) : List RG.It := [.x 11 [] (.slice q n cap), .x 12 [(11, 0)] (.int .i64 (n : Int)), ⟨some 13, [(12, 1)], (.s 0 n n), .make 0⟩, .s 6 [(13, 2)] (.s 0 n n)]
def FAa_2 (q : Option Addr) (n cap : Nat) : List RG.It := [.x 14 [] (.slice q n cap), .x 15 [(14, 0)] (.int .i64 (n : Int)), .x 16 [] (.int .i64 0)]
def FAb_3 : List RG.It := [.x 17 [] (.bool true)]
def FAb_4 (gg i : Nat) (v : Value) : List RG.It := [.x 18 [] (.int .i64 (i : Int)), .x 19 [] (.pointer (some ⟨gg, (0 + i), none⟩)), .x 20 [(19, 1)] v, .x 7 [(18, 0)] (.int .i64 (i : Int)), .x 8 [(20, 2)] v]
def FAb_5 (m : Nat) (v : Value) : List RG.It := [.x 22 [] (.func (.func 12) #[] #[]), .x 23 [] v, .c 24 [(22, 0), (23, 1)] (.tuple #[(nv m), (.bool true)]), .x 21 [(24, 2)] (.tuple #[(nv m), (.bool true)]), .x 25 [(21, 3)] (nv m), .x 26 [(21, 3)] (.bool true), .m 9 [] 1, .u [(9, 6), (25, 4)] 1, .x 10 [(26, 5)] (.bool true)]
def FAb_6 : List RG.It := [.x 27 [] (.bool true), .x 28 [(27, 0)] (.bool false)]
def FAb_8 (n i m : Nat) : List RG.It := [.s 29 [] (.s 0 n n), .x 30 [] (.int .i64 (i : Int)), .x 31 [] (nv m), .s 32 [(29, 0), (30, 1)] (.p 0 (0 + 4 * i)), .u [(32, 3), (31, 2)] 0]
def FAb_9 (i : Nat) : List RG.It := [.x 33 [] (.int .i64 ((i + 1 : Nat) : Int)), .x 16 [(33, 0)] (.int .i64 ((i + 1 : Nat) : Int))]
def FAf_3 : List RG.It := [.x 17 [] (.bool true)]
def FAf_4 (gg i : Nat) (v : Value) : List RG.It := [.x 18 [] (.int .i64 (i : Int)), .x 19 [] (.pointer (some ⟨gg, (0 + i), none⟩)), .x 20 [(19, 1)] v, .x 7 [(18, 0)] (.int .i64 (i : Int)), .x 8 [(20, 2)] v]
def FAf_5 (m : Nat) (v : Value) : List RG.It := [.x 22 [] (.func (.func 12) #[] #[]), .x 23 [] v, .c 24 [(22, 0), (23, 1)] (.tuple #[(nv m), (.bool false)]), .x 21 [(24, 2)] (.tuple #[(nv m), (.bool false)]), .x 25 [(21, 3)] (nv m), .x 26 [(21, 3)] (.bool false), .m 9 [] 1, .u [(9, 6), (25, 4)] 1, .x 10 [(26, 5)] (.bool false)]
def FAf_6 : List RG.It := [.x 27 [] (.bool false), .x 28 [(27, 0)] (.bool true)]
def FAf_7 : List RG.It := [.x 4 [] (.slice none 0 0), .x 5 [] (.bool false)]
def FAe_3 : List RG.It := [.x 17 [] (.bool false)]
def FAe_10 (n : Nat) : List RG.It := [.s 34 [] (.s 0 n n), .s 4 [(34, 0)] (.s 0 n n), .x 5 [] (.bool true)]
/-- What allOf answers. -/
def AllR (N : Nat) (w : World) (n : Nat) (L : Nat → Bs) (e : Value) (w' : World) : Prop :=
  ((∃ j, j < n ∧ rq N (L j) = none) ∧ Below w.heap.size w w' ∧ e = .tuple #[.slice none 0 0, .bool false]) ∨
  ((∀ j, j < n → (rq N (L j)).isSome = true) ∧ ∃ k C, RG.Made w k C w' ∧ Rows 4 n (fun j => wn ((rq N (L j)).getD 0)) n C ∧ e = .tuple #[.slice (some ⟨k, 0, none⟩) n n, .bool true])
set_option maxHeartbeats 4000000 in
set_option maxRecDepth 100000 in
theorem allOf_c (O : Ord N) (n cap : Nat) (hn : n ≤ 512) (q : Option Addr) (L : Nat → Bs) (w : World) (hA : Args w q n L) : Calls Try.prog 11 #[(.func (.func 12) #[] #[]), .slice q n cap] w (Ret fun e w' => AllR N w n L e w') := by
  obtain ⟨C, hCl, hmk⟩ := mkSL n hn
  go_enter Try.func11, Try.ntmps11
  refine RG.M.enter [(0, .v (.func (.func 12) #[] #[])), (1, .v (.slice q n cap))] 35 (by kernel_rfl) ?_
  intro a0 M0
  repeat refine wp_seq ?_
  refine M0.tx0 FAa_0 [(0, (.v (.func (.func 12) #[] #[]))), (1, (.v (.slice q n cap)))] (by kernel_rfl) ⟨RG.st fun _ _ => by kernel_rfl, RG.st fun _ _ => by kernel_rfl, trivial⟩ ?_
  intro a1 w1 M1
  repeat refine wp_seq ?_
  refine M1.tx (FAa_1 q n cap) [(2, C)] [] [C] [(0, (.v (.func (.func 12) #[] #[]))), (1, (.v (.slice q n cap))), (6, (.s 0 n n))] (by kernel_rfl) (by kernel_rfl) ⟨RG.st fun _ _ => by kernel_rfl, RG.st fun _ _ => by kernel_rfl, RG.cert_makes 0 rfl _ rfl 33 40 12 12 n rfl rfl (RG.sx fun _ => by kernel_rfl) (RG.sx fun _ => by kernel_rfl) (hmk), RG.st fun _ _ => by kernel_rfl, trivial⟩ ?_
  intro j2 a2 w2 M2
  repeat refine wp_seq ?_
  refine M2.tx0 (FAa_2 q n cap) [(0, (.v (.func (.func 12) #[] #[]))), (6, (.s 0 n n)), (14, (.v (.slice q n cap))), (15, (.v (.int .i64 (n : Int)))), (16, (.v (.int .i64 0)))] (by kernel_rfl) ⟨RG.st fun _ _ => by kernel_rfl, RG.st fun _ _ => by kernel_rfl, RG.st fun _ _ => by kernel_rfl, trivial⟩ ?_
  intro a3 w3 M3
  repeat refine wp_seq ?_
  refine wp_block ?_
  refine wp_loop_ghost (fun m a wr => ∃ (i : Nat) (C : List Value) (kt : Nat), i + m = n ∧ (∀ j, j < i → (rq N (L j)).isSome = true) ∧ Rows 4 n (fun j => wn ((rq N (L j)).getD 0)) i C ∧ RG.M w w.heap.size [] 35 [C] [kt] [(0, .v (.func (.func 12) #[] #[])), (6, .s 0 n n), (14, .v (.slice q n cap)), (15, .v (.int .i64 (n : Int))), (16, .v (.int .i64 (i : Int)))] a wr) n ⟨0, C, _, by omega, fun j hj => by omega, ⟨hCl, fun j r hj => by omega⟩, M3⟩ ?_
  clear hmk
  intro m' a wr
  rintro ⟨i, C, kt, him, hall, hR, M20⟩
  by_cases hi : i < n
  · obtain ⟨gg, hqe, hgg, hc⟩ := hA (by omega)
    subst hqe
    obtain ⟨v, hv, harg⟩ := hc i hi
    have hcell : w.cell? ⟨gg, 0 + i, none⟩ = some v := by rw [Nat.zero_add]; exact hv
    have hrd0 := fun w' (hb : RG.BelX w.heap.size [] w w') => sread_c O v (L i) w' (harg.below hb.below)
    obtain ⟨m, hm⟩ : ∃ m, m = (rq N (L i)).getD 0 := ⟨_, rfl⟩
    cases hok : (rq N (L i)).isSome with
    | true =>
      have hrd : ∀ w', RG.BelX w.heap.size [] w w' → Calls Try.prog 12 #[v] w' (Ret fun e w'' => Below w'.heap.size w' w'' ∧ e = .tuple #[nv m, .bool true]) := fun w' hb => by
        have h := hrd0 w' hb
        rw [hok, ← hm] at h
        exact h
      have hlen := hR.len
      have hoff : 0 + 4 * i + (wn m).length ≤ C.length := by rw [hlen]; show 0 + 4 * i + 4 ≤ 4 * n; omega
      obtain ⟨C2, hC2e⟩ : ∃ c, RG.rep C (0 + 4 * i) (wn m) = c := ⟨_, rfl⟩
      have hC2 := hC2e ▸ RG.rep_at hoff
      have hcl : C2.length = C.length := hC2e ▸ RG.rep_length hoff
      have hR2 : Rows 4 n (fun j => wn ((rq N (L j)).getD 0)) (i + 1) C2 := by
        have := hR.next hi rfl
        rw [← hC2e, hm]
        exact this
      repeat refine wp_seq ?_
      refine M20.tx0 FAb_3 [(0, (.v (.func (.func 12) #[] #[]))), (6, (.s 0 n n)), (14, (.v (.slice (some ⟨gg, 0, none⟩) n cap))), (15, (.v (.int .i64 (n : Int)))), (16, (.v (.int .i64 (i : Int)))), (17, (.v (.bool true)))] (by kernel_rfl) ⟨RG.cert_bin rfl .lss 3 3 16 15 (.int .i64 (i : Int)) (.int .i64 (n : Int)) (.bool true) rfl rfl (RG.sx fun _ => by kernel_rfl) (RG.sx fun _ => by kernel_rfl) (fun w => by kernel_rfl) (lssn_t hi), trivial⟩ ?_
      intro a21 w21 M21
      repeat refine wp_seq ?_
      refine wp_cond_true (M21.ev (by kernel_rfl)) ?_
      refine wp_skip ?_
      refine wp_seq ?_
      refine wp_block ?_
      repeat refine wp_seq ?_
      refine M21.tx0 (FAb_4 gg i v) [(0, (.v (.func (.func 12) #[] #[]))), (6, (.s 0 n n)), (7, (.v (.int .i64 (i : Int)))), (8, (.v v)), (14, (.v (.slice (some ⟨gg, 0, none⟩) n cap))), (15, (.v (.int .i64 (n : Int)))), (16, (.v (.int .i64 (i : Int))))] (by kernel_rfl) ⟨RG.st fun _ _ => by kernel_rfl, RG.cert_idx rfl 62 14 16 rfl (.v (.slice (some ⟨gg, 0, none⟩) n cap)) (.int .i64 (i : Int)) (RG.sx fun _ => by kernel_rfl) (RG.sx fun _ => by kernel_rfl) (fun μ w => at62 _ 0 _ _ i hi w), RG.cert_load1B rfl gg (0 + i) hgg List.not_mem_nil 22 19 rfl v rfl (RG.sx fun _ => by kernel_rfl) hcell u22, RG.st fun _ _ => by kernel_rfl, RG.st fun _ _ => by kernel_rfl, trivial⟩ ?_
      intro a22 w22 M22
      repeat refine wp_seq ?_
      refine M22.tx (FAb_5 m v) [(6, (RG.z 4))] [(1, 7, (wn m))] [C, (wn m)] [(0, (.v (.func (.func 12) #[] #[]))), (6, (.s 0 n n)), (7, (.v (.int .i64 (i : Int)))), (9, (.p 1 0)), (10, (.v (.bool true))), (14, (.v (.slice (some ⟨gg, 0, none⟩) n cap))), (15, (.v (.int .i64 (n : Int)))), (16, (.v (.int .i64 (i : Int))))] (by kernel_rfl) (by kernel_rfl) ⟨RG.st fun _ _ => by kernel_rfl, RG.st fun _ _ => by kernel_rfl, RG.clB (fun _ _ => by kernel_rfl) hrd, RG.st fun _ _ => by kernel_rfl, RG.st fun _ _ => by kernel_rfl, RG.st fun _ _ => by kernel_rfl, RG.mk 1 40 fun _ _ => by kernel_rfl, RG.pt i40 (by kernel_rfl), RG.st fun _ _ => by kernel_rfl, trivial⟩ ?_
      intro j23 a23 w23 M23
      repeat refine wp_seq ?_
      refine M23.tx0 FAb_6 [(0, (.v (.func (.func 12) #[] #[]))), (6, (.s 0 n n)), (7, (.v (.int .i64 (i : Int)))), (9, (.p 1 0)), (14, (.v (.slice (some ⟨gg, 0, none⟩) n cap))), (15, (.v (.int .i64 (n : Int)))), (16, (.v (.int .i64 (i : Int)))), (28, (.v (.bool false)))] (by kernel_rfl) ⟨RG.st fun _ _ => by kernel_rfl, RG.st fun _ _ => by kernel_rfl, trivial⟩ ?_
      intro a24 w24 M24
      repeat refine wp_seq ?_
      refine wp_cond_false (M24.ev (by kernel_rfl)) ?_
      refine wp_skip ?_
      repeat refine wp_seq ?_
      refine M24.tx (FAb_8 n i m) [] [(0, 4, C2)] [C2, (wn m)] [(0, (.v (.func (.func 12) #[] #[]))), (6, (.s 0 n n)), (14, (.v (.slice (some ⟨gg, 0, none⟩) n cap))), (15, (.v (.int .i64 (n : Int)))), (16, (.v (.int .i64 (i : Int))))] (by kernel_rfl) (congrArg (fun n => [n]) hcl) ⟨RG.st fun _ _ => by kernel_rfl, RG.st fun _ _ => by kernel_rfl, RG.ld u40 i40 (by kernel_rfl), RG.cert_idx rfl 33 29 30 rfl (.s 0 n n) (.int .i64 (i : Int)) (RG.sx fun _ => by kernel_rfl) (RG.sx fun _ => by kernel_rfl) (fun μ w => at33 _ 0 _ _ i hi w), RG.cert_putAt 0 (0 + 4 * i) rfl _ rfl 40 (.tmp 32) (.tmp 31) (wn m) rfl rfl (RG.sx fun _ => by kernel_rfl) (RG.sx fun _ => by kernel_rfl) hoff hC2 i40 rfl, trivial⟩ ?_
      intro a25 w25 M25
      repeat refine wp_seq ?_
      refine M25.tx0 (FAb_9 i) [(0, (.v (.func (.func 12) #[] #[]))), (6, (.s 0 n n)), (14, (.v (.slice (some ⟨gg, 0, none⟩) n cap))), (15, (.v (.int .i64 (n : Int)))), (16, (.v (.int .i64 ((i + 1 : Nat) : Int))))] (by kernel_rfl) ⟨RG.cert_binc rfl .add 3 3 16 (.int .i64 (i : Int)) (.int .i64 1) (.int .i64 ((i + 1 : Nat) : Int)) rfl rfl (RG.sx fun _ => by kernel_rfl) (fun w => by kernel_rfl) (addn i 1 (by omega) (by omega)), RG.st fun _ _ => by kernel_rfl, trivial⟩ ?_
      intro a26 w26 M26
      show ∃ n', _
      exact ⟨m' - 1, by omega, i + 1, C2, kt, by omega, fun j hj => (by
        by_cases hji : j = i
        · rw [hji]; exact hok
        · exact hall j (by omega)), hR2, RG.M.drop (cs := [C2]) (cs2 := [_]) (ks := [kt]) (ks2 := [_]) M26 rfl rfl⟩
    | false =>
      have hrd : ∀ w', RG.BelX w.heap.size [] w w' → Calls Try.prog 12 #[v] w' (Ret fun e w'' => Below w'.heap.size w' w'' ∧ e = .tuple #[nv m, .bool false]) := fun w' hb => by
        have h := hrd0 w' hb
        rw [hok, ← hm] at h
        exact h
      repeat refine wp_seq ?_
      refine M20.tx0 FAf_3 [(0, (.v (.func (.func 12) #[] #[]))), (14, (.v (.slice (some ⟨gg, 0, none⟩) n cap))), (16, (.v (.int .i64 (i : Int)))), (17, (.v (.bool true)))] (by kernel_rfl) ⟨RG.cert_bin rfl .lss 3 3 16 15 (.int .i64 (i : Int)) (.int .i64 (n : Int)) (.bool true) rfl rfl (RG.sx fun _ => by kernel_rfl) (RG.sx fun _ => by kernel_rfl) (fun w => by kernel_rfl) (lssn_t hi), trivial⟩ ?_
      intro a21 w21 M21
      repeat refine wp_seq ?_
      refine wp_cond_true (M21.ev (by kernel_rfl)) ?_
      refine wp_skip ?_
      refine wp_seq ?_
      refine wp_block ?_
      repeat refine wp_seq ?_
      refine M21.tx0 (FAf_4 gg i v) [(0, (.v (.func (.func 12) #[] #[]))), (8, (.v v))] (by kernel_rfl) ⟨RG.st fun _ _ => by kernel_rfl, RG.cert_idx rfl 62 14 16 rfl (.v (.slice (some ⟨gg, 0, none⟩) n cap)) (.int .i64 (i : Int)) (RG.sx fun _ => by kernel_rfl) (RG.sx fun _ => by kernel_rfl) (fun μ w => at62 _ 0 _ _ i hi w), RG.cert_load1B rfl gg (0 + i) hgg List.not_mem_nil 22 19 rfl v rfl (RG.sx fun _ => by kernel_rfl) hcell u22, RG.st fun _ _ => by kernel_rfl, RG.st fun _ _ => by kernel_rfl, trivial⟩ ?_
      intro a22 w22 M22
      repeat refine wp_seq ?_
      refine M22.tx (FAf_5 m v) [(6, (RG.z 4))] [(1, 7, (wn m))] [C, (wn m)] [(10, (.v (.bool false)))] (by kernel_rfl) (by kernel_rfl) ⟨RG.st fun _ _ => by kernel_rfl, RG.st fun _ _ => by kernel_rfl, RG.clB (fun _ _ => by kernel_rfl) hrd, RG.st fun _ _ => by kernel_rfl, RG.st fun _ _ => by kernel_rfl, RG.st fun _ _ => by kernel_rfl, RG.mk 1 40 fun _ _ => by kernel_rfl, RG.pt i40 (by kernel_rfl), RG.st fun _ _ => by kernel_rfl, trivial⟩ ?_
      intro j23 a23 w23 M23
      repeat refine wp_seq ?_
      refine M23.tx0 FAf_6 [(28, (.v (.bool true)))] (by kernel_rfl) ⟨RG.st fun _ _ => by kernel_rfl, RG.st fun _ _ => by kernel_rfl, trivial⟩ ?_
      intro a24 w24 M24
      repeat refine wp_seq ?_
      refine wp_cond_true (M24.ev (by kernel_rfl)) ?_
      repeat refine wp_seq ?_
      refine M24.tx0 FAf_7 [(4, (.v (.slice none 0 0))), (5, (.v (.bool false)))] (by kernel_rfl) ⟨RG.st fun _ _ => by kernel_rfl, RG.st fun _ _ => by kernel_rfl, trivial⟩ ?_
      intro a25 w25 M25
      refine wp_ret ?_
      refine bodyPost_ret (v := .tuple #[.slice none 0 0, .bool false]) (RG.results_tt 4 5 rfl (.slice none 0 0) (.bool false) (M25.av (by kernel_rfl)) (M25.av (by kernel_rfl))) M25.sl.defers ?_
      exact ⟨_, rfl, Or.inl ⟨⟨i, hi, by simpa using hok⟩, M25.st.bel.below, rfl⟩⟩
  · have hiN : i = n := by omega
    rw [hiN] at hall hR
    repeat refine wp_seq ?_
    refine M20.tx0 FAe_3 [(6, (.s 0 n n)), (17, (.v (.bool false)))] (by kernel_rfl) ⟨RG.cert_bin rfl .lss 3 3 16 15 (.int .i64 (i : Int)) (.int .i64 (n : Int)) (.bool false) rfl rfl (RG.sx fun _ => by kernel_rfl) (RG.sx fun _ => by kernel_rfl) (fun w => by kernel_rfl) (lssn_f hi), trivial⟩ ?_
    intro a21 w21 M21
    repeat refine wp_seq ?_
    refine wp_cond_false (M21.ev (by kernel_rfl)) ?_
    refine wp_exit ?_
    dsimp only [Exit.then, Exit.inBlock]
    rw [if_pos rfl]
    repeat refine wp_seq ?_
    refine M21.tx0 (FAe_10 n) [(4, (.s 0 n n)), (5, (.v (.bool true)))] (by kernel_rfl) ⟨RG.st fun _ _ => by kernel_rfl, RG.st fun _ _ => by kernel_rfl, RG.st fun _ _ => by kernel_rfl, trivial⟩ ?_
    intro a22 w22 M22
    refine wp_ret ?_
    refine bodyPost_ret (v := _) (RG.results_tt 4 5 rfl _ (.bool true) (M22.at (s := .s 0 n n) (by kernel_rfl)) (M22.av (by kernel_rfl))) M22.sl.defers ?_
    exact ⟨_, rfl, Or.inr ⟨hall, _, C, M22.st.made (b := 0) rfl, hR, rfl⟩⟩
theorem rows4 {f : Nat → List Value} {C : List Value} (h : Rows 4 4 f 4 C) (h0 : ∀ j, (f j).length = 4) : C = f 0 ++ (f 1 ++ (f 2 ++ f 3)) := by
  apply List.ext_getElem?
  intro j
  have hl := h.len
  by_cases hj : j < 16
  · have e : j = 4 * (j / 4) + j % 4 := by omega
    have hr := h.row (j / 4) (j % 4) (by omega) (by omega)
    rw [← e] at hr
    rw [hr]
    have h3 : j / 4 = 0 ∨ j / 4 = 1 ∨ j / 4 = 2 ∨ j / 4 = 3 := by omega
    rcases h3 with h3 | h3 | h3 | h3
    · rw [h3, List.getElem?_append_left (by rw [h0]; omega)]; congr 1; omega
    · rw [h3, List.getElem?_append_right (by rw [h0]; omega), List.getElem?_append_left (by rw [h0, h0]; omega), h0]; congr 1; omega
    · rw [h3, List.getElem?_append_right (by rw [h0]; omega), List.getElem?_append_right (by rw [h0, h0]; omega), List.getElem?_append_left (by rw [h0, h0, h0]; omega), h0, h0]; congr 1; omega
    · rw [h3, List.getElem?_append_right (by rw [h0]; omega), List.getElem?_append_right (by rw [h0, h0]; omega), List.getElem?_append_right (by rw [h0, h0, h0]; omega), h0, h0, h0]; congr 1; omega
  · rw [List.getElem?_eq_none (by omega), List.getElem?_eq_none (by simp only [List.length_append, h0]; omega)]
end Go.Proofs.Yticolhhalbbogae
set_option linter.unusedVariables false
namespace Go.Proofs.Yticolhhalbbogae
open Go.RowKit Go.Sort Go.Deep
variable {N : Nat}
def FEa_0 : List RG.It := [.x 8 [] (.slice none 0 0), .x 9 [] (.int .i64 0)]
def FEa_1 (p0 p1 p2 p3 : Option Addr) (n0 n1 n2 n3 c0 c1 c2 c3 : Nat) : List RG.It := [.x 15 [] (.slice p0 n0 c0), .x 16 [] (.slice p1 n1 c1), .x 17 [] (.slice p2 n2 c2), .x 18 [] (.slice p3 n3 c3), ⟨some 19, [(15, 0), (16, 1), (17, 2), (18, 3)], (.s 0 4 4), .make 0⟩, .c 20 [(19, 4)] (.tuple #[(.slice none 0 0), (.bool false)]), .x 14 [(20, 5)] (.tuple #[(.slice none 0 0), (.bool false)]), .x 21 [(14, 6)] (.slice none 0 0), .x 22 [(14, 6)] (.bool false), .x 10 [(21, 7)] (.slice none 0 0), .x 11 [(22, 8)] (.bool false)]
def FEa_2 : List RG.It := [.x 23 [] (.bool false), .x 24 [(23, 0)] (.bool true)]
def FEa_3 : List RG.It := [.x 8 [] (.slice none 0 0), .x 9 [] (.int .i64 3)]
def FEb_0 : List RG.It := [.x 8 [] (.slice none 0 0), .x 9 [] (.int .i64 0)]
def FEb_1 (p0 p1 p2 p3 : Option Addr) (n0 n1 n2 n3 c0 c1 c2 c3 : Nat) : List RG.It := [.x 15 [] (.slice p0 n0 c0), .x 16 [] (.slice p1 n1 c1), .x 17 [] (.slice p2 n2 c2), .x 18 [] (.slice p3 n3 c3), ⟨some 19, [(15, 0), (16, 1), (17, 2), (18, 3)], (.s 0 4 4), .make 0⟩, ⟨some 20, [(19, 4)], (.t 1 4 4 (.bool true)), .make 1⟩, .s 14 [(20, 5)] (.t 1 4 4 (.bool true)), .s 21 [(14, 6)] (.s 1 4 4), .x 22 [(14, 6)] (.bool true), .s 10 [(21, 7)] (.s 1 4 4), .x 11 [(22, 8)] (.bool true)]
def FEb_2 : List RG.It := [.x 23 [] (.bool true), .x 24 [(23, 0)] (.bool false)]
def FEb_4 (a c : Nat) : List RG.It := [.s 25 [] (.s 1 4 4), .s 26 [(25, 0)] (.p 1 0), .x 27 [(26, 1)] (nv a), .s 28 [] (.s 1 4 4), .s 29 [(28, 3)] (.p 1 8), .x 30 [(29, 4)] (nv c), .x 31 [(27, 2), (30, 5)] (.bool true)]
def FEb_5 : List RG.It := [.x 8 [] (.slice none 0 0), .x 9 [] (.int .i64 6)]
def FEc_0 : List RG.It := [.x 8 [] (.slice none 0 0), .x 9 [] (.int .i64 0)]
def FEc_1 (p0 p1 p2 p3 : Option Addr) (n0 n1 n2 n3 c0 c1 c2 c3 : Nat) : List RG.It := [.x 15 [] (.slice p0 n0 c0), .x 16 [] (.slice p1 n1 c1), .x 17 [] (.slice p2 n2 c2), .x 18 [] (.slice p3 n3 c3), ⟨some 19, [(15, 0), (16, 1), (17, 2), (18, 3)], (.s 0 4 4), .make 0⟩, ⟨some 20, [(19, 4)], (.t 1 4 4 (.bool true)), .make 1⟩, .s 14 [(20, 5)] (.t 1 4 4 (.bool true)), .s 21 [(14, 6)] (.s 1 4 4), .x 22 [(14, 6)] (.bool true), .s 10 [(21, 7)] (.s 1 4 4), .x 11 [(22, 8)] (.bool true)]
def FEc_2 : List RG.It := [.x 23 [] (.bool true), .x 24 [(23, 0)] (.bool false)]
def FEc_4 (a c : Nat) : List RG.It := [.s 25 [] (.s 1 4 4), .s 26 [(25, 0)] (.p 1 0), .x 27 [(26, 1)] (nv a), .s 28 [] (.s 1 4 4), .s 29 [(28, 3)] (.p 1 8), .x 30 [(29, 4)] (nv c), .x 31 [(27, 2), (30, 5)] (.bool false)]
def FEc_6 (N a b c d : Nat) : List RG.It := [.s 32 [] (.s 1 4 4), .s 33 [(32, 0)] (.p 1 0), .x 34 [(33, 1)] (nv a), .s 35 [] (.s 1 4 4), .s 36 [(35, 3)] (.p 1 8), .x 37 [(36, 4)] (nv c), .c 38 [(34, 2), (37, 5)] (nv (sMi N a c)), .s 39 [] (.s 1 4 4), .s 40 [(39, 7)] (.p 1 4), .x 41 [(40, 8)] (nv b), .s 42 [] (.s 1 4 4), .s 43 [(42, 10)] (.p 1 12), .x 44 [(43, 11)] (nv d), .c 45 [(41, 9), (44, 12)] (nv (sMi N b d)), .m 12 [] 2, .m 13 [] 3, .u [(12, 14), (38, 6)] 2, .u [(13, 15), (45, 13)] 3]
def FEc_7 (N a b c d : Nat) : List RG.It := [.x 46 [] (nv (sMi N b d)), .x 47 [] (nv (sMi N a c)), .c 48 [(47, 1)] (nv (sIn N (sMi N a c))), .c 49 [(46, 0), (48, 2)] (nv (sTi N (sMi N b d) (sIn N (sMi N a c)))), ⟨some 50, [(49, 3)], (.s 4 32 32), .make 4⟩, .s 8 [(50, 4)] (.s 4 32 32), .x 9 [] (.int .i64 0)]
/-- What Extract answers. -/
def ExR (N : Nat) (w : World) (L : Nat → Bs) (e : Value) (w' : World) : Prop :=
  ((∃ j, j < 4 ∧ rq N (L j) = none) ∧ Below w.heap.size w w' ∧ e = .tuple #[.slice none 0 0, .int .i64 3]) ∨
  ((∀ j, j < 4 → (rq N (L j)).isSome = true) ∧ ((nuV (L 0) = nuV (L 2) ∧ Below w.heap.size w w' ∧ e = .tuple #[.slice none 0 0, .int .i64 6]) ∨
    (¬ nuV (L 0) = nuV (L 2) ∧ ∃ k, RG.Made w k (cb (bx (sTi N (sMi N (nuV (L 1)) (nuV (L 3))) (sIn N (sMi N (nuV (L 0)) (nuV (L 2))))))) w' ∧ e = .tuple #[.slice (some ⟨k, 0, none⟩) 32 32, .int .i64 0])))
theorem rq_get {bs : Bs} (h : (rq N bs).isSome = true) : (rq N bs).getD 0 = nuV bs ∧ nuV bs < N := by
  obtain ⟨n, hn⟩ := Option.isSome_iff_exists.1 h
  rw [hn]
  have e := rq_nu hn
  refine ⟨e, ?_⟩
  unfold rq at hn
  split at hn
  · rename_i hc
    rw [← e, ← Option.some.inj hn]
    exact hc.2
  · cases hn
set_option maxHeartbeats 4000000 in
set_option maxRecDepth 100000 in
theorem ext_a (O : Ord N) (p0 p1 p2 p3 : Option Addr) (n0 n1 n2 n3 c0 c1 c2 c3 a b c d : Nat) (w : World) (hall : ∀ (k : Nat) (w' : World), RG.BelX w.heap.size [] w w' → (w'.rangeAt k 0 [(.slice p0 n0 c0), (.slice p1 n1 c1), (.slice p2 n2 c2), (.slice p3 n3 c3)] ∧ k < w'.heap.size) → Calls Try.prog 11 #[(.func (.func 12) #[] #[]), .slice (some ⟨k, 0, none⟩) 4 4] w' (Ret fun e w'' => Below w'.heap.size w' w'' ∧ e = .tuple #[.slice none 0 0, .bool false])) :
    Calls Try.prog 5 #[(.slice p0 n0 c0), (.slice p1 n1 c1), (.slice p2 n2 c2), (.slice p3 n3 c3)] w (Ret fun e w' => Below w.heap.size w w' ∧ e = .tuple #[.slice none 0 0, .int .i64 3]) := by
  go_enter Try.func5, Try.ntmps5
  refine RG.M.enter [(0, .v (.slice p0 n0 c0)), (1, .v (.slice p1 n1 c1)), (2, .v (.slice p2 n2 c2)), (3, .v (.slice p3 n3 c3))] 51 (by kernel_rfl) ?_
  intro a0 M0
  repeat refine wp_seq ?_
  refine M0.tx0 FEa_0 [(0, (.v (.slice p0 n0 c0))), (1, (.v (.slice p1 n1 c1))), (2, (.v (.slice p2 n2 c2))), (3, (.v (.slice p3 n3 c3))), (8, (.v (.slice none 0 0))), (9, (.v (.int .i64 0)))] (by kernel_rfl) ⟨RG.st fun _ _ => by kernel_rfl, RG.st fun _ _ => by kernel_rfl, trivial⟩ ?_
  intro a1 w1 M1
  repeat refine wp_seq ?_
  refine M1.tx (FEa_1 p0 p1 p2 p3 n0 n1 n2 n3 c0 c1 c2 c3) [(4, [(.slice p0 n0 c0), (.slice p1 n1 c1), (.slice p2 n2 c2), (.slice p3 n3 c3)])] [] [[(.slice p0 n0 c0), (.slice p1 n1 c1), (.slice p2 n2 c2), (.slice p3 n3 c3)]] [(8, (.v (.slice none 0 0))), (9, (.v (.int .i64 0))), (11, (.v (.bool false)))] (by kernel_rfl) (by kernel_rfl) ⟨RG.st fun _ _ => by kernel_rfl, RG.st fun _ _ => by kernel_rfl, RG.st fun _ _ => by kernel_rfl, RG.st fun _ _ => by kernel_rfl, RG.mk 0 22 fun _ _ => by kernel_rfl, RG.cr [0] (fun μ w' hb hs => hall (μ 0) w' hb (hs 0 (List.Mem.head _) _ rfl (List.cons_ne_nil _ _))) fun _ _ => by kernel_rfl, RG.st fun _ _ => by kernel_rfl, RG.st fun _ _ => by kernel_rfl, RG.st fun _ _ => by kernel_rfl, RG.st fun _ _ => by kernel_rfl, RG.st fun _ _ => by kernel_rfl, trivial⟩ ?_
  intro j2 a2 w2 M2
  repeat refine wp_seq ?_
  refine M2.tx0 FEa_2 [(8, (.v (.slice none 0 0))), (9, (.v (.int .i64 0))), (24, (.v (.bool true)))] (by kernel_rfl) ⟨RG.st fun _ _ => by kernel_rfl, RG.st fun _ _ => by kernel_rfl, trivial⟩ ?_
  intro a3 w3 M3
  repeat refine wp_seq ?_
  refine wp_cond_true (M3.ev (by kernel_rfl)) ?_
  repeat refine wp_seq ?_
  refine M3.tx0 FEa_3 [(8, (.v (.slice none 0 0))), (9, (.v (.int .i64 3)))] (by kernel_rfl) ⟨RG.st fun _ _ => by kernel_rfl, RG.st fun _ _ => by kernel_rfl, trivial⟩ ?_
  intro a4 w4 M4
  refine wp_ret ?_
  refine bodyPost_ret (v := _) (RG.results_tt 8 9 rfl (.slice none 0 0) (.int .i64 3) (M4.av (by kernel_rfl)) (M4.av (by kernel_rfl))) M4.sl.defers ?_
  exact ⟨_, rfl, M4.st.bel.below, rfl⟩
set_option maxHeartbeats 4000000 in
set_option maxRecDepth 100000 in
theorem ext_b (O : Ord N) (p0 p1 p2 p3 : Option Addr) (n0 n1 n2 n3 c0 c1 c2 c3 a b c d : Nat) (w : World) (hA : a < N) (hB : b < N) (hC : c < N) (hD : d < N) (hAt : a < top) (hCt : c < top) (hac : a = c) (hall : ∀ (k : Nat) (w' : World), RG.BelX w.heap.size [] w w' → (w'.rangeAt k 0 [(.slice p0 n0 c0), (.slice p1 n1 c1), (.slice p2 n2 c2), (.slice p3 n3 c3)] ∧ k < w'.heap.size) → Calls Try.prog 11 #[(.func (.func 12) #[] #[]), .slice (some ⟨k, 0, none⟩) 4 4] w' (Ret fun e w'' => ∃ k', RG.Made w' k' (wn a ++ (wn b ++ (wn c ++ wn d))) w'' ∧ e = .tuple #[.slice (some ⟨k', 0, none⟩) 4 4, .bool true])) :
    Calls Try.prog 5 #[(.slice p0 n0 c0), (.slice p1 n1 c1), (.slice p2 n2 c2), (.slice p3 n3 c3)] w (Ret fun e w' => Below w.heap.size w w' ∧ e = .tuple #[.slice none 0 0, .int .i64 6]) := by
  go_enter Try.func5, Try.ntmps5
  refine RG.M.enter [(0, .v (.slice p0 n0 c0)), (1, .v (.slice p1 n1 c1)), (2, .v (.slice p2 n2 c2)), (3, .v (.slice p3 n3 c3))] 51 (by kernel_rfl) ?_
  intro a0 M0
  repeat refine wp_seq ?_
  refine M0.tx0 FEb_0 [(0, (.v (.slice p0 n0 c0))), (1, (.v (.slice p1 n1 c1))), (2, (.v (.slice p2 n2 c2))), (3, (.v (.slice p3 n3 c3))), (8, (.v (.slice none 0 0))), (9, (.v (.int .i64 0)))] (by kernel_rfl) ⟨RG.st fun _ _ => by kernel_rfl, RG.st fun _ _ => by kernel_rfl, trivial⟩ ?_
  intro a1 w1 M1
  repeat refine wp_seq ?_
  refine M1.tx (FEb_1 p0 p1 p2 p3 n0 n1 n2 n3 c0 c1 c2 c3) [(4, [(.slice p0 n0 c0), (.slice p1 n1 c1), (.slice p2 n2 c2), (.slice p3 n3 c3)]), (5, (wn a ++ (wn b ++ (wn c ++ wn d))))] [] [[(.slice p0 n0 c0), (.slice p1 n1 c1), (.slice p2 n2 c2), (.slice p3 n3 c3)], (wn a ++ (wn b ++ (wn c ++ wn d)))] [(8, (.v (.slice none 0 0))), (9, (.v (.int .i64 0))), (10, (.s 1 4 4)), (11, (.v (.bool true)))] (by kernel_rfl) (by kernel_rfl) ⟨RG.st fun _ _ => by kernel_rfl, RG.st fun _ _ => by kernel_rfl, RG.st fun _ _ => by kernel_rfl, RG.st fun _ _ => by kernel_rfl, RG.mk 0 22 fun _ _ => by kernel_rfl, RG.crm 1 [0] (fun μ w' hb hs => hall (μ 0) w' hb (hs 0 (List.Mem.head _) _ rfl (List.cons_ne_nil _ _))) fun _ _ => by kernel_rfl, RG.st fun _ _ => by kernel_rfl, RG.st fun _ _ => by kernel_rfl, RG.st fun _ _ => by kernel_rfl, RG.st fun _ _ => by kernel_rfl, RG.st fun _ _ => by kernel_rfl, trivial⟩ ?_
  intro j2 i2 a2 w2 M2
  repeat refine wp_seq ?_
  refine M2.tx0 FEb_2 [(8, (.v (.slice none 0 0))), (9, (.v (.int .i64 0))), (10, (.s 1 4 4)), (24, (.v (.bool false)))] (by kernel_rfl) ⟨RG.st fun _ _ => by kernel_rfl, RG.st fun _ _ => by kernel_rfl, trivial⟩ ?_
  intro a3 w3 M3
  repeat refine wp_seq ?_
  refine wp_cond_false (M3.ev (by kernel_rfl)) ?_
  refine wp_skip ?_
  repeat refine wp_seq ?_
  refine M3.dr0 (by kernel_rfl) (FEb_4 a c) [(8, (.v (.slice none 0 0))), (9, (.v (.int .i64 0))), (31, (.v (.bool true)))] (by kernel_rfl) ⟨RG.st fun _ _ => by kernel_rfl, RG.st fun _ _ => by kernel_rfl, RG.ld u40 i40 (by kernel_rfl), RG.st fun _ _ => by kernel_rfl, RG.st fun _ _ => by kernel_rfl, RG.ld u40 i40 (by kernel_rfl), RG.cert_bin rfl .eql 40 40 27 30 (nv a) (nv c) (.bool true) rfl rfl (RG.sx fun _ => by kernel_rfl) (RG.sx fun _ => by kernel_rfl) (fun w => by kernel_rfl) (fun w => by rw [eqS hAt hCt, decide_eq_true hac]), trivial⟩ ?_
  intro a4 w4 M4
  repeat refine wp_seq ?_
  refine wp_cond_true (M4.ev (by kernel_rfl)) ?_
  repeat refine wp_seq ?_
  refine M4.tx0 FEb_5 [(8, (.v (.slice none 0 0))), (9, (.v (.int .i64 6)))] (by kernel_rfl) ⟨RG.st fun _ _ => by kernel_rfl, RG.st fun _ _ => by kernel_rfl, trivial⟩ ?_
  intro a5 w5 M5
  refine wp_ret ?_
  refine bodyPost_ret (v := _) (RG.results_tt 8 9 rfl (.slice none 0 0) (.int .i64 6) (M5.av (by kernel_rfl)) (M5.av (by kernel_rfl))) M5.sl.defers ?_
  exact ⟨_, rfl, M5.st.bel.below, rfl⟩
set_option maxHeartbeats 4000000 in
set_option maxRecDepth 100000 in
theorem ext_c (O : Ord N) (p0 p1 p2 p3 : Option Addr) (n0 n1 n2 n3 c0 c1 c2 c3 a b c d : Nat) (w : World) (hA : a < N) (hB : b < N) (hC : c < N) (hD : d < N) (hAt : a < top) (hCt : c < top) (hac : ¬ a = c) (hall : ∀ (k : Nat) (w' : World), RG.BelX w.heap.size [] w w' → (w'.rangeAt k 0 [(.slice p0 n0 c0), (.slice p1 n1 c1), (.slice p2 n2 c2), (.slice p3 n3 c3)] ∧ k < w'.heap.size) → Calls Try.prog 11 #[(.func (.func 12) #[] #[]), .slice (some ⟨k, 0, none⟩) 4 4] w' (Ret fun e w'' => ∃ k', RG.Made w' k' (wn a ++ (wn b ++ (wn c ++ wn d))) w'' ∧ e = .tuple #[.slice (some ⟨k', 0, none⟩) 4 4, .bool true])) :
    Calls Try.prog 5 #[(.slice p0 n0 c0), (.slice p1 n1 c1), (.slice p2 n2 c2), (.slice p3 n3 c3)] w (Ret fun e w' => ∃ k, RG.Made w k (cb (bx (sTi N (sMi N b d) (sIn N (sMi N a c))))) w' ∧ e = .tuple #[.slice (some ⟨k, 0, none⟩) 32 32, .int .i64 0]) := by
  go_enter Try.func5, Try.ntmps5
  refine RG.M.enter [(0, .v (.slice p0 n0 c0)), (1, .v (.slice p1 n1 c1)), (2, .v (.slice p2 n2 c2)), (3, .v (.slice p3 n3 c3))] 51 (by kernel_rfl) ?_
  intro a0 M0
  repeat refine wp_seq ?_
  refine M0.tx0 FEc_0 [(0, (.v (.slice p0 n0 c0))), (1, (.v (.slice p1 n1 c1))), (2, (.v (.slice p2 n2 c2))), (3, (.v (.slice p3 n3 c3))), (8, (.v (.slice none 0 0))), (9, (.v (.int .i64 0)))] (by kernel_rfl) ⟨RG.st fun _ _ => by kernel_rfl, RG.st fun _ _ => by kernel_rfl, trivial⟩ ?_
  intro a1 w1 M1
  repeat refine wp_seq ?_
  refine M1.tx (FEc_1 p0 p1 p2 p3 n0 n1 n2 n3 c0 c1 c2 c3) [(4, [(.slice p0 n0 c0), (.slice p1 n1 c1), (.slice p2 n2 c2), (.slice p3 n3 c3)]), (5, (wn a ++ (wn b ++ (wn c ++ wn d))))] [] [[(.slice p0 n0 c0), (.slice p1 n1 c1), (.slice p2 n2 c2), (.slice p3 n3 c3)], (wn a ++ (wn b ++ (wn c ++ wn d)))] [(8, (.v (.slice none 0 0))), (9, (.v (.int .i64 0))), (10, (.s 1 4 4)), (11, (.v (.bool true)))] (by kernel_rfl) (by kernel_rfl) ⟨RG.st fun _ _ => by kernel_rfl, RG.st fun _ _ => by kernel_rfl, RG.st fun _ _ => by kernel_rfl, RG.st fun _ _ => by kernel_rfl, RG.mk 0 22 fun _ _ => by kernel_rfl, RG.crm 1 [0] (fun μ w' hb hs => hall (μ 0) w' hb (hs 0 (List.Mem.head _) _ rfl (List.cons_ne_nil _ _))) fun _ _ => by kernel_rfl, RG.st fun _ _ => by kernel_rfl, RG.st fun _ _ => by kernel_rfl, RG.st fun _ _ => by kernel_rfl, RG.st fun _ _ => by kernel_rfl, RG.st fun _ _ => by kernel_rfl, trivial⟩ ?_
  intro j2 i2 a2 w2 M2
  repeat refine wp_seq ?_
  refine M2.tx0 FEc_2 [(8, (.v (.slice none 0 0))), (9, (.v (.int .i64 0))), (10, (.s 1 4 4)), (24, (.v (.bool false)))] (by kernel_rfl) ⟨RG.st fun _ _ => by kernel_rfl, RG.st fun _ _ => by kernel_rfl, trivial⟩ ?_
  intro a3 w3 M3
  repeat refine wp_seq ?_
  refine wp_cond_false (M3.ev (by kernel_rfl)) ?_
  refine wp_skip ?_
  repeat refine wp_seq ?_
  refine M3.dr0 (by kernel_rfl) (FEc_4 a c) [(8, (.v (.slice none 0 0))), (9, (.v (.int .i64 0))), (10, (.s 1 4 4)), (31, (.v (.bool false)))] (by kernel_rfl) ⟨RG.st fun _ _ => by kernel_rfl, RG.st fun _ _ => by kernel_rfl, RG.ld u40 i40 (by kernel_rfl), RG.st fun _ _ => by kernel_rfl, RG.st fun _ _ => by kernel_rfl, RG.ld u40 i40 (by kernel_rfl), RG.cert_bin rfl .eql 40 40 27 30 (nv a) (nv c) (.bool false) rfl rfl (RG.sx fun _ => by kernel_rfl) (RG.sx fun _ => by kernel_rfl) (fun w => by kernel_rfl) (fun w => by rw [eqS hAt hCt, decide_eq_false hac]), trivial⟩ ?_
  intro a4 w4 M4
  repeat refine wp_seq ?_
  refine wp_cond_false (M4.ev (by kernel_rfl)) ?_
  refine wp_skip ?_
  repeat refine wp_seq ?_
  refine M4.dr (by kernel_rfl) (FEc_6 N a b c d) [(14, (RG.z 4)), (15, (RG.z 4))] [(2, 16, (wn (sMi N a c))), (3, 17, (wn (sMi N b d)))] [[(.slice p0 n0 c0), (.slice p1 n1 c1), (.slice p2 n2 c2), (.slice p3 n3 c3)], (wn a ++ (wn b ++ (wn c ++ wn d))), (wn (sMi N a c)), (wn (sMi N b d))] [(8, (.v (.slice none 0 0))), (9, (.v (.int .i64 0))), (12, (.p 2 0)), (13, (.p 3 0))] (by kernel_rfl) (by kernel_rfl) ⟨RG.st fun _ _ => by kernel_rfl, RG.st fun _ _ => by kernel_rfl, RG.ld u40 i40 (by kernel_rfl), RG.st fun _ _ => by kernel_rfl, RG.st fun _ _ => by kernel_rfl, RG.ld u40 i40 (by kernel_rfl), RG.cl (sMin_c O a c hA hC) fun _ _ => by kernel_rfl, RG.st fun _ _ => by kernel_rfl, RG.st fun _ _ => by kernel_rfl, RG.ld u40 i40 (by kernel_rfl), RG.st fun _ _ => by kernel_rfl, RG.st fun _ _ => by kernel_rfl, RG.ld u40 i40 (by kernel_rfl), RG.cl (sMin_c O b d hB hD) fun _ _ => by kernel_rfl, RG.mk 2 40 fun _ _ => by kernel_rfl, RG.mk 3 40 fun _ _ => by kernel_rfl, RG.pt i40 (by kernel_rfl), RG.pt i40 (by kernel_rfl), trivial⟩ ?_
  intro j5 i5 a5 w5 M5
  repeat refine wp_seq ?_
  refine M5.dr (by kernel_rfl) (FEc_7 N a b c d) [(4, (cb (bx (sTi N (sMi N b d) (sIn N (sMi N a c))))))] [] [[(.slice p0 n0 c0), (.slice p1 n1 c1), (.slice p2 n2 c2), (.slice p3 n3 c3)], (wn a ++ (wn b ++ (wn c ++ wn d))), (wn (sMi N a c)), (wn (sMi N b d)), (cb (bx (sTi N (sMi N b d) (sIn N (sMi N a c)))))] [(8, (.s 4 32 32)), (9, (.v (.int .i64 0)))] (by kernel_rfl) (by kernel_rfl) ⟨RG.ld u40 i40 (by kernel_rfl), RG.ld u40 i40 (by kernel_rfl), RG.cl (sInv2_c O (sMi N a c) (O.mi a c)) fun _ _ => by kernel_rfl, RG.cl (sTim_c O (sMi N b d) (sIn N (sMi N a c)) (O.mi b d) (O.inv (sMi N a c))) fun _ _ => by kernel_rfl, RG.cm 4 (fun w _ => sbytes_c O (O.ti (sMi N b d) (sIn N (sMi N a c))) w) fun _ _ => by kernel_rfl, RG.st fun _ _ => by kernel_rfl, RG.st fun _ _ => by kernel_rfl, trivial⟩ ?_
  intro j6 a6 w6 M6
  refine wp_ret ?_
  refine bodyPost_ret (v := _) (RG.results_tt 8 9 rfl _ (.int .i64 0) (M6.at (s := .s 4 32 32) (by kernel_rfl)) (M6.av (by kernel_rfl))) M6.sl.defers ?_
  exact ⟨_, rfl, _, M6.st.made (b := 4) rfl, rfl⟩
theorem extract_c (O : Ord N) (va vb vc vd : Value) (L : Nat → Bs) (w : World) (h0 : Arg w va (L 0)) (h1 : Arg w vb (L 1)) (h2 : Arg w vc (L 2)) (h3 : Arg w vd (L 3)) : Calls Try.prog 5 #[va, vb, vc, vd] w (Ret fun e w' => ExR N w L e w') := by
  have g0 := h0
  have g1 := h1
  have g2 := h2
  have g3 := h3
  obtain ⟨p0, n0, c0, rfl, -, -⟩ := h0
  obtain ⟨p1, n1, c1, rfl, -, -⟩ := h1
  obtain ⟨p2, n2, c2, rfl, -, -⟩ := h2
  obtain ⟨p3, n3, c3, rfl, -, -⟩ := h3
  have hargs : ∀ (k : Nat) (w' : World), RG.BelX w.heap.size [] w w' → (w'.rangeAt k 0 [(.slice p0 n0 c0), (.slice p1 n1 c1), (.slice p2 n2 c2), (.slice p3 n3 c3)] ∧ k < w'.heap.size) → Args w' (some ⟨k, 0, none⟩) 4 L := fun k w' hb hr _ => ⟨k, rfl, hr.2, fun j hj => by
    have h4 : j = 0 ∨ j = 1 ∨ j = 2 ∨ j = 3 := by omega
    have hc := fun (j : Nat) (v : Value) (h : [(.slice p0 n0 c0), (.slice p1 n1 c1), (.slice p2 n2 c2), (.slice p3 n3 c3)][j]? = some v) => hr.1 j v h
    simp only [Nat.zero_add] at hc
    rcases h4 with rfl | rfl | rfl | rfl
    · exact ⟨_, hc 0 _ rfl, g0.below hb.below⟩
    · exact ⟨_, hc 1 _ rfl, g1.below hb.below⟩
    · exact ⟨_, hc 2 _ rfl, g2.below hb.below⟩
    · exact ⟨_, hc 3 _ rfl, g3.below hb.below⟩⟩
  by_cases hall : ∀ j, j < 4 → (rq N (L j)).isSome = true
  · obtain ⟨ea, la⟩ := rq_get (hall 0 (by omega))
    obtain ⟨eb, lb⟩ := rq_get (hall 1 (by omega))
    obtain ⟨ec, lc⟩ := rq_get (hall 2 (by omega))
    obtain ⟨ed, ld⟩ := rq_get (hall 3 (by omega))
    have hok : ∀ (k : Nat) (w' : World), RG.BelX w.heap.size [] w w' → (w'.rangeAt k 0 [(.slice p0 n0 c0), (.slice p1 n1 c1), (.slice p2 n2 c2), (.slice p3 n3 c3)] ∧ k < w'.heap.size) → Calls Try.prog 11 #[(.func (.func 12) #[] #[]), .slice (some ⟨k, 0, none⟩) 4 4] w' (Ret fun e w'' => ∃ k', RG.Made w' k' (wn (nuV (L 0)) ++ (wn (nuV (L 1)) ++ (wn (nuV (L 2)) ++ wn (nuV (L 3))))) w'' ∧ e = .tuple #[.slice (some ⟨k', 0, none⟩) 4 4, .bool true]) := fun k w' hb hr =>
      (allOf_c O 4 4 (by decide) _ L w' (hargs k w' hb hr)).mono (by
        rintro e w'' ⟨v, rfl, ⟨⟨j, hj, hn⟩, -⟩ | ⟨-, k', C, hm, hR, rfl⟩⟩
        · have := hall j hj; rw [hn] at this; cases this
        · have hC := rows4 hR (fun _ => rfl)
          simp only [ea, eb, ec, ed] at hC
          rw [hC] at hm
          exact ⟨_, rfl, k', hm, rfl⟩)
    have lt : ∀ {x : Nat}, x < N → x < top := fun h => Nat.lt_of_lt_of_le h O.le
    by_cases hac : nuV (L 0) = nuV (L 2)
    · refine (ext_b O p0 p1 p2 p3 n0 n1 n2 n3 c0 c1 c2 c3 _ _ _ _ w la lb lc ld (lt la) (lt lc) hac hok).mono ?_
      rintro e w' ⟨v, rfl, hb, rfl⟩
      exact ⟨_, rfl, Or.inr ⟨hall, Or.inl ⟨hac, hb, rfl⟩⟩⟩
    · refine (ext_c O p0 p1 p2 p3 n0 n1 n2 n3 c0 c1 c2 c3 _ _ _ _ w la lb lc ld (lt la) (lt lc) hac hok).mono ?_
      rintro e w' ⟨v, rfl, k, hm, rfl⟩
      exact ⟨_, rfl, Or.inr ⟨hall, Or.inr ⟨hac, k, hm, rfl⟩⟩⟩
  · have hex : ∃ j, j < 4 ∧ rq N (L j) = none := Classical.byContradiction fun hn => hall fun j hj => by
      cases hr : rq N (L j) with
      | none => exact absurd ⟨j, hj, hr⟩ hn
      | some n => rfl
    refine (ext_a O p0 p1 p2 p3 n0 n1 n2 n3 c0 c1 c2 c3 0 0 0 0 w (fun k w' hb hr => (allOf_c O 4 4 (by decide) _ L w' (hargs k w' hb hr)).mono (by
      rintro e w'' ⟨v, rfl, ⟨-, hb', rfl⟩ | ⟨h, -⟩⟩
      · exact ⟨_, rfl, hb', rfl⟩
      · exact absurd h hall))).mono ?_
    rintro e w' ⟨v, rfl, hb, rfl⟩
    exact ⟨_, rfl, Or.inl ⟨hex, hb, rfl⟩⟩
end Go.Proofs.Yticolhhalbbogae
set_option linter.unusedVariables false
namespace Go.Proofs.Yticolhhalbbogae
open Go.RowKit Go.Sort Go.Deep
variable {N : Nat}
def FQa_0 : List RG.It := [.x 8 [] (.string ⟨#[]⟩), .x 9 [] (.int .i64 0)]
def FQa_1 (s0 : ByteArray) (a : Nat) : List RG.It := [.x 20 [] (.string s0), .c 21 [(20, 0)] (.tuple #[(nv a), (.bool false)]), .x 19 [(21, 1)] (.tuple #[(nv a), (.bool false)]), .x 22 [(19, 2)] (nv a), .x 23 [(19, 2)] (.bool false), .m 10 [] 0, .u [(10, 5), (22, 3)] 0, .x 11 [(23, 4)] (.bool false)]
def FQa_2 (s1 : ByteArray) (b : Nat) (o1 : Bool) : List RG.It := [.x 25 [] (.string s1), .c 26 [(25, 0)] (.tuple #[(nv b), (.bool o1)]), .x 24 [(26, 1)] (.tuple #[(nv b), (.bool o1)]), .x 27 [(24, 2)] (nv b), .x 28 [(24, 2)] (.bool o1), .m 12 [] 1, .u [(12, 5), (27, 3)] 1, .x 13 [(28, 4)] (.bool o1)]
def FQa_3 (s2 : ByteArray) (c : Nat) (o2 : Bool) : List RG.It := [.x 30 [] (.string s2), .c 31 [(30, 0)] (.tuple #[(nv c), (.bool o2)]), .x 29 [(31, 1)] (.tuple #[(nv c), (.bool o2)]), .x 32 [(29, 2)] (nv c), .x 33 [(29, 2)] (.bool o2), .m 14 [] 2, .u [(14, 5), (32, 3)] 2, .x 15 [(33, 4)] (.bool o2)]
def FQa_4 (s3 : ByteArray) (d : Nat) (o3 : Bool) : List RG.It := [.x 35 [] (.string s3), .c 36 [(35, 0)] (.tuple #[(nv d), (.bool o3)]), .x 34 [(36, 1)] (.tuple #[(nv d), (.bool o3)]), .x 37 [(34, 2)] (nv d), .x 38 [(34, 2)] (.bool o3), .m 16 [] 3, .u [(16, 5), (37, 3)] 3, .x 17 [(38, 4)] (.bool o3)]
def FQa_5 : List RG.It := [.x 39 [] (.bool false), .x 40 [(39, 0)] (.bool true), .x 41 [(40, 1)] (.bool true), ⟨some 42, [], (.v undef), .pass⟩, ⟨some 43, [], (.v undef), .pass⟩, .x 44 [(41, 2), (43, 4)] (.bool true), .x 45 [(44, 5)] (.bool true), ⟨some 46, [], (.v undef), .pass⟩, ⟨some 47, [], (.v undef), .pass⟩, .x 48 [(45, 6), (47, 8)] (.bool true), .x 49 [(48, 9)] (.bool true), ⟨some 50, [], (.v undef), .pass⟩, ⟨some 51, [], (.v undef), .pass⟩, .x 52 [(49, 10), (51, 12)] (.bool true)]
def FQa_6 : List RG.It := [.x 8 [] (.string ⟨#[]⟩), .x 9 [] (.int .i64 3)]
set_option maxHeartbeats 4000000 in
set_option maxRecDepth 100000 in
theorem qe_0 (O : Ord N) (s0 s1 s2 s3 : ByteArray) (a b c d : Nat) (o1 o2 o3 : Bool) (hq0 : Gives 17 #[.string s0] (.tuple #[nv a, .bool false])) (hq1 : Gives 17 #[.string s1] (.tuple #[nv b, .bool o1])) (hq2 : Gives 17 #[.string s2] (.tuple #[nv c, .bool o2])) (hq3 : Gives 17 #[.string s3] (.tuple #[nv d, .bool o3])) : Gives 6 #[.string s0, .string s1, .string s2, .string s3] (.tuple #[(.string ⟨#[]⟩), (.int .i64 3)]) := by
  intro w
  go_enter Try.func6, Try.ntmps6
  refine RG.M.enter [(0, .v (.string s0)), (1, .v (.string s1)), (2, .v (.string s2)), (3, .v (.string s3))] 70 (by kernel_rfl) ?_
  intro a0 M0
  repeat refine wp_seq ?_
  refine M0.tx0 FQa_0 [(0, (.v (.string s0))), (1, (.v (.string s1))), (2, (.v (.string s2))), (3, (.v (.string s3))), (8, (.v (.string ⟨#[]⟩))), (9, (.v (.int .i64 0)))] (by kernel_rfl) ⟨RG.st fun _ _ => by kernel_rfl, RG.st fun _ _ => by kernel_rfl, trivial⟩ ?_
  intro a1 w1 M1
  repeat refine wp_seq ?_
  refine M1.tx (FQa_1 s0 a) [(5, (RG.z 4))] [(0, 6, (wn a))] [(wn a)] [(1, (.v (.string s1))), (2, (.v (.string s2))), (3, (.v (.string s3))), (8, (.v (.string ⟨#[]⟩))), (9, (.v (.int .i64 0))), (11, (.v (.bool false)))] (by kernel_rfl) (by kernel_rfl) ⟨RG.st fun _ _ => by kernel_rfl, RG.cl (hq0) fun _ _ => by kernel_rfl, RG.st fun _ _ => by kernel_rfl, RG.st fun _ _ => by kernel_rfl, RG.st fun _ _ => by kernel_rfl, RG.mk 0 44 fun _ _ => by kernel_rfl, RG.pt i44 (by kernel_rfl), RG.st fun _ _ => by kernel_rfl, trivial⟩ ?_
  intro j2 a2 w2 M2
  repeat refine wp_seq ?_
  refine M2.tx (FQa_2 s1 b o1) [(5, (RG.z 4))] [(1, 6, (wn b))] [(wn a), (wn b)] [(2, (.v (.string s2))), (3, (.v (.string s3))), (8, (.v (.string ⟨#[]⟩))), (9, (.v (.int .i64 0))), (11, (.v (.bool false)))] (by kernel_rfl) (by kernel_rfl) ⟨RG.st fun _ _ => by kernel_rfl, RG.cl (hq1) fun _ _ => by kernel_rfl, RG.st fun _ _ => by kernel_rfl, RG.st fun _ _ => by kernel_rfl, RG.st fun _ _ => by kernel_rfl, RG.mk 1 44 fun _ _ => by kernel_rfl, RG.pt i44 (by kernel_rfl), RG.st fun _ _ => by kernel_rfl, trivial⟩ ?_
  intro j3 a3 w3 M3
  repeat refine wp_seq ?_
  refine M3.tx (FQa_3 s2 c o2) [(5, (RG.z 4))] [(2, 6, (wn c))] [(wn a), (wn b), (wn c)] [(3, (.v (.string s3))), (8, (.v (.string ⟨#[]⟩))), (9, (.v (.int .i64 0))), (11, (.v (.bool false)))] (by kernel_rfl) (by kernel_rfl) ⟨RG.st fun _ _ => by kernel_rfl, RG.cl (hq2) fun _ _ => by kernel_rfl, RG.st fun _ _ => by kernel_rfl, RG.st fun _ _ => by kernel_rfl, RG.st fun _ _ => by kernel_rfl, RG.mk 2 44 fun _ _ => by kernel_rfl, RG.pt i44 (by kernel_rfl), RG.st fun _ _ => by kernel_rfl, trivial⟩ ?_
  intro j4 a4 w4 M4
  repeat refine wp_seq ?_
  refine M4.tx (FQa_4 s3 d o3) [(5, (RG.z 4))] [(3, 6, (wn d))] [(wn a), (wn b), (wn c), (wn d)] [(8, (.v (.string ⟨#[]⟩))), (9, (.v (.int .i64 0))), (11, (.v (.bool false)))] (by kernel_rfl) (by kernel_rfl) ⟨RG.st fun _ _ => by kernel_rfl, RG.cl (hq3) fun _ _ => by kernel_rfl, RG.st fun _ _ => by kernel_rfl, RG.st fun _ _ => by kernel_rfl, RG.st fun _ _ => by kernel_rfl, RG.mk 3 44 fun _ _ => by kernel_rfl, RG.pt i44 (by kernel_rfl), RG.st fun _ _ => by kernel_rfl, trivial⟩ ?_
  intro j5 a5 w5 M5
  repeat refine wp_seq ?_
  refine M5.tx0 FQa_5 [(8, (.v (.string ⟨#[]⟩))), (9, (.v (.int .i64 0))), (52, (.v (.bool true)))] (by kernel_rfl) ⟨RG.st fun _ _ => by kernel_rfl, RG.st fun _ _ => by kernel_rfl, RG.st fun _ _ => by kernel_rfl, RG.cert_pass rfl rfl, RG.cert_pass rfl rfl, RG.st fun _ _ => by kernel_rfl, RG.st fun _ _ => by kernel_rfl, RG.cert_pass rfl rfl, RG.cert_pass rfl rfl, RG.st fun _ _ => by kernel_rfl, RG.st fun _ _ => by kernel_rfl, RG.cert_pass rfl rfl, RG.cert_pass rfl rfl, RG.st fun _ _ => by kernel_rfl, trivial⟩ ?_
  intro a6 w6 M6
  repeat refine wp_seq ?_
  refine wp_cond_true (M6.ev (by kernel_rfl)) ?_
  repeat refine wp_seq ?_
  refine M6.tx0 FQa_6 [(8, (.v (.string ⟨#[]⟩))), (9, (.v (.int .i64 3)))] (by kernel_rfl) ⟨RG.st fun _ _ => by kernel_rfl, RG.st fun _ _ => by kernel_rfl, trivial⟩ ?_
  intro a7 w7 M7
  refine wp_ret ?_
  refine bodyPost_ret (v := _) (RG.results_tt 8 9 rfl (.string ⟨#[]⟩) (.int .i64 3) (M7.av (by kernel_rfl)) (M7.av (by kernel_rfl))) M7.sl.defers ?_
  exact ⟨_, rfl, M7.st.bel.below, rfl⟩
def FQb_0 : List RG.It := [.x 8 [] (.string ⟨#[]⟩), .x 9 [] (.int .i64 0)]
def FQb_1 (s0 : ByteArray) (a : Nat) : List RG.It := [.x 20 [] (.string s0), .c 21 [(20, 0)] (.tuple #[(nv a), (.bool true)]), .x 19 [(21, 1)] (.tuple #[(nv a), (.bool true)]), .x 22 [(19, 2)] (nv a), .x 23 [(19, 2)] (.bool true), .m 10 [] 0, .u [(10, 5), (22, 3)] 0, .x 11 [(23, 4)] (.bool true)]
def FQb_2 (s1 : ByteArray) (b : Nat) : List RG.It := [.x 25 [] (.string s1), .c 26 [(25, 0)] (.tuple #[(nv b), (.bool false)]), .x 24 [(26, 1)] (.tuple #[(nv b), (.bool false)]), .x 27 [(24, 2)] (nv b), .x 28 [(24, 2)] (.bool false), .m 12 [] 1, .u [(12, 5), (27, 3)] 1, .x 13 [(28, 4)] (.bool false)]
def FQb_3 (s2 : ByteArray) (c : Nat) (o2 : Bool) : List RG.It := [.x 30 [] (.string s2), .c 31 [(30, 0)] (.tuple #[(nv c), (.bool o2)]), .x 29 [(31, 1)] (.tuple #[(nv c), (.bool o2)]), .x 32 [(29, 2)] (nv c), .x 33 [(29, 2)] (.bool o2), .m 14 [] 2, .u [(14, 5), (32, 3)] 2, .x 15 [(33, 4)] (.bool o2)]
def FQb_4 (s3 : ByteArray) (d : Nat) (o3 : Bool) : List RG.It := [.x 35 [] (.string s3), .c 36 [(35, 0)] (.tuple #[(nv d), (.bool o3)]), .x 34 [(36, 1)] (.tuple #[(nv d), (.bool o3)]), .x 37 [(34, 2)] (nv d), .x 38 [(34, 2)] (.bool o3), .m 16 [] 3, .u [(16, 5), (37, 3)] 3, .x 17 [(38, 4)] (.bool o3)]
def FQb_5 : List RG.It := [.x 39 [] (.bool true), .x 40 [(39, 0)] (.bool false), .x 41 [(40, 1)] (.bool false), .x 42 [] (.bool false), .x 43 [(42, 3)] (.bool true), .x 44 [(41, 2), (43, 4)] (.bool true), .x 45 [(44, 5)] (.bool true), ⟨some 46, [], (.v undef), .pass⟩, ⟨some 47, [], (.v undef), .pass⟩, .x 48 [(45, 6), (47, 8)] (.bool true), .x 49 [(48, 9)] (.bool true), ⟨some 50, [], (.v undef), .pass⟩, ⟨some 51, [], (.v undef), .pass⟩, .x 52 [(49, 10), (51, 12)] (.bool true)]
def FQb_6 : List RG.It := [.x 8 [] (.string ⟨#[]⟩), .x 9 [] (.int .i64 3)]
set_option maxHeartbeats 4000000 in
set_option maxRecDepth 100000 in
theorem qe_1 (O : Ord N) (s0 s1 s2 s3 : ByteArray) (a b c d : Nat) (o1 o2 o3 : Bool) (hq0 : Gives 17 #[.string s0] (.tuple #[nv a, .bool true])) (hq1 : Gives 17 #[.string s1] (.tuple #[nv b, .bool false])) (hq2 : Gives 17 #[.string s2] (.tuple #[nv c, .bool o2])) (hq3 : Gives 17 #[.string s3] (.tuple #[nv d, .bool o3])) : Gives 6 #[.string s0, .string s1, .string s2, .string s3] (.tuple #[(.string ⟨#[]⟩), (.int .i64 3)]) := by
  intro w
  go_enter Try.func6, Try.ntmps6
  refine RG.M.enter [(0, .v (.string s0)), (1, .v (.string s1)), (2, .v (.string s2)), (3, .v (.string s3))] 70 (by kernel_rfl) ?_
  intro a0 M0
  repeat refine wp_seq ?_
  refine M0.tx0 FQb_0 [(0, (.v (.string s0))), (1, (.v (.string s1))), (2, (.v (.string s2))), (3, (.v (.string s3))), (8, (.v (.string ⟨#[]⟩))), (9, (.v (.int .i64 0)))] (by kernel_rfl) ⟨RG.st fun _ _ => by kernel_rfl, RG.st fun _ _ => by kernel_rfl, trivial⟩ ?_
  intro a1 w1 M1
  repeat refine wp_seq ?_
  refine M1.tx (FQb_1 s0 a) [(5, (RG.z 4))] [(0, 6, (wn a))] [(wn a)] [(1, (.v (.string s1))), (2, (.v (.string s2))), (3, (.v (.string s3))), (8, (.v (.string ⟨#[]⟩))), (9, (.v (.int .i64 0))), (11, (.v (.bool true)))] (by kernel_rfl) (by kernel_rfl) ⟨RG.st fun _ _ => by kernel_rfl, RG.cl (hq0) fun _ _ => by kernel_rfl, RG.st fun _ _ => by kernel_rfl, RG.st fun _ _ => by kernel_rfl, RG.st fun _ _ => by kernel_rfl, RG.mk 0 44 fun _ _ => by kernel_rfl, RG.pt i44 (by kernel_rfl), RG.st fun _ _ => by kernel_rfl, trivial⟩ ?_
  intro j2 a2 w2 M2
  repeat refine wp_seq ?_
  refine M2.tx (FQb_2 s1 b) [(5, (RG.z 4))] [(1, 6, (wn b))] [(wn a), (wn b)] [(2, (.v (.string s2))), (3, (.v (.string s3))), (8, (.v (.string ⟨#[]⟩))), (9, (.v (.int .i64 0))), (11, (.v (.bool true))), (13, (.v (.bool false)))] (by kernel_rfl) (by kernel_rfl) ⟨RG.st fun _ _ => by kernel_rfl, RG.cl (hq1) fun _ _ => by kernel_rfl, RG.st fun _ _ => by kernel_rfl, RG.st fun _ _ => by kernel_rfl, RG.st fun _ _ => by kernel_rfl, RG.mk 1 44 fun _ _ => by kernel_rfl, RG.pt i44 (by kernel_rfl), RG.st fun _ _ => by kernel_rfl, trivial⟩ ?_
  intro j3 a3 w3 M3
  repeat refine wp_seq ?_
  refine M3.tx (FQb_3 s2 c o2) [(5, (RG.z 4))] [(2, 6, (wn c))] [(wn a), (wn b), (wn c)] [(3, (.v (.string s3))), (8, (.v (.string ⟨#[]⟩))), (9, (.v (.int .i64 0))), (11, (.v (.bool true))), (13, (.v (.bool false)))] (by kernel_rfl) (by kernel_rfl) ⟨RG.st fun _ _ => by kernel_rfl, RG.cl (hq2) fun _ _ => by kernel_rfl, RG.st fun _ _ => by kernel_rfl, RG.st fun _ _ => by kernel_rfl, RG.st fun _ _ => by kernel_rfl, RG.mk 2 44 fun _ _ => by kernel_rfl, RG.pt i44 (by kernel_rfl), RG.st fun _ _ => by kernel_rfl, trivial⟩ ?_
  intro j4 a4 w4 M4
  repeat refine wp_seq ?_
  refine M4.tx (FQb_4 s3 d o3) [(5, (RG.z 4))] [(3, 6, (wn d))] [(wn a), (wn b), (wn c), (wn d)] [(8, (.v (.string ⟨#[]⟩))), (9, (.v (.int .i64 0))), (11, (.v (.bool true))), (13, (.v (.bool false)))] (by kernel_rfl) (by kernel_rfl) ⟨RG.st fun _ _ => by kernel_rfl, RG.cl (hq3) fun _ _ => by kernel_rfl, RG.st fun _ _ => by kernel_rfl, RG.st fun _ _ => by kernel_rfl, RG.st fun _ _ => by kernel_rfl, RG.mk 3 44 fun _ _ => by kernel_rfl, RG.pt i44 (by kernel_rfl), RG.st fun _ _ => by kernel_rfl, trivial⟩ ?_
  intro j5 a5 w5 M5
  repeat refine wp_seq ?_
  refine M5.tx0 FQb_5 [(8, (.v (.string ⟨#[]⟩))), (9, (.v (.int .i64 0))), (52, (.v (.bool true)))] (by kernel_rfl) ⟨RG.st fun _ _ => by kernel_rfl, RG.st fun _ _ => by kernel_rfl, RG.st fun _ _ => by kernel_rfl, RG.st fun _ _ => by kernel_rfl, RG.st fun _ _ => by kernel_rfl, RG.st fun _ _ => by kernel_rfl, RG.st fun _ _ => by kernel_rfl, RG.cert_pass rfl rfl, RG.cert_pass rfl rfl, RG.st fun _ _ => by kernel_rfl, RG.st fun _ _ => by kernel_rfl, RG.cert_pass rfl rfl, RG.cert_pass rfl rfl, RG.st fun _ _ => by kernel_rfl, trivial⟩ ?_
  intro a6 w6 M6
  repeat refine wp_seq ?_
  refine wp_cond_true (M6.ev (by kernel_rfl)) ?_
  repeat refine wp_seq ?_
  refine M6.tx0 FQb_6 [(8, (.v (.string ⟨#[]⟩))), (9, (.v (.int .i64 3)))] (by kernel_rfl) ⟨RG.st fun _ _ => by kernel_rfl, RG.st fun _ _ => by kernel_rfl, trivial⟩ ?_
  intro a7 w7 M7
  refine wp_ret ?_
  refine bodyPost_ret (v := _) (RG.results_tt 8 9 rfl (.string ⟨#[]⟩) (.int .i64 3) (M7.av (by kernel_rfl)) (M7.av (by kernel_rfl))) M7.sl.defers ?_
  exact ⟨_, rfl, M7.st.bel.below, rfl⟩
def FQc_0 : List RG.It := [.x 8 [] (.string ⟨#[]⟩), .x 9 [] (.int .i64 0)]
def FQc_1 (s0 : ByteArray) (a : Nat) : List RG.It := [.x 20 [] (.string s0), .c 21 [(20, 0)] (.tuple #[(nv a), (.bool true)]), .x 19 [(21, 1)] (.tuple #[(nv a), (.bool true)]), .x 22 [(19, 2)] (nv a), .x 23 [(19, 2)] (.bool true), .m 10 [] 0, .u [(10, 5), (22, 3)] 0, .x 11 [(23, 4)] (.bool true)]
def FQc_2 (s1 : ByteArray) (b : Nat) : List RG.It := [.x 25 [] (.string s1), .c 26 [(25, 0)] (.tuple #[(nv b), (.bool true)]), .x 24 [(26, 1)] (.tuple #[(nv b), (.bool true)]), .x 27 [(24, 2)] (nv b), .x 28 [(24, 2)] (.bool true), .m 12 [] 1, .u [(12, 5), (27, 3)] 1, .x 13 [(28, 4)] (.bool true)]
def FQc_3 (s2 : ByteArray) (c : Nat) : List RG.It := [.x 30 [] (.string s2), .c 31 [(30, 0)] (.tuple #[(nv c), (.bool false)]), .x 29 [(31, 1)] (.tuple #[(nv c), (.bool false)]), .x 32 [(29, 2)] (nv c), .x 33 [(29, 2)] (.bool false), .m 14 [] 2, .u [(14, 5), (32, 3)] 2, .x 15 [(33, 4)] (.bool false)]
def FQc_4 (s3 : ByteArray) (d : Nat) (o3 : Bool) : List RG.It := [.x 35 [] (.string s3), .c 36 [(35, 0)] (.tuple #[(nv d), (.bool o3)]), .x 34 [(36, 1)] (.tuple #[(nv d), (.bool o3)]), .x 37 [(34, 2)] (nv d), .x 38 [(34, 2)] (.bool o3), .m 16 [] 3, .u [(16, 5), (37, 3)] 3, .x 17 [(38, 4)] (.bool o3)]
def FQc_5 : List RG.It := [.x 39 [] (.bool true), .x 40 [(39, 0)] (.bool false), .x 41 [(40, 1)] (.bool false), .x 42 [] (.bool true), .x 43 [(42, 3)] (.bool false), .x 44 [(41, 2), (43, 4)] (.bool false), .x 45 [(44, 5)] (.bool false), .x 46 [] (.bool false), .x 47 [(46, 7)] (.bool true), .x 48 [(45, 6), (47, 8)] (.bool true), .x 49 [(48, 9)] (.bool true), ⟨some 50, [], (.v undef), .pass⟩, ⟨some 51, [], (.v undef), .pass⟩, .x 52 [(49, 10), (51, 12)] (.bool true)]
def FQc_6 : List RG.It := [.x 8 [] (.string ⟨#[]⟩), .x 9 [] (.int .i64 3)]
set_option maxHeartbeats 4000000 in
set_option maxRecDepth 100000 in
theorem qe_2 (O : Ord N) (s0 s1 s2 s3 : ByteArray) (a b c d : Nat) (o1 o2 o3 : Bool) (hq0 : Gives 17 #[.string s0] (.tuple #[nv a, .bool true])) (hq1 : Gives 17 #[.string s1] (.tuple #[nv b, .bool true])) (hq2 : Gives 17 #[.string s2] (.tuple #[nv c, .bool false])) (hq3 : Gives 17 #[.string s3] (.tuple #[nv d, .bool o3])) : Gives 6 #[.string s0, .string s1, .string s2, .string s3] (.tuple #[(.string ⟨#[]⟩), (.int .i64 3)]) := by
  intro w
  go_enter Try.func6, Try.ntmps6
  refine RG.M.enter [(0, .v (.string s0)), (1, .v (.string s1)), (2, .v (.string s2)), (3, .v (.string s3))] 70 (by kernel_rfl) ?_
  intro a0 M0
  repeat refine wp_seq ?_
  refine M0.tx0 FQc_0 [(0, (.v (.string s0))), (1, (.v (.string s1))), (2, (.v (.string s2))), (3, (.v (.string s3))), (8, (.v (.string ⟨#[]⟩))), (9, (.v (.int .i64 0)))] (by kernel_rfl) ⟨RG.st fun _ _ => by kernel_rfl, RG.st fun _ _ => by kernel_rfl, trivial⟩ ?_
  intro a1 w1 M1
  repeat refine wp_seq ?_
  refine M1.tx (FQc_1 s0 a) [(5, (RG.z 4))] [(0, 6, (wn a))] [(wn a)] [(1, (.v (.string s1))), (2, (.v (.string s2))), (3, (.v (.string s3))), (8, (.v (.string ⟨#[]⟩))), (9, (.v (.int .i64 0))), (11, (.v (.bool true)))] (by kernel_rfl) (by kernel_rfl) ⟨RG.st fun _ _ => by kernel_rfl, RG.cl (hq0) fun _ _ => by kernel_rfl, RG.st fun _ _ => by kernel_rfl, RG.st fun _ _ => by kernel_rfl, RG.st fun _ _ => by kernel_rfl, RG.mk 0 44 fun _ _ => by kernel_rfl, RG.pt i44 (by kernel_rfl), RG.st fun _ _ => by kernel_rfl, trivial⟩ ?_
  intro j2 a2 w2 M2
  repeat refine wp_seq ?_
  refine M2.tx (FQc_2 s1 b) [(5, (RG.z 4))] [(1, 6, (wn b))] [(wn a), (wn b)] [(2, (.v (.string s2))), (3, (.v (.string s3))), (8, (.v (.string ⟨#[]⟩))), (9, (.v (.int .i64 0))), (11, (.v (.bool true))), (13, (.v (.bool true)))] (by kernel_rfl) (by kernel_rfl) ⟨RG.st fun _ _ => by kernel_rfl, RG.cl (hq1) fun _ _ => by kernel_rfl, RG.st fun _ _ => by kernel_rfl, RG.st fun _ _ => by kernel_rfl, RG.st fun _ _ => by kernel_rfl, RG.mk 1 44 fun _ _ => by kernel_rfl, RG.pt i44 (by kernel_rfl), RG.st fun _ _ => by kernel_rfl, trivial⟩ ?_
  intro j3 a3 w3 M3
  repeat refine wp_seq ?_
  refine M3.tx (FQc_3 s2 c) [(5, (RG.z 4))] [(2, 6, (wn c))] [(wn a), (wn b), (wn c)] [(3, (.v (.string s3))), (8, (.v (.string ⟨#[]⟩))), (9, (.v (.int .i64 0))), (11, (.v (.bool true))), (13, (.v (.bool true))), (15, (.v (.bool false)))] (by kernel_rfl) (by kernel_rfl) ⟨RG.st fun _ _ => by kernel_rfl, RG.cl (hq2) fun _ _ => by kernel_rfl, RG.st fun _ _ => by kernel_rfl, RG.st fun _ _ => by kernel_rfl, RG.st fun _ _ => by kernel_rfl, RG.mk 2 44 fun _ _ => by kernel_rfl, RG.pt i44 (by kernel_rfl), RG.st fun _ _ => by kernel_rfl, trivial⟩ ?_
  intro j4 a4 w4 M4
  repeat refine wp_seq ?_
  refine M4.tx (FQc_4 s3 d o3) [(5, (RG.z 4))] [(3, 6, (wn d))] [(wn a), (wn b), (wn c), (wn d)] [(8, (.v (.string ⟨#[]⟩))), (9, (.v (.int .i64 0))), (11, (.v (.bool true))), (13, (.v (.bool true))), (15, (.v (.bool false)))] (by kernel_rfl) (by kernel_rfl) ⟨RG.st fun _ _ => by kernel_rfl, RG.cl (hq3) fun _ _ => by kernel_rfl, RG.st fun _ _ => by kernel_rfl, RG.st fun _ _ => by kernel_rfl, RG.st fun _ _ => by kernel_rfl, RG.mk 3 44 fun _ _ => by kernel_rfl, RG.pt i44 (by kernel_rfl), RG.st fun _ _ => by kernel_rfl, trivial⟩ ?_
  intro j5 a5 w5 M5
  repeat refine wp_seq ?_
  refine M5.tx0 FQc_5 [(8, (.v (.string ⟨#[]⟩))), (9, (.v (.int .i64 0))), (52, (.v (.bool true)))] (by kernel_rfl) ⟨RG.st fun _ _ => by kernel_rfl, RG.st fun _ _ => by kernel_rfl, RG.st fun _ _ => by kernel_rfl, RG.st fun _ _ => by kernel_rfl, RG.st fun _ _ => by kernel_rfl, RG.st fun _ _ => by kernel_rfl, RG.st fun _ _ => by kernel_rfl, RG.st fun _ _ => by kernel_rfl, RG.st fun _ _ => by kernel_rfl, RG.st fun _ _ => by kernel_rfl, RG.st fun _ _ => by kernel_rfl, RG.cert_pass rfl rfl, RG.cert_pass rfl rfl, RG.st fun _ _ => by kernel_rfl, trivial⟩ ?_
  intro a6 w6 M6
  repeat refine wp_seq ?_
  refine wp_cond_true (M6.ev (by kernel_rfl)) ?_
  repeat refine wp_seq ?_
  refine M6.tx0 FQc_6 [(8, (.v (.string ⟨#[]⟩))), (9, (.v (.int .i64 3)))] (by kernel_rfl) ⟨RG.st fun _ _ => by kernel_rfl, RG.st fun _ _ => by kernel_rfl, trivial⟩ ?_
  intro a7 w7 M7
  refine wp_ret ?_
  refine bodyPost_ret (v := _) (RG.results_tt 8 9 rfl (.string ⟨#[]⟩) (.int .i64 3) (M7.av (by kernel_rfl)) (M7.av (by kernel_rfl))) M7.sl.defers ?_
  exact ⟨_, rfl, M7.st.bel.below, rfl⟩
def FQd_0 : List RG.It := [.x 8 [] (.string ⟨#[]⟩), .x 9 [] (.int .i64 0)]
def FQd_1 (s0 : ByteArray) (a : Nat) : List RG.It := [.x 20 [] (.string s0), .c 21 [(20, 0)] (.tuple #[(nv a), (.bool true)]), .x 19 [(21, 1)] (.tuple #[(nv a), (.bool true)]), .x 22 [(19, 2)] (nv a), .x 23 [(19, 2)] (.bool true), .m 10 [] 0, .u [(10, 5), (22, 3)] 0, .x 11 [(23, 4)] (.bool true)]
def FQd_2 (s1 : ByteArray) (b : Nat) : List RG.It := [.x 25 [] (.string s1), .c 26 [(25, 0)] (.tuple #[(nv b), (.bool true)]), .x 24 [(26, 1)] (.tuple #[(nv b), (.bool true)]), .x 27 [(24, 2)] (nv b), .x 28 [(24, 2)] (.bool true), .m 12 [] 1, .u [(12, 5), (27, 3)] 1, .x 13 [(28, 4)] (.bool true)]
def FQd_3 (s2 : ByteArray) (c : Nat) : List RG.It := [.x 30 [] (.string s2), .c 31 [(30, 0)] (.tuple #[(nv c), (.bool true)]), .x 29 [(31, 1)] (.tuple #[(nv c), (.bool true)]), .x 32 [(29, 2)] (nv c), .x 33 [(29, 2)] (.bool true), .m 14 [] 2, .u [(14, 5), (32, 3)] 2, .x 15 [(33, 4)] (.bool true)]
def FQd_4 (s3 : ByteArray) (d : Nat) : List RG.It := [.x 35 [] (.string s3), .c 36 [(35, 0)] (.tuple #[(nv d), (.bool false)]), .x 34 [(36, 1)] (.tuple #[(nv d), (.bool false)]), .x 37 [(34, 2)] (nv d), .x 38 [(34, 2)] (.bool false), .m 16 [] 3, .u [(16, 5), (37, 3)] 3, .x 17 [(38, 4)] (.bool false)]
def FQd_5 : List RG.It := [.x 39 [] (.bool true), .x 40 [(39, 0)] (.bool false), .x 41 [(40, 1)] (.bool false), .x 42 [] (.bool true), .x 43 [(42, 3)] (.bool false), .x 44 [(41, 2), (43, 4)] (.bool false), .x 45 [(44, 5)] (.bool false), .x 46 [] (.bool true), .x 47 [(46, 7)] (.bool false), .x 48 [(45, 6), (47, 8)] (.bool false), .x 49 [(48, 9)] (.bool false), .x 50 [] (.bool false), .x 51 [(50, 11)] (.bool true), .x 52 [(49, 10), (51, 12)] (.bool true)]
def FQd_6 : List RG.It := [.x 8 [] (.string ⟨#[]⟩), .x 9 [] (.int .i64 3)]
set_option maxHeartbeats 4000000 in
set_option maxRecDepth 100000 in
theorem qe_3 (O : Ord N) (s0 s1 s2 s3 : ByteArray) (a b c d : Nat) (o1 o2 o3 : Bool) (hq0 : Gives 17 #[.string s0] (.tuple #[nv a, .bool true])) (hq1 : Gives 17 #[.string s1] (.tuple #[nv b, .bool true])) (hq2 : Gives 17 #[.string s2] (.tuple #[nv c, .bool true])) (hq3 : Gives 17 #[.string s3] (.tuple #[nv d, .bool false])) : Gives 6 #[.string s0, .string s1, .string s2, .string s3] (.tuple #[(.string ⟨#[]⟩), (.int .i64 3)]) := by
  intro w
  go_enter Try.func6, Try.ntmps6
  refine RG.M.enter [(0, .v (.string s0)), (1, .v (.string s1)), (2, .v (.string s2)), (3, .v (.string s3))] 70 (by kernel_rfl) ?_
  intro a0 M0
  repeat refine wp_seq ?_
  refine M0.tx0 FQd_0 [(0, (.v (.string s0))), (1, (.v (.string s1))), (2, (.v (.string s2))), (3, (.v (.string s3))), (8, (.v (.string ⟨#[]⟩))), (9, (.v (.int .i64 0)))] (by kernel_rfl) ⟨RG.st fun _ _ => by kernel_rfl, RG.st fun _ _ => by kernel_rfl, trivial⟩ ?_
  intro a1 w1 M1
  repeat refine wp_seq ?_
  refine M1.tx (FQd_1 s0 a) [(5, (RG.z 4))] [(0, 6, (wn a))] [(wn a)] [(1, (.v (.string s1))), (2, (.v (.string s2))), (3, (.v (.string s3))), (8, (.v (.string ⟨#[]⟩))), (9, (.v (.int .i64 0))), (11, (.v (.bool true)))] (by kernel_rfl) (by kernel_rfl) ⟨RG.st fun _ _ => by kernel_rfl, RG.cl (hq0) fun _ _ => by kernel_rfl, RG.st fun _ _ => by kernel_rfl, RG.st fun _ _ => by kernel_rfl, RG.st fun _ _ => by kernel_rfl, RG.mk 0 44 fun _ _ => by kernel_rfl, RG.pt i44 (by kernel_rfl), RG.st fun _ _ => by kernel_rfl, trivial⟩ ?_
  intro j2 a2 w2 M2
  repeat refine wp_seq ?_
  refine M2.tx (FQd_2 s1 b) [(5, (RG.z 4))] [(1, 6, (wn b))] [(wn a), (wn b)] [(2, (.v (.string s2))), (3, (.v (.string s3))), (8, (.v (.string ⟨#[]⟩))), (9, (.v (.int .i64 0))), (11, (.v (.bool true))), (13, (.v (.bool true)))] (by kernel_rfl) (by kernel_rfl) ⟨RG.st fun _ _ => by kernel_rfl, RG.cl (hq1) fun _ _ => by kernel_rfl, RG.st fun _ _ => by kernel_rfl, RG.st fun _ _ => by kernel_rfl, RG.st fun _ _ => by kernel_rfl, RG.mk 1 44 fun _ _ => by kernel_rfl, RG.pt i44 (by kernel_rfl), RG.st fun _ _ => by kernel_rfl, trivial⟩ ?_
  intro j3 a3 w3 M3
  repeat refine wp_seq ?_
  refine M3.tx (FQd_3 s2 c) [(5, (RG.z 4))] [(2, 6, (wn c))] [(wn a), (wn b), (wn c)] [(3, (.v (.string s3))), (8, (.v (.string ⟨#[]⟩))), (9, (.v (.int .i64 0))), (11, (.v (.bool true))), (13, (.v (.bool true))), (15, (.v (.bool true)))] (by kernel_rfl) (by kernel_rfl) ⟨RG.st fun _ _ => by kernel_rfl, RG.cl (hq2) fun _ _ => by kernel_rfl, RG.st fun _ _ => by kernel_rfl, RG.st fun _ _ => by kernel_rfl, RG.st fun _ _ => by kernel_rfl, RG.mk 2 44 fun _ _ => by kernel_rfl, RG.pt i44 (by kernel_rfl), RG.st fun _ _ => by kernel_rfl, trivial⟩ ?_
  intro j4 a4 w4 M4
  repeat refine wp_seq ?_
  refine M4.tx (FQd_4 s3 d) [(5, (RG.z 4))] [(3, 6, (wn d))] [(wn a), (wn b), (wn c), (wn d)] [(8, (.v (.string ⟨#[]⟩))), (9, (.v (.int .i64 0))), (11, (.v (.bool true))), (13, (.v (.bool true))), (15, (.v (.bool true))), (17, (.v (.bool false)))] (by kernel_rfl) (by kernel_rfl) ⟨RG.st fun _ _ => by kernel_rfl, RG.cl (hq3) fun _ _ => by kernel_rfl, RG.st fun _ _ => by kernel_rfl, RG.st fun _ _ => by kernel_rfl, RG.st fun _ _ => by kernel_rfl, RG.mk 3 44 fun _ _ => by kernel_rfl, RG.pt i44 (by kernel_rfl), RG.st fun _ _ => by kernel_rfl, trivial⟩ ?_
  intro j5 a5 w5 M5
  repeat refine wp_seq ?_
  refine M5.tx0 FQd_5 [(8, (.v (.string ⟨#[]⟩))), (9, (.v (.int .i64 0))), (52, (.v (.bool true)))] (by kernel_rfl) ⟨RG.st fun _ _ => by kernel_rfl, RG.st fun _ _ => by kernel_rfl, RG.st fun _ _ => by kernel_rfl, RG.st fun _ _ => by kernel_rfl, RG.st fun _ _ => by kernel_rfl, RG.st fun _ _ => by kernel_rfl, RG.st fun _ _ => by kernel_rfl, RG.st fun _ _ => by kernel_rfl, RG.st fun _ _ => by kernel_rfl, RG.st fun _ _ => by kernel_rfl, RG.st fun _ _ => by kernel_rfl, RG.st fun _ _ => by kernel_rfl, RG.st fun _ _ => by kernel_rfl, RG.st fun _ _ => by kernel_rfl, trivial⟩ ?_
  intro a6 w6 M6
  repeat refine wp_seq ?_
  refine wp_cond_true (M6.ev (by kernel_rfl)) ?_
  repeat refine wp_seq ?_
  refine M6.tx0 FQd_6 [(8, (.v (.string ⟨#[]⟩))), (9, (.v (.int .i64 3)))] (by kernel_rfl) ⟨RG.st fun _ _ => by kernel_rfl, RG.st fun _ _ => by kernel_rfl, trivial⟩ ?_
  intro a7 w7 M7
  refine wp_ret ?_
  refine bodyPost_ret (v := _) (RG.results_tt 8 9 rfl (.string ⟨#[]⟩) (.int .i64 3) (M7.av (by kernel_rfl)) (M7.av (by kernel_rfl))) M7.sl.defers ?_
  exact ⟨_, rfl, M7.st.bel.below, rfl⟩
def FQe_0 : List RG.It := [.x 8 [] (.string ⟨#[]⟩), .x 9 [] (.int .i64 0)]
def FQe_1 (s0 : ByteArray) (a : Nat) : List RG.It := [.x 20 [] (.string s0), .c 21 [(20, 0)] (.tuple #[(nv a), (.bool true)]), .x 19 [(21, 1)] (.tuple #[(nv a), (.bool true)]), .x 22 [(19, 2)] (nv a), .x 23 [(19, 2)] (.bool true), .m 10 [] 0, .u [(10, 5), (22, 3)] 0, .x 11 [(23, 4)] (.bool true)]
def FQe_2 (s1 : ByteArray) (b : Nat) : List RG.It := [.x 25 [] (.string s1), .c 26 [(25, 0)] (.tuple #[(nv b), (.bool true)]), .x 24 [(26, 1)] (.tuple #[(nv b), (.bool true)]), .x 27 [(24, 2)] (nv b), .x 28 [(24, 2)] (.bool true), .m 12 [] 1, .u [(12, 5), (27, 3)] 1, .x 13 [(28, 4)] (.bool true)]
def FQe_3 (s2 : ByteArray) (c : Nat) : List RG.It := [.x 30 [] (.string s2), .c 31 [(30, 0)] (.tuple #[(nv c), (.bool true)]), .x 29 [(31, 1)] (.tuple #[(nv c), (.bool true)]), .x 32 [(29, 2)] (nv c), .x 33 [(29, 2)] (.bool true), .m 14 [] 2, .u [(14, 5), (32, 3)] 2, .x 15 [(33, 4)] (.bool true)]
def FQe_4 (s3 : ByteArray) (d : Nat) : List RG.It := [.x 35 [] (.string s3), .c 36 [(35, 0)] (.tuple #[(nv d), (.bool true)]), .x 34 [(36, 1)] (.tuple #[(nv d), (.bool true)]), .x 37 [(34, 2)] (nv d), .x 38 [(34, 2)] (.bool true), .m 16 [] 3, .u [(16, 5), (37, 3)] 3, .x 17 [(38, 4)] (.bool true)]
def FQe_5 : List RG.It := [.x 39 [] (.bool true), .x 40 [(39, 0)] (.bool false), .x 41 [(40, 1)] (.bool false), .x 42 [] (.bool true), .x 43 [(42, 3)] (.bool false), .x 44 [(41, 2), (43, 4)] (.bool false), .x 45 [(44, 5)] (.bool false), .x 46 [] (.bool true), .x 47 [(46, 7)] (.bool false), .x 48 [(45, 6), (47, 8)] (.bool false), .x 49 [(48, 9)] (.bool false), .x 50 [] (.bool true), .x 51 [(50, 11)] (.bool false), .x 52 [(49, 10), (51, 12)] (.bool false)]
def FQe_7 (a c : Nat) : List RG.It := [.x 53 [] (nv a), .x 54 [] (nv c), .x 55 [(53, 0), (54, 1)] (.bool true)]
def FQe_8 : List RG.It := [.x 8 [] (.string ⟨#[]⟩), .x 9 [] (.int .i64 6)]
set_option maxHeartbeats 4000000 in
set_option maxRecDepth 100000 in
theorem qe_s (O : Ord N) (s0 s1 s2 s3 : ByteArray) (a b c d : Nat) (o1 o2 o3 : Bool) (hq0 : Gives 17 #[.string s0] (.tuple #[nv a, .bool true])) (hq1 : Gives 17 #[.string s1] (.tuple #[nv b, .bool true])) (hq2 : Gives 17 #[.string s2] (.tuple #[nv c, .bool true])) (hq3 : Gives 17 #[.string s3] (.tuple #[nv d, .bool true])) (hA : a < N) (hB : b < N) (hC : c < N) (hD : d < N) (hac : a = c) : Gives 6 #[.string s0, .string s1, .string s2, .string s3] (.tuple #[(.string ⟨#[]⟩), (.int .i64 6)]) := by
  intro w
  go_enter Try.func6, Try.ntmps6
  refine RG.M.enter [(0, .v (.string s0)), (1, .v (.string s1)), (2, .v (.string s2)), (3, .v (.string s3))] 70 (by kernel_rfl) ?_
  intro a0 M0
  repeat refine wp_seq ?_
  refine M0.tx0 FQe_0 [(0, (.v (.string s0))), (1, (.v (.string s1))), (2, (.v (.string s2))), (3, (.v (.string s3))), (8, (.v (.string ⟨#[]⟩))), (9, (.v (.int .i64 0)))] (by kernel_rfl) ⟨RG.st fun _ _ => by kernel_rfl, RG.st fun _ _ => by kernel_rfl, trivial⟩ ?_
  intro a1 w1 M1
  repeat refine wp_seq ?_
  refine M1.tx (FQe_1 s0 a) [(5, (RG.z 4))] [(0, 6, (wn a))] [(wn a)] [(1, (.v (.string s1))), (2, (.v (.string s2))), (3, (.v (.string s3))), (8, (.v (.string ⟨#[]⟩))), (9, (.v (.int .i64 0))), (10, (.p 0 0)), (11, (.v (.bool true)))] (by kernel_rfl) (by kernel_rfl) ⟨RG.st fun _ _ => by kernel_rfl, RG.cl (hq0) fun _ _ => by kernel_rfl, RG.st fun _ _ => by kernel_rfl, RG.st fun _ _ => by kernel_rfl, RG.st fun _ _ => by kernel_rfl, RG.mk 0 44 fun _ _ => by kernel_rfl, RG.pt i44 (by kernel_rfl), RG.st fun _ _ => by kernel_rfl, trivial⟩ ?_
  intro j2 a2 w2 M2
  repeat refine wp_seq ?_
  refine M2.tx (FQe_2 s1 b) [(5, (RG.z 4))] [(1, 6, (wn b))] [(wn a), (wn b)] [(2, (.v (.string s2))), (3, (.v (.string s3))), (8, (.v (.string ⟨#[]⟩))), (9, (.v (.int .i64 0))), (10, (.p 0 0)), (11, (.v (.bool true))), (13, (.v (.bool true)))] (by kernel_rfl) (by kernel_rfl) ⟨RG.st fun _ _ => by kernel_rfl, RG.cl (hq1) fun _ _ => by kernel_rfl, RG.st fun _ _ => by kernel_rfl, RG.st fun _ _ => by kernel_rfl, RG.st fun _ _ => by kernel_rfl, RG.mk 1 44 fun _ _ => by kernel_rfl, RG.pt i44 (by kernel_rfl), RG.st fun _ _ => by kernel_rfl, trivial⟩ ?_
  intro j3 a3 w3 M3
  repeat refine wp_seq ?_
  refine M3.tx (FQe_3 s2 c) [(5, (RG.z 4))] [(2, 6, (wn c))] [(wn a), (wn b), (wn c)] [(3, (.v (.string s3))), (8, (.v (.string ⟨#[]⟩))), (9, (.v (.int .i64 0))), (10, (.p 0 0)), (11, (.v (.bool true))), (13, (.v (.bool true))), (14, (.p 2 0)), (15, (.v (.bool true)))] (by kernel_rfl) (by kernel_rfl) ⟨RG.st fun _ _ => by kernel_rfl, RG.cl (hq2) fun _ _ => by kernel_rfl, RG.st fun _ _ => by kernel_rfl, RG.st fun _ _ => by kernel_rfl, RG.st fun _ _ => by kernel_rfl, RG.mk 2 44 fun _ _ => by kernel_rfl, RG.pt i44 (by kernel_rfl), RG.st fun _ _ => by kernel_rfl, trivial⟩ ?_
  intro j4 a4 w4 M4
  repeat refine wp_seq ?_
  refine M4.tx (FQe_4 s3 d) [(5, (RG.z 4))] [(3, 6, (wn d))] [(wn a), (wn b), (wn c), (wn d)] [(8, (.v (.string ⟨#[]⟩))), (9, (.v (.int .i64 0))), (10, (.p 0 0)), (11, (.v (.bool true))), (13, (.v (.bool true))), (14, (.p 2 0)), (15, (.v (.bool true))), (17, (.v (.bool true)))] (by kernel_rfl) (by kernel_rfl) ⟨RG.st fun _ _ => by kernel_rfl, RG.cl (hq3) fun _ _ => by kernel_rfl, RG.st fun _ _ => by kernel_rfl, RG.st fun _ _ => by kernel_rfl, RG.st fun _ _ => by kernel_rfl, RG.mk 3 44 fun _ _ => by kernel_rfl, RG.pt i44 (by kernel_rfl), RG.st fun _ _ => by kernel_rfl, trivial⟩ ?_
  intro j5 a5 w5 M5
  repeat refine wp_seq ?_
  refine M5.tx0 FQe_5 [(8, (.v (.string ⟨#[]⟩))), (9, (.v (.int .i64 0))), (10, (.p 0 0)), (14, (.p 2 0)), (52, (.v (.bool false)))] (by kernel_rfl) ⟨RG.st fun _ _ => by kernel_rfl, RG.st fun _ _ => by kernel_rfl, RG.st fun _ _ => by kernel_rfl, RG.st fun _ _ => by kernel_rfl, RG.st fun _ _ => by kernel_rfl, RG.st fun _ _ => by kernel_rfl, RG.st fun _ _ => by kernel_rfl, RG.st fun _ _ => by kernel_rfl, RG.st fun _ _ => by kernel_rfl, RG.st fun _ _ => by kernel_rfl, RG.st fun _ _ => by kernel_rfl, RG.st fun _ _ => by kernel_rfl, RG.st fun _ _ => by kernel_rfl, RG.st fun _ _ => by kernel_rfl, trivial⟩ ?_
  intro a6 w6 M6
  repeat refine wp_seq ?_
  refine wp_cond_false (M6.ev (by kernel_rfl)) ?_
  refine wp_skip ?_
  repeat refine wp_seq ?_
  refine M6.tx0 (FQe_7 a c) [(8, (.v (.string ⟨#[]⟩))), (9, (.v (.int .i64 0))), (55, (.v (.bool true)))] (by kernel_rfl) ⟨RG.ld u44 i44 (by kernel_rfl), RG.ld u44 i44 (by kernel_rfl), RG.cert_bin rfl .eql 44 44 53 54 (nv a) (nv c) (.bool true) rfl rfl (RG.sx fun _ => by kernel_rfl) (RG.sx fun _ => by kernel_rfl) (fun w => by kernel_rfl) (fun w => by rw [eqN (Nat.lt_of_lt_of_le hA O.le) (Nat.lt_of_lt_of_le hC O.le), decide_eq_true hac]), trivial⟩ ?_
  intro a7 w7 M7
  repeat refine wp_seq ?_
  refine wp_cond_true (M7.ev (by kernel_rfl)) ?_
  repeat refine wp_seq ?_
  refine M7.tx0 FQe_8 [(8, (.v (.string ⟨#[]⟩))), (9, (.v (.int .i64 6)))] (by kernel_rfl) ⟨RG.st fun _ _ => by kernel_rfl, RG.st fun _ _ => by kernel_rfl, trivial⟩ ?_
  intro a8 w8 M8
  refine wp_ret ?_
  refine bodyPost_ret (v := _) (RG.results_tt 8 9 rfl (.string ⟨#[]⟩) (.int .i64 6) (M8.av (by kernel_rfl)) (M8.av (by kernel_rfl))) M8.sl.defers ?_
  exact ⟨_, rfl, M8.st.bel.below, rfl⟩
def FQf_0 : List RG.It := [.x 8 [] (.string ⟨#[]⟩), .x 9 [] (.int .i64 0)]
def FQf_1 (s0 : ByteArray) (a : Nat) : List RG.It := [.x 20 [] (.string s0), .c 21 [(20, 0)] (.tuple #[(nv a), (.bool true)]), .x 19 [(21, 1)] (.tuple #[(nv a), (.bool true)]), .x 22 [(19, 2)] (nv a), .x 23 [(19, 2)] (.bool true), .m 10 [] 0, .u [(10, 5), (22, 3)] 0, .x 11 [(23, 4)] (.bool true)]
def FQf_2 (s1 : ByteArray) (b : Nat) : List RG.It := [.x 25 [] (.string s1), .c 26 [(25, 0)] (.tuple #[(nv b), (.bool true)]), .x 24 [(26, 1)] (.tuple #[(nv b), (.bool true)]), .x 27 [(24, 2)] (nv b), .x 28 [(24, 2)] (.bool true), .m 12 [] 1, .u [(12, 5), (27, 3)] 1, .x 13 [(28, 4)] (.bool true)]
def FQf_3 (s2 : ByteArray) (c : Nat) : List RG.It := [.x 30 [] (.string s2), .c 31 [(30, 0)] (.tuple #[(nv c), (.bool true)]), .x 29 [(31, 1)] (.tuple #[(nv c), (.bool true)]), .x 32 [(29, 2)] (nv c), .x 33 [(29, 2)] (.bool true), .m 14 [] 2, .u [(14, 5), (32, 3)] 2, .x 15 [(33, 4)] (.bool true)]
def FQf_4 (s3 : ByteArray) (d : Nat) : List RG.It := [.x 35 [] (.string s3), .c 36 [(35, 0)] (.tuple #[(nv d), (.bool true)]), .x 34 [(36, 1)] (.tuple #[(nv d), (.bool true)]), .x 37 [(34, 2)] (nv d), .x 38 [(34, 2)] (.bool true), .m 16 [] 3, .u [(16, 5), (37, 3)] 3, .x 17 [(38, 4)] (.bool true)]
def FQf_5 : List RG.It := [.x 39 [] (.bool true), .x 40 [(39, 0)] (.bool false), .x 41 [(40, 1)] (.bool false), .x 42 [] (.bool true), .x 43 [(42, 3)] (.bool false), .x 44 [(41, 2), (43, 4)] (.bool false), .x 45 [(44, 5)] (.bool false), .x 46 [] (.bool true), .x 47 [(46, 7)] (.bool false), .x 48 [(45, 6), (47, 8)] (.bool false), .x 49 [(48, 9)] (.bool false), .x 50 [] (.bool true), .x 51 [(50, 11)] (.bool false), .x 52 [(49, 10), (51, 12)] (.bool false)]
def FQf_7 (a c : Nat) : List RG.It := [.x 53 [] (nv a), .x 54 [] (nv c), .x 55 [(53, 0), (54, 1)] (.bool false)]
def FQf_9 : List RG.It := [.c 56 [] rv1, .m 18 [] 4, .u [(18, 1), (56, 0)] 4]
def FQf_10 (N a b c d : Nat) : List RG.It := [.x 57 [] rv1, .x 58 [] rv1, .x 59 [] (nv b), .x 60 [] (nv d), .c 61 [(58, 1), (59, 2), (60, 3)] (nv (sMi N b d)), .x 62 [] rv1, .x 63 [] rv1, .x 64 [] (nv a), .x 65 [] (nv c), .c 66 [(63, 6), (64, 7), (65, 8)] (nv (sMi N a c)), .c 67 [(62, 5), (66, 9)] (nv (sIn N (sMi N a c))), .c 68 [(57, 0), (61, 4), (67, 10)] (nv (sTi N (sMi N b d) (sIn N (sMi N a c)))), .c 69 [(68, 11)] (.string ⟨bx (sTi N (sMi N b d) (sIn N (sMi N a c)))⟩), .x 8 [(69, 12)] (.string ⟨bx (sTi N (sMi N b d) (sIn N (sMi N a c)))⟩), .x 9 [] (.int .i64 0)]
set_option maxHeartbeats 4000000 in
set_option maxRecDepth 100000 in
theorem qe_o (O : Ord N) (s0 s1 s2 s3 : ByteArray) (a b c d : Nat) (o1 o2 o3 : Bool) (hq0 : Gives 17 #[.string s0] (.tuple #[nv a, .bool true])) (hq1 : Gives 17 #[.string s1] (.tuple #[nv b, .bool true])) (hq2 : Gives 17 #[.string s2] (.tuple #[nv c, .bool true])) (hq3 : Gives 17 #[.string s3] (.tuple #[nv d, .bool true])) (hA : a < N) (hB : b < N) (hC : c < N) (hD : d < N) (hac : ¬ a = c) : Gives 6 #[.string s0, .string s1, .string s2, .string s3] (.tuple #[(.string ⟨bx (sTi N (sMi N b d) (sIn N (sMi N a c)))⟩), (.int .i64 0)]) := by
  intro w
  go_enter Try.func6, Try.ntmps6
  refine RG.M.enter [(0, .v (.string s0)), (1, .v (.string s1)), (2, .v (.string s2)), (3, .v (.string s3))] 70 (by kernel_rfl) ?_
  intro a0 M0
  repeat refine wp_seq ?_
  refine M0.tx0 FQf_0 [(0, (.v (.string s0))), (1, (.v (.string s1))), (2, (.v (.string s2))), (3, (.v (.string s3))), (8, (.v (.string ⟨#[]⟩))), (9, (.v (.int .i64 0)))] (by kernel_rfl) ⟨RG.st fun _ _ => by kernel_rfl, RG.st fun _ _ => by kernel_rfl, trivial⟩ ?_
  intro a1 w1 M1
  repeat refine wp_seq ?_
  refine M1.tx (FQf_1 s0 a) [(5, (RG.z 4))] [(0, 6, (wn a))] [(wn a)] [(1, (.v (.string s1))), (2, (.v (.string s2))), (3, (.v (.string s3))), (8, (.v (.string ⟨#[]⟩))), (9, (.v (.int .i64 0))), (10, (.p 0 0)), (11, (.v (.bool true)))] (by kernel_rfl) (by kernel_rfl) ⟨RG.st fun _ _ => by kernel_rfl, RG.cl (hq0) fun _ _ => by kernel_rfl, RG.st fun _ _ => by kernel_rfl, RG.st fun _ _ => by kernel_rfl, RG.st fun _ _ => by kernel_rfl, RG.mk 0 44 fun _ _ => by kernel_rfl, RG.pt i44 (by kernel_rfl), RG.st fun _ _ => by kernel_rfl, trivial⟩ ?_
  intro j2 a2 w2 M2
  repeat refine wp_seq ?_
  refine M2.tx (FQf_2 s1 b) [(5, (RG.z 4))] [(1, 6, (wn b))] [(wn a), (wn b)] [(2, (.v (.string s2))), (3, (.v (.string s3))), (8, (.v (.string ⟨#[]⟩))), (9, (.v (.int .i64 0))), (10, (.p 0 0)), (11, (.v (.bool true))), (12, (.p 1 0)), (13, (.v (.bool true)))] (by kernel_rfl) (by kernel_rfl) ⟨RG.st fun _ _ => by kernel_rfl, RG.cl (hq1) fun _ _ => by kernel_rfl, RG.st fun _ _ => by kernel_rfl, RG.st fun _ _ => by kernel_rfl, RG.st fun _ _ => by kernel_rfl, RG.mk 1 44 fun _ _ => by kernel_rfl, RG.pt i44 (by kernel_rfl), RG.st fun _ _ => by kernel_rfl, trivial⟩ ?_
  intro j3 a3 w3 M3
  repeat refine wp_seq ?_
  refine M3.tx (FQf_3 s2 c) [(5, (RG.z 4))] [(2, 6, (wn c))] [(wn a), (wn b), (wn c)] [(3, (.v (.string s3))), (8, (.v (.string ⟨#[]⟩))), (9, (.v (.int .i64 0))), (10, (.p 0 0)), (11, (.v (.bool true))), (12, (.p 1 0)), (13, (.v (.bool true))), (14, (.p 2 0)), (15, (.v (.bool true)))] (by kernel_rfl) (by kernel_rfl) ⟨RG.st fun _ _ => by kernel_rfl, RG.cl (hq2) fun _ _ => by kernel_rfl, RG.st fun _ _ => by kernel_rfl, RG.st fun _ _ => by kernel_rfl, RG.st fun _ _ => by kernel_rfl, RG.mk 2 44 fun _ _ => by kernel_rfl, RG.pt i44 (by kernel_rfl), RG.st fun _ _ => by kernel_rfl, trivial⟩ ?_
  intro j4 a4 w4 M4
  repeat refine wp_seq ?_
  refine M4.tx (FQf_4 s3 d) [(5, (RG.z 4))] [(3, 6, (wn d))] [(wn a), (wn b), (wn c), (wn d)] [(8, (.v (.string ⟨#[]⟩))), (9, (.v (.int .i64 0))), (10, (.p 0 0)), (11, (.v (.bool true))), (12, (.p 1 0)), (13, (.v (.bool true))), (14, (.p 2 0)), (15, (.v (.bool true))), (16, (.p 3 0)), (17, (.v (.bool true)))] (by kernel_rfl) (by kernel_rfl) ⟨RG.st fun _ _ => by kernel_rfl, RG.cl (hq3) fun _ _ => by kernel_rfl, RG.st fun _ _ => by kernel_rfl, RG.st fun _ _ => by kernel_rfl, RG.st fun _ _ => by kernel_rfl, RG.mk 3 44 fun _ _ => by kernel_rfl, RG.pt i44 (by kernel_rfl), RG.st fun _ _ => by kernel_rfl, trivial⟩ ?_
  intro j5 a5 w5 M5
  repeat refine wp_seq ?_
  refine M5.tx0 FQf_5 [(8, (.v (.string ⟨#[]⟩))), (9, (.v (.int .i64 0))), (10, (.p 0 0)), (12, (.p 1 0)), (14, (.p 2 0)), (16, (.p 3 0)), (52, (.v (.bool false)))] (by kernel_rfl) ⟨RG.st fun _ _ => by kernel_rfl, RG.st fun _ _ => by kernel_rfl, RG.st fun _ _ => by kernel_rfl, RG.st fun _ _ => by kernel_rfl, RG.st fun _ _ => by kernel_rfl, RG.st fun _ _ => by kernel_rfl, RG.st fun _ _ => by kernel_rfl, RG.st fun _ _ => by kernel_rfl, RG.st fun _ _ => by kernel_rfl, RG.st fun _ _ => by kernel_rfl, RG.st fun _ _ => by kernel_rfl, RG.st fun _ _ => by kernel_rfl, RG.st fun _ _ => by kernel_rfl, RG.st fun _ _ => by kernel_rfl, trivial⟩ ?_
  intro a6 w6 M6
  repeat refine wp_seq ?_
  refine wp_cond_false (M6.ev (by kernel_rfl)) ?_
  refine wp_skip ?_
  repeat refine wp_seq ?_
  refine M6.tx0 (FQf_7 a c) [(8, (.v (.string ⟨#[]⟩))), (9, (.v (.int .i64 0))), (10, (.p 0 0)), (12, (.p 1 0)), (14, (.p 2 0)), (16, (.p 3 0)), (55, (.v (.bool false)))] (by kernel_rfl) ⟨RG.ld u44 i44 (by kernel_rfl), RG.ld u44 i44 (by kernel_rfl), RG.cert_bin rfl .eql 44 44 53 54 (nv a) (nv c) (.bool false) rfl rfl (RG.sx fun _ => by kernel_rfl) (RG.sx fun _ => by kernel_rfl) (fun w => by kernel_rfl) (fun w => by rw [eqN (Nat.lt_of_lt_of_le hA O.le) (Nat.lt_of_lt_of_le hC O.le), decide_eq_false hac]), trivial⟩ ?_
  intro a7 w7 M7
  repeat refine wp_seq ?_
  refine wp_cond_false (M7.ev (by kernel_rfl)) ?_
  refine wp_skip ?_
  repeat refine wp_seq ?_
  refine M7.tx FQf_9 [(1, (RG.z 8))] [(4, 2, rl1)] [(wn a), (wn b), (wn c), (wn d), rl1] [(8, (.v (.string ⟨#[]⟩))), (9, (.v (.int .i64 0))), (10, (.p 0 0)), (12, (.p 1 0)), (14, (.p 2 0)), (16, (.p 3 0)), (18, (.p 4 0))] (by kernel_rfl) (by kernel_rfl) ⟨RG.cl (Q3_c) fun _ _ => by kernel_rfl, RG.mk 4 48 fun _ _ => by kernel_rfl, RG.pt i48 (by kernel_rfl), trivial⟩ ?_
  intro j8 a8 w8 M8
  repeat refine wp_seq ?_
  refine M8.dr0 (by kernel_rfl) (FQf_10 N a b c d) [(8, (.v (.string ⟨bx (sTi N (sMi N b d) (sIn N (sMi N a c)))⟩))), (9, (.v (.int .i64 0)))] (by kernel_rfl) ⟨RG.ld u48 i48 (by kernel_rfl), RG.ld u48 i48 (by kernel_rfl), RG.ld u44 i44 (by kernel_rfl), RG.ld u44 i44 (by kernel_rfl), RG.cl (qSub_c O hB hD) fun _ _ => by kernel_rfl, RG.ld u48 i48 (by kernel_rfl), RG.ld u48 i48 (by kernel_rfl), RG.ld u44 i44 (by kernel_rfl), RG.ld u44 i44 (by kernel_rfl), RG.cl (qSub_c O hA hC) fun _ _ => by kernel_rfl, RG.cl (qInv_c O (O.mi a c)) fun _ _ => by kernel_rfl, RG.cl (qMul_c O (O.mi b d) (O.inv (sMi N a c))) fun _ _ => by kernel_rfl, RG.cl (qBytes_c O (O.ti (sMi N b d) (sIn N (sMi N a c)))) fun _ _ => by kernel_rfl, RG.st fun _ _ => by kernel_rfl, RG.st fun _ _ => by kernel_rfl, trivial⟩ ?_
  intro a9 w9 M9
  refine wp_ret ?_
  refine bodyPost_ret (v := _) (RG.results_tt 8 9 rfl (.string ⟨bx (sTi N (sMi N b d) (sIn N (sMi N a c)))⟩) (.int .i64 0) (M9.av (by kernel_rfl)) (M9.av (by kernel_rfl))) M9.sl.defers ?_
  exact ⟨_, rfl, M9.st.bel.below, rfl⟩
open Classical in
/-- What is asked of Extract. -/
noncomputable def exT (N : Nat) (L : Nat → Bs) : Bs × Int :=
  if ∀ j, j < 4 → (rq N (L j)).isSome = true then if nuV (L 0) = nuV (L 2) then (#[], 6) else (bx (sTi N (sMi N (nuV (L 1)) (nuV (L 3))) (sIn N (sMi N (nuV (L 0)) (nuV (L 2))))), 0) else (#[], 3)
theorem qextract_c (O : Ord N) (S : Nat → ByteArray) : Gives 6 #[.string (S 0), .string (S 1), .string (S 2), .string (S 3)] (.tuple #[.string ⟨(exT N (fun j => (S j).data)).1⟩, .int .i64 (exT N (fun j => (S j).data)).2]) := by
  have q0 := qscal_c O (S 0)
  have q1 := qscal_c O (S 1)
  have q2 := qscal_c O (S 2)
  have q3 := qscal_c O (S 3)
  unfold exT
  by_cases h0 : (rq N (S 0).data).isSome = true
  · by_cases h1 : (rq N (S 1).data).isSome = true
    · by_cases h2 : (rq N (S 2).data).isSome = true
      · by_cases h3 : (rq N (S 3).data).isSome = true
        · have hall : ∀ j, j < 4 → (rq N (S j).data).isSome = true := fun j hj => by
            have h4 : j = 0 ∨ j = 1 ∨ j = 2 ∨ j = 3 := by omega
            rcases h4 with rfl | rfl | rfl | rfl <;> assumption
          rw [h0] at q0
          rw [h1] at q1
          rw [h2] at q2
          rw [h3] at q3
          rw [if_pos hall]
          by_cases hac : nuV (S 0).data = nuV (S 2).data
          · rw [if_pos hac]
            exact qe_s O (S 0) (S 1) (S 2) (S 3) _ _ _ _ true true true q0 q1 q2 q3 (rq_get h0).2 (rq_get h1).2 (rq_get h2).2 (rq_get h3).2 hac
          · rw [if_neg hac]
            exact qe_o O (S 0) (S 1) (S 2) (S 3) _ _ _ _ true true true q0 q1 q2 q3 (rq_get h0).2 (rq_get h1).2 (rq_get h2).2 (rq_get h3).2 hac
        · rw [h0] at q0
          rw [h1] at q1
          rw [h2] at q2
          rw [if_neg (fun h => h3 (h 3 (by omega)))]
          rw [Bool.not_eq_true] at h3
          rw [h3] at q3
          exact qe_3 O (S 0) (S 1) (S 2) (S 3) _ _ _ _ true true true q0 q1 q2 q3
      · rw [h0] at q0
        rw [h1] at q1
        rw [if_neg (fun h => h2 (h 2 (by omega)))]
        rw [Bool.not_eq_true] at h2
        rw [h2] at q2
        exact qe_2 O (S 0) (S 1) (S 2) (S 3) _ _ _ _ true true _ q0 q1 q2 q3
    · rw [h0] at q0
      rw [if_neg (fun h => h1 (h 1 (by omega)))]
      rw [Bool.not_eq_true] at h1
      rw [h1] at q1
      exact qe_1 O (S 0) (S 1) (S 2) (S 3) _ _ _ _ true _ _ q0 q1 q2 q3
  · rw [if_neg (fun h => h0 (h 0 (by omega)))]
    rw [Bool.not_eq_true] at h0
    rw [h0] at q0
    exact qe_0 O (S 0) (S 1) (S 2) (S 3) _ _ _ _ _ _ _ q0 q1 q2 q3
end Go.Proofs.Yticolhhalbbogae
namespace Go.Proofs.Yticolhhalbbogae
theorem add_assoc_mod (a b c P : Nat) : ((a + b) % P + c) % P = (a + (b + c) % P) % P := by
  rw [Nat.add_mod ((a + b) % P), Nat.mod_mod, ← Nat.add_mod, Nat.add_mod a ((b + c) % P), Nat.mod_mod, ← Nat.add_mod, Nat.add_assoc]
theorem mul_assoc_mod (a b c P : Nat) : a * b % P * c % P = a * (b * c % P) % P := by
  rw [Nat.mul_mod (a * b % P), Nat.mod_mod, ← Nat.mul_mod, Nat.mul_mod a (b * c % P), Nat.mod_mod, ← Nat.mul_mod, Nat.mul_assoc]
theorem distrib_mod (a b c P : Nat) : a * ((b + c) % P) % P = (a * b % P + a * c % P) % P := by
  rw [Nat.mul_mod, Nat.mod_mod, ← Nat.mul_mod, Nat.mul_add, ← Nat.add_mod]
theorem add_sub_mod {a b P : Nat} (ha : a < P) (hb : b < P) : ((a + b) % P + P - b) % P = a := by
  by_cases h : a + b < P
  · rw [Nat.mod_eq_of_lt h, show a + b + P - b = a + P by omega, Nat.add_mod_right, Nat.mod_eq_of_lt ha]
  · have e : (a + b) % P = a + b - P := by rw [Nat.mod_eq_sub_mod (by omega), Nat.mod_eq_of_lt (by omega)]
    rw [e, show a + b - P + P - b = a by omega, Nat.mod_eq_of_lt ha]
theorem sub_self_mod {a P : Nat} (ha : a < P) : (a + P - a) % P = 0 := by
  rw [show a + P - a = P by omega, Nat.mod_self]
theorem inv_mod {a P : Nat} (h : NT.IsP P) (ha : a < P) (h0 : ¬ a = 0) : a * (a ^ (P - 2) % P) % P = 1 := by
  have h2 := h.1
  rw [Nat.mul_mod, Nat.mod_mod, ← Nat.mul_mod, Nat.mul_comm, ← Nat.pow_succ, show (P - 2).succ = P - 1 by omega]
  exact h.fermat1 a (fun hd => h0 (Nat.eq_zero_of_dvd_of_lt hd ha))
theorem inv_zero_mod {P : Nat} (h : 2 < P) : 0 ^ (P - 2) % P = 0 := by
  rw [Nat.zero_pow (by omega), Nat.zero_mod]
theorem root_mod {a P : Nat} (h : NT.IsP P) (h4 : P % 4 = 3) : (a * a % P) ^ (P / 4 + 1) % P * ((a * a % P) ^ (P / 4 + 1) % P) % P = a * a % P := by
  rw [← Nat.mul_mod, ← Nat.pow_add, ← Nat.pow_mod, ← Nat.pow_two, ← Nat.pow_mul, show 2 * (P / 4 + 1 + (P / 4 + 1)) = P + 1 by omega, Nat.pow_succ, Nat.mul_mod, h.fermat a, ← Nat.mul_mod, Nat.pow_two]
theorem root_is {a R P : Nat} (h : NT.IsP P) (ha : a < P) (hR : R < P) (he : R * R % P = a * a % P) : R = a ∨ R + a = P := by
  have key : ∀ x y : Nat, x < P → y < P → y ≤ x → x * x % P = y * y % P → x = y ∨ x + y = P := by
    intro x y hx hy hxy hxe
    have hd : P ∣ x * x - y * y := by
      refine Nat.dvd_of_mod_eq_zero ?_
      exact Nat.sub_mod_eq_zero_of_mod_eq hxe
    have hf : x * x - y * y = (x - y) * (x + y) := by
      rw [Nat.mul_comm (x - y), Nat.mul_self_sub_mul_self_eq]
    rw [hf] at hd
    rcases h.euclid hd with h1 | h1
    · left
      have := Nat.eq_zero_of_dvd_of_lt h1 (by omega)
      omega
    · obtain ⟨k, hk⟩ := h1
      have : k = 0 ∨ k = 1 ∨ 2 ≤ k := by omega
      rcases this with rfl | rfl | h2
      · left; omega
      · right; omega
      · have := Nat.mul_le_mul_left P h2
        omega
  rcases Nat.le_total a R with h1 | h1
  · exact key R a hR ha h1 he
  · rcases key a R ha hR h1 he.symm with h2 | h2
    · left; exact h2.symm
    · right; omega
end Go.Proofs.Yticolhhalbbogae
namespace Go.Proofs.Yticolhhalbbogae
open Go.RowKit Go.Sort Go.Deep
theorem w8_be8 (x : Nat) (hx : x < 18446744073709551616) :
    w8 (UInt8.ofNat (x / 72057594037927936)) (UInt8.ofNat (x / 281474976710656)) (UInt8.ofNat (x / 1099511627776)) (UInt8.ofNat (x / 4294967296)) (UInt8.ofNat (x / 16777216)) (UInt8.ofNat (x / 65536)) (UInt8.ofNat (x / 256)) (UInt8.ofNat x) = x := by
  unfold w8
  simp only [UInt8.toNat_ofNat']
  omega
theorem be32_list (a b c d : Nat) : (be32 a b c d).toList = [UInt8.ofNat (d / 72057594037927936), UInt8.ofNat (d / 281474976710656), UInt8.ofNat (d / 1099511627776), UInt8.ofNat (d / 4294967296), UInt8.ofNat (d / 16777216), UInt8.ofNat (d / 65536), UInt8.ofNat (d / 256), UInt8.ofNat d, UInt8.ofNat (c / 72057594037927936), UInt8.ofNat (c / 281474976710656), UInt8.ofNat (c / 1099511627776), UInt8.ofNat (c / 4294967296), UInt8.ofNat (c / 16777216), UInt8.ofNat (c / 65536), UInt8.ofNat (c / 256), UInt8.ofNat c, UInt8.ofNat (b / 72057594037927936), UInt8.ofNat (b / 281474976710656), UInt8.ofNat (b / 1099511627776), UInt8.ofNat (b / 4294967296), UInt8.ofNat (b / 16777216), UInt8.ofNat (b / 65536), UInt8.ofNat (b / 256), UInt8.ofNat b, UInt8.ofNat (a / 72057594037927936), UInt8.ofNat (a / 281474976710656), UInt8.ofNat (a / 1099511627776), UInt8.ofNat (a / 4294967296), UInt8.ofNat (a / 16777216), UInt8.ofNat (a / 65536), UInt8.ofNat (a / 256), UInt8.ofNat a] := by
  simp only [be32, be8, Array.toList_append, List.cons_append, List.nil_append]
theorem val_congr {a b c d p q r s : Nat} (h1 : a = p) (h2 : b = q) (h3 : c = r) (h4 : d = s) : val a b c d = val p q r s := by subst h1 h2 h3 h4; rfl
theorem beV_be32 (a b c d : Nat) (ha : a < 18446744073709551616) (hb : b < 18446744073709551616) (hc : c < 18446744073709551616) (hd : d < 18446744073709551616) : beV (be32 a b c d).toList = val a b c d :=
  (congrArg beV (be32_list a b c d)).trans ((beV_32 _ _ _ _ _ _ _ _ _ _ _ _ _ _ _ _ _ _ _ _ _ _ _ _ _ _ _ _ _ _ _ _).trans (val_congr (w8_be8 a ha) (w8_be8 b hb) (w8_be8 c hc) (w8_be8 d hd)))
theorem bx_val {n : Nat} (hn : n < top) : beV (bx n).toList = n := by
  unfold bx
  rw [beV_be32 _ _ _ _ (by omega) (by omega) (by omega) (by omega)]
  unfold val
  unfold top at hn
  omega
variable {P : Nat} [NeZero P]
theorem rt_of (C : Fld P) {y m : Fin P} (h : y * y = m) : rt m = some (if y.val % 2 = 1 then 0 - y else y) := by
  have hm : y.val * y.val % P = m.val := by rw [← h, Fin.val_mul]
  have h1 := root_mod (a := y.val) C.cur.pr C.p3
  rw [hm] at h1
  unfold rt
  rw [if_pos h1]
  have hP := Nat.pos_of_neZero P
  have hr : m.val ^ (P / 4 + 1) % P < P := Nat.mod_lt _ hP
  generalize m.val ^ (P / 4 + 1) % P = r at h1 hr
  have hy := y.isLt
  have h3 := C.p3
  have hor := root_is C.cur.pr hy hr (h1.trans hm.symm)
  congr 1
  apply Fin.ext
  show even P r % P = _
  unfold even
  have h0 : (0 - y : Fin P).val = (P - y.val) % P := by rw [← sub_fin, EC.val_zero, Nat.zero_add]
  by_cases ho : y.val % 2 = 1
  · rw [if_pos ho, h0]
    rcases hor with e | e
    · rw [e, if_pos ho]
    · rw [if_neg (by omega), show P - y.val = r by omega]
  · rw [if_neg ho]
    rcases hor with e | e
    · rw [e, if_neg ho, Nat.mod_eq_of_lt hy]
    · by_cases hz : y.val = 0
      · omega
      · rw [if_pos (by omega), show P - r = y.val by omega, Nat.mod_eq_of_lt hy]
theorem ub_mark (n : Nat) : ub (mark n) = if n % 2 = 1 then 3 else 2 := by
  unfold mark
  split <;> rfl
theorem tl_mark {m : UInt8} {b : Bs} (h : b.size = 32) : tl33 (#[m] ++ b) = b := by
  unfold tl33
  rw [Array.extract_append]
  have h1 : (#[m] : Bs).extract 1 33 = #[] := by rfl
  rw [h1]
  simp [h]
theorem mark_0 (m : UInt8) (b : Bs) : (#[m] ++ b)[0]! = m := by
  rw [getElem!_pos _ 0 (by rw [Array.size_append]; simp; omega), Array.getElem_append_left (by simp)]
  rfl
theorem rd_of (C : Fld P) {b : Bs} (hs : b.size = 33) {x y : Fin P} (hm : ub b[0]! = if y.val % 2 = 1 then 3 else 2) (hv : beV (tl33 b).toList = x.val) (h : EC.On (some (x, y) : EC.Pt P)) : rd P b = some (x, y) := by
  have hz : ¬ Zero33 b := fun hz => by
    have := hz 0 (List.mem_range.2 (by decide))
    rw [hm] at this
    split at this <;> omega
  have hx : rdx P b = x := by
    unfold rdx
    rw [hv]
    exact Fin.ext (Nat.mod_eq_of_lt x.isLt)
  have hy : y * y = x * x * x + 7 := by
    have : y ^ 2 = x ^ 3 + 7 := h
    grobner
  unfold rd
  rw [if_pos hs, if_neg hz, hm, hv, if_pos x.isLt, hx, rt_of C hy]
  by_cases ho : y.val % 2 = 1
  · rw [if_pos ho, if_pos (Or.inr rfl), if_pos ho, Option.map_some, if_pos rfl]
    have e : 0 - (0 - y) = y := by grobner
    rw [e]
  · rw [if_neg ho, if_pos (Or.inl rfl), if_neg ho, Option.map_some, if_neg (by decide)]
/-- What was written is read. -/
theorem rd_wr (C : Fld P) {X : EC.Pt P} (h : EC.On X) : ∃ p, rd P (wr X) = some p ∧ pt p = X := by
  match X, h with
  | none, _ =>
    refine ⟨(0, 0), ?_, by unfold pt; rw [if_pos ⟨rfl, rfl⟩]⟩
    have h1 : (wr (none : EC.Pt P)).size = 33 := wr_size _
    have h2 : Zero33 (wr (none : EC.Pt P)) := (zero33_iff h1).2 rfl
    generalize wr (none : EC.Pt P) = b at h1 h2
    unfold rd
    rw [if_pos h1, if_pos h2]
  | some (x, y), h =>
    have hs := wr_size (P := P) (some (x, y))
    have hb0 : (wr (some (x, y) : EC.Pt P))[0]! = mark y.val := mark_0 _ _
    have ht : tl33 (wr (some (x, y) : EC.Pt P)) = bx x.val := tl_mark (bx_size _)
    refine ⟨(x, y), rd_of C hs (by rw [hb0, ub_mark]) (by rw [ht, bx_val (C.top x)]) h, by unfold pt; rw [if_neg (fun e => C.cur.y_ne h e.2)]⟩
end Go.Proofs.Yticolhhalbbogae
namespace Go.Proofs.Yticolhhalbbogae
open Go.RowKit Go.Sort Go.Deep
variable {P : Nat} [NeZero P]
/-- The base. -/
def gxl : List Value := [.int .u64 6481385041966929816, .int .u64 188021827762530521, .int .u64 6170039885052185351, .int .u64 8772561819708210092]
def gyl : List Value := [.int .u64 11261198710074299576, .int .u64 18237243440184513561, .int .u64 6747795201694173352, .int .u64 5204712524664259685]
def gX (P : Nat) [NeZero P] : Fin P := Fin.ofNat P 55066263022277343669578718895168534326250603453777594175500187360389116729240
def gY (P : Nat) [NeZero P] : Fin P := Fin.ofNat P 32670510020758816978083085130507043184471273380659243275938904335757337482424
def gG (P : Nat) [NeZero P] : EC.Pt P := some (gX P, gY P)
theorem Fld.eq (C : Fld P) : P = 115792089237316195423570985008687907853269984665640564039457584007908834671663 := by
  have h := C.gap.hP
  have e : val 4294968273 0 0 0 = 4294968273 := by decide
  rw [e] at h
  unfold Go.Proofs.Yticolhhalbbogae.top at h
  omega
theorem gX_val (C : Fld P) : (gX P).val = 55066263022277343669578718895168534326250603453777594175500187360389116729240 := by
  have h := C.eq
  exact Nat.mod_eq_of_lt (by omega)
theorem gY_val (C : Fld P) : (gY P).val = 32670510020758816978083085130507043184471273380659243275938904335757337482424 := by
  have h := C.eq
  exact Nat.mod_eq_of_lt (by omega)
theorem gxl_ws (C : Fld P) : gxl = ws (gX P) := by
  show _ = wn (gX P).val
  rw [gX_val C]
  kernel_rfl
theorem gyl_ws (C : Fld P) : gyl = ws (gY P) := by
  show _ = wn (gY P).val
  rw [gY_val C]
  kernel_rfl
theorem g_eq : 32670510020758816978083085130507043184471273380659243275938904335757337482424 * 32670510020758816978083085130507043184471273380659243275938904335757337482424 % 115792089237316195423570985008687907853269984665640564039457584007908834671663 = (55066263022277343669578718895168534326250603453777594175500187360389116729240 * 55066263022277343669578718895168534326250603453777594175500187360389116729240 * 55066263022277343669578718895168534326250603453777594175500187360389116729240 + 7) % 115792089237316195423570985008687907853269984665640564039457584007908834671663 := by decide +kernel
theorem gG_on (C : Fld P) : EC.On (gG P) := by
  refine on_of (Fin.ext ?_)
  have h7 : (7 : Fin P).val = 7 := Nat.mod_eq_of_lt C.p7
  rw [Fin.val_mul, Fin.val_add, Fin.val_mul, Fin.val_mul, gX_val C, gY_val C, h7]
  have h := C.eq
  rw [h]
set_option maxHeartbeats 2000000 in
set_option maxRecDepth 100000 in
theorem base_v : Gives 29 #[] (.agg (gxl ++ gyl).toArray) := by
  intro w
  go_enter Try.func29, Try.ntmps29
  refine RG.M.enter [] 4 (by kernel_rfl) ?_
  intro a0 M0
  repeat refine wp_seq ?_
  refine M0.tx [.m 0 [] 0] [(0, RG.z 8)] [] [RG.z 8] [(0, .p 0 0)] (by kernel_rfl) (by kernel_rfl) ⟨RG.mk 0 64 fun _ _ => by kernel_rfl, trivial⟩ ?_
  intro j1 a1 w1 M1
  repeat refine wp_seq ?_
  refine M1.tx [.x 1 [] (.agg gxl.toArray), .x 2 [] (.agg gyl.toArray), .x 3 [(1, 0), (2, 1)] (.agg (gxl ++ gyl).toArray), .u [(3, 2)] 0] [] [(0, 3, gxl ++ gyl)] [gxl ++ gyl] [(0, .p 0 0)] (by kernel_rfl) (by kernel_rfl) ⟨RG.st fun _ _ => by kernel_rfl, RG.st fun _ _ => by kernel_rfl, RG.st fun _ _ => by kernel_rfl, RG.pt i109 (by kernel_rfl), trivial⟩ ?_
  intro a2 w2 M2
  refine wp_ret ?_
  refine bodyPost_ret (v := .agg (gxl ++ gyl).toArray) (RG.results_row M2.st 0 64 rfl 0 _ rfl (M2.at (s := .p 0 0) (by kernel_rfl)) u109 i109) M2.sl.defers ?_
  exact ⟨_, rfl, M2.st.bel.below, rfl⟩
theorem base_c (C : Fld P) : Gives 29 #[] (pv (gX P) (gY P)) := by
  unfold pv
  rw [← gxl_ws C, ← gyl_ws C]
  exact base_v
theorem gG_wr (C : Fld P) : by33 (gX P) (gY P) = wr (gG P) := by33_wr C ⟨rfl, rfl⟩ (gG_on C)
set_option maxHeartbeats 1000000 in
theorem Base_c (C : Fld P) (w : World) : Calls Try.prog 10 #[] w (Ret fun e w' => Below w.heap.size w w' ∧ BytesR w (wr (gG P)) e w') := by
  have HC : Hid (Fld P) := C
  clear C
  go_enter Try.func10, Try.ntmps10
  go_wp2_with fail
  refine (base_c HC.out _).mono ?_
  rintro e w1 ⟨v, rfl, hb1, rfl⟩
  go_wp2_with fail
  refine (bytes_c HC.out (gX P) (gY P) _).mono ?_
  rintro e w2 ⟨v, rfl, hb2, g, cap, rfl, h1, h2, h3, h4⟩
  rw [gG_wr HC.out] at h4
  have HB : Hid (Below w.heap.size w w2 ∧ BytesR w (wr (gG P)) (.slice (some ⟨g, 0, none⟩) 33 cap) w2) := ⟨hb1.trans (hb2.mono hb1.size), g, cap, rfl, h1, Nat.le_trans hb1.size h2, h3, h4⟩
  clear hb1 hb2 h1 h2 h3 h4
  go_wp2
  go_ret
  exact ⟨_, rfl, HB.out⟩
end Go.Proofs.Yticolhhalbbogae
namespace Go.Proofs.Yticolhhalbbogae
open Go.RowKit Go.Sort
variable {P : Nat} [NeZero P]
theorem geq0 (i : Nat) (w : World) : (binOp .geq 3 (.int .i64 (i : Int)) (.int .i64 0)).run Try.prog w = .ok (.bool true) w := by
  go_simp
theorem sub1 (i : Nat) (hi : i < 1000) (w : World) : (binOp .sub 3 (.int .i64 (i : Int)) (.int .i64 1)).run Try.prog w = .ok (.int .i64 ((i : Int) - 1)) w := by
  have h := IntWalk.i64_in ((i : Int) - 1) (by omega)
  go_simp
theorem rBit_1 {n i : Nat} (hn : n < top) (hi : i < 256) (h : n / 2 ^ i % 2 = 1) : Gives 53 #[nv n, .int .i64 (i : Int)] (.int .u64 1) := fun w =>
  (rBit_any _ n i (four_nv hn) hi w).mono (by rintro e w' ⟨v, rfl, hb, t, rfl, ht⟩; exact ⟨_, rfl, hb, by rw [ht, h]; rfl⟩)
theorem rBit_0 {n i : Nat} (hn : n < top) (hi : i < 256) (h : ¬ n / 2 ^ i % 2 = 1) : Gives 53 #[nv n, .int .i64 (i : Int)] (.int .u64 0) := fun w =>
  (rBit_any _ n i (four_nv hn) hi w).mono (by rintro e w' ⟨v, rfl, hb, t, rfl, ht⟩; exact ⟨_, rfl, hb, by rw [ht, show n / 2 ^ i % 2 = 0 by omega]; rfl⟩)
def F40_0 : List RG.It := [.m 2 [] 0, .m 3 [] 1, .m 4 [] 2]
def F40_1 : List RG.It := [.c 7 [] (tv ((0, 1, 0) : T3 P)), .m 5 [] 3, .u [(5, 1), (7, 0)] 3]
def F40_2 : List RG.It := [.x 6 [] (.int .i64 255)]
def F40a_3 (i : Nat) : List RG.It := [.x 8 [] (.int .i64 (i : Int)), .x 9 [(8, 0)] (.bool true)]
def F40a_5 (s s2 : T3 P) : List RG.It := [.x 12 [] (tv s), .x 13 [] (tv s), .c 14 [(12, 0), (13, 1)] (tv s2), .u [(14, 2)] 3]
def F40a_6 (n i : Nat) : List RG.It := [.x 15 [] (nv n), .x 16 [] (.int .i64 (i : Int)), .c 17 [(15, 0), (16, 1)] (.int .u64 1), .x 18 [(17, 2)] (.bool true)]
def F40a_7 (t s2 s3 : T3 P) : List RG.It := [.x 19 [] (tv s2), .x 20 [] (tv t), .c 21 [(19, 0), (20, 1)] (tv s3), .u [(21, 2)] 3]
def F40a_4 (i : Nat) : List RG.It := [.x 10 [] (.int .i64 (i : Int)), .x 11 [(10, 0)] (.int .i64 ((i : Int) - 1)), .x 6 [(11, 1)] (.int .i64 ((i : Int) - 1))]
def F40b_3 (i : Nat) : List RG.It := [.x 8 [] (.int .i64 (i : Int)), .x 9 [(8, 0)] (.bool true)]
def F40b_5 (s s2 : T3 P) : List RG.It := [.x 12 [] (tv s), .x 13 [] (tv s), .c 14 [(12, 0), (13, 1)] (tv s2), .u [(14, 2)] 3]
def F40b_6 (n i : Nat) : List RG.It := [.x 15 [] (nv n), .x 16 [] (.int .i64 (i : Int)), .c 17 [(15, 0), (16, 1)] (.int .u64 0), .x 18 [(17, 2)] (.bool false)]
def F40b_4 (i : Nat) : List RG.It := [.x 10 [] (.int .i64 (i : Int)), .x 11 [(10, 0)] (.int .i64 ((i : Int) - 1)), .x 6 [(11, 1)] (.int .i64 ((i : Int) - 1))]
def F40c_3 : List RG.It := [.x 8 [] (.int .i64 (-1)), .x 9 [(8, 0)] (.bool false)]
def F40c_8 (s : T3 P) : List RG.It := [.x 22 [] (tv s), .u [(22, 0)] 2]
set_option maxHeartbeats 2000000 in
set_option maxRecDepth 100000 in
theorem rTimes_c (C : Fl3 P) (n : Nat) (hn : n < top) (t : T3 P) {p : EC.Pt P} (h : FracT t p) : Gives 27 #[nv n, tv t] (tv (tmF n t 256)) := by
  intro w
  go_enter Try.func27, Try.ntmps27
  refine RG.var2 (v0 := nv n) (v1 := tv t) (n := 23) (by kernel_rfl) (by kernel_rfl) (by kernel_rfl) (by kernel_rfl) ?_
  intro a0 sl0 f0 f1
  have hS0 := RG.St.begin w
  have M0 : RG.M w w.heap.size [] 23 [] [] [(0, (.v (nv n))), (1, (.v (tv t)))] a0 _ := ⟨hS0, sl0, ⟨f0, f1, trivial⟩⟩
  repeat refine wp_seq ?_
  refine M0.tx F40_0 [(0, (wn n)), (1, (tw t)), (2, (RG.z 12))] [] [(wn n), (tw t), (RG.z 12)] [(2, (.p 0 0)), (3, (.p 1 0)), (4, (.p 2 0))] (by kernel_rfl) (by kernel_rfl) ⟨RG.mk 0 44 fun _ _ => by kernel_rfl, RG.mk 1 54 fun _ _ => by kernel_rfl, RG.mk 2 54 fun _ _ => by kernel_rfl, trivial⟩ ?_
  intro j1 i1 m1 a1 w1 M1
  repeat refine wp_seq ?_
  refine M1.tx (F40_1 (P := P)) [(1, (RG.z 12))] [(3, 2, (tw ((0, 1, 0) : T3 P)))] [(wn n), (tw t), (RG.z 12), (tw ((0, 1, 0) : T3 P))] [(2, (.p 0 0)), (3, (.p 1 0)), (4, (.p 2 0)), (5, (.p 3 0))] (by kernel_rfl) (by kernel_rfl) ⟨RG.cl (None_c C) fun _ _ => by kernel_rfl, RG.mk 3 54 fun _ _ => by kernel_rfl, RG.pt i56 (by kernel_rfl), trivial⟩ ?_
  intro j2 a2 w2 M2
  repeat refine wp_seq ?_
  refine M2.tx0 F40_2 [(2, (.p 0 0)), (3, (.p 1 0)), (4, (.p 2 0)), (5, (.p 3 0)), (6, (.v (.int .i64 255)))] (by kernel_rfl) ⟨RG.st fun _ _ => by kernel_rfl, trivial⟩ ?_
  intro a3 w3 M3
  have hS3 : RG.St w w.heap.size [] [(wn n), (tw t), (RG.z 12), (tw ((0, 1, 0) : T3 P))] [j1, i1, m1, j2] _ := M3.st
  have sl3 := M3.sl
  have f2_3 : a3.tmps[2]? = some (.pointer (some ⟨j1, 0, none⟩)) := M3.at (s := (.p 0 0)) (by kernel_rfl)
  have f3_3 : a3.tmps[3]? = some (.pointer (some ⟨i1, 0, none⟩)) := M3.at (s := (.p 1 0)) (by kernel_rfl)
  have f4_3 : a3.tmps[4]? = some (.pointer (some ⟨m1, 0, none⟩)) := M3.at (s := (.p 2 0)) (by kernel_rfl)
  have f5_3 : a3.tmps[5]? = some (.pointer (some ⟨j2, 0, none⟩)) := M3.at (s := (.p 3 0)) (by kernel_rfl)
  have f6_3 : a3.tmps[6]? = some (.int .i64 255) := M3.at (s := (.v (.int .i64 255))) (by kernel_rfl)
  repeat refine wp_seq ?_
  refine wp_block ?_
  refine wp_loop_ghost (fun m a wr => m ≤ 256 ∧ RG.Sl a 23 ∧ a.tmps[2]? = some (.pointer (some ⟨j1, 0, none⟩)) ∧ a.tmps[3]? = some (.pointer (some ⟨i1, 0, none⟩)) ∧ a.tmps[4]? = some (.pointer (some ⟨m1, 0, none⟩)) ∧ a.tmps[5]? = some (.pointer (some ⟨j2, 0, none⟩)) ∧ a.tmps[6]? = some (.int .i64 ((m : Int) - 1)) ∧ RG.St w w.heap.size [] [wn n, tw t, [.int .u64 0, .int .u64 0, .int .u64 0, .int .u64 0, .int .u64 0, .int .u64 0, .int .u64 0, .int .u64 0, .int .u64 0, .int .u64 0, .int .u64 0, .int .u64 0], tw (tmF n t (256 - m))] [j1, i1, m1, j2] wr) 256 ⟨Nat.le_refl _, sl3, f2_3, f3_3, f4_3, f5_3, f6_3, ?_⟩ ?_
  · rw [Nat.sub_self, tmF]
    exact hS3
  intro m a wr
  rintro ⟨hm, sl, f2, f3, f4, f5, f6, hS⟩
  have hn2 : n < 2 ^ 256 := hn
  generalize j1 = k2 at f2 f3 f4 f5 hS
  generalize i1 = k3 at f2 f3 f4 f5 hS
  generalize m1 = k4 at f2 f3 f4 f5 hS
  generalize j2 = k5 at f2 f3 f4 f5 hS
  by_cases hz : m = 0
  · subst hz
    have e256 : tmF n t (256 - 0) = tmF n t 256 := rfl
    rw [e256] at hS
    obtain ⟨s, hs⟩ : ∃ s, tmF n t 256 = s := ⟨_, rfl⟩
    rw [hs] at hS ⊢
    have M0 : RG.M w w.heap.size [] 23 [(wn n), (tw t), (RG.z 12), (tw s)] [k2, k3, k4, k5] [(2, (.p 0 0)), (3, (.p 1 0)), (4, (.p 2 0)), (5, (.p 3 0)), (6, (.v (.int .i64 (-1))))] a _ := ⟨hS, sl, ⟨f2, f3, f4, f5, f6, trivial⟩⟩
    repeat refine wp_seq ?_
    refine M0.tx0 F40c_3 [(4, (.p 2 0)), (5, (.p 3 0)), (9, (.v (.bool false)))] (by kernel_rfl) ⟨RG.st fun _ _ => by kernel_rfl, RG.st fun _ _ => by kernel_rfl, trivial⟩ ?_
    intro a1 w1 M1
    repeat refine wp_seq ?_
    refine wp_cond_false (M1.ev (by kernel_rfl)) ?_
    refine wp_exit ?_
    dsimp only [Exit.then, Exit.inBlock]
    rw [if_pos rfl]
    repeat refine wp_seq ?_
    refine M1.tx (F40c_8 s) [] [(2, 1, (tw s))] [(wn n), (tw t), (tw s), (tw s)] [(4, (.p 2 0))] (by kernel_rfl) (by kernel_rfl) ⟨RG.ld u56 i56 (by kernel_rfl), RG.pt i56 (by kernel_rfl), trivial⟩ ?_
    intro a2 w2 M2
    have hS2 : RG.St w w.heap.size [] [(wn n), (tw t), (tw s), (tw s)] [k2, k3, k4, k5] _ := M2.st
    have sl2 := M2.sl
    have f4_2 : a2.tmps[4]? = some (.pointer (some ⟨k4, 0, none⟩)) := M2.at (s := (.p 2 0)) (by kernel_rfl)
    refine wp_ret ?_
    refine bodyPost_ret (v := tv s) (RG.results_row hS2 4 54 rfl 2 _ rfl f4_2 u56 i56) sl2.defers ?_
    exact ⟨_, rfl, hS2.bel.below, rfl⟩
  · obtain ⟨i, rfl⟩ : ∃ i, m = i + 1 := ⟨m - 1, by omega⟩
    have hi : i < 256 := by omega
    replace f6 : a.tmps[6]? = some (.int .i64 (i : Int)) := by rw [f6]; congr 2; omega
    have ih := tmF_F C hn2 h (256 - (i + 1)) (by omega)
    obtain ⟨s, hs⟩ : ∃ s, tmF n t (256 - (i + 1)) = s := ⟨_, rfl⟩
    rw [hs] at hS ih
    obtain ⟨s2, hs2⟩ : ∃ s2, s2 = plF s s := ⟨_, rfl⟩
    have hp1 := (ih.plus C ih).1
    have ih2 := (ih.plus C ih).2
    rw [← hs2] at hp1 ih2
    obtain ⟨s3, hs3⟩ : ∃ s3, s3 = plF s2 t := ⟨_, rfl⟩
    have hp2 := (ih2.plus C h).1
    rw [← hs3] at hp2
    have hstep : tmF n t (256 - i) = if n / 2 ^ i % 2 = 1 then s3 else s2 := by
      rw [show 256 - i = 256 - (i + 1) + 1 by omega]
      show (if n / 2 ^ (255 - (256 - (i + 1))) % 2 = 1 then plF (plF (tmF n t (256 - (i + 1))) (tmF n t (256 - (i + 1)))) t else plF (tmF n t (256 - (i + 1))) (tmF n t (256 - (i + 1)))) = _
      rw [show 255 - (256 - (i + 1)) = i by omega, hs, ← hs2, ← hs3]
    by_cases hb : n / 2 ^ i % 2 = 1
    · rw [if_pos hb] at hstep
      have M0 : RG.M w w.heap.size [] 23 [(wn n), (tw t), (RG.z 12), (tw s)] [k2, k3, k4, k5] [(2, (.p 0 0)), (3, (.p 1 0)), (4, (.p 2 0)), (5, (.p 3 0)), (6, (.v (.int .i64 (i : Int))))] a _ := ⟨hS, sl, ⟨f2, f3, f4, f5, f6, trivial⟩⟩
      repeat refine wp_seq ?_
      refine M0.tx0 (F40a_3 i) [(2, (.p 0 0)), (3, (.p 1 0)), (4, (.p 2 0)), (5, (.p 3 0)), (6, (.v (.int .i64 (i : Int)))), (9, (.v (.bool true)))] (by kernel_rfl) ⟨RG.st fun _ _ => by kernel_rfl, RG.cert_binc rfl .geq 3 3 8 (.int .i64 (i : Int)) (.int .i64 0) (.bool true) rfl rfl (RG.sx fun _ => by kernel_rfl) (fun w => by kernel_rfl) (geq0 i), trivial⟩ ?_
      intro a1 w1 M1
      repeat refine wp_seq ?_
      refine wp_cond_true (M1.ev (by kernel_rfl)) ?_
      refine wp_skip ?_
      refine wp_seq ?_
      refine wp_block ?_
      repeat refine wp_seq ?_
      refine M1.tx (F40a_5 s s2) [] [(3, 3, (tw s2))] [(wn n), (tw t), (RG.z 12), (tw s2)] [(2, (.p 0 0)), (3, (.p 1 0)), (4, (.p 2 0)), (5, (.p 3 0)), (6, (.v (.int .i64 (i : Int))))] (by kernel_rfl) (by kernel_rfl) ⟨RG.ld u56 i56 (by kernel_rfl), RG.ld u56 i56 (by kernel_rfl), RG.cl (hp1) fun _ _ => by kernel_rfl, RG.pt i56 (by kernel_rfl), trivial⟩ ?_
      intro a2 w2 M2
      repeat refine wp_seq ?_
      refine M2.tx0 (F40a_6 n i) [(2, (.p 0 0)), (3, (.p 1 0)), (4, (.p 2 0)), (5, (.p 3 0)), (6, (.v (.int .i64 (i : Int)))), (18, (.v (.bool true)))] (by kernel_rfl) ⟨RG.ld u33 i33 (by kernel_rfl), RG.st fun _ _ => by kernel_rfl, RG.cl (rBit_1 hn hi hb) fun _ _ => by kernel_rfl, RG.st fun _ _ => by kernel_rfl, trivial⟩ ?_
      intro a3 w3 M3
      repeat refine wp_seq ?_
      refine wp_cond_true (M3.ev (by kernel_rfl)) ?_
      repeat refine wp_seq ?_
      refine M3.tx (F40a_7 t s2 s3) [] [(3, 3, (tw s3))] [(wn n), (tw t), (RG.z 12), (tw s3)] [(2, (.p 0 0)), (3, (.p 1 0)), (4, (.p 2 0)), (5, (.p 3 0)), (6, (.v (.int .i64 (i : Int))))] (by kernel_rfl) (by kernel_rfl) ⟨RG.ld u56 i56 (by kernel_rfl), RG.ld u56 i56 (by kernel_rfl), RG.cl (hp2) fun _ _ => by kernel_rfl, RG.pt i56 (by kernel_rfl), trivial⟩ ?_
      intro a4 w4 M4
      repeat refine wp_seq ?_
      refine M4.tx0 (F40a_4 i) [(2, (.p 0 0)), (3, (.p 1 0)), (4, (.p 2 0)), (5, (.p 3 0)), (6, (.v (.int .i64 ((i : Int) - 1))))] (by kernel_rfl) ⟨RG.st fun _ _ => by kernel_rfl, RG.cert_binc rfl .sub 3 3 10 (.int .i64 (i : Int)) (.int .i64 1) (.int .i64 ((i : Int) - 1)) rfl rfl (RG.sx fun _ => by kernel_rfl) (fun w => by kernel_rfl) (sub1 i (by omega)), RG.st fun _ _ => by kernel_rfl, trivial⟩ ?_
      intro a5 w5 M5
      have hS5 : RG.St w w.heap.size [] [(wn n), (tw t), (RG.z 12), (tw s3)] [k2, k3, k4, k5] _ := M5.st
      have sl5 := M5.sl
      have f2_5 : a5.tmps[2]? = some (.pointer (some ⟨k2, 0, none⟩)) := M5.at (s := (.p 0 0)) (by kernel_rfl)
      have f3_5 : a5.tmps[3]? = some (.pointer (some ⟨k3, 0, none⟩)) := M5.at (s := (.p 1 0)) (by kernel_rfl)
      have f4_5 : a5.tmps[4]? = some (.pointer (some ⟨k4, 0, none⟩)) := M5.at (s := (.p 2 0)) (by kernel_rfl)
      have f5_5 : a5.tmps[5]? = some (.pointer (some ⟨k5, 0, none⟩)) := M5.at (s := (.p 3 0)) (by kernel_rfl)
      have f6_5 : a5.tmps[6]? = some (.int .i64 ((i : Int) - 1)) := M5.at (s := (.v (.int .i64 ((i : Int) - 1)))) (by kernel_rfl)
      show ∃ n', _
      exact ⟨i, Nat.lt_succ_self i, by omega, sl5, f2_5, f3_5, f4_5, f5_5, f6_5, by rw [hstep]; exact hS5⟩
    · rw [if_neg hb] at hstep
      have M0 : RG.M w w.heap.size [] 23 [(wn n), (tw t), (RG.z 12), (tw s)] [k2, k3, k4, k5] [(2, (.p 0 0)), (3, (.p 1 0)), (4, (.p 2 0)), (5, (.p 3 0)), (6, (.v (.int .i64 (i : Int))))] a _ := ⟨hS, sl, ⟨f2, f3, f4, f5, f6, trivial⟩⟩
      repeat refine wp_seq ?_
      refine M0.tx0 (F40b_3 i) [(2, (.p 0 0)), (3, (.p 1 0)), (4, (.p 2 0)), (5, (.p 3 0)), (6, (.v (.int .i64 (i : Int)))), (9, (.v (.bool true)))] (by kernel_rfl) ⟨RG.st fun _ _ => by kernel_rfl, RG.cert_binc rfl .geq 3 3 8 (.int .i64 (i : Int)) (.int .i64 0) (.bool true) rfl rfl (RG.sx fun _ => by kernel_rfl) (fun w => by kernel_rfl) (geq0 i), trivial⟩ ?_
      intro a1 w1 M1
      repeat refine wp_seq ?_
      refine wp_cond_true (M1.ev (by kernel_rfl)) ?_
      refine wp_skip ?_
      refine wp_seq ?_
      refine wp_block ?_
      repeat refine wp_seq ?_
      refine M1.tx (F40b_5 s s2) [] [(3, 3, (tw s2))] [(wn n), (tw t), (RG.z 12), (tw s2)] [(2, (.p 0 0)), (3, (.p 1 0)), (4, (.p 2 0)), (5, (.p 3 0)), (6, (.v (.int .i64 (i : Int))))] (by kernel_rfl) (by kernel_rfl) ⟨RG.ld u56 i56 (by kernel_rfl), RG.ld u56 i56 (by kernel_rfl), RG.cl (hp1) fun _ _ => by kernel_rfl, RG.pt i56 (by kernel_rfl), trivial⟩ ?_
      intro a2 w2 M2
      repeat refine wp_seq ?_
      refine M2.tx0 (F40b_6 n i) [(2, (.p 0 0)), (3, (.p 1 0)), (4, (.p 2 0)), (5, (.p 3 0)), (6, (.v (.int .i64 (i : Int)))), (18, (.v (.bool false)))] (by kernel_rfl) ⟨RG.ld u33 i33 (by kernel_rfl), RG.st fun _ _ => by kernel_rfl, RG.cl (rBit_0 hn hi hb) fun _ _ => by kernel_rfl, RG.st fun _ _ => by kernel_rfl, trivial⟩ ?_
      intro a3 w3 M3
      repeat refine wp_seq ?_
      refine wp_cond_false (M3.ev (by kernel_rfl)) ?_
      refine wp_skip ?_
      repeat refine wp_seq ?_
      refine M3.tx0 (F40b_4 i) [(2, (.p 0 0)), (3, (.p 1 0)), (4, (.p 2 0)), (5, (.p 3 0)), (6, (.v (.int .i64 ((i : Int) - 1))))] (by kernel_rfl) ⟨RG.st fun _ _ => by kernel_rfl, RG.cert_binc rfl .sub 3 3 10 (.int .i64 (i : Int)) (.int .i64 1) (.int .i64 ((i : Int) - 1)) rfl rfl (RG.sx fun _ => by kernel_rfl) (fun w => by kernel_rfl) (sub1 i (by omega)), RG.st fun _ _ => by kernel_rfl, trivial⟩ ?_
      intro a4 w4 M4
      have hS4 : RG.St w w.heap.size [] [(wn n), (tw t), (RG.z 12), (tw s2)] [k2, k3, k4, k5] _ := M4.st
      have sl4 := M4.sl
      have f2_4 : a4.tmps[2]? = some (.pointer (some ⟨k2, 0, none⟩)) := M4.at (s := (.p 0 0)) (by kernel_rfl)
      have f3_4 : a4.tmps[3]? = some (.pointer (some ⟨k3, 0, none⟩)) := M4.at (s := (.p 1 0)) (by kernel_rfl)
      have f4_4 : a4.tmps[4]? = some (.pointer (some ⟨k4, 0, none⟩)) := M4.at (s := (.p 2 0)) (by kernel_rfl)
      have f5_4 : a4.tmps[5]? = some (.pointer (some ⟨k5, 0, none⟩)) := M4.at (s := (.p 3 0)) (by kernel_rfl)
      have f6_4 : a4.tmps[6]? = some (.int .i64 ((i : Int) - 1)) := M4.at (s := (.v (.int .i64 ((i : Int) - 1)))) (by kernel_rfl)
      show ∃ n', _
      exact ⟨i, Nat.lt_succ_self i, by omega, sl4, f2_4, f3_4, f4_4, f5_4, f6_4, by rw [hstep]; exact hS4⟩
end Go.Proofs.Yticolhhalbbogae
