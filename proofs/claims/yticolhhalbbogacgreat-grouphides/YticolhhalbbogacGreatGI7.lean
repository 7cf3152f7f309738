import Derived.Deep.RegionHeld3
import Derived.Deep.RegionWith
import Derived.Deep.OwnRows
import Derived.Deep.LoopGhost
import Derived.Great.BuildSlice
import Derived.Test.YticolhhalbbogacGreatGI6
set_option linter.unusedVariables false
set_option linter.unusedSimpArgs false
namespace Go.Proofs.YticolhhalbbogacGreat
open Go.RowKit Go.Sort
variable {P : Nat} [NeZero P]
theorem u33 : (Tryz.prog.underlying 32).map (·.isRow) = some true := by kernel_rfl
theorem i33 : (Tryz.prog.info? 32).map (·.size) = some 4 := by kernel_rfl
theorem u56 : (Tryz.prog.underlying 34).map (·.isRow) = some true := by kernel_rfl
theorem i56 : (Tryz.prog.info? 34).map (·.size) = some 12 := by kernel_rfl
theorem u35 : (Tryz.prog.underlying 40).map (·.isRow) = some true := by kernel_rfl
theorem i35 : (Tryz.prog.info? 40).map (·.size) = some 8 := by kernel_rfl
def F69_0 : List RG.It := [.m 0 [] 0]
def F69_1 : List RG.It := [.c 1 [] rv0, .u [(1, 0)] 0]
set_option maxHeartbeats 2000000 in
set_option maxRecDepth 100000 in
theorem F3_c  : Gives 25 #[] rv0 := by
  intro w
  go_enter Tryz.func25, Tryz.ntmps25
  refine RG.M.enter [] 2 (by kernel_rfl) ?_
  intro a0 M0
  repeat refine wp_seq ?_
  refine M0.tx F69_0 [(0, (RG.z 8))] [] [(RG.z 8)] [(0, (.p 0 0))] (by kernel_rfl) (by kernel_rfl) ⟨RG.mk 0 40 fun _ _ => by kernel_rfl, trivial⟩ ?_
  intro j1 a1 w1 M1
  repeat refine wp_seq ?_
  refine M1.tx F69_1 [] [(0, 1, rl0)] [rl0] [(0, (.p 0 0))] (by kernel_rfl) (by kernel_rfl) ⟨RG.cl (rMake_c) fun _ _ => by kernel_rfl, RG.pt i35 (by kernel_rfl), trivial⟩ ?_
  intro a2 w2 M2
  refine wp_ret ?_
  refine bodyPost_ret (v := rv0) (RG.results_row M2.st 0 40 rfl 0 _ rfl (M2.at (s := (.p 0 0)) (by kernel_rfl)) u35 i35) M2.sl.defers ?_
  exact ⟨_, rfl, M2.st.bel.below, rfl⟩
def F68_0 : List RG.It := [.m 0 [] 0]
def F68_1 : List RG.It := [.c 1 [] (fv (1 : Fin P)), .x 2 [(1, 0)] (rv (0 : Fin P) (1 : Fin P) (0 : Fin P)), .u [(2, 1)] 0]
set_option maxHeartbeats 2000000 in
set_option maxRecDepth 100000 in
theorem None_c (C : Fl3 P)  : Gives 59 #[] (rv (0 : Fin P) 1 0) := by
  intro w
  have hfin : ((rv (0 : Fin P) (1 : Fin P) (0 : Fin P)) : Value) = (rv (0 : Fin P) 1 0) := by
    subst_vars; rfl
  rw [← hfin]
  go_enter Tryz.func59, Tryz.ntmps59
  refine RG.M.enter [] 3 (by kernel_rfl) ?_
  intro a0 M0
  repeat refine wp_seq ?_
  refine M0.tx F68_0 [(0, (RG.z 12))] [] [(RG.z 12)] [(0, (.p 0 0))] (by kernel_rfl) (by kernel_rfl) ⟨RG.mk 0 34 fun _ _ => by kernel_rfl, trivial⟩ ?_
  intro j1 a1 w1 M1
  repeat refine wp_seq ?_
  refine M1.tx (F68_1 (P := P)) [] [(0, 2, (ws (0 : Fin P) ++ (ws (1 : Fin P) ++ (ws (0 : Fin P)))))] [(ws (0 : Fin P) ++ (ws (1 : Fin P) ++ (ws (0 : Fin P))))] [(0, (.p 0 0))] (by kernel_rfl) (by kernel_rfl) ⟨RG.cl (rSmall1_c C) fun _ _ => by kernel_rfl, RG.cert_build1 rfl 34 1 1 rfl (fv (1 : Fin P)) (rv (0 : Fin P) (1 : Fin P) (0 : Fin P)) rfl (RG.sx fun _ => by kernel_rfl) (build_none C.toFld), RG.pt i56 (by kernel_rfl), trivial⟩ ?_
  intro a2 w2 M2
  refine wp_ret ?_
  refine bodyPost_ret (v := (rv (0 : Fin P) (1 : Fin P) (0 : Fin P))) (RG.results_row M2.st 0 34 rfl 0 _ rfl (M2.at (s := (.p 0 0)) (by kernel_rfl)) u56 i56) M2.sl.defers ?_
  exact ⟨_, rfl, M2.st.bel.below, rfl⟩
def F78t_0 (x : Fin P) : List RG.It := [.m 1 [] 0, .x 2 [] (.bool false)]
def F78t_1 (x z : Fin P) : List RG.It := [.s 3 [] (.p 0 8), .x 4 [(3, 0)] (fv z), .c 5 [(4, 1)] (.bool true), .x 2 [(5, 2)] (.bool true)]
set_option maxHeartbeats 2000000 in
set_option maxRecDepth 100000 in
theorem Is_t_c (C : Fl3 P) (x y z : Fin P)(hz : z = 0)  : Gives 24 #[(rv x y z)] (.bool true) := by
  intro w
  go_enter Tryz.func24, Tryz.ntmps24
  refine RG.M.enter [(0, (.v (rv x y z)))] 6 (by kernel_rfl) ?_
  intro a0 M0
  repeat refine wp_seq ?_
  refine M0.tx (F78t_0 x) [(0, (ws x ++ (ws y ++ (ws z))))] [] [(ws x ++ (ws y ++ (ws z)))] [(1, (.p 0 0)), (2, (.v (.bool false)))] (by kernel_rfl) (by kernel_rfl) ⟨RG.mk 0 34 fun _ _ => by kernel_rfl, RG.st fun _ _ => by kernel_rfl, trivial⟩ ?_
  intro j1 a1 w1 M1
  repeat refine wp_seq ?_
  refine M1.tx0 (F78t_1 x z) [(2, (.v (.bool true)))] (by kernel_rfl) ⟨RG.st fun _ _ => by kernel_rfl, RG.ld u33 i33 (by kernel_rfl), RG.cl (rZero_t C hz) fun _ _ => by kernel_rfl, RG.st fun _ _ => by kernel_rfl, trivial⟩ ?_
  intro a2 w2 M2
  refine wp_ret ?_
  refine bodyPost_ret (v := (.bool true)) (RG.results_t 2 rfl _ (M2.at (s := (.v (.bool true))) (by kernel_rfl))) M2.sl.defers ?_
  exact ⟨_, rfl, M2.st.bel.below, rfl⟩
def F78f_0 (x : Fin P) : List RG.It := [.m 1 [] 0, .x 2 [] (.bool false)]
def F78f_1 (x z : Fin P) : List RG.It := [.s 3 [] (.p 0 8), .x 4 [(3, 0)] (fv z), .c 5 [(4, 1)] (.bool false), .x 2 [(5, 2)] (.bool false)]
set_option maxHeartbeats 2000000 in
set_option maxRecDepth 100000 in
theorem Is_f_c (C : Fl3 P) (x y z : Fin P)(hz : ¬ z = 0)  : Gives 24 #[(rv x y z)] (.bool false) := by
  intro w
  go_enter Tryz.func24, Tryz.ntmps24
  refine RG.M.enter [(0, (.v (rv x y z)))] 6 (by kernel_rfl) ?_
  intro a0 M0
  repeat refine wp_seq ?_
  refine M0.tx (F78f_0 x) [(0, (ws x ++ (ws y ++ (ws z))))] [] [(ws x ++ (ws y ++ (ws z)))] [(1, (.p 0 0)), (2, (.v (.bool false)))] (by kernel_rfl) (by kernel_rfl) ⟨RG.mk 0 34 fun _ _ => by kernel_rfl, RG.st fun _ _ => by kernel_rfl, trivial⟩ ?_
  intro j1 a1 w1 M1
  repeat refine wp_seq ?_
  refine M1.tx0 (F78f_1 x z) [(2, (.v (.bool false)))] (by kernel_rfl) ⟨RG.st fun _ _ => by kernel_rfl, RG.ld u33 i33 (by kernel_rfl), RG.cl (rZero_f C hz) fun _ _ => by kernel_rfl, RG.st fun _ _ => by kernel_rfl, trivial⟩ ?_
  intro a2 w2 M2
  refine wp_ret ?_
  refine bodyPost_ret (v := (.bool false)) (RG.results_t 2 rfl _ (M2.at (s := (.v (.bool false))) (by kernel_rfl))) M2.sl.defers ?_
  exact ⟨_, rfl, M2.st.bel.below, rfl⟩
def F80_0 : List RG.It := [.m 1 [] 0, .m 2 [] 1]
def F80_1 (x c1 : Fin P) : List RG.It := [.c 11 [] rv0, .s 12 [] (.p 0 0), .x 13 [(12, 1)] (fv x), .s 14 [] (.p 0 0), .x 15 [(14, 3)] (fv x), .c 16 [(11, 0), (13, 2), (15, 4)] (fv c1), .m 3 [] 2, .u [(3, 6), (16, 5)] 2]
def F80_2 (x c1 c2 c3 : Fin P) : List RG.It := [.c 17 [] rv0, .c 18 [] rv0, .x 19 [] (fv c1), .x 20 [] (fv c1), .c 21 [(18, 1), (19, 2), (20, 3)] (fv c2), .x 22 [] (fv c1), .c 23 [(17, 0), (21, 4), (22, 5)] (fv c3), .m 4 [] 3, .u [(4, 7), (23, 6)] 3]
def F80_3 (x y z c4 c5 : Fin P) : List RG.It := [.c 24 [] rv0, .c 25 [] rv0, .s 26 [] (.p 0 4), .x 27 [(26, 2)] (fv y), .s 28 [] (.p 0 4), .x 29 [(28, 4)] (fv y), .c 30 [(25, 1), (27, 3), (29, 5)] (fv c4), .s 31 [] (.p 0 8), .x 32 [(31, 7)] (fv z), .c 33 [(24, 0), (30, 6), (32, 8)] (fv c5), .m 5 [] 4, .u [(5, 10), (33, 9)] 4]
def F80_4 (x c5 c6 : Fin P) : List RG.It := [.c 34 [] rv0, .x 35 [] (fv c5), .x 36 [] (fv c5), .c 37 [(34, 0), (35, 1), (36, 2)] (fv c6), .m 6 [] 5, .u [(6, 4), (37, 3)] 5]
def F80_5 (x c5 c6 c7 : Fin P) : List RG.It := [.c 38 [] rv0, .x 39 [] (fv c6), .x 40 [] (fv c5), .c 41 [(38, 0), (39, 1), (40, 2)] (fv c7), .m 7 [] 6, .u [(7, 4), (41, 3)] 6]
def F80_6 (x z c3 c6 c8 c9 c10 c11 c12 : Fin P) : List RG.It := [.c 42 [] rv0, .c 43 [] rv0, .c 44 [] rv0, .x 45 [] (fv c3), .x 46 [] (fv c3), .c 47 [(44, 2), (45, 3), (46, 4)] (fv c8), .s 48 [] (.p 0 8), .x 49 [(48, 6)] (fv z), .c 50 [(43, 1), (47, 5), (49, 7)] (fv c9), .c 51 [] rv0, .c 52 [] rv0, .s 53 [] (.p 0 0), .x 54 [(53, 11)] (fv x), .s 55 [] (.p 0 0), .x 56 [(55, 13)] (fv x), .c 57 [(52, 10), (54, 12), (56, 14)] (fv c10), .x 58 [] (fv c6), .c 59 [(51, 9), (57, 15), (58, 16)] (fv c11), .c 60 [(42, 0), (50, 8), (59, 17)] (fv c12), .m 8 [] 7, .u [(8, 19), (60, 18)] 7]
def F80_7 (x c5 c12 c13 : Fin P) : List RG.It := [.c 61 [] rv0, .x 62 [] (fv c5), .x 63 [] (fv c12), .c 64 [(61, 0), (62, 1), (63, 2)] (fv c13), .m 9 [] 8, .u [(9, 4), (64, 3)] 8]
def F80_8 (x y c3 c6 c7 c12 c14 c15 c16 c17 c18 : Fin P) : List RG.It := [.c 65 [] rv0, .c 66 [] rv0, .x 67 [] (fv c3), .c 68 [] rv0, .c 69 [] rv0, .s 70 [] (.p 0 0), .x 71 [(70, 5)] (fv x), .x 72 [] (fv c6), .c 73 [(69, 4), (71, 6), (72, 7)] (fv c14), .x 74 [] (fv c12), .c 75 [(68, 3), (73, 8), (74, 9)] (fv c15), .c 76 [(66, 1), (67, 2), (75, 10)] (fv c16), .c 77 [] rv0, .s 78 [] (.p 0 4), .x 79 [(78, 13)] (fv y), .x 80 [] (fv c7), .c 81 [(77, 12), (79, 14), (80, 15)] (fv c17), .c 82 [(65, 0), (76, 11), (81, 16)] (fv c18), .m 10 [] 9, .u [(10, 18), (82, 17)] 9]
def F80_9 (x z c7 c13 c18 c19 : Fin P) : List RG.It := [.x 83 [] (fv c13), .x 84 [] (fv c18), .c 85 [] rv0, .x 86 [] (fv c7), .s 87 [] (.p 0 8), .x 88 [(87, 4)] (fv z), .c 89 [(85, 2), (86, 3), (88, 5)] (fv c19), .x 90 [(83, 0), (84, 1), (89, 6)] (rv c13 c18 c19), .u [(90, 7)] 1]
set_option maxHeartbeats 2000000 in
set_option maxRecDepth 100000 in
theorem rdouble_c (C : Fl3 P) (x y z : Fin P) : Gives 60 #[(rv x y z)] (rv ((EC.fdE y z) * (EC.fdT x y z)) ((EC.fdD x) * (x * ((EC.fdE y z) * (EC.fdE y z)) - (EC.fdT x y z)) - y * ((EC.fdE y z) * (EC.fdE y z) * (EC.fdE y z))) ((EC.fdE y z) * (EC.fdE y z) * (EC.fdE y z) * z)) := by
  intro w
  obtain ⟨c1, hc1⟩ : ∃ c, c = x * x := ⟨_, rfl⟩
  obtain ⟨c2, hc2⟩ : ∃ c, c = c1 + c1 := ⟨_, rfl⟩
  obtain ⟨c3, hc3⟩ : ∃ c, c = c2 + c1 := ⟨_, rfl⟩
  obtain ⟨c4, hc4⟩ : ∃ c, c = y + y := ⟨_, rfl⟩
  obtain ⟨c5, hc5⟩ : ∃ c, c = c4 * z := ⟨_, rfl⟩
  obtain ⟨c6, hc6⟩ : ∃ c, c = c5 * c5 := ⟨_, rfl⟩
  obtain ⟨c7, hc7⟩ : ∃ c, c = c6 * c5 := ⟨_, rfl⟩
  obtain ⟨c8, hc8⟩ : ∃ c, c = c3 * c3 := ⟨_, rfl⟩
  obtain ⟨c9, hc9⟩ : ∃ c, c = c8 * z := ⟨_, rfl⟩
  obtain ⟨c10, hc10⟩ : ∃ c, c = x + x := ⟨_, rfl⟩
  obtain ⟨c11, hc11⟩ : ∃ c, c = c10 * c6 := ⟨_, rfl⟩
  obtain ⟨c12, hc12⟩ : ∃ c, c = c9 - c11 := ⟨_, rfl⟩
  obtain ⟨c13, hc13⟩ : ∃ c, c = c5 * c12 := ⟨_, rfl⟩
  obtain ⟨c14, hc14⟩ : ∃ c, c = x * c6 := ⟨_, rfl⟩
  obtain ⟨c15, hc15⟩ : ∃ c, c = c14 - c12 := ⟨_, rfl⟩
  obtain ⟨c16, hc16⟩ : ∃ c, c = c3 * c15 := ⟨_, rfl⟩
  obtain ⟨c17, hc17⟩ : ∃ c, c = y * c7 := ⟨_, rfl⟩
  obtain ⟨c18, hc18⟩ : ∃ c, c = c16 - c17 := ⟨_, rfl⟩
  obtain ⟨c19, hc19⟩ : ∃ c, c = c7 * z := ⟨_, rfl⟩
  have hfin : ((rv c13 c18 c19) : Value) = (rv ((EC.fdE y z) * (EC.fdT x y z)) ((EC.fdD x) * (x * ((EC.fdE y z) * (EC.fdE y z)) - (EC.fdT x y z)) - y * ((EC.fdE y z) * (EC.fdE y z) * (EC.fdE y z))) ((EC.fdE y z) * (EC.fdE y z) * (EC.fdE y z) * z)) := by
    subst_vars; rfl
  rw [← hfin]
  go_enter Tryz.func60, Tryz.ntmps60
  refine RG.M.enter [(0, (.v (rv x y z)))] 91 (by kernel_rfl) ?_
  intro a0 M0
  repeat refine wp_seq ?_
  refine M0.tx F80_0 [(0, (ws x ++ (ws y ++ (ws z)))), (1, (RG.z 12))] [] [(ws x ++ (ws y ++ (ws z))), (RG.z 12)] [(1, (.p 0 0)), (2, (.p 1 0))] (by kernel_rfl) (by kernel_rfl) ⟨RG.mk 0 34 fun _ _ => by kernel_rfl, RG.mk 1 34 fun _ _ => by kernel_rfl, trivial⟩ ?_
  intro j1 i1 a1 w1 M1
  repeat refine wp_seq ?_
  refine M1.dr (by kernel_rfl) (F80_1 x c1) [(6, (RG.z 4))] [(2, 7, (ws c1))] [(ws x ++ (ws y ++ (ws z))), (RG.z 12), (ws c1)] [(1, (.p 0 0)), (2, (.p 1 0)), (3, (.p 2 0))] (by kernel_rfl) (by kernel_rfl) ⟨RG.cl (F3_c) fun _ _ => by kernel_rfl, RG.st fun _ _ => by kernel_rfl, RG.ld u33 i33 (by kernel_rfl), RG.st fun _ _ => by kernel_rfl, RG.ld u33 i33 (by kernel_rfl), RG.cl ((rMul_c C x x).e hc1) fun _ _ => by kernel_rfl, RG.mk 2 32 fun _ _ => by kernel_rfl, RG.pt i33 (by kernel_rfl), trivial⟩ ?_
  intro j2 a2 w2 M2
  repeat refine wp_seq ?_
  refine M2.dr (by kernel_rfl) (F80_2 x c1 c2 c3) [(7, (RG.z 4))] [(3, 8, (ws c3))] [(ws x ++ (ws y ++ (ws z))), (RG.z 12), (ws c1), (ws c3)] [(1, (.p 0 0)), (2, (.p 1 0)), (4, (.p 3 0))] (by kernel_rfl) (by kernel_rfl) ⟨RG.cl (F3_c) fun _ _ => by kernel_rfl, RG.cl (F3_c) fun _ _ => by kernel_rfl, RG.ld u33 i33 (by kernel_rfl), RG.ld u33 i33 (by kernel_rfl), RG.cl ((rAdd_c C c1 c1).e hc2) fun _ _ => by kernel_rfl, RG.ld u33 i33 (by kernel_rfl), RG.cl ((rAdd_c C c2 c1).e hc3) fun _ _ => by kernel_rfl, RG.mk 3 32 fun _ _ => by kernel_rfl, RG.pt i33 (by kernel_rfl), trivial⟩ ?_
  intro j3 a3 w3 M3
  repeat refine wp_seq ?_
  refine M3.dr (by kernel_rfl) (F80_3 x y z c4 c5) [(10, (RG.z 4))] [(4, 11, (ws c5))] [(ws x ++ (ws y ++ (ws z))), (RG.z 12), (ws c1), (ws c3), (ws c5)] [(1, (.p 0 0)), (2, (.p 1 0)), (4, (.p 3 0)), (5, (.p 4 0))] (by kernel_rfl) (by kernel_rfl) ⟨RG.cl (F3_c) fun _ _ => by kernel_rfl, RG.cl (F3_c) fun _ _ => by kernel_rfl, RG.st fun _ _ => by kernel_rfl, RG.ld u33 i33 (by kernel_rfl), RG.st fun _ _ => by kernel_rfl, RG.ld u33 i33 (by kernel_rfl), RG.cl ((rAdd_c C y y).e hc4) fun _ _ => by kernel_rfl, RG.st fun _ _ => by kernel_rfl, RG.ld u33 i33 (by kernel_rfl), RG.cl ((rMul_c C c4 z).e hc5) fun _ _ => by kernel_rfl, RG.mk 4 32 fun _ _ => by kernel_rfl, RG.pt i33 (by kernel_rfl), trivial⟩ ?_
  intro j4 a4 w4 M4
  repeat refine wp_seq ?_
  refine M4.dr (by kernel_rfl) (F80_4 x c5 c6) [(4, (RG.z 4))] [(5, 5, (ws c6))] [(ws x ++ (ws y ++ (ws z))), (RG.z 12), (ws c1), (ws c3), (ws c5), (ws c6)] [(1, (.p 0 0)), (2, (.p 1 0)), (4, (.p 3 0)), (5, (.p 4 0)), (6, (.p 5 0))] (by kernel_rfl) (by kernel_rfl) ⟨RG.cl (F3_c) fun _ _ => by kernel_rfl, RG.ld u33 i33 (by kernel_rfl), RG.ld u33 i33 (by kernel_rfl), RG.cl ((rMul_c C c5 c5).e hc6) fun _ _ => by kernel_rfl, RG.mk 5 32 fun _ _ => by kernel_rfl, RG.pt i33 (by kernel_rfl), trivial⟩ ?_
  intro j5 a5 w5 M5
  repeat refine wp_seq ?_
  refine M5.dr (by kernel_rfl) (F80_5 x c5 c6 c7) [(4, (RG.z 4))] [(6, 5, (ws c7))] [(ws x ++ (ws y ++ (ws z))), (RG.z 12), (ws c1), (ws c3), (ws c5), (ws c6), (ws c7)] [(1, (.p 0 0)), (2, (.p 1 0)), (4, (.p 3 0)), (5, (.p 4 0)), (6, (.p 5 0)), (7, (.p 6 0))] (by kernel_rfl) (by kernel_rfl) ⟨RG.cl (F3_c) fun _ _ => by kernel_rfl, RG.ld u33 i33 (by kernel_rfl), RG.ld u33 i33 (by kernel_rfl), RG.cl ((rMul_c C c6 c5).e hc7) fun _ _ => by kernel_rfl, RG.mk 6 32 fun _ _ => by kernel_rfl, RG.pt i33 (by kernel_rfl), trivial⟩ ?_
  intro j6 a6 w6 M6
  repeat refine wp_seq ?_
  refine M6.dr (by kernel_rfl) (F80_6 x z c3 c6 c8 c9 c10 c11 c12) [(19, (RG.z 4))] [(7, 20, (ws c12))] [(ws x ++ (ws y ++ (ws z))), (RG.z 12), (ws c1), (ws c3), (ws c5), (ws c6), (ws c7), (ws c12)] [(1, (.p 0 0)), (2, (.p 1 0)), (4, (.p 3 0)), (5, (.p 4 0)), (6, (.p 5 0)), (7, (.p 6 0)), (8, (.p 7 0))] (by kernel_rfl) (by kernel_rfl) ⟨RG.cl (F3_c) fun _ _ => by kernel_rfl, RG.cl (F3_c) fun _ _ => by kernel_rfl, RG.cl (F3_c) fun _ _ => by kernel_rfl, RG.ld u33 i33 (by kernel_rfl), RG.ld u33 i33 (by kernel_rfl), RG.cl ((rMul_c C c3 c3).e hc8) fun _ _ => by kernel_rfl, RG.st fun _ _ => by kernel_rfl, RG.ld u33 i33 (by kernel_rfl), RG.cl ((rMul_c C c8 z).e hc9) fun _ _ => by kernel_rfl, RG.cl (F3_c) fun _ _ => by kernel_rfl, RG.cl (F3_c) fun _ _ => by kernel_rfl, RG.st fun _ _ => by kernel_rfl, RG.ld u33 i33 (by kernel_rfl), RG.st fun _ _ => by kernel_rfl, RG.ld u33 i33 (by kernel_rfl), RG.cl ((rAdd_c C x x).e hc10) fun _ _ => by kernel_rfl, RG.ld u33 i33 (by kernel_rfl), RG.cl ((rMul_c C c10 c6).e hc11) fun _ _ => by kernel_rfl, RG.cl ((rSub_c C c9 c11).e hc12) fun _ _ => by kernel_rfl, RG.mk 7 32 fun _ _ => by kernel_rfl, RG.pt i33 (by kernel_rfl), trivial⟩ ?_
  intro j7 a7 w7 M7
  repeat refine wp_seq ?_
  refine M7.dr (by kernel_rfl) (F80_7 x c5 c12 c13) [(4, (RG.z 4))] [(8, 5, (ws c13))] [(ws x ++ (ws y ++ (ws z))), (RG.z 12), (ws c1), (ws c3), (ws c5), (ws c6), (ws c7), (ws c12), (ws c13)] [(1, (.p 0 0)), (2, (.p 1 0)), (4, (.p 3 0)), (6, (.p 5 0)), (7, (.p 6 0)), (8, (.p 7 0)), (9, (.p 8 0))] (by kernel_rfl) (by kernel_rfl) ⟨RG.cl (F3_c) fun _ _ => by kernel_rfl, RG.ld u33 i33 (by kernel_rfl), RG.ld u33 i33 (by kernel_rfl), RG.cl ((rMul_c C c5 c12).e hc13) fun _ _ => by kernel_rfl, RG.mk 8 32 fun _ _ => by kernel_rfl, RG.pt i33 (by kernel_rfl), trivial⟩ ?_
  intro j8 a8 w8 M8
  repeat refine wp_seq ?_
  refine M8.dr (by kernel_rfl) (F80_8 x y c3 c6 c7 c12 c14 c15 c16 c17 c18) [(18, (RG.z 4))] [(9, 19, (ws c18))] [(ws x ++ (ws y ++ (ws z))), (RG.z 12), (ws c1), (ws c3), (ws c5), (ws c6), (ws c7), (ws c12), (ws c13), (ws c18)] [(1, (.p 0 0)), (2, (.p 1 0)), (7, (.p 6 0)), (9, (.p 8 0)), (10, (.p 9 0))] (by kernel_rfl) (by kernel_rfl) ⟨RG.cl (F3_c) fun _ _ => by kernel_rfl, RG.cl (F3_c) fun _ _ => by kernel_rfl, RG.ld u33 i33 (by kernel_rfl), RG.cl (F3_c) fun _ _ => by kernel_rfl, RG.cl (F3_c) fun _ _ => by kernel_rfl, RG.st fun _ _ => by kernel_rfl, RG.ld u33 i33 (by kernel_rfl), RG.ld u33 i33 (by kernel_rfl), RG.cl ((rMul_c C x c6).e hc14) fun _ _ => by kernel_rfl, RG.ld u33 i33 (by kernel_rfl), RG.cl ((rSub_c C c14 c12).e hc15) fun _ _ => by kernel_rfl, RG.cl ((rMul_c C c3 c15).e hc16) fun _ _ => by kernel_rfl, RG.cl (F3_c) fun _ _ => by kernel_rfl, RG.st fun _ _ => by kernel_rfl, RG.ld u33 i33 (by kernel_rfl), RG.ld u33 i33 (by kernel_rfl), RG.cl ((rMul_c C y c7).e hc17) fun _ _ => by kernel_rfl, RG.cl ((rSub_c C c16 c17).e hc18) fun _ _ => by kernel_rfl, RG.mk 9 32 fun _ _ => by kernel_rfl, RG.pt i33 (by kernel_rfl), trivial⟩ ?_
  intro j9 a9 w9 M9
  repeat refine wp_seq ?_
  refine M9.dr (by kernel_rfl) (F80_9 x z c7 c13 c18 c19) [] [(1, 8, (ws c13 ++ (ws c18 ++ (ws c19))))] [(ws x ++ (ws y ++ (ws z))), (ws c13 ++ (ws c18 ++ (ws c19))), (ws c1), (ws c3), (ws c5), (ws c6), (ws c7), (ws c12), (ws c13), (ws c18)] [(2, (.p 1 0))] (by kernel_rfl) (by kernel_rfl) ⟨RG.ld u33 i33 (by kernel_rfl), RG.ld u33 i33 (by kernel_rfl), RG.cl (F3_c) fun _ _ => by kernel_rfl, RG.ld u33 i33 (by kernel_rfl), RG.st fun _ _ => by kernel_rfl, RG.ld u33 i33 (by kernel_rfl), RG.cl ((rMul_c C c7 z).e hc19) fun _ _ => by kernel_rfl, RG.st fun _ _ => by kernel_rfl, RG.pt i56 (by kernel_rfl), trivial⟩ ?_
  intro a10 w10 M10
  refine wp_ret ?_
  refine bodyPost_ret (v := (rv c13 c18 c19)) (RG.results_row M10.st 2 34 rfl 1 _ rfl (M10.at (s := (.p 1 0)) (by kernel_rfl)) u56 i56) M10.sl.defers ?_
  exact ⟨_, rfl, M10.st.bel.below, rfl⟩
def F37_0 : List RG.It := [.m 1 [] 0, .m 2 [] 1]
def F37_1 (x y z c1 : Fin P) : List RG.It := [.s 3 [] (.p 0 0), .x 4 [(3, 0)] (fv x), .c 5 [] rv0, .s 6 [] (.p 0 4), .x 7 [(6, 3)] (fv y), .c 8 [(5, 2), (7, 4)] (fv c1), .s 9 [] (.p 0 8), .x 10 [(9, 6)] (fv z), .x 11 [(4, 1), (8, 5), (10, 7)] (rv x c1 z), .u [(11, 8)] 1]
def F39a_0 : List RG.It := [.m 2 [] 0, .m 3 [] 1, .m 4 [] 2]
def F39a_1 (x1 y1 z1 : Fin P) : List RG.It := [.x 16 [] (rv x1 y1 z1), .c 17 [(16, 0)] (.bool true), .x 5 [(17, 1)] (.bool true)]
def F39a_2 : List RG.It := [.x 18 [] (.bool true)]
def F39a_3 (x2 y2 z2 : Fin P) : List RG.It := [.x 19 [] (rv x2 y2 z2), .u [(19, 0)] 2]
set_option maxHeartbeats 2000000 in
set_option maxRecDepth 100000 in
theorem rPlus_a_c (C : Fl3 P) (x1 y1 z1 x2 y2 z2 : Fin P)(hz1 : z1 = 0)  : Gives 32 #[(rv x1 y1 z1), (rv x2 y2 z2)] (rv x2 y2 z2) := by
  intro w
  go_enter Tryz.func32, Tryz.ntmps32
  refine RG.M.enter [(0, (.v (rv x1 y1 z1))), (1, (.v (rv x2 y2 z2)))] 127 (by kernel_rfl) ?_
  intro a0 M0
  repeat refine wp_seq ?_
  refine M0.tx F39a_0 [(0, (ws x1 ++ (ws y1 ++ (ws z1)))), (1, (ws x2 ++ (ws y2 ++ (ws z2)))), (2, (RG.z 12))] [] [(ws x1 ++ (ws y1 ++ (ws z1))), (ws x2 ++ (ws y2 ++ (ws z2))), (RG.z 12)] [(2, (.p 0 0)), (3, (.p 1 0)), (4, (.p 2 0))] (by kernel_rfl) (by kernel_rfl) ⟨RG.mk 0 34 fun _ _ => by kernel_rfl, RG.mk 1 34 fun _ _ => by kernel_rfl, RG.mk 2 34 fun _ _ => by kernel_rfl, trivial⟩ ?_
  intro j1 i1 m1 a1 w1 M1
  repeat refine wp_seq ?_
  refine M1.tx0 (F39a_1 x1 y1 z1) [(3, (.p 1 0)), (4, (.p 2 0)), (5, (.v (.bool true)))] (by kernel_rfl) ⟨RG.ld u56 i56 (by kernel_rfl), RG.cl (Is_t_c C x1 y1 z1 hz1) fun _ _ => by kernel_rfl, RG.st fun _ _ => by kernel_rfl, trivial⟩ ?_
  intro a2 w2 M2
  repeat refine wp_seq ?_
  refine M2.tx0 F39a_2 [(3, (.p 1 0)), (4, (.p 2 0)), (18, (.v (.bool true)))] (by kernel_rfl) ⟨RG.st fun _ _ => by kernel_rfl, trivial⟩ ?_
  intro a3 w3 M3
  repeat refine wp_seq ?_
  refine wp_cond_true (M3.ev (by kernel_rfl)) ?_
  repeat refine wp_seq ?_
  refine M3.tx (F39a_3 x2 y2 z2) [] [(2, 1, (ws x2 ++ (ws y2 ++ (ws z2))))] [(ws x1 ++ (ws y1 ++ (ws z1))), (ws x2 ++ (ws y2 ++ (ws z2))), (ws x2 ++ (ws y2 ++ (ws z2)))] [(4, (.p 2 0))] (by kernel_rfl) (by kernel_rfl) ⟨RG.ld u56 i56 (by kernel_rfl), RG.pt i56 (by kernel_rfl), trivial⟩ ?_
  intro a4 w4 M4
  refine wp_ret ?_
  refine bodyPost_ret (v := (rv x2 y2 z2)) (RG.results_row M4.st 4 34 rfl 2 _ rfl (M4.at (s := (.p 2 0)) (by kernel_rfl)) u56 i56) M4.sl.defers ?_
  exact ⟨_, rfl, M4.st.bel.below, rfl⟩
def F39b_0 : List RG.It := [.m 2 [] 0, .m 3 [] 1, .m 4 [] 2]
def F39b_1 (x1 y1 z1 : Fin P) : List RG.It := [.x 16 [] (rv x1 y1 z1), .c 17 [(16, 0)] (.bool false), .x 5 [(17, 1)] (.bool false)]
def F39b_2 : List RG.It := [.x 18 [] (.bool false)]
def F39b_4 (x2 y2 z2 : Fin P) : List RG.It := [.x 20 [] (rv x2 y2 z2), .c 21 [(20, 0)] (.bool true), .x 5 [(21, 1)] (.bool true)]
def F39b_5 : List RG.It := [.x 22 [] (.bool true)]
def F39b_6 (x1 y1 z1 : Fin P) : List RG.It := [.x 23 [] (rv x1 y1 z1), .u [(23, 0)] 2]
set_option maxHeartbeats 2000000 in
set_option maxRecDepth 100000 in
theorem rPlus_b_c (C : Fl3 P) (x1 y1 z1 x2 y2 z2 : Fin P)(hz1 : ¬ z1 = 0) (hz2 : z2 = 0)  : Gives 32 #[(rv x1 y1 z1), (rv x2 y2 z2)] (rv x1 y1 z1) := by
  intro w
  go_enter Tryz.func32, Tryz.ntmps32
  refine RG.M.enter [(0, (.v (rv x1 y1 z1))), (1, (.v (rv x2 y2 z2)))] 127 (by kernel_rfl) ?_
  intro a0 M0
  repeat refine wp_seq ?_
  refine M0.tx F39b_0 [(0, (ws x1 ++ (ws y1 ++ (ws z1)))), (1, (ws x2 ++ (ws y2 ++ (ws z2)))), (2, (RG.z 12))] [] [(ws x1 ++ (ws y1 ++ (ws z1))), (ws x2 ++ (ws y2 ++ (ws z2))), (RG.z 12)] [(2, (.p 0 0)), (3, (.p 1 0)), (4, (.p 2 0))] (by kernel_rfl) (by kernel_rfl) ⟨RG.mk 0 34 fun _ _ => by kernel_rfl, RG.mk 1 34 fun _ _ => by kernel_rfl, RG.mk 2 34 fun _ _ => by kernel_rfl, trivial⟩ ?_
  intro j1 i1 m1 a1 w1 M1
  repeat refine wp_seq ?_
  refine M1.tx0 (F39b_1 x1 y1 z1) [(2, (.p 0 0)), (3, (.p 1 0)), (4, (.p 2 0)), (5, (.v (.bool false)))] (by kernel_rfl) ⟨RG.ld u56 i56 (by kernel_rfl), RG.cl (Is_f_c C x1 y1 z1 hz1) fun _ _ => by kernel_rfl, RG.st fun _ _ => by kernel_rfl, trivial⟩ ?_
  intro a2 w2 M2
  repeat refine wp_seq ?_
  refine M2.tx0 F39b_2 [(2, (.p 0 0)), (3, (.p 1 0)), (4, (.p 2 0)), (5, (.v (.bool false))), (18, (.v (.bool false)))] (by kernel_rfl) ⟨RG.st fun _ _ => by kernel_rfl, trivial⟩ ?_
  intro a3 w3 M3
  repeat refine wp_seq ?_
  refine wp_cond_false (M3.ev (by kernel_rfl)) ?_
  refine wp_skip ?_
  repeat refine wp_seq ?_
  refine M3.tx0 (F39b_4 x2 y2 z2) [(2, (.p 0 0)), (4, (.p 2 0)), (5, (.v (.bool true)))] (by kernel_rfl) ⟨RG.ld u56 i56 (by kernel_rfl), RG.cl (Is_t_c C x2 y2 z2 hz2) fun _ _ => by kernel_rfl, RG.st fun _ _ => by kernel_rfl, trivial⟩ ?_
  intro a4 w4 M4
  repeat refine wp_seq ?_
  refine M4.tx0 F39b_5 [(2, (.p 0 0)), (4, (.p 2 0)), (22, (.v (.bool true)))] (by kernel_rfl) ⟨RG.st fun _ _ => by kernel_rfl, trivial⟩ ?_
  intro a5 w5 M5
  repeat refine wp_seq ?_
  refine wp_cond_true (M5.ev (by kernel_rfl)) ?_
  repeat refine wp_seq ?_
  refine M5.tx (F39b_6 x1 y1 z1) [] [(2, 1, (ws x1 ++ (ws y1 ++ (ws z1))))] [(ws x1 ++ (ws y1 ++ (ws z1))), (ws x2 ++ (ws y2 ++ (ws z2))), (ws x1 ++ (ws y1 ++ (ws z1)))] [(4, (.p 2 0))] (by kernel_rfl) (by kernel_rfl) ⟨RG.ld u56 i56 (by kernel_rfl), RG.pt i56 (by kernel_rfl), trivial⟩ ?_
  intro a6 w6 M6
  refine wp_ret ?_
  refine bodyPost_ret (v := (rv x1 y1 z1)) (RG.results_row M6.st 4 34 rfl 2 _ rfl (M6.at (s := (.p 2 0)) (by kernel_rfl)) u56 i56) M6.sl.defers ?_
  exact ⟨_, rfl, M6.st.bel.below, rfl⟩
def F39c_0 : List RG.It := [.m 2 [] 0, .m 3 [] 1, .m 4 [] 2]
def F39c_1 (x1 y1 z1 : Fin P) : List RG.It := [.x 16 [] (rv x1 y1 z1), .c 17 [(16, 0)] (.bool false), .x 5 [(17, 1)] (.bool false)]
def F39c_2 : List RG.It := [.x 18 [] (.bool false)]
def F39c_4 (x2 y2 z2 : Fin P) : List RG.It := [.x 20 [] (rv x2 y2 z2), .c 21 [(20, 0)] (.bool false), .x 5 [(21, 1)] (.bool false)]
def F39c_5 : List RG.It := [.x 22 [] (.bool false)]
def F39c_7 (z1 y2 c1 : Fin P) : List RG.It := [.c 24 [] rv0, .s 25 [] (.p 1 4), .x 26 [(25, 1)] (fv y2), .s 27 [] (.p 0 8), .x 28 [(27, 3)] (fv z1), .c 29 [(24, 0), (26, 2), (28, 4)] (fv c1), .m 6 [] 3, .u [(6, 6), (29, 5)] 3]
def F39c_8 (z1 x2 c2 : Fin P) : List RG.It := [.c 30 [] rv0, .s 31 [] (.p 1 0), .x 32 [(31, 1)] (fv x2), .s 33 [] (.p 0 8), .x 34 [(33, 3)] (fv z1), .c 35 [(30, 0), (32, 2), (34, 4)] (fv c2), .m 7 [] 4, .u [(7, 6), (35, 5)] 4]
def F39c_9 (y1 z2 c3 : Fin P) : List RG.It := [.c 36 [] rv0, .s 37 [] (.p 0 4), .x 38 [(37, 1)] (fv y1), .s 39 [] (.p 1 8), .x 40 [(39, 3)] (fv z2), .c 41 [(36, 0), (38, 2), (40, 4)] (fv c3), .m 8 [] 5, .u [(8, 6), (41, 5)] 5]
def F39c_10 (x1 z2 c4 : Fin P) : List RG.It := [.c 42 [] rv0, .s 43 [] (.p 0 0), .x 44 [(43, 1)] (fv x1), .s 45 [] (.p 1 8), .x 46 [(45, 3)] (fv z2), .c 47 [(42, 0), (44, 2), (46, 4)] (fv c4), .m 9 [] 6, .u [(9, 6), (47, 5)] 6]
def F39c_11 (c2 c4 : Fin P) : List RG.It := [.x 48 [] (fv c2), .x 49 [] (fv c4), .x 50 [(48, 0), (49, 1)] (.bool true)]
def F39c_12 (c1 c3 : Fin P) : List RG.It := [.x 51 [] (fv c1), .x 52 [] (fv c3), .x 53 [(51, 0), (52, 1)] (.bool true), .x 54 [(53, 2)] (.bool true), ⟨some 55, [], (.v undef), .pass⟩, ⟨some 56, [], (.v undef), .pass⟩, .x 57 [(54, 3), (56, 5)] (.bool true)]
def F39c_13 : List RG.It := [.c 58 [] (rv (0 : Fin P) (1 : Fin P) (0 : Fin P)), .u [(58, 0)] 2]
set_option maxHeartbeats 2000000 in
set_option maxRecDepth 100000 in
theorem rPlus_c_c (C : Fl3 P) (x1 y1 z1 x2 y2 z2 : Fin P)(hz1 : ¬ z1 = 0) (hz2 : ¬ z2 = 0) (hv : x2 * z1 = x1 * z2) (hu : ¬ y2 * z1 = y1 * z2)  : Gives 32 #[(rv x1 y1 z1), (rv x2 y2 z2)] (rv (0 : Fin P) 1 0) := by
  intro w
  obtain ⟨c1, hc1⟩ : ∃ c, c = y2 * z1 := ⟨_, rfl⟩
  obtain ⟨c2, hc2⟩ : ∃ c, c = x2 * z1 := ⟨_, rfl⟩
  obtain ⟨c3, hc3⟩ : ∃ c, c = y1 * z2 := ⟨_, rfl⟩
  obtain ⟨c4, hc4⟩ : ∃ c, c = x1 * z2 := ⟨_, rfl⟩
  have hfin : ((rv (0 : Fin P) (1 : Fin P) (0 : Fin P)) : Value) = (rv (0 : Fin P) 1 0) := by
    subst_vars; rfl
  rw [← hfin]
  go_enter Tryz.func32, Tryz.ntmps32
  refine RG.M.enter [(0, (.v (rv x1 y1 z1))), (1, (.v (rv x2 y2 z2)))] 127 (by kernel_rfl) ?_
  intro a0 M0
  repeat refine wp_seq ?_
  refine M0.tx F39c_0 [(0, (ws x1 ++ (ws y1 ++ (ws z1)))), (1, (ws x2 ++ (ws y2 ++ (ws z2)))), (2, (RG.z 12))] [] [(ws x1 ++ (ws y1 ++ (ws z1))), (ws x2 ++ (ws y2 ++ (ws z2))), (RG.z 12)] [(2, (.p 0 0)), (3, (.p 1 0)), (4, (.p 2 0))] (by kernel_rfl) (by kernel_rfl) ⟨RG.mk 0 34 fun _ _ => by kernel_rfl, RG.mk 1 34 fun _ _ => by kernel_rfl, RG.mk 2 34 fun _ _ => by kernel_rfl, trivial⟩ ?_
  intro j1 i1 m1 a1 w1 M1
  repeat refine wp_seq ?_
  refine M1.tx0 (F39c_1 x1 y1 z1) [(2, (.p 0 0)), (3, (.p 1 0)), (4, (.p 2 0)), (5, (.v (.bool false)))] (by kernel_rfl) ⟨RG.ld u56 i56 (by kernel_rfl), RG.cl (Is_f_c C x1 y1 z1 hz1) fun _ _ => by kernel_rfl, RG.st fun _ _ => by kernel_rfl, trivial⟩ ?_
  intro a2 w2 M2
  repeat refine wp_seq ?_
  refine M2.tx0 F39c_2 [(2, (.p 0 0)), (3, (.p 1 0)), (4, (.p 2 0)), (5, (.v (.bool false))), (18, (.v (.bool false)))] (by kernel_rfl) ⟨RG.st fun _ _ => by kernel_rfl, trivial⟩ ?_
  intro a3 w3 M3
  repeat refine wp_seq ?_
  refine wp_cond_false (M3.ev (by kernel_rfl)) ?_
  refine wp_skip ?_
  repeat refine wp_seq ?_
  refine M3.tx0 (F39c_4 x2 y2 z2) [(2, (.p 0 0)), (3, (.p 1 0)), (4, (.p 2 0)), (5, (.v (.bool false)))] (by kernel_rfl) ⟨RG.ld u56 i56 (by kernel_rfl), RG.cl (Is_f_c C x2 y2 z2 hz2) fun _ _ => by kernel_rfl, RG.st fun _ _ => by kernel_rfl, trivial⟩ ?_
  intro a4 w4 M4
  repeat refine wp_seq ?_
  refine M4.tx0 F39c_5 [(2, (.p 0 0)), (3, (.p 1 0)), (4, (.p 2 0)), (22, (.v (.bool false)))] (by kernel_rfl) ⟨RG.st fun _ _ => by kernel_rfl, trivial⟩ ?_
  intro a5 w5 M5
  repeat refine wp_seq ?_
  refine wp_cond_false (M5.ev (by kernel_rfl)) ?_
  refine wp_skip ?_
  repeat refine wp_seq ?_
  refine M5.dr (by kernel_rfl) (F39c_7 z1 y2 c1) [(6, (RG.z 4))] [(3, 7, (ws c1))] [(ws x1 ++ (ws y1 ++ (ws z1))), (ws x2 ++ (ws y2 ++ (ws z2))), (RG.z 12), (ws c1)] [(2, (.p 0 0)), (3, (.p 1 0)), (4, (.p 2 0)), (6, (.p 3 0))] (by kernel_rfl) (by kernel_rfl) ⟨RG.cl (F3_c) fun _ _ => by kernel_rfl, RG.st fun _ _ => by kernel_rfl, RG.ld u33 i33 (by kernel_rfl), RG.st fun _ _ => by kernel_rfl, RG.ld u33 i33 (by kernel_rfl), RG.cl ((rMul_c C y2 z1).e hc1) fun _ _ => by kernel_rfl, RG.mk 3 32 fun _ _ => by kernel_rfl, RG.pt i33 (by kernel_rfl), trivial⟩ ?_
  intro j6 a6 w6 M6
  repeat refine wp_seq ?_
  refine M6.dr (by kernel_rfl) (F39c_8 z1 x2 c2) [(6, (RG.z 4))] [(4, 7, (ws c2))] [(ws x1 ++ (ws y1 ++ (ws z1))), (ws x2 ++ (ws y2 ++ (ws z2))), (RG.z 12), (ws c1), (ws c2)] [(2, (.p 0 0)), (3, (.p 1 0)), (4, (.p 2 0)), (6, (.p 3 0)), (7, (.p 4 0))] (by kernel_rfl) (by kernel_rfl) ⟨RG.cl (F3_c) fun _ _ => by kernel_rfl, RG.st fun _ _ => by kernel_rfl, RG.ld u33 i33 (by kernel_rfl), RG.st fun _ _ => by kernel_rfl, RG.ld u33 i33 (by kernel_rfl), RG.cl ((rMul_c C x2 z1).e hc2) fun _ _ => by kernel_rfl, RG.mk 4 32 fun _ _ => by kernel_rfl, RG.pt i33 (by kernel_rfl), trivial⟩ ?_
  intro j7 a7 w7 M7
  repeat refine wp_seq ?_
  refine M7.dr (by kernel_rfl) (F39c_9 y1 z2 c3) [(6, (RG.z 4))] [(5, 7, (ws c3))] [(ws x1 ++ (ws y1 ++ (ws z1))), (ws x2 ++ (ws y2 ++ (ws z2))), (RG.z 12), (ws c1), (ws c2), (ws c3)] [(2, (.p 0 0)), (3, (.p 1 0)), (4, (.p 2 0)), (6, (.p 3 0)), (7, (.p 4 0)), (8, (.p 5 0))] (by kernel_rfl) (by kernel_rfl) ⟨RG.cl (F3_c) fun _ _ => by kernel_rfl, RG.st fun _ _ => by kernel_rfl, RG.ld u33 i33 (by kernel_rfl), RG.st fun _ _ => by kernel_rfl, RG.ld u33 i33 (by kernel_rfl), RG.cl ((rMul_c C y1 z2).e hc3) fun _ _ => by kernel_rfl, RG.mk 5 32 fun _ _ => by kernel_rfl, RG.pt i33 (by kernel_rfl), trivial⟩ ?_
  intro j8 a8 w8 M8
  repeat refine wp_seq ?_
  refine M8.dr (by kernel_rfl) (F39c_10 x1 z2 c4) [(6, (RG.z 4))] [(6, 7, (ws c4))] [(ws x1 ++ (ws y1 ++ (ws z1))), (ws x2 ++ (ws y2 ++ (ws z2))), (RG.z 12), (ws c1), (ws c2), (ws c3), (ws c4)] [(4, (.p 2 0)), (6, (.p 3 0)), (7, (.p 4 0)), (8, (.p 5 0)), (9, (.p 6 0))] (by kernel_rfl) (by kernel_rfl) ⟨RG.cl (F3_c) fun _ _ => by kernel_rfl, RG.st fun _ _ => by kernel_rfl, RG.ld u33 i33 (by kernel_rfl), RG.st fun _ _ => by kernel_rfl, RG.ld u33 i33 (by kernel_rfl), RG.cl ((rMul_c C x1 z2).e hc4) fun _ _ => by kernel_rfl, RG.mk 6 32 fun _ _ => by kernel_rfl, RG.pt i33 (by kernel_rfl), trivial⟩ ?_
  intro j9 a9 w9 M9
  repeat refine wp_seq ?_
  refine M9.tx0 (F39c_11 c2 c4) [(4, (.p 2 0)), (6, (.p 3 0)), (8, (.p 5 0)), (50, (.v (.bool true)))] (by kernel_rfl) ⟨RG.ld u33 i33 (by kernel_rfl), RG.ld u33 i33 (by kernel_rfl), RG.cert_bin rfl .eql 32 32 48 49 (fv c2) (fv c4) (.bool true) rfl rfl (RG.sx fun _ => by kernel_rfl) (RG.sx fun _ => by kernel_rfl) (fun w => by kernel_rfl) (eqR_t C.toFld (by subst_vars; exact hv)), trivial⟩ ?_
  intro a10 w10 M10
  repeat refine wp_seq ?_
  refine wp_cond_true (M10.ev (by kernel_rfl)) ?_
  repeat refine wp_seq ?_
  refine M10.tx0 (F39c_12 c1 c3) [(4, (.p 2 0)), (57, (.v (.bool true)))] (by kernel_rfl) ⟨RG.ld u33 i33 (by kernel_rfl), RG.ld u33 i33 (by kernel_rfl), RG.cert_bin rfl .neq 32 32 51 52 (fv c1) (fv c3) (.bool true) rfl rfl (RG.sx fun _ => by kernel_rfl) (RG.sx fun _ => by kernel_rfl) (fun w => by kernel_rfl) (neR_t C.toFld (by subst_vars; exact hu)), RG.st fun _ _ => by kernel_rfl, RG.cert_pass rfl rfl, RG.cert_pass rfl rfl, RG.st fun _ _ => by kernel_rfl, trivial⟩ ?_
  intro a11 w11 M11
  repeat refine wp_seq ?_
  refine wp_cond_true (M11.ev (by kernel_rfl)) ?_
  repeat refine wp_seq ?_
  refine M11.tx (F39c_13 (P := P)) [] [(2, 1, (ws (0 : Fin P) ++ (ws (1 : Fin P) ++ (ws (0 : Fin P)))))] [(ws x1 ++ (ws y1 ++ (ws z1))), (ws x2 ++ (ws y2 ++ (ws z2))), (ws (0 : Fin P) ++ (ws (1 : Fin P) ++ (ws (0 : Fin P)))), (ws c1), (ws c2), (ws c3), (ws c4)] [(4, (.p 2 0))] (by kernel_rfl) (by kernel_rfl) ⟨RG.cl (None_c C) fun _ _ => by kernel_rfl, RG.pt i56 (by kernel_rfl), trivial⟩ ?_
  intro a12 w12 M12
  refine wp_ret ?_
  refine bodyPost_ret (v := (rv (0 : Fin P) (1 : Fin P) (0 : Fin P))) (RG.results_row M12.st 4 34 rfl 2 _ rfl (M12.at (s := (.p 2 0)) (by kernel_rfl)) u56 i56) M12.sl.defers ?_
  exact ⟨_, rfl, M12.st.bel.below, rfl⟩
def F39d_0 : List RG.It := [.m 2 [] 0, .m 3 [] 1, .m 4 [] 2]
def F39d_1 (x1 y1 z1 : Fin P) : List RG.It := [.x 16 [] (rv x1 y1 z1), .c 17 [(16, 0)] (.bool false), .x 5 [(17, 1)] (.bool false)]
def F39d_2 : List RG.It := [.x 18 [] (.bool false)]
def F39d_4 (x2 y2 z2 : Fin P) : List RG.It := [.x 20 [] (rv x2 y2 z2), .c 21 [(20, 0)] (.bool false), .x 5 [(21, 1)] (.bool false)]
def F39d_5 : List RG.It := [.x 22 [] (.bool false)]
def F39d_7 (z1 y2 c1 : Fin P) : List RG.It := [.c 24 [] rv0, .s 25 [] (.p 1 4), .x 26 [(25, 1)] (fv y2), .s 27 [] (.p 0 8), .x 28 [(27, 3)] (fv z1), .c 29 [(24, 0), (26, 2), (28, 4)] (fv c1), .m 6 [] 3, .u [(6, 6), (29, 5)] 3]
def F39d_8 (z1 x2 c2 : Fin P) : List RG.It := [.c 30 [] rv0, .s 31 [] (.p 1 0), .x 32 [(31, 1)] (fv x2), .s 33 [] (.p 0 8), .x 34 [(33, 3)] (fv z1), .c 35 [(30, 0), (32, 2), (34, 4)] (fv c2), .m 7 [] 4, .u [(7, 6), (35, 5)] 4]
def F39d_9 (y1 z2 c3 : Fin P) : List RG.It := [.c 36 [] rv0, .s 37 [] (.p 0 4), .x 38 [(37, 1)] (fv y1), .s 39 [] (.p 1 8), .x 40 [(39, 3)] (fv z2), .c 41 [(36, 0), (38, 2), (40, 4)] (fv c3), .m 8 [] 5, .u [(8, 6), (41, 5)] 5]
def F39d_10 (x1 z2 c4 : Fin P) : List RG.It := [.c 42 [] rv0, .s 43 [] (.p 0 0), .x 44 [(43, 1)] (fv x1), .s 45 [] (.p 1 8), .x 46 [(45, 3)] (fv z2), .c 47 [(42, 0), (44, 2), (46, 4)] (fv c4), .m 9 [] 6, .u [(9, 6), (47, 5)] 6]
def F39d_11 (c2 c4 : Fin P) : List RG.It := [.x 48 [] (fv c2), .x 49 [] (fv c4), .x 50 [(48, 0), (49, 1)] (.bool true)]
def F39d_12 (c1 c3 : Fin P) : List RG.It := [.x 51 [] (fv c1), .x 52 [] (fv c3), .x 53 [(51, 0), (52, 1)] (.bool false), .x 54 [(53, 2)] (.bool false), .x 55 [] (fv c1), .c 56 [(55, 4)] (.bool false), .x 57 [(54, 3), (56, 5)] (.bool false)]
def F39d_14 (x1 y1 z1 c5 c6 c7 : Fin P) : List RG.It := [.x 59 [] (rv x1 y1 z1), .c 60 [(59, 0)] (rv c5 c6 c7), .u [(60, 1)] 2]
set_option maxHeartbeats 2000000 in
set_option maxRecDepth 100000 in
theorem rPlus_d_c (C : Fl3 P) (x1 y1 z1 x2 y2 z2 : Fin P)(hz1 : ¬ z1 = 0) (hz2 : ¬ z2 = 0) (hv : x2 * z1 = x1 * z2) (hu : y2 * z1 = y1 * z2) (hn : ¬ y2 * z1 = 0)  : Gives 32 #[(rv x1 y1 z1), (rv x2 y2 z2)] (rv ((EC.fdE y1 z1) * (EC.fdT x1 y1 z1)) ((EC.fdD x1) * (x1 * ((EC.fdE y1 z1) * (EC.fdE y1 z1)) - (EC.fdT x1 y1 z1)) - y1 * ((EC.fdE y1 z1) * (EC.fdE y1 z1) * (EC.fdE y1 z1))) ((EC.fdE y1 z1) * (EC.fdE y1 z1) * (EC.fdE y1 z1) * z1)) := by
  intro w
  obtain ⟨c1, hc1⟩ : ∃ c, c = y2 * z1 := ⟨_, rfl⟩
  obtain ⟨c2, hc2⟩ : ∃ c, c = x2 * z1 := ⟨_, rfl⟩
  obtain ⟨c3, hc3⟩ : ∃ c, c = y1 * z2 := ⟨_, rfl⟩
  obtain ⟨c4, hc4⟩ : ∃ c, c = x1 * z2 := ⟨_, rfl⟩
  obtain ⟨c5, hc5⟩ : ∃ c, c = (EC.fdE y1 z1) * (EC.fdT x1 y1 z1) := ⟨_, rfl⟩
  obtain ⟨c6, hc6⟩ : ∃ c, c = (EC.fdD x1) * (x1 * ((EC.fdE y1 z1) * (EC.fdE y1 z1)) - (EC.fdT x1 y1 z1)) - y1 * ((EC.fdE y1 z1) * (EC.fdE y1 z1) * (EC.fdE y1 z1)) := ⟨_, rfl⟩
  obtain ⟨c7, hc7⟩ : ∃ c, c = (EC.fdE y1 z1) * (EC.fdE y1 z1) * (EC.fdE y1 z1) * z1 := ⟨_, rfl⟩
  have hfin : ((rv c5 c6 c7) : Value) = (rv ((EC.fdE y1 z1) * (EC.fdT x1 y1 z1)) ((EC.fdD x1) * (x1 * ((EC.fdE y1 z1) * (EC.fdE y1 z1)) - (EC.fdT x1 y1 z1)) - y1 * ((EC.fdE y1 z1) * (EC.fdE y1 z1) * (EC.fdE y1 z1))) ((EC.fdE y1 z1) * (EC.fdE y1 z1) * (EC.fdE y1 z1) * z1)) := by
    subst_vars; rfl
  rw [← hfin]
  go_enter Tryz.func32, Tryz.ntmps32
  refine RG.M.enter [(0, (.v (rv x1 y1 z1))), (1, (.v (rv x2 y2 z2)))] 127 (by kernel_rfl) ?_
  intro a0 M0
  repeat refine wp_seq ?_
  refine M0.tx F39d_0 [(0, (ws x1 ++ (ws y1 ++ (ws z1)))), (1, (ws x2 ++ (ws y2 ++ (ws z2)))), (2, (RG.z 12))] [] [(ws x1 ++ (ws y1 ++ (ws z1))), (ws x2 ++ (ws y2 ++ (ws z2))), (RG.z 12)] [(2, (.p 0 0)), (3, (.p 1 0)), (4, (.p 2 0))] (by kernel_rfl) (by kernel_rfl) ⟨RG.mk 0 34 fun _ _ => by kernel_rfl, RG.mk 1 34 fun _ _ => by kernel_rfl, RG.mk 2 34 fun _ _ => by kernel_rfl, trivial⟩ ?_
  intro j1 i1 m1 a1 w1 M1
  repeat refine wp_seq ?_
  refine M1.tx0 (F39d_1 x1 y1 z1) [(2, (.p 0 0)), (3, (.p 1 0)), (4, (.p 2 0)), (5, (.v (.bool false)))] (by kernel_rfl) ⟨RG.ld u56 i56 (by kernel_rfl), RG.cl (Is_f_c C x1 y1 z1 hz1) fun _ _ => by kernel_rfl, RG.st fun _ _ => by kernel_rfl, trivial⟩ ?_
  intro a2 w2 M2
  repeat refine wp_seq ?_
  refine M2.tx0 F39d_2 [(2, (.p 0 0)), (3, (.p 1 0)), (4, (.p 2 0)), (5, (.v (.bool false))), (18, (.v (.bool false)))] (by kernel_rfl) ⟨RG.st fun _ _ => by kernel_rfl, trivial⟩ ?_
  intro a3 w3 M3
  repeat refine wp_seq ?_
  refine wp_cond_false (M3.ev (by kernel_rfl)) ?_
  refine wp_skip ?_
  repeat refine wp_seq ?_
  refine M3.tx0 (F39d_4 x2 y2 z2) [(2, (.p 0 0)), (3, (.p 1 0)), (4, (.p 2 0)), (5, (.v (.bool false)))] (by kernel_rfl) ⟨RG.ld u56 i56 (by kernel_rfl), RG.cl (Is_f_c C x2 y2 z2 hz2) fun _ _ => by kernel_rfl, RG.st fun _ _ => by kernel_rfl, trivial⟩ ?_
  intro a4 w4 M4
  repeat refine wp_seq ?_
  refine M4.tx0 F39d_5 [(2, (.p 0 0)), (3, (.p 1 0)), (4, (.p 2 0)), (22, (.v (.bool false)))] (by kernel_rfl) ⟨RG.st fun _ _ => by kernel_rfl, trivial⟩ ?_
  intro a5 w5 M5
  repeat refine wp_seq ?_
  refine wp_cond_false (M5.ev (by kernel_rfl)) ?_
  refine wp_skip ?_
  repeat refine wp_seq ?_
  refine M5.dr (by kernel_rfl) (F39d_7 z1 y2 c1) [(6, (RG.z 4))] [(3, 7, (ws c1))] [(ws x1 ++ (ws y1 ++ (ws z1))), (ws x2 ++ (ws y2 ++ (ws z2))), (RG.z 12), (ws c1)] [(2, (.p 0 0)), (3, (.p 1 0)), (4, (.p 2 0)), (6, (.p 3 0))] (by kernel_rfl) (by kernel_rfl) ⟨RG.cl (F3_c) fun _ _ => by kernel_rfl, RG.st fun _ _ => by kernel_rfl, RG.ld u33 i33 (by kernel_rfl), RG.st fun _ _ => by kernel_rfl, RG.ld u33 i33 (by kernel_rfl), RG.cl ((rMul_c C y2 z1).e hc1) fun _ _ => by kernel_rfl, RG.mk 3 32 fun _ _ => by kernel_rfl, RG.pt i33 (by kernel_rfl), trivial⟩ ?_
  intro j6 a6 w6 M6
  repeat refine wp_seq ?_
  refine M6.dr (by kernel_rfl) (F39d_8 z1 x2 c2) [(6, (RG.z 4))] [(4, 7, (ws c2))] [(ws x1 ++ (ws y1 ++ (ws z1))), (ws x2 ++ (ws y2 ++ (ws z2))), (RG.z 12), (ws c1), (ws c2)] [(2, (.p 0 0)), (3, (.p 1 0)), (4, (.p 2 0)), (6, (.p 3 0)), (7, (.p 4 0))] (by kernel_rfl) (by kernel_rfl) ⟨RG.cl (F3_c) fun _ _ => by kernel_rfl, RG.st fun _ _ => by kernel_rfl, RG.ld u33 i33 (by kernel_rfl), RG.st fun _ _ => by kernel_rfl, RG.ld u33 i33 (by kernel_rfl), RG.cl ((rMul_c C x2 z1).e hc2) fun _ _ => by kernel_rfl, RG.mk 4 32 fun _ _ => by kernel_rfl, RG.pt i33 (by kernel_rfl), trivial⟩ ?_
  intro j7 a7 w7 M7
  repeat refine wp_seq ?_
  refine M7.dr (by kernel_rfl) (F39d_9 y1 z2 c3) [(6, (RG.z 4))] [(5, 7, (ws c3))] [(ws x1 ++ (ws y1 ++ (ws z1))), (ws x2 ++ (ws y2 ++ (ws z2))), (RG.z 12), (ws c1), (ws c2), (ws c3)] [(2, (.p 0 0)), (3, (.p 1 0)), (4, (.p 2 0)), (6, (.p 3 0)), (7, (.p 4 0)), (8, (.p 5 0))] (by kernel_rfl) (by kernel_rfl) ⟨RG.cl (F3_c) fun _ _ => by kernel_rfl, RG.st fun _ _ => by kernel_rfl, RG.ld u33 i33 (by kernel_rfl), RG.st fun _ _ => by kernel_rfl, RG.ld u33 i33 (by kernel_rfl), RG.cl ((rMul_c C y1 z2).e hc3) fun _ _ => by kernel_rfl, RG.mk 5 32 fun _ _ => by kernel_rfl, RG.pt i33 (by kernel_rfl), trivial⟩ ?_
  intro j8 a8 w8 M8
  repeat refine wp_seq ?_
  refine M8.dr (by kernel_rfl) (F39d_10 x1 z2 c4) [(6, (RG.z 4))] [(6, 7, (ws c4))] [(ws x1 ++ (ws y1 ++ (ws z1))), (ws x2 ++ (ws y2 ++ (ws z2))), (RG.z 12), (ws c1), (ws c2), (ws c3), (ws c4)] [(2, (.p 0 0)), (4, (.p 2 0)), (6, (.p 3 0)), (7, (.p 4 0)), (8, (.p 5 0)), (9, (.p 6 0))] (by kernel_rfl) (by kernel_rfl) ⟨RG.cl (F3_c) fun _ _ => by kernel_rfl, RG.st fun _ _ => by kernel_rfl, RG.ld u33 i33 (by kernel_rfl), RG.st fun _ _ => by kernel_rfl, RG.ld u33 i33 (by kernel_rfl), RG.cl ((rMul_c C x1 z2).e hc4) fun _ _ => by kernel_rfl, RG.mk 6 32 fun _ _ => by kernel_rfl, RG.pt i33 (by kernel_rfl), trivial⟩ ?_
  intro j9 a9 w9 M9
  repeat refine wp_seq ?_
  refine M9.tx0 (F39d_11 c2 c4) [(2, (.p 0 0)), (4, (.p 2 0)), (6, (.p 3 0)), (8, (.p 5 0)), (50, (.v (.bool true)))] (by kernel_rfl) ⟨RG.ld u33 i33 (by kernel_rfl), RG.ld u33 i33 (by kernel_rfl), RG.cert_bin rfl .eql 32 32 48 49 (fv c2) (fv c4) (.bool true) rfl rfl (RG.sx fun _ => by kernel_rfl) (RG.sx fun _ => by kernel_rfl) (fun w => by kernel_rfl) (eqR_t C.toFld (by subst_vars; exact hv)), trivial⟩ ?_
  intro a10 w10 M10
  repeat refine wp_seq ?_
  refine wp_cond_true (M10.ev (by kernel_rfl)) ?_
  repeat refine wp_seq ?_
  refine M10.tx0 (F39d_12 c1 c3) [(2, (.p 0 0)), (4, (.p 2 0)), (57, (.v (.bool false)))] (by kernel_rfl) ⟨RG.ld u33 i33 (by kernel_rfl), RG.ld u33 i33 (by kernel_rfl), RG.cert_bin rfl .neq 32 32 51 52 (fv c1) (fv c3) (.bool false) rfl rfl (RG.sx fun _ => by kernel_rfl) (RG.sx fun _ => by kernel_rfl) (fun w => by kernel_rfl) (neR_f C.toFld (by subst_vars; exact hu)), RG.st fun _ _ => by kernel_rfl, RG.ld u33 i33 (by kernel_rfl), RG.cl (f := 51) (args := #[(fv c1)]) (v := (.bool false)) (rZero_f C (by subst_vars; exact hn)) fun _ _ => by kernel_rfl, RG.st fun _ _ => by kernel_rfl, trivial⟩ ?_
  intro a11 w11 M11
  repeat refine wp_seq ?_
  refine wp_cond_false (M11.ev (by kernel_rfl)) ?_
  refine wp_skip ?_
  repeat refine wp_seq ?_
  refine M11.tx (F39d_14 x1 y1 z1 c5 c6 c7) [] [(2, 2, (ws c5 ++ (ws c6 ++ (ws c7))))] [(ws x1 ++ (ws y1 ++ (ws z1))), (ws x2 ++ (ws y2 ++ (ws z2))), (ws c5 ++ (ws c6 ++ (ws c7))), (ws c1), (ws c2), (ws c3), (ws c4)] [(4, (.p 2 0))] (by kernel_rfl) (by kernel_rfl) ⟨RG.ld u56 i56 (by kernel_rfl), RG.cl ((rdouble_c C x1 y1 z1).e3 hc5 hc6 hc7) fun _ _ => by kernel_rfl, RG.pt i56 (by kernel_rfl), trivial⟩ ?_
  intro a12 w12 M12
  refine wp_ret ?_
  refine bodyPost_ret (v := (rv c5 c6 c7)) (RG.results_row M12.st 4 34 rfl 2 _ rfl (M12.at (s := (.p 2 0)) (by kernel_rfl)) u56 i56) M12.sl.defers ?_
  exact ⟨_, rfl, M12.st.bel.below, rfl⟩
def F39e_0 : List RG.It := [.m 2 [] 0, .m 3 [] 1, .m 4 [] 2]
def F39e_1 (x1 y1 z1 : Fin P) : List RG.It := [.x 16 [] (rv x1 y1 z1), .c 17 [(16, 0)] (.bool false), .x 5 [(17, 1)] (.bool false)]
def F39e_2 : List RG.It := [.x 18 [] (.bool false)]
def F39e_4 (x2 y2 z2 : Fin P) : List RG.It := [.x 20 [] (rv x2 y2 z2), .c 21 [(20, 0)] (.bool false), .x 5 [(21, 1)] (.bool false)]
def F39e_5 : List RG.It := [.x 22 [] (.bool false)]
def F39e_7 (z1 y2 c1 : Fin P) : List RG.It := [.c 24 [] rv0, .s 25 [] (.p 1 4), .x 26 [(25, 1)] (fv y2), .s 27 [] (.p 0 8), .x 28 [(27, 3)] (fv z1), .c 29 [(24, 0), (26, 2), (28, 4)] (fv c1), .m 6 [] 3, .u [(6, 6), (29, 5)] 3]
def F39e_8 (z1 x2 c2 : Fin P) : List RG.It := [.c 30 [] rv0, .s 31 [] (.p 1 0), .x 32 [(31, 1)] (fv x2), .s 33 [] (.p 0 8), .x 34 [(33, 3)] (fv z1), .c 35 [(30, 0), (32, 2), (34, 4)] (fv c2), .m 7 [] 4, .u [(7, 6), (35, 5)] 4]
def F39e_9 (y1 z2 c3 : Fin P) : List RG.It := [.c 36 [] rv0, .s 37 [] (.p 0 4), .x 38 [(37, 1)] (fv y1), .s 39 [] (.p 1 8), .x 40 [(39, 3)] (fv z2), .c 41 [(36, 0), (38, 2), (40, 4)] (fv c3), .m 8 [] 5, .u [(8, 6), (41, 5)] 5]
def F39e_10 (x1 z2 c4 : Fin P) : List RG.It := [.c 42 [] rv0, .s 43 [] (.p 0 0), .x 44 [(43, 1)] (fv x1), .s 45 [] (.p 1 8), .x 46 [(45, 3)] (fv z2), .c 47 [(42, 0), (44, 2), (46, 4)] (fv c4), .m 9 [] 6, .u [(9, 6), (47, 5)] 6]
def F39e_11 (c2 c4 : Fin P) : List RG.It := [.x 48 [] (fv c2), .x 49 [] (fv c4), .x 50 [(48, 0), (49, 1)] (.bool false)]
def F39e_15 (c1 c3 c5 : Fin P) : List RG.It := [.c 61 [] rv0, .x 62 [] (fv c1), .x 63 [] (fv c3), .c 64 [(61, 0), (62, 1), (63, 2)] (fv c5), .m 10 [] 7, .u [(10, 4), (64, 3)] 7]
def F39e_16 (c2 c4 c6 : Fin P) : List RG.It := [.c 65 [] rv0, .x 66 [] (fv c2), .x 67 [] (fv c4), .c 68 [(65, 0), (66, 1), (67, 2)] (fv c6), .m 11 [] 8, .u [(11, 4), (68, 3)] 8]
def F39e_17 (z1 z2 c7 : Fin P) : List RG.It := [.c 69 [] rv0, .s 70 [] (.p 0 8), .x 71 [(70, 1)] (fv z1), .s 72 [] (.p 1 8), .x 73 [(72, 3)] (fv z2), .c 74 [(69, 0), (71, 2), (73, 4)] (fv c7), .m 12 [] 9, .u [(12, 6), (74, 5)] 9]
def F39e_18 (c6 c8 : Fin P) : List RG.It := [.c 75 [] rv0, .x 76 [] (fv c6), .x 77 [] (fv c6), .c 78 [(75, 0), (76, 1), (77, 2)] (fv c8), .m 13 [] 10, .u [(13, 4), (78, 3)] 10]
def F39e_19 (c6 c8 c9 : Fin P) : List RG.It := [.c 79 [] rv0, .x 80 [] (fv c8), .x 81 [] (fv c6), .c 82 [(79, 0), (80, 1), (81, 2)] (fv c9), .m 14 [] 11, .u [(14, 4), (82, 3)] 11]
def F39e_20 (c4 c5 c7 c8 c9 c10 c11 c12 c13 c14 c15 : Fin P) : List RG.It := [.c 83 [] rv0, .c 84 [] rv0, .c 85 [] rv0, .c 86 [] rv0, .x 87 [] (fv c5), .x 88 [] (fv c5), .c 89 [(86, 3), (87, 4), (88, 5)] (fv c10), .x 90 [] (fv c7), .c 91 [(85, 2), (89, 6), (90, 7)] (fv c11), .x 92 [] (fv c9), .c 93 [(84, 1), (91, 8), (92, 9)] (fv c12), .c 94 [] rv0, .c 95 [] rv0, .x 96 [] (fv c4), .x 97 [] (fv c4), .c 98 [(95, 12), (96, 13), (97, 14)] (fv c13), .x 99 [] (fv c8), .c 100 [(94, 11), (98, 15), (99, 16)] (fv c14), .c 101 [(83, 0), (93, 10), (100, 17)] (fv c15), .m 15 [] 12, .u [(15, 19), (101, 18)] 12]
def F39e_21 (c3 c4 c5 c6 c7 c8 c9 c15 c16 c17 c18 c19 c20 c21 c22 : Fin P) : List RG.It := [.c 102 [] rv0, .x 103 [] (fv c6), .x 104 [] (fv c15), .c 105 [(102, 0), (103, 1), (104, 2)] (fv c16), .c 106 [] rv0, .c 107 [] rv0, .x 108 [] (fv c5), .c 109 [] rv0, .c 110 [] rv0, .x 111 [] (fv c4), .x 112 [] (fv c8), .c 113 [(110, 8), (111, 9), (112, 10)] (fv c17), .x 114 [] (fv c15), .c 115 [(109, 7), (113, 11), (114, 12)] (fv c18), .c 116 [(107, 5), (108, 6), (115, 13)] (fv c19), .c 117 [] rv0, .x 118 [] (fv c3), .x 119 [] (fv c9), .c 120 [(117, 15), (118, 16), (119, 17)] (fv c20), .c 121 [(106, 4), (116, 14), (120, 18)] (fv c21), .c 122 [] rv0, .x 123 [] (fv c9), .x 124 [] (fv c7), .c 125 [(122, 20), (123, 21), (124, 22)] (fv c22), .x 126 [(105, 3), (121, 19), (125, 23)] (rv c16 c21 c22), .u [(126, 24)] 2]
set_option maxHeartbeats 2000000 in
set_option maxRecDepth 100000 in
theorem rPlus_e_c (C : Fl3 P) (x1 y1 z1 x2 y2 z2 : Fin P)(hz1 : ¬ z1 = 0) (hz2 : ¬ z2 = 0) (hv : ¬ x2 * z1 = x1 * z2)  : Gives 32 #[(rv x1 y1 z1), (rv x2 y2 z2)] (rv ((x2 * z1 - x1 * z2) * EC.frT (y2 * z1 - y1 * z2) (x2 * z1 - x1 * z2) (z1 * z2) (x1 * z2)) ((y2 * z1 - y1 * z2) * (x1 * z2 * ((x2 * z1 - x1 * z2) * (x2 * z1 - x1 * z2)) - EC.frT (y2 * z1 - y1 * z2) (x2 * z1 - x1 * z2) (z1 * z2) (x1 * z2)) - y1 * z2 * ((x2 * z1 - x1 * z2) * (x2 * z1 - x1 * z2) * (x2 * z1 - x1 * z2))) ((x2 * z1 - x1 * z2) * (x2 * z1 - x1 * z2) * (x2 * z1 - x1 * z2) * (z1 * z2))) := by
  intro w
  obtain ⟨c1, hc1⟩ : ∃ c, c = y2 * z1 := ⟨_, rfl⟩
  obtain ⟨c2, hc2⟩ : ∃ c, c = x2 * z1 := ⟨_, rfl⟩
  obtain ⟨c3, hc3⟩ : ∃ c, c = y1 * z2 := ⟨_, rfl⟩
  obtain ⟨c4, hc4⟩ : ∃ c, c = x1 * z2 := ⟨_, rfl⟩
  obtain ⟨c5, hc5⟩ : ∃ c, c = c1 - c3 := ⟨_, rfl⟩
  obtain ⟨c6, hc6⟩ : ∃ c, c = c2 - c4 := ⟨_, rfl⟩
  obtain ⟨c7, hc7⟩ : ∃ c, c = z1 * z2 := ⟨_, rfl⟩
  obtain ⟨c8, hc8⟩ : ∃ c, c = c6 * c6 := ⟨_, rfl⟩
  obtain ⟨c9, hc9⟩ : ∃ c, c = c8 * c6 := ⟨_, rfl⟩
  obtain ⟨c10, hc10⟩ : ∃ c, c = c5 * c5 := ⟨_, rfl⟩
  obtain ⟨c11, hc11⟩ : ∃ c, c = c10 * c7 := ⟨_, rfl⟩
  obtain ⟨c12, hc12⟩ : ∃ c, c = c11 - c9 := ⟨_, rfl⟩
  obtain ⟨c13, hc13⟩ : ∃ c, c = c4 + c4 := ⟨_, rfl⟩
  obtain ⟨c14, hc14⟩ : ∃ c, c = c13 * c8 := ⟨_, rfl⟩
  obtain ⟨c15, hc15⟩ : ∃ c, c = c12 - c14 := ⟨_, rfl⟩
  obtain ⟨c16, hc16⟩ : ∃ c, c = c6 * c15 := ⟨_, rfl⟩
  obtain ⟨c17, hc17⟩ : ∃ c, c = c4 * c8 := ⟨_, rfl⟩
  obtain ⟨c18, hc18⟩ : ∃ c, c = c17 - c15 := ⟨_, rfl⟩
  obtain ⟨c19, hc19⟩ : ∃ c, c = c5 * c18 := ⟨_, rfl⟩
  obtain ⟨c20, hc20⟩ : ∃ c, c = c3 * c9 := ⟨_, rfl⟩
  obtain ⟨c21, hc21⟩ : ∃ c, c = c19 - c20 := ⟨_, rfl⟩
  obtain ⟨c22, hc22⟩ : ∃ c, c = c9 * c7 := ⟨_, rfl⟩
  have hfin : ((rv c16 c21 c22) : Value) = (rv ((x2 * z1 - x1 * z2) * EC.frT (y2 * z1 - y1 * z2) (x2 * z1 - x1 * z2) (z1 * z2) (x1 * z2)) ((y2 * z1 - y1 * z2) * (x1 * z2 * ((x2 * z1 - x1 * z2) * (x2 * z1 - x1 * z2)) - EC.frT (y2 * z1 - y1 * z2) (x2 * z1 - x1 * z2) (z1 * z2) (x1 * z2)) - y1 * z2 * ((x2 * z1 - x1 * z2) * (x2 * z1 - x1 * z2) * (x2 * z1 - x1 * z2))) ((x2 * z1 - x1 * z2) * (x2 * z1 - x1 * z2) * (x2 * z1 - x1 * z2) * (z1 * z2))) := by
    subst_vars; rfl
  rw [← hfin]
  go_enter Tryz.func32, Tryz.ntmps32
  refine RG.M.enter [(0, (.v (rv x1 y1 z1))), (1, (.v (rv x2 y2 z2)))] 127 (by kernel_rfl) ?_
  intro a0 M0
  repeat refine wp_seq ?_
  refine M0.tx F39e_0 [(0, (ws x1 ++ (ws y1 ++ (ws z1)))), (1, (ws x2 ++ (ws y2 ++ (ws z2)))), (2, (RG.z 12))] [] [(ws x1 ++ (ws y1 ++ (ws z1))), (ws x2 ++ (ws y2 ++ (ws z2))), (RG.z 12)] [(2, (.p 0 0)), (3, (.p 1 0)), (4, (.p 2 0))] (by kernel_rfl) (by kernel_rfl) ⟨RG.mk 0 34 fun _ _ => by kernel_rfl, RG.mk 1 34 fun _ _ => by kernel_rfl, RG.mk 2 34 fun _ _ => by kernel_rfl, trivial⟩ ?_
  intro j1 i1 m1 a1 w1 M1
  repeat refine wp_seq ?_
  refine M1.tx0 (F39e_1 x1 y1 z1) [(2, (.p 0 0)), (3, (.p 1 0)), (4, (.p 2 0)), (5, (.v (.bool false)))] (by kernel_rfl) ⟨RG.ld u56 i56 (by kernel_rfl), RG.cl (Is_f_c C x1 y1 z1 hz1) fun _ _ => by kernel_rfl, RG.st fun _ _ => by kernel_rfl, trivial⟩ ?_
  intro a2 w2 M2
  repeat refine wp_seq ?_
  refine M2.tx0 F39e_2 [(2, (.p 0 0)), (3, (.p 1 0)), (4, (.p 2 0)), (5, (.v (.bool false))), (18, (.v (.bool false)))] (by kernel_rfl) ⟨RG.st fun _ _ => by kernel_rfl, trivial⟩ ?_
  intro a3 w3 M3
  repeat refine wp_seq ?_
  refine wp_cond_false (M3.ev (by kernel_rfl)) ?_
  refine wp_skip ?_
  repeat refine wp_seq ?_
  refine M3.tx0 (F39e_4 x2 y2 z2) [(2, (.p 0 0)), (3, (.p 1 0)), (4, (.p 2 0)), (5, (.v (.bool false)))] (by kernel_rfl) ⟨RG.ld u56 i56 (by kernel_rfl), RG.cl (Is_f_c C x2 y2 z2 hz2) fun _ _ => by kernel_rfl, RG.st fun _ _ => by kernel_rfl, trivial⟩ ?_
  intro a4 w4 M4
  repeat refine wp_seq ?_
  refine M4.tx0 F39e_5 [(2, (.p 0 0)), (3, (.p 1 0)), (4, (.p 2 0)), (22, (.v (.bool false)))] (by kernel_rfl) ⟨RG.st fun _ _ => by kernel_rfl, trivial⟩ ?_
  intro a5 w5 M5
  repeat refine wp_seq ?_
  refine wp_cond_false (M5.ev (by kernel_rfl)) ?_
  refine wp_skip ?_
  repeat refine wp_seq ?_
  refine M5.dr (by kernel_rfl) (F39e_7 z1 y2 c1) [(6, (RG.z 4))] [(3, 7, (ws c1))] [(ws x1 ++ (ws y1 ++ (ws z1))), (ws x2 ++ (ws y2 ++ (ws z2))), (RG.z 12), (ws c1)] [(2, (.p 0 0)), (3, (.p 1 0)), (4, (.p 2 0)), (6, (.p 3 0))] (by kernel_rfl) (by kernel_rfl) ⟨RG.cl (F3_c) fun _ _ => by kernel_rfl, RG.st fun _ _ => by kernel_rfl, RG.ld u33 i33 (by kernel_rfl), RG.st fun _ _ => by kernel_rfl, RG.ld u33 i33 (by kernel_rfl), RG.cl ((rMul_c C y2 z1).e hc1) fun _ _ => by kernel_rfl, RG.mk 3 32 fun _ _ => by kernel_rfl, RG.pt i33 (by kernel_rfl), trivial⟩ ?_
  intro j6 a6 w6 M6
  repeat refine wp_seq ?_
  refine M6.dr (by kernel_rfl) (F39e_8 z1 x2 c2) [(6, (RG.z 4))] [(4, 7, (ws c2))] [(ws x1 ++ (ws y1 ++ (ws z1))), (ws x2 ++ (ws y2 ++ (ws z2))), (RG.z 12), (ws c1), (ws c2)] [(2, (.p 0 0)), (3, (.p 1 0)), (4, (.p 2 0)), (6, (.p 3 0)), (7, (.p 4 0))] (by kernel_rfl) (by kernel_rfl) ⟨RG.cl (F3_c) fun _ _ => by kernel_rfl, RG.st fun _ _ => by kernel_rfl, RG.ld u33 i33 (by kernel_rfl), RG.st fun _ _ => by kernel_rfl, RG.ld u33 i33 (by kernel_rfl), RG.cl ((rMul_c C x2 z1).e hc2) fun _ _ => by kernel_rfl, RG.mk 4 32 fun _ _ => by kernel_rfl, RG.pt i33 (by kernel_rfl), trivial⟩ ?_
  intro j7 a7 w7 M7
  repeat refine wp_seq ?_
  refine M7.dr (by kernel_rfl) (F39e_9 y1 z2 c3) [(6, (RG.z 4))] [(5, 7, (ws c3))] [(ws x1 ++ (ws y1 ++ (ws z1))), (ws x2 ++ (ws y2 ++ (ws z2))), (RG.z 12), (ws c1), (ws c2), (ws c3)] [(2, (.p 0 0)), (3, (.p 1 0)), (4, (.p 2 0)), (6, (.p 3 0)), (7, (.p 4 0)), (8, (.p 5 0))] (by kernel_rfl) (by kernel_rfl) ⟨RG.cl (F3_c) fun _ _ => by kernel_rfl, RG.st fun _ _ => by kernel_rfl, RG.ld u33 i33 (by kernel_rfl), RG.st fun _ _ => by kernel_rfl, RG.ld u33 i33 (by kernel_rfl), RG.cl ((rMul_c C y1 z2).e hc3) fun _ _ => by kernel_rfl, RG.mk 5 32 fun _ _ => by kernel_rfl, RG.pt i33 (by kernel_rfl), trivial⟩ ?_
  intro j8 a8 w8 M8
  repeat refine wp_seq ?_
  refine M8.dr (by kernel_rfl) (F39e_10 x1 z2 c4) [(6, (RG.z 4))] [(6, 7, (ws c4))] [(ws x1 ++ (ws y1 ++ (ws z1))), (ws x2 ++ (ws y2 ++ (ws z2))), (RG.z 12), (ws c1), (ws c2), (ws c3), (ws c4)] [(2, (.p 0 0)), (3, (.p 1 0)), (4, (.p 2 0)), (6, (.p 3 0)), (7, (.p 4 0)), (8, (.p 5 0)), (9, (.p 6 0))] (by kernel_rfl) (by kernel_rfl) ⟨RG.cl (F3_c) fun _ _ => by kernel_rfl, RG.st fun _ _ => by kernel_rfl, RG.ld u33 i33 (by kernel_rfl), RG.st fun _ _ => by kernel_rfl, RG.ld u33 i33 (by kernel_rfl), RG.cl ((rMul_c C x1 z2).e hc4) fun _ _ => by kernel_rfl, RG.mk 6 32 fun _ _ => by kernel_rfl, RG.pt i33 (by kernel_rfl), trivial⟩ ?_
  intro j9 a9 w9 M9
  repeat refine wp_seq ?_
  refine M9.tx0 (F39e_11 c2 c4) [(2, (.p 0 0)), (3, (.p 1 0)), (4, (.p 2 0)), (6, (.p 3 0)), (7, (.p 4 0)), (8, (.p 5 0)), (9, (.p 6 0)), (50, (.v (.bool false)))] (by kernel_rfl) ⟨RG.ld u33 i33 (by kernel_rfl), RG.ld u33 i33 (by kernel_rfl), RG.cert_bin rfl .eql 32 32 48 49 (fv c2) (fv c4) (.bool false) rfl rfl (RG.sx fun _ => by kernel_rfl) (RG.sx fun _ => by kernel_rfl) (fun w => by kernel_rfl) (eqR_f C.toFld (by subst_vars; exact hv)), trivial⟩ ?_
  intro a10 w10 M10
  repeat refine wp_seq ?_
  refine wp_cond_false (M10.ev (by kernel_rfl)) ?_
  refine wp_skip ?_
  repeat refine wp_seq ?_
  refine M10.dr (by kernel_rfl) (F39e_15 c1 c3 c5) [(4, (RG.z 4))] [(7, 5, (ws c5))] [(ws x1 ++ (ws y1 ++ (ws z1))), (ws x2 ++ (ws y2 ++ (ws z2))), (RG.z 12), (ws c1), (ws c2), (ws c3), (ws c4), (ws c5)] [(2, (.p 0 0)), (3, (.p 1 0)), (4, (.p 2 0)), (7, (.p 4 0)), (8, (.p 5 0)), (9, (.p 6 0)), (10, (.p 7 0))] (by kernel_rfl) (by kernel_rfl) ⟨RG.cl (F3_c) fun _ _ => by kernel_rfl, RG.ld u33 i33 (by kernel_rfl), RG.ld u33 i33 (by kernel_rfl), RG.cl ((rSub_c C c1 c3).e hc5) fun _ _ => by kernel_rfl, RG.mk 7 32 fun _ _ => by kernel_rfl, RG.pt i33 (by kernel_rfl), trivial⟩ ?_
  intro j11 a11 w11 M11
  repeat refine wp_seq ?_
  refine M11.dr (by kernel_rfl) (F39e_16 c2 c4 c6) [(4, (RG.z 4))] [(8, 5, (ws c6))] [(ws x1 ++ (ws y1 ++ (ws z1))), (ws x2 ++ (ws y2 ++ (ws z2))), (RG.z 12), (ws c1), (ws c2), (ws c3), (ws c4), (ws c5), (ws c6)] [(2, (.p 0 0)), (3, (.p 1 0)), (4, (.p 2 0)), (8, (.p 5 0)), (9, (.p 6 0)), (10, (.p 7 0)), (11, (.p 8 0))] (by kernel_rfl) (by kernel_rfl) ⟨RG.cl (F3_c) fun _ _ => by kernel_rfl, RG.ld u33 i33 (by kernel_rfl), RG.ld u33 i33 (by kernel_rfl), RG.cl ((rSub_c C c2 c4).e hc6) fun _ _ => by kernel_rfl, RG.mk 8 32 fun _ _ => by kernel_rfl, RG.pt i33 (by kernel_rfl), trivial⟩ ?_
  intro j12 a12 w12 M12
  repeat refine wp_seq ?_
  refine M12.dr (by kernel_rfl) (F39e_17 z1 z2 c7) [(6, (RG.z 4))] [(9, 7, (ws c7))] [(ws x1 ++ (ws y1 ++ (ws z1))), (ws x2 ++ (ws y2 ++ (ws z2))), (RG.z 12), (ws c1), (ws c2), (ws c3), (ws c4), (ws c5), (ws c6), (ws c7)] [(4, (.p 2 0)), (8, (.p 5 0)), (9, (.p 6 0)), (10, (.p 7 0)), (11, (.p 8 0)), (12, (.p 9 0))] (by kernel_rfl) (by kernel_rfl) ⟨RG.cl (F3_c) fun _ _ => by kernel_rfl, RG.st fun _ _ => by kernel_rfl, RG.ld u33 i33 (by kernel_rfl), RG.st fun _ _ => by kernel_rfl, RG.ld u33 i33 (by kernel_rfl), RG.cl ((rMul_c C z1 z2).e hc7) fun _ _ => by kernel_rfl, RG.mk 9 32 fun _ _ => by kernel_rfl, RG.pt i33 (by kernel_rfl), trivial⟩ ?_
  intro j13 a13 w13 M13
  repeat refine wp_seq ?_
  refine M13.dr (by kernel_rfl) (F39e_18 c6 c8) [(4, (RG.z 4))] [(10, 5, (ws c8))] [(ws x1 ++ (ws y1 ++ (ws z1))), (ws x2 ++ (ws y2 ++ (ws z2))), (RG.z 12), (ws c1), (ws c2), (ws c3), (ws c4), (ws c5), (ws c6), (ws c7), (ws c8)] [(4, (.p 2 0)), (8, (.p 5 0)), (9, (.p 6 0)), (10, (.p 7 0)), (11, (.p 8 0)), (12, (.p 9 0)), (13, (.p 10 0))] (by kernel_rfl) (by kernel_rfl) ⟨RG.cl (F3_c) fun _ _ => by kernel_rfl, RG.ld u33 i33 (by kernel_rfl), RG.ld u33 i33 (by kernel_rfl), RG.cl ((rMul_c C c6 c6).e hc8) fun _ _ => by kernel_rfl, RG.mk 10 32 fun _ _ => by kernel_rfl, RG.pt i33 (by kernel_rfl), trivial⟩ ?_
  intro j14 a14 w14 M14
  repeat refine wp_seq ?_
  refine M14.dr (by kernel_rfl) (F39e_19 c6 c8 c9) [(4, (RG.z 4))] [(11, 5, (ws c9))] [(ws x1 ++ (ws y1 ++ (ws z1))), (ws x2 ++ (ws y2 ++ (ws z2))), (RG.z 12), (ws c1), (ws c2), (ws c3), (ws c4), (ws c5), (ws c6), (ws c7), (ws c8), (ws c9)] [(4, (.p 2 0)), (8, (.p 5 0)), (9, (.p 6 0)), (10, (.p 7 0)), (11, (.p 8 0)), (12, (.p 9 0)), (13, (.p 10 0)), (14, (.p 11 0))] (by kernel_rfl) (by kernel_rfl) ⟨RG.cl (F3_c) fun _ _ => by kernel_rfl, RG.ld u33 i33 (by kernel_rfl), RG.ld u33 i33 (by kernel_rfl), RG.cl ((rMul_c C c8 c6).e hc9) fun _ _ => by kernel_rfl, RG.mk 11 32 fun _ _ => by kernel_rfl, RG.pt i33 (by kernel_rfl), trivial⟩ ?_
  intro j15 a15 w15 M15
  repeat refine wp_seq ?_
  refine M15.dr (by kernel_rfl) (F39e_20 c4 c5 c7 c8 c9 c10 c11 c12 c13 c14 c15) [(19, (RG.z 4))] [(12, 20, (ws c15))] [(ws x1 ++ (ws y1 ++ (ws z1))), (ws x2 ++ (ws y2 ++ (ws z2))), (RG.z 12), (ws c1), (ws c2), (ws c3), (ws c4), (ws c5), (ws c6), (ws c7), (ws c8), (ws c9), (ws c15)] [(4, (.p 2 0)), (8, (.p 5 0)), (9, (.p 6 0)), (10, (.p 7 0)), (11, (.p 8 0)), (12, (.p 9 0)), (13, (.p 10 0)), (14, (.p 11 0)), (15, (.p 12 0))] (by kernel_rfl) (by kernel_rfl) ⟨RG.cl (F3_c) fun _ _ => by kernel_rfl, RG.cl (F3_c) fun _ _ => by kernel_rfl, RG.cl (F3_c) fun _ _ => by kernel_rfl, RG.cl (F3_c) fun _ _ => by kernel_rfl, RG.ld u33 i33 (by kernel_rfl), RG.ld u33 i33 (by kernel_rfl), RG.cl ((rMul_c C c5 c5).e hc10) fun _ _ => by kernel_rfl, RG.ld u33 i33 (by kernel_rfl), RG.cl ((rMul_c C c10 c7).e hc11) fun _ _ => by kernel_rfl, RG.ld u33 i33 (by kernel_rfl), RG.cl ((rSub_c C c11 c9).e hc12) fun _ _ => by kernel_rfl, RG.cl (F3_c) fun _ _ => by kernel_rfl, RG.cl (F3_c) fun _ _ => by kernel_rfl, RG.ld u33 i33 (by kernel_rfl), RG.ld u33 i33 (by kernel_rfl), RG.cl ((rAdd_c C c4 c4).e hc13) fun _ _ => by kernel_rfl, RG.ld u33 i33 (by kernel_rfl), RG.cl ((rMul_c C c13 c8).e hc14) fun _ _ => by kernel_rfl, RG.cl ((rSub_c C c12 c14).e hc15) fun _ _ => by kernel_rfl, RG.mk 12 32 fun _ _ => by kernel_rfl, RG.pt i33 (by kernel_rfl), trivial⟩ ?_
  intro j16 a16 w16 M16
  repeat refine wp_seq ?_
  refine M16.dr (by kernel_rfl) (F39e_21 c3 c4 c5 c6 c7 c8 c9 c15 c16 c17 c18 c19 c20 c21 c22) [] [(2, 25, (ws c16 ++ (ws c21 ++ (ws c22))))] [(ws x1 ++ (ws y1 ++ (ws z1))), (ws x2 ++ (ws y2 ++ (ws z2))), (ws c16 ++ (ws c21 ++ (ws c22))), (ws c1), (ws c2), (ws c3), (ws c4), (ws c5), (ws c6), (ws c7), (ws c8), (ws c9), (ws c15)] [(4, (.p 2 0))] (by kernel_rfl) (by kernel_rfl) ⟨RG.cl (F3_c) fun _ _ => by kernel_rfl, RG.ld u33 i33 (by kernel_rfl), RG.ld u33 i33 (by kernel_rfl), RG.cl ((rMul_c C c6 c15).e hc16) fun _ _ => by kernel_rfl, RG.cl (F3_c) fun _ _ => by kernel_rfl, RG.cl (F3_c) fun _ _ => by kernel_rfl, RG.ld u33 i33 (by kernel_rfl), RG.cl (F3_c) fun _ _ => by kernel_rfl, RG.cl (F3_c) fun _ _ => by kernel_rfl, RG.ld u33 i33 (by kernel_rfl), RG.ld u33 i33 (by kernel_rfl), RG.cl ((rMul_c C c4 c8).e hc17) fun _ _ => by kernel_rfl, RG.ld u33 i33 (by kernel_rfl), RG.cl ((rSub_c C c17 c15).e hc18) fun _ _ => by kernel_rfl, RG.cl ((rMul_c C c5 c18).e hc19) fun _ _ => by kernel_rfl, RG.cl (F3_c) fun _ _ => by kernel_rfl, RG.ld u33 i33 (by kernel_rfl), RG.ld u33 i33 (by kernel_rfl), RG.cl ((rMul_c C c3 c9).e hc20) fun _ _ => by kernel_rfl, RG.cl ((rSub_c C c19 c20).e hc21) fun _ _ => by kernel_rfl, RG.cl (F3_c) fun _ _ => by kernel_rfl, RG.ld u33 i33 (by kernel_rfl), RG.ld u33 i33 (by kernel_rfl), RG.cl ((rMul_c C c9 c7).e hc22) fun _ _ => by kernel_rfl, RG.st fun _ _ => by kernel_rfl, RG.pt i56 (by kernel_rfl), trivial⟩ ?_
  intro a17 w17 M17
  refine wp_ret ?_
  refine bodyPost_ret (v := (rv c16 c21 c22)) (RG.results_row M17.st 4 34 rfl 2 _ rfl (M17.at (s := (.p 2 0)) (by kernel_rfl)) u56 i56) M17.sl.defers ?_
  exact ⟨_, rfl, M17.st.bel.below, rfl⟩
def F70y_0 (x : Fin P) : List RG.It := [.m 1 [] 0, .m 2 [] 1, .x 3 [] (.bool false)]
def F70y_1 (x y c1 c2 c3 : Fin P) : List RG.It := [.c 7 [] rv0, .c 8 [] rv0, .c 9 [] rv0, .c 10 [] rv0, .x 11 [] (fv x), .x 12 [] (fv x), .c 13 [(10, 3), (11, 4), (12, 5)] (fv c1), .x 14 [] (fv x), .c 15 [(9, 2), (13, 6), (14, 7)] (fv c2), .c 16 [] (fv (7 : Fin P)), .c 17 [(8, 1), (15, 8), (16, 9)] (fv c3), .c 18 [(7, 0), (17, 10)] (.tuple #[(fv y), (.bool true)]), .x 6 [(18, 11)] (.tuple #[(fv y), (.bool true)]), .x 19 [(6, 12)] (fv y), .x 20 [(6, 12)] (.bool true), .m 4 [] 2, .u [(4, 15), (19, 13)] 2, .x 5 [(20, 14)] (.bool true)]
def F70y_2 (x y : Fin P) : List RG.It := [.x 21 [] (fv x), .x 22 [] (fv y), .c 23 [] (fv (1 : Fin P)), .x 24 [(21, 0), (22, 1), (23, 2)] (rv x y (1 : Fin P)), .x 25 [] (.bool true), .u [(24, 3)] 1, .x 3 [(25, 4)] (.bool true)]
set_option maxHeartbeats 2000000 in
set_option maxRecDepth 100000 in
theorem rat_y_c (C : Fl3 P) (x y : Fin P)(hr : rt (x * x * x + 7) = some y)  : Gives 23 #[(fv x)] (.tuple #[rv x y 1, .bool true]) := by
  intro w
  obtain ⟨c1, hc1⟩ : ∃ c, c = x * x := ⟨_, rfl⟩
  obtain ⟨c2, hc2⟩ : ∃ c, c = c1 * x := ⟨_, rfl⟩
  obtain ⟨c3, hc3⟩ : ∃ c, c = c2 + (7 : Fin P) := ⟨_, rfl⟩
  have hfin : ((.tuple #[(rv x y (1 : Fin P)), (.bool true)]) : Value) = (.tuple #[rv x y 1, .bool true]) := by
    subst_vars; rfl
  rw [← hfin]
  go_enter Tryz.func23, Tryz.ntmps23
  refine RG.M.enter [(0, (.v (fv x)))] 26 (by kernel_rfl) ?_
  intro a0 M0
  repeat refine wp_seq ?_
  refine M0.tx (F70y_0 x) [(0, (ws x)), (1, (RG.z 12))] [] [(ws x), (RG.z 12)] [(1, (.p 0 0)), (2, (.p 1 0)), (3, (.v (.bool false)))] (by kernel_rfl) (by kernel_rfl) ⟨RG.mk 0 32 fun _ _ => by kernel_rfl, RG.mk 1 34 fun _ _ => by kernel_rfl, RG.st fun _ _ => by kernel_rfl, trivial⟩ ?_
  intro j1 i1 a1 w1 M1
  repeat refine wp_seq ?_
  refine M1.dr (by kernel_rfl) (F70y_1 x y c1 c2 c3) [(15, (RG.z 4))] [(2, 16, (ws y))] [(ws x), (RG.z 12), (ws y)] [(1, (.p 0 0)), (2, (.p 1 0)), (3, (.v (.bool false))), (4, (.p 2 0)), (5, (.v (.bool true)))] (by kernel_rfl) (by kernel_rfl) ⟨RG.cl (F3_c) fun _ _ => by kernel_rfl, RG.cl (F3_c) fun _ _ => by kernel_rfl, RG.cl (F3_c) fun _ _ => by kernel_rfl, RG.cl (F3_c) fun _ _ => by kernel_rfl, RG.ld u33 i33 (by kernel_rfl), RG.ld u33 i33 (by kernel_rfl), RG.cl ((rMul_c C x x).e hc1) fun _ _ => by kernel_rfl, RG.ld u33 i33 (by kernel_rfl), RG.cl ((rMul_c C c1 x).e hc2) fun _ _ => by kernel_rfl, RG.cl (rSmall7_c C) fun _ _ => by kernel_rfl, RG.cl ((rAdd_c C c2 (7 : Fin P)).e hc3) fun _ _ => by kernel_rfl, RG.cl (f := 48) (args := #[rv0, (fv c3)]) (v := (.tuple #[(fv y), (.bool true)])) (rSqrt_y C (by subst_vars; exact hr)) fun _ _ => by kernel_rfl, RG.st fun _ _ => by kernel_rfl, RG.st fun _ _ => by kernel_rfl, RG.st fun _ _ => by kernel_rfl, RG.mk 2 32 fun _ _ => by kernel_rfl, RG.pt i33 (by kernel_rfl), RG.st fun _ _ => by kernel_rfl, trivial⟩ ?_
  intro j2 a2 w2 M2
  repeat refine wp_seq ?_
  refine M2.dr (by kernel_rfl) (F70y_2 x y) [] [(1, 5, (ws x ++ (ws y ++ (ws (1 : Fin P)))))] [(ws x), (ws x ++ (ws y ++ (ws (1 : Fin P)))), (ws y)] [(2, (.p 1 0)), (3, (.v (.bool true)))] (by kernel_rfl) (by kernel_rfl) ⟨RG.ld u33 i33 (by kernel_rfl), RG.ld u33 i33 (by kernel_rfl), RG.cl (rSmall1_c C) fun _ _ => by kernel_rfl, RG.st fun _ _ => by kernel_rfl, RG.st fun _ _ => by kernel_rfl, RG.pt i56 (by kernel_rfl), RG.st fun _ _ => by kernel_rfl, trivial⟩ ?_
  intro a3 w3 M3
  refine wp_ret ?_
  refine bodyPost_ret (v := (.tuple #[(rv x y (1 : Fin P)), (.bool true)])) (RG.results_rt M3.st 2 3 34 rfl 1 _ rfl (M3.at (s := (.p 1 0)) (by kernel_rfl)) _ (M3.at (s := (.v (.bool true))) (by kernel_rfl)) u56 i56) M3.sl.defers ?_
  exact ⟨_, rfl, M3.st.bel.below, rfl⟩
def F70n_0 (x : Fin P) : List RG.It := [.m 1 [] 0, .m 2 [] 1, .x 3 [] (.bool false)]
def F70n_1 (x c1 c2 c3 : Fin P) : List RG.It := [.c 7 [] rv0, .c 8 [] rv0, .c 9 [] rv0, .c 10 [] rv0, .x 11 [] (fv x), .x 12 [] (fv x), .c 13 [(10, 3), (11, 4), (12, 5)] (fv c1), .x 14 [] (fv x), .c 15 [(9, 2), (13, 6), (14, 7)] (fv c2), .c 16 [] (fv (7 : Fin P)), .c 17 [(8, 1), (15, 8), (16, 9)] (fv c3), .c 18 [(7, 0), (17, 10)] (.tuple #[(fv (0 : Fin P)), (.bool false)]), .x 6 [(18, 11)] (.tuple #[(fv (0 : Fin P)), (.bool false)]), .x 19 [(6, 12)] (fv (0 : Fin P)), .x 20 [(6, 12)] (.bool false), .m 4 [] 2, .u [(4, 15), (19, 13)] 2, .x 5 [(20, 14)] (.bool false)]
def F70n_2 (x : Fin P) : List RG.It := [.x 21 [] (fv x), .x 22 [] (fv (0 : Fin P)), .c 23 [] (fv (1 : Fin P)), .x 24 [(21, 0), (22, 1), (23, 2)] (rv x (0 : Fin P) (1 : Fin P)), .x 25 [] (.bool false), .u [(24, 3)] 1, .x 3 [(25, 4)] (.bool false)]
set_option maxHeartbeats 2000000 in
set_option maxRecDepth 100000 in
theorem rat_n_c (C : Fl3 P) (x : Fin P)(hr : rt (x * x * x + 7) = none)  : Gives 23 #[(fv x)] (.tuple #[rv x 0 1, .bool false]) := by
  intro w
  obtain ⟨c1, hc1⟩ : ∃ c, c = x * x := ⟨_, rfl⟩
  obtain ⟨c2, hc2⟩ : ∃ c, c = c1 * x := ⟨_, rfl⟩
  obtain ⟨c3, hc3⟩ : ∃ c, c = c2 + (7 : Fin P) := ⟨_, rfl⟩
  have hfin : ((.tuple #[(rv x (0 : Fin P) (1 : Fin P)), (.bool false)]) : Value) = (.tuple #[rv x 0 1, .bool false]) := by
    subst_vars; rfl
  rw [← hfin]
  go_enter Tryz.func23, Tryz.ntmps23
  refine RG.M.enter [(0, (.v (fv x)))] 26 (by kernel_rfl) ?_
  intro a0 M0
  repeat refine wp_seq ?_
  refine M0.tx (F70n_0 x) [(0, (ws x)), (1, (RG.z 12))] [] [(ws x), (RG.z 12)] [(1, (.p 0 0)), (2, (.p 1 0)), (3, (.v (.bool false)))] (by kernel_rfl) (by kernel_rfl) ⟨RG.mk 0 32 fun _ _ => by kernel_rfl, RG.mk 1 34 fun _ _ => by kernel_rfl, RG.st fun _ _ => by kernel_rfl, trivial⟩ ?_
  intro j1 i1 a1 w1 M1
  repeat refine wp_seq ?_
  refine M1.dr (by kernel_rfl) (F70n_1 x c1 c2 c3) [(15, (RG.z 4))] [(2, 16, (ws (0 : Fin P)))] [(ws x), (RG.z 12), (ws (0 : Fin P))] [(1, (.p 0 0)), (2, (.p 1 0)), (3, (.v (.bool false))), (4, (.p 2 0)), (5, (.v (.bool false)))] (by kernel_rfl) (by kernel_rfl) ⟨RG.cl (F3_c) fun _ _ => by kernel_rfl, RG.cl (F3_c) fun _ _ => by kernel_rfl, RG.cl (F3_c) fun _ _ => by kernel_rfl, RG.cl (F3_c) fun _ _ => by kernel_rfl, RG.ld u33 i33 (by kernel_rfl), RG.ld u33 i33 (by kernel_rfl), RG.cl ((rMul_c C x x).e hc1) fun _ _ => by kernel_rfl, RG.ld u33 i33 (by kernel_rfl), RG.cl ((rMul_c C c1 x).e hc2) fun _ _ => by kernel_rfl, RG.cl (rSmall7_c C) fun _ _ => by kernel_rfl, RG.cl ((rAdd_c C c2 (7 : Fin P)).e hc3) fun _ _ => by kernel_rfl, RG.cl (f := 48) (args := #[rv0, (fv c3)]) (v := (.tuple #[(fv (0 : Fin P)), (.bool false)])) (rSqrt_n C (by subst_vars; exact hr)) fun _ _ => by kernel_rfl, RG.st fun _ _ => by kernel_rfl, RG.st fun _ _ => by kernel_rfl, RG.st fun _ _ => by kernel_rfl, RG.mk 2 32 fun _ _ => by kernel_rfl, RG.pt i33 (by kernel_rfl), RG.st fun _ _ => by kernel_rfl, trivial⟩ ?_
  intro j2 a2 w2 M2
  repeat refine wp_seq ?_
  refine M2.dr (by kernel_rfl) (F70n_2 x) [] [(1, 5, (ws x ++ (ws (0 : Fin P) ++ (ws (1 : Fin P)))))] [(ws x), (ws x ++ (ws (0 : Fin P) ++ (ws (1 : Fin P)))), (ws (0 : Fin P))] [(2, (.p 1 0)), (3, (.v (.bool false)))] (by kernel_rfl) (by kernel_rfl) ⟨RG.ld u33 i33 (by kernel_rfl), RG.ld u33 i33 (by kernel_rfl), RG.cl (rSmall1_c C) fun _ _ => by kernel_rfl, RG.st fun _ _ => by kernel_rfl, RG.st fun _ _ => by kernel_rfl, RG.pt i56 (by kernel_rfl), RG.st fun _ _ => by kernel_rfl, trivial⟩ ?_
  intro a3 w3 M3
  refine wp_ret ?_
  refine bodyPost_ret (v := (.tuple #[(rv x (0 : Fin P) (1 : Fin P)), (.bool false)])) (RG.results_rt M3.st 2 3 34 rfl 1 _ rfl (M3.at (s := (.p 1 0)) (by kernel_rfl)) _ (M3.at (s := (.v (.bool false))) (by kernel_rfl)) u56 i56) M3.sl.defers ?_
  exact ⟨_, rfl, M3.st.bel.below, rfl⟩
end Go.Proofs.YticolhhalbbogacGreat
set_option linter.unusedVariables false
set_option linter.unusedSimpArgs false
namespace Go.Proofs.YticolhhalbbogacGreat
open Go.RowKit Go.Sort Go.Deep
variable {P : Nat} [NeZero P]
def z12 : Array Value := #[.int .u64 0, .int .u64 0, .int .u64 0, .int .u64 0, .int .u64 0, .int .u64 0, .int .u64 0, .int .u64 0, .int .u64 0, .int .u64 0, .int .u64 0, .int .u64 0]
def W5 (w : World) : World := (w.alloc (.cells z12 34)).alloc (.cells (madeCells #[.int .u8 0] 33) 5)
theorem W5_st (w : World) : RG.St w w.heap.size [] [z12.toList] [w.heap.size] (W5 w) := (RG.St.new w z12.toList 34).more (below1 _ _)
theorem conv33 (w : World) : (convert 22 9 (.slice (some ⟨w.heap.size + 1, 0, none⟩) 33 33)).run Tryz.prog (W5 w) = .ok (.string ⟨zs33⟩) (W5 w) :=
  conv_str Tryz.prog 22 9 5 slice22 int5 str9 _ _ 0 33 33 _ (made33 w _) (by decide)
theorem str_eq (a : Bs) : ((⟨a⟩ : ByteArray).toList == (⟨a⟩ : ByteArray).toList) = true := by simp
theorem str_ne3 {a b : Bs} (h : ¬ a = b) : ((⟨a⟩ : ByteArray).toList == (⟨b⟩ : ByteArray).toList) = false := by
  rw [ByteArray.toList_eq, ByteArray.toList_eq]
  simp only [beq_eq_false_iff_ne, ne_eq]
  exact fun e => h (Array.toList_inj.1 e)
theorem slS (bs : Bs) (hs : bs.size = 33) (w : World) : (Instr.sliceAt 9 (.string ⟨bs⟩) (some (.int .i64 1)) none none).run Tryz.prog w = .ok (.string ⟨tl33 bs⟩) w := by
  have h : (⟨bs⟩ : ByteArray).size = 33 := hs
  go_simp
  have h2 : ((⟨bs⟩ : ByteArray).extract 1 33).data = tl33 bs := by rw [ByteArray.data_extract]; rfl
  rw [← h2]
theorem mark_of {bs : Bs} (hs : bs.size = 33) (hp : 0 < (⟨bs⟩ : ByteArray).size) : (((⟨bs⟩ : ByteArray)[0]'hp).toNat : Int) = ub bs[0]! := by
  rw [getElem!_pos bs 0 (by omega)]
  rfl
theorem ixS (bs : Bs) (hs : bs.size = 33) (m : Int) (hm : ub bs[0]! = m) (w : World) : (Instr.index 9 (.string ⟨bs⟩) (.int .i64 0)).run Tryz.prog w = .ok (.int .u8 m) w := by
  have h : (⟨bs⟩ : ByteArray).size = 33 := hs
  have h2 : ∀ hp, (((⟨bs⟩ : ByteArray)[0]'hp).toNat : Int) = m := fun hp => by rw [mark_of hs, hm]
  go_simp
theorem rNumber_y (C : Fl3 P) (bs : Bs) (hs : bs.size = 32) {x : Fin P} (hx : beV bs.toList = x.val) : Gives 13 #[rv0, .string ⟨bs⟩] (.tuple #[fv x, .bool true]) := fun w =>
  (rNumber_any _ _ _ _ _ _ _ _ P ⟨bs⟩ C.ref w).mono (by
    rintro e w' ⟨v, rfl, hb, a, b, c, d, ok, rfl, h1, h2, h3, -⟩
    cases ok with
    | false => exact absurd ⟨hs, by rw [hx]; exact x.isLt⟩ (h2 rfl)
    | true =>
      have h4 := (h1 rfl).2
      rw [hx] at h4
      refine ⟨_, rfl, hb, ?_⟩
      rw [C.toFld.four x |>.inj h4])
theorem rNumber_n (C : Fl3 P) (bs : Bs) (hs : bs.size = 32) (hx : ¬ beV bs.toList < P) : Gives 13 #[rv0, .string ⟨bs⟩] (.tuple #[nv (beV bs.toList), .bool false]) := fun w =>
  (rNumber_any _ _ _ _ _ _ _ _ P ⟨bs⟩ C.ref w).mono (by
    rintro e w' ⟨v, rfl, hb, a, b, c, d, ok, rfl, h1, h2, h3, -⟩
    cases ok with
    | true => exact absurd (h1 rfl).1.2 hx
    | false =>
      have h4 := h3 hs
      refine ⟨_, rfl, hb, ?_⟩
      rw [h4.nv])
def n12 (P : Nat) [NeZero P] : List Value := ws (0 : Fin P) ++ (ws (1 : Fin P) ++ ws (0 : Fin P))
end Go.Proofs.YticolhhalbbogacGreat
namespace Go.Proofs.YticolhhalbbogacGreat
open Go.RowKit Go.Sort Go.Deep
variable {P : Nat} [NeZero P]
def F31d2_5 (m : Nat) (bs : Bs) (x : Fin P) : List RG.It := [.c 27 [] rv0, .x 28 [] (.string ⟨bs⟩), .x 29 [(28, 1)] (.string ⟨tl33 bs⟩), .c 30 [(27, 0), (29, 2)] (.tuple #[(nv m), (.bool false)]), .x 26 [(30, 3)] (.tuple #[(nv m), (.bool false)]), .x 31 [(26, 4)] (nv m), .x 32 [(26, 4)] (.bool false), .m 4 [] 1, .u [(4, 7), (31, 5)] 1, .x 5 [(32, 6)] (.bool false)]
def F31d2_6 (x : Fin P) : List RG.It := [.x 33 [] (.bool false), .x 34 [(33, 0)] (.bool true)]
def F31d2_7 (x : Fin P) : List RG.It := [.x 35 [] (rv (0 : Fin P) (0 : Fin P) (0 : Fin P)), .u [(35, 0)] 0, .x 3 [] (.bool false)]
def F31e2_5 (m : Nat) (bs : Bs) (x : Fin P) : List RG.It := [.c 27 [] rv0, .x 28 [] (.string ⟨bs⟩), .x 29 [(28, 1)] (.string ⟨tl33 bs⟩), .c 30 [(27, 0), (29, 2)] (.tuple #[(fv x), (.bool true)]), .x 26 [(30, 3)] (.tuple #[(fv x), (.bool true)]), .x 31 [(26, 4)] (fv x), .x 32 [(26, 4)] (.bool true), .m 4 [] 1, .u [(4, 7), (31, 5)] 1, .x 5 [(32, 6)] (.bool true)]
def F31e2_6 (x : Fin P) : List RG.It := [.x 33 [] (.bool true), .x 34 [(33, 0)] (.bool false)]
def F31e2_8 (m : Nat) (x : Fin P) : List RG.It := [.x 37 [] (fv x), .c 38 [(37, 0)] (.tuple #[(rv x (0 : Fin P) (1 : Fin P)), (.bool false)]), .x 36 [(38, 1)] (.tuple #[(rv x (0 : Fin P) (1 : Fin P)), (.bool false)]), .x 39 [(36, 2)] (rv x (0 : Fin P) (1 : Fin P)), .x 40 [(36, 2)] (.bool false), .m 6 [] 2, .u [(6, 5), (39, 3)] 2, .x 5 [(40, 4)] (.bool false)]
def F31e2_9 (bs : Bs) (x : Fin P) : List RG.It := [.x 41 [] (.string ⟨bs⟩), .x 42 [(41, 0)] (.int .u8 2), .x 43 [(42, 1)] (.bool false)]
def F31e2_11 (x : Fin P) : List RG.It := [.x 46 [] (rv x (0 : Fin P) (1 : Fin P)), .x 47 [] (.bool false), .u [(46, 0)] 0, .x 3 [(47, 1)] (.bool false)]
def F31f2_5 (m : Nat) (bs : Bs) (x : Fin P) : List RG.It := [.c 27 [] rv0, .x 28 [] (.string ⟨bs⟩), .x 29 [(28, 1)] (.string ⟨tl33 bs⟩), .c 30 [(27, 0), (29, 2)] (.tuple #[(fv x), (.bool true)]), .x 26 [(30, 3)] (.tuple #[(fv x), (.bool true)]), .x 31 [(26, 4)] (fv x), .x 32 [(26, 4)] (.bool true), .m 4 [] 1, .u [(4, 7), (31, 5)] 1, .x 5 [(32, 6)] (.bool true)]
def F31f2_6 (x : Fin P) : List RG.It := [.x 33 [] (.bool true), .x 34 [(33, 0)] (.bool false)]
def F31f2_8 (m : Nat) (x y : Fin P) : List RG.It := [.x 37 [] (fv x), .c 38 [(37, 0)] (.tuple #[(rv x y (1 : Fin P)), (.bool true)]), .x 36 [(38, 1)] (.tuple #[(rv x y (1 : Fin P)), (.bool true)]), .x 39 [(36, 2)] (rv x y (1 : Fin P)), .x 40 [(36, 2)] (.bool true), .m 6 [] 2, .u [(6, 5), (39, 3)] 2, .x 5 [(40, 4)] (.bool true)]
def F31f2_9 (bs : Bs) (x : Fin P) : List RG.It := [.x 41 [] (.string ⟨bs⟩), .x 42 [(41, 0)] (.int .u8 2), .x 43 [(42, 1)] (.bool false)]
def F31f2_11 (x y : Fin P) : List RG.It := [.x 46 [] (rv x y (1 : Fin P)), .x 47 [] (.bool true), .u [(46, 0)] 0, .x 3 [(47, 1)] (.bool true)]
def F31d3_5 (m : Nat) (bs : Bs) (x : Fin P) : List RG.It := [.c 27 [] rv0, .x 28 [] (.string ⟨bs⟩), .x 29 [(28, 1)] (.string ⟨tl33 bs⟩), .c 30 [(27, 0), (29, 2)] (.tuple #[(nv m), (.bool false)]), .x 26 [(30, 3)] (.tuple #[(nv m), (.bool false)]), .x 31 [(26, 4)] (nv m), .x 32 [(26, 4)] (.bool false), .m 4 [] 1, .u [(4, 7), (31, 5)] 1, .x 5 [(32, 6)] (.bool false)]
def F31d3_6 (x : Fin P) : List RG.It := [.x 33 [] (.bool false), .x 34 [(33, 0)] (.bool true)]
def F31d3_7 (x : Fin P) : List RG.It := [.x 35 [] (rv (0 : Fin P) (0 : Fin P) (0 : Fin P)), .u [(35, 0)] 0, .x 3 [] (.bool false)]
def F31e3_5 (m : Nat) (bs : Bs) (x : Fin P) : List RG.It := [.c 27 [] rv0, .x 28 [] (.string ⟨bs⟩), .x 29 [(28, 1)] (.string ⟨tl33 bs⟩), .c 30 [(27, 0), (29, 2)] (.tuple #[(fv x), (.bool true)]), .x 26 [(30, 3)] (.tuple #[(fv x), (.bool true)]), .x 31 [(26, 4)] (fv x), .x 32 [(26, 4)] (.bool true), .m 4 [] 1, .u [(4, 7), (31, 5)] 1, .x 5 [(32, 6)] (.bool true)]
def F31e3_6 (x : Fin P) : List RG.It := [.x 33 [] (.bool true), .x 34 [(33, 0)] (.bool false)]
def F31e3_8 (m : Nat) (x : Fin P) : List RG.It := [.x 37 [] (fv x), .c 38 [(37, 0)] (.tuple #[(rv x (0 : Fin P) (1 : Fin P)), (.bool false)]), .x 36 [(38, 1)] (.tuple #[(rv x (0 : Fin P) (1 : Fin P)), (.bool false)]), .x 39 [(36, 2)] (rv x (0 : Fin P) (1 : Fin P)), .x 40 [(36, 2)] (.bool false), .m 6 [] 2, .u [(6, 5), (39, 3)] 2, .x 5 [(40, 4)] (.bool false)]
def F31e3_9 (bs : Bs) (x : Fin P) : List RG.It := [.x 41 [] (.string ⟨bs⟩), .x 42 [(41, 0)] (.int .u8 3), .x 43 [(42, 1)] (.bool true)]
def F31e3_10 (x y2 : Fin P) : List RG.It := [.x 44 [] (rv x (0 : Fin P) (1 : Fin P)), .c 45 [(44, 0)] (rv x y2 (1 : Fin P)), .u [(45, 1)] 2]
def F31e3_11 (x y2 : Fin P) : List RG.It := [.x 46 [] (rv x y2 (1 : Fin P)), .x 47 [] (.bool false), .u [(46, 0)] 0, .x 3 [(47, 1)] (.bool false)]
def F31f3_5 (m : Nat) (bs : Bs) (x : Fin P) : List RG.It := [.c 27 [] rv0, .x 28 [] (.string ⟨bs⟩), .x 29 [(28, 1)] (.string ⟨tl33 bs⟩), .c 30 [(27, 0), (29, 2)] (.tuple #[(fv x), (.bool true)]), .x 26 [(30, 3)] (.tuple #[(fv x), (.bool true)]), .x 31 [(26, 4)] (fv x), .x 32 [(26, 4)] (.bool true), .m 4 [] 1, .u [(4, 7), (31, 5)] 1, .x 5 [(32, 6)] (.bool true)]
def F31f3_6 (x : Fin P) : List RG.It := [.x 33 [] (.bool true), .x 34 [(33, 0)] (.bool false)]
def F31f3_8 (m : Nat) (x y : Fin P) : List RG.It := [.x 37 [] (fv x), .c 38 [(37, 0)] (.tuple #[(rv x y (1 : Fin P)), (.bool true)]), .x 36 [(38, 1)] (.tuple #[(rv x y (1 : Fin P)), (.bool true)]), .x 39 [(36, 2)] (rv x y (1 : Fin P)), .x 40 [(36, 2)] (.bool true), .m 6 [] 2, .u [(6, 5), (39, 3)] 2, .x 5 [(40, 4)] (.bool true)]
def F31f3_9 (bs : Bs) (x : Fin P) : List RG.It := [.x 41 [] (.string ⟨bs⟩), .x 42 [(41, 0)] (.int .u8 3), .x 43 [(42, 1)] (.bool true)]
def F31f3_10 (x y y2 : Fin P) : List RG.It := [.x 44 [] (rv x y (1 : Fin P)), .c 45 [(44, 0)] (rv x y2 (1 : Fin P)), .u [(45, 1)] 2]
def F31f3_11 (x y2 : Fin P) : List RG.It := [.x 46 [] (rv x y2 (1 : Fin P)), .x 47 [] (.bool true), .u [(46, 0)] 0, .x 3 [(47, 1)] (.bool true)]
end Go.Proofs.YticolhhalbbogacGreat
namespace Go.Proofs.YticolhhalbbogacGreat
open Go.RowKit Go.Sort
variable {P : Nat} [NeZero P]
def FracT (t : T3 P) (p : EC.Pt P) : Prop := EC.Frac t.1 t.2.1 t.2.2 p ∧ EC.On p
def dbF (t : T3 P) : T3 P := (EC.fdE t.2.1 t.2.2 * EC.fdT t.1 t.2.1 t.2.2, EC.fdD t.1 * (t.1 * (EC.fdE t.2.1 t.2.2 * EC.fdE t.2.1 t.2.2) - EC.fdT t.1 t.2.1 t.2.2) - t.2.1 * (EC.fdE t.2.1 t.2.2 * EC.fdE t.2.1 t.2.2 * EC.fdE t.2.1 t.2.2), EC.fdE t.2.1 t.2.2 * EC.fdE t.2.1 t.2.2 * EC.fdE t.2.1 t.2.2 * t.2.2)
def plF (a b : T3 P) : T3 P :=
  if a.2.2 = 0 then b else if b.2.2 = 0 then a else
  if b.1 * a.2.2 = a.1 * b.2.2 then (if b.2.1 * a.2.2 = a.2.1 * b.2.2 then dbF a else (0, 1, 0)) else
  ((b.1 * a.2.2 - a.1 * b.2.2) * EC.frT (b.2.1 * a.2.2 - a.2.1 * b.2.2) (b.1 * a.2.2 - a.1 * b.2.2) (a.2.2 * b.2.2) (a.1 * b.2.2),
   (b.2.1 * a.2.2 - a.2.1 * b.2.2) * (a.1 * b.2.2 * ((b.1 * a.2.2 - a.1 * b.2.2) * (b.1 * a.2.2 - a.1 * b.2.2)) - EC.frT (b.2.1 * a.2.2 - a.2.1 * b.2.2) (b.1 * a.2.2 - a.1 * b.2.2) (a.2.2 * b.2.2) (a.1 * b.2.2)) - a.2.1 * b.2.2 * ((b.1 * a.2.2 - a.1 * b.2.2) * (b.1 * a.2.2 - a.1 * b.2.2) * (b.1 * a.2.2 - a.1 * b.2.2)),
   (b.1 * a.2.2 - a.1 * b.2.2) * (b.1 * a.2.2 - a.1 * b.2.2) * (b.1 * a.2.2 - a.1 * b.2.2) * (a.2.2 * b.2.2))
theorem FracT.plus (C : Fl3 P) {a b : T3 P} {p q : EC.Pt P} (h : FracT a p) (h' : FracT b q) : Gives 32 #[tv a, tv b] (tv (plF a b)) ∧ FracT (plF a b) (EC.add p q) := by
  have ho := C.cur.on h.2 h'.2
  obtain ⟨x1, y1, z1⟩ := a
  obtain ⟨x2, y2, z2⟩ := b
  unfold plF
  by_cases n1 : z1 = 0
  · rw [if_pos n1]
    obtain rfl := h.1.zero n1
    exact ⟨rPlus_a_c C x1 y1 z1 x2 y2 z2 n1, h'⟩
  · rw [if_neg n1]
    by_cases n2 : z2 = 0
    · rw [if_pos n2]
      obtain rfl := h'.1.zero n2
      refine ⟨rPlus_b_c C x1 y1 z1 x2 y2 z2 n1 n2, ?_⟩
      rw [EC.add_none]
      exact h
    · rw [if_neg n2]
      rcases h.1.plus C.cur h.2 h'.1 h'.2 n1 n2 with ⟨e1, e2, e3⟩ | ⟨e1, e2, e3, e4⟩ | ⟨e1, e2⟩
      · rw [if_pos e1, if_neg e2]
        refine ⟨rPlus_c_c C x1 y1 z1 x2 y2 z2 n1 n2 e1 e2, ?_, ho⟩
        rw [e3]
        exact rfl
      · rw [if_pos e1, if_pos e2]
        refine ⟨rPlus_d_c C x1 y1 z1 x2 y2 z2 n1 n2 e1 e2 e3, ?_, ho⟩
        rw [e4]
        exact h.1.double C.cur h.2 n1
      · rw [if_neg e1]
        exact ⟨rPlus_e_c C x1 y1 z1 x2 y2 z2 n1 n2 e1, e2, ho⟩
theorem FracT.none : FracT ((0, 1, 0) : T3 P) .none := ⟨rfl, EC.none_on⟩
theorem FracT.neg {t : T3 P} {p : EC.Pt P} (h : FracT t p) : FracT ((t.1, 0 - t.2.1, t.2.2) : T3 P) (EC.neg p) := ⟨h.1.neg, EC.neg_on h.2⟩
/-- What the reference's Times has behind m rounds. -/
def tmF (n : Nat) (t : T3 P) : Nat → T3 P
  | 0 => (0, 1, 0)
  | m + 1 => if n / 2 ^ (255 - m) % 2 = 1 then plF (plF (tmF n t m) (tmF n t m)) t else plF (tmF n t m) (tmF n t m)
theorem tmF_F (C : Fl3 P) {n : Nat} {t : T3 P} {p : EC.Pt P} (hn : n < 2 ^ 256) (h : FracT t p) : ∀ m, m ≤ 256 → FracT (tmF n t m) (EC.mul (n / 2 ^ (256 - m)) p)
  | 0, _ => by
    rw [Nat.sub_zero, Nat.div_eq_of_lt hn]
    exact FracT.none
  | m + 1, hm => by
    have ih := tmF_F C hn h m (by omega)
    have e1 : 256 - m = 255 - m + 1 := by omega
    rw [show 256 - (m + 1) = 255 - m by omega, div_bit n (255 - m), ← e1]
    unfold tmF
    have h2 := (ih.plus C ih).2
    rw [← EC.mul_add C.cur h.2, ← Nat.two_mul] at h2
    by_cases hb : n / 2 ^ (255 - m) % 2 = 1
    · rw [if_pos hb, hb]
      exact (h2.plus C h).2
    · rw [if_neg hb, show n / 2 ^ (255 - m) % 2 = 0 by omega]
      exact h2
end Go.Proofs.YticolhhalbbogacGreat
namespace Go.Proofs.YticolhhalbbogacGreat
open Go.RowKit Go.Sort
variable {P : Nat} [NeZero P]
theorem frac_one (C : Fld P) (x y : Fin P) : EC.Frac x y 1 (.some (x, y) : EC.Pt P) := ⟨fun h => C.cur.two (by grobner), by grobner, by grobner⟩
/-- What the reference's Read answers. -/
def RReadR (P : Nat) [NeZero P] (bs : Bs) (e : Value) : Prop := match rd P bs with
  | none => ∃ t : T3 P, e = .tuple #[tv t, .bool false]
  | some p => ∃ (t : T3 P) (q : EC.Pt P), e = .tuple #[tv t, .bool true] ∧ EC.Pair p.1 p.2 q ∧ FracT t q
end Go.Proofs.YticolhhalbbogacGreat
set_option linter.unusedVariables false
namespace Go.Proofs.YticolhhalbbogacGreat
open Go.RowKit Go.Sort Go.Deep
variable {P : Nat} [NeZero P]
/-- The base's x, written. -/
def gxB : Bs := #[121, 190, 102, 126, 249, 220, 187, 172, 85, 160, 98, 149, 206, 135, 11, 7, 2, 155, 252, 219, 45, 206, 40, 217, 89, 242, 129, 91, 22, 248, 23, 152]
theorem of_g (C : Fld P) : Gives 22 #[.string ⟨gxB⟩] (fv (gX P)) := fun w => (rOf_any ⟨gxB⟩ rfl w).mono (by
  rintro e w' ⟨v, rfl, hb, hF⟩
  refine ⟨_, rfl, hb, ?_⟩
  have h := hF.nv
  rw [h]
  show nv _ = nv _
  rw [gX_val C]
  exact congrArg nv (by decide +kernel : beV gxB.toList = 55066263022277343669578718895168534326250603453777594175500187360389116729240))
theorem g_root (C : Fld P) : rt (gX P * gX P * gX P + 7) = some (gY P) := by
  have h := gG_on C
  have h1 : gY P ^ 2 = gX P ^ 3 + 7 := h
  have h2 : gY P * gY P = gX P * gX P * gX P + 7 := by
    generalize gX P = x at *
    generalize gY P = y at *
    clear h C
    grobner
  rw [rt_of C h2, if_neg]
  rw [gY_val C]
  decide
def gT (P : Nat) [NeZero P] : T3 P := (gX P, gY P, 1)
theorem gT_frac (C : Fld P) : FracT (gT P) (gG P) := ⟨frac_one C _ _, gG_on C⟩
def FG_0 : List RG.It := [.m 0 [] 0]
def FG_1 : List RG.It := [.c 4 [] (fv (gX P)), .m 1 [] 1, .u [(1, 1), (4, 0)] 1]
def FG_2 : List RG.It := [.x 6 [] (fv (gX P)), .c 7 [(6, 0)] (.tuple #[(rv (gX P) (gY P) (1 : Fin P)), (.bool true)]), .x 5 [(7, 1)] (.tuple #[(rv (gX P) (gY P) (1 : Fin P)), (.bool true)]), .x 8 [(5, 2)] (rv (gX P) (gY P) (1 : Fin P)), .x 9 [(5, 2)] (.bool true), .m 2 [] 2, .u [(2, 5), (8, 3)] 2, .x 3 [(9, 4)] (.bool true)]
def FG_3 : List RG.It := [.x 10 [] (rv (gX P) (gY P) (1 : Fin P)), .u [(10, 0)] 0]
set_option maxHeartbeats 4000000 in
set_option maxRecDepth 100000 in
theorem rG_c (C : Fl3 P) : Gives 9 #[] (tv (gT P)) := by
  intro w
  go_enter Tryz.func9, Tryz.ntmps9
  refine RG.M.enter [] 11 (by kernel_rfl) ?_
  intro a0 M0
  repeat refine wp_seq ?_
  refine M0.tx FG_0 [(0, (RG.z 12))] [] [(RG.z 12)] [(0, (.p 0 0))] (by kernel_rfl) (by kernel_rfl) ⟨RG.mk 0 34 fun _ _ => by kernel_rfl, trivial⟩ ?_
  intro j1 a1 w1 M1
  repeat refine wp_seq ?_
  refine M1.tx (FG_1 (P := P)) [(1, (RG.z 4))] [(1, 2, (ws (gX P)))] [(RG.z 12), (ws (gX P))] [(0, (.p 0 0)), (1, (.p 1 0))] (by kernel_rfl) (by kernel_rfl) ⟨RG.cl (of_g C.toFld) fun _ _ => by kernel_rfl, RG.mk 1 32 fun _ _ => by kernel_rfl, RG.pt i33 (by kernel_rfl), trivial⟩ ?_
  intro j2 a2 w2 M2
  repeat refine wp_seq ?_
  refine M2.tx (FG_2 (P := P)) [(5, (RG.z 12))] [(2, 6, (ws (gX P) ++ (ws (gY P) ++ (ws (1 : Fin P)))))] [(RG.z 12), (ws (gX P)), (ws (gX P) ++ (ws (gY P) ++ (ws (1 : Fin P))))] [(0, (.p 0 0)), (2, (.p 2 0))] (by kernel_rfl) (by kernel_rfl) ⟨RG.ld u33 i33 (by kernel_rfl), RG.cl (rat_y_c C (gX P) (gY P) (g_root C.toFld)) fun _ _ => by kernel_rfl, RG.st fun _ _ => by kernel_rfl, RG.st fun _ _ => by kernel_rfl, RG.st fun _ _ => by kernel_rfl, RG.mk 2 34 fun _ _ => by kernel_rfl, RG.pt i56 (by kernel_rfl), RG.st fun _ _ => by kernel_rfl, trivial⟩ ?_
  intro j3 a3 w3 M3
  repeat refine wp_seq ?_
  refine M3.tx (FG_3 (P := P)) [] [(0, 1, (ws (gX P) ++ (ws (gY P) ++ (ws (1 : Fin P)))))] [(ws (gX P) ++ (ws (gY P) ++ (ws (1 : Fin P)))), (ws (gX P)), (ws (gX P) ++ (ws (gY P) ++ (ws (1 : Fin P))))] [(0, (.p 0 0))] (by kernel_rfl) (by kernel_rfl) ⟨RG.ld u56 i56 (by kernel_rfl), RG.pt i56 (by kernel_rfl), trivial⟩ ?_
  intro a4 w4 M4
  refine wp_ret ?_
  refine bodyPost_ret (v := tv (gT P)) (RG.results_row M4.st 0 34 rfl 0 _ rfl (M4.at (s := .p 0 0) (by kernel_rfl)) u56 i56) M4.sl.defers ?_
  exact ⟨_, rfl, M4.st.bel.below, rfl⟩
end Go.Proofs.YticolhhalbbogacGreat
namespace Go.Proofs.YticolhhalbbogacGreat.SP
open Go.RowKit Go.Sort Go.Deep
variable {B : Nat} {w w1 : World} {v : Value} {T : List UInt8}
set_option maxRecDepth 4000
/-- 'append(b, x...)', x of n bytes: there may be room, or not. -/
theorem append_own {r c : Nat} {xs : Bs} (h : Own B w v T) (hX : Holds encB w r 0 xs) (hB : B ≤ w.heap.size) (hbig : T.length + xs.size ≤ 1099511627776) (k : Nat) (hk : k = xs.size) :
    ∃ v' w', (Builtin.append_ #[22, 22] 22 #[v, .slice (some ⟨r, 0, none⟩) k c]).run Tryz.prog w = .ok v' w' ∧ Own B w' v' (T ++ xs.toList) ∧ Below B w w' := by
  subst hk
  obtain ⟨g, cap, cur, rfl, hg, hgl, hs, hl, hH, hTc⟩ := h
  obtain ⟨i, hi, hz, hsz, hby⟩ := info_parts info5
  have hxl0 : xs.toList.length = xs.size := Array.length_toList
  have hlen : (T ++ xs.toList).length = T.length + xs.size := by rw [List.length_append, hxl0]
  by_cases hroom : T.length + xs.size ≤ cap
  · have hap := append_room (l := T.length) (k := xs.size) (n := xs.size) (c := c) hH hs hX rfl rfl hroom 22
    have hH3 := holds_splice hH T.length xs.toList (by rw [hxl0]; omega)
    rw [Nat.zero_add] at hH3
    refine ⟨_, _, hap, ⟨g, cap, splice cur T.length xs.toList, by rw [hlen], hg, Nat.lt_of_lt_of_le hgl (below_setCells (B := 0) (b := g) (Nat.zero_le _) _ _ _ (Below.refl 0 w)).size, by rw [splice_size, hs], by omega, hH3, fun j hj => ?_⟩, ?_⟩
    · rw [hlen] at hj
      rw [splice_at _ _ _ _ (by rw [hxl0]; omega) (by omega), hxl0]
      by_cases h1 : j < T.length
      · rw [if_neg (by omega), list_app_front _ _ _ h1, hTc j h1]
      · rw [if_pos (by omega), list_app_back _ _ _ (by omega) (by rw [hxl0]; omega)]
    · exact below_setCells hg _ _ _ (Below.refl _ _)
  · have hold : (Builtin.firstCells i.size T.length (.slice (some ⟨g, 0, none⟩) T.length cap)).run Tryz.prog w.drew = .ok (T.map encB).toArray w.drew := by
      rw [hsz]
      refine run_firstCells_some w.drew 1 T.length ⟨g, 0, none⟩ T.length cap (T.map encB) (by rw [List.length_map, Nat.mul_one]) (fun j u hj => ?_)
      obtain ⟨h1, h2⟩ := List.getElem?_eq_some_iff.1 hj
      rw [List.length_map] at h1
      have hc := (hH j (by omega)).1
      rw [hTc j h1, getElem!_pos T j h1] at hc
      rw [List.getElem_map] at h2
      have e1 : (⟨g, 0, none⟩ : Addr).add j = ⟨g, 0 + j, none⟩ := by
        unfold Addr.add
        by_cases h0 : j = 0
        · subst h0; rw [if_pos rfl]
        · rw [if_neg h0]
      rw [e1, World.cell?_drew, hc, h2]
    have hxl : (xs.toList.map encB).length = xs.size := by rw [List.length_map, hxl0]
    have hsrc : Src Tryz.prog i.size 22 (.slice (some ⟨r, 0, none⟩) xs.size c) xs.size (xs.toList.map encB) w := by
      rw [hsz]
      refine Src.ofSlice w slice22 ⟨r, 0, none⟩ xs.size c _ (by rw [hxl, Nat.mul_one]) (fun j u hj => ?_) (fun u hu => ?_)
      · obtain ⟨h1, h2⟩ := List.getElem?_eq_some_iff.1 hj
        rw [hxl] at h1
        have hc := (hX j (by omega)).1
        rw [getElem!_pos xs j (by omega)] at hc
        rw [List.getElem_map, Array.getElem_toList] at h2
        have e1 : (⟨r, 0, none⟩ : Addr).add j = ⟨r, 0 + j, none⟩ := by
          unfold Addr.add
          by_cases h0 : j = 0
          · subst h0; rw [if_pos rfl]
          · rw [if_neg h0]
        rw [e1, hc, h2]
      · obtain ⟨x, _, rfl⟩ := List.mem_map.1 hu
        rfl
    have hnc : Builtin.nextslicecap (T.length + xs.size) cap ≤ 2 * (T.length + xs.size) + 768 := by
      unfold Builtin.nextslicecap
      split
      · omega
      · split
        · omega
        · simp only [Builtin.growBy]
          repeat' split
          all_goals omega
    have hap := run_append_grow_src (P := Tryz.prog) w 22 22 22 5 i (.int .u8 0) slice22 hi hz (some ⟨g, 0, none⟩) T.length cap (T.map encB) hold _ xs.size (xs.toList.map encB) hsrc (by omega) (by omega) (by rw [hby]; omega)
    generalize hG : grownCap w (T.length + xs.size) cap 5 = G at hap
    have hGl : T.length + xs.size ≤ G := by
      rw [← hG]
      unfold grownCap Question.cut
      exact Nat.le_add_right _ _
    have hcells : (T.map encB ++ xs.toList.map encB).toArray ++ Builtin.zeroCells (Value.int .u8 0).cells (G - (T.length + xs.size)) = ((T ++ xs.toList).toArray ++ Array.replicate (G - (T.length + xs.size)) (0 : UInt8)).map encB := by
      rw [Array.map_append, Array.map_replicate, ← List.map_append]
      congr 1
      · simp
      · unfold Builtin.zeroCells
        have e : (Value.int .u8 0).cells = #[Value.int .u8 0] := rfl
        rw [e]
        apply Array.ext
        · simp
        · intro k h1 h2
          simp [Nat.mod_one]
          rfl
    rw [hcells] at hap
    refine ⟨_, _, hap, ⟨w.heap.size, G, (T ++ xs.toList).toArray ++ Array.replicate (G - (T.length + xs.size)) 0, by rw [hlen], hB, by simp, ?_, by omega, ?_, fun j hj => ?_⟩, ?_⟩
    · rw [Array.size_append, Array.size_replicate, List.size_toArray, hlen]; omega
    · exact Holds.new (enc := encB) w.drew 5 _
    · rw [app_front _ _ j (by simpa using hj)]
      rw [getElem!_pos (T ++ xs.toList) j hj]
      simp
    · exact ((Below.refl B w).drew).alloc (by exact hB) _
end Go.Proofs.YticolhhalbbogacGreat.SP
namespace Go.Proofs.YticolhhalbbogacGreat.SP
open Go.RowKit Go.Sort Go.Deep
attribute [local go_sem] bits_xor64 bits_and64 bits_or64 wrap_u
theorem place_any (a b : Int) (n : Nat) (w : World) (ha : 0 ≤ a ∧ a ≤ 1000) (hb : 0 ≤ b ∧ b ≤ 1000) (h : a % 5 + 5 * (b % 5) = (n : Int)) :
    Calls Tryz.prog 116 #[.int .i64 a, .int .i64 b] w fun e w' => e = .returned (.int .i64 (n : Int)) ∧ w' = w := by
  obtain ⟨a1, a2⟩ := ha
  obtain ⟨b1, b2⟩ := hb
  rw [← h]
  clear h
  go_enter Tryz.func116, Tryz.ntmps116
  go_wp2
  go_ret
  exact ⟨rfl, rfl⟩
theorem left_any (x : BitVec 64) (k : Nat) (w : World) (hk : k < 64) :
    Calls Tryz.prog 117 #[.int .u64 (u x), .int .i64 (k : Int)] w fun e w' => e = .returned (.int .u64 (u (rol x k))) ∧ ∃ n, w' = w.drewN n := by
  have h1 : (0 : Int) ≤ 64 - (k : Int) := by omega
  have h2 : (64 : Int) - (k : Int) ≤ 64 := by omega
  have h3 : (k : Int) ≤ 64 := by omega
  have h4 : IntKind.i64.wrap (64 - (k : Int)) = 64 - (k : Int) := IntWalk.i64_in _ (by omega)
  have h5 : ((64 : Int) - (k : Int)).toNat = 64 - k := by omega
  have s1 := shl64 x k
  have s2 := shr64 x (64 - k)
  go_enter Tryz.func117, Tryz.ntmps117
  go_wp2
  go_quiet (fail)
  go_wp2
  go_ret
  refine ⟨ret_int ?_, _, rfl⟩
  rfl
set_option maxHeartbeats 1000000 in
theorem bit_any (t : Nat) (w : World) (ht : t ≤ 1000) :
    Calls Tryz.prog 118 #[.int .i64 (t : Int)] w fun e w' => e = .returned (.int .u64 (u (bitL t))) ∧ w' = w := by
  go_enter Tryz.func118, Tryz.ntmps118
  go_wp2
  go_loop [3, 4] (fun s3 s4 => ∃ (i q : Nat), i ≤ t ∧ s4 = .int .i64 i ∧ s3 = .int .i64 q ∧ q < 256 ∧ Hid (regTo i = q)) (fun _ s4 => t - (intOf s4).toNat)
  case atStart => exact ⟨0, 1, by omega, rfl, rfl, by decide, rfl⟩
  case round =>
    obtain ⟨i, q, hi, rfl, rfl, hq, HE⟩ := hrel
    by_cases hlt : i < t
    · have a2 := rc_xor q hq
      rw [Int.mul_comm] at a2
      have hlt2 := rcReg_lt q hq
      have HC : Hid (regTo (i + 1) = rcReg q) := by show rcReg (regTo i) = _; rw [HE.out]
      by_cases h255 : 255 < 2 * q
      · have HR : Hid (rcReg q = 2 * q ^^^ 369) := if_pos h255
        rw [HR.out] at hlt2
        generalize 2 * q ^^^ 369 = q2 at *
        go_wp2
        go_round
        case rel => exact ⟨i + 1, q2, by omega, by go_num, rfl, hlt2, by rw [HC.out, HR.out]; rfl⟩
        case measure => simp [intOf]; omega
      · have HR : Hid (rcReg q = 2 * q) := if_neg h255
        go_wp2
        go_round
        case rel => exact ⟨i + 1, 2 * q, by omega, by go_num, by go_num, by omega, by rw [HC.out, HR.out]; rfl⟩
        case measure => simp [intOf]; omega
    · have a1 := rc_and q hq
      have hit : i = t := by omega
      subst hit
      go_wp2
      go_ret
      unfold bitL
      rw [HE.out]
      exact ⟨rfl, rfl⟩
end Go.Proofs.YticolhhalbbogacGreat.SP
namespace Go.Proofs.YticolhhalbbogacGreat.SP
open Go.RowKit Go.Sort Go.Deep
attribute [local go_sem] bits_xor64 bits_and64 bits_or64 wrap_u
theorem place_uint (j : Nat) (hj : j < 7) : min (IntKind.u64.wrap (IntKind.u64.wrap ((2 : Int) ^ j) - 1)).toNat 64 = 2 ^ j - 1 := by
  have H : ∀ j : Fin 7, min (IntKind.u64.wrap (IntKind.u64.wrap ((2 : Int) ^ j.val) - 1)).toNat 64 = 2 ^ j.val - 1 := by decide +kernel
  exact H ⟨j, hj⟩
set_option maxHeartbeats 1000000 in
theorem constant_any (r : Nat) (w : World) (hr : r < 24) :
    Calls Tryz.prog 109 #[.int .i64 (r : Int)] w fun e w' => e = .returned (.int .u64 (u (conL r))) ∧ w' = w := by
  go_enter Tryz.func109, Tryz.ntmps109
  go_wp2
  go_loop [3, 4] (fun s3 s4 => ∃ (j : Nat) (c : BitVec 64), j ≤ 7 ∧ s4 = .int .i64 j ∧ s3 = .int .u64 (u c) ∧ Hid (conTo r j = c)) (fun _ s4 => 7 - (intOf s4).toNat)
  case atStart => exact ⟨0, 0, by omega, rfl, rfl, rfl⟩
  case round =>
    obtain ⟨j, c, hj, rfl, rfl, HE⟩ := hrel
    by_cases hlt : j < 7
    · have hj6 : (j : Int) ≤ 6 := by omega
      go_wp2_with fail
      rw [show (j : Int) + 7 * (r : Int) = ((j + 7 * r : Nat) : Int) from by omega]
      refine (bit_any (j + 7 * r) _ (by omega)).mono ?_
      rintro e w' ⟨rfl, rfl⟩
      go_wp2
      go_round
      case rel =>
        refine ⟨j + 1, conTo r (j + 1), by omega, by go_num, ?_, rfl⟩
        rw [place_uint j hlt, shl64, bits_or64]
        show _ = Value.int .u64 (u (conTo r j ||| bitL (j + 7 * r) <<< (2 ^ j - 1)))
        rw [HE.out]
      case measure => simp [intOf]; omega
    · have hj6 : ¬ (j : Int) ≤ 6 := by omega
      have hj7 : j = 7 := by omega
      subst hj7
      go_wp2
      go_ret
      unfold conL
      rw [HE.out]
      exact ⟨rfl, rfl⟩
theorem slice62 : Tryz.prog.underlying 145 = some (.slice 3) := by kernel_rfl
theorem info3 : (Tryz.prog.info? 3).map (fun i => (i.zero, i.size, i.bytes)) = some (some (.int .i64 0), 1, 8) := by kernel_rfl
theorem at_int {w : World} {b off : Nat} {d : Array Nat} (h : Holds encI w b off d) (i : Nat) (hi : i < d.size) {x : Nat} (hx : d[i]! = x) :
    w.cell? ⟨b, off + i, none⟩ = some (.int .i64 (x : Int)) ∧ w.frozen? ⟨b, off + i, none⟩ = false := by
  rw [← hx]; exact h i hi
theorem offs_int' (t : Nat) (h : t < 24) : (wrap64 ((wrap64 (((t : Int) + 1) * ((t : Int) + 2))).tdiv 2)).tmod 64 = (offs t : Int) := by
  have H : ∀ j : Fin 24, (wrap64 ((wrap64 (((j.val : Int) + 1) * ((j.val : Int) + 2))).tdiv 2)).tmod 64 = (offs j.val : Int) := by decide +kernel
  exact H ⟨t, h⟩
set_option maxHeartbeats 1000000 in
set_option maxRecDepth 100000 in
theorem offsets_any (w : World) :
    Calls Tryz.prog 107 #[] w fun e w' => e = .returned (.slice (some ⟨w.heap.size, 0, none⟩) 25 25) ∧ Below w.heap.size w w' ∧ Holds encI w' w.heap.size 0 offsetsL := by
  have hmk : ∀ w : World, (Instr.makeSlice 145 (.int .i64 25) (.int .i64 25)).run Tryz.prog w = .ok (.slice (some ⟨w.heap.size, 0, none⟩) 25 25) (w.alloc (.cells (madeCells #[.int .i64 0] 25) 3)) :=
    run_make_row' (P := Tryz.prog) 145 3 (.int .i64 0) 8 slice62 info3 rfl .i64 .i64 25 (by omega) (by omega)
  go_enter Tryz.func107, Tryz.ntmps107
  go_wp2
  generalize hW1 : (w.alloc _) = W1
  go_loopg [2, 3, 4] 24 (fun g sx sy st wr => ∃ t T, t + g = 24 ∧ st = .int .i64 (t : Nat) ∧ sx = .int .i64 (T.x : Nat) ∧ sy = .int .i64 (T.y : Nat) ∧ Holds encI wr w.heap.size 0 T.o ∧ Only w.heap.size 0 25 W1 wr ∧ Hid (T = ofTo t))
  case atStart =>
    refine ⟨0, ofTo 0, rfl, rfl, rfl, rfl, ?_, Only.refl _ _ _ _, rfl⟩
    rw [← hW1]
    exact Holds.made (enc := encI) w 3 25 0
  case round =>
    obtain ⟨t, ⟨x, y, o⟩, ht, rfl, rfl, rfl, hD, hO, HE⟩ := hrel
    have hok := ofTo_ok t
    rw [← HE.out] at hok
    obtain ⟨hx, hy, hs⟩ := hok
    dsimp only at hx hy hs hD
    by_cases hlt : t < 24
    · obtain ⟨i, hi⟩ : ∃ i, x % 5 + 5 * (y % 5) = i := ⟨_, rfl⟩
      have hib : i < 25 := by omega
      obtain ⟨c, f⟩ := hD i (by omega)
      rw [Nat.zero_add] at c f
      have Hi : Hid (x % 5 + 5 * (y % 5) = i) := hi
      have l24 : (t : Int) < 24 := by omega
      clear hi
      go_wp2_with fail
      refine (place_any (x : Int) (y : Int) i _ (by omega) (by omega) (by have := Hi.out; omega)).mono ?_
      rintro e w' ⟨rfl, rfl⟩
      have hoff := offs_int' t hlt
      have i25 : (i : Int) < 25 := by omega
      go_wp2
      go_roundg (gk - 1)
      case measure => omega
      case rel =>
        refine ⟨t + 1, ⟨y, (2 * x + 3 * y) % 5, o.setIfInBounds i (offs t)⟩, by omega, by go_num, rfl, by go_num, ?_, ?_, ?_⟩
        · have := Holds.set hD (i := i) (by omega) (offs t)
          rw [Nat.zero_add] at this
          exact this
        · exact hO.setCell (o := i) (by omega) (by omega) _
        · show _ = (Of.mk (ofTo t).y ((2 * (ofTo t).x + 3 * (ofTo t).y) % 5) ((ofTo t).o.setIfInBounds ((ofTo t).x % 5 + 5 * ((ofTo t).y % 5)) (offs t)))
          rw [← HE.out]
          dsimp only
          rw [Hi.out]
    · have ht24 : t = 24 := by omega
      subst ht24
      go_wp2
      go_ret
      refine ⟨rfl, ?_, ?_⟩
      · rw [← hW1] at hO
        exact hO.fresh
      · unfold offsetsL
        rw [← HE.out]
        exact hD
end Go.Proofs.YticolhhalbbogacGreat.SP
namespace Go.Proofs.YticolhhalbbogacGreat.SP
open Go.RowKit Go.Sort Go.Deep
attribute [local go_sem] bits_xor64 bits_and64 bits_or64 bits_not64 wrap_u
theorem slice61 : Tryz.prog.underlying 144 = some (.slice 30) := by kernel_rfl
theorem info56 : (Tryz.prog.info? 30).map (fun i => (i.zero, i.size, i.bytes)) = some (some (.int .u64 0), 1, 8) := by kernel_rfl
set_option maxHeartbeats 2000000 in
set_option maxRecDepth 100000 in
theorem round_any (ab tb : Nat) (a : St) (tn : Array Nat) (c : BitVec 64) (w : World) (ha : a.size = 25) (ht : tn.size = 25) (hA : Holds enc w ab 0 a) (hT : Holds encI w tb 0 tn) (h64 : ∀ i, i < 25 → tn[i]! < 64) :
    Calls Tryz.prog 108 #[.slice (some ⟨ab, 0, none⟩) 25 25, .slice (some ⟨tb, 0, none⟩) 25 25, .int .u64 (u c)] w fun e w' => ∃ r, e = .returned (.slice (some ⟨r, 0, none⟩) 25 25) ∧ w.heap.size ≤ r ∧ Below w.heap.size w w' ∧ Holds enc w' r 0 (refRound a tn c) := by
  have hab := Holds.lt hA (by omega)
  have htb := Holds.lt hT (by omega)
  have hmk5 : ∀ w : World, (Instr.makeSlice 144 (.int .i64 5) (.int .i64 5)).run Tryz.prog w = .ok (.slice (some ⟨w.heap.size, 0, none⟩) 5 5) (w.alloc (.cells (madeCells #[.int .u64 0] 5) 30)) :=
    run_make_row' (P := Tryz.prog) 144 30 (.int .u64 0) 8 slice61 info56 rfl .i64 .i64 5 (by omega) (by omega)
  have hmk25 : ∀ w : World, (Instr.makeSlice 144 (.int .i64 25) (.int .i64 25)).run Tryz.prog w = .ok (.slice (some ⟨w.heap.size, 0, none⟩) 25 25) (w.alloc (.cells (madeCells #[.int .u64 0] 25) 30)) :=
    run_make_row' (P := Tryz.prog) 144 30 (.int .u64 0) 8 slice61 info56 rfl .i64 .i64 25 (by omega) (by omega)
  have HM25 : Hid _ := hmk25
  clear hmk25
  go_enter Tryz.func108, Tryz.ntmps108
  go_wp2
  clear hmk5
  have hC1 : Holds enc (w.alloc (.cells (madeCells #[.int .u64 0] 5) 30)) w.heap.size 0 (colTo a 0) := Holds.made (enc := enc) w 30 5 0
  have hb1 : Below w.heap.size w (w.alloc (.cells (madeCells #[.int .u64 0] 5) 30)) := (Below.refl _ _).alloc (Nat.le_refl _) _
  generalize hW1 : (w.alloc _) = W1 at hC1 hb1 ⊢
  have hs1 : w.heap.size < W1.heap.size := by rw [← hW1]; simp
  have hA1 := Holds.below hA hb1 hab
  have hT1 := Holds.below hT hb1 htb
  clear hW1
  go_loopg [8] 5 (fun g s8 wr => ∃ (x : Nat) (ck : St), x + g = 5 ∧ s8 = .int .i64 x ∧ Holds enc wr w.heap.size 0 ck ∧ Only w.heap.size 0 5 W1 wr ∧ Hid (ck = colTo a x))
  case atStart => exact ⟨0, _, rfl, rfl, hC1, Only.refl _ _ _ _, rfl⟩
  case round =>
    obtain ⟨x, ck, hx, rfl, hC, hO, HE⟩ := hrel
    have hcs : ck.size = 5 := by rw [HE.out, colTo_size]
    by_cases hlt : x < 5
    · have l5 : (x : Int) < 5 := by omega
      go_wp2
      go_loopg [9] 5 (fun g s9 wq => ∃ (y : Nat) (cy : St), y + g = 5 ∧ s9 = .int .i64 y ∧ Holds enc wq w.heap.size 0 cy ∧ Only w.heap.size 0 5 W1 wq ∧ Hid (cy = colIn a x ck y))
      case atStart => exact ⟨0, ck, rfl, rfl, hC, hO, rfl⟩
      case round =>
        obtain ⟨y, cy, hy, rfl, hCy, hOy, HEy⟩ := hrel
        have hcys : cy.size = 5 := by rw [HEy.out, colIn_size, hcs]
        by_cases hlty : y < 5
        · have hAy := Holds.other hA1 hOy (by omega) (by omega)
          obtain ⟨z, hz⟩ : ∃ z, a[x + 5 * y]! = z := ⟨_, rfl⟩
          obtain ⟨v, hv⟩ : ∃ z, cy[x]! = z := ⟨_, rfl⟩
          obtain ⟨c0, f0⟩ := at_word hAy (x + 5 * y) (by omega) hz
          obtain ⟨c1, f1⟩ := at_word hCy x (by omega) hv
          rw [Nat.zero_add] at c0 c1 f1
          have HZ : Hid (a[x + 5 * y]! = z) := hz
          have HV : Hid (cy[x]! = v) := hv
          obtain ⟨i, hi⟩ : ∃ i, x + 5 * y = i := ⟨_, rfl⟩
          rw [hi] at c0
          have Hi : Hid (x + 5 * y = i) := hi
          have i25 : i < 25 := by omega
          have i25' : (i : Int) < 25 := by omega
          have y5 : (y : Int) < 5 := by omega
          clear hz hv hi f0
          go_wp2_with fail
          refine wp_region_still_tail 14 mixed (by kernel_rfl) ?_
          simp only [List.take_succ_cons, List.take_zero, List.drop_succ_cons, List.drop_zero]
          repeat still_step
          still_call (place_any (x : Int) (y : Int) i _ (by omega) (by omega) (by have := Hi.out; omega))
          repeat still_step
          refine wpStill_nil ?_
          go_wp2
          go_roundg (gk - 1)
          case measure => omega
          case rel =>
            refine ⟨y + 1, xorAt cy x z, by omega, by go_num, ?_, ?_, ?_⟩
            · have := Holds.xor hCy (i := x) (by omega) HV.out z
              rw [Nat.zero_add] at this
              exact Holds.drew this
            · exact (hOy.setCell (o := x) (by omega) (by omega) _).drew
            · show _ = xorAt (colIn a x ck y) x a[x + 5 * y]!
              rw [HZ.out, HEy.out]
        · have hy5 : y = 5 := by omega
          subst hy5
          go_wp2
          go_roundg (4 - x)
          case measure => omega
          case rel =>
            refine ⟨x + 1, cy, by omega, by go_num, hCy, hOy, ?_⟩
            show _ = colIn a x (colTo a x) 5
            rw [HEy.out, HE.out]
    · have hx5 : x = 5 := by omega
      subst hx5
      have hb2 : Below w.heap.size w wr := hb1.trans (hO.below (by omega) (Nat.le_refl _))
      have hs2 : w.heap.size < wr.heap.size := Nat.lt_of_lt_of_le hs1 hO.size
      clear hlt hx hC1 hb1 hs1 hA1 hT1 hO
      have hmk := HM25.out
      go_wp2
      clear hmk
      have hM3 : Holds enc (wr.alloc (.cells (madeCells #[.int .u64 0] 25) 30)) wr.heap.size 0 (movTo a tn ck 0) := Holds.made (enc := enc) wr 30 25 0
      have hb3' : Below wr.heap.size wr (wr.alloc (.cells (madeCells #[.int .u64 0] 25) 30)) := (Below.refl _ _).alloc (Nat.le_refl _) _
      generalize hW3 : (wr.alloc _) = W3 at hM3 hb3' ⊢
      have hs3 : wr.heap.size < W3.heap.size := by rw [← hW3]; simp
      have hC3 := Holds.below hC hb3' hs2
      have hb3 := hb2.trans (hb3'.mono (by omega))
      have hA3 := Holds.below hA hb3 hab
      have hT3 := Holds.below hT hb3 htb
      clear hW3 hb3' hb2 hC
      generalize hMB : wr.heap.size = MB at *
      go_loopg [11] 5 (fun g s11 wr => ∃ (x : Nat) (mk : St), x + g = 5 ∧ s11 = .int .i64 x ∧ Holds enc wr MB 0 mk ∧ Only MB 0 25 W3 wr ∧ Hid (mk = movTo a tn ck x))
      case atStart => exact ⟨0, _, rfl, rfl, hM3, Only.refl _ _ _ _, rfl⟩
      case round =>
        obtain ⟨x, mk, hx, rfl, hM, hO, HEx⟩ := hrel
        have hms : mk.size = 25 := by rw [HEx.out, movTo_size]
        by_cases hlt : x < 5
        · have hCw := Holds.other hC3 hO (by omega) (by omega)
          obtain ⟨y0, hy0⟩ : ∃ z, ck[(x + 4) % 5]! = z := ⟨_, rfl⟩
          obtain ⟨y1, hy1⟩ : ∃ z, ck[(x + 1) % 5]! = z := ⟨_, rfl⟩
          obtain ⟨c0, f0⟩ := at_word hCw ((x + 4) % 5) (by omega) hy0
          obtain ⟨c1, f1⟩ := at_word hCw ((x + 1) % 5) (by omega) hy1
          rw [Nat.zero_add] at c0 c1
          have HD : Hid (dcol ck x = y0 ^^^ rol y1 1) := by rw [← hy0, ← hy1]; rfl
          clear hy0 hy1 f0 f1
          have l5 : (x : Int) < 5 := by omega
          have q1 : 0 ≤ ((x : Int) + 4) % 5 := by omega
          have q2 : ((x : Int) + 4) % 5 < 5 := by omega
          have q3 : (((x : Int) + 4) % 5).toNat = (x + 4) % 5 := by omega
          have q4 : 0 ≤ ((x : Int) + 1) % 5 := by omega
          have q5 : ((x : Int) + 1) % 5 < 5 := by omega
          have q6 : (((x : Int) + 1) % 5).toNat = (x + 1) % 5 := by omega
          go_wp2_with fail
          go_quiet ((go_at_call 117; exact Calls.quiet_of (left_any _ 1 _ (by decide))))
          clear c0 c1 q1 q2 q3 q4 q5 q6
          go_wp2
          have hM1 := Holds.drewN hM nq
          have hO1 := hO.drewN nq
          generalize y0 ^^^ rol y1 1 = dv at *
          go_loopg [13] 5 (fun g s13 wq => ∃ (y : Nat) (my : St), y + g = 5 ∧ s13 = .int .i64 y ∧ Holds enc wq MB 0 my ∧ Only MB 0 25 W3 wq ∧ Hid (my = movIn a tn x dv mk y))
          case atStart => exact ⟨0, mk, rfl, rfl, hM1, hO1, rfl⟩
          case round =>
            obtain ⟨y, my, hy, rfl, hMy, hOy, HEy⟩ := hrel
            have hmys : my.size = 25 := by rw [HEy.out, movIn_size, hms]
            by_cases hlty : y < 5
            · have hAy := Holds.other hA3 hOy (by omega) (by omega)
              have hTy := Holds.other hT3 hOy (by omega) (by omega)
              obtain ⟨z, hz⟩ : ∃ z, a[x + 5 * y]! = z := ⟨_, rfl⟩
              obtain ⟨tv, htv⟩ : ∃ z, tn[x + 5 * y]! = z := ⟨_, rfl⟩
              obtain ⟨c0, f0⟩ := at_word hAy (x + 5 * y) (by omega) hz
              obtain ⟨c1, f1⟩ := at_int hTy (x + 5 * y) (by omega) htv
              have t64 : tv < 64 := by rw [← htv]; exact h64 _ (by omega)
              obtain ⟨i, hi⟩ : ∃ i, x + 5 * y = i := ⟨_, rfl⟩
              obtain ⟨j, hj⟩ : ∃ j, y % 5 + 5 * ((2 * x + 3 * y) % 5) = j := ⟨_, rfl⟩
              obtain ⟨c2, f2⟩ := hMy j (by omega)
              rw [Nat.zero_add] at c0 c1 c2 f2
              rw [hi] at c0 c1
              have Hi : Hid (x + 5 * y = i) := hi
              have Hj : Hid (y % 5 + 5 * ((2 * x + 3 * y) % 5) = j) := hj
              have HZ : Hid (a[x + 5 * y]! = z) := hz
              have HT : Hid (tn[x + 5 * y]! = tv) := htv
              have i25 : i < 25 := by omega
              have j25 : j < 25 := by omega
              have i25' : (i : Int) < 25 := by omega
              have j25' : (j : Int) < 25 := by omega
              have y5 : (y : Int) < 5 := by omega
              have s1 : IntKind.i64.wrap (2 * (x : Int)) = 2 * (x : Int) := IntWalk.i64_in _ (by omega)
              have s2 : IntKind.i64.wrap (3 * (y : Int)) = 3 * (y : Int) := IntWalk.i64_in _ (by omega)
              have s3 : IntKind.i64.wrap (2 * (x : Int) + 3 * (y : Int)) = 2 * (x : Int) + 3 * (y : Int) := IntWalk.i64_in _ (by omega)
              clear hz htv hi hj f0 f1
              go_wp2_with fail
              have P1 : ∀ w, Hid (Calls Tryz.prog 116 #[.int .i64 (y : Int), .int .i64 (2 * (x : Int) + 3 * (y : Int))] w fun e w' => e = .returned (.int .i64 (j : Int)) ∧ w' = w) := fun w => place_any _ _ j w (by omega) (by omega) (by have := Hj.out; omega)
              have P2 : ∀ w, Hid (Calls Tryz.prog 116 #[.int .i64 (x : Int), .int .i64 (y : Int)] w fun e w' => e = .returned (.int .i64 (i : Int)) ∧ w' = w) := fun w => place_any _ _ i w (by omega) (by omega) (by have := Hi.out; omega)
              go_region_with (first | (go_at_call_of 116 (Value.int IntKind.i64 (x : Int)); refine Calls.mono (P2 _).out ?_; rintro e w2 ⟨rfl, rfl⟩) | (go_at_call 116; refine Calls.mono (P1 _).out ?_; rintro e w2 ⟨rfl, rfl⟩) | (go_at_call 117; refine (left_any (z ^^^ dv) tv _ t64).mono ?_; rintro e w2 ⟨rfl, n2, rfl⟩))
              all_goals
                go_wp2
                go_roundg (gk - 1)
                case measure => omega
                case rel =>
                  refine ⟨y + 1, my.setIfInBounds j (rol (z ^^^ dv) tv), by omega, by go_num, ?_, ?_, ?_⟩
                  · have := Holds.set (Holds.drewN hMy (1 + n2)) (i := j) (by omega) (rol (z ^^^ dv) tv)
                    rw [Nat.zero_add] at this
                    exact this
                  · exact (hOy.drewN (1 + n2)).setCell (o := j) (by omega) (by omega) _
                  · show _ = (movIn a tn x dv mk y).setIfInBounds (y % 5 + 5 * ((2 * x + 3 * y) % 5)) (rol (a[x + 5 * y]! ^^^ dv) tn[x + 5 * y]!)
                    rw [HZ.out, HT.out, Hj.out, HEy.out]
            · have hy5 : y = 5 := by omega
              subst hy5
              go_wp2
              go_roundg (4 - x)
              case measure => omega
              case rel =>
                refine ⟨x + 1, my, by omega, by go_num, hMy, hOy, ?_⟩
                show _ = movIn a tn x (dcol ck x) (movTo a tn ck x) 5
                rw [HEy.out, HEx.out, HD.out]
        · have hx5 : x = 5 := by omega
          subst hx5
          have hb4 : Below w.heap.size w wr := hb3.trans (hO.below (by omega) (by omega))
          have hs4 : MB < wr.heap.size := Nat.lt_of_lt_of_le hs3 hO.size
          clear hlt hx hb3 hs3 hA3 hT3 hC3 hM3 hO
          have hmk := HM25.out
          go_wp2
          clear hmk
          have hU5 : Holds enc (wr.alloc (.cells (madeCells #[.int .u64 0] 25) 30)) wr.heap.size 0 (outTo mk 0) := Holds.made (enc := enc) wr 30 25 0
          have hb5' : Below wr.heap.size wr (wr.alloc (.cells (madeCells #[.int .u64 0] 25) 30)) := (Below.refl _ _).alloc (Nat.le_refl _) _
          generalize hW5 : (wr.alloc _) = W5 at hU5 hb5' ⊢
          have hs5 : wr.heap.size < W5.heap.size := by rw [← hW5]; simp
          have hM5 := Holds.below hM hb5' hs4
          have hb5 := hb4.trans (hb5'.mono (by omega))
          clear hW5 hb5' hb4 hM
          generalize hOB : wr.heap.size = OB at *
          go_loopg [15] 5 (fun g s15 wr => ∃ (x : Nat) (ok : St), x + g = 5 ∧ s15 = .int .i64 x ∧ Holds enc wr OB 0 ok ∧ Only OB 0 25 W5 wr ∧ Hid (ok = outTo mk x))
          case atStart => exact ⟨0, _, rfl, rfl, hU5, Only.refl _ _ _ _, rfl⟩
          case round =>
            obtain ⟨x, ok, hx, rfl, hU, hO, HEu⟩ := hrel
            have hus : ok.size = 25 := by rw [HEu.out, outTo_size]
            by_cases hlt : x < 5
            · have l5 : (x : Int) < 5 := by omega
              go_wp2
              go_loopg [16] 5 (fun g s16 wq => ∃ (y : Nat) (oy : St), y + g = 5 ∧ s16 = .int .i64 y ∧ Holds enc wq OB 0 oy ∧ Only OB 0 25 W5 wq ∧ Hid (oy = outIn mk x ok y))
              case atStart => exact ⟨0, ok, rfl, rfl, hU, hO, rfl⟩
              case round =>
                obtain ⟨y, oy, hy, rfl, hUy, hOy, HEy⟩ := hrel
                have hoys : oy.size = 25 := by rw [HEy.out, outIn_size, hus]
                by_cases hlty : y < 5
                · have hMy := Holds.other hM5 hOy (by omega) (by omega)
                  obtain ⟨i0, hi0⟩ : ∃ i, x + 5 * y = i := ⟨_, rfl⟩
                  obtain ⟨i1, hi1⟩ : ∃ i, (x + 1) % 5 + 5 * y = i := ⟨_, rfl⟩
                  obtain ⟨i2, hi2⟩ : ∃ i, (x + 2) % 5 + 5 * y = i := ⟨_, rfl⟩
                  obtain ⟨z0, hz0⟩ : ∃ z, mk[i0]! = z := ⟨_, rfl⟩
                  obtain ⟨z1, hz1⟩ : ∃ z, mk[i1]! = z := ⟨_, rfl⟩
                  obtain ⟨z2, hz2⟩ : ∃ z, mk[i2]! = z := ⟨_, rfl⟩
                  obtain ⟨c0, f0⟩ := at_word hMy i0 (by omega) hz0
                  obtain ⟨c1, f1⟩ := at_word hMy i1 (by omega) hz1
                  obtain ⟨c2, f2⟩ := at_word hMy i2 (by omega) hz2
                  obtain ⟨c3, f3⟩ := hUy i0 (by omega)
                  rw [Nat.zero_add] at c0 c1 c2 c3 f3
                  have H0 : Hid (x + 5 * y = i0) := hi0
                  have H1 : Hid ((x + 1) % 5 + 5 * y = i1) := hi1
                  have H2 : Hid ((x + 2) % 5 + 5 * y = i2) := hi2
                  have HV : Hid (mk[x + 5 * y]! ^^^ (~~~mk[(x + 1) % 5 + 5 * y]! &&& mk[(x + 2) % 5 + 5 * y]!) = z0 ^^^ (~~~z1 &&& z2)) := by
                    show _ = _
                    rw [hi0, hi1, hi2, hz0, hz1, hz2]
                  have b0 : i0 < 25 := by omega
                  have b0' : (i0 : Int) < 25 := by omega
                  have b1' : (i1 : Int) < 25 := by omega
                  have b2' : (i2 : Int) < 25 := by omega
                  have y5 : (y : Int) < 5 := by omega
                  have s1 : IntKind.i64.wrap ((x : Int) + 1) = (x : Int) + 1 := IntWalk.i64_in _ (by omega)
                  have s2 : IntKind.i64.wrap ((x : Int) + 2) = (x : Int) + 2 := IntWalk.i64_in _ (by omega)
                  clear hz0 hz1 hz2 hi0 hi1 hi2 f0 f1 f2
                  go_wp2_with fail
                  refine wp_region_still_tail 28 mixed (by kernel_rfl) ?_
                  simp only [List.take_succ_cons, List.take_zero, List.drop_succ_cons, List.drop_zero]
                  repeat still_step
                  still_call (place_any (x : Int) (y : Int) i0 _ (by omega) (by omega) (by have := H0.out; omega))
                  repeat still_step
                  still_call (place_any (x : Int) (y : Int) i0 _ (by omega) (by omega) (by have := H0.out; omega))
                  repeat still_step
                  still_call (place_any ((x : Int) + 1) (y : Int) i1 _ (by omega) (by omega) (by have := H1.out; omega))
                  repeat still_step
                  still_call (place_any ((x : Int) + 2) (y : Int) i2 _ (by omega) (by omega) (by have := H2.out; omega))
                  repeat still_step
                  refine wpStill_nil ?_
                  go_wp2
                  go_roundg (gk - 1)
                  case measure => omega
                  case rel =>
                    refine ⟨y + 1, oy.setIfInBounds i0 (z0 ^^^ (~~~z1 &&& z2)), by omega, by go_num, ?_, ?_, ?_⟩
                    · have := Holds.set hUy (i := i0) (by omega) (z0 ^^^ (~~~z1 &&& z2))
                      rw [Nat.zero_add] at this
                      exact Holds.drew this
                    · exact (hOy.setCell (o := i0) (by omega) (by omega) _).drew
                    · show _ = (outIn mk x ok y).setIfInBounds (x + 5 * y) (mk[x + 5 * y]! ^^^ (~~~mk[(x + 1) % 5 + 5 * y]! &&& mk[(x + 2) % 5 + 5 * y]!))
                      rw [HV.out, H0.out, HEy.out]
                · have hy5 : y = 5 := by omega
                  subst hy5
                  go_wp2
                  go_roundg (4 - x)
                  case measure => omega
                  case rel =>
                    refine ⟨x + 1, oy, by omega, by go_num, hUy, hOy, ?_⟩
                    show _ = outIn mk x (outTo mk x) 5
                    rw [HEy.out, HEu.out]
            · have hx5 : x = 5 := by omega
              subst hx5
              obtain ⟨z, hz⟩ : ∃ z, ok[0]! = z := ⟨_, rfl⟩
              obtain ⟨c0, f0⟩ := at_word hU 0 (by omega) hz
              rw [Nat.zero_add] at c0 f0
              have HZ : Hid (ok[0]! = z) := hz
              clear hz
              go_wp2
              go_ret
              refine ⟨OB, rfl, by omega, ?_, ?_⟩
              · exact (hb5.trans (hO.below (by omega) (by omega))).setCell (p := ⟨OB, 0, none⟩) (by show _ ≤ OB; omega) _
              · have e : refRound a tn c = xorAt ok 0 c := by unfold refRound; rw [HEu.out, HEx.out, HE.out]
                rw [e]
                exact Holds.xor (i := 0) hU (by omega) HZ.out c
end Go.Proofs.YticolhhalbbogacGreat.SP
namespace Go.Proofs.YticolhhalbbogacGreat.SP
open Go.RowKit Go.Sort Go.Deep
attribute [local go_sem] bits_xor64 bits_and64 bits_or64 bits_not64 wrap_u wrap_ub low_u
set_option maxHeartbeats 2000000 in
set_option maxRecDepth 100000 in
theorem refPermute_any (s : ByteArray) (w : World) (hs : s.size = 200) :
    Calls Tryz.prog 101 #[.string s] w fun e w' => e = .returned (.string ⟨permB s.data⟩) ∧ Below w.heap.size w w' := by
  have hmk25 : ∀ w : World, (Instr.makeSlice 144 (.int .i64 25) (.int .i64 25)).run Tryz.prog w = .ok (.slice (some ⟨w.heap.size, 0, none⟩) 25 25) (w.alloc (.cells (madeCells #[.int .u64 0] 25) 30)) :=
    run_make_row' (P := Tryz.prog) 144 30 (.int .u64 0) 8 slice61 info56 rfl .i64 .i64 25 (by omega) (by omega)
  have hmk200 : ∀ w : World, (Instr.makeSlice 22 (.int .i64 200) (.int .i64 200)).run Tryz.prog w = .ok (.slice (some ⟨w.heap.size, 0, none⟩) 200 200) (w.alloc (.cells (madeCells #[.int .u8 0] 200) 5)) :=
    run_make_row' (P := Tryz.prog) 22 5 (.int .u8 0) 1 slice22 info5 rfl .i64 .i64 200 (by omega) (by omega)
  have HM200 : Hid _ := hmk200
  clear hmk200
  go_enter Tryz.func101, Tryz.ntmps101
  go_wp2
  clear hmk25
  have hA1 : Holds enc (w.alloc (.cells (madeCells #[.int .u64 0] 25) 30)) w.heap.size 0 (orTo s.data 0) := Holds.made (enc := enc) w 30 25 0
  have hb1 : Below w.heap.size w (w.alloc (.cells (madeCells #[.int .u64 0] 25) 30)) := (Below.refl _ _).alloc (Nat.le_refl _) _
  generalize hW1 : (w.alloc _) = W1 at hA1 hb1 ⊢
  have hs1 : w.heap.size < W1.heap.size := by rw [← hW1]; simp
  clear hW1
  go_loopg [4] 200 (fun g s4 wr => ∃ (i : Nat) (dk : St), i + g = 200 ∧ s4 = .int .i64 i ∧ Holds enc wr w.heap.size 0 dk ∧ Only w.heap.size 0 25 W1 wr ∧ Hid (dk = orTo s.data i))
  case atStart => exact ⟨0, _, rfl, rfl, hA1, Only.refl _ _ _ _, rfl⟩
  case round =>
    obtain ⟨i, dk, hi, rfl, hD, hO, HE⟩ := hrel
    have hds : dk.size = 25 := by rw [HE.out, orTo_size]
    by_cases hlt : i < 200
    · obtain ⟨x, hx⟩ : ∃ x, dk[i / 8]! = x := ⟨_, rfl⟩
      obtain ⟨c0, f0⟩ := at_word hD (i / 8) (by omega) hx
      rw [Nat.zero_add] at c0 f0
      have HX : Hid (dk[i / 8]! = x) := hx
      clear hx
      have l200 : (i : Int) < 200 := by omega
      have p0 : 0 ≤ (i : Int) / 8 := by omega
      have p1 : (i : Int) / 8 < 25 := by omega
      have p2 : ((i : Int) / 8).toNat = i / 8 := by omega
      have s1 : IntKind.i64.wrap ((i : Int) / 8) = (i : Int) / 8 := IntWalk.i64_in _ (by omega)
      have s2 : IntKind.i64.wrap (8 * ((i : Int) % 8)) = 8 * ((i : Int) % 8) := IntWalk.i64_in _ (by omega)
      have s3 : 0 ≤ 8 * ((i : Int) % 8) := by omega
      have s4 : 8 * ((i : Int) % 8) ≤ 64 := by omega
      have s5 : (8 * ((i : Int) % 8)).toNat = 8 * (i % 8) := by omega
      have his : (i : Int) < (s.size : Int) := by omega
      have his' : i < s.size := by omega
      have tm : (i : Int).tmod 8 = (i : Int) % 8 := Int.tmod_eq_emod_of_nonneg (by omega)
      obtain ⟨y, hy⟩ : ∃ y, wide s.data[i]! = y := ⟨_, rfl⟩
      have hsb : IntKind.u64.wrap (s[i].toNat : Int) = u y := by
        have e : s.data[i]! = s[i] := getElem!_pos s.data i his'
        rw [← hy, e]
        exact wrap_ub s[i]
      have HY : Hid (wide s.data[i]! = y) := hy
      clear hy
      have sh := shl64 y (8 * (i % 8))
      go_wp2_with fail
      go_still_tail 18, mixed
      go_wp2
      go_roundg (gk - 1)
      case measure => omega
      case rel =>
        refine ⟨i + 1, dk.setIfInBounds (i / 8) (x ||| y <<< (8 * (i % 8))), by omega, by go_num, ?_, ?_, ?_⟩
        · have := Holds.set hD (i := i / 8) (by omega) (x ||| y <<< (8 * (i % 8)))
          rw [Nat.zero_add] at this
          exact Holds.drew this
        · exact (hO.setCell (o := i / 8) (by omega) (by omega) _).drew
        · show _ = (orTo s.data i).setIfInBounds (i / 8) ((orTo s.data i)[i / 8]! ||| wide s.data[i]! <<< (8 * (i % 8)))
          rw [HY.out, ← HE.out, HX.out]
    · have hi200 : i = 200 := by omega
      subst hi200
      have hb2 : Below w.heap.size w wr := hb1.trans (hO.below (by omega) (Nat.le_refl _))
      have hs2 : w.heap.size < wr.heap.size := Nat.lt_of_lt_of_le hs1 hO.size
      clear hlt hi hA1 hb1 hs1 hO
      go_wp2_with fail
      refine (offsets_any _).mono ?_
      rintro e w3 ⟨rfl, hb3, hT⟩
      have hD3 := Holds.below hD hb3 hs2
      have hb4 := hb2.trans (hb3.mono (by omega))
      have hs3 : wr.heap.size < w3.heap.size := Holds.lt hT (by rw [offsets_size]; omega)
      generalize hTB : wr.heap.size = TB at *
      clear hb2 hb3 hD
      go_wp2
      go_loopg [3, 6] 24 (fun g s3 s6 wr => ∃ (k ab : Nat) (dk : St), k + g = 24 ∧ s6 = .int .i64 k ∧ s3 = .slice (some ⟨ab, 0, none⟩) 25 25 ∧ Holds enc wr ab 0 dk ∧ w.heap.size ≤ ab ∧ Holds encI wr TB 0 offsetsL ∧ Below w.heap.size w wr ∧ Hid (dk = refTo (orTo s.data 200) k))
      case atStart => exact ⟨0, w.heap.size, dk, rfl, rfl, rfl, hD3, Nat.le_refl _, hT, hb4, HE⟩
      case round =>
        clear hT hb4 hD3 HE hds dk
        obtain ⟨k, ab, dk, hk, rfl, rfl, hD, hab, hT, hb, HE⟩ := hrel
        have hds : dk.size = 25 := by
          rw [HE.out]
          cases k with
          | zero => exact orTo_size _ _
          | succ k => exact refRound_size _ _ _
        by_cases hlt : k < 24
        · have l24 : (k : Int) < 24 := by omega
          go_wp2_with fail
          refine (constant_any k _ hlt).mono ?_
          rintro e w4 ⟨rfl, rfl⟩
          go_wp2_with fail
          refine (round_any ab TB dk offsetsL (conL k) _ hds offsets_size hD hT offsets_lt).mono ?_
          rintro e w5 ⟨r, rfl, hr, hb5, hR⟩
          have hTl := Holds.lt hT (by rw [offsets_size]; omega)
          have hsz := hb.size
          go_wp2
          go_roundg (gk - 1)
          case measure => omega
          case rel =>
            refine ⟨k + 1, r, refRound dk offsetsL (conL k), by omega, by go_num, rfl, hR, by omega, Holds.below hT hb5 hTl, hb.trans (hb5.mono (by omega)), ?_⟩
            rw [HE.out]; rfl
        · have hk24 : k = 24 := by omega
          subst hk24
          have hmk := HM200.out
          go_wp2
          clear hmk
          have hsz := hb.size
          have hal := Holds.lt hD (by omega)
          have hF1 : Holds encB (wr.alloc (.cells (madeCells #[.int .u8 0] 200) 5)) wr.heap.size 0 (frontTo dk 200 0) := Holds.made (enc := encB) wr 5 200 0
          have hb6 : Below wr.heap.size wr (wr.alloc (.cells (madeCells #[.int .u8 0] 200) 5)) := (Below.refl _ _).alloc (Nat.le_refl _) _
          generalize hW6 : (wr.alloc _) = W6 at hF1 hb6 ⊢
          have hs6 : wr.heap.size < W6.heap.size := by rw [← hW6]; simp
          have hD6 := Holds.below hD hb6 hal
          have hb7 := hb.trans (hb6.mono hsz)
          clear hW6 hb6 hb hD hT
          generalize hFB : wr.heap.size = FB at *
          go_loopg [8] 200 (fun g s8 wr => ∃ (i : Nat) (bs : Bs), i + g = 200 ∧ s8 = .int .i64 i ∧ Holds encB wr FB 0 bs ∧ Only FB 0 200 W6 wr ∧ Hid (bs = frontTo dk 200 i))
          case atStart => exact ⟨0, _, rfl, rfl, hF1, Only.refl _ _ _ _, rfl⟩
          case round =>
            obtain ⟨i, bs, hi, rfl, hB, hO, HEb⟩ := hrel
            have hbs : bs.size = 200 := by rw [HEb.out, frontTo_size]
            by_cases hlt : i < 200
            · have hDw := Holds.other hD6 hO (by omega) (by omega)
              obtain ⟨x, hx⟩ : ∃ x, dk[i / 8]! = x := ⟨_, rfl⟩
              obtain ⟨c0, f0⟩ := at_word hDw (i / 8) (by omega) hx
              obtain ⟨c1, f1⟩ := hB i (by omega)
              rw [Nat.zero_add] at c0 c1 f1
              have HX : Hid (byteOf dk i = low (x >>> (8 * (i % 8)))) := by show low _ = _; rw [hx]
              clear hx f0
              have p1 : (i : Int) / 8 < 25 := by omega
              have l200 : (i : Int) < 200 := by omega
              have hsr := shr64 x (8 * (i % 8))
              go_wp2
              go_roundg (gk - 1)
              case measure => omega
              case rel =>
                refine ⟨i + 1, bs.setIfInBounds i (low (x >>> (8 * (i % 8)))), by omega, by go_num, ?_, ?_, ?_⟩
                · have := Holds.set hB (i := i) (by omega) (low (x >>> (8 * (i % 8))))
                  rw [Nat.zero_add] at this
                  exact this
                · exact hO.setCell (o := i) (by omega) (by omega) _
                · show _ = (frontTo dk 200 i).setIfInBounds i (byteOf dk i)
                  rw [HX.out, HEb.out]
            · have hi200 : i = 200 := by omega
              subst hi200
              have kc := conv_str Tryz.prog 22 9 5 slice22 int5 str9 wr FB 0 200 200 bs hB hbs
              go_wp2
              go_ret
              have e1 : bs = permB s.data := by rw [HEb.out, HE.out]; exact ref_permB s.data
              rw [e1]
              exact ⟨rfl, hb7.trans (hO.below (by omega) (by omega))⟩
end Go.Proofs.YticolhhalbbogacGreat.SP
namespace Go.Proofs.YticolhhalbbogacGreat.SP
open Go.RowKit Go.Sort Go.Deep
attribute [local go_sem] bits_xor8
theorem holds_one (w : World) (x : UInt8) : Holds encB (w.alloc (.cells #[.int .u8 (ub x)] 5)) w.heap.size 0 #[x] := by
  have h := Holds.new (enc := encB) w 5 #[x]
  have e : Array.map encB #[x] = #[.int .u8 (ub x)] := by simp [encB]
  rw [e] at h
  exact h
/-- The bytes with the ending and k noughts behind them. -/
def padT (l : List UInt8) (e : UInt8) (k : Nat) : List UInt8 := l ++ e :: List.replicate k 0
theorem padT_length (l : List UInt8) (e : UInt8) (k : Nat) : (padT l e k).length = l.length + 1 + k := by
  unfold padT
  rw [List.length_append, List.length_cons, List.length_replicate]
  omega
theorem padT_next (l : List UInt8) (e : UInt8) (k : Nat) : padT l e k ++ [0] = padT l e (k + 1) := by
  unfold padT
  rw [List.append_assoc, List.cons_append, List.replicate_succ']
theorem padT_total (l : List UInt8) (e : UInt8) : (padT l e (135 - l.length % 136)).set (l.length + (135 - l.length % 136)) ((padT l e (135 - l.length % 136))[l.length + (135 - l.length % 136)]! ^^^ 128) = total l e := by
  unfold padT total tailpad
  rw [List.set_append_right _ _ (by omega), Nat.add_sub_cancel_left, list_app_back _ _ _ (by omega) (by rw [List.length_cons, List.length_replicate]; omega), Nat.add_sub_cancel_left]
theorem list_set_at (l : List UInt8) (i j : Nat) (x : UInt8) (hj : j < l.length) : (l.set i x)[j]! = if i = j then x else l[j]! := by
  rw [getElem!_pos (l.set i x) j (by rw [List.length_set]; exact hj), List.getElem_set, getElem!_pos l j hj]
theorem total_at (l : List UInt8) (e : UInt8) (cur : Bs) (L k : Nat) (hk : k = 135 - l.length % 136) (hL : L = l.length + 1 + k) (hc : L ≤ cur.size) (hT : ∀ j, j < L → cur[j]! = (padT l e k)[j]!) :
    ∀ j, j < L → (cur.setIfInBounds (L - 1) (cur[L - 1]! ^^^ 128))[j]! = (total l e)[j]! := by
  intro j hj
  have hpl := padT_length l e k
  rw [← padT_total, ← hk, list_set_at _ _ _ _ (by omega), show l.length + k = L - 1 by omega]
  by_cases h : j = L - 1
  · rw [if_pos h.symm, h, getElem!_set_same _ _ _ (by omega), hT _ (by omega)]
  · rw [if_neg (by omega), getElem!_set_other _ _ _ _ h, hT _ hj]
theorem stream_bytes (o : ByteArray) (d : St) (n m : Nat) (ho : o.size = 136 * m) (hnm : n ≤ 136 * m) (h : ∀ j, j < 136 * m → o.data[j]! = streamAt d j) : o.extract 0 n = ⟨streamL d n⟩ := by
  apply ByteArray.ext
  have hd : (o.extract 0 n).data = o.data.extract 0 n := ByteArray.data_extract
  have hs : o.data.size = 136 * m := ho
  rw [hd]
  refine bs_ext _ _ n (by rw [Array.size_extract, hs]; omega) (streamL_size _ _) (fun j hj => ?_)
  have h1 : j < (o.data.extract 0 n).size := by rw [Array.size_extract, hs]; omega
  have h2 : j < o.data.size := by omega
  have h3 := h j (by omega)
  rw [getElem!_pos o.data j h2] at h3
  rw [streamL_at _ _ _ hj, ← h3, getElem!_pos (o.data.extract 0 n) j h1, Array.getElem_extract]
  simp only [Nat.zero_add]
theorem out_next (o : ByteArray) (d : St) (m : Nat) (p : Bs) (hp : p.size = 136) (hpa : ∀ j, j < 136 → p[j]! = byteOf (permN d m) j) (ho : o.size = 136 * m) (h : ∀ j, j < 136 * m → o.data[j]! = streamAt d j) :
    (o ++ ⟨p⟩).size = 136 * (m + 1) ∧ ∀ j, j < 136 * (m + 1) → (o ++ (⟨p⟩ : ByteArray)).data[j]! = streamAt d j := by
  have hd : (o ++ (⟨p⟩ : ByteArray)).data = o.data ++ p := ByteArray.data_append
  have hs : o.data.size = 136 * m := ho
  refine ⟨?_, fun j hj => ?_⟩
  · show (o ++ (⟨p⟩ : ByteArray)).data.size = _
    rw [hd, Array.size_append, hp, hs]
    omega
  · rw [hd]
    by_cases h1 : j < 136 * m
    · have h2 : j < o.data.size := by omega
      have h3 := h j h1
      rw [getElem!_pos o.data j h2] at h3
      rw [app_front _ _ j h2, h3]
    · rw [app_back _ _ j (by omega) (by omega), hs, hpa _ (by omega)]
      unfold streamAt
      rw [show j / 136 = m by omega, show j % 136 = j - 136 * m by omega]
theorem conv200 (w : World) (p : Bs) (h : p.size = 200) :
    ∃ sc w', (convert 9 22 (.string ⟨p⟩)).run Tryz.prog w = .ok (.slice (some ⟨w.heap.size, 0, none⟩) 200 sc) w' ∧ 200 ≤ sc ∧ Holds encB w' w.heap.size 0 p ∧ Below w.heap.size w w' := by
  obtain ⟨v, w', hcv, own, hb, hv⟩ := conv_bytes (w := w) (B := 0) ⟨p⟩ (Nat.zero_le _)
  have hps : (ByteArray.mk p).size = 200 := h
  have hpl : (ByteArray.mk p).data.toList.length = 200 := by rw [Array.length_toList]; exact h
  rw [hv] at hcv own
  rw [hps] at hcv own
  obtain ⟨_, _, hle, hH⟩ := own.holds
  exact ⟨_, _, hcv, by omega, by simpa using hH, hb⟩
theorem front_front (d : St) : Array.size (front d 136) ≤ Array.size (front d 200) ∧ ∀ j, j < (front d 136).size → (front d 136)[j]! = (front d 200)[j]! := by
  refine ⟨by rw [front_size, front_size]; omega, fun j hj => ?_⟩
  rw [front_size] at hj
  rw [front_at _ _ _ hj, front_at _ _ _ (by omega)]
set_option maxHeartbeats 2000000 in
set_option maxRecDepth 100000 in
theorem refSponge_any (s : ByteArray) (e : UInt8) (n : Nat) (w : World) (hs : s.size ≤ 1048576) (hn : n ≤ 16384) :
    Calls Tryz.prog 88 #[.string s, .int .u8 (ub e), .int .i64 (n : Int)] w fun r w' => r = .returned (.string ⟨streamL (absorb s.data.toList e) n⟩) ∧ Below w.heap.size w w' := by
  obtain ⟨v0, w0, hcv, own0, hb0, hv0⟩ := conv_bytes (w := w) (B := w.heap.size) s (Nat.le_refl _)
  rw [hv0] at hcv own0
  have hsz0 : w.heap.size ≤ w0.heap.size := hb0.size
  have hX := holds_one w0 e
  have hbx : Below w0.heap.size w0 (w0.alloc (.cells #[.int .u8 (ub e)] 5)) := (Below.refl _ _).alloc (Nat.le_refl _) _
  have hl : s.data.toList.length = s.size := Array.length_toList
  obtain ⟨v1, w1, hap, own1, hb1⟩ := append_own (c := 1) (own0.below hbx) hX (by rw [World.size_alloc]; omega) (by rw [hl]; simp; omega) 1 rfl
  have hbb1 : Below w.heap.size w w1 := (hb0.trans (hbx.mono hsz0)).trans hb1
  have own1' : Own w.heap.size w1 v1 (padT s.data.toList e 0) := own1
  clear hv0 own0 hX own1 hb1 hbx
  have hmk200 : ∀ w : World, (Instr.makeSlice 22 (.int .i64 200) (.int .i64 200)).run Tryz.prog w = .ok (.slice (some ⟨w.heap.size, 0, none⟩) 200 200) (w.alloc (.cells (madeCells #[.int .u8 0] 200) 5)) :=
    run_make_row' (P := Tryz.prog) 22 5 (.int .u8 0) 1 slice22 info5 rfl .i64 .i64 200 (by omega) (by omega)
  have HM200 : Hid _ := hmk200
  clear hmk200
  go_enter Tryz.func88, Tryz.ntmps88
  go_wp2_with (at_builtin; refine Lib.wpList_append_run _ rfl _ _ 22 22 rfl _ _ rfl rfl _ _ hap ?_)
  clear hap hcv hb0
  obtain ⟨h, hh⟩ : ∃ h, s.data.toList.length % 136 = h := ⟨_, rfl⟩
  have h136 : h < 136 := by rw [← hh]; exact Nat.mod_lt _ (by decide)
  have Hh : Hid (s.data.toList.length % 136 = h) := hh
  clear hh
  go_loopg [7] (135 - h) (fun g s7 wr => ∃ k, k + g = 135 - h ∧ Own w.heap.size wr s7 (padT s.data.toList e k) ∧ Below w.heap.size w wr)
  case atStart => exact ⟨0, by omega, own1', hbb1⟩
  case round =>
    clear own1' hbb1
    obtain ⟨k, hk, own, hb⟩ := hrel
    have own' := own
    obtain ⟨g, cap, cur, rfl, hg, hgl, hcs, hlc, hH, hT⟩ := own'
    have hL := padT_length s.data.toList e k
    generalize hLL : (padT s.data.toList e k).length = L at *
    have hL' : L = s.size + 1 + k := by rw [hL, hl]
    have HL' : Hid (L = s.size + 1 + k) := hL'
    have hLb : L ≤ 1048900 := by omega
    have hL0 : 1 ≤ L := by omega
    have tm : (L : Int).tmod 136 = (L : Int) % 136 := Int.tmod_eq_emod_of_nonneg (by omega)
    by_cases hlt : k < 135 - h
    · have hb2 : ((L : Int) % 136 != 0) = true := by rw [bne_iff_ne]; have := Hh.out; rw [hl] at this; omega
      have hX := holds_one wr 0
      have hbx : Below wr.heap.size wr (wr.alloc (.cells #[.int .u8 (ub 0)] 5)) := (Below.refl _ _).alloc (Nat.le_refl _) _
      obtain ⟨v2, w2, hap, own2, hbb⟩ := append_own (c := 1) (own.below hbx) hX (by rw [World.size_alloc]; have := hb.size; omega) (by rw [hLL]; simp; omega) 1 rfl
      have own3 : Own w.heap.size w2 v2 (padT s.data.toList e (k + 1)) := by rw [← padT_next]; exact own2
      have hb3 : Below w.heap.size w w2 := (hb.trans (hbx.mono hb.size)).trans hbb
      clear hL hL' hLL own own2 hX hbb hbx hH hT
      go_wp2_with (at_builtin; refine Lib.wpList_append_run _ rfl _ _ 22 22 rfl _ _ rfl rfl _ _ hap ?_)
      go_roundg (gk - 1)
      case measure => omega
      case rel => exact ⟨k + 1, by omega, own3, hb3⟩
    · have hb2 : ((L : Int) % 136 != 0) = false := by
        rw [bne_eq_false_iff_eq]; have := Hh.out; rw [hl] at this; omega
      have hk0 : k = 135 - s.data.toList.length % 136 := by have := Hh.out; omega
      obtain ⟨x, hx⟩ : ∃ x, cur[L - 1]! = x := ⟨_, rfl⟩
      obtain ⟨c0, f0⟩ := at_byte hH (L - 1) (by omega) hx
      rw [Nat.zero_add] at c0 f0
      have hx80 := xor80 x
      have hTot := total_at s.data.toList e cur L k hk0 hL (by omega) hT
      rw [hx] at hTot
      have hH2 := Holds.set hH (i := L - 1) (by omega) (x ^^^ 128)
      rw [Nat.zero_add] at hH2
      have htl : (total s.data.toList e).length = L := by rw [total_length]; omega
      have hTA : Holds encB (wr.setCell ⟨g, L - 1, none⟩ (.int .u8 (ub (x ^^^ 128)))) g 0 (total s.data.toList e).toArray :=
        Holds.front hH2 (by rw [Array.size_setIfInBounds, List.size_toArray, htl]; omega) (fun j hj => by rw [list_arr_at]; exact (hTot j (by simpa [htl] using hj)).symm)
      have hb4 : Below w.heap.size w (wr.setCell ⟨g, L - 1, none⟩ (.int .u8 (ub (x ^^^ 128)))) := hb.setCell (p := ⟨g, L - 1, none⟩) hg _
      have hg4 : g < (wr.setCell ⟨g, L - 1, none⟩ (.int .u8 (ub (x ^^^ 128)))).heap.size := by rw [World.size_setCell]; exact hgl
      obtain ⟨M, hM⟩ : ∃ M, s.data.toList.length / 136 + 1 = M := ⟨_, rfl⟩
      have hLM : L = 136 * M := by have := Hh.out; omega
      have HLM : Hid (L = 136 * M) := hLM
      have HM : Hid (s.data.toList.length / 136 + 1 = M) := hM
      have z1 : (0 : Int) ≤ (L : Int) - 1 := by omega
      have z2 : (L : Int) - 1 < (L : Int) := by omega
      have z3 : ((L : Int) - 1).toNat = L - 1 := by omega
      have hmk := HM200.out
      clear hM hLM hTot hH2 hH hT hx hL hL' hLL own hk0
      go_wp2
      clear hmk c0 f0 hb2 tm hx80
      have hW2 : (wr.setCell ⟨g, L - 1, none⟩ (.int .u8 (ub (x ^^^ 128)))).heap.size = wr.heap.size := by rw [World.size_setCell]
      generalize wr.setCell ⟨g, L - 1, none⟩ (.int .u8 (ub (x ^^^ 128))) = W2 at hTA hb4 hg4 hW2 ⊢
      have hS0 : Holds encB (W2.alloc (.cells (madeCells #[.int .u8 0] 200) 5)) W2.heap.size 0 (refSt (total s.data.toList e) 0) := Holds.made (enc := encB) W2 5 200 0
      have hb5' : Below W2.heap.size W2 (W2.alloc (.cells (madeCells #[.int .u8 0] 200) 5)) := (Below.refl _ _).alloc (Nat.le_refl _) _
      have hs5 : W2.heap.size < (W2.alloc (.cells (madeCells #[.int .u8 0] 200) 5)).heap.size := by simp
      have hTA5 := Holds.below hTA hb5' hg4
      have hb5 := hb4.trans (hb5'.mono hb4.size)
      have hz4 := hb4.size
      rw [hW2] at hS0 hs5 hg4 hz4
      generalize hSG : wr.heap.size = SG at *
      generalize (W2.alloc _) = W3 at hS0 hb5 hs5 hTA5 ⊢
      clear hTA hb4 hb5' hSG hW2
      go_loopg [8, 9] M (fun g2 s8 s9 wr => ∃ (i sg sc : Nat), i + g2 = M ∧ s9 = .int .i64 ((136 * i : Nat) : Int) ∧ s8 = .slice (some ⟨sg, 0, none⟩) 200 sc ∧ 200 ≤ sc ∧ w.heap.size ≤ sg ∧ sg ≠ g ∧ Holds encB wr sg 0 (refSt (total s.data.toList e) i) ∧ Holds encB wr g 0 (total s.data.toList e).toArray ∧ Below w.heap.size w wr)
      case atStart => exact ⟨0, SG, 200, by omega, rfl, rfl, Nat.le_refl _, by omega, by omega, hS0, hTA5, hb5⟩
      case round =>
        clear hS0 hTA5 hb5 hs5
        obtain ⟨i, sg, sc, hi, rfl, rfl, hsc, hsg, hne, hS, hTA, hb⟩ := hrel
        have hrs : (refSt (total s.data.toList e) i).size = 200 := by
          cases i with
          | zero => rw [refSt, Array.size_replicate]
          | succ i => rw [refSt, permB, front_size]
        have hgz : g < wr.heap.size := Holds.lt hTA (by rw [List.size_toArray, htl]; omega)
        by_cases hlt : i < M
        · have hlt' : ((136 * i : Nat) : Int) < (L : Int) := by have := HLM.out; omega
          have hii : 136 * i + 136 ≤ L := by have := HLM.out; omega
          generalize hI : 136 * i = I at *
          have HI : Hid (136 * i = I) := hI
          clear hI
          go_wp2
          have hD0 : Holds encB wr sg 0 (xorB (refSt (total s.data.toList e) i) (total s.data.toList e) I 0) := hS
          generalize hR : refSt (total s.data.toList e) i = R at *
          have HR : Hid (R = refSt (total s.data.toList e) i) := hR.symm
          clear hR
          go_loopg [10] 136 (fun g3 s10 wq => ∃ (k : Nat) (st : Bs), k + g3 = 136 ∧ s10 = .int .i64 k ∧ Holds encB wq sg 0 st ∧ Only sg 0 200 wr wq ∧ Hid (st = xorB R (total s.data.toList e) I k))
          case atStart => exact ⟨0, _, rfl, rfl, hD0, Only.refl _ _ _ _, rfl⟩
          case round =>
            clear hD0
            obtain ⟨k, st, hk, rfl, hSt, hO, HE⟩ := hrel
            have hsts : st.size = 200 := by rw [HE.out, xorB_size]; exact hrs
            have hTq := Holds.other hTA hO (Ne.symm hne) (by rw [List.size_toArray, htl]; omega)
            by_cases hltk : k < 136
            · obtain ⟨y, hy⟩ : ∃ y, (total s.data.toList e)[I + k]! = y := ⟨_, rfl⟩
              obtain ⟨c0, f0⟩ := at_byte (x := y) hTq (I + k) (by rw [List.size_toArray, htl]; omega) (by rw [list_arr_at]; exact hy)
              obtain ⟨z, hz⟩ : ∃ z, st[k]! = z := ⟨_, rfl⟩
              obtain ⟨c1, f1⟩ := at_byte hSt k (by omega) hz
              rw [Nat.zero_add] at c0 c1 f1
              have HY : Hid ((total s.data.toList e)[I + k]! = y) := hy
              have HZ : Hid (st[k]! = z) := hz
              have k136 : (k : Int) < 136 := by omega
              have k200 : (k : Int) < 200 := by omega
              have ik0 : (0 : Int) ≤ (I : Int) + (k : Int) := by omega
              have ik1 : (I : Int) + (k : Int) < (L : Int) := by omega
              have ik2 : ((I : Int) + (k : Int)).toNat = I + k := by omega
              have ik3 : IntKind.i64.wrap ((I : Int) + (k : Int)) = (I : Int) + (k : Int) := IntWalk.i64_in _ (by omega)
              clear hy hz f0 hTq
              go_wp2_with fail
              go_still_tail 14, mixed
              go_wp2
              go_roundg (gk - 1)
              case measure => omega
              case rel =>
                refine ⟨k + 1, st.setIfInBounds k (z ^^^ y), by omega, by go_num, ?_, ?_, ?_⟩
                · have := Holds.set hSt (i := k) (by omega) (z ^^^ y)
                  rw [Nat.zero_add] at this
                  exact Holds.drew this
                · exact (hO.setCell (o := k) (by omega) (by omega) _).drew
                · show _ = (xorB R (total s.data.toList e) I k).setIfInBounds k ((xorB R (total s.data.toList e) I k)[k]! ^^^ (total s.data.toList e)[I + k]!)
                  rw [← HE.out, HZ.out, HY.out]
            · have hk136 : k = 136 := by omega
              subst hk136
              have hgz2 := Holds.lt hSt (by omega)
              have kc := conv_str Tryz.prog 22 9 5 slice22 int5 str9 _ sg 0 200 sc st hSt hsts
              have hbq := hb.trans (hO.below hb.size hsg)
              obtain ⟨PB, hPB⟩ : ∃ x, permB st = x := ⟨_, rfl⟩
              have hps : PB.size = 200 := by rw [← hPB, permB, front_size]
              have HE2 : Hid (PB = refSt (total s.data.toList e) (i + 1)) := by
                show PB = permB (xorB (refSt (total s.data.toList e) i) (total s.data.toList e) (136 * i) 136)
                rw [← HR.out, HI.out, ← HE.out, hPB]
              have HPB : Hid (PB = permB st) := hPB.symm
              clear hPB HE
              go_wp2_with fail
              refine (refPermute_any ⟨st⟩ _ hsts).mono ?_
              rintro r w5 ⟨rfl, hb5⟩
              have e5 : (ByteArray.mk (permB (ByteArray.mk st).data)) = ByteArray.mk PB := congrArg ByteArray.mk HPB.out.symm
              rw [e5]
              clear e5
              obtain ⟨sc6, w6, hcv6, hle6, hH6, hb6⟩ := conv200 w5 PB hps
              have hgq := Holds.lt hTq (by rw [List.size_toArray, htl]; omega)
              have hg5 : g < w5.heap.size := Nat.lt_of_lt_of_le hgq hb5.size
              have hT6 := Holds.below (Holds.below hTq hb5 hgq) hb6 hg5
              have hb8 : Below w.heap.size w w6 := (hbq.trans (hb5.mono hbq.size)).trans (hb6.mono (by have := hb5.size; have := hbq.size; omega))
              rw [HE2.out] at hH6
              have hz5 : w.heap.size ≤ w5.heap.size := by have := hb5.size; have := hbq.size; omega
              go_wp2
              go_roundg (M - (i + 1))
              case measure => omega
              case rel => exact ⟨i + 1, w5.heap.size, sc6, by omega, by rw [← HI.out]; go_num, rfl, hle6, hz5, by omega, hH6, hT6, hb8⟩
        · have hiM : i = M := by omega
          have hge : (L : Int) ≤ ((136 * i : Nat) : Int) := by have := HLM.out; omega
          obtain ⟨d, hd⟩ : ∃ d, absorb s.data.toList e = d := ⟨_, rfl⟩
          obtain ⟨F, hF⟩ : ∃ F, front (permN d 0) 200 = F := ⟨_, rfl⟩
          have hSf : Holds encB wr sg 0 F := by
            have := refSt_total s.data.toList e
            rw [HM.out, ← hiM, hd] at this
            rw [this] at hS
            rw [← hF, permN]
            exact hS
          have hab : d.size = 25 := by rw [← hd]; exact absorb_size s.data.toList e
          have HDD : Hid (d = absorb s.data.toList e) := hd.symm
          have HFF : Hid (F = front (permN d 0) 200) := hF.symm
          clear hS hrs hTA hgz hiM hlt hi hd hF
          generalize hI : 136 * i = I at *
          clear hI
          have hdec : decide ((I : Int) < (L : Int)) = false := decide_eq_false (by omega)
          have hdec2 : decide (I < L) = false := decide_eq_false (by omega)
          go_wp2
          go_loopg [8, 11] (n + 136) (fun g4 s8 s11 wq => ∃ (m sg sc : Nat) (o : ByteArray) (Fm : Bs), 136 * m + g4 = n + 136 ∧ 1 ≤ g4 ∧ s11 = .string o ∧ o.size = 136 * m ∧ s8 = .slice (some ⟨sg, 0, none⟩) 200 sc ∧ 200 ≤ sc ∧ Holds encB wq sg 0 Fm ∧ Fm.size = 200 ∧ Below w.heap.size w wq ∧ Hid (Fm = front (permN d m) 200) ∧ Hid (∀ j, j < 136 * m → o.data[j]! = streamAt d j))
          case atStart => exact ⟨0, sg, sc, ByteArray.empty, F, by omega, by omega, rfl, rfl, rfl, hsc, hSf, by rw [HFF.out, front_size], hb, HFF, fun j hj => by omega⟩
          case round =>
            clear hSf HFF hsc
            obtain ⟨m, sg, sc, o, Fm, hg4, hg41, rfl, ho, rfl, hsc, hF, hFs, hb, HF, HO⟩ := hrel
            have Ho : Hid (o.size = 136 * m) := ho
            have hob : o.size ≤ n + 136 := by omega
            by_cases hlt : o.size < n
            · have hlt' : (o.size : Int) < (n : Int) := by omega
              obtain ⟨Q, hQ⟩ : ∃ Q, front (permN d m) 136 = Q := ⟨_, rfl⟩
              have hQs : Q.size = 136 := by rw [← hQ, front_size]
              have hQa : ∀ j, j < 136 → Q[j]! = byteOf (permN d m) j := fun j hj => by rw [← hQ, front_at _ _ _ hj]
              have hHQ : Holds encB wr sg 0 Q := by
                have h1 := front_front (permN d m)
                rw [← HF.out, hQ] at h1
                exact Holds.front hF h1.1 h1.2
              have hnx := out_next o d m Q hQs hQa ho HO
              have HNX : Hid ((o ++ ⟨Q⟩).size = 136 * (m + 1) ∧ ∀ j, j < 136 * (m + 1) → (o ++ (⟨Q⟩ : ByteArray)).data[j]! = streamAt d j) := hnx
              obtain ⟨PB, hPB⟩ : ∃ x, permB Fm = x := ⟨_, rfl⟩
              have hps : PB.size = 200 := by rw [← hPB, permB, front_size]
              have HN : Hid (PB = front (permN d (m + 1)) 200) := by
                show PB = front (perm (permN d m)) 200
                rw [← hPB, HF.out, permB_front _ (permN_size d hab m)]
              have HPB : Hid (PB = permB Fm) := hPB.symm
              have kc1 := conv_str Tryz.prog 22 9 5 slice22 int5 str9 wr sg 0 136 sc Q hHQ hQs
              have kc2 := conv_str Tryz.prog 22 9 5 slice22 int5 str9 wr sg 0 200 sc Fm hF hFs
              have hsc0 : (sc = 0) = False := eq_false (by omega)
              have hsc1 : (136 : Int) ≤ (sc : Int) := by omega
              clear hQ hQa hHQ hnx hPB HO ho
              go_wp2_with fail
              refine (refPermute_any ⟨Fm⟩ _ hFs).mono ?_
              rintro r w5 ⟨rfl, hb5⟩
              have e5 : (ByteArray.mk (permB (ByteArray.mk Fm).data)) = ByteArray.mk PB := congrArg ByteArray.mk HPB.out.symm
              rw [e5]
              clear e5
              obtain ⟨sc6, w6, hcv6, hle6, hH6, hb6⟩ := conv200 w5 PB hps
              have hb8 : Below w.heap.size w w6 := (hb.trans (hb5.mono hb.size)).trans (hb6.mono (by have := hb5.size; have := hb.size; omega))
              go_wp2
              go_roundg (gk - 136)
              case measure => have := Ho.out; omega
              case rel => exact ⟨m + 1, w5.heap.size, sc6, o ++ (ByteArray.mk Q), PB, by have := Ho.out; omega, by have := Ho.out; omega, rfl, HNX.out.1, rfl, hle6, hH6, hps, hb8, HN, HNX.out.2⟩
            · have hge : (n : Int) ≤ (o.size : Int) := by omega
              have hex := stream_bytes o d n m ho (by omega) HO
              have HEX : Hid (o.extract 0 n = ⟨streamL d n⟩) := hex
              clear hex ho HO
              go_wp2
              go_ret
              rw [← HDD.out, ← HEX.out]
              exact ⟨rfl, hb⟩
end Go.Proofs.YticolhhalbbogacGreat.SP
namespace Go.Proofs.YticolhhalbbogacGreat.SP
open Go.RowKit Go.Sort Go.Deep
/-- What is at the front is held. -/
theorem Holds.prefix {α : Type} [Inhabited α] {f : α → Value} {w : World} {b o : Nat} {d e : Array α} (h : Holds f w b o d) (hs : e.size ≤ d.size) (he : ∀ j, j < e.size → e[j]! = d[j]!) : Holds f w b o e := by
  intro j hj
  rw [he j hj]
  exact h j (by omega)
theorem lentTo_front (s : ByteArray) (k j : Nat) (hj : j < s.data.size) : (lentTo s k)[j]! = s.data[j]! := by
  induction k with
  | zero => rw [lent_front s j hj, getElem!_pos s.data j hj]
  | succ k ih =>
    show ((lentTo s k).setIfInBounds (s.size + k) (fill (s.size + k)))[j]! = _
    have : s.data.size = s.size := rfl
    rw [getElem!_set_other _ _ _ _ (by omega), ih]
theorem holds_text {w : World} {b : Nat} (s : ByteArray) (h : Holds encB w b 0 (lent s)) : Holds encB w b 0 s.data := by
  have : s.data.size = s.size := rfl
  exact Holds.prefix h (by rw [lent_size]; omega) (fun j hj => (lentTo_front s 160 j hj).symm)
end Go.Proofs.YticolhhalbbogacGreat.SP
namespace Go.Proofs.YticolhhalbbogacGreat.SP
open Go.RowKit Go.Sort Go.Deep
set_option maxHeartbeats 1000000 in
theorem refHash_any (s : ByteArray) (w : World) (hs : s.size ≤ 1048576) :
    Calls Tryz.prog 57 #[.string s] w fun r w' => r = .returned (.string ⟨hashL s.data.toList⟩) ∧ Below w.heap.size w w' := by
  go_enter Tryz.func57, Tryz.ntmps57
  go_wp2_with fail
  refine (refSponge_any s 6 32 _ hs (by decide)).mono ?_
  rintro r w1 ⟨rfl, hb⟩
  rw [← hash_stream]
  go_wp2
  go_ret
  exact ⟨rfl, hb⟩
theorem strmL_size (l : List UInt8) (n : Nat) : (strmL l n).size = n := by rw [strmL, streamL_size]
end Go.Proofs.YticolhhalbbogacGreat.SP
namespace Go.Proofs.YticolhhalbbogacGreat.SP
open Go.RowKit Go.Sort Go.Deep
set_option maxHeartbeats 2000000 in
set_option maxRecDepth 100000 in
theorem refTag_any (label : ByteArray) (pa : Option Addr) (pcap : Nat) (ps : List ByteArray) (w : World) (hlab : label.size ≤ 1048576) (hpl : ps.length ≤ 1048576)
    (hP : ps.length = 0 ∨ ∃ pb po, pa = some ⟨pb, po, none⟩ ∧ ∀ j, j < ps.length → w.cell? ⟨pb, po + j, none⟩ = some (.string ps[j]!)) (hsz : ∀ j, j < ps.length → (ps[j]!).size ≤ 1048576)
    (htot : (framesL label.data.toList (ps.map fun s => s.data.toList)).length ≤ 1048576) :
    Calls Tryz.prog 29 #[.string label, .slice pa ps.length pcap] w fun e w' => e = .returned (.string ⟨tagL label.data.toList (ps.map fun s => s.data.toList)⟩) ∧ Below w.heap.size w w' := by
  obtain ⟨n, hn⟩ : ∃ n, ps.length = n := ⟨_, rfl⟩
  rw [hn]
  have Hn : Hid (ps.length = n) := hn
  have hn20 : n ≤ 1048576 := by omega
  clear hn
  go_enter Tryz.func29, Tryz.ntmps29
  go_wp2_with fail
  refine (Frame_any label _ hlab).mono ?_
  rintro e w1 ⟨o1, rfl, ho1, hb1⟩
  go_wp2
  go_loopg [5, 6] n (fun g s5 s6 wr => ∃ (k : Nat) (o : ByteArray), k + g = n ∧ s6 = .int .i64 k ∧ s5 = .string o ∧ Below w.heap.size w wr ∧ Hid (o.data.toList = framesL label.data.toList ((ps.map fun s => s.data.toList).take k)))
  case atStart =>
    refine ⟨0, o1, by omega, rfl, rfl, hb1, ?_⟩
    rw [List.take_zero]
    unfold framesL
    rw [List.flatMap_nil, List.append_nil]
    exact ho1
  case round =>
    clear ho1 hb1
    obtain ⟨k, o, hk, rfl, rfl, hb, HE⟩ := hrel
    by_cases hlt : k < n
    · obtain ⟨pb, po, rfl, hPj⟩ : ∃ pb po, pa = some ⟨pb, po, none⟩ ∧ ∀ j, j < ps.length → w.cell? ⟨pb, po + j, none⟩ = some (.string ps[j]!) := by
        rcases hP with h | h
        · have := Hn.out; omega
        · exact h
      have hvc := hPj k (by have := Hn.out; omega)
      have hszk := hsz k (by have := Hn.out; omega)
      obtain ⟨s, hs⟩ : ∃ s, ps[k]! = s := ⟨_, rfl⟩
      rw [hs] at hvc hszk
      have HS : Hid (s = ps[k]!) := hs.symm
      have hvc' : wr.cell? ⟨pb, po + k, none⟩ = some (.string s) := by rw [hb.cell (p := ⟨pb, po + k, none⟩) (World.block_lt_of_cell? _ _ hvc)]; exact hvc
      have l1 : (k : Int) < (n : Int) := by omega
      clear hs hvc hPj
      go_wp2_with fail
      refine (Frame_any s _ hszk).mono ?_
      rintro e w2 ⟨o2, rfl, ho2, hb2⟩
      have HO2 : Hid (o2.data.toList = frameL s.data.toList) := ho2
      have hos : o.size ≤ 1048576 := by
        have h1 : o.data.toList.length = o.size := Array.length_toList
        rw [HE.out] at h1
        have := framesL_take label.data.toList (ps.map fun s => s.data.toList) k
        omega
      have ho2s : o2.size ≤ 1048580 := by
        have h1 : o2.data.toList.length = o2.size := Array.length_toList
        have h2 : s.data.toList.length = s.size := Array.length_toList
        rw [ho2, frameL_length] at h1
        omega
      clear ho2
      go_wp2
      go_roundg (gk - 1)
      case measure => omega
      case rel =>
        refine ⟨k + 1, o ++ o2, by omega, by go_num, rfl, hb.trans (hb2.mono hb.size), ?_⟩
        have hkl : k < (ps.map fun s => s.data.toList).length := by rw [List.length_map]; have := Hn.out; omega
        have hkl2 : k < ps.length := by have := Hn.out; omega
        rw [take_snoc_getD _ k hkl, framesL_snoc, ByteArray.data_append, Array.toList_append, HE.out, HO2.out, getElem!_pos (ps.map fun s => s.data.toList) k hkl, List.getElem_map, HS.out, getElem!_pos ps k hkl2]
        rfl
    · have l1 : (n : Int) ≤ (k : Int) := by omega
      have HE2 : Hid (o.data.toList = framesL label.data.toList (ps.map fun s => s.data.toList)) := by
        have e1 : (ps.map fun s => s.data.toList).take k = ps.map fun s => s.data.toList := List.take_of_length_le (by rw [List.length_map]; have := Hn.out; omega)
        rw [e1] at HE
        exact HE
      have hos : o.size ≤ 1048576 := by
        have h1 : o.data.toList.length = o.size := Array.length_toList
        rw [HE2.out] at h1
        omega
      clear HE
      go_wp2_with fail
      refine (refHash_any o _ hos).mono ?_
      rintro e w3 ⟨rfl, hb3⟩
      rw [HE2.out]
      go_wp2
      go_ret
      exact ⟨rfl, hb.trans (hb3.mono hb.size)⟩
end Go.Proofs.YticolhhalbbogacGreat.SP
namespace Go.Proofs.YticolhhalbbogacGreat
open Go.RowKit Go.Sort Go.Deep
/-- Bytes of a number, one by one, as the reference lays them. -/
def bytesTo (T : Bs) : Nat → Bs
  | 0 => Array.replicate 32 0
  | k + 1 => (bytesTo T k).setIfInBounds k T[k]!
theorem bytesTo_size (T : Bs) (k : Nat) : (bytesTo T k).size = 32 := by
  induction k with
  | zero => simp [bytesTo]
  | succ k ih => simp [bytesTo, ih]
theorem bytesTo_at (T : Bs) (k j : Nat) (hk : k ≤ 32) (hj : j < k) : (bytesTo T k)[j]! = T[j]! := by
  induction k with
  | zero => omega
  | succ k ih =>
    by_cases h : j = k
    · subst h
      exact getElem!_set_same _ _ _ (by rw [bytesTo_size]; omega)
    · rw [bytesTo, getElem!_set_other _ _ _ _ h]
      exact ih (by omega) (by omega)
theorem bytesTo_all {w : World} {g : Nat} {T : Bs} (hT : T.size = 32) (h : Holds encB w g 0 (bytesTo T 32)) : Holds encB w g 0 T := by
  intro j hj
  rw [← bytesTo_at T 32 j (Nat.le_refl _) (by omega)]
  exact h j (by rw [bytesTo_size]; omega)
/-- The word in which a byte lies. -/
def wordOf (a b c d k : Nat) : Nat := if k < 8 then a else if k < 16 then b else if k < 24 then c else d
theorem be8_at (x j : Nat) (hj : j < 8) : (be8 x)[j]! = UInt8.ofNat (x / 2 ^ (8 * (7 - j))) := by
  match j, hj with
  | 0, _ => rfl
  | 1, _ => rfl
  | 2, _ => rfl
  | 3, _ => rfl
  | 4, _ => rfl
  | 5, _ => rfl
  | 6, _ => rfl
  | 7, _ =>
    show UInt8.ofNat x = UInt8.ofNat (x / 2 ^ (8 * (7 - 7)))
    rw [Nat.sub_self, Nat.mul_zero, Nat.pow_zero, Nat.div_one]
theorem be32_at (a b c d i : Nat) (hi : i < 32) : (be32 a b c d)[i]! = UInt8.ofNat (wordOf a b c d (31 - i) / 2 ^ (8 * ((31 - i) % 8))) := by
  have e : be32 a b c d = be8 d ++ be8 c ++ be8 b ++ be8 a := rfl
  have s1 : (be8 d ++ be8 c).size = 16 := by simp only [Array.size_append, be8_size]
  have s2 : (be8 d ++ be8 c ++ be8 b).size = 24 := by simp only [Array.size_append, be8_size]
  unfold wordOf
  by_cases k1 : i < 8
  · rw [if_neg (by omega), if_neg (by omega), if_neg (by omega), show (31 - i) % 8 = 7 - i by omega, ← be8_at d i k1,
      e, app_front _ _ i (by omega), ← getElem!_pos (be8 d ++ be8 c ++ be8 b) i (by omega), app_front _ _ i (by omega), ← getElem!_pos (be8 d ++ be8 c) i (by omega), app_front _ _ i (by rw [be8_size]; exact k1), ← getElem!_pos (be8 d) i (by rw [be8_size]; exact k1)]
  · by_cases k2 : i < 16
    · rw [if_neg (by omega), if_neg (by omega), if_pos (by omega), show (31 - i) % 8 = 7 - (i - 8) by omega, ← be8_at c (i - 8) (by omega),
        e, app_front _ _ i (by omega), ← getElem!_pos (be8 d ++ be8 c ++ be8 b) i (by omega), app_front _ _ i (by omega), ← getElem!_pos (be8 d ++ be8 c) i (by omega), app_back _ _ i (by rw [be8_size]; omega) (by rw [be8_size, be8_size]; omega), be8_size]
    · by_cases k3 : i < 24
      · rw [if_neg (by omega), if_pos (by omega), show (31 - i) % 8 = 7 - (i - 16) by omega, ← be8_at b (i - 16) (by omega),
          e, app_front _ _ i (by omega), ← getElem!_pos (be8 d ++ be8 c ++ be8 b) i (by omega), app_back _ _ i (by omega) (by rw [s1, be8_size]; omega), s1]
      · rw [if_pos (by omega), show (31 - i) % 8 = 7 - (i - 24) by omega, ← be8_at a (i - 24) (by omega),
          e, app_back _ _ i (by omega) (by rw [s2, be8_size]; omega), s2]
theorem wordOf_lt {a b c d : Nat} (k : Nat) (ha : a < 18446744073709551616) (hb : b < 18446744073709551616) (hc : c < 18446744073709551616) (hd : d < 18446744073709551616) : wordOf a b c d k < 18446744073709551616 := by
  unfold wordOf; split; exact ha; split; exact hb; split; exact hc; exact hd
theorem At4.word {w : World} {k a b c d : Nat} (h : At4 w k a b c d) (i : Nat) (hi : i < 32) : w.cell? ⟨k, i / 8, none⟩ = some (.int .u64 (wordOf a b c d i : Int)) := by
  unfold wordOf
  by_cases h1 : i < 8
  · rw [if_pos h1, show i / 8 = 0 by omega]; exact h.c0
  · rw [if_neg h1]
    by_cases h2 : i < 16
    · rw [if_pos h2, show i / 8 = 1 by omega]; exact h.c1
    · rw [if_neg h2]
      by_cases h3 : i < 24
      · rw [if_pos h3, show i / 8 = 2 by omega]; exact h.c2
      · rw [if_neg h3, show i / 8 = 3 by omega]; exact h.c3
set_option maxHeartbeats 2000000 in
set_option maxRecDepth 100000 in
theorem rBytes_any (x : Value) (m : Nat) (w : World) (hx : Four x m) :
    Calls Tryz.prog 28 #[x] w (Ret fun e w' => Below w.heap.size w w' ∧ ∃ a b c d : Nat, x = .agg #[.int .u64 (a : Int), .int .u64 (b : Int), .int .u64 (c : Int), .int .u64 (d : Int)] ∧ e = .string ⟨be32 a b c d⟩) := by
  obtain ⟨a, b, c, d, rfl, ha, hb, hc, hd, em⟩ := hx
  clear em
  have hmk : ∀ w : World, (Instr.makeSlice 22 (.int .i64 32) (.int .i64 32)).run Tryz.prog w = .ok (.slice (some ⟨w.heap.size, 0, none⟩) 32 32) (w.alloc (.cells (madeCells #[.int .u8 0] 32) 5)) :=
    run_make_row' (P := Tryz.prog) 22 5 (.int .u8 0) 1 slice22 info5 rfl .i64 .i64 32 (by omega) (by omega)
  go_enter Tryz.func28, Tryz.ntmps28
  go_wp2
  have hH0 : Holds encB (((w.alloc (.cells #[.int .u64 (a : Int), .int .u64 (b : Int), .int .u64 (c : Int), .int .u64 (d : Int)] 32)).alloc (.cells (madeCells #[.int .u8 0] 32) 5))) (w.heap.size + 1) 0 (Array.replicate 32 0) := by
    have := Holds.made (enc := encB) (w.alloc (.cells #[.int .u64 (a : Int), .int .u64 (b : Int), .int .u64 (c : Int), .int .u64 (d : Int)] 32)) 5 32 0
    rw [World.size_alloc] at this
    exact this
  have hb0 := below2 w (.cells #[.int .u64 (a : Int), .int .u64 (b : Int), .int .u64 (c : Int), .int .u64 (d : Int)] 32) (.cells (madeCells #[.int .u8 0] 32) 5)
  have X := (At4.made w 32 a b c d rfl).alloc (.cells (madeCells #[.int .u8 0] 32) 5)
  generalize World.alloc _ _ = W at hH0 hb0 X ⊢
  have HBW : Hid (Below w.heap.size w W) := hb0
  clear hb0 hmk
  go_loopg [4] 32 (fun gk s4 wr => ∃ (k : Nat), k + gk = 32 ∧ s4 = .int .i64 (k : Int) ∧ Holds encB wr (w.heap.size + 1) 0 (bytesTo (be32 a b c d) k) ∧ At4 wr w.heap.size a b c d ∧ Hid (Below w.heap.size w wr))
  case atStart => exact ⟨0, rfl, rfl, hH0, X, HBW⟩
  case round =>
    obtain ⟨k, hk, rfl, hB, X', HB⟩ := hrel
    by_cases hlt : k < 32
    · obtain ⟨c0, f0⟩ := hB k (by rw [bytesTo_size]; omega)
      rw [Nat.zero_add] at c0 f0
      have xw := X'.word (31 - k) (by omega)
      have hwl := wordOf_lt (31 - k) ha hb hc hd
      have hbyte := be32_at a b c d k hlt
      obtain ⟨q, hq⟩ : ∃ q, 31 - k = q := ⟨_, rfl⟩
      rw [hq] at xw hwl hbyte
      generalize wordOf a b c d q = v at xw hwl hbyte
      have i1 : (31 : Int) - (k : Int) = (q : Int) := by omega
      have i2 : (q : Int).tdiv 8 = ((q / 8 : Nat) : Int) := by rw [Int.tdiv_eq_ediv_of_nonneg (by omega)]; omega
      have i3 : (q : Int).tmod 8 = ((q % 8 : Nat) : Int) := by rw [Int.tmod_eq_emod_of_nonneg (by omega)]; omega
      have i4 : (q / 8 : Nat) < 4 := by omega
      have hlt' : (k : Int) < 32 := by omega
      have hs1 : (8 : Int) * ((q % 8 : Nat) : Int) = ((8 * (q % 8) : Nat) : Int) := by omega
      have hv : (Value.int .u8 ((v : Int) / 2 ^ (8 * (q % 8)) % 256)) = encB (be32 a b c d)[k]! := by
        rw [hbyte, ← byte_at v (2 ^ (8 * (q % 8))), Int.natCast_pow]
        rfl
      have Hv : Hid (_ = _) := hv
      clear hv hbyte hq
      go_wp2
      rw [Hv.out]
      go_roundg (gk - 1)
      case measure => omega
      case rel =>
        refine ⟨k + 1, by omega, rfl, ?_, X'.other (by omega) _, HB.out.setCell (p := ⟨w.heap.size + 1, k, none⟩) (Nat.le_succ _) _⟩
        have := Holds.set hB (i := k) (by rw [bytesTo_size]; omega) (be32 a b c d)[k]!
        rw [Nat.zero_add] at this
        exact this
    · have hk32 : k = 32 := by omega
      subst hk32
      have hT := bytesTo_all (be32_size a b c d) hB
      have kc := conv_str Tryz.prog 22 9 5 slice22 int5 str9 wr (w.heap.size + 1) 0 32 32 _ hT (be32_size a b c d)
      clear hB hT
      go_wp2
      go_ret
      exact ⟨_, rfl, HB.out, a, b, c, d, rfl, rfl⟩
end Go.Proofs.YticolhhalbbogacGreat
namespace Go.Proofs.YticolhhalbbogacGreat
open Go.RowKit Go.Sort Go.Deep
variable {P : Nat} [NeZero P]
theorem rBytes_c (C : Fld P) (x : Fin P) : Gives 28 #[fv x] (.string ⟨bx x.val⟩) := fun w =>
  (rBytes_any _ _ w (C.four x)).mono (by
    rintro e w' ⟨v, rfl, hb, a, b, c, d, he, rfl⟩
    refine ⟨_, rfl, hb, ?_⟩
    have h2 : fv x = .agg #[.int .u64 ((x.val % 18446744073709551616 : Nat) : Int), .int .u64 ((x.val / 18446744073709551616 % 18446744073709551616 : Nat) : Int), .int .u64 ((x.val / 340282366920938463463374607431768211456 % 18446744073709551616 : Nat) : Int), .int .u64 ((x.val / 6277101735386680763835789423207666416102355444464034512896 % 18446744073709551616 : Nat) : Int)] := rfl
    rw [h2] at he
    simp only [Value.agg.injEq, Array.mk.injEq, List.cons.injEq, Value.int.injEq, true_and, and_true, Int.ofNat_inj] at he
    obtain ⟨rfl, rfl, rfl, rfl⟩ := he
    rfl)
theorem u31 : (Tryz.prog.underlying 30).map (·.isRow) = some false := by kernel_rfl
theorem and1 (n r : Nat) (hr : n % 2 = r) (w : World) : (binOp .and 30 (.int .u64 ((n % 18446744073709551616 : Nat) : Int)) (.int .u64 1)).run Tryz.prog w = .ok (.int .u64 (r : Int)) w := by
  have h := and_one (n % 18446744073709551616) (Nat.mod_lt _ (by decide))
  rw [show n % 18446744073709551616 % 2 = r by omega] at h
  generalize n % 18446744073709551616 = k at h ⊢
  go_simp
theorem cat (m : UInt8) (n : Nat) (w : World) : (binOp .add 9 (.string ⟨#[m]⟩) (.string ⟨bx n⟩)).run Tryz.prog w = .ok (.string ⟨#[m] ++ bx n⟩) w := by
  have h := bx_size n
  generalize bx n = b at h ⊢
  have h2 : (⟨#[m]⟩ : ByteArray) ++ ⟨b⟩ = ⟨#[m] ++ b⟩ := by
    have h3 : ((⟨#[m]⟩ : ByteArray) ++ ⟨b⟩).data = #[m] ++ b := ByteArray.data_append
    rw [← h3]
  go_simp
set_option maxRecDepth 100000 in
theorem bs1 (m : Int) (w : World) : (Instr.buildSlice 22 1 #[(0, .int .u8 m)]).run Tryz.prog w = .ok (.slice (some ⟨w.heap.size, 0, none⟩) 1 1) (w.alloc (.cells #[.int .u8 m] 5)) := by
  obtain ⟨ie, hie, he⟩ := Option.map_eq_some_iff.1 info5b
  simp only [Prod.mk.injEq] at he
  obtain ⟨h1, h2, -⟩ := he
  exact run_buildSlice w 22 5 1 _ #[.int .u8 m] ie (.int .u8 0) und23 hie h1 (by rw [h2]; omega) (by rw [h2]; omega) (by rw [h2]; kernel_rfl)
set_option maxRecDepth 100000 in
theorem str1 (m : UInt8) (w : World) (k : Nat) (h : w.rangeAt k 0 [.int .u8 (ub m)]) : (convert 22 9 (.slice (some ⟨k, 0, none⟩) 1 1)).run Tryz.prog w = .ok (.string ⟨#[m]⟩) w := by
  have h2 := run_convert_bytes_back (P := Tryz.prog) w 22 9 5 ⟨k, 0, none⟩ 1 [m] slice22 int5 str9 (fun j hj => by
    obtain rfl : j = 0 := by simpa using hj
    have h3 := h 0 _ rfl
    have e1 : (⟨k, 0, none⟩ : Addr).add 0 = ⟨k, 0, none⟩ := rfl
    rw [e1, h3]
    simp [ub])
  simpa using h2
omit [NeZero P] in
theorem words3 (x y z : Fin P) : ∃ a1 b1 c1 d1 a2 b2 c2 d2 a3 b3 c3 d3 : Nat, rv x y z = .agg #[.int .u64 (a1 : Int), .int .u64 (b1 : Int), .int .u64 (c1 : Int), .int .u64 (d1 : Int), .int .u64 (a2 : Int), .int .u64 (b2 : Int), .int .u64 (c2 : Int), .int .u64 (d2 : Int), .int .u64 (a3 : Int), .int .u64 (b3 : Int), .int .u64 (c3 : Int), .int .u64 (d3 : Int)] :=
  ⟨_, _, _, _, _, _, _, _, _, _, _, _, rfl⟩
set_option maxHeartbeats 2000000 in
set_option maxRecDepth 100000 in
theorem rWr_z (C : Fl3 P) (x y z : Fin P) (hz : z = 0) : Gives 10 #[rv x y z] (.string ⟨zs33⟩) := by
  intro w
  have hI := Is_t_c C x y z hz
  obtain ⟨a1, b1, c1, d1, a2, b2, c2, d2, a3, b3, c3, d3, e⟩ := words3 x y z
  rw [e] at hI ⊢
  have hmk := mk33
  go_enter Tryz.func10, Tryz.ntmps10
  go_wp2_with fail
  refine (hI _).mono ?_
  rintro e w1 ⟨v, rfl, hb1, rfl⟩
  have HB : Hid (Below w.heap.size w w1) := (below1 w _).trans (hb1.mono (by simp))
  have hcv : (convert 22 9 (.slice (some ⟨w1.heap.size, 0, none⟩) 33 33)).run Tryz.prog (w1.alloc (.cells (madeCells #[.int .u8 0] 33) 5)) = .ok (.string ⟨zs33⟩) (w1.alloc (.cells (madeCells #[.int .u8 0] 33) 5)) :=
    conv_str Tryz.prog 22 9 5 slice22 int5 str9 _ _ 0 33 33 _ (Holds.made (enc := encB) w1 5 33 (0 : UInt8)) (by decide)
  clear hb1 hI
  go_wp2
  go_ret
  exact ⟨_, rfl, HB.out.trans ((below1 w1 _).mono HB.out.size), rfl⟩
end Go.Proofs.YticolhhalbbogacGreat
namespace Go.Proofs.YticolhhalbbogacGreat.RG
open Go Go.RowKit
variable {P : Program} {ops : Array Oper} {Q : Exit → Act → World → Prop} {w0 : World} {k0 : Nat} {X : List Nat} {its : List It} {bl : List Bl} {olds : List (Tmp × SV)} {i : Nat} {o : Oper} {it : It}
theorem cert_bincl (hk : it.kind = .stay) (op : BinOp) (T T' : TypeId) (t2 : Tmp) (v1 v2 v : Value) (ho : o.op = .binOp op T (.const v1) (.tmp t2) T') (hout : it.out = .v v)
    (h2 : ∀ (μ : Nat → Nat) (a : Act), Known ops i its olds it.need μ a → a.eval (.tmp t2) = v2)
    (hg : ∀ w, (eqGuard op T (.const v1) (.tmp t2) v1 v2).run P w = .ok () w) (hb : ∀ w, (binOp op T v1 v2).run P w = .ok v w) : Cert P Q w0 k0 X ops i its bl olds o it := by
  refine cert_stay hk fun μ a w hK _ => ?_
  unfold execOp
  rw [ho, hout]
  dsimp only
  rw [h2 μ a hK]
  show (((eqGuard op T (.const v1) (.tmp t2) v1 v2) >>= fun _ => binOp op T v1 v2) >>= fun v => pure (Next.value v)).run P w = _
  rw [Sem.run_bind, Sem.run_bind, hg]
  dsimp only [Result.andThen]
  rw [hb]
  rfl
end Go.Proofs.YticolhhalbbogacGreat.RG
namespace Go.Proofs.YticolhhalbbogacGreat
open Go.RowKit Go.Sort Go.Deep
variable {P : Nat} [NeZero P]
theorem catP (lab : ByteArray) (h : lab.size ≤ 1000000) (w : World) : (binOp .add 9 (.string ⟨#[112, 111, 105, 110, 116, 32]⟩) (.string lab)).run Tryz.prog w = .ok (.string (⟨#[112, 111, 105, 110, 116, 32]⟩ ++ lab)) w := by
  have h2 : (⟨#[112, 111, 105, 110, 116, 32]⟩ : ByteArray).size = 6 := rfl
  have h3 : 6 + lab.size ≤ 9223372036854775807 := by omega
  go_simp
theorem convU {i : Nat} {u : UInt8} (h : (i : Int) = ub u) (hi : i < 256) (w : World) : (convert 3 5 (.int .i64 (i : Int))).run Tryz.prog w = .ok (.int .u8 (ub u)) w := by
  have h1 : IntKind.u8.wrap (ub u) = ub u := by
    have h2 := u.toNat_lt
    unfold ub
    simp [IntKind.wrap, IntKind.bits, IntKind.signed]
    omega
  rw [h]
  go_simp
def FH_0 : List RG.It := [.m 4 [] 0]
def FH_1 : List RG.It := [.x 5 [] (.int .i64 0)]
def FH_2 (i : Nat) (c : Bool) : List RG.It := [.x 9 [] (.int .i64 (i : Int)), .x 10 [(9, 0)] (.bool c)]
def FH_4 (lab s : ByteArray) (i : Nat) (u : UInt8) (T : Bs) (n : Nat) (ok : Bool) : List RG.It := [.c 14 [] rv0, .x 15 [] (.string lab), .x 16 [(15, 1)] (.string ((⟨#[112, 111, 105, 110, 116, 32]⟩ : ByteArray) ++ lab)), .x 17 [] (.string s), .x 18 [] (.int .i64 (i : Int)), .x 19 [(18, 4)] (.int .u8 (ub u)), ⟨some 20, [(19, 5)], (.s 1 1 1), .make 1⟩, .x 21 [(20, 6)] (.string ⟨#[u]⟩), ⟨some 22, [(17, 3), (21, 7)], (.s 2 2 2), .make 2⟩, .c 23 [(16, 2), (22, 8)] (.string ⟨T⟩), .c 24 [(14, 0), (23, 9)] (.tuple #[nv n, .bool ok]), .x 13 [(24, 10)] (.tuple #[nv n, .bool ok]), .x 25 [(13, 11)] (nv n), .x 26 [(13, 11)] (.bool ok), .m 6 [] 3, .u [(6, 14), (25, 12)] 3, .x 7 [(26, 13)] (.bool ok)]
def FH_5 (ok : Bool) : List RG.It := [.x 27 [] (.bool ok), .x 28 [(27, 0)] (.bool (!ok))]
def FH_6 (n : Nat) (x y : Fin P) (ok : Bool) : List RG.It := [.x 30 [] (nv n), .c 31 [(30, 0)] (.tuple #[rv x y 1, .bool ok]), .x 29 [(31, 1)] (.tuple #[rv x y 1, .bool ok]), .x 32 [(29, 2)] (rv x y 1), .x 33 [(29, 2)] (.bool ok), .m 8 [] 4, .u [(8, 5), (32, 3)] 4, .x 7 [(33, 4)] (.bool ok)]
def FH_7 (ok : Bool) : List RG.It := [.x 34 [] (.bool ok)]
def FH_8 (x y : Fin P) : List RG.It := [.x 35 [] (rv x y 1), .u [(35, 0)] 0]
def FH_3 (i : Nat) : List RG.It := [.x 11 [] (.int .i64 (i : Int)), .x 12 [(11, 0)] (.int .i64 ((i + 1 : Nat) : Int)), .x 5 [(12, 1)] (.int .i64 ((i + 1 : Nat) : Int))]
def FH_9 (x y : Fin P) : List RG.It := [.c 36 [] (rv x y 1), .u [(36, 0)] 0]
theorem cands_none {lab : ByteArray} {b : List UInt8} {i : Nat} (h : cands P lab b i = []) (hc : cand P lab b i = none) : cands P lab b (i + 1) = [] := by rw [cands_succ, h, hc]; rfl
theorem hpt_at {lab : ByteArray} {b : List UInt8} {i : Nat} {q : Fin P × Fin P} (hi : i < 256) (h : cands P lab b i = []) (hc : cand P lab b i = some q) : hpt P lab b = q := by
  have h1 : cands P lab b (i + 1) = [q] := by rw [cands_succ, h, hc]; rfl
  obtain ⟨r, hr⟩ := cands_pre (P := P) lab b (i := i + 1) (j := 256) (by omega)
  unfold hpt
  rw [← hr, h1]
  rfl
theorem hpt_end {lab : ByteArray} {b : List UInt8} (h : cands P lab b 256 = []) : hpt P lab b = (gX P, gY P) := by
  unfold hpt
  rw [h]
  rfl
theorem frames2 (l x : List UInt8) (y : List UInt8) : (SP.framesL l [x, y]).length = l.length + x.length + y.length + 12 := by
  unfold SP.framesL
  simp [SP.frameL_length]
  omega
theorem rTag_c (lab s : ByteArray) (u : UInt8) (hl : lab.size ≤ 4096) (hs : s.size ≤ 4096) (k : Nat) (w : World) (h : w.rangeAt k 0 [.string s, .string ⟨#[u]⟩] ∧ k < w.heap.size) :
    Calls Tryz.prog 29 #[.string ((⟨#[112, 111, 105, 110, 116, 32]⟩ : ByteArray) ++ lab), .slice (some ⟨k, 0, none⟩) 2 2] w (Ret fun e w' => Below w.heap.size w w' ∧ e = .string ⟨SP.tagL ((⟨#[112, 111, 105, 110, 116, 32]⟩ : ByteArray) ++ lab).data.toList [s.data.toList, [u]]⟩) := by
  have hp : ((⟨#[112, 111, 105, 110, 116, 32]⟩ : ByteArray) ++ lab).size = 6 + lab.size := ByteArray.size_append
  refine (SP.refTag_any ((⟨#[112, 111, 105, 110, 116, 32]⟩ : ByteArray) ++ lab) (some ⟨k, 0, none⟩) 2 [s, ⟨#[u]⟩] w (by omega) (Nat.le_of_ble_eq_true rfl) (Or.inr ⟨k, 0, rfl, fun j hj => ?_⟩) (fun j hj => ?_) ?_).mono ?_
  · have hj2 : j = 0 ∨ j = 1 := by simp at hj; omega
    rcases hj2 with rfl | rfl
    · exact h.1 0 _ rfl
    · exact h.1 1 _ rfl
  · have hj2 : j = 0 ∨ j = 1 := by simp at hj; omega
    rcases hj2 with rfl | rfl
    · show s.size ≤ _; omega
    · show 1 ≤ 1048576; decide
  · show (SP.framesL ((⟨#[112, 111, 105, 110, 116, 32]⟩ : ByteArray) ++ lab).data.toList [s.data.toList, [u]]).length ≤ _
    rw [frames2]
    have e1 : ((⟨#[112, 111, 105, 110, 116, 32]⟩ : ByteArray) ++ lab).data.toList.length = 6 + lab.size := by rw [Array.length_toList]; exact hp
    have e2 : s.data.toList.length = s.size := Array.length_toList
    rw [e1, e2]
    show 6 + lab.size + s.size + 1 + 12 ≤ _
    omega
  · rintro e w' ⟨rfl, hb⟩
    exact ⟨_, rfl, hb, rfl⟩
set_option maxHeartbeats 4000000 in
set_option maxRecDepth 100000 in
theorem rHash_c (C : Fl3 P) (lab s : ByteArray) (hl : lab.size ≤ 4096) (hs0 : s.size ≤ 4096) : Gives 11 #[.string lab, .string s] (rv (hpt P lab s.data.toList).1 (hpt P lab s.data.toList).2 1) := by
  intro w
  go_enter Tryz.func11, Tryz.ntmps11
  refine RG.M.enter [(0, .v (.string lab)), (1, .v (.string s))] 37 (by kernel_rfl) ?_
  intro a0 M0
  repeat refine wp_seq ?_
  refine M0.tx FH_0 [(0, (RG.z 12))] [] [(RG.z 12)] [(0, .v (.string lab)), (1, .v (.string s)), (4, .p 0 0)] (by kernel_rfl) (by kernel_rfl) ⟨RG.mk 0 34 fun _ _ => by kernel_rfl, trivial⟩ ?_
  intro k4 a1 w1 M1
  repeat refine wp_seq ?_
  refine M1.tx0 FH_1 [(0, .v (.string lab)), (1, .v (.string s)), (4, .p 0 0), (5, .v (.int .i64 0))] (by kernel_rfl) ⟨RG.st fun _ _ => by kernel_rfl, trivial⟩ ?_
  intro a2 w2 M2
  repeat refine wp_seq ?_
  refine wp_block ?_
  refine wp_loop_ghost (fun m a wr => ∃ i : Nat, i + m = 256 ∧ Hid (cands P lab s.data.toList i = []) ∧ RG.M w w.heap.size [] 37 [(RG.z 12)] [k4] [(0, .v (.string lab)), (1, .v (.string s)), (4, .p 0 0), (5, .v (.int .i64 (i : Int)))] a wr) 256 ⟨0, rfl, rfl, M2⟩ ?_
  intro m' a wr
  rintro ⟨i, him, hnone, M20⟩
  by_cases hi : i < 256
  · obtain ⟨u, hu⟩ : ∃ u : UInt8, (i : Int) = ub u := ⟨UInt8.ofNat i, by
      show _ = (((UInt8.ofNat i).toNat : Nat) : Int)
      rw [UInt8.toNat_ofNat', Nat.mod_eq_of_lt (by omega)]⟩
    have hu2 : UInt8.ofNat i = u := by
      apply UInt8.toNat_inj.1
      rw [UInt8.toNat_ofNat', Nat.mod_eq_of_lt (by omega)]
      have h : (i : Int) = ((u.toNat : Nat) : Int) := hu
      omega
    obtain ⟨T, hT⟩ : ∃ T, Hid (SP.tagL ((⟨#[112, 111, 105, 110, 116, 32]⟩ : ByteArray) ++ lab).data.toList [s.data.toList, [u]] = T) := ⟨_, rfl⟩
    have hTs : T.size = 32 := by rw [← hT.out]; exact SP.tagL_size _ _
    have hcand : cand P lab s.data.toList i = if beV T.toList < P then (rt (Fin.ofNat P (beV T.toList) * Fin.ofNat P (beV T.toList) * Fin.ofNat P (beV T.toList) + 7)).map fun y => (Fin.ofNat P (beV T.toList), y) else none := by
      unfold cand
      rw [hu2, hT.out]
    have rTag_c : ∀ (lab' s' : ByteArray) (u' : UInt8), lab'.size ≤ 4096 → s'.size ≤ 4096 → ∀ (k : Nat) (w : World), w.rangeAt k 0 [.string s, .string ⟨#[u]⟩] ∧ k < w.heap.size → Calls Tryz.prog 29 #[.string ((⟨#[112, 111, 105, 110, 116, 32]⟩ : ByteArray) ++ lab), .slice (some ⟨k, 0, none⟩) 2 2] w (Ret fun e w' => Below w.heap.size w w' ∧ e = .string ⟨T⟩) := fun _ _ _ _ _ k w h => by
      rw [← hT.out]
      exact Go.Proofs.YticolhhalbbogacGreat.rTag_c lab s u hl hs0 k w h
    by_cases hx : beV T.toList < P
    · obtain ⟨x, hxv⟩ : ∃ x : Fin P, Hid (beV T.toList = x.val) := ⟨Fin.ofNat P (beV T.toList), (Nat.mod_eq_of_lt hx).symm⟩
      have hfx : Fin.ofNat P (beV T.toList) = x := Fin.ext (by show beV T.toList % P = _; rw [Nat.mod_eq_of_lt hx]; exact hxv.out)
      rw [if_pos hx, hfx] at hcand
      have hnum := rNumber_y C T hTs hxv.out
      obtain ⟨n, hn⟩ : ∃ n, n = x.val := ⟨_, rfl⟩
      cases hr : rt (x * x * x + 7) with
      | none =>
        rw [hr] at hcand
        have hat := rat_n_c C x hr
        rw [show fv x = nv n by rw [hn]] at hat hnum
        repeat refine wp_seq ?_
        refine M20.tx0 (FH_2 i true) [(0, .v (.string lab)), (1, .v (.string s)), (4, .p 0 0), (5, .v (.int .i64 (i : Int))), (10, .v (.bool true))] (by kernel_rfl) ⟨RG.st fun _ _ => by kernel_rfl, RG.cert_binc rfl .lss 3 3 9 (.int .i64 (i : Int)) (.int .i64 256) (.bool true) rfl rfl (RG.sx fun _ => by kernel_rfl) (fun w => by kernel_rfl) (lssn_t (n := 256) hi), trivial⟩ ?_
        intro a21 w21 M21
        repeat refine wp_seq ?_
        refine wp_cond_true (M21.ev (by kernel_rfl)) ?_
        refine wp_skip ?_
        refine wp_seq ?_
        refine wp_block ?_
        repeat refine wp_seq ?_
        refine M21.dr (by kernel_rfl) (FH_4 lab s i u T n true) [(6, [.int .u8 (ub u)]), (8, [.string s, .string ⟨#[u]⟩]), (14, RG.z 4)] [(3, 15, wn n)] [(RG.z 12), [.int .u8 (ub u)], [.string s, .string ⟨#[u]⟩], wn n] [(0, .v (.string lab)), (1, .v (.string s)), (4, .p 0 0), (5, .v (.int .i64 (i : Int))), (6, .p 3 0), (7, .v (.bool true))] (by kernel_rfl) (by kernel_rfl) ⟨RG.cl F3_c fun _ _ => by kernel_rfl, RG.st fun _ _ => by kernel_rfl, RG.cert_bincl rfl .add 9 9 15 (.string ⟨#[112, 111, 105, 110, 116, 32]⟩) (.string lab) (.string ((⟨#[112, 111, 105, 110, 116, 32]⟩ : ByteArray) ++ lab)) rfl rfl (RG.sx fun _ => by kernel_rfl) (fun w => by kernel_rfl) (catP lab (by omega)), RG.st fun _ _ => by kernel_rfl, RG.st fun _ _ => by kernel_rfl, RG.cert_conv rfl 3 5 18 (.int .i64 (i : Int)) (.int .u8 (ub u)) rfl rfl (RG.sx fun _ => by kernel_rfl) (convU hu hi), RG.cert_bs1 1 rfl _ rfl 22 5 19 (.int .u8 (ub u)) rfl rfl (RG.sx fun _ => by kernel_rfl) (bs1 (ub u)), RG.cert_str rfl 1 6 _ rfl _ rfl rfl (by kernel_rfl) (by kernel_rfl) 22 9 20 1 (.string ⟨#[u]⟩) rfl rfl (RG.sx fun _ => by kernel_rfl) (fun w k h => str1 u w k h), RG.mk 2 9 fun _ _ => by kernel_rfl, RG.cr [2] (fun μ w' _ hs => rTag_c lab s u hl hs0 (μ 2) w' (hs 2 (List.Mem.head _) _ rfl (List.cons_ne_nil _ _))) fun _ _ => by kernel_rfl, RG.cl hnum fun _ _ => by kernel_rfl, RG.st fun _ _ => by kernel_rfl, RG.st fun _ _ => by kernel_rfl, RG.st fun _ _ => by kernel_rfl, RG.mk 3 32 fun _ _ => by kernel_rfl, RG.pt i33 (by kernel_rfl), RG.st fun _ _ => by kernel_rfl, trivial⟩ ?_
        intro b1 b2 b3 a22 w22 M22
        repeat refine wp_seq ?_
        refine M22.tx0 (FH_5 true) [(0, .v (.string lab)), (1, .v (.string s)), (4, .p 0 0), (5, .v (.int .i64 (i : Int))), (6, .p 3 0), (28, .v (.bool (!true)))] (by kernel_rfl) ⟨RG.st fun _ _ => by kernel_rfl, RG.st fun _ _ => by kernel_rfl, trivial⟩ ?_
        intro a23 w23 M23
        repeat refine wp_seq ?_
        refine wp_cond_false (M23.ev (by kernel_rfl)) ?_
        refine wp_skip ?_
        repeat refine wp_seq ?_
        refine M23.tx (FH_6 n x (0 : Fin P) false) [(5, RG.z 12)] [(4, 6, ws x ++ (ws (0 : Fin P) ++ ws (1 : Fin P)))] [(RG.z 12), [.int .u8 (ub u)], [.string s, .string ⟨#[u]⟩], wn n, ws x ++ (ws (0 : Fin P) ++ ws (1 : Fin P))] [(0, .v (.string lab)), (1, .v (.string s)), (4, .p 0 0), (5, .v (.int .i64 (i : Int))), (7, .v (.bool false)), (8, .p 4 0)] (by kernel_rfl) (by kernel_rfl) ⟨RG.ld u33 i33 (by kernel_rfl), RG.cl hat fun _ _ => by kernel_rfl, RG.st fun _ _ => by kernel_rfl, RG.st fun _ _ => by kernel_rfl, RG.st fun _ _ => by kernel_rfl, RG.mk 4 34 fun _ _ => by kernel_rfl, RG.pt i56 (by kernel_rfl), RG.st fun _ _ => by kernel_rfl, trivial⟩ ?_
        intro b4 a24 w24 M24
        repeat refine wp_seq ?_
        refine M24.tx0 (FH_7 false) [(0, .v (.string lab)), (1, .v (.string s)), (4, .p 0 0), (5, .v (.int .i64 (i : Int))), (8, .p 4 0), (34, .v (.bool false))] (by kernel_rfl) ⟨RG.st fun _ _ => by kernel_rfl, trivial⟩ ?_
        intro a25 w25 M25
        repeat refine wp_seq ?_
        refine wp_cond_false (M25.ev (by kernel_rfl)) ?_
        refine wp_skip ?_
        repeat refine wp_seq ?_
        refine M25.tx0 (FH_3 i) [(0, .v (.string lab)), (1, .v (.string s)), (4, .p 0 0), (5, .v (.int .i64 ((i + 1 : Nat) : Int)))] (by kernel_rfl) ⟨RG.st fun _ _ => by kernel_rfl, RG.cert_binc rfl .add 3 3 11 (.int .i64 (i : Int)) (.int .i64 1) (.int .i64 ((i + 1 : Nat) : Int)) rfl rfl (RG.sx fun _ => by kernel_rfl) (fun w => by kernel_rfl) (addn i 1 (by omega) (by omega)), RG.st fun _ _ => by kernel_rfl, trivial⟩ ?_
        intro a26 w26 M26
        show ∃ n', _
        exact ⟨m' - 1, by omega, i + 1, by omega, cands_none hnone.out hcand, RG.M.drop (cs := [RG.z 12]) (cs2 := [_, _, _, _]) (ks := [k4]) (ks2 := [_, _, _, _]) M26 rfl rfl⟩
      | some y =>
        rw [hr] at hcand
        have hat := rat_y_c C x y hr
        rw [show fv x = nv n by rw [hn]] at hat hnum
        have hq : hpt P lab s.data.toList = (x, y) := hpt_at hi hnone.out hcand
        rw [hq]
        repeat refine wp_seq ?_
        refine M20.tx0 (FH_2 i true) [(0, .v (.string lab)), (1, .v (.string s)), (4, .p 0 0), (5, .v (.int .i64 (i : Int))), (10, .v (.bool true))] (by kernel_rfl) ⟨RG.st fun _ _ => by kernel_rfl, RG.cert_binc rfl .lss 3 3 9 (.int .i64 (i : Int)) (.int .i64 256) (.bool true) rfl rfl (RG.sx fun _ => by kernel_rfl) (fun w => by kernel_rfl) (lssn_t (n := 256) hi), trivial⟩ ?_
        intro a21 w21 M21
        repeat refine wp_seq ?_
        refine wp_cond_true (M21.ev (by kernel_rfl)) ?_
        refine wp_skip ?_
        refine wp_seq ?_
        refine wp_block ?_
        repeat refine wp_seq ?_
        refine M21.dr (by kernel_rfl) (FH_4 lab s i u T n true) [(6, [.int .u8 (ub u)]), (8, [.string s, .string ⟨#[u]⟩]), (14, RG.z 4)] [(3, 15, wn n)] [(RG.z 12), [.int .u8 (ub u)], [.string s, .string ⟨#[u]⟩], wn n] [(0, .v (.string lab)), (1, .v (.string s)), (4, .p 0 0), (5, .v (.int .i64 (i : Int))), (6, .p 3 0), (7, .v (.bool true))] (by kernel_rfl) (by kernel_rfl) ⟨RG.cl F3_c fun _ _ => by kernel_rfl, RG.st fun _ _ => by kernel_rfl, RG.cert_bincl rfl .add 9 9 15 (.string ⟨#[112, 111, 105, 110, 116, 32]⟩) (.string lab) (.string ((⟨#[112, 111, 105, 110, 116, 32]⟩ : ByteArray) ++ lab)) rfl rfl (RG.sx fun _ => by kernel_rfl) (fun w => by kernel_rfl) (catP lab (by omega)), RG.st fun _ _ => by kernel_rfl, RG.st fun _ _ => by kernel_rfl, RG.cert_conv rfl 3 5 18 (.int .i64 (i : Int)) (.int .u8 (ub u)) rfl rfl (RG.sx fun _ => by kernel_rfl) (convU hu hi), RG.cert_bs1 1 rfl _ rfl 22 5 19 (.int .u8 (ub u)) rfl rfl (RG.sx fun _ => by kernel_rfl) (bs1 (ub u)), RG.cert_str rfl 1 6 _ rfl _ rfl rfl (by kernel_rfl) (by kernel_rfl) 22 9 20 1 (.string ⟨#[u]⟩) rfl rfl (RG.sx fun _ => by kernel_rfl) (fun w k h => str1 u w k h), RG.mk 2 9 fun _ _ => by kernel_rfl, RG.cr [2] (fun μ w' _ hs => rTag_c lab s u hl hs0 (μ 2) w' (hs 2 (List.Mem.head _) _ rfl (List.cons_ne_nil _ _))) fun _ _ => by kernel_rfl, RG.cl hnum fun _ _ => by kernel_rfl, RG.st fun _ _ => by kernel_rfl, RG.st fun _ _ => by kernel_rfl, RG.st fun _ _ => by kernel_rfl, RG.mk 3 32 fun _ _ => by kernel_rfl, RG.pt i33 (by kernel_rfl), RG.st fun _ _ => by kernel_rfl, trivial⟩ ?_
        intro b1 b2 b3 a22 w22 M22
        repeat refine wp_seq ?_
        refine M22.tx0 (FH_5 true) [(0, .v (.string lab)), (1, .v (.string s)), (4, .p 0 0), (5, .v (.int .i64 (i : Int))), (6, .p 3 0), (28, .v (.bool (!true)))] (by kernel_rfl) ⟨RG.st fun _ _ => by kernel_rfl, RG.st fun _ _ => by kernel_rfl, trivial⟩ ?_
        intro a23 w23 M23
        repeat refine wp_seq ?_
        refine wp_cond_false (M23.ev (by kernel_rfl)) ?_
        refine wp_skip ?_
        repeat refine wp_seq ?_
        refine M23.tx (FH_6 n x y true) [(5, RG.z 12)] [(4, 6, ws x ++ (ws y ++ ws (1 : Fin P)))] [(RG.z 12), [.int .u8 (ub u)], [.string s, .string ⟨#[u]⟩], wn n, ws x ++ (ws y ++ ws (1 : Fin P))] [(0, .v (.string lab)), (1, .v (.string s)), (4, .p 0 0), (5, .v (.int .i64 (i : Int))), (7, .v (.bool true)), (8, .p 4 0)] (by kernel_rfl) (by kernel_rfl) ⟨RG.ld u33 i33 (by kernel_rfl), RG.cl hat fun _ _ => by kernel_rfl, RG.st fun _ _ => by kernel_rfl, RG.st fun _ _ => by kernel_rfl, RG.st fun _ _ => by kernel_rfl, RG.mk 4 34 fun _ _ => by kernel_rfl, RG.pt i56 (by kernel_rfl), RG.st fun _ _ => by kernel_rfl, trivial⟩ ?_
        intro b4 a24 w24 M24
        repeat refine wp_seq ?_
        refine M24.tx0 (FH_7 true) [(0, .v (.string lab)), (1, .v (.string s)), (4, .p 0 0), (5, .v (.int .i64 (i : Int))), (8, .p 4 0), (34, .v (.bool true))] (by kernel_rfl) ⟨RG.st fun _ _ => by kernel_rfl, trivial⟩ ?_
        intro a25 w25 M25
        repeat refine wp_seq ?_
        refine wp_cond_true (M25.ev (by kernel_rfl)) ?_
        repeat refine wp_seq ?_
        refine M25.tx (FH_8 x y) [] [(0, 1, ws x ++ (ws y ++ ws (1 : Fin P)))] [ws x ++ (ws y ++ ws (1 : Fin P)), [.int .u8 (ub u)], [.string s, .string ⟨#[u]⟩], wn n, ws x ++ (ws y ++ ws (1 : Fin P))] [(4, .p 0 0)] (by kernel_rfl) (by kernel_rfl) ⟨RG.ld u56 i56 (by kernel_rfl), RG.pt i56 (by kernel_rfl), trivial⟩ ?_
        intro a26 w26 M26
        refine wp_ret ?_
        refine bodyPost_ret (v := rv x y 1) (RG.results_row M26.st 4 34 rfl 0 _ rfl (M26.at (s := (.p 0 0)) (by kernel_rfl)) u56 i56) M26.sl.defers ?_
        exact ⟨_, rfl, M26.st.bel.below, rfl⟩
    · rw [if_neg hx] at hcand
      have hnum := rNumber_n C T hTs hx
      obtain ⟨n, hn⟩ : ∃ n, n = beV T.toList := ⟨_, rfl⟩
      rw [← hn] at hnum
      repeat refine wp_seq ?_
      refine M20.tx0 (FH_2 i true) [(0, .v (.string lab)), (1, .v (.string s)), (4, .p 0 0), (5, .v (.int .i64 (i : Int))), (10, .v (.bool true))] (by kernel_rfl) ⟨RG.st fun _ _ => by kernel_rfl, RG.cert_binc rfl .lss 3 3 9 (.int .i64 (i : Int)) (.int .i64 256) (.bool true) rfl rfl (RG.sx fun _ => by kernel_rfl) (fun w => by kernel_rfl) (lssn_t (n := 256) hi), trivial⟩ ?_
      intro a21 w21 M21
      repeat refine wp_seq ?_
      refine wp_cond_true (M21.ev (by kernel_rfl)) ?_
      refine wp_skip ?_
      refine wp_seq ?_
      refine wp_block ?_
      repeat refine wp_seq ?_
      refine M21.dr (by kernel_rfl) (FH_4 lab s i u T n false) [(6, [.int .u8 (ub u)]), (8, [.string s, .string ⟨#[u]⟩]), (14, RG.z 4)] [(3, 15, wn n)] [(RG.z 12), [.int .u8 (ub u)], [.string s, .string ⟨#[u]⟩], wn n] [(0, .v (.string lab)), (1, .v (.string s)), (4, .p 0 0), (5, .v (.int .i64 (i : Int))), (6, .p 3 0), (7, .v (.bool false))] (by kernel_rfl) (by kernel_rfl) ⟨RG.cl F3_c fun _ _ => by kernel_rfl, RG.st fun _ _ => by kernel_rfl, RG.cert_bincl rfl .add 9 9 15 (.string ⟨#[112, 111, 105, 110, 116, 32]⟩) (.string lab) (.string ((⟨#[112, 111, 105, 110, 116, 32]⟩ : ByteArray) ++ lab)) rfl rfl (RG.sx fun _ => by kernel_rfl) (fun w => by kernel_rfl) (catP lab (by omega)), RG.st fun _ _ => by kernel_rfl, RG.st fun _ _ => by kernel_rfl, RG.cert_conv rfl 3 5 18 (.int .i64 (i : Int)) (.int .u8 (ub u)) rfl rfl (RG.sx fun _ => by kernel_rfl) (convU hu hi), RG.cert_bs1 1 rfl _ rfl 22 5 19 (.int .u8 (ub u)) rfl rfl (RG.sx fun _ => by kernel_rfl) (bs1 (ub u)), RG.cert_str rfl 1 6 _ rfl _ rfl rfl (by kernel_rfl) (by kernel_rfl) 22 9 20 1 (.string ⟨#[u]⟩) rfl rfl (RG.sx fun _ => by kernel_rfl) (fun w k h => str1 u w k h), RG.mk 2 9 fun _ _ => by kernel_rfl, RG.cr [2] (fun μ w' _ hs => rTag_c lab s u hl hs0 (μ 2) w' (hs 2 (List.Mem.head _) _ rfl (List.cons_ne_nil _ _))) fun _ _ => by kernel_rfl, RG.cl hnum fun _ _ => by kernel_rfl, RG.st fun _ _ => by kernel_rfl, RG.st fun _ _ => by kernel_rfl, RG.st fun _ _ => by kernel_rfl, RG.mk 3 32 fun _ _ => by kernel_rfl, RG.pt i33 (by kernel_rfl), RG.st fun _ _ => by kernel_rfl, trivial⟩ ?_
      intro b1 b2 b3 a22 w22 M22
      repeat refine wp_seq ?_
      refine M22.tx0 (FH_5 false) [(0, .v (.string lab)), (1, .v (.string s)), (4, .p 0 0), (5, .v (.int .i64 (i : Int))), (6, .p 3 0), (28, .v (.bool (!false)))] (by kernel_rfl) ⟨RG.st fun _ _ => by kernel_rfl, RG.st fun _ _ => by kernel_rfl, trivial⟩ ?_
      intro a23 w23 M23
      repeat refine wp_seq ?_
      refine wp_cond_true (M23.ev (by kernel_rfl)) ?_
      refine wp_exit ?_
      dsimp only [Exit.then, Exit.inBlock]
      rw [if_pos rfl]
      repeat refine wp_seq ?_
      refine M23.tx0 (FH_3 i) [(0, .v (.string lab)), (1, .v (.string s)), (4, .p 0 0), (5, .v (.int .i64 ((i + 1 : Nat) : Int)))] (by kernel_rfl) ⟨RG.st fun _ _ => by kernel_rfl, RG.cert_binc rfl .add 3 3 11 (.int .i64 (i : Int)) (.int .i64 1) (.int .i64 ((i + 1 : Nat) : Int)) rfl rfl (RG.sx fun _ => by kernel_rfl) (fun w => by kernel_rfl) (addn i 1 (by omega) (by omega)), RG.st fun _ _ => by kernel_rfl, trivial⟩ ?_
      intro a26 w26 M26
      show ∃ n', _
      exact ⟨m' - 1, by omega, i + 1, by omega, cands_none hnone.out hcand, RG.M.drop (cs := [RG.z 12]) (cs2 := [_, _, _]) (ks := [k4]) (ks2 := [_, _, _]) M26 rfl rfl⟩
  · have he : i = 256 := by omega
    have hq : hpt P lab s.data.toList = (gX P, gY P) := hpt_end (by have h := hnone.out; rw [he] at h; exact h)
    rw [hq]
    have hG : Gives 9 #[] (rv (gX P) (gY P) 1) := rG_c C
    repeat refine wp_seq ?_
    refine M20.tx0 (FH_2 i false) [(0, .v (.string lab)), (1, .v (.string s)), (4, .p 0 0), (5, .v (.int .i64 (i : Int))), (10, .v (.bool false))] (by kernel_rfl) ⟨RG.st fun _ _ => by kernel_rfl, RG.cert_binc rfl .lss 3 3 9 (.int .i64 (i : Int)) (.int .i64 256) (.bool false) rfl rfl (RG.sx fun _ => by kernel_rfl) (fun w => by kernel_rfl) (lssn_f (n := 256) hi), trivial⟩ ?_
    intro a21 w21 M21
    repeat refine wp_seq ?_
    refine wp_cond_false (M21.ev (by kernel_rfl)) ?_
    refine wp_exit ?_
    dsimp only [Exit.then, Exit.inBlock]
    rw [if_pos rfl]
    repeat refine wp_seq ?_
    refine M21.tx (FH_9 (gX P) (gY P)) [] [(0, 1, ws (gX P) ++ (ws (gY P) ++ ws (1 : Fin P)))] [ws (gX P) ++ (ws (gY P) ++ ws (1 : Fin P))] [(4, .p 0 0)] (by kernel_rfl) (by kernel_rfl) ⟨RG.cl hG fun _ _ => by kernel_rfl, RG.pt i56 (by kernel_rfl), trivial⟩ ?_
    intro a22 w22 M22
    refine wp_ret ?_
    refine bodyPost_ret (v := rv (gX P) (gY P) 1) (RG.results_row M22.st 4 34 rfl 0 _ rfl (M22.at (s := (.p 0 0)) (by kernel_rfl)) u56 i56) M22.sl.defers ?_
    exact ⟨_, rfl, M22.st.bel.below, rfl⟩
end Go.Proofs.YticolhhalbbogacGreat
