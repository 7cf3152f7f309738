import Derived.Lib.LazyBuf
import Derived.Deep.RegionHeld3
import Derived.ChangeOld
import Derived.Below
import Derived.WalkKit
import Derived.ProofKit
import Derived.OpenShut
import Derived.ShutString
import Derived.Test.YticolhhalbbogaeSS7
set_option linter.unusedVariables false
set_option linter.unusedSimpArgs false
set_option linter.unusedVariables false
namespace Go.Proofs.Yticolhhalbbogae
open Go.RowKit Go.Sort Go.Deep
variable {P : Nat} [NeZero P]
theorem u54 : (Try.prog.underlying 54).map (·.isRow) = some true := by kernel_rfl
theorem i54 : (Try.prog.info? 54).map (·.size) = some 12 := by kernel_rfl
def FSa_0 : List RG.It := [.m 2 [] 0, .m 3 [] 1, .x 4 [] (.bool false)]
def FSa_1 (x1 y1 z1 : Fin P) : List RG.It := [.x 7 [] (rv x1 y1 z1), .c 8 [(7, 0)] (.bool true), .x 5 [(8, 1)] (.bool true)]
def FSa_2 (x2 y2 z2 : Fin P) : List RG.It := [.x 9 [] (rv x2 y2 z2), .c 10 [(9, 0)] (.bool true), .x 6 [(10, 1)] (.bool true)]
def FSa_3 : List RG.It := [.x 11 [] (.bool true), .x 12 [(11, 0)] (.bool true), ⟨some 13, [], (.v undef), .pass⟩, .x 14 [(12, 1), (13, 2)] (.bool true)]
def FSa_4 : List RG.It := [.x 15 [] (.bool true), .x 16 [(15, 0)] (.bool true), .x 17 [] (.bool true), .x 18 [(16, 1), (17, 2)] (.bool true), .x 4 [(18, 3)] (.bool true)]
set_option maxHeartbeats 2000000 in
set_option maxRecDepth 100000 in
theorem rSame_a_c (C : Fl3 P) (x1 y1 z1 x2 y2 z2 : Fin P)(hz1 : z1 = 0) (hz2 : z2 = 0)  : Gives 24 #[(rv x1 y1 z1), (rv x2 y2 z2)] (.bool true) := by
  intro w
  go_enter Try.func24, Try.ntmps24
  refine RG.M.enter [(0, (.v (rv x1 y1 z1))), (1, (.v (rv x2 y2 z2)))] 47 (by kernel_rfl) ?_
  intro a0 M0
  repeat refine wp_seq ?_
  refine M0.tx FSa_0 [(0, (ws x1 ++ (ws y1 ++ (ws z1)))), (1, (ws x2 ++ (ws y2 ++ (ws z2))))] [] [(ws x1 ++ (ws y1 ++ (ws z1))), (ws x2 ++ (ws y2 ++ (ws z2)))] [(2, (.p 0 0)), (3, (.p 1 0)), (4, (.v (.bool false)))] (by kernel_rfl) (by kernel_rfl) ⟨RG.mk 0 54 fun _ _ => by kernel_rfl, RG.mk 1 54 fun _ _ => by kernel_rfl, RG.st fun _ _ => by kernel_rfl, trivial⟩ ?_
  intro j1 i1 a1 w1 M1
  repeat refine wp_seq ?_
  refine M1.tx0 (FSa_1 x1 y1 z1) [(3, (.p 1 0)), (4, (.v (.bool false))), (5, (.v (.bool true)))] (by kernel_rfl) ⟨RG.ld u54 i54 (by kernel_rfl), RG.cl (Is_t_c C x1 y1 z1 hz1) fun _ _ => by kernel_rfl, RG.st fun _ _ => by kernel_rfl, trivial⟩ ?_
  intro a2 w2 M2
  repeat refine wp_seq ?_
  refine M2.tx0 (FSa_2 x2 y2 z2) [(4, (.v (.bool false))), (5, (.v (.bool true))), (6, (.v (.bool true)))] (by kernel_rfl) ⟨RG.ld u54 i54 (by kernel_rfl), RG.cl (Is_t_c C x2 y2 z2 hz2) fun _ _ => by kernel_rfl, RG.st fun _ _ => by kernel_rfl, trivial⟩ ?_
  intro a3 w3 M3
  repeat refine wp_seq ?_
  refine M3.tx0 FSa_3 [(4, (.v (.bool false))), (5, (.v (.bool true))), (6, (.v (.bool true))), (14, (.v (.bool true)))] (by kernel_rfl) ⟨RG.st fun _ _ => by kernel_rfl, RG.st fun _ _ => by kernel_rfl, RG.cert_pass rfl rfl, RG.st fun _ _ => by kernel_rfl, trivial⟩ ?_
  intro a4 w4 M4
  repeat refine wp_seq ?_
  refine wp_cond_true (M4.ev (by kernel_rfl)) ?_
  repeat refine wp_seq ?_
  refine M4.tx0 FSa_4 [(4, (.v (.bool true)))] (by kernel_rfl) ⟨RG.st fun _ _ => by kernel_rfl, RG.st fun _ _ => by kernel_rfl, RG.st fun _ _ => by kernel_rfl, RG.st fun _ _ => by kernel_rfl, RG.st fun _ _ => by kernel_rfl, trivial⟩ ?_
  intro a5 w5 M5
  refine wp_ret ?_
  refine bodyPost_ret (v := (.bool true)) (RG.results_t 4 rfl _ (M5.at (s := (.v (.bool true))) (by kernel_rfl))) M5.sl.defers ?_
  exact ⟨_, rfl, M5.st.bel.below, rfl⟩
def FSb_0 : List RG.It := [.m 2 [] 0, .m 3 [] 1, .x 4 [] (.bool false)]
def FSb_1 (x1 y1 z1 : Fin P) : List RG.It := [.x 7 [] (rv x1 y1 z1), .c 8 [(7, 0)] (.bool true), .x 5 [(8, 1)] (.bool true)]
def FSb_2 (x2 y2 z2 : Fin P) : List RG.It := [.x 9 [] (rv x2 y2 z2), .c 10 [(9, 0)] (.bool false), .x 6 [(10, 1)] (.bool false)]
def FSb_3 : List RG.It := [.x 11 [] (.bool true), .x 12 [(11, 0)] (.bool true), ⟨some 13, [], (.v undef), .pass⟩, .x 14 [(12, 1), (13, 2)] (.bool true)]
def FSb_4 : List RG.It := [.x 15 [] (.bool true), .x 16 [(15, 0)] (.bool true), .x 17 [] (.bool false), .x 18 [(16, 1), (17, 2)] (.bool false), .x 4 [(18, 3)] (.bool false)]
set_option maxHeartbeats 2000000 in
set_option maxRecDepth 100000 in
theorem rSame_b_c (C : Fl3 P) (x1 y1 z1 x2 y2 z2 : Fin P)(hz1 : z1 = 0) (hz2 : ¬ z2 = 0)  : Gives 24 #[(rv x1 y1 z1), (rv x2 y2 z2)] (.bool false) := by
  intro w
  go_enter Try.func24, Try.ntmps24
  refine RG.M.enter [(0, (.v (rv x1 y1 z1))), (1, (.v (rv x2 y2 z2)))] 47 (by kernel_rfl) ?_
  intro a0 M0
  repeat refine wp_seq ?_
  refine M0.tx FSb_0 [(0, (ws x1 ++ (ws y1 ++ (ws z1)))), (1, (ws x2 ++ (ws y2 ++ (ws z2))))] [] [(ws x1 ++ (ws y1 ++ (ws z1))), (ws x2 ++ (ws y2 ++ (ws z2)))] [(2, (.p 0 0)), (3, (.p 1 0)), (4, (.v (.bool false)))] (by kernel_rfl) (by kernel_rfl) ⟨RG.mk 0 54 fun _ _ => by kernel_rfl, RG.mk 1 54 fun _ _ => by kernel_rfl, RG.st fun _ _ => by kernel_rfl, trivial⟩ ?_
  intro j1 i1 a1 w1 M1
  repeat refine wp_seq ?_
  refine M1.tx0 (FSb_1 x1 y1 z1) [(3, (.p 1 0)), (4, (.v (.bool false))), (5, (.v (.bool true)))] (by kernel_rfl) ⟨RG.ld u54 i54 (by kernel_rfl), RG.cl (Is_t_c C x1 y1 z1 hz1) fun _ _ => by kernel_rfl, RG.st fun _ _ => by kernel_rfl, trivial⟩ ?_
  intro a2 w2 M2
  repeat refine wp_seq ?_
  refine M2.tx0 (FSb_2 x2 y2 z2) [(4, (.v (.bool false))), (5, (.v (.bool true))), (6, (.v (.bool false)))] (by kernel_rfl) ⟨RG.ld u54 i54 (by kernel_rfl), RG.cl (Is_f_c C x2 y2 z2 hz2) fun _ _ => by kernel_rfl, RG.st fun _ _ => by kernel_rfl, trivial⟩ ?_
  intro a3 w3 M3
  repeat refine wp_seq ?_
  refine M3.tx0 FSb_3 [(4, (.v (.bool false))), (5, (.v (.bool true))), (6, (.v (.bool false))), (14, (.v (.bool true)))] (by kernel_rfl) ⟨RG.st fun _ _ => by kernel_rfl, RG.st fun _ _ => by kernel_rfl, RG.cert_pass rfl rfl, RG.st fun _ _ => by kernel_rfl, trivial⟩ ?_
  intro a4 w4 M4
  repeat refine wp_seq ?_
  refine wp_cond_true (M4.ev (by kernel_rfl)) ?_
  repeat refine wp_seq ?_
  refine M4.tx0 FSb_4 [(4, (.v (.bool false)))] (by kernel_rfl) ⟨RG.st fun _ _ => by kernel_rfl, RG.st fun _ _ => by kernel_rfl, RG.st fun _ _ => by kernel_rfl, RG.st fun _ _ => by kernel_rfl, RG.st fun _ _ => by kernel_rfl, trivial⟩ ?_
  intro a5 w5 M5
  refine wp_ret ?_
  refine bodyPost_ret (v := (.bool false)) (RG.results_t 4 rfl _ (M5.at (s := (.v (.bool false))) (by kernel_rfl))) M5.sl.defers ?_
  exact ⟨_, rfl, M5.st.bel.below, rfl⟩
def FSc_0 : List RG.It := [.m 2 [] 0, .m 3 [] 1, .x 4 [] (.bool false)]
def FSc_1 (x1 y1 z1 : Fin P) : List RG.It := [.x 7 [] (rv x1 y1 z1), .c 8 [(7, 0)] (.bool false), .x 5 [(8, 1)] (.bool false)]
def FSc_2 (x2 y2 z2 : Fin P) : List RG.It := [.x 9 [] (rv x2 y2 z2), .c 10 [(9, 0)] (.bool true), .x 6 [(10, 1)] (.bool true)]
def FSc_3 : List RG.It := [.x 11 [] (.bool false), .x 12 [(11, 0)] (.bool false), .x 13 [] (.bool true), .x 14 [(12, 1), (13, 2)] (.bool true)]
def FSc_4 : List RG.It := [.x 15 [] (.bool false), .x 16 [(15, 0)] (.bool false), ⟨some 17, [], (.v undef), .pass⟩, .x 18 [(16, 1), (17, 2)] (.bool false), .x 4 [(18, 3)] (.bool false)]
set_option maxHeartbeats 2000000 in
set_option maxRecDepth 100000 in
theorem rSame_c_c (C : Fl3 P) (x1 y1 z1 x2 y2 z2 : Fin P)(hz1 : ¬ z1 = 0) (hz2 : z2 = 0)  : Gives 24 #[(rv x1 y1 z1), (rv x2 y2 z2)] (.bool false) := by
  intro w
  go_enter Try.func24, Try.ntmps24
  refine RG.M.enter [(0, (.v (rv x1 y1 z1))), (1, (.v (rv x2 y2 z2)))] 47 (by kernel_rfl) ?_
  intro a0 M0
  repeat refine wp_seq ?_
  refine M0.tx FSc_0 [(0, (ws x1 ++ (ws y1 ++ (ws z1)))), (1, (ws x2 ++ (ws y2 ++ (ws z2))))] [] [(ws x1 ++ (ws y1 ++ (ws z1))), (ws x2 ++ (ws y2 ++ (ws z2)))] [(2, (.p 0 0)), (3, (.p 1 0)), (4, (.v (.bool false)))] (by kernel_rfl) (by kernel_rfl) ⟨RG.mk 0 54 fun _ _ => by kernel_rfl, RG.mk 1 54 fun _ _ => by kernel_rfl, RG.st fun _ _ => by kernel_rfl, trivial⟩ ?_
  intro j1 i1 a1 w1 M1
  repeat refine wp_seq ?_
  refine M1.tx0 (FSc_1 x1 y1 z1) [(3, (.p 1 0)), (4, (.v (.bool false))), (5, (.v (.bool false)))] (by kernel_rfl) ⟨RG.ld u54 i54 (by kernel_rfl), RG.cl (Is_f_c C x1 y1 z1 hz1) fun _ _ => by kernel_rfl, RG.st fun _ _ => by kernel_rfl, trivial⟩ ?_
  intro a2 w2 M2
  repeat refine wp_seq ?_
  refine M2.tx0 (FSc_2 x2 y2 z2) [(4, (.v (.bool false))), (5, (.v (.bool false))), (6, (.v (.bool true)))] (by kernel_rfl) ⟨RG.ld u54 i54 (by kernel_rfl), RG.cl (Is_t_c C x2 y2 z2 hz2) fun _ _ => by kernel_rfl, RG.st fun _ _ => by kernel_rfl, trivial⟩ ?_
  intro a3 w3 M3
  repeat refine wp_seq ?_
  refine M3.tx0 FSc_3 [(4, (.v (.bool false))), (5, (.v (.bool false))), (14, (.v (.bool true)))] (by kernel_rfl) ⟨RG.st fun _ _ => by kernel_rfl, RG.st fun _ _ => by kernel_rfl, RG.st fun _ _ => by kernel_rfl, RG.st fun _ _ => by kernel_rfl, trivial⟩ ?_
  intro a4 w4 M4
  repeat refine wp_seq ?_
  refine wp_cond_true (M4.ev (by kernel_rfl)) ?_
  repeat refine wp_seq ?_
  refine M4.tx0 FSc_4 [(4, (.v (.bool false)))] (by kernel_rfl) ⟨RG.st fun _ _ => by kernel_rfl, RG.st fun _ _ => by kernel_rfl, RG.cert_pass rfl rfl, RG.st fun _ _ => by kernel_rfl, RG.st fun _ _ => by kernel_rfl, trivial⟩ ?_
  intro a5 w5 M5
  refine wp_ret ?_
  refine bodyPost_ret (v := (.bool false)) (RG.results_t 4 rfl _ (M5.at (s := (.v (.bool false))) (by kernel_rfl))) M5.sl.defers ?_
  exact ⟨_, rfl, M5.st.bel.below, rfl⟩
def FSd_0 : List RG.It := [.m 2 [] 0, .m 3 [] 1, .x 4 [] (.bool false)]
def FSd_1 (x1 y1 z1 : Fin P) : List RG.It := [.x 7 [] (rv x1 y1 z1), .c 8 [(7, 0)] (.bool false), .x 5 [(8, 1)] (.bool false)]
def FSd_2 (x2 y2 z2 : Fin P) : List RG.It := [.x 9 [] (rv x2 y2 z2), .c 10 [(9, 0)] (.bool false), .x 6 [(10, 1)] (.bool false)]
def FSd_3 : List RG.It := [.x 11 [] (.bool false), .x 12 [(11, 0)] (.bool false), .x 13 [] (.bool false), .x 14 [(12, 1), (13, 2)] (.bool false)]
def FSd_5 (x1 y1 z1 x2 y2 z2 c1 c2 c3 c4 : Fin P) : List RG.It := [.c 19 [] rv0, .s 20 [] (.p 0 0), .x 21 [(20, 1)] (fv x1), .s 22 [] (.p 1 8), .x 23 [(22, 3)] (fv z2), .c 24 [(19, 0), (21, 2), (23, 4)] (fv c1), .c 25 [] rv0, .s 26 [] (.p 1 0), .x 27 [(26, 7)] (fv x2), .s 28 [] (.p 0 8), .x 29 [(28, 9)] (fv z1), .c 30 [(25, 6), (27, 8), (29, 10)] (fv c2), .x 31 [(24, 5), (30, 11)] (.bool true), .x 32 [(31, 12)] (.bool true), .c 33 [] rv0, .s 34 [] (.p 0 4), .x 35 [(34, 15)] (fv y1), .s 36 [] (.p 1 8), .x 37 [(36, 17)] (fv z2), .c 38 [(33, 14), (35, 16), (37, 18)] (fv c3), .c 39 [] rv0, .s 40 [] (.p 1 4), .x 41 [(40, 21)] (fv y2), .s 42 [] (.p 0 8), .x 43 [(42, 23)] (fv z1), .c 44 [(39, 20), (41, 22), (43, 24)] (fv c4), .x 45 [(38, 19), (44, 25)] (.bool true), .x 46 [(32, 13), (45, 26)] (.bool true), .x 4 [(46, 27)] (.bool true)]
set_option maxHeartbeats 2000000 in
set_option maxRecDepth 100000 in
theorem rSame_d_c (C : Fl3 P) (x1 y1 z1 x2 y2 z2 : Fin P)(hz1 : ¬ z1 = 0) (hz2 : ¬ z2 = 0) (hx : x1 * z2 = x2 * z1) (hy : y1 * z2 = y2 * z1)  : Gives 24 #[(rv x1 y1 z1), (rv x2 y2 z2)] (.bool true) := by
  intro w
  obtain ⟨c1, hc1⟩ : ∃ c, c = x1 * z2 := ⟨_, rfl⟩
  obtain ⟨c2, hc2⟩ : ∃ c, c = x2 * z1 := ⟨_, rfl⟩
  obtain ⟨c3, hc3⟩ : ∃ c, c = y1 * z2 := ⟨_, rfl⟩
  obtain ⟨c4, hc4⟩ : ∃ c, c = y2 * z1 := ⟨_, rfl⟩
  go_enter Try.func24, Try.ntmps24
  refine RG.M.enter [(0, (.v (rv x1 y1 z1))), (1, (.v (rv x2 y2 z2)))] 47 (by kernel_rfl) ?_
  intro a0 M0
  repeat refine wp_seq ?_
  refine M0.tx FSd_0 [(0, (ws x1 ++ (ws y1 ++ (ws z1)))), (1, (ws x2 ++ (ws y2 ++ (ws z2))))] [] [(ws x1 ++ (ws y1 ++ (ws z1))), (ws x2 ++ (ws y2 ++ (ws z2)))] [(2, (.p 0 0)), (3, (.p 1 0)), (4, (.v (.bool false)))] (by kernel_rfl) (by kernel_rfl) ⟨RG.mk 0 54 fun _ _ => by kernel_rfl, RG.mk 1 54 fun _ _ => by kernel_rfl, RG.st fun _ _ => by kernel_rfl, trivial⟩ ?_
  intro j1 i1 a1 w1 M1
  repeat refine wp_seq ?_
  refine M1.tx0 (FSd_1 x1 y1 z1) [(2, (.p 0 0)), (3, (.p 1 0)), (4, (.v (.bool false))), (5, (.v (.bool false)))] (by kernel_rfl) ⟨RG.ld u54 i54 (by kernel_rfl), RG.cl (Is_f_c C x1 y1 z1 hz1) fun _ _ => by kernel_rfl, RG.st fun _ _ => by kernel_rfl, trivial⟩ ?_
  intro a2 w2 M2
  repeat refine wp_seq ?_
  refine M2.tx0 (FSd_2 x2 y2 z2) [(2, (.p 0 0)), (3, (.p 1 0)), (4, (.v (.bool false))), (5, (.v (.bool false))), (6, (.v (.bool false)))] (by kernel_rfl) ⟨RG.ld u54 i54 (by kernel_rfl), RG.cl (Is_f_c C x2 y2 z2 hz2) fun _ _ => by kernel_rfl, RG.st fun _ _ => by kernel_rfl, trivial⟩ ?_
  intro a3 w3 M3
  repeat refine wp_seq ?_
  refine M3.tx0 FSd_3 [(2, (.p 0 0)), (3, (.p 1 0)), (4, (.v (.bool false))), (14, (.v (.bool false)))] (by kernel_rfl) ⟨RG.st fun _ _ => by kernel_rfl, RG.st fun _ _ => by kernel_rfl, RG.st fun _ _ => by kernel_rfl, RG.st fun _ _ => by kernel_rfl, trivial⟩ ?_
  intro a4 w4 M4
  repeat refine wp_seq ?_
  refine wp_cond_false (M4.ev (by kernel_rfl)) ?_
  refine wp_skip ?_
  repeat refine wp_seq ?_
  refine M4.dr0 (by kernel_rfl) (FSd_5 x1 y1 z1 x2 y2 z2 c1 c2 c3 c4) [(4, (.v (.bool true)))] (by kernel_rfl) ⟨RG.cl (F3_c) fun _ _ => by kernel_rfl, RG.st fun _ _ => by kernel_rfl, RG.ld u44 i44 (by kernel_rfl), RG.st fun _ _ => by kernel_rfl, RG.ld u44 i44 (by kernel_rfl), RG.cl ((rMul_c C x1 z2).e hc1) fun _ _ => by kernel_rfl, RG.cl (F3_c) fun _ _ => by kernel_rfl, RG.st fun _ _ => by kernel_rfl, RG.ld u44 i44 (by kernel_rfl), RG.st fun _ _ => by kernel_rfl, RG.ld u44 i44 (by kernel_rfl), RG.cl ((rMul_c C x2 z1).e hc2) fun _ _ => by kernel_rfl, RG.cert_bin rfl .eql 44 44 24 30 (fv c1) (fv c2) (.bool true) rfl rfl (RG.sx fun _ => by kernel_rfl) (RG.sx fun _ => by kernel_rfl) (fun w => by kernel_rfl) (eqR_t C.toFld (by subst_vars; exact hx)), RG.st fun _ _ => by kernel_rfl, RG.cl (F3_c) fun _ _ => by kernel_rfl, RG.st fun _ _ => by kernel_rfl, RG.ld u44 i44 (by kernel_rfl), RG.st fun _ _ => by kernel_rfl, RG.ld u44 i44 (by kernel_rfl), RG.cl ((rMul_c C y1 z2).e hc3) fun _ _ => by kernel_rfl, RG.cl (F3_c) fun _ _ => by kernel_rfl, RG.st fun _ _ => by kernel_rfl, RG.ld u44 i44 (by kernel_rfl), RG.st fun _ _ => by kernel_rfl, RG.ld u44 i44 (by kernel_rfl), RG.cl ((rMul_c C y2 z1).e hc4) fun _ _ => by kernel_rfl, RG.cert_bin rfl .eql 44 44 38 44 (fv c3) (fv c4) (.bool true) rfl rfl (RG.sx fun _ => by kernel_rfl) (RG.sx fun _ => by kernel_rfl) (fun w => by kernel_rfl) (eqR_t C.toFld (by subst_vars; exact hy)), RG.st fun _ _ => by kernel_rfl, RG.st fun _ _ => by kernel_rfl, trivial⟩ ?_
  intro a5 w5 M5
  refine wp_ret ?_
  refine bodyPost_ret (v := (.bool true)) (RG.results_t 4 rfl _ (M5.at (s := (.v (.bool true))) (by kernel_rfl))) M5.sl.defers ?_
  exact ⟨_, rfl, M5.st.bel.below, rfl⟩
def FSe_0 : List RG.It := [.m 2 [] 0, .m 3 [] 1, .x 4 [] (.bool false)]
def FSe_1 (x1 y1 z1 : Fin P) : List RG.It := [.x 7 [] (rv x1 y1 z1), .c 8 [(7, 0)] (.bool false), .x 5 [(8, 1)] (.bool false)]
def FSe_2 (x2 y2 z2 : Fin P) : List RG.It := [.x 9 [] (rv x2 y2 z2), .c 10 [(9, 0)] (.bool false), .x 6 [(10, 1)] (.bool false)]
def FSe_3 : List RG.It := [.x 11 [] (.bool false), .x 12 [(11, 0)] (.bool false), .x 13 [] (.bool false), .x 14 [(12, 1), (13, 2)] (.bool false)]
def FSe_5 (x1 z1 x2 z2 c1 c2 : Fin P) : List RG.It := [.c 19 [] rv0, .s 20 [] (.p 0 0), .x 21 [(20, 1)] (fv x1), .s 22 [] (.p 1 8), .x 23 [(22, 3)] (fv z2), .c 24 [(19, 0), (21, 2), (23, 4)] (fv c1), .c 25 [] rv0, .s 26 [] (.p 1 0), .x 27 [(26, 7)] (fv x2), .s 28 [] (.p 0 8), .x 29 [(28, 9)] (fv z1), .c 30 [(25, 6), (27, 8), (29, 10)] (fv c2), .x 31 [(24, 5), (30, 11)] (.bool false), .x 32 [(31, 12)] (.bool false), ⟨some 33, [], (.v undef), .pass⟩, ⟨some 34, [], (.v undef), .pass⟩, ⟨some 35, [], (.v undef), .pass⟩, ⟨some 36, [], (.v undef), .pass⟩, ⟨some 37, [], (.v undef), .pass⟩, ⟨some 38, [], (.v undef), .pass⟩, ⟨some 39, [], (.v undef), .pass⟩, ⟨some 40, [], (.v undef), .pass⟩, ⟨some 41, [], (.v undef), .pass⟩, ⟨some 42, [], (.v undef), .pass⟩, ⟨some 43, [], (.v undef), .pass⟩, ⟨some 44, [], (.v undef), .pass⟩, ⟨some 45, [], (.v undef), .pass⟩, .x 46 [(32, 13), (45, 26)] (.bool false), .x 4 [(46, 27)] (.bool false)]
set_option maxHeartbeats 2000000 in
set_option maxRecDepth 100000 in
theorem rSame_e_c (C : Fl3 P) (x1 y1 z1 x2 y2 z2 : Fin P)(hz1 : ¬ z1 = 0) (hz2 : ¬ z2 = 0) (hx : ¬ x1 * z2 = x2 * z1)  : Gives 24 #[(rv x1 y1 z1), (rv x2 y2 z2)] (.bool false) := by
  intro w
  obtain ⟨c1, hc1⟩ : ∃ c, c = x1 * z2 := ⟨_, rfl⟩
  obtain ⟨c2, hc2⟩ : ∃ c, c = x2 * z1 := ⟨_, rfl⟩
  go_enter Try.func24, Try.ntmps24
  refine RG.M.enter [(0, (.v (rv x1 y1 z1))), (1, (.v (rv x2 y2 z2)))] 47 (by kernel_rfl) ?_
  intro a0 M0
  repeat refine wp_seq ?_
  refine M0.tx FSe_0 [(0, (ws x1 ++ (ws y1 ++ (ws z1)))), (1, (ws x2 ++ (ws y2 ++ (ws z2))))] [] [(ws x1 ++ (ws y1 ++ (ws z1))), (ws x2 ++ (ws y2 ++ (ws z2)))] [(2, (.p 0 0)), (3, (.p 1 0)), (4, (.v (.bool false)))] (by kernel_rfl) (by kernel_rfl) ⟨RG.mk 0 54 fun _ _ => by kernel_rfl, RG.mk 1 54 fun _ _ => by kernel_rfl, RG.st fun _ _ => by kernel_rfl, trivial⟩ ?_
  intro j1 i1 a1 w1 M1
  repeat refine wp_seq ?_
  refine M1.tx0 (FSe_1 x1 y1 z1) [(2, (.p 0 0)), (3, (.p 1 0)), (4, (.v (.bool false))), (5, (.v (.bool false)))] (by kernel_rfl) ⟨RG.ld u54 i54 (by kernel_rfl), RG.cl (Is_f_c C x1 y1 z1 hz1) fun _ _ => by kernel_rfl, RG.st fun _ _ => by kernel_rfl, trivial⟩ ?_
  intro a2 w2 M2
  repeat refine wp_seq ?_
  refine M2.tx0 (FSe_2 x2 y2 z2) [(2, (.p 0 0)), (3, (.p 1 0)), (4, (.v (.bool false))), (5, (.v (.bool false))), (6, (.v (.bool false)))] (by kernel_rfl) ⟨RG.ld u54 i54 (by kernel_rfl), RG.cl (Is_f_c C x2 y2 z2 hz2) fun _ _ => by kernel_rfl, RG.st fun _ _ => by kernel_rfl, trivial⟩ ?_
  intro a3 w3 M3
  repeat refine wp_seq ?_
  refine M3.tx0 FSe_3 [(2, (.p 0 0)), (3, (.p 1 0)), (4, (.v (.bool false))), (14, (.v (.bool false)))] (by kernel_rfl) ⟨RG.st fun _ _ => by kernel_rfl, RG.st fun _ _ => by kernel_rfl, RG.st fun _ _ => by kernel_rfl, RG.st fun _ _ => by kernel_rfl, trivial⟩ ?_
  intro a4 w4 M4
  repeat refine wp_seq ?_
  refine wp_cond_false (M4.ev (by kernel_rfl)) ?_
  refine wp_skip ?_
  repeat refine wp_seq ?_
  refine M4.dr0 (by kernel_rfl) (FSe_5 x1 z1 x2 z2 c1 c2) [(4, (.v (.bool false)))] (by kernel_rfl) ⟨RG.cl (F3_c) fun _ _ => by kernel_rfl, RG.st fun _ _ => by kernel_rfl, RG.ld u44 i44 (by kernel_rfl), RG.st fun _ _ => by kernel_rfl, RG.ld u44 i44 (by kernel_rfl), RG.cl ((rMul_c C x1 z2).e hc1) fun _ _ => by kernel_rfl, RG.cl (F3_c) fun _ _ => by kernel_rfl, RG.st fun _ _ => by kernel_rfl, RG.ld u44 i44 (by kernel_rfl), RG.st fun _ _ => by kernel_rfl, RG.ld u44 i44 (by kernel_rfl), RG.cl ((rMul_c C x2 z1).e hc2) fun _ _ => by kernel_rfl, RG.cert_bin rfl .eql 44 44 24 30 (fv c1) (fv c2) (.bool false) rfl rfl (RG.sx fun _ => by kernel_rfl) (RG.sx fun _ => by kernel_rfl) (fun w => by kernel_rfl) (eqR_f C.toFld (by subst_vars; exact hx)), RG.st fun _ _ => by kernel_rfl, RG.cert_pass rfl rfl, RG.cert_pass rfl rfl, RG.cert_pass rfl rfl, RG.cert_pass rfl rfl, RG.cert_pass rfl rfl, RG.cert_pass rfl rfl, RG.cert_pass rfl rfl, RG.cert_pass rfl rfl, RG.cert_pass rfl rfl, RG.cert_pass rfl rfl, RG.cert_pass rfl rfl, RG.cert_pass rfl rfl, RG.cert_pass rfl rfl, RG.st fun _ _ => by kernel_rfl, RG.st fun _ _ => by kernel_rfl, trivial⟩ ?_
  intro a5 w5 M5
  refine wp_ret ?_
  refine bodyPost_ret (v := (.bool false)) (RG.results_t 4 rfl _ (M5.at (s := (.v (.bool false))) (by kernel_rfl))) M5.sl.defers ?_
  exact ⟨_, rfl, M5.st.bel.below, rfl⟩
def FSf_0 : List RG.It := [.m 2 [] 0, .m 3 [] 1, .x 4 [] (.bool false)]
def FSf_1 (x1 y1 z1 : Fin P) : List RG.It := [.x 7 [] (rv x1 y1 z1), .c 8 [(7, 0)] (.bool false), .x 5 [(8, 1)] (.bool false)]
def FSf_2 (x2 y2 z2 : Fin P) : List RG.It := [.x 9 [] (rv x2 y2 z2), .c 10 [(9, 0)] (.bool false), .x 6 [(10, 1)] (.bool false)]
def FSf_3 : List RG.It := [.x 11 [] (.bool false), .x 12 [(11, 0)] (.bool false), .x 13 [] (.bool false), .x 14 [(12, 1), (13, 2)] (.bool false)]
def FSf_5 (x1 y1 z1 x2 y2 z2 c1 c2 c3 c4 : Fin P) : List RG.It := [.c 19 [] rv0, .s 20 [] (.p 0 0), .x 21 [(20, 1)] (fv x1), .s 22 [] (.p 1 8), .x 23 [(22, 3)] (fv z2), .c 24 [(19, 0), (21, 2), (23, 4)] (fv c1), .c 25 [] rv0, .s 26 [] (.p 1 0), .x 27 [(26, 7)] (fv x2), .s 28 [] (.p 0 8), .x 29 [(28, 9)] (fv z1), .c 30 [(25, 6), (27, 8), (29, 10)] (fv c2), .x 31 [(24, 5), (30, 11)] (.bool true), .x 32 [(31, 12)] (.bool true), .c 33 [] rv0, .s 34 [] (.p 0 4), .x 35 [(34, 15)] (fv y1), .s 36 [] (.p 1 8), .x 37 [(36, 17)] (fv z2), .c 38 [(33, 14), (35, 16), (37, 18)] (fv c3), .c 39 [] rv0, .s 40 [] (.p 1 4), .x 41 [(40, 21)] (fv y2), .s 42 [] (.p 0 8), .x 43 [(42, 23)] (fv z1), .c 44 [(39, 20), (41, 22), (43, 24)] (fv c4), .x 45 [(38, 19), (44, 25)] (.bool false), .x 46 [(32, 13), (45, 26)] (.bool false), .x 4 [(46, 27)] (.bool false)]
set_option maxHeartbeats 2000000 in
set_option maxRecDepth 100000 in
theorem rSame_f_c (C : Fl3 P) (x1 y1 z1 x2 y2 z2 : Fin P)(hz1 : ¬ z1 = 0) (hz2 : ¬ z2 = 0) (hx : x1 * z2 = x2 * z1) (hy : ¬ y1 * z2 = y2 * z1)  : Gives 24 #[(rv x1 y1 z1), (rv x2 y2 z2)] (.bool false) := by
  intro w
  obtain ⟨c1, hc1⟩ : ∃ c, c = x1 * z2 := ⟨_, rfl⟩
  obtain ⟨c2, hc2⟩ : ∃ c, c = x2 * z1 := ⟨_, rfl⟩
  obtain ⟨c3, hc3⟩ : ∃ c, c = y1 * z2 := ⟨_, rfl⟩
  obtain ⟨c4, hc4⟩ : ∃ c, c = y2 * z1 := ⟨_, rfl⟩
  go_enter Try.func24, Try.ntmps24
  refine RG.M.enter [(0, (.v (rv x1 y1 z1))), (1, (.v (rv x2 y2 z2)))] 47 (by kernel_rfl) ?_
  intro a0 M0
  repeat refine wp_seq ?_
  refine M0.tx FSf_0 [(0, (ws x1 ++ (ws y1 ++ (ws z1)))), (1, (ws x2 ++ (ws y2 ++ (ws z2))))] [] [(ws x1 ++ (ws y1 ++ (ws z1))), (ws x2 ++ (ws y2 ++ (ws z2)))] [(2, (.p 0 0)), (3, (.p 1 0)), (4, (.v (.bool false)))] (by kernel_rfl) (by kernel_rfl) ⟨RG.mk 0 54 fun _ _ => by kernel_rfl, RG.mk 1 54 fun _ _ => by kernel_rfl, RG.st fun _ _ => by kernel_rfl, trivial⟩ ?_
  intro j1 i1 a1 w1 M1
  repeat refine wp_seq ?_
  refine M1.tx0 (FSf_1 x1 y1 z1) [(2, (.p 0 0)), (3, (.p 1 0)), (4, (.v (.bool false))), (5, (.v (.bool false)))] (by kernel_rfl) ⟨RG.ld u54 i54 (by kernel_rfl), RG.cl (Is_f_c C x1 y1 z1 hz1) fun _ _ => by kernel_rfl, RG.st fun _ _ => by kernel_rfl, trivial⟩ ?_
  intro a2 w2 M2
  repeat refine wp_seq ?_
  refine M2.tx0 (FSf_2 x2 y2 z2) [(2, (.p 0 0)), (3, (.p 1 0)), (4, (.v (.bool false))), (5, (.v (.bool false))), (6, (.v (.bool false)))] (by kernel_rfl) ⟨RG.ld u54 i54 (by kernel_rfl), RG.cl (Is_f_c C x2 y2 z2 hz2) fun _ _ => by kernel_rfl, RG.st fun _ _ => by kernel_rfl, trivial⟩ ?_
  intro a3 w3 M3
  repeat refine wp_seq ?_
  refine M3.tx0 FSf_3 [(2, (.p 0 0)), (3, (.p 1 0)), (4, (.v (.bool false))), (14, (.v (.bool false)))] (by kernel_rfl) ⟨RG.st fun _ _ => by kernel_rfl, RG.st fun _ _ => by kernel_rfl, RG.st fun _ _ => by kernel_rfl, RG.st fun _ _ => by kernel_rfl, trivial⟩ ?_
  intro a4 w4 M4
  repeat refine wp_seq ?_
  refine wp_cond_false (M4.ev (by kernel_rfl)) ?_
  refine wp_skip ?_
  repeat refine wp_seq ?_
  refine M4.dr0 (by kernel_rfl) (FSf_5 x1 y1 z1 x2 y2 z2 c1 c2 c3 c4) [(4, (.v (.bool false)))] (by kernel_rfl) ⟨RG.cl (F3_c) fun _ _ => by kernel_rfl, RG.st fun _ _ => by kernel_rfl, RG.ld u44 i44 (by kernel_rfl), RG.st fun _ _ => by kernel_rfl, RG.ld u44 i44 (by kernel_rfl), RG.cl ((rMul_c C x1 z2).e hc1) fun _ _ => by kernel_rfl, RG.cl (F3_c) fun _ _ => by kernel_rfl, RG.st fun _ _ => by kernel_rfl, RG.ld u44 i44 (by kernel_rfl), RG.st fun _ _ => by kernel_rfl, RG.ld u44 i44 (by kernel_rfl), RG.cl ((rMul_c C x2 z1).e hc2) fun _ _ => by kernel_rfl, RG.cert_bin rfl .eql 44 44 24 30 (fv c1) (fv c2) (.bool true) rfl rfl (RG.sx fun _ => by kernel_rfl) (RG.sx fun _ => by kernel_rfl) (fun w => by kernel_rfl) (eqR_t C.toFld (by subst_vars; exact hx)), RG.st fun _ _ => by kernel_rfl, RG.cl (F3_c) fun _ _ => by kernel_rfl, RG.st fun _ _ => by kernel_rfl, RG.ld u44 i44 (by kernel_rfl), RG.st fun _ _ => by kernel_rfl, RG.ld u44 i44 (by kernel_rfl), RG.cl ((rMul_c C y1 z2).e hc3) fun _ _ => by kernel_rfl, RG.cl (F3_c) fun _ _ => by kernel_rfl, RG.st fun _ _ => by kernel_rfl, RG.ld u44 i44 (by kernel_rfl), RG.st fun _ _ => by kernel_rfl, RG.ld u44 i44 (by kernel_rfl), RG.cl ((rMul_c C y2 z1).e hc4) fun _ _ => by kernel_rfl, RG.cert_bin rfl .eql 44 44 38 44 (fv c3) (fv c4) (.bool false) rfl rfl (RG.sx fun _ => by kernel_rfl) (RG.sx fun _ => by kernel_rfl) (fun w => by kernel_rfl) (eqR_f C.toFld (by subst_vars; exact hy)), RG.st fun _ _ => by kernel_rfl, RG.st fun _ _ => by kernel_rfl, trivial⟩ ?_
  intro a5 w5 M5
  refine wp_ret ?_
  refine bodyPost_ret (v := (.bool false)) (RG.results_t 4 rfl _ (M5.at (s := (.v (.bool false))) (by kernel_rfl))) M5.sl.defers ?_
  exact ⟨_, rfl, M5.st.bel.below, rfl⟩
theorem same_pt (C : EC.Cur P) {a b c d z1 z2 x1 x2 y1 y2 : Fin P} (h1 : ¬ z1 = 0) (h2 : ¬ z2 = 0) (e1 : x1 = a * z1) (e2 : y1 = b * z1) (e3 : x2 = c * z2) (e4 : y2 = d * z2) (hx : x1 * z2 = x2 * z1) (hy : y1 * z2 = y2 * z1) : a = c ∧ b = d := by
  have h3 := EC.mul_ne C.pr h1 h2
  subst e1 e2 e3 e4
  exact ⟨EC.cancel C.pr h3 (by grobner), EC.cancel C.pr h3 (by grobner)⟩
/-- What Same says. -/
theorem rSame_v (C : Fl3 P) {a b : T3 P} {p q : EC.Pt P} (h : FracT a p) (h' : FracT b q) : ∃ r : Bool, Gives 24 #[tv a, tv b] (.bool r) ∧ (r = true → p = q) := by
  obtain ⟨x1, y1, z1⟩ := a
  obtain ⟨x2, y2, z2⟩ := b
  by_cases n1 : z1 = 0
  · obtain rfl := h.1.zero n1
    by_cases n2 : z2 = 0
    · obtain rfl := h'.1.zero n2
      exact ⟨true, rSame_a_c C x1 y1 z1 x2 y2 z2 n1 n2, fun _ => rfl⟩
    · exact ⟨false, rSame_b_c C x1 y1 z1 x2 y2 z2 n1 n2, fun h => by cases h⟩
  · by_cases n2 : z2 = 0
    · exact ⟨false, rSame_c_c C x1 y1 z1 x2 y2 z2 n1 n2, fun h => by cases h⟩
    · by_cases hx : x1 * z2 = x2 * z1
      · by_cases hy : y1 * z2 = y2 * z1
        · refine ⟨true, rSame_d_c C x1 y1 z1 x2 y2 z2 n1 n2 hx hy, fun _ => ?_⟩
          match p, q, h.1, h'.1 with
          | none, _, k, _ => exact absurd k n1
          | some (a, b), none, _, k => exact absurd k n2
          | some (a, b), some (c, d), ⟨_, e1, e2⟩, ⟨_, e3, e4⟩ =>
            obtain ⟨r1, r2⟩ := same_pt C.cur n1 n2 e1 e2 e3 e4 hx hy
            rw [r1, r2]
        · exact ⟨false, rSame_f_c C x1 y1 z1 x2 y2 z2 n1 n2 hx hy, fun h => by cases h⟩
      · exact ⟨false, rSame_e_c C x1 y1 z1 x2 y2 z2 n1 n2 hx, fun h => by cases h⟩
end Go.Proofs.Yticolhhalbbogae
set_option linter.unusedVariables false
namespace Go.Proofs.Yticolhhalbbogae
open Go.RowKit Go.Sort Go.Deep
variable {P : Nat} [NeZero P]
/-- The base's x, written. -/
def gxB : Bs := #[121, 190, 102, 126, 249, 220, 187, 172, 85, 160, 98, 149, 206, 135, 11, 7, 2, 155, 252, 219, 45, 206, 40, 217, 89, 242, 129, 91, 22, 248, 23, 152]
theorem of_g (C : Fld P) : Gives 67 #[.string ⟨gxB⟩] (fv (gX P)) := fun w => (rOf_any ⟨gxB⟩ rfl w).mono (by
  rintro e w' ⟨v, rfl, hb, hF⟩
  refine ⟨_, rfl, hb, ?_⟩
  have h := hF.nv
  rw [h]
  show nv _ = nv _
  rw [gX_val C]
  exact congrArg nv (by decide +kernel : beV gxB.toList = 55066263022277343669578718895168534326250603453777594175500187360389116729240))
theorem g_root (C : Fld P) : rt (gX P * gX P * gX P + 7) = some (gY P) := by
  have h := gG_on C
  have h1 : gY P ^ 2 = gX P ^ 3 + 7 := h
  have h2 : gY P * gY P = gX P * gX P * gX P + 7 := by
    generalize gX P = x at *
    generalize gY P = y at *
    clear h C
    grobner
  rw [rt_of C h2, if_neg]
  rw [gY_val C]
  decide
def gT (P : Nat) [NeZero P] : T3 P := (gX P, gY P, 1)
theorem gT_frac (C : Fld P) : FracT (gT P) (gG P) := ⟨frac_one C _ _, gG_on C⟩
def FG_0 : List RG.It := [.m 0 [] 0]
def FG_1 : List RG.It := [.c 4 [] (fv (gX P)), .m 1 [] 1, .u [(1, 1), (4, 0)] 1]
def FG_2 : List RG.It := [.x 6 [] (fv (gX P)), .c 7 [(6, 0)] (.tuple #[(rv (gX P) (gY P) (1 : Fin P)), (.bool true)]), .x 5 [(7, 1)] (.tuple #[(rv (gX P) (gY P) (1 : Fin P)), (.bool true)]), .x 8 [(5, 2)] (rv (gX P) (gY P) (1 : Fin P)), .x 9 [(5, 2)] (.bool true), .m 2 [] 2, .u [(2, 5), (8, 3)] 2, .x 3 [(9, 4)] (.bool true)]
def FG_3 : List RG.It := [.x 10 [] (rv (gX P) (gY P) (1 : Fin P)), .u [(10, 0)] 0]
set_option maxHeartbeats 4000000 in
set_option maxRecDepth 100000 in
theorem rG_c (C : Fl3 P) : Gives 50 #[] (tv (gT P)) := by
  intro w
  go_enter Try.func50, Try.ntmps50
  refine RG.M.enter [] 11 (by kernel_rfl) ?_
  intro a0 M0
  repeat refine wp_seq ?_
  refine M0.tx FG_0 [(0, (RG.z 12))] [] [(RG.z 12)] [(0, (.p 0 0))] (by kernel_rfl) (by kernel_rfl) ⟨RG.mk 0 54 fun _ _ => by kernel_rfl, trivial⟩ ?_
  intro j1 a1 w1 M1
  repeat refine wp_seq ?_
  refine M1.tx (FG_1 (P := P)) [(1, (RG.z 4))] [(1, 2, (ws (gX P)))] [(RG.z 12), (ws (gX P))] [(0, (.p 0 0)), (1, (.p 1 0))] (by kernel_rfl) (by kernel_rfl) ⟨RG.cl (of_g C.toFld) fun _ _ => by kernel_rfl, RG.mk 1 44 fun _ _ => by kernel_rfl, RG.pt i33 (by kernel_rfl), trivial⟩ ?_
  intro j2 a2 w2 M2
  repeat refine wp_seq ?_
  refine M2.tx (FG_2 (P := P)) [(5, (RG.z 12))] [(2, 6, (ws (gX P) ++ (ws (gY P) ++ (ws (1 : Fin P)))))] [(RG.z 12), (ws (gX P)), (ws (gX P) ++ (ws (gY P) ++ (ws (1 : Fin P))))] [(0, (.p 0 0)), (2, (.p 2 0))] (by kernel_rfl) (by kernel_rfl) ⟨RG.ld u33 i33 (by kernel_rfl), RG.cl (rat_y_c C (gX P) (gY P) (g_root C.toFld)) fun _ _ => by kernel_rfl, RG.st fun _ _ => by kernel_rfl, RG.st fun _ _ => by kernel_rfl, RG.st fun _ _ => by kernel_rfl, RG.mk 2 54 fun _ _ => by kernel_rfl, RG.pt i56 (by kernel_rfl), RG.st fun _ _ => by kernel_rfl, trivial⟩ ?_
  intro j3 a3 w3 M3
  repeat refine wp_seq ?_
  refine M3.tx (FG_3 (P := P)) [] [(0, 1, (ws (gX P) ++ (ws (gY P) ++ (ws (1 : Fin P)))))] [(ws (gX P) ++ (ws (gY P) ++ (ws (1 : Fin P)))), (ws (gX P)), (ws (gX P) ++ (ws (gY P) ++ (ws (1 : Fin P))))] [(0, (.p 0 0))] (by kernel_rfl) (by kernel_rfl) ⟨RG.ld u56 i56 (by kernel_rfl), RG.pt i56 (by kernel_rfl), trivial⟩ ?_
  intro a4 w4 M4
  refine wp_ret ?_
  refine bodyPost_ret (v := tv (gT P)) (RG.results_row M4.st 0 54 rfl 0 _ rfl (M4.at (s := .p 0 0) (by kernel_rfl)) u56 i56) M4.sl.defers ?_
  exact ⟨_, rfl, M4.st.bel.below, rfl⟩
end Go.Proofs.Yticolhhalbbogae
set_option linter.unusedVariables false
namespace Go.Proofs.Yticolhhalbbogae
open Go.RowKit Go.Sort Go.Deep
variable {P : Nat} [NeZero P]
def FB_0 : List RG.It := [.m 1 [] 0, .m 2 [] 1]
def FB_1 (n : Nat) : List RG.It := [.x 3 [] (nv n), .c 4 [] (tv (gT P)), .c 5 [(3, 0), (4, 1)] (tv (tmF n (gT P) 256)), .u [(5, 2)] 1]
set_option maxHeartbeats 4000000 in
set_option maxRecDepth 100000 in
theorem qBase_c (C : Fl3 P) (n : Nat) (hn : n < top) : Gives 25 #[nv n] (tv (tmF n (gT P) 256)) := by
  intro w
  go_enter Try.func25, Try.ntmps25
  refine RG.M.enter [(0, .v (nv n))] 6 (by kernel_rfl) ?_
  intro a0 M0
  repeat refine wp_seq ?_
  refine M0.tx FB_0 [(0, (wn n)), (1, (RG.z 12))] [] [(wn n), (RG.z 12)] [(1, (.p 0 0)), (2, (.p 1 0))] (by kernel_rfl) (by kernel_rfl) ⟨RG.mk 0 44 fun _ _ => by kernel_rfl, RG.mk 1 54 fun _ _ => by kernel_rfl, trivial⟩ ?_
  intro j1 i1 a1 w1 M1
  repeat refine wp_seq ?_
  refine M1.dr (by kernel_rfl) (FB_1 (P := P) n) [] [(1, 3, (tw (tmF n (gT P) 256)))] [(wn n), (tw (tmF n (gT P) 256))] [(2, (.p 1 0))] (by kernel_rfl) (by kernel_rfl) ⟨RG.ld u44 i44 (by kernel_rfl), RG.cl (rG_c C) fun _ _ => by kernel_rfl, RG.cl (rTimes_c C n hn (gT P) (gT_frac C.toFld)) fun _ _ => by kernel_rfl, RG.pt i54 (by kernel_rfl), trivial⟩ ?_
  intro a2 w2 M2
  refine wp_ret ?_
  refine bodyPost_ret (v := tv (tmF n (gT P) 256)) (RG.results_row M2.st 2 54 rfl 1 _ rfl (M2.at (s := .p 1 0) (by kernel_rfl)) u54 i54) M2.sl.defers ?_
  exact ⟨_, rfl, M2.st.bel.below, rfl⟩
def FNa_0 : List RG.It := [.x 8 [] (.bool false)]
def FNa_1 (s0 : ByteArray) (t0 : T3 P) : List RG.It := [.x 18 [] (.string s0), .c 19 [(18, 0)] (.tuple #[(tv t0), (.bool false)]), .x 17 [(19, 1)] (.tuple #[(tv t0), (.bool false)]), .x 20 [(17, 2)] (tv t0), .x 21 [(17, 2)] (.bool false), .m 9 [] 0, .u [(9, 5), (20, 3)] 0, .x 10 [(21, 4)] (.bool false)]
def FNa_2 (s1 : ByteArray) (t1 : T3 P) (o1 : Bool) : List RG.It := [.x 23 [] (.string s1), .c 24 [(23, 0)] (.tuple #[(tv t1), (.bool o1)]), .x 22 [(24, 1)] (.tuple #[(tv t1), (.bool o1)]), .x 25 [(22, 2)] (tv t1), .x 26 [(22, 2)] (.bool o1), .m 11 [] 1, .u [(11, 5), (25, 3)] 1, .x 12 [(26, 4)] (.bool o1)]
def FNa_3 (s2 : ByteArray) (n : Nat) (o2 : Bool) : List RG.It := [.x 28 [] (.string s2), .c 29 [(28, 0)] (.tuple #[(nv n), (.bool o2)]), .x 27 [(29, 1)] (.tuple #[(nv n), (.bool o2)]), .x 30 [(27, 2)] (nv n), .x 31 [(27, 2)] (.bool o2), .m 13 [] 2, .u [(13, 5), (30, 3)] 2, .x 14 [(31, 4)] (.bool o2)]
def FNa_4 (s3 : ByteArray) (m : Nat) (o3 : Bool) : List RG.It := [.x 33 [] (.string s3), .c 34 [(33, 0)] (.tuple #[(nv m), (.bool o3)]), .x 32 [(34, 1)] (.tuple #[(nv m), (.bool o3)]), .x 35 [(32, 2)] (nv m), .x 36 [(32, 2)] (.bool o3), .m 15 [] 3, .u [(15, 5), (35, 3)] 3, .x 16 [(36, 4)] (.bool o3)]
def FNa_5 : List RG.It := [.x 37 [] (.bool false), .x 38 [(37, 0)] (.bool true), .x 39 [(38, 1)] (.bool true), ⟨some 40, [], (.v undef), .pass⟩, ⟨some 41, [], (.v undef), .pass⟩, .x 42 [(39, 2), (41, 4)] (.bool true), .x 43 [(42, 5)] (.bool true), ⟨some 44, [], (.v undef), .pass⟩, ⟨some 45, [], (.v undef), .pass⟩, .x 46 [(43, 6), (45, 8)] (.bool true), .x 47 [(46, 9)] (.bool true), ⟨some 48, [], (.v undef), .pass⟩, ⟨some 49, [], (.v undef), .pass⟩, .x 50 [(47, 10), (49, 12)] (.bool true)]
def FNa_6 : List RG.It := [.x 8 [] (.bool false)]
omit [NeZero P] in
set_option maxHeartbeats 4000000 in
set_option maxRecDepth 100000 in
theorem an_0 (s0 s1 s2 s3 : ByteArray) (t0 t1 b1 t2 t3 : T3 P) (n m : Nat) (o1 o2 o3 r : Bool) (hq0 : Gives 23 #[.string s0] (.tuple #[tv t0, .bool false])) (hq1 : Gives 23 #[.string s1] (.tuple #[tv t1, .bool o1])) (hq2 : Gives 17 #[.string s2] (.tuple #[nv n, .bool o2])) (hq3 : Gives 17 #[.string s3] (.tuple #[nv m, .bool o3])) : Gives 8 #[.string s0, .string s1, .string s2, .string s3] (.bool false) := by
  intro w
  go_enter Try.func8, Try.ntmps8
  refine RG.M.enter [(0, .v (.string s0)), (1, .v (.string s1)), (2, .v (.string s2)), (3, .v (.string s3))] 59 (by kernel_rfl) ?_
  intro a0 M0
  repeat refine wp_seq ?_
  refine M0.tx0 FNa_0 [(0, (.v (.string s0))), (1, (.v (.string s1))), (2, (.v (.string s2))), (3, (.v (.string s3))), (8, (.v (.bool false)))] (by kernel_rfl) ⟨RG.st fun _ _ => by kernel_rfl, trivial⟩ ?_
  intro a1 w1 M1
  repeat refine wp_seq ?_
  refine M1.tx (FNa_1 s0 t0) [(5, (RG.z 12))] [(0, 6, (tw t0))] [(tw t0)] [(1, (.v (.string s1))), (2, (.v (.string s2))), (3, (.v (.string s3))), (8, (.v (.bool false))), (10, (.v (.bool false)))] (by kernel_rfl) (by kernel_rfl) ⟨RG.st fun _ _ => by kernel_rfl, RG.cl (hq0) fun _ _ => by kernel_rfl, RG.st fun _ _ => by kernel_rfl, RG.st fun _ _ => by kernel_rfl, RG.st fun _ _ => by kernel_rfl, RG.mk 0 54 fun _ _ => by kernel_rfl, RG.pt i54 (by kernel_rfl), RG.st fun _ _ => by kernel_rfl, trivial⟩ ?_
  intro j2 a2 w2 M2
  repeat refine wp_seq ?_
  refine M2.tx (FNa_2 s1 t1 o1) [(5, (RG.z 12))] [(1, 6, (tw t1))] [(tw t0), (tw t1)] [(2, (.v (.string s2))), (3, (.v (.string s3))), (8, (.v (.bool false))), (10, (.v (.bool false)))] (by kernel_rfl) (by kernel_rfl) ⟨RG.st fun _ _ => by kernel_rfl, RG.cl (hq1) fun _ _ => by kernel_rfl, RG.st fun _ _ => by kernel_rfl, RG.st fun _ _ => by kernel_rfl, RG.st fun _ _ => by kernel_rfl, RG.mk 1 54 fun _ _ => by kernel_rfl, RG.pt i54 (by kernel_rfl), RG.st fun _ _ => by kernel_rfl, trivial⟩ ?_
  intro j3 a3 w3 M3
  repeat refine wp_seq ?_
  refine M3.tx (FNa_3 s2 n o2) [(5, (RG.z 4))] [(2, 6, (wn n))] [(tw t0), (tw t1), (wn n)] [(3, (.v (.string s3))), (8, (.v (.bool false))), (10, (.v (.bool false)))] (by kernel_rfl) (by kernel_rfl) ⟨RG.st fun _ _ => by kernel_rfl, RG.cl (hq2) fun _ _ => by kernel_rfl, RG.st fun _ _ => by kernel_rfl, RG.st fun _ _ => by kernel_rfl, RG.st fun _ _ => by kernel_rfl, RG.mk 2 44 fun _ _ => by kernel_rfl, RG.pt i44 (by kernel_rfl), RG.st fun _ _ => by kernel_rfl, trivial⟩ ?_
  intro j4 a4 w4 M4
  repeat refine wp_seq ?_
  refine M4.tx (FNa_4 s3 m o3) [(5, (RG.z 4))] [(3, 6, (wn m))] [(tw t0), (tw t1), (wn n), (wn m)] [(8, (.v (.bool false))), (10, (.v (.bool false)))] (by kernel_rfl) (by kernel_rfl) ⟨RG.st fun _ _ => by kernel_rfl, RG.cl (hq3) fun _ _ => by kernel_rfl, RG.st fun _ _ => by kernel_rfl, RG.st fun _ _ => by kernel_rfl, RG.st fun _ _ => by kernel_rfl, RG.mk 3 44 fun _ _ => by kernel_rfl, RG.pt i44 (by kernel_rfl), RG.st fun _ _ => by kernel_rfl, trivial⟩ ?_
  intro j5 a5 w5 M5
  repeat refine wp_seq ?_
  refine M5.tx0 FNa_5 [(8, (.v (.bool false))), (50, (.v (.bool true)))] (by kernel_rfl) ⟨RG.st fun _ _ => by kernel_rfl, RG.st fun _ _ => by kernel_rfl, RG.st fun _ _ => by kernel_rfl, RG.cert_pass rfl rfl, RG.cert_pass rfl rfl, RG.st fun _ _ => by kernel_rfl, RG.st fun _ _ => by kernel_rfl, RG.cert_pass rfl rfl, RG.cert_pass rfl rfl, RG.st fun _ _ => by kernel_rfl, RG.st fun _ _ => by kernel_rfl, RG.cert_pass rfl rfl, RG.cert_pass rfl rfl, RG.st fun _ _ => by kernel_rfl, trivial⟩ ?_
  intro a6 w6 M6
  repeat refine wp_seq ?_
  refine wp_cond_true (M6.ev (by kernel_rfl)) ?_
  repeat refine wp_seq ?_
  refine M6.tx0 FNa_6 [(8, (.v (.bool false)))] (by kernel_rfl) ⟨RG.st fun _ _ => by kernel_rfl, trivial⟩ ?_
  intro a7 w7 M7
  refine wp_ret ?_
  refine bodyPost_ret (v := (.bool false)) (RG.results_t 8 rfl _ (M7.at (s := .v (.bool false)) (by kernel_rfl))) M7.sl.defers ?_
  exact ⟨_, rfl, M7.st.bel.below, rfl⟩
def FNb_0 : List RG.It := [.x 8 [] (.bool false)]
def FNb_1 (s0 : ByteArray) (t0 : T3 P) : List RG.It := [.x 18 [] (.string s0), .c 19 [(18, 0)] (.tuple #[(tv t0), (.bool true)]), .x 17 [(19, 1)] (.tuple #[(tv t0), (.bool true)]), .x 20 [(17, 2)] (tv t0), .x 21 [(17, 2)] (.bool true), .m 9 [] 0, .u [(9, 5), (20, 3)] 0, .x 10 [(21, 4)] (.bool true)]
def FNb_2 (s1 : ByteArray) (t1 : T3 P) : List RG.It := [.x 23 [] (.string s1), .c 24 [(23, 0)] (.tuple #[(tv t1), (.bool false)]), .x 22 [(24, 1)] (.tuple #[(tv t1), (.bool false)]), .x 25 [(22, 2)] (tv t1), .x 26 [(22, 2)] (.bool false), .m 11 [] 1, .u [(11, 5), (25, 3)] 1, .x 12 [(26, 4)] (.bool false)]
def FNb_3 (s2 : ByteArray) (n : Nat) (o2 : Bool) : List RG.It := [.x 28 [] (.string s2), .c 29 [(28, 0)] (.tuple #[(nv n), (.bool o2)]), .x 27 [(29, 1)] (.tuple #[(nv n), (.bool o2)]), .x 30 [(27, 2)] (nv n), .x 31 [(27, 2)] (.bool o2), .m 13 [] 2, .u [(13, 5), (30, 3)] 2, .x 14 [(31, 4)] (.bool o2)]
def FNb_4 (s3 : ByteArray) (m : Nat) (o3 : Bool) : List RG.It := [.x 33 [] (.string s3), .c 34 [(33, 0)] (.tuple #[(nv m), (.bool o3)]), .x 32 [(34, 1)] (.tuple #[(nv m), (.bool o3)]), .x 35 [(32, 2)] (nv m), .x 36 [(32, 2)] (.bool o3), .m 15 [] 3, .u [(15, 5), (35, 3)] 3, .x 16 [(36, 4)] (.bool o3)]
def FNb_5 : List RG.It := [.x 37 [] (.bool true), .x 38 [(37, 0)] (.bool false), .x 39 [(38, 1)] (.bool false), .x 40 [] (.bool false), .x 41 [(40, 3)] (.bool true), .x 42 [(39, 2), (41, 4)] (.bool true), .x 43 [(42, 5)] (.bool true), ⟨some 44, [], (.v undef), .pass⟩, ⟨some 45, [], (.v undef), .pass⟩, .x 46 [(43, 6), (45, 8)] (.bool true), .x 47 [(46, 9)] (.bool true), ⟨some 48, [], (.v undef), .pass⟩, ⟨some 49, [], (.v undef), .pass⟩, .x 50 [(47, 10), (49, 12)] (.bool true)]
def FNb_6 : List RG.It := [.x 8 [] (.bool false)]
omit [NeZero P] in
set_option maxHeartbeats 4000000 in
set_option maxRecDepth 100000 in
theorem an_1 (s0 s1 s2 s3 : ByteArray) (t0 t1 b1 t2 t3 : T3 P) (n m : Nat) (o1 o2 o3 r : Bool) (hq0 : Gives 23 #[.string s0] (.tuple #[tv t0, .bool true])) (hq1 : Gives 23 #[.string s1] (.tuple #[tv t1, .bool false])) (hq2 : Gives 17 #[.string s2] (.tuple #[nv n, .bool o2])) (hq3 : Gives 17 #[.string s3] (.tuple #[nv m, .bool o3])) : Gives 8 #[.string s0, .string s1, .string s2, .string s3] (.bool false) := by
  intro w
  go_enter Try.func8, Try.ntmps8
  refine RG.M.enter [(0, .v (.string s0)), (1, .v (.string s1)), (2, .v (.string s2)), (3, .v (.string s3))] 59 (by kernel_rfl) ?_
  intro a0 M0
  repeat refine wp_seq ?_
  refine M0.tx0 FNb_0 [(0, (.v (.string s0))), (1, (.v (.string s1))), (2, (.v (.string s2))), (3, (.v (.string s3))), (8, (.v (.bool false)))] (by kernel_rfl) ⟨RG.st fun _ _ => by kernel_rfl, trivial⟩ ?_
  intro a1 w1 M1
  repeat refine wp_seq ?_
  refine M1.tx (FNb_1 s0 t0) [(5, (RG.z 12))] [(0, 6, (tw t0))] [(tw t0)] [(1, (.v (.string s1))), (2, (.v (.string s2))), (3, (.v (.string s3))), (8, (.v (.bool false))), (10, (.v (.bool true)))] (by kernel_rfl) (by kernel_rfl) ⟨RG.st fun _ _ => by kernel_rfl, RG.cl (hq0) fun _ _ => by kernel_rfl, RG.st fun _ _ => by kernel_rfl, RG.st fun _ _ => by kernel_rfl, RG.st fun _ _ => by kernel_rfl, RG.mk 0 54 fun _ _ => by kernel_rfl, RG.pt i54 (by kernel_rfl), RG.st fun _ _ => by kernel_rfl, trivial⟩ ?_
  intro j2 a2 w2 M2
  repeat refine wp_seq ?_
  refine M2.tx (FNb_2 s1 t1) [(5, (RG.z 12))] [(1, 6, (tw t1))] [(tw t0), (tw t1)] [(2, (.v (.string s2))), (3, (.v (.string s3))), (8, (.v (.bool false))), (10, (.v (.bool true))), (12, (.v (.bool false)))] (by kernel_rfl) (by kernel_rfl) ⟨RG.st fun _ _ => by kernel_rfl, RG.cl (hq1) fun _ _ => by kernel_rfl, RG.st fun _ _ => by kernel_rfl, RG.st fun _ _ => by kernel_rfl, RG.st fun _ _ => by kernel_rfl, RG.mk 1 54 fun _ _ => by kernel_rfl, RG.pt i54 (by kernel_rfl), RG.st fun _ _ => by kernel_rfl, trivial⟩ ?_
  intro j3 a3 w3 M3
  repeat refine wp_seq ?_
  refine M3.tx (FNb_3 s2 n o2) [(5, (RG.z 4))] [(2, 6, (wn n))] [(tw t0), (tw t1), (wn n)] [(3, (.v (.string s3))), (8, (.v (.bool false))), (10, (.v (.bool true))), (12, (.v (.bool false)))] (by kernel_rfl) (by kernel_rfl) ⟨RG.st fun _ _ => by kernel_rfl, RG.cl (hq2) fun _ _ => by kernel_rfl, RG.st fun _ _ => by kernel_rfl, RG.st fun _ _ => by kernel_rfl, RG.st fun _ _ => by kernel_rfl, RG.mk 2 44 fun _ _ => by kernel_rfl, RG.pt i44 (by kernel_rfl), RG.st fun _ _ => by kernel_rfl, trivial⟩ ?_
  intro j4 a4 w4 M4
  repeat refine wp_seq ?_
  refine M4.tx (FNb_4 s3 m o3) [(5, (RG.z 4))] [(3, 6, (wn m))] [(tw t0), (tw t1), (wn n), (wn m)] [(8, (.v (.bool false))), (10, (.v (.bool true))), (12, (.v (.bool false)))] (by kernel_rfl) (by kernel_rfl) ⟨RG.st fun _ _ => by kernel_rfl, RG.cl (hq3) fun _ _ => by kernel_rfl, RG.st fun _ _ => by kernel_rfl, RG.st fun _ _ => by kernel_rfl, RG.st fun _ _ => by kernel_rfl, RG.mk 3 44 fun _ _ => by kernel_rfl, RG.pt i44 (by kernel_rfl), RG.st fun _ _ => by kernel_rfl, trivial⟩ ?_
  intro j5 a5 w5 M5
  repeat refine wp_seq ?_
  refine M5.tx0 FNb_5 [(8, (.v (.bool false))), (50, (.v (.bool true)))] (by kernel_rfl) ⟨RG.st fun _ _ => by kernel_rfl, RG.st fun _ _ => by kernel_rfl, RG.st fun _ _ => by kernel_rfl, RG.st fun _ _ => by kernel_rfl, RG.st fun _ _ => by kernel_rfl, RG.st fun _ _ => by kernel_rfl, RG.st fun _ _ => by kernel_rfl, RG.cert_pass rfl rfl, RG.cert_pass rfl rfl, RG.st fun _ _ => by kernel_rfl, RG.st fun _ _ => by kernel_rfl, RG.cert_pass rfl rfl, RG.cert_pass rfl rfl, RG.st fun _ _ => by kernel_rfl, trivial⟩ ?_
  intro a6 w6 M6
  repeat refine wp_seq ?_
  refine wp_cond_true (M6.ev (by kernel_rfl)) ?_
  repeat refine wp_seq ?_
  refine M6.tx0 FNb_6 [(8, (.v (.bool false)))] (by kernel_rfl) ⟨RG.st fun _ _ => by kernel_rfl, trivial⟩ ?_
  intro a7 w7 M7
  refine wp_ret ?_
  refine bodyPost_ret (v := (.bool false)) (RG.results_t 8 rfl _ (M7.at (s := .v (.bool false)) (by kernel_rfl))) M7.sl.defers ?_
  exact ⟨_, rfl, M7.st.bel.below, rfl⟩
def FNc_0 : List RG.It := [.x 8 [] (.bool false)]
def FNc_1 (s0 : ByteArray) (t0 : T3 P) : List RG.It := [.x 18 [] (.string s0), .c 19 [(18, 0)] (.tuple #[(tv t0), (.bool true)]), .x 17 [(19, 1)] (.tuple #[(tv t0), (.bool true)]), .x 20 [(17, 2)] (tv t0), .x 21 [(17, 2)] (.bool true), .m 9 [] 0, .u [(9, 5), (20, 3)] 0, .x 10 [(21, 4)] (.bool true)]
def FNc_2 (s1 : ByteArray) (t1 : T3 P) : List RG.It := [.x 23 [] (.string s1), .c 24 [(23, 0)] (.tuple #[(tv t1), (.bool true)]), .x 22 [(24, 1)] (.tuple #[(tv t1), (.bool true)]), .x 25 [(22, 2)] (tv t1), .x 26 [(22, 2)] (.bool true), .m 11 [] 1, .u [(11, 5), (25, 3)] 1, .x 12 [(26, 4)] (.bool true)]
def FNc_3 (s2 : ByteArray) (n : Nat) : List RG.It := [.x 28 [] (.string s2), .c 29 [(28, 0)] (.tuple #[(nv n), (.bool false)]), .x 27 [(29, 1)] (.tuple #[(nv n), (.bool false)]), .x 30 [(27, 2)] (nv n), .x 31 [(27, 2)] (.bool false), .m 13 [] 2, .u [(13, 5), (30, 3)] 2, .x 14 [(31, 4)] (.bool false)]
def FNc_4 (s3 : ByteArray) (m : Nat) (o3 : Bool) : List RG.It := [.x 33 [] (.string s3), .c 34 [(33, 0)] (.tuple #[(nv m), (.bool o3)]), .x 32 [(34, 1)] (.tuple #[(nv m), (.bool o3)]), .x 35 [(32, 2)] (nv m), .x 36 [(32, 2)] (.bool o3), .m 15 [] 3, .u [(15, 5), (35, 3)] 3, .x 16 [(36, 4)] (.bool o3)]
def FNc_5 : List RG.It := [.x 37 [] (.bool true), .x 38 [(37, 0)] (.bool false), .x 39 [(38, 1)] (.bool false), .x 40 [] (.bool true), .x 41 [(40, 3)] (.bool false), .x 42 [(39, 2), (41, 4)] (.bool false), .x 43 [(42, 5)] (.bool false), .x 44 [] (.bool false), .x 45 [(44, 7)] (.bool true), .x 46 [(43, 6), (45, 8)] (.bool true), .x 47 [(46, 9)] (.bool true), ⟨some 48, [], (.v undef), .pass⟩, ⟨some 49, [], (.v undef), .pass⟩, .x 50 [(47, 10), (49, 12)] (.bool true)]
def FNc_6 : List RG.It := [.x 8 [] (.bool false)]
omit [NeZero P] in
set_option maxHeartbeats 4000000 in
set_option maxRecDepth 100000 in
theorem an_2 (s0 s1 s2 s3 : ByteArray) (t0 t1 b1 t2 t3 : T3 P) (n m : Nat) (o1 o2 o3 r : Bool) (hq0 : Gives 23 #[.string s0] (.tuple #[tv t0, .bool true])) (hq1 : Gives 23 #[.string s1] (.tuple #[tv t1, .bool true])) (hq2 : Gives 17 #[.string s2] (.tuple #[nv n, .bool false])) (hq3 : Gives 17 #[.string s3] (.tuple #[nv m, .bool o3])) : Gives 8 #[.string s0, .string s1, .string s2, .string s3] (.bool false) := by
  intro w
  go_enter Try.func8, Try.ntmps8
  refine RG.M.enter [(0, .v (.string s0)), (1, .v (.string s1)), (2, .v (.string s2)), (3, .v (.string s3))] 59 (by kernel_rfl) ?_
  intro a0 M0
  repeat refine wp_seq ?_
  refine M0.tx0 FNc_0 [(0, (.v (.string s0))), (1, (.v (.string s1))), (2, (.v (.string s2))), (3, (.v (.string s3))), (8, (.v (.bool false)))] (by kernel_rfl) ⟨RG.st fun _ _ => by kernel_rfl, trivial⟩ ?_
  intro a1 w1 M1
  repeat refine wp_seq ?_
  refine M1.tx (FNc_1 s0 t0) [(5, (RG.z 12))] [(0, 6, (tw t0))] [(tw t0)] [(1, (.v (.string s1))), (2, (.v (.string s2))), (3, (.v (.string s3))), (8, (.v (.bool false))), (10, (.v (.bool true)))] (by kernel_rfl) (by kernel_rfl) ⟨RG.st fun _ _ => by kernel_rfl, RG.cl (hq0) fun _ _ => by kernel_rfl, RG.st fun _ _ => by kernel_rfl, RG.st fun _ _ => by kernel_rfl, RG.st fun _ _ => by kernel_rfl, RG.mk 0 54 fun _ _ => by kernel_rfl, RG.pt i54 (by kernel_rfl), RG.st fun _ _ => by kernel_rfl, trivial⟩ ?_
  intro j2 a2 w2 M2
  repeat refine wp_seq ?_
  refine M2.tx (FNc_2 s1 t1) [(5, (RG.z 12))] [(1, 6, (tw t1))] [(tw t0), (tw t1)] [(2, (.v (.string s2))), (3, (.v (.string s3))), (8, (.v (.bool false))), (10, (.v (.bool true))), (12, (.v (.bool true)))] (by kernel_rfl) (by kernel_rfl) ⟨RG.st fun _ _ => by kernel_rfl, RG.cl (hq1) fun _ _ => by kernel_rfl, RG.st fun _ _ => by kernel_rfl, RG.st fun _ _ => by kernel_rfl, RG.st fun _ _ => by kernel_rfl, RG.mk 1 54 fun _ _ => by kernel_rfl, RG.pt i54 (by kernel_rfl), RG.st fun _ _ => by kernel_rfl, trivial⟩ ?_
  intro j3 a3 w3 M3
  repeat refine wp_seq ?_
  refine M3.tx (FNc_3 s2 n) [(5, (RG.z 4))] [(2, 6, (wn n))] [(tw t0), (tw t1), (wn n)] [(3, (.v (.string s3))), (8, (.v (.bool false))), (10, (.v (.bool true))), (12, (.v (.bool true))), (14, (.v (.bool false)))] (by kernel_rfl) (by kernel_rfl) ⟨RG.st fun _ _ => by kernel_rfl, RG.cl (hq2) fun _ _ => by kernel_rfl, RG.st fun _ _ => by kernel_rfl, RG.st fun _ _ => by kernel_rfl, RG.st fun _ _ => by kernel_rfl, RG.mk 2 44 fun _ _ => by kernel_rfl, RG.pt i44 (by kernel_rfl), RG.st fun _ _ => by kernel_rfl, trivial⟩ ?_
  intro j4 a4 w4 M4
  repeat refine wp_seq ?_
  refine M4.tx (FNc_4 s3 m o3) [(5, (RG.z 4))] [(3, 6, (wn m))] [(tw t0), (tw t1), (wn n), (wn m)] [(8, (.v (.bool false))), (10, (.v (.bool true))), (12, (.v (.bool true))), (14, (.v (.bool false)))] (by kernel_rfl) (by kernel_rfl) ⟨RG.st fun _ _ => by kernel_rfl, RG.cl (hq3) fun _ _ => by kernel_rfl, RG.st fun _ _ => by kernel_rfl, RG.st fun _ _ => by kernel_rfl, RG.st fun _ _ => by kernel_rfl, RG.mk 3 44 fun _ _ => by kernel_rfl, RG.pt i44 (by kernel_rfl), RG.st fun _ _ => by kernel_rfl, trivial⟩ ?_
  intro j5 a5 w5 M5
  repeat refine wp_seq ?_
  refine M5.tx0 FNc_5 [(8, (.v (.bool false))), (50, (.v (.bool true)))] (by kernel_rfl) ⟨RG.st fun _ _ => by kernel_rfl, RG.st fun _ _ => by kernel_rfl, RG.st fun _ _ => by kernel_rfl, RG.st fun _ _ => by kernel_rfl, RG.st fun _ _ => by kernel_rfl, RG.st fun _ _ => by kernel_rfl, RG.st fun _ _ => by kernel_rfl, RG.st fun _ _ => by kernel_rfl, RG.st fun _ _ => by kernel_rfl, RG.st fun _ _ => by kernel_rfl, RG.st fun _ _ => by kernel_rfl, RG.cert_pass rfl rfl, RG.cert_pass rfl rfl, RG.st fun _ _ => by kernel_rfl, trivial⟩ ?_
  intro a6 w6 M6
  repeat refine wp_seq ?_
  refine wp_cond_true (M6.ev (by kernel_rfl)) ?_
  repeat refine wp_seq ?_
  refine M6.tx0 FNc_6 [(8, (.v (.bool false)))] (by kernel_rfl) ⟨RG.st fun _ _ => by kernel_rfl, trivial⟩ ?_
  intro a7 w7 M7
  refine wp_ret ?_
  refine bodyPost_ret (v := (.bool false)) (RG.results_t 8 rfl _ (M7.at (s := .v (.bool false)) (by kernel_rfl))) M7.sl.defers ?_
  exact ⟨_, rfl, M7.st.bel.below, rfl⟩
def FNd_0 : List RG.It := [.x 8 [] (.bool false)]
def FNd_1 (s0 : ByteArray) (t0 : T3 P) : List RG.It := [.x 18 [] (.string s0), .c 19 [(18, 0)] (.tuple #[(tv t0), (.bool true)]), .x 17 [(19, 1)] (.tuple #[(tv t0), (.bool true)]), .x 20 [(17, 2)] (tv t0), .x 21 [(17, 2)] (.bool true), .m 9 [] 0, .u [(9, 5), (20, 3)] 0, .x 10 [(21, 4)] (.bool true)]
def FNd_2 (s1 : ByteArray) (t1 : T3 P) : List RG.It := [.x 23 [] (.string s1), .c 24 [(23, 0)] (.tuple #[(tv t1), (.bool true)]), .x 22 [(24, 1)] (.tuple #[(tv t1), (.bool true)]), .x 25 [(22, 2)] (tv t1), .x 26 [(22, 2)] (.bool true), .m 11 [] 1, .u [(11, 5), (25, 3)] 1, .x 12 [(26, 4)] (.bool true)]
def FNd_3 (s2 : ByteArray) (n : Nat) : List RG.It := [.x 28 [] (.string s2), .c 29 [(28, 0)] (.tuple #[(nv n), (.bool true)]), .x 27 [(29, 1)] (.tuple #[(nv n), (.bool true)]), .x 30 [(27, 2)] (nv n), .x 31 [(27, 2)] (.bool true), .m 13 [] 2, .u [(13, 5), (30, 3)] 2, .x 14 [(31, 4)] (.bool true)]
def FNd_4 (s3 : ByteArray) (m : Nat) : List RG.It := [.x 33 [] (.string s3), .c 34 [(33, 0)] (.tuple #[(nv m), (.bool false)]), .x 32 [(34, 1)] (.tuple #[(nv m), (.bool false)]), .x 35 [(32, 2)] (nv m), .x 36 [(32, 2)] (.bool false), .m 15 [] 3, .u [(15, 5), (35, 3)] 3, .x 16 [(36, 4)] (.bool false)]
def FNd_5 : List RG.It := [.x 37 [] (.bool true), .x 38 [(37, 0)] (.bool false), .x 39 [(38, 1)] (.bool false), .x 40 [] (.bool true), .x 41 [(40, 3)] (.bool false), .x 42 [(39, 2), (41, 4)] (.bool false), .x 43 [(42, 5)] (.bool false), .x 44 [] (.bool true), .x 45 [(44, 7)] (.bool false), .x 46 [(43, 6), (45, 8)] (.bool false), .x 47 [(46, 9)] (.bool false), .x 48 [] (.bool false), .x 49 [(48, 11)] (.bool true), .x 50 [(47, 10), (49, 12)] (.bool true)]
def FNd_6 : List RG.It := [.x 8 [] (.bool false)]
omit [NeZero P] in
set_option maxHeartbeats 4000000 in
set_option maxRecDepth 100000 in
theorem an_3 (s0 s1 s2 s3 : ByteArray) (t0 t1 b1 t2 t3 : T3 P) (n m : Nat) (o1 o2 o3 r : Bool) (hq0 : Gives 23 #[.string s0] (.tuple #[tv t0, .bool true])) (hq1 : Gives 23 #[.string s1] (.tuple #[tv t1, .bool true])) (hq2 : Gives 17 #[.string s2] (.tuple #[nv n, .bool true])) (hq3 : Gives 17 #[.string s3] (.tuple #[nv m, .bool false])) : Gives 8 #[.string s0, .string s1, .string s2, .string s3] (.bool false) := by
  intro w
  go_enter Try.func8, Try.ntmps8
  refine RG.M.enter [(0, .v (.string s0)), (1, .v (.string s1)), (2, .v (.string s2)), (3, .v (.string s3))] 59 (by kernel_rfl) ?_
  intro a0 M0
  repeat refine wp_seq ?_
  refine M0.tx0 FNd_0 [(0, (.v (.string s0))), (1, (.v (.string s1))), (2, (.v (.string s2))), (3, (.v (.string s3))), (8, (.v (.bool false)))] (by kernel_rfl) ⟨RG.st fun _ _ => by kernel_rfl, trivial⟩ ?_
  intro a1 w1 M1
  repeat refine wp_seq ?_
  refine M1.tx (FNd_1 s0 t0) [(5, (RG.z 12))] [(0, 6, (tw t0))] [(tw t0)] [(1, (.v (.string s1))), (2, (.v (.string s2))), (3, (.v (.string s3))), (8, (.v (.bool false))), (10, (.v (.bool true)))] (by kernel_rfl) (by kernel_rfl) ⟨RG.st fun _ _ => by kernel_rfl, RG.cl (hq0) fun _ _ => by kernel_rfl, RG.st fun _ _ => by kernel_rfl, RG.st fun _ _ => by kernel_rfl, RG.st fun _ _ => by kernel_rfl, RG.mk 0 54 fun _ _ => by kernel_rfl, RG.pt i54 (by kernel_rfl), RG.st fun _ _ => by kernel_rfl, trivial⟩ ?_
  intro j2 a2 w2 M2
  repeat refine wp_seq ?_
  refine M2.tx (FNd_2 s1 t1) [(5, (RG.z 12))] [(1, 6, (tw t1))] [(tw t0), (tw t1)] [(2, (.v (.string s2))), (3, (.v (.string s3))), (8, (.v (.bool false))), (10, (.v (.bool true))), (12, (.v (.bool true)))] (by kernel_rfl) (by kernel_rfl) ⟨RG.st fun _ _ => by kernel_rfl, RG.cl (hq1) fun _ _ => by kernel_rfl, RG.st fun _ _ => by kernel_rfl, RG.st fun _ _ => by kernel_rfl, RG.st fun _ _ => by kernel_rfl, RG.mk 1 54 fun _ _ => by kernel_rfl, RG.pt i54 (by kernel_rfl), RG.st fun _ _ => by kernel_rfl, trivial⟩ ?_
  intro j3 a3 w3 M3
  repeat refine wp_seq ?_
  refine M3.tx (FNd_3 s2 n) [(5, (RG.z 4))] [(2, 6, (wn n))] [(tw t0), (tw t1), (wn n)] [(3, (.v (.string s3))), (8, (.v (.bool false))), (10, (.v (.bool true))), (12, (.v (.bool true))), (14, (.v (.bool true)))] (by kernel_rfl) (by kernel_rfl) ⟨RG.st fun _ _ => by kernel_rfl, RG.cl (hq2) fun _ _ => by kernel_rfl, RG.st fun _ _ => by kernel_rfl, RG.st fun _ _ => by kernel_rfl, RG.st fun _ _ => by kernel_rfl, RG.mk 2 44 fun _ _ => by kernel_rfl, RG.pt i44 (by kernel_rfl), RG.st fun _ _ => by kernel_rfl, trivial⟩ ?_
  intro j4 a4 w4 M4
  repeat refine wp_seq ?_
  refine M4.tx (FNd_4 s3 m) [(5, (RG.z 4))] [(3, 6, (wn m))] [(tw t0), (tw t1), (wn n), (wn m)] [(8, (.v (.bool false))), (10, (.v (.bool true))), (12, (.v (.bool true))), (14, (.v (.bool true))), (16, (.v (.bool false)))] (by kernel_rfl) (by kernel_rfl) ⟨RG.st fun _ _ => by kernel_rfl, RG.cl (hq3) fun _ _ => by kernel_rfl, RG.st fun _ _ => by kernel_rfl, RG.st fun _ _ => by kernel_rfl, RG.st fun _ _ => by kernel_rfl, RG.mk 3 44 fun _ _ => by kernel_rfl, RG.pt i44 (by kernel_rfl), RG.st fun _ _ => by kernel_rfl, trivial⟩ ?_
  intro j5 a5 w5 M5
  repeat refine wp_seq ?_
  refine M5.tx0 FNd_5 [(8, (.v (.bool false))), (50, (.v (.bool true)))] (by kernel_rfl) ⟨RG.st fun _ _ => by kernel_rfl, RG.st fun _ _ => by kernel_rfl, RG.st fun _ _ => by kernel_rfl, RG.st fun _ _ => by kernel_rfl, RG.st fun _ _ => by kernel_rfl, RG.st fun _ _ => by kernel_rfl, RG.st fun _ _ => by kernel_rfl, RG.st fun _ _ => by kernel_rfl, RG.st fun _ _ => by kernel_rfl, RG.st fun _ _ => by kernel_rfl, RG.st fun _ _ => by kernel_rfl, RG.st fun _ _ => by kernel_rfl, RG.st fun _ _ => by kernel_rfl, RG.st fun _ _ => by kernel_rfl, trivial⟩ ?_
  intro a6 w6 M6
  repeat refine wp_seq ?_
  refine wp_cond_true (M6.ev (by kernel_rfl)) ?_
  repeat refine wp_seq ?_
  refine M6.tx0 FNd_6 [(8, (.v (.bool false)))] (by kernel_rfl) ⟨RG.st fun _ _ => by kernel_rfl, trivial⟩ ?_
  intro a7 w7 M7
  refine wp_ret ?_
  refine bodyPost_ret (v := (.bool false)) (RG.results_t 8 rfl _ (M7.at (s := .v (.bool false)) (by kernel_rfl))) M7.sl.defers ?_
  exact ⟨_, rfl, M7.st.bel.below, rfl⟩
def FNe_0 : List RG.It := [.x 8 [] (.bool false)]
def FNe_1 (s0 : ByteArray) (t0 : T3 P) : List RG.It := [.x 18 [] (.string s0), .c 19 [(18, 0)] (.tuple #[(tv t0), (.bool true)]), .x 17 [(19, 1)] (.tuple #[(tv t0), (.bool true)]), .x 20 [(17, 2)] (tv t0), .x 21 [(17, 2)] (.bool true), .m 9 [] 0, .u [(9, 5), (20, 3)] 0, .x 10 [(21, 4)] (.bool true)]
def FNe_2 (s1 : ByteArray) (t1 : T3 P) : List RG.It := [.x 23 [] (.string s1), .c 24 [(23, 0)] (.tuple #[(tv t1), (.bool true)]), .x 22 [(24, 1)] (.tuple #[(tv t1), (.bool true)]), .x 25 [(22, 2)] (tv t1), .x 26 [(22, 2)] (.bool true), .m 11 [] 1, .u [(11, 5), (25, 3)] 1, .x 12 [(26, 4)] (.bool true)]
def FNe_3 (s2 : ByteArray) (n : Nat) : List RG.It := [.x 28 [] (.string s2), .c 29 [(28, 0)] (.tuple #[(nv n), (.bool true)]), .x 27 [(29, 1)] (.tuple #[(nv n), (.bool true)]), .x 30 [(27, 2)] (nv n), .x 31 [(27, 2)] (.bool true), .m 13 [] 2, .u [(13, 5), (30, 3)] 2, .x 14 [(31, 4)] (.bool true)]
def FNe_4 (s3 : ByteArray) (m : Nat) : List RG.It := [.x 33 [] (.string s3), .c 34 [(33, 0)] (.tuple #[(nv m), (.bool true)]), .x 32 [(34, 1)] (.tuple #[(nv m), (.bool true)]), .x 35 [(32, 2)] (nv m), .x 36 [(32, 2)] (.bool true), .m 15 [] 3, .u [(15, 5), (35, 3)] 3, .x 16 [(36, 4)] (.bool true)]
def FNe_5 : List RG.It := [.x 37 [] (.bool true), .x 38 [(37, 0)] (.bool false), .x 39 [(38, 1)] (.bool false), .x 40 [] (.bool true), .x 41 [(40, 3)] (.bool false), .x 42 [(39, 2), (41, 4)] (.bool false), .x 43 [(42, 5)] (.bool false), .x 44 [] (.bool true), .x 45 [(44, 7)] (.bool false), .x 46 [(43, 6), (45, 8)] (.bool false), .x 47 [(46, 9)] (.bool false), .x 48 [] (.bool true), .x 49 [(48, 11)] (.bool false), .x 50 [(47, 10), (49, 12)] (.bool false)]
def FNe_7 (t0 t1 b1 t2 t3 : T3 P) (n m : Nat) (r : Bool) : List RG.It := [.x 51 [] (nv m), .c 52 [(51, 0)] (tv b1), .x 53 [] (tv t0), .x 54 [] (nv n), .x 55 [] (tv t1), .c 56 [(54, 3), (55, 4)] (tv t2), .c 57 [(53, 2), (56, 5)] (tv t3), .c 58 [(52, 1), (57, 6)] (.bool r), .x 8 [(58, 7)] (.bool r)]
omit [NeZero P] in
set_option maxHeartbeats 4000000 in
set_option maxRecDepth 100000 in
theorem an_o (s0 s1 s2 s3 : ByteArray) (t0 t1 b1 t2 t3 : T3 P) (n m : Nat) (o1 o2 o3 r : Bool) (hq0 : Gives 23 #[.string s0] (.tuple #[tv t0, .bool true])) (hq1 : Gives 23 #[.string s1] (.tuple #[tv t1, .bool true])) (hq2 : Gives 17 #[.string s2] (.tuple #[nv n, .bool true])) (hq3 : Gives 17 #[.string s3] (.tuple #[nv m, .bool true])) (hba : Gives 25 #[nv m] (tv b1)) (hti : Gives 27 #[nv n, tv t1] (tv t2)) (hpl : Gives 26 #[tv t0, tv t2] (tv t3)) (hsa : Gives 24 #[tv b1, tv t3] (.bool r)) : Gives 8 #[.string s0, .string s1, .string s2, .string s3] (.bool r) := by
  intro w
  go_enter Try.func8, Try.ntmps8
  refine RG.M.enter [(0, .v (.string s0)), (1, .v (.string s1)), (2, .v (.string s2)), (3, .v (.string s3))] 59 (by kernel_rfl) ?_
  intro a0 M0
  repeat refine wp_seq ?_
  refine M0.tx0 FNe_0 [(0, (.v (.string s0))), (1, (.v (.string s1))), (2, (.v (.string s2))), (3, (.v (.string s3))), (8, (.v (.bool false)))] (by kernel_rfl) ⟨RG.st fun _ _ => by kernel_rfl, trivial⟩ ?_
  intro a1 w1 M1
  repeat refine wp_seq ?_
  refine M1.tx (FNe_1 s0 t0) [(5, (RG.z 12))] [(0, 6, (tw t0))] [(tw t0)] [(1, (.v (.string s1))), (2, (.v (.string s2))), (3, (.v (.string s3))), (8, (.v (.bool false))), (9, (.p 0 0)), (10, (.v (.bool true)))] (by kernel_rfl) (by kernel_rfl) ⟨RG.st fun _ _ => by kernel_rfl, RG.cl (hq0) fun _ _ => by kernel_rfl, RG.st fun _ _ => by kernel_rfl, RG.st fun _ _ => by kernel_rfl, RG.st fun _ _ => by kernel_rfl, RG.mk 0 54 fun _ _ => by kernel_rfl, RG.pt i54 (by kernel_rfl), RG.st fun _ _ => by kernel_rfl, trivial⟩ ?_
  intro j2 a2 w2 M2
  repeat refine wp_seq ?_
  refine M2.tx (FNe_2 s1 t1) [(5, (RG.z 12))] [(1, 6, (tw t1))] [(tw t0), (tw t1)] [(2, (.v (.string s2))), (3, (.v (.string s3))), (8, (.v (.bool false))), (9, (.p 0 0)), (10, (.v (.bool true))), (11, (.p 1 0)), (12, (.v (.bool true)))] (by kernel_rfl) (by kernel_rfl) ⟨RG.st fun _ _ => by kernel_rfl, RG.cl (hq1) fun _ _ => by kernel_rfl, RG.st fun _ _ => by kernel_rfl, RG.st fun _ _ => by kernel_rfl, RG.st fun _ _ => by kernel_rfl, RG.mk 1 54 fun _ _ => by kernel_rfl, RG.pt i54 (by kernel_rfl), RG.st fun _ _ => by kernel_rfl, trivial⟩ ?_
  intro j3 a3 w3 M3
  repeat refine wp_seq ?_
  refine M3.tx (FNe_3 s2 n) [(5, (RG.z 4))] [(2, 6, (wn n))] [(tw t0), (tw t1), (wn n)] [(3, (.v (.string s3))), (8, (.v (.bool false))), (9, (.p 0 0)), (10, (.v (.bool true))), (11, (.p 1 0)), (12, (.v (.bool true))), (13, (.p 2 0)), (14, (.v (.bool true)))] (by kernel_rfl) (by kernel_rfl) ⟨RG.st fun _ _ => by kernel_rfl, RG.cl (hq2) fun _ _ => by kernel_rfl, RG.st fun _ _ => by kernel_rfl, RG.st fun _ _ => by kernel_rfl, RG.st fun _ _ => by kernel_rfl, RG.mk 2 44 fun _ _ => by kernel_rfl, RG.pt i44 (by kernel_rfl), RG.st fun _ _ => by kernel_rfl, trivial⟩ ?_
  intro j4 a4 w4 M4
  repeat refine wp_seq ?_
  refine M4.tx (FNe_4 s3 m) [(5, (RG.z 4))] [(3, 6, (wn m))] [(tw t0), (tw t1), (wn n), (wn m)] [(8, (.v (.bool false))), (9, (.p 0 0)), (10, (.v (.bool true))), (11, (.p 1 0)), (12, (.v (.bool true))), (13, (.p 2 0)), (14, (.v (.bool true))), (15, (.p 3 0)), (16, (.v (.bool true)))] (by kernel_rfl) (by kernel_rfl) ⟨RG.st fun _ _ => by kernel_rfl, RG.cl (hq3) fun _ _ => by kernel_rfl, RG.st fun _ _ => by kernel_rfl, RG.st fun _ _ => by kernel_rfl, RG.st fun _ _ => by kernel_rfl, RG.mk 3 44 fun _ _ => by kernel_rfl, RG.pt i44 (by kernel_rfl), RG.st fun _ _ => by kernel_rfl, trivial⟩ ?_
  intro j5 a5 w5 M5
  repeat refine wp_seq ?_
  refine M5.tx0 FNe_5 [(8, (.v (.bool false))), (9, (.p 0 0)), (11, (.p 1 0)), (13, (.p 2 0)), (15, (.p 3 0)), (50, (.v (.bool false)))] (by kernel_rfl) ⟨RG.st fun _ _ => by kernel_rfl, RG.st fun _ _ => by kernel_rfl, RG.st fun _ _ => by kernel_rfl, RG.st fun _ _ => by kernel_rfl, RG.st fun _ _ => by kernel_rfl, RG.st fun _ _ => by kernel_rfl, RG.st fun _ _ => by kernel_rfl, RG.st fun _ _ => by kernel_rfl, RG.st fun _ _ => by kernel_rfl, RG.st fun _ _ => by kernel_rfl, RG.st fun _ _ => by kernel_rfl, RG.st fun _ _ => by kernel_rfl, RG.st fun _ _ => by kernel_rfl, RG.st fun _ _ => by kernel_rfl, trivial⟩ ?_
  intro a6 w6 M6
  repeat refine wp_seq ?_
  refine wp_cond_false (M6.ev (by kernel_rfl)) ?_
  refine wp_skip ?_
  repeat refine wp_seq ?_
  refine M6.dr0 (by kernel_rfl) (FNe_7 t0 t1 b1 t2 t3 n m r) [(8, (.v (.bool r)))] (by kernel_rfl) ⟨RG.ld u44 i44 (by kernel_rfl), RG.cl (hba) fun _ _ => by kernel_rfl, RG.ld u54 i54 (by kernel_rfl), RG.ld u44 i44 (by kernel_rfl), RG.ld u54 i54 (by kernel_rfl), RG.cl (hti) fun _ _ => by kernel_rfl, RG.cl (hpl) fun _ _ => by kernel_rfl, RG.cl (hsa) fun _ _ => by kernel_rfl, RG.st fun _ _ => by kernel_rfl, trivial⟩ ?_
  intro a7 w7 M7
  refine wp_ret ?_
  refine bodyPost_ret (v := (.bool r)) (RG.results_t 8 rfl _ (M7.at (s := .v (.bool r)) (by kernel_rfl))) M7.sl.defers ?_
  exact ⟨_, rfl, M7.st.bel.below, rfl⟩
/-- What is asked of two that answer. -/
theorem answers_v {N : Nat} (C : Fl3 P) (O : Ord N) (s0 s1 s2 s3 : ByteArray) : ∃ r : Bool, Gives 8 #[.string s0, .string s1, .string s2, .string s3] (.bool r) ∧
    (r = true → (rd P s0.data).isSome = true ∧ (rd P s1.data).isSome = true ∧ (rq N s2.data).isSome = true ∧ (rq N s3.data).isSome = true ∧
      EC.mul (nuV s3.data) (gG P) = EC.add (ptOf P s0.data) (EC.mul (nuV s2.data) (ptOf P s1.data))) := by
  have q0 := rRead_v C s0.data
  have q1 := rRead_v C s1.data
  have q2 := qscal_c O s2
  have q3 := qscal_c O s3
  by_cases h0 : (rd P s0.data).isSome = true
  · rw [h0] at q0
    by_cases h1 : (rd P s1.data).isSome = true
    · rw [h1] at q1
      by_cases h2 : (rq N s2.data).isSome = true
      · rw [h2] at q2
        by_cases h3 : (rq N s3.data).isSome = true
        · rw [h3] at q3
          have hn := Nat.lt_of_lt_of_le (rq_get h2).2 O.le
          have hm := Nat.lt_of_lt_of_le (rq_get h3).2 O.le
          have et : top = 2 ^ 256 := by decide +kernel
          have f0 := rdT_frac C h0
          have f1 := rdT_frac C h1
          have f2 := tmF_F C (et ▸ hn) f1 256 (Nat.le_refl _)
          have f3 := tmF_F C (et ▸ hm) (gT_frac C.toFld) 256 (Nat.le_refl _)
          rw [Nat.sub_self, Nat.pow_zero, Nat.div_one] at f2 f3
          have f4 := f0.plus C f2
          obtain ⟨r, hr, hrt⟩ := rSame_v C f3 f4.2
          exact ⟨r, an_o s0 s1 s2 s3 _ _ _ _ _ _ _ true true true r q0 q1 q2 q3 (qBase_c C _ hm) (rTimes_c C _ hn _ f1) f4.1 hr, fun h => ⟨h0, h1, h2, h3, hrt h⟩⟩
        · rw [Bool.not_eq_true] at h3
          rw [h3] at q3
          exact ⟨false, an_3 s0 s1 s2 s3 _ _ (gT P) (gT P) (gT P) _ _ true true true true q0 q1 q2 q3, fun h => by cases h⟩
      · rw [Bool.not_eq_true] at h2
        rw [h2] at q2
        exact ⟨false, an_2 s0 s1 s2 s3 _ _ (gT P) (gT P) (gT P) _ _ true true _ true q0 q1 q2 q3, fun h => by cases h⟩
    · rw [Bool.not_eq_true] at h1
      rw [h1] at q1
      exact ⟨false, an_1 s0 s1 s2 s3 _ _ (gT P) (gT P) (gT P) _ _ true _ _ true q0 q1 q2 q3, fun h => by cases h⟩
  · rw [Bool.not_eq_true] at h0
    rw [h0] at q0
    exact ⟨false, an_0 s0 s1 s2 s3 _ _ (gT P) (gT P) (gT P) _ _ _ _ _ true q0 q1 q2 q3, fun h => by cases h⟩
end Go.Proofs.Yticolhhalbbogae
namespace Go.Proofs.Yticolhhalbbogae
open Go.RowKit Go.Sort Go.Deep
theorem run_copy_text {P : Program} (w : World) (dT sT ty elem : TypeId) (b o dLen dCap : Nat) (t : ByteArray)
    (hu : P.underlying dT = some (.slice elem)) (hz : ∀ w, (Go.sizeOf elem).run P w = .ok 1 w)
    (hc : ∀ j, j < dLen → (w.cell? ⟨b, o + j, none⟩).isSome = true) (hf : ∀ j, j < dLen → w.frozen? ⟨b, o + j, none⟩ = false) :
    (Builtin.copy_ #[dT, sT] ty #[.slice (some ⟨b, o, none⟩) dLen dCap, .string t]).run P w = .ok (goInt (Nat.min t.size dLen)) (w.setCells b o ((t.data.toList.map fun x => Value.int .u8 (x.toNat : Int)).take (Nat.min t.size dLen))) := by
  have hl : (t.data.toList.map fun x => Value.int .u8 (x.toNat : Int)).length = t.size := by rw [List.length_map, ← Lib.size_eq]
  have hm : Nat.min t.size dLen ≤ dLen := Nat.min_le_right _ _
  have hst := run_storeCells_cells (P := P) b o ((t.data.toList.map fun x => Value.int .u8 (x.toNat : Int)).take (Nat.min t.size dLen)) 0 w (by
      rw [List.length_take, hl]; intro j hj; simpa using hc j (by omega)) (by
      rw [List.length_take, hl]; intro j hj; simpa using hf j (by omega)) (by
    intro v hv
    obtain ⟨x, _, rfl⟩ := List.mem_map.1 (List.mem_of_mem_take hv)
    rfl)
  simp [Builtin.copy_, run_underlying hu, Builtin.lenOf, Builtin.firstCells, hz]
  rw [hst]
  rfl
/-- A number out of a text, far below the order. -/
def scB (s : ByteArray) : Bs := #[0] ++ s.data.extract 0 31 ++ Array.replicate (31 - s.size) 0
theorem scB_size (s : ByteArray) : (scB s).size = 32 := by
  unfold scB
  have hl : s.data.size = s.size := rfl
  simp only [Array.size_append, Array.size_extract, Array.size_replicate, hl, List.size_toArray, List.length_cons, List.length_nil]
  omega
theorem scB_0 (s : ByteArray) : (scB s)[0]! = 0 := by
  unfold scB
  rw [getElem!_pos _ 0 (by simp; omega), Array.getElem_append_left (by simp; omega), Array.getElem_append_left (by simp)]
  rfl
theorem scB_at (s : ByteArray) (j : Nat) (h1 : j < s.size) (h2 : j < 31) : (scB s)[1 + j]! = s.data[j]'h1 := by
  have hl : s.data.size = s.size := rfl
  unfold scB
  rw [getElem!_pos _ (1 + j) (by simp; omega), Array.getElem_append_left (by simp; omega), Array.getElem_append_right (by simp)]
  simp
theorem scB_end (s : ByteArray) (j : Nat) (h1 : s.size ≤ j) (h2 : j < 31) : (scB s)[1 + j]! = 0 := by
  have hl : s.data.size = s.size := rfl
  unfold scB
  rw [getElem!_pos _ (1 + j) (by simp; omega), Array.getElem_append_right (by simp; omega)]
  simp
theorem beV_lt (l : List UInt8) : beV l < 256 ^ l.length := by
  induction l with
  | nil => decide
  | cons x r ih =>
    have h := beV_append [x] r
    rw [show [x] ++ r = x :: r from rfl] at h
    have hx : beV [x] = x.toNat := by simp [beV]
    have hx2 := x.toNat_lt
    rw [h, hx, List.length_cons, Nat.pow_succ, Nat.mul_comm (256 ^ r.length)]
    have := Nat.mul_le_mul_right (256 ^ r.length) (show x.toNat + 1 ≤ 256 by omega)
    rw [Nat.add_mul, Nat.one_mul] at this
    omega
theorem scB_lt (s : ByteArray) : beV (scB s).toList < 2 ^ 248 := by
  have e : (scB s).toList = [0] ++ (s.data.extract 0 31 ++ Array.replicate (31 - s.size) 0).toList := by
    unfold scB
    simp
  have hl : (s.data.extract 0 31 ++ Array.replicate (31 - s.size) 0).toList.length = 31 := by
    have := scB_size s
    unfold scB at this
    simp only [Array.size_append, List.size_toArray, List.length_cons, List.length_nil] at this
    rw [Array.length_toList, Array.size_append]
    omega
  have h := beV_lt (s.data.extract 0 31 ++ Array.replicate (31 - s.size) 0).toList
  rw [e, beV_append, show beV [0] = 0 from rfl, Nat.zero_mul, Nat.zero_add]
  rw [hl] at h
  exact h
theorem mk32 (w : World) : (Instr.makeSlice 22 (.int .i64 32) (.int .i64 32)).run Try.prog w = .ok (.slice (some ⟨w.heap.size, 0, none⟩) 32 32) (w.alloc (.cells (madeCells #[.int .u8 0] 32) 5)) :=
  run_make_row' (P := Try.prog) 22 5 (.int .u8 0) 1 und23 info5b rfl .i64 .i64 32 (by decide) (by decide) w
end Go.Proofs.Yticolhhalbbogae
namespace Go.Proofs.Yticolhhalbbogae
open Go.RowKit Go.Sort Go.Deep
variable {P : Nat} [NeZero P]
/-- Points that lie in memory: their blocks, their caps. -/
def Pk (W : World) (l : List (Nat × Nat × EC.Pt P)) : Prop := ∀ x ∈ l, 33 ≤ x.2.1 ∧ x.1 < W.heap.size ∧ EC.On x.2.2 ∧ Holds encB W x.1 0 (wr x.2.2)
theorem Pk.call {W W' : World} {l : List (Nat × Nat × EC.Pt P)} (h : Pk W l) (hb : Below W.heap.size W W') : Pk W' l := fun x hx =>
  ⟨(h x hx).1, Nat.lt_of_lt_of_le (h x hx).2.1 hb.size, (h x hx).2.2.1, Holds.below (h x hx).2.2.2 hb (h x hx).2.1⟩
theorem Pk.only {W W' : World} {l : List (Nat × Nat × EC.Pt P)} {b o n : Nat} (h : Pk W l) (hO : Only b o n W W') (hne : ∀ x ∈ l, x.1 ≠ b) : Pk W' l := fun x hx =>
  ⟨(h x hx).1, Nat.lt_of_lt_of_le (h x hx).2.1 hO.size, (h x hx).2.2.1, Holds.other (h x hx).2.2.2 hO (hne x hx) (by rw [wr_size]; decide)⟩
theorem Pk.cons {W : World} {l : List (Nat × Nat × EC.Pt P)} {g c : Nat} {X : EC.Pt P} (h : Pk W l) (h1 : 33 ≤ c) (h2 : g < W.heap.size) (h3 : EC.On X) (h4 : Holds encB W g 0 (wr X)) : Pk W ((g, c, X) :: l) := fun x hx => by
  rcases List.mem_cons.1 hx with e | e
  · subst e; exact ⟨h1, h2, h3, h4⟩
  · exact h x e
theorem Pk.at {W : World} {l : List (Nat × Nat × EC.Pt P)} (h : Pk W l) (j : Nat) {g c : Nat} {X : EC.Pt P} (hj : l[j]? = some (g, c, X)) : 33 ≤ c ∧ g < W.heap.size ∧ EC.On X ∧ Holds encB W g 0 (wr X) := h _ (List.mem_of_getElem? hj)
theorem arg33_k {W : World} {g c : Nat} {X : EC.Pt P} (h : 33 ≤ c ∧ g < W.heap.size ∧ EC.On X ∧ Holds encB W g 0 (wr X)) : Arg33 W (.slice (some ⟨g, 0, none⟩) 33 c) (wr X) :=
  ⟨_, _, _, rfl, wr_size _, fun _ => ⟨g, 0, rfl, h.1, h.2.1, h.2.2.2⟩⟩
theorem times_k {N : Nat} (C : Fld P) (hG : Gap 4624529908474429119 4994812053365940164 1 N) (hN : N ≤ top) {W : World} {g c gs : Nat} {X : EC.Pt P} {K : Bs} (hs : K.size = 32) (hk : beV K.toList < N) (hgs : gs < W.heap.size) (hK : Holds encB W gs 0 K) (h : 33 ≤ c ∧ g < W.heap.size ∧ EC.On X ∧ Holds encB W g 0 (wr X)) :
    Calls Try.prog 9 #[.slice (some ⟨gs, 0, none⟩) 32 32, .slice (some ⟨g, 0, none⟩) 33 c] W (Ret fun e w' => Below W.heap.size W w' ∧ OutP W (wr (EC.mul (beV K.toList) X)) e w') := by
  obtain ⟨p, hp, rfl⟩ := rd_wr C h.2.2.1
  refine (gTimes_c C hG hN _ _ K _ W ⟨_, _, _, rfl, hs, fun _ => ⟨gs, 0, rfl, by omega, hgs, hK⟩⟩ (arg33_k h)).mono ?_
  rintro e w' ⟨v, rfl, hb, hR⟩
  have := hR.q C hN
  unfold TimesQ rq at this
  rw [if_pos ⟨hs, hk⟩, hp] at this
  exact ⟨_, rfl, hb, this⟩
theorem order_big {N : Nat} (hG : Gap 4624529908474429119 4994812053365940164 1 N) : 2 ^ 248 < N := by
  have := hG.hP2
  unfold top at this
  omega
theorem beV_cons (x : UInt8) (r : List UInt8) : beV (x :: r) = x.toNat * 256 ^ r.length + beV r := by
  have h := beV_append [x] r
  rw [show [x] ++ r = x :: r from rfl] at h
  rw [h]
  simp [beV]
theorem beV_set : ∀ (l : List UInt8) (i : Nat) (h : i < l.length) (v : UInt8), beV (l.set i v) + (l[i]'h).toNat * 256 ^ (l.length - 1 - i) = beV l + v.toNat * 256 ^ (l.length - 1 - i)
  | x :: r, 0, h, v => by
    rw [List.set_cons_zero, beV_cons, beV_cons, List.getElem_cons_zero, List.length_cons, Nat.add_sub_cancel, Nat.sub_zero]
    omega
  | x :: r, i + 1, h, v => by
    have ih := beV_set r i (by simpa using h) v
    rw [List.set_cons_succ, beV_cons, beV_cons, List.getElem_cons_succ, List.length_set, List.length_cons, show r.length + 1 - 1 - (i + 1) = r.length - 1 - i by omega]
    omega
theorem str_eqL (a : Bs) : ((⟨a⟩ : ByteArray).toList == (⟨a⟩ : ByteArray).toList) = true := by simp
end Go.Proofs.Yticolhhalbbogae
namespace Go.Proofs.Yticolhhalbbogae.EC
variable {P : Nat} [NeZero P]
/-- All points. -/
def pts (P : Nat) [NeZero P] : List (Pt P) :=
  none :: (List.finRange P).flatMap fun x => ((List.finRange P).filter fun y => decide (y ^ 2 = x ^ 3 + 7)).map fun y => some (x, y)
theorem mem_pts (a : Pt P) : a ∈ pts P ↔ On a := by
  unfold pts
  rcases a with _ | ⟨x, y⟩
  · exact ⟨fun _ => trivial, fun _ => List.mem_cons_self⟩
  · rw [List.mem_cons, List.mem_flatMap]
    constructor
    · rintro (h | ⟨u, -, h⟩)
      · cases h
      · obtain ⟨v, hv, e⟩ := List.mem_map.1 h
        cases e
        have h2 := (List.mem_filter.1 hv).2
        exact (decide_eq_true_iff (p := y ^ 2 = x ^ 3 + 7)).1 h2
    · intro h
      have h : y ^ 2 = x ^ 3 + 7 := h
      exact Or.inr ⟨x, List.mem_finRange x, List.mem_map.2 ⟨y, List.mem_filter.2 ⟨List.mem_finRange y, decide_eq_true h⟩, rfl⟩⟩
theorem nodup_pts : (pts P).Nodup := by
  unfold pts
  refine List.nodup_cons.2 ⟨fun h => ?_, ?_⟩
  · obtain ⟨u, -, h⟩ := List.mem_flatMap.1 h
    obtain ⟨v, -, e⟩ := List.mem_map.1 h
    cases e
  · refine List.pairwise_flatMap.2 ⟨fun x _ => List.pairwise_map.2 ?_, ?_⟩
    · refine List.Pairwise.imp ?_ ((List.nodup_finRange P).sublist List.filter_sublist)
      intro a b h e
      exact h (by cases e; rfl)
    · refine List.Pairwise.imp ?_ (List.nodup_finRange P)
      intro a b h u hu v hv e
      obtain ⟨c, -, rfl⟩ := List.mem_map.1 hu
      obtain ⟨d, -, rfl⟩ := List.mem_map.1 hv
      exact h (by cases e; rfl)
theorem sq_diff {u v c : Fin P} (hu : u ^ 2 = c) (hv : v ^ 2 = c) : (u - v) * (u + v) = 0 := by grobner
theorem opp_one {a b d : Fin P} (e1 : a + b = 0) (e2 : a + d = 0) : b = d := by grobner
theorem two_roots (C : Cur P) {c : Fin P} : ∀ l : List (Fin P), l.Nodup → (∀ y, y ∈ l → y ^ 2 = c) → l.length ≤ 2
  | [], _, _ => Nat.zero_le _
  | [_], _, _ => Nat.le_succ _
  | [_, _], _, _ => Nat.le_refl _
  | a :: b :: d :: l, hn, h => by
    exfalso
    have ha : a ^ 2 = c := h a (by simp)
    have hb : b ^ 2 = c := h b (by simp)
    have hd : d ^ 2 = c := h d (by simp)
    have n1 : a ≠ b := fun e => (List.nodup_cons.1 hn).1 (by rw [e]; simp)
    have n2 : a ≠ d := fun e => (List.nodup_cons.1 hn).1 (by rw [e]; simp)
    have n3 : b ≠ d := fun e => (List.nodup_cons.1 (List.nodup_cons.1 hn).2).1 (by rw [e]; simp)
    have f : ∀ u v : Fin P, u ^ 2 = c → v ^ 2 = c → u ≠ v → u + v = 0 := fun u v hu hv hn => by
      exact Classical.byContradiction fun hs => mul_ne C.pr (sub_ne hn) hs (sq_diff hu hv)
    have e1 := f a b ha hb n1
    have e2 := f a d ha hd n2
    exact n3 (opp_one e1 e2)
theorem flat_len {α β : Type} (f : α → List β) (k : Nat) (h : ∀ a, (f a).length ≤ k) : ∀ l : List α, (l.flatMap f).length ≤ k * l.length
  | [] => Nat.zero_le _
  | a :: l => by
    rw [List.flatMap_cons, List.length_append, List.length_cons, Nat.mul_succ, Nat.add_comm]
    exact Nat.add_le_add (flat_len f k h l) (h a)
theorem len_pts (C : Cur P) : (pts P).length ≤ 2 * P + 1 := by
  unfold pts
  rw [List.length_cons]
  refine Nat.succ_le_succ (Nat.le_trans (flat_len _ 2 (fun x => ?_) _) (by rw [List.length_finRange]; exact Nat.le_refl _))
  rw [List.length_map]
  exact two_roots C (c := x ^ 3 + 7) _ ((List.nodup_finRange P).sublist List.filter_sublist) fun y hy => of_decide_eq_true (List.mem_filter.1 hy).2
theorem pts_pos : 0 < (pts P).length := Nat.succ_pos _
/-- The sum of a list. -/
def lsum : List (Pt P) → Pt P
  | [] => none
  | a :: l => add a (lsum l)
theorem lsum_on (C : Cur P) : ∀ l : List (Pt P), (∀ a, a ∈ l → On a) → On (lsum l)
  | [], _ => none_on
  | a :: l, h => C.on (h a List.mem_cons_self) (lsum_on C l fun b hb => h b (List.mem_cons_of_mem _ hb))
theorem lsum_perm (C : Cur P) {l m : List (Pt P)} (p : l.Perm m) : (∀ a, a ∈ l → On a) → lsum l = lsum m := by
  induction p with
  | nil => intro _; rfl
  | cons x _ ih =>
    intro h
    show add x _ = add x _
    rw [ih fun b hb => h b (List.mem_cons_of_mem _ hb)]
  | swap x y l =>
    intro h
    have hy := h y List.mem_cons_self
    have hx := h x (List.mem_cons_of_mem _ List.mem_cons_self)
    have hl := lsum_on C l fun b hb => h b (List.mem_cons_of_mem _ (List.mem_cons_of_mem _ hb))
    show add y (add x (lsum l)) = add x (add y (lsum l))
    rw [← C.assoc hy hx hl, C.comm hy hx, C.assoc hx hy hl]
  | trans p _ ih1 ih2 =>
    intro h
    rw [ih1 h, ih2 fun a ha => h a (p.mem_iff.2 ha)]
theorem lsum_shift (C : Cur P) {r : Pt P} (hr : On r) : ∀ l : List (Pt P), (∀ a, a ∈ l → On a) → lsum (l.map fun a => add a r) = add (lsum l) (mul l.length r)
  | [], _ => rfl
  | a :: l, h => by
    have ha := h a List.mem_cons_self
    have hl : ∀ b, b ∈ l → On b := fun b hb => h b (List.mem_cons_of_mem _ hb)
    show add (add a r) (lsum (l.map _)) = add (add a (lsum l)) (add (mul l.length r) r)
    rw [lsum_shift C hr l hl, C.comm (mul_on C hr _) hr, C.swap ha hr (lsum_on C l hl) (mul_on C hr _)]
theorem add_cancel (C : Cur P) {a b r : Pt P} (ha : On a) (hb : On b) (hr : On r) (e : add a r = add b r) : a = b := by
  have : add (add a r) (neg r) = add (add b r) (neg r) := by rw [e]
  rwa [C.assoc ha hr (neg_on hr), C.assoc hb hr (neg_on hr), add_neg, add_none, add_none] at this
theorem shift_perm (C : Cur P) {r : Pt P} (hr : On r) : ((pts P).map fun a => add a r).Perm (pts P) := by
  refine (List.perm_ext_iff_of_nodup ?_ nodup_pts).2 fun a => ?_
  · refine List.pairwise_map.2 (List.Pairwise.imp_of_mem ?_ (nodup_pts (P := P)))
    intro a b ha hb h e
    exact h (add_cancel C ((mem_pts a).1 ha) ((mem_pts b).1 hb) hr e)
  · rw [mem_pts, List.mem_map]
    constructor
    · rintro ⟨b, hb, rfl⟩
      exact C.on ((mem_pts b).1 hb) hr
    · intro ha
      refine ⟨add a (neg r), (mem_pts _).2 (C.on ha (neg_on hr)), ?_⟩
      rw [C.assoc ha (neg_on hr) hr, C.neg_l hr, add_none]
theorem mul_pts (C : Cur P) {r : Pt P} (hr : On r) : mul (pts P).length r = none := by
  have h0 : ∀ a, a ∈ pts P → On a := fun a ha => (mem_pts a).1 ha
  have h1 := lsum_shift C hr (pts P) h0
  rw [lsum_perm C (shift_perm C hr) fun a ha => (mem_pts a).1 ((shift_perm C hr).mem_iff.1 ha)] at h1
  have hs := lsum_on C (pts P) h0
  have hm := mul_on C hr (pts P).length
  have h2 : add (mul (pts P).length r) (lsum (pts P)) = add none (lsum (pts P)) := by
    rw [C.comm hm hs, ← h1, none_add]
  exact add_cancel C hm none_on hs h2
theorem mul_mul (C : Cur P) {a : Pt P} (ha : On a) (m : Nat) : ∀ n, mul (m * n) a = mul n (mul m a)
  | 0 => rfl
  | n + 1 => by
    rw [Nat.mul_succ, mul_add C ha, mul_mul C ha m n]
    rfl
theorem mul_none : ∀ n, mul n (none : Pt P) = none
  | 0 => rfl
  | n + 1 => by
    show add (mul n none) none = none
    rw [mul_none n]
    rfl
theorem twice_none (C : Cur P) {a : Pt P} (ha : On a) (e : add a a = none) : a = none := by
  rcases a with _ | ⟨x, y⟩
  · rfl
  · exfalso
    have ho := C.opp_ne ha
    rw [add_line C.pr C.two ha ha ho (slope_line C.pr C.two ha ha ho)] at e
    cases e
/-- A prime times a point that is not nothing gives nothing, and three times the prime is more than the points: so it does for every point. -/
theorem order_of (C : Cur P) {n : Nat} (hn : NT.IsP n) (h3 : 2 * P + 1 < 3 * n) {g : Pt P} (hg : On g) (h0 : g ≠ none) (hz : mul n g = none) {r : Pt P} (hr : On r) : mul n r = none := by
  have hd : n ∣ (pts P).length := Classical.byContradiction fun hd => by
    have h1 := hn.fermat1 _ hd
    have h2 : mul ((pts P).length ^ (n - 1)) g = none := by
      have : n - 1 = (n - 2) + 1 := by have := hn.1; omega
      rw [this, Nat.pow_succ, Nat.mul_comm, mul_mul C hg, mul_pts C hg, mul_none]
    have h4 := Nat.div_add_mod ((pts P).length ^ (n - 1)) n
    rw [h1] at h4
    rw [← h4, mul_add C hg, mul_mul C hg, hz, mul_none, none_add] at h2
    exact h0 h2
  obtain ⟨c, hc⟩ := hd
  have hl := len_pts C
  have hp := pts_pos (P := P)
  have hm := mul_pts C hr
  rw [hc] at hl hp hm
  have hc3 : c < 3 := Nat.lt_of_mul_lt_mul_left (a := n) (by omega)
  match c, hc3 with
  | 0, _ => omega
  | 1, _ => rwa [Nat.mul_one] at hm
  | 2, _ =>
    rw [mul_mul C hr] at hm
    exact twice_none C (mul_on C hr n) hm
end Go.Proofs.Yticolhhalbbogae.EC
namespace Go.Proofs.Yticolhhalbbogae.EC
variable {P : Nat} [NeZero P]
/-- A number that is reckoned before it is used. -/
def fo {α : Type} (x : Fin P) (f : Fin P → α) : α :=
  match x.val with
  | 0 => f (Fin.ofNat P 0)
  | n + 1 => f (Fin.ofNat P (n + 1))
theorem fo_eq {α : Type} (x : Fin P) (f : Fin P → α) : fo x f = f x := by
  have hx : Fin.ofNat P x.val = x := Fin.ext (Nat.mod_eq_of_lt x.isLt)
  unfold fo
  split
  · next h => rw [h] at hx; rw [hx]
  · next n h => rw [h] at hx; rw [hx]
/-- Does e, from its bit k down, bring (x, y, z) to nothing, where (u, v) is added at each bit that is set? -/
def runs (u v : Fin P) (e : Nat) : Nat → Fin P → Fin P → Fin P → Bool
  | 0, _, _, z => decide (z = 0)
  | k + 1, x, y, z => fo (twX x y) fun X => fo (twY x y) fun Y => fo (twZ y z) fun Z =>
    if e / 2 ^ k % 2 = 1 then
      if Z = 0 then false else
      fo (plAx X 1) fun ax => fo (plAy Y 1) fun ay => fo (plAx u Z) fun bx => fo (plAy v Z) fun bY =>
      if ax = bx ∧ ay = bY then false else
      fo (plX ax ay bx bY) fun a => fo (plY ax ay bx bY) fun b => fo (plZ Z 1 ax bx) fun c => runs u v e k a b c
    else runs u v e k X Y Z
theorem one_ne (C : Cur P) : (1 : Fin P) ≠ 0 := fun h => C.two (by
  calc (2 : Fin P) = 2 * 1 := by grobner
    _ = 0 := by rw [h]; grobner)
theorem runs_ok (C : Cur P) {u v : Fin P} (hg : On (some (u, v))) (e : Nat) : ∀ (k m : Nat) (x y z : Fin P), Jac x y z (mul m (some (u, v))) → runs u v e k x y z = true → mul (m * 2 ^ k + e % 2 ^ k) (some (u, v)) = none
  | 0, m, x, y, z, hj, h => by
    have hz : z = 0 := of_decide_eq_true h
    rw [Nat.pow_zero, Nat.mod_one, Nat.mul_one, Nat.add_zero]
    exact hj.zero C hz
  | k + 1, m, x, y, z, hj, h => by
    have hm := mul_on C hg m
    have h1 := hj.twice C hm
    rw [← mul_add C hg] at h1
    have hb : e % 2 ^ (k + 1) = e / 2 ^ k % 2 * 2 ^ k + e % 2 ^ k := by
      rw [Nat.pow_succ, Nat.mod_mul, Nat.mul_comm (2 ^ k) (e / 2 ^ k % 2), Nat.add_comm]
    have hp : 2 ^ (k + 1) = 2 * 2 ^ k := by rw [Nat.pow_succ, Nat.mul_comm]
    unfold runs at h
    simp only [fo_eq] at h
    by_cases hbit : e / 2 ^ k % 2 = 1
    · rw [if_pos hbit] at h
      by_cases hZ : twZ y z = 0
      · rw [if_pos hZ] at h
        cases h
      · rw [if_neg hZ] at h
        have hj1 : Jac u v 1 (some (u, v)) := ⟨one_ne C, by grobner, by grobner⟩
        rcases h1.plus C (mul_on C hg _) hj1 hg hZ (one_ne C) with ⟨e1, e2, -⟩ | ⟨e1, e2⟩
        · rw [if_pos ⟨e1, e2⟩] at h
          cases h
        · rw [if_neg e1] at h
          have h2 := runs_ok C hg e k (m + m + 1) _ _ _ e2 h
          rw [hb, hbit, hp]
          rw [show m * (2 * 2 ^ k) + (1 * 2 ^ k + e % 2 ^ k) = (m + m + 1) * 2 ^ k + e % 2 ^ k by
            rw [Nat.add_mul, Nat.add_mul, ← Nat.mul_assoc, Nat.mul_comm m 2, Nat.two_mul, Nat.add_mul]; omega]
          exact h2
    · rw [if_neg hbit] at h
      have h0 : e / 2 ^ k % 2 = 0 := by omega
      have h2 := runs_ok C hg e k (m + m) _ _ _ h1 h
      rw [hb, h0, hp]
      rw [show m * (2 * 2 ^ k) + (0 * 2 ^ k + e % 2 ^ k) = (m + m) * 2 ^ k + e % 2 ^ k by
        rw [← Nat.mul_assoc, Nat.mul_comm m 2, Nat.two_mul]; omega]
      exact h2
def pL : Nat := 115792089237316195423570985008687907853269984665640564039457584007908834671663
def nL : Nat := 115792089237316195423570985008687907852837564279074904382605163141518161494337
instance : NeZero pL := ⟨by decide +kernel⟩
theorem runs_g : runs (P := pL) (Fin.ofNat pL 55066263022277343669578718895168534326250603453777594175500187360389116729240) (Fin.ofNat pL 32670510020758816978083085130507043184471273380659243275938904335757337482424) nL 255 (Fin.ofNat pL 55066263022277343669578718895168534326250603453777594175500187360389116729240) (Fin.ofNat pL 32670510020758816978083085130507043184471273380659243275938904335757337482424) 1 = true := by decide +kernel
theorem small_n : 2 * pL + 1 < 3 * nL := by decide +kernel
theorem high_n : 1 * 2 ^ 255 + nL % 2 ^ 255 = nL := by decide +kernel
/-- Every point so often as the order says is nothing. -/
theorem order (C : Cur P) (hP : P = pL) (hg : On (some (Fin.ofNat P 55066263022277343669578718895168534326250603453777594175500187360389116729240, Fin.ofNat P 32670510020758816978083085130507043184471273380659243275938904335757337482424))) {r : Pt P} (hr : On r) : mul nL r = none := by
  subst hP
  refine order_of C (n := nL) NT.pN small_n hg (fun h => by cases h) ?_ hr
  have h := runs_ok C hg nL 255 1 _ _ 1 (by
    show Jac _ _ 1 (add none _)
    rw [none_add]
    exact ⟨one_ne C, by grobner, by grobner⟩) runs_g
  rwa [high_n] at h
end Go.Proofs.Yticolhhalbbogae.EC
namespace Go.Proofs.Yticolhhalbbogae
open Go.RowKit Go.Sort Go.Deep
theorem beV_inj : ∀ (l r : List UInt8), l.length = r.length → beV l = beV r → l = r
  | [], [], _, _ => rfl
  | x :: l, y :: r, hl, h => by
    have h1 : l.length = r.length := Nat.succ.inj hl
    rw [beV_cons, beV_cons, h1] at h
    have b1 := beV_lt l
    have b2 := beV_lt r
    rw [h1] at b1
    have hp : 0 < 256 ^ r.length := Nat.pow_pos (by decide)
    have e1 : (x.toNat * 256 ^ r.length + beV l) / 256 ^ r.length = x.toNat := by
      rw [Nat.mul_comm, Nat.mul_add_div hp, Nat.div_eq_of_lt b1, Nat.add_zero]
    have e2 : (y.toNat * 256 ^ r.length + beV r) / 256 ^ r.length = y.toNat := by
      rw [Nat.mul_comm, Nat.mul_add_div hp, Nat.div_eq_of_lt b2, Nat.add_zero]
    have e3 : x.toNat = y.toNat := by rw [← e1, ← e2, h]
    have e4 : x = y := UInt8.toNat_inj.1 e3
    subst e4
    rw [beV_inj l r h1 (by omega)]
theorem bx_of {b : Bs} (hs : b.size = 32) {n : Nat} (hn : n < top) (h : beV b.toList = n) : bx n = b := by
  have := beV_inj (bx n).toList b.toList (by rw [Array.length_toList, Array.length_toList, bx_size, hs]) (by rw [bx_val hn, h])
  exact Array.toList_inj.1 this
variable {P : Nat} [NeZero P]
theorem rt_par (C : Fld P) {m y : Fin P} (h : rt m = some y) : y.val % 2 = 0 := by
  have h2 := rt_of C (rt_sq h)
  rw [h] at h2
  have e := Option.some.inj h2
  by_cases ho : y.val % 2 = 1
  · rw [if_pos ho] at e
    have e3 := congrArg Fin.val e
    have h0 : (0 - y : Fin P).val = (P - y.val) % P := by rw [← sub_fin, EC.val_zero, Nat.zero_add]
    rw [h0] at e3
    have h3 := C.p3
    have hy := y.isLt
    rw [Nat.mod_eq_of_lt (by omega)] at e3
    omega
  · omega
theorem cut33 {b : Bs} (hs : b.size = 33) : b = #[b[0]!] ++ tl33 b := by
  unfold tl33
  apply Array.ext
  · rw [Array.size_append, Array.size_extract, hs]; rfl
  · intro i h1 h2
    by_cases hi : i = 0
    · subst hi
      rw [Array.getElem_append_left (by simp), getElem!_pos b 0 (by omega)]
      rfl
    · rw [Array.getElem_append_right (by simp; omega), Array.getElem_extract]
      congr 1
      simp
      omega
theorem ub_two {x : UInt8} (h : ub x = 2) : x = 2 := by
  apply UInt8.toNat_inj.1
  have : (x.toNat : Int) = 2 := h
  show x.toNat = 2
  omega
theorem ub_three {x : UInt8} (h : ub x = 3) : x = 3 := by
  apply UInt8.toNat_inj.1
  have : (x.toNat : Int) = 3 := h
  show x.toNat = 3
  omega
/-- What was read is written. -/
theorem wr_rd (C : Fld P) {b : Bs} {p : Fin P × Fin P} (h : rd P b = some p) : wr (pt p) = b := by
  have hon := rd_on C h
  unfold rd at h
  split at h
  · rename_i hs
    split at h
    · rename_i hz
      obtain rfl := Option.some.inj h
      unfold pt
      rw [if_pos ⟨rfl, rfl⟩]
      exact ((zero33_iff hs).1 hz).symm
    · split at h
      · rename_i hm
        split at h
        · rename_i hx
          obtain ⟨y, hr, rfl⟩ := Option.map_eq_some_iff.1 h
          have hsq := rt_sq hr
          have hpar := rt_par C hr
          have hy0 : y ≠ 0 := C.cur.y_ne (on_of hsq)
          have hyv : y.val ≠ 0 := fun e => hy0 (Fin.ext (by rw [EC.val_zero]; exact e))
          have hxv : (rdx P b).val = beV (tl33 b).toList := Nat.mod_eq_of_lt hx
          have hbx : bx (rdx P b).val = tl33 b := bx_of (tl33_size hs) (C.top _) hxv.symm
          have h3 := C.p3
          have hyl := y.isLt
          have h0 : (0 - y : Fin P).val = P - y.val := by rw [← sub_fin, EC.val_zero, Nat.zero_add, Nat.mod_eq_of_lt (by omega)]
          by_cases h3' : ub b[0]! = 3
          · rw [if_pos h3']
            unfold pt
            rw [if_neg (fun e => by
              have := congrArg Fin.val e.2
              rw [EC.val_zero, h0] at this
              omega)]
            show #[mark (0 - y : Fin P).val] ++ bx (rdx P b).val = b
            rw [hbx, h0]
            unfold mark
            rw [if_pos (by omega), ← ub_three h3']
            exact (cut33 hs).symm
          · rw [if_neg h3']
            have h2' : ub b[0]! = 2 := hm.resolve_right h3'
            unfold pt
            rw [if_neg (fun e => hy0 e.2)]
            show #[mark y.val] ++ bx (rdx P b).val = b
            rw [hbx]
            unfold mark
            rw [if_neg (by omega), ← ub_two h2']
            exact (cut33 hs).symm
        · cases h
      · cases h
  · cases h
theorem mul_mod (C : EC.Cur P) {N : Nat} {r : EC.Pt P} (hr : EC.On r) (h : EC.mul N r = none) (n : Nat) : EC.mul (n % N) r = EC.mul n r := by
  have e := Nat.div_add_mod n N
  calc EC.mul (n % N) r = EC.add (EC.mul (N * (n / N)) r) (EC.mul (n % N) r) := by
        rw [EC.mul_mul C hr, h, EC.mul_none, EC.none_add]
    _ = EC.mul n r := by rw [← EC.mul_add C hr, e]
/-- A difference of factors. -/
theorem mul_minus (C : EC.Cur P) {N : Nat} {r : EC.Pt P} (hr : EC.On r) (h : EC.mul N r = none) {a b : Nat} (hb : b < N) : EC.add (EC.mul (sMi N a b) r) (EC.mul b r) = EC.mul a r := by
  unfold sMi
  rw [mul_mod C hr h, ← EC.mul_add C hr, show a + N - b + b = a + N by omega, EC.mul_add C hr, h, EC.add_none]
/-- SPECIAL SOUNDNESS. -/
theorem sound (C : EC.Cur P) {N : Nat} (hN : NT.IsP N) {g r p : EC.Pt P} (hg : EC.On g) (hr : EC.On r) (hp : EC.On p) (og : EC.mul N g = none) (op : EC.mul N p = none) {c1 c2 z1 z2 : Nat} (h1 : c1 < N) (h2 : c2 < N) (k1 : z1 < N) (k2 : z2 < N) (hne : c1 ≠ c2)
    (e1 : EC.mul z1 g = EC.add r (EC.mul c1 p)) (e2 : EC.mul z2 g = EC.add r (EC.mul c2 p)) : EC.mul (sTi N (sMi N z1 z2) (sIn N (sMi N c1 c2))) g = p := by
  have hd := mul_minus C hg og (a := z1) k2
  have he := mul_minus C hp op (a := c1) h2
  have hdp : EC.mul (sMi N z1 z2) g = EC.mul (sMi N c1 c2) p := by
    refine EC.add_cancel C (EC.mul_on C hg _) (EC.mul_on C hp _) (EC.mul_on C hg z2) ?_
    rw [hd, e1, ← he, e2, ← C.assoc hr (EC.mul_on C hp _) (EC.mul_on C hp _), C.comm hr (EC.mul_on C hp _), C.assoc (EC.mul_on C hp _) hr (EC.mul_on C hp _)]
  have hlt : sMi N c1 c2 < N := Nat.mod_lt _ (by omega)
  have h0 : ¬ sMi N c1 c2 = 0 := by
    unfold sMi
    intro h
    by_cases hc : c2 ≤ c1
    · rw [show c1 + N - c2 = (c1 - c2) + N by omega, Nat.add_mod_right, Nat.mod_eq_of_lt (by omega)] at h
      omega
    · rw [Nat.mod_eq_of_lt (by omega)] at h
      omega
  have hi := inv_mod hN hlt h0
  unfold sTi
  rw [mul_mod C hg og, EC.mul_mul C hg, hdp, ← EC.mul_mul C hp, ← mul_mod C hp op]
  unfold sIn
  rw [hi]
  exact EC.none_add p
end Go.Proofs.Yticolhhalbbogae
namespace Go.Proofs.Yticolhhalbbogae
open Go.RowKit Go.Sort Go.Deep
variable {N : Nat}
/-- Bytes that were answered: T. -/
def AnsB (W : World) (T : Bs) (q : Option Addr) (n cap : Nat) : Prop := (∃ g, q = some ⟨g, 0, none⟩ ∧ g < W.heap.size ∧ T.size = n ∧ 0 < n ∧ Holds encB W g 0 T) ∨ (q = none ∧ n = 0 ∧ cap = 0 ∧ T = #[])
theorem AnsB.call {W W' : World} {T : Bs} {q : Option Addr} {n cap : Nat} (h : AnsB W T q n cap) (hb : Below W.heap.size W W') : AnsB W' T q n cap := by
  rcases h with ⟨g, h1, h2, h3, h4, h5⟩ | h
  · exact Or.inl ⟨g, h1, Nat.lt_of_lt_of_le h2 hb.size, h3, h4, Holds.below h5 hb h2⟩
  · exact Or.inr h
theorem AnsB.conv {W : World} {T : Bs} {q : Option Addr} {n cap : Nat} (h : AnsB W T q n cap) : (convert 22 9 (.slice q n cap)).run Try.prog W = .ok (.string ⟨T⟩) W := by
  rcases h with ⟨g, rfl, h2, h3, h4, h5⟩ | ⟨rfl, rfl, rfl, rfl⟩
  · exact conv_str Try.prog 22 9 5 slice22 int5 str9 W g 0 n cap T h5 h3
  · kernel_rfl
theorem ExR.ans {w w' : World} {L : Nat → Bs} {e : Value} (h : ExR N w L e w') : Below w.heap.size w w' ∧ ∃ q n cap, e = .tuple #[.slice q n cap, .int .i64 (exT N L).2] ∧ AnsB w' (exT N L).1 q n cap := by
  unfold exT
  rcases h with ⟨⟨j, hj, hn⟩, hb, rfl⟩ | ⟨hall, ⟨hac, hb, rfl⟩ | ⟨hac, k, hm, rfl⟩⟩
  · rw [if_neg (fun h => by have := h j hj; rw [hn] at this; cases this)]
    exact ⟨hb, _, _, _, rfl, Or.inr ⟨rfl, rfl, rfl, rfl⟩⟩
  · rw [if_pos hall, if_pos hac]
    exact ⟨hb, _, _, _, rfl, Or.inr ⟨rfl, rfl, rfl, rfl⟩⟩
  · rw [if_pos hall, if_neg hac]
    exact ⟨hm.bel, _, _, _, rfl, Or.inl ⟨k, rfl, hm.lt, bx_size _, by decide, cb_holds hm.range hm.there⟩⟩
def four4 (a b c d : ByteArray) (j : Nat) : ByteArray := if j = 0 then a else if j = 1 then b else if j = 2 then c else d
theorem str_eqX (a : Bs) : ((⟨a⟩ : ByteArray).toList == (⟨a⟩ : ByteArray).toList) = true := by simp
set_option maxHeartbeats 4000000 in
set_option maxRecDepth 100000 in
theorem extracts_few (O : Ord N) (a b c d : ByteArray) (w0 : World) (ha : a.size ≤ 4096) (hb : b.size ≤ 4096) (hc : c.size ≤ 4096) (hd : d.size ≤ 4096) :
    Calls Try.prog 3 #[.string a, .string b, .string c, .string d] w0 fun e w' => e = .returned (.bool true) ∧ Below w0.heap.size w0 w' := by
  have HO : Hid (Ord N) := O
  have g1 : ¬ (4096 : Int) < (a.size : Int) := by omega
  have g2 : ¬ (4096 : Int) < (b.size : Int) := by omega
  have g3 : ¬ (4096 : Int) < (c.size : Int) := by omega
  have g4 : ¬ (4096 : Int) < (d.size : Int) := by omega
  obtain ⟨k1, W1, v1, l1, b1, H1, s1⟩ := conv_of a w0
  obtain ⟨k2, W2, v2, l2, b2, H2, s2⟩ := conv_of b W1
  obtain ⟨k3, W3, v3, l3, b3, H3, s3⟩ := conv_of c W2
  obtain ⟨k4, W4, v4, l4, b4, H4, s4⟩ := conv_of d W3
  have HA : Hid (Arg W4 (.slice (some ⟨w0.heap.size, 0, none⟩) a.size k1) a.data ∧ Arg W4 (.slice (some ⟨W1.heap.size, 0, none⟩) b.size k2) b.data ∧ Arg W4 (.slice (some ⟨W2.heap.size, 0, none⟩) c.size k3) c.data ∧ Arg W4 (.slice (some ⟨W3.heap.size, 0, none⟩) d.size k4) d.data ∧ Below w0.heap.size w0 W4) := by
    have a1 : Arg W1 (.slice (some ⟨w0.heap.size, 0, none⟩) a.size k1) a.data := ⟨_, _, _, rfl, rfl, fun h => ⟨w0.heap.size, 0, rfl, by omega, s1, H1⟩⟩
    have a2 : Arg W2 (.slice (some ⟨W1.heap.size, 0, none⟩) b.size k2) b.data := ⟨_, _, _, rfl, rfl, fun h => ⟨W1.heap.size, 0, rfl, by omega, s2, H2⟩⟩
    have a3 : Arg W3 (.slice (some ⟨W2.heap.size, 0, none⟩) c.size k3) c.data := ⟨_, _, _, rfl, rfl, fun h => ⟨W2.heap.size, 0, rfl, by omega, s3, H3⟩⟩
    have a4 : Arg W4 (.slice (some ⟨W3.heap.size, 0, none⟩) d.size k4) d.data := ⟨_, _, _, rfl, rfl, fun h => ⟨W3.heap.size, 0, rfl, by omega, s4, H4⟩⟩
    exact ⟨((a1.below b2).below b3).below b4, (a2.below b3).below b4, a3.below b4, a4, ((b1.trans (b2.mono b1.size)).trans (b3.mono (Nat.le_trans b1.size b2.size))).trans (b4.mono (Nat.le_trans (Nat.le_trans b1.size b2.size) b3.size))⟩
  clear l1 l2 l3 l4 b1 b2 b3 b4 H1 H2 H3 H4 s1 s2 s3 s4 O ha hb hc hd
  go_enter Try.func3, Try.ntmps3
  go_wp2_with fail
  clear v1 v2 v3 v4 g1 g2 g3 g4
  refine (extract_c HO.out _ _ _ _ (fun j => (four4 a b c d j).data) _ HA.out.1 HA.out.2.1 HA.out.2.2.1 HA.out.2.2.2.1).mono ?_
  rintro e w5 ⟨v, rfl, hans0⟩
  obtain ⟨hb5, q5, n5, c5, rfl, hans⟩ := hans0.ans
  have HB5 : Hid (Below w0.heap.size w0 w5) := HA.out.2.2.2.2.trans (hb5.mono HA.out.2.2.2.2.size)
  have HQ := qextract_c HO.out (four4 a b c d)
  obtain ⟨T, hT⟩ : ∃ t, t = (exT N (fun j => (four4 a b c d j).data)).1 := ⟨_, rfl⟩
  obtain ⟨cd, hcd⟩ : ∃ t, t = (exT N (fun j => (four4 a b c d j).data)).2 := ⟨_, rfl⟩
  rw [← hT] at hans
  rw [← hT, ← hcd] at HQ
  rw [← hcd]
  have HAN : Hid (AnsB w5 T q5 n5 c5) := hans
  have HQ2 : Hid (Gives 6 #[.string a, .string b, .string c, .string d] (.tuple #[.string ⟨T⟩, .int .i64 cd])) := HQ
  clear hans hans0 hb5 hT hcd HQ HA
  go_wp2_with fail
  refine (HQ2.out _).mono ?_
  rintro e w6 ⟨v, rfl, hb6, rfl⟩
  have hcv := AnsB.conv (AnsB.call HAN.out hb6)
  have HB6 : Hid (Below w0.heap.size w0 w6) := HB5.out.trans (hb6.mono HB5.out.size)
  have hse := str_eqX T
  clear HAN HB5 hb6 HQ2 HO
  go_wp2
  go_ret
  exact ⟨by simp, HB6.out⟩
set_option maxHeartbeats 2000000 in
set_option maxRecDepth 100000 in
theorem extracts_any (O : Ord N) (a b c d : ByteArray) (w0 : World) :
    Calls Try.prog 3 #[.string a, .string b, .string c, .string d] w0 fun e w' => e = .returned (.bool true) ∧ Below w0.heap.size w0 w' := by
  by_cases ha : a.size ≤ 4096
  · have g1 : ¬ (4096 : Int) < (a.size : Int) := by omega
    by_cases hb : b.size ≤ 4096
    · have g2 : ¬ (4096 : Int) < (b.size : Int) := by omega
      by_cases hc : c.size ≤ 4096
      · have g3 : ¬ (4096 : Int) < (c.size : Int) := by omega
        by_cases hd : d.size ≤ 4096
        · exact extracts_few O a b c d w0 ha hb hc hd
        · have g4 : (4096 : Int) < (d.size : Int) := by omega
          clear O
          go_enter Try.func3, Try.ntmps3
          go_wp2
          go_ret
          exact ⟨by simp, Below.refl _ _⟩
      · have g3 : (4096 : Int) < (c.size : Int) := by omega
        clear O
        go_enter Try.func3, Try.ntmps3
        go_wp2
        go_ret
        exact ⟨by simp, Below.refl _ _⟩
    · have g2 : (4096 : Int) < (b.size : Int) := by omega
      clear O
      go_enter Try.func3, Try.ntmps3
      go_wp2
      go_ret
      exact ⟨by simp, Below.refl _ _⟩
  · have g1 : (4096 : Int) < (a.size : Int) := by omega
    clear O
    go_enter Try.func3, Try.ntmps3
    go_wp2
    go_ret
    exact ⟨by simp, Below.refl _ _⟩
theorem ord : Ord Go.Proofs.Yticolhhalbbogae.p1 := ⟨gap1, refP1, by decide +kernel, by decide +kernel⟩
end Go.Proofs.Yticolhhalbbogae
namespace Go.Proofs.Yticolhhalbbogae
open Go.RowKit Go.Sort Go.Deep
/-- A small number's 32 bytes. -/
def sm (n : UInt8) : Bs := (Array.replicate 32 0).setIfInBounds 31 n
theorem sm_size (n : UInt8) : (sm n).size = 32 := by unfold sm; rw [Array.size_setIfInBounds, Array.size_replicate]
set_option maxHeartbeats 1000000 in
set_option maxRecDepth 100000 in
theorem small_c (n : UInt8) (w : World) : Calls Try.prog 7 #[.int .u8 (ub n)] w (Ret fun e w' => Below w.heap.size w w' ∧ ∃ g, e = .slice (some ⟨g, 0, none⟩) 32 32 ∧ g < w'.heap.size ∧ Holds encB w' g 0 (sm n)) := by
  have hmk := mk32 w
  have e : (madeCells #[.int .u8 0] 32).setIfInBounds 31 (.int .u8 (ub n)) = (cb (sm n)).toArray := by kernel_rfl
  have hM := RG.Made.alloc w (cb (sm n)) 5
  rw [← e] at hM
  have HH : Hid (RG.Made w w.heap.size (cb (sm n)) (w.alloc (.cells ((madeCells #[.int .u8 0] 32).setIfInBounds 31 (.int .u8 (ub n))) 5))) := hM
  clear e hM
  have hc31 : (madeCells #[Value.int .u8 0] 32)[31]? = some (.int .u8 0) := by kernel_rfl
  go_enter Try.func7, Try.ntmps7
  go_wp2
  go_ret
  exact ⟨_, rfl, HH.out.bel, _, rfl, HH.out.lt, cb_holds HH.out.range HH.out.there⟩
variable {N : Nat}
theorem sm_val (n : UInt8) : beV (sm n).toList = n.toNat := by
  have h : (sm n).toList = List.replicate 31 0 ++ [n] := by kernel_rfl
  rw [h, beV_zeros]
  simp [beV]
theorem sm_rq (O : Ord N) (n : UInt8) : rq N (sm n) = some n.toNat := by
  have hb := order_big O.gap
  have hn := n.toNat_lt
  unfold rq
  rw [if_pos ⟨sm_size n, by rw [sm_val]; omega⟩, sm_val]
theorem sm_nu (n : UInt8) : nuV (sm n) = n.toNat := by
  unfold nuV
  rw [if_pos (sm_size n), sm_val]
def sm4 (j : Nat) : Bs := if j = 0 then sm 1 else if j = 1 then sm 5 else if j = 2 then sm 0 else sm 2
/-- The closed fact. -/
theorem ex_small (O : Ord N) {w w' : World} {e : Value} (h : ExR N w sm4 e w') : ∃ k, RG.Made w k (cb (bx 3)) w' ∧ e = .tuple #[.slice (some ⟨k, 0, none⟩) 32 32, .int .i64 0] := by
  have hb := order_big O.gap
  rcases h with ⟨⟨j, hj, hn⟩, -, -⟩ | ⟨-, ⟨hac, -, -⟩ | ⟨-, k, hm, rfl⟩⟩
  · exfalso
    have h4 : j = 0 ∨ j = 1 ∨ j = 2 ∨ j = 3 := by omega
    rcases h4 with rfl | rfl | rfl | rfl
    · have := sm_rq O 1; rw [show sm4 0 = sm 1 from rfl, this] at hn; cases hn
    · have := sm_rq O 5; rw [show sm4 1 = sm 5 from rfl, this] at hn; cases hn
    · have := sm_rq O 0; rw [show sm4 2 = sm 0 from rfl, this] at hn; cases hn
    · have := sm_rq O 2; rw [show sm4 3 = sm 2 from rfl, this] at hn; cases hn
  · exfalso
    rw [show sm4 0 = sm 1 from rfl, show sm4 2 = sm 0 from rfl, sm_nu, sm_nu] at hac
    exact absurd hac (by decide)
  · refine ⟨k, ?_, rfl⟩
    rw [show sm4 0 = sm 1 from rfl, show sm4 1 = sm 5 from rfl, show sm4 2 = sm 0 from rfl, show sm4 3 = sm 2 from rfl, sm_nu, sm_nu, sm_nu, sm_nu] at hm
    have e1 : sMi N (5 : UInt8).toNat (2 : UInt8).toNat = 3 := by
      show (5 + N - 2) % N = 3
      rw [show 5 + N - 2 = 3 + N by omega, Nat.add_mod_right, Nat.mod_eq_of_lt (by omega)]
    have e2 : sMi N (1 : UInt8).toNat (0 : UInt8).toNat = 1 := by
      show (1 + N - 0) % N = 1
      rw [Nat.sub_zero, Nat.add_mod_right, Nat.mod_eq_of_lt (by omega)]
    have e3 : sTi N 3 (sIn N 1) = 3 := by
      unfold sTi sIn
      rw [Nat.one_pow, Nat.mod_eq_of_lt (a := 1) (by omega), Nat.mul_one, Nat.mod_eq_of_lt (by omega)]
    rw [e1, e2, e3] at hm
    exact hm
theorem b3_31 : ub (bx 3)[31]! = 3 := by kernel_rfl
variable {P : Nat} [NeZero P]
/-- What the law asks of what Extract tells. -/
theorem sound_law (C : Fld P) (hN : NT.IsP N) (O : Ord N) (hord : ∀ r : EC.Pt P, EC.On r → EC.mul N r = none) {s0 s1 c1 z1 c2 z2 : Bs} (i0 : (rd P s0).isSome = true) (i1 : (rd P s1).isSome = true)
    (j1 : (rq N c1).isSome = true) (l1 : (rq N z1).isSome = true) (j2 : (rq N c2).isSome = true) (l2 : (rq N z2).isSome = true) (hne : c1 ≠ c2)
    (e1 : EC.mul (nuV z1) (gG P) = EC.add (ptOf P s0) (EC.mul (nuV c1) (ptOf P s1))) (e2 : EC.mul (nuV z2) (gG P) = EC.add (ptOf P s0) (EC.mul (nuV c2) (ptOf P s1))) :
    nuV c1 ≠ nuV c2 ∧ wr (EC.mul (sTi N (sMi N (nuV z1) (nuV z2)) (sIn N (sMi N (nuV c1) (nuV c2)))) (gG P)) = s1 := by
  obtain ⟨p0, hp0⟩ := Option.isSome_iff_exists.1 i0
  obtain ⟨p1, hp1⟩ := Option.isSome_iff_exists.1 i1
  rw [ptOf_of hp0, ptOf_of hp1] at e1 e2
  have hsz : ∀ {b : Bs}, (rq N b).isSome = true → b.size = 32 := fun {b} h => by
    unfold rq at h
    split at h
    · rename_i h1; exact h1.1
    · cases h
  have hn : nuV c1 ≠ nuV c2 := fun h => hne (by
    have t1 := hsz j1
    have t2 := hsz j2
    unfold nuV at h
    rw [if_pos t1, if_pos t2] at h
    exact Array.toList_inj.1 (beV_inj _ _ (by rw [Array.length_toList, Array.length_toList, t1, t2]) h))
  refine ⟨hn, ?_⟩
  have ho0 := (rd_on C hp0).2
  have ho1 := (rd_on C hp1).2
  rw [sound C.cur hN (gG_on C) ho0 ho1 (hord _ (gG_on C)) (hord _ ho1) (rq_get j1).2 (rq_get j2).2 (rq_get l1).2 (rq_get l2).2 hn e1 e2]
  exact wr_rd C hp1
end Go.Proofs.Yticolhhalbbogae
namespace Go.Proofs.Yticolhhalbbogae
open Go.RowKit Go.Sort Go.Deep
variable {N P : Nat} [NeZero P]
theorem small_arg {w w' : World} {g : Nat} {n : UInt8} (hl : g < w.heap.size) (h : Holds encB w g 0 (sm n)) (hb : Below w.heap.size w w') : Arg w' (.slice (some ⟨g, 0, none⟩) 32 32) (sm n) :=
  (show Arg w (.slice (some ⟨g, 0, none⟩) 32 32) (sm n) from ⟨_, _, _, rfl, sm_size n, fun _ => ⟨g, 0, rfl, by omega, hl, h⟩⟩).below hb
set_option maxHeartbeats 8000000 in
set_option maxRecDepth 100000 in
theorem sound_few (C : Fl3 P) (O : Ord N) (hN : NT.IsP N) (hord : ∀ r : EC.Pt P, EC.On r → EC.mul N r = none) (s0 s1 c1 z1 c2 z2 : ByteArray) (w0 : World) (h0 : s0.size ≤ 4096) (h1 : s1.size ≤ 4096) (h2 : c1.size ≤ 4096) (h3 : z1.size ≤ 4096) (h4 : c2.size ≤ 4096) (h5 : z2.size ≤ 4096) :
    Calls Try.prog 4 #[.string s0, .string s1, .string c1, .string z1, .string c2, .string z2] w0 fun e w' => e = .returned (.bool true) ∧ Below w0.heap.size w0 w' := by
  have HC : Hid (Fl3 P ∧ Ord N ∧ NT.IsP N ∧ ∀ r : EC.Pt P, EC.On r → EC.mul N r = none) := ⟨C, O, hN, hord⟩
  have g0 : ¬ (4096 : Int) < (s0.size : Int) := by omega
  have g1 : ¬ (4096 : Int) < (s1.size : Int) := by omega
  have g2 : ¬ (4096 : Int) < (c1.size : Int) := by omega
  have g3 : ¬ (4096 : Int) < (z1.size : Int) := by omega
  have g4 : ¬ (4096 : Int) < (c2.size : Int) := by omega
  have g5 : ¬ (4096 : Int) < (z2.size : Int) := by omega
  obtain ⟨ra, ha, hta⟩ := answers_v C O s0 s1 c1 z1
  obtain ⟨rb, hb, htb⟩ := answers_v C O s0 s1 c2 z2
  have HA : Hid (Gives 8 #[.string s0, .string s1, .string c1, .string z1] (.bool ra) ∧ Gives 8 #[.string s0, .string s1, .string c2, .string z2] (.bool rb)) := ⟨ha, hb⟩
  have HG : Hid (¬ (4096 : Int) < (s0.size : Int) ∧ ¬ (4096 : Int) < (s1.size : Int) ∧ ¬ (4096 : Int) < (c1.size : Int) ∧ ¬ (4096 : Int) < (z1.size : Int) ∧ ¬ (4096 : Int) < (c2.size : Int) ∧ ¬ (4096 : Int) < (z2.size : Int)) := ⟨g0, g1, g2, g3, g4, g5⟩
  have HT : Hid ((ra = true → (rd P s0.data).isSome = true ∧ (rd P s1.data).isSome = true ∧ (rq N c1.data).isSome = true ∧ (rq N z1.data).isSome = true ∧
      EC.mul (nuV z1.data) (gG P) = EC.add (ptOf P s0.data) (EC.mul (nuV c1.data) (ptOf P s1.data))) ∧ (rb = true → (rd P s0.data).isSome = true ∧ (rd P s1.data).isSome = true ∧ (rq N c2.data).isSome = true ∧ (rq N z2.data).isSome = true ∧
      EC.mul (nuV z2.data) (gG P) = EC.add (ptOf P s0.data) (EC.mul (nuV c2.data) (ptOf P s1.data)))) := ⟨hta, htb⟩
  clear C O hN hord h0 h1 h2 h3 h4 h5 g0 g1 g2 g3 g4 g5 ha hb hta htb
  go_enter Try.func4, Try.ntmps4
  go_wp2_with fail
  refine (small_c 1 _).mono ?_
  rintro e w1 ⟨v, rfl, hb1, k1, rfl, l1, H1⟩
  have HS1 : Hid (Below w0.heap.size w0 w1 ∧ k1 < w1.heap.size ∧ Holds encB w1 k1 0 (sm 1)) := ⟨hb1, l1, H1⟩
  clear hb1 l1 H1
  go_wp2_with fail
  refine (small_c 5 _).mono ?_
  rintro e w2 ⟨v, rfl, hb2, k2, rfl, l2, H2⟩
  have HS2 : Hid (Below w1.heap.size w1 w2 ∧ k2 < w2.heap.size ∧ Holds encB w2 k2 0 (sm 5)) := ⟨hb2, l2, H2⟩
  clear hb2 l2 H2
  go_wp2_with fail
  refine (small_c 0 _).mono ?_
  rintro e w3 ⟨v, rfl, hb3, k3, rfl, l3, H3⟩
  have HS3 : Hid (Below w2.heap.size w2 w3 ∧ k3 < w3.heap.size ∧ Holds encB w3 k3 0 (sm 0)) := ⟨hb3, l3, H3⟩
  clear hb3 l3 H3
  go_wp2_with fail
  refine (small_c 2 _).mono ?_
  rintro e w4 ⟨v, rfl, hb4, k4, rfl, l4, H4⟩
  have HS4 : Hid (Below w3.heap.size w3 w4 ∧ k4 < w4.heap.size ∧ Holds encB w4 k4 0 (sm 2)) := ⟨hb4, l4, H4⟩
  clear hb4 l4 H4
  have b34 := HS4.out.1
  have b24 := HS3.out.1.trans (b34.mono HS3.out.1.size)
  have b14 := HS2.out.1.trans (b24.mono HS2.out.1.size)
  have b04 := HS1.out.1.trans (b14.mono HS1.out.1.size)
  have HAR : Hid (Arg w4 (.slice (some ⟨k1, 0, none⟩) 32 32) (sm4 0) ∧ Arg w4 (.slice (some ⟨k2, 0, none⟩) 32 32) (sm4 1) ∧ Arg w4 (.slice (some ⟨k3, 0, none⟩) 32 32) (sm4 2) ∧ Arg w4 (.slice (some ⟨k4, 0, none⟩) 32 32) (sm4 3) ∧ Below w0.heap.size w0 w4) :=
    ⟨small_arg HS1.out.2.1 HS1.out.2.2 b14, small_arg HS2.out.2.1 HS2.out.2.2 b24, small_arg HS3.out.2.1 HS3.out.2.2 b34, small_arg HS4.out.2.1 HS4.out.2.2 (Below.refl _ _), b04⟩
  clear b34 b24 b14 b04 HS1 HS2 HS3 HS4
  go_wp2_with fail
  refine (extract_c HC.out.2.1 _ _ _ _ sm4 _ HAR.out.1 HAR.out.2.1 HAR.out.2.2.1 HAR.out.2.2.2.1).mono ?_
  rintro e w5 ⟨v, rfl, hR⟩
  obtain ⟨k5, hM, rfl⟩ := ex_small HC.out.2.1 hR
  have hH := cb_holds hM.range hM.there
  have hc5 : w5.cell? ⟨k5, 31, none⟩ = some (.int .u8 3) := by
    have := (hH 31 (by rw [bx_size]; decide)).1
    rw [← b3_31]
    rwa [Nat.zero_add] at this
  have HB : Hid (Below w0.heap.size w0 w5) := HAR.out.2.2.2.2.trans (hM.bel.mono HAR.out.2.2.2.2.size)
  clear HAR hR hM hH
  obtain ⟨g0, g1, g2, g3, g4, g5⟩ := HG.out
  clear HG
  go_wp2_with fail
  clear hc5 g0 g1 g2 g3 g4 g5
  refine (HA.out.1 _).mono ?_
  rintro e w6 ⟨v, rfl, hb, rfl⟩
  replace HB : Hid (Below w0.heap.size w0 w6) := HB.out.trans (hb.mono HB.out.size)
  clear hb
  go_wp2_with fail
  refine (HA.out.2 _).mono ?_
  rintro e w7 ⟨v, rfl, hb, rfl⟩
  replace HB : Hid (Below w0.heap.size w0 w7) := HB.out.trans (hb.mono HB.out.size)
  clear hb HA
  cases ra with
  | false =>
    clear HT HC
    go_wp2
    go_ret
    exact ⟨by simp, HB.out⟩
  | true =>
    cases rb with
    | false =>
      clear HT HC
      go_wp2
      go_ret
      exact ⟨by simp, HB.out⟩
    | true =>
      by_cases hcc : c1 = c2
      · subst hcc
        have hse := str_eqX c1.data
        clear HT HC
        go_wp2
        go_ret
        exact ⟨by simp, HB.out⟩
      · have hdd : c1.data ≠ c2.data := fun h => hcc (ByteArray.ext h)
        have hse : (c1.toList == c2.toList) = false := str_ne3 (a := c1.data) (b := c2.data) hdd
        obtain ⟨i0, i1, j1, m1, e1⟩ := HT.out.1 rfl
        obtain ⟨-, -, j2, m2, e2⟩ := HT.out.2 rfl
        have hlaw := sound_law HC.out.1.toFld HC.out.2.2.1 HC.out.2.1 HC.out.2.2.2 i0 i1 j1 m1 j2 m2 hdd e1 e2
        have HL : Hid (((rq N c1.data).isSome = true ∧ (rq N z1.data).isSome = true ∧ (rq N c2.data).isSome = true ∧ (rq N z2.data).isSome = true) ∧ nuV c1.data ≠ nuV c2.data ∧ wr (EC.mul (sTi N (sMi N (nuV z1.data) (nuV z2.data)) (sIn N (sMi N (nuV c1.data) (nuV c2.data)))) (gG P)) = s1.data) := ⟨⟨j1, m1, j2, m2⟩, hlaw⟩
        clear hdd i0 i1 j1 m1 e1 j2 m2 e2 hlaw HT hcc
        obtain ⟨d1, W1, v1, q1, b1, H1, t1⟩ := conv_of c1 w7
        obtain ⟨d2, W2, v2, q2, b2, H2, t2⟩ := conv_of z1 W1
        obtain ⟨d3, W3, v3, q3, b3, H3, t3⟩ := conv_of c2 W2
        obtain ⟨d4, W4, v4, q4, b4, H4, t4⟩ := conv_of z2 W3
        have HAR : Hid (Arg W4 (.slice (some ⟨w7.heap.size, 0, none⟩) c1.size d1) c1.data ∧ Arg W4 (.slice (some ⟨W1.heap.size, 0, none⟩) z1.size d2) z1.data ∧ Arg W4 (.slice (some ⟨W2.heap.size, 0, none⟩) c2.size d3) c2.data ∧ Arg W4 (.slice (some ⟨W3.heap.size, 0, none⟩) z2.size d4) z2.data ∧ Below w7.heap.size w7 W4) := by
          have a1 : Arg W1 (.slice (some ⟨w7.heap.size, 0, none⟩) c1.size d1) c1.data := ⟨_, _, _, rfl, rfl, fun h => ⟨w7.heap.size, 0, rfl, by omega, t1, H1⟩⟩
          have a2 : Arg W2 (.slice (some ⟨W1.heap.size, 0, none⟩) z1.size d2) z1.data := ⟨_, _, _, rfl, rfl, fun h => ⟨W1.heap.size, 0, rfl, by omega, t2, H2⟩⟩
          have a3 : Arg W3 (.slice (some ⟨W2.heap.size, 0, none⟩) c2.size d3) c2.data := ⟨_, _, _, rfl, rfl, fun h => ⟨W2.heap.size, 0, rfl, by omega, t3, H3⟩⟩
          have a4 : Arg W4 (.slice (some ⟨W3.heap.size, 0, none⟩) z2.size d4) z2.data := ⟨_, _, _, rfl, rfl, fun h => ⟨W3.heap.size, 0, rfl, by omega, t4, H4⟩⟩
          exact ⟨((a1.below b2).below b3).below b4, (a2.below b3).below b4, a3.below b4, a4, ((b1.trans (b2.mono b1.size)).trans (b3.mono (Nat.le_trans b1.size b2.size))).trans (b4.mono (Nat.le_trans (Nat.le_trans b1.size b2.size) b3.size))⟩
        clear q1 q2 q3 q4 b1 b2 b3 b4 H1 H2 H3 H4 t1 t2 t3 t4
        go_wp2_with fail
        clear v1 v2 v3 v4 hse
        refine (extract_c HC.out.2.1 _ _ _ _ (fun j => (four4 c1 z1 c2 z2 j).data) _ HAR.out.1 HAR.out.2.1 HAR.out.2.2.1 HAR.out.2.2.2.1).mono ?_
        rintro e w8 ⟨v, rfl, hR⟩
        obtain ⟨x, hx⟩ : ∃ x, x = sTi N (sMi N (nuV z1.data) (nuV z2.data)) (sIn N (sMi N (nuV c1.data) (nuV c2.data))) := ⟨_, rfl⟩
        obtain ⟨k8, hM, rfl⟩ : ∃ k, RG.Made W4 k (cb (bx x)) w8 ∧ v = .tuple #[.slice (some ⟨k, 0, none⟩) 32 32, .int .i64 0] := by
          obtain ⟨⟨j1, m1, j2, m2⟩, hne, -⟩ := HL.out
          rcases hR with ⟨⟨j, hj, hn⟩, -, -⟩ | ⟨-, ⟨hac, -, -⟩ | ⟨-, k, hm, rfl⟩⟩
          · exfalso
            have h4 : j = 0 ∨ j = 1 ∨ j = 2 ∨ j = 3 := by omega
            rcases h4 with rfl | rfl | rfl | rfl
            · have hn : rq N c1.data = none := hn
              rw [hn] at j1; cases j1
            · have hn : rq N z1.data = none := hn
              rw [hn] at m1; cases m1
            · have hn : rq N c2.data = none := hn
              rw [hn] at j2; cases j2
            · have hn : rq N z2.data = none := hn
              rw [hn] at m2; cases m2
          · exact absurd hac hne
          · exact ⟨k, hx ▸ hm, rfl⟩
        have hxl : x < N := by rw [hx]; exact HC.out.2.1.ti _ _
        have HX : Hid (x < N ∧ k8 < w8.heap.size ∧ Holds encB w8 k8 0 (bx x) ∧ wr (EC.mul x (gG P)) = s1.data) := ⟨hxl, hM.lt, cb_holds hM.range hM.there, by rw [hx]; exact HL.out.2.2⟩
        replace HB : Hid (Below w0.heap.size w0 w8) := (HB.out.trans (HAR.out.2.2.2.2.mono HB.out.size)).trans (hM.bel.mono (Nat.le_trans HB.out.size HAR.out.2.2.2.2.size))
        clear hR hM hx hxl HAR HL
        go_wp2_with fail
        refine (Base_c HC.out.1.toFld _).mono ?_
        rintro e w9 ⟨v, rfl, hb, g9, c9, rfl, h1, h2, h3, h4⟩
        have HP : Hid (Pk w9 [(g9, c9, gG P)]) := Pk.cons (fun x hx => absurd hx List.not_mem_nil) h1 h3 (gG_on HC.out.1.toFld) h4
        replace HX : Hid (x < N ∧ k8 < w9.heap.size ∧ Holds encB w9 k8 0 (bx x) ∧ wr (EC.mul x (gG P)) = s1.data) := ⟨HX.out.1, Nat.lt_of_lt_of_le HX.out.2.1 hb.size, Holds.below HX.out.2.2.1 hb HX.out.2.1, HX.out.2.2.2⟩
        replace HB : Hid (Below w0.heap.size w0 w9) := HB.out.trans (hb.mono HB.out.size)
        clear hb h1 h2 h3 h4
        go_wp2_with fail
        have hbv : beV (bx x).toList = x := bx_val (Nat.lt_of_lt_of_le HX.out.1 HC.out.2.1.le)
        refine (times_k HC.out.1.toFld HC.out.2.1.gap HC.out.2.1.le (bx_size x) (by rw [hbv]; exact HX.out.1) HX.out.2.1 HX.out.2.2.1 (HP.out.at 0 rfl)).mono ?_
        rintro e w10 ⟨v, rfl, hb, g10, c10, rfl, h1, h2, h3, h4⟩
        rw [hbv, HX.out.2.2.2] at h4
        have hz : s1.data.size = 33 := by rw [← HX.out.2.2.2, wr_size]
        have hcv : (convert 22 9 (.slice (some ⟨g10, 0, none⟩) 33 c10)).run Try.prog w10 = .ok (.string s1) w10 := conv_str Try.prog 22 9 5 slice22 int5 str9 w10 g10 0 33 c10 s1.data h4 hz
        replace HB : Hid (Below w0.heap.size w0 w10) := HB.out.trans (hb.mono HB.out.size)
        have hse : (s1.toList == s1.toList) = true := str_eqX s1.data
        clear hb h1 h2 h3 h4 hz hbv HX HP HC
        go_wp2
        go_ret
        exact ⟨by simp, HB.out⟩
end Go.Proofs.Yticolhhalbbogae
namespace Go.Proofs.Yticolhhalbbogae
open Go.RowKit Go.Sort Go.Deep
theorem fl3 : ∃ (P : Nat) (_ : NeZero P), Fl3 P := by
  obtain ⟨P, hz, hP, hc⟩ := EC.cur
  have h0 : P = Go.Proofs.Yticolhhalbbogae.p0 := by rw [hP]; decide +kernel
  have hg := gap0
  have hr := refP0
  have h2 : 2 ≤ Go.Proofs.Yticolhhalbbogae.p0 % 18446744073709551616 := by decide +kernel
  have h4 : Go.Proofs.Yticolhhalbbogae.p0 / 4 % 18446744073709551616 < 18446744073709551615 := by decide +kernel
  have h3 : Go.Proofs.Yticolhhalbbogae.p0 % 4 = 3 := by decide +kernel
  have h7 : 7 < Go.Proofs.Yticolhhalbbogae.p0 := by decide +kernel
  rw [← h0] at hg hr h2 h4 h3 h7
  exact ⟨P, hz, ⟨⟨hg, hc, h2, h4, h3, h7⟩, hr⟩⟩
theorem p1_top : Go.Proofs.Yticolhhalbbogae.p1 ≤ top := by decide +kernel
end Go.Proofs.Yticolhhalbbogae
namespace Go.Proofs.Yticolhhalbbogae
open Go.RowKit Go.Sort Go.Deep
variable {N P : Nat} [NeZero P]
omit [NeZero P] in
set_option maxHeartbeats 8000000 in
set_option maxRecDepth 100000 in
theorem sound_big (O : Ord N) (s0 s1 c1 z1 c2 z2 : ByteArray) (w0 : World) (hbig : ¬ (s0.size ≤ 4096 ∧ s1.size ≤ 4096 ∧ c1.size ≤ 4096 ∧ z1.size ≤ 4096 ∧ c2.size ≤ 4096 ∧ z2.size ≤ 4096)) :
    Calls Try.prog 4 #[.string s0, .string s1, .string c1, .string z1, .string c2, .string z2] w0 fun e w' => e = .returned (.bool true) ∧ Below w0.heap.size w0 w' := by
  have HC : Hid (Ord N) := O
  have HG : Hid (¬ (s0.size ≤ 4096 ∧ s1.size ≤ 4096 ∧ c1.size ≤ 4096 ∧ z1.size ≤ 4096 ∧ c2.size ≤ 4096 ∧ z2.size ≤ 4096)) := hbig
  clear O hbig
  go_enter Try.func4, Try.ntmps4
  go_wp2_with fail
  refine (small_c 1 _).mono ?_
  rintro e w1 ⟨v, rfl, hb1, k1, rfl, l1, H1⟩
  have HS1 : Hid (Below w0.heap.size w0 w1 ∧ k1 < w1.heap.size ∧ Holds encB w1 k1 0 (sm 1)) := ⟨hb1, l1, H1⟩
  clear hb1 l1 H1
  go_wp2_with fail
  refine (small_c 5 _).mono ?_
  rintro e w2 ⟨v, rfl, hb2, k2, rfl, l2, H2⟩
  have HS2 : Hid (Below w1.heap.size w1 w2 ∧ k2 < w2.heap.size ∧ Holds encB w2 k2 0 (sm 5)) := ⟨hb2, l2, H2⟩
  clear hb2 l2 H2
  go_wp2_with fail
  refine (small_c 0 _).mono ?_
  rintro e w3 ⟨v, rfl, hb3, k3, rfl, l3, H3⟩
  have HS3 : Hid (Below w2.heap.size w2 w3 ∧ k3 < w3.heap.size ∧ Holds encB w3 k3 0 (sm 0)) := ⟨hb3, l3, H3⟩
  clear hb3 l3 H3
  go_wp2_with fail
  refine (small_c 2 _).mono ?_
  rintro e w4 ⟨v, rfl, hb4, k4, rfl, l4, H4⟩
  have HS4 : Hid (Below w3.heap.size w3 w4 ∧ k4 < w4.heap.size ∧ Holds encB w4 k4 0 (sm 2)) := ⟨hb4, l4, H4⟩
  clear hb4 l4 H4
  have b34 := HS4.out.1
  have b24 := HS3.out.1.trans (b34.mono HS3.out.1.size)
  have b14 := HS2.out.1.trans (b24.mono HS2.out.1.size)
  have b04 := HS1.out.1.trans (b14.mono HS1.out.1.size)
  have HAR : Hid (Arg w4 (.slice (some ⟨k1, 0, none⟩) 32 32) (sm4 0) ∧ Arg w4 (.slice (some ⟨k2, 0, none⟩) 32 32) (sm4 1) ∧ Arg w4 (.slice (some ⟨k3, 0, none⟩) 32 32) (sm4 2) ∧ Arg w4 (.slice (some ⟨k4, 0, none⟩) 32 32) (sm4 3) ∧ Below w0.heap.size w0 w4) :=
    ⟨small_arg HS1.out.2.1 HS1.out.2.2 b14, small_arg HS2.out.2.1 HS2.out.2.2 b24, small_arg HS3.out.2.1 HS3.out.2.2 b34, small_arg HS4.out.2.1 HS4.out.2.2 (Below.refl _ _), b04⟩
  clear b34 b24 b14 b04 HS1 HS2 HS3 HS4
  go_wp2_with fail
  refine (extract_c HC.out _ _ _ _ sm4 _ HAR.out.1 HAR.out.2.1 HAR.out.2.2.1 HAR.out.2.2.2.1).mono ?_
  rintro e w5 ⟨v, rfl, hR⟩
  obtain ⟨k5, hM, rfl⟩ := ex_small HC.out hR
  have hH := cb_holds hM.range hM.there
  have hc5 : w5.cell? ⟨k5, 31, none⟩ = some (.int .u8 3) := by
    have := (hH 31 (by rw [bx_size]; decide)).1
    rw [← b3_31]
    rwa [Nat.zero_add] at this
  have HB : Hid (Below w0.heap.size w0 w5) := HAR.out.2.2.2.2.trans (hM.bel.mono HAR.out.2.2.2.2.size)
  clear HAR hR hM hH
  clear HC
  by_cases k10 : s0.size ≤ 4096
  rotate_left
  · have g0 : (4096 : Int) < (s0.size : Int) := by omega
    clear HG k10
    go_wp2
    go_ret
    exact ⟨by simp, HB.out⟩
  have g0 : ¬ (4096 : Int) < (s0.size : Int) := by omega
  have K0 : Hid (s0.size ≤ 4096) := k10
  clear k10
  by_cases k11 : s1.size ≤ 4096
  rotate_left
  · have g1 : (4096 : Int) < (s1.size : Int) := by omega
    clear HG k11
    go_wp2
    go_ret
    exact ⟨by simp, HB.out⟩
  have g1 : ¬ (4096 : Int) < (s1.size : Int) := by omega
  have K1 : Hid (s1.size ≤ 4096) := k11
  clear k11
  by_cases k12 : c1.size ≤ 4096
  rotate_left
  · have g2 : (4096 : Int) < (c1.size : Int) := by omega
    clear HG k12
    go_wp2
    go_ret
    exact ⟨by simp, HB.out⟩
  have g2 : ¬ (4096 : Int) < (c1.size : Int) := by omega
  have K2 : Hid (c1.size ≤ 4096) := k12
  clear k12
  by_cases k13 : z1.size ≤ 4096
  rotate_left
  · have g3 : (4096 : Int) < (z1.size : Int) := by omega
    clear HG k13
    go_wp2
    go_ret
    exact ⟨by simp, HB.out⟩
  have g3 : ¬ (4096 : Int) < (z1.size : Int) := by omega
  have K3 : Hid (z1.size ≤ 4096) := k13
  clear k13
  by_cases k14 : c2.size ≤ 4096
  rotate_left
  · have g4 : (4096 : Int) < (c2.size : Int) := by omega
    clear HG k14
    go_wp2
    go_ret
    exact ⟨by simp, HB.out⟩
  have g4 : ¬ (4096 : Int) < (c2.size : Int) := by omega
  have K4 : Hid (c2.size ≤ 4096) := k14
  clear k14
  by_cases k15 : z2.size ≤ 4096
  rotate_left
  · have g5 : (4096 : Int) < (z2.size : Int) := by omega
    clear HG k15
    go_wp2
    go_ret
    exact ⟨by simp, HB.out⟩
  have g5 : ¬ (4096 : Int) < (z2.size : Int) := by omega
  have K5 : Hid (z2.size ≤ 4096) := k15
  clear k15
  exact absurd ⟨K0.out, K1.out, K2.out, K3.out, K4.out, K5.out⟩ HG.out
theorem sound_any (C : Fl3 P) (O : Ord N) (hN : NT.IsP N) (hord : ∀ r : EC.Pt P, EC.On r → EC.mul N r = none) (s0 s1 c1 z1 c2 z2 : ByteArray) (w0 : World) :
    Calls Try.prog 4 #[.string s0, .string s1, .string c1, .string z1, .string c2, .string z2] w0 fun e w' => e = .returned (.bool true) ∧ Below w0.heap.size w0 w' := by
  by_cases h : s0.size ≤ 4096 ∧ s1.size ≤ 4096 ∧ c1.size ≤ 4096 ∧ z1.size ≤ 4096 ∧ c2.size ≤ 4096 ∧ z2.size ≤ 4096
  · obtain ⟨h0, h1, h2, h3, h4, h5⟩ := h
    exact sound_few C O hN hord s0 s1 c1 z1 c2 z2 w0 h0 h1 h2 h3 h4 h5
  · exact sound_big O s0 s1 c1 z1 c2 z2 w0 h
omit [NeZero P] in
theorem p1_nL : Go.Proofs.Yticolhhalbbogae.p1 = EC.nL := by decide +kernel
theorem p1_prime : NT.IsP Go.Proofs.Yticolhhalbbogae.p1 := by
  rw [p1_nL]
  exact NT.pN
theorem order1 (C : Fld P) (r : EC.Pt P) (hr : EC.On r) : EC.mul Go.Proofs.Yticolhhalbbogae.p1 r = none := by
  rw [p1_nL]
  have hP : P = EC.pL := by
    rw [C.eq]
    rfl
  exact EC.order C.cur hP (gG_on C) hr
end Go.Proofs.Yticolhhalbbogae
/-
  THE ROW OF 'SigmaSound' round its walk; the frame by the guide's program (howto/shells), the world behind the call told by 'Below'.
-/
namespace Go.Proofs.Yticolhhalbbogae.sigmaSound
open Go.ChangeShapes Go.WideShapes Go.ChangeAt Go.RowKit
open Go.ChangeMaps (open_string shut_string)
theorem own : ownKnob Try.prog.godebug = none := by kernel_rfl
set_option maxRecDepth 100000 in
theorem lifted (os : Os) (started : os.Started) (H : Type) (enc : TypeId × Value → H) :
    ReturnsInHanded {} Try.checked os 4 .any (Rows.sigmaSoundSpec.pre6 enc Try.prog Try.f4 Rows.sigmaSoundRow.domain false) (Rows.sigmaSoundSpec.post enc Try.prog Try.f4 false true false false) := by
  refine returnsInHanded_of_change (C := Try.checked) own started (by kernel_rfl) Try.func4
    (ChangeSpec.witness6 (enc := enc) (C := Try.checked) false ⟨#[], #[.string ByteArray.empty, .string ByteArray.empty, .string ByteArray.empty, .string ByteArray.empty, .string ByteArray.empty, .string ByteArray.empty], []⟩ 8 (by kernel_rfl) (by kernel_rfl) (by kernel_rfl) (by kernel_rfl)) ?_
  intro W base args ds gs before hval0 hW hcnd _
  have hval : ∀ (j : Nat) t v, Try.f4.params[j]? = some t → args[j]? = some v → Value.okWide Try.prog W .any base t v := hval0
  have hW' := hW
  obtain ⟨p, q, hA0, hV, rfl, hfz, hnd⟩ := hW
  have hA : DataW.TrodAll enc Try.prog W 0 (fun _ => true) true Try.f4.params.toList args.toList ds p := hA0
  rw [Try.params4] at hA hval
  obtain ⟨v0, vs0, d0, ds0, p0, q0, hargs, rfl, rfl, h0, r0⟩ := trodAll_cons hA
  obtain ⟨v1, vs1, d1, ds1, p1, q1, rfl, rfl, rfl, h1, r1⟩ := trodAll_cons r0
  obtain ⟨v2, vs2, d2, ds2, p2, q2, rfl, rfl, rfl, h2, r2⟩ := trodAll_cons r1
  obtain ⟨v3, vs3, d3, ds3, p3, q3, rfl, rfl, rfl, h3, r3⟩ := trodAll_cons r2
  obtain ⟨v4, vs4, d4, ds4, p4, q4, rfl, rfl, rfl, h4, r4⟩ := trodAll_cons r3
  obtain ⟨v5, vs5, d5, ds5, p5, q5, rfl, rfl, rfl, h5, r5⟩ := trodAll_cons r4
  obtain ⟨rfl, rfl, rfl⟩ := trodAll_nil r5
  obtain rfl : args = #[v0, v1, v2, v3, v4, v5] := by cases args; simp_all
  obtain ⟨rfl, rfl⟩ := trodVars_none hV
  obtain ⟨a0, rfl, rfl, rfl, w0⟩ := open_string Try.underlying9 (hval 0 9 v0 rfl rfl) h0
  obtain ⟨a1, rfl, rfl, rfl, w1⟩ := open_string Try.underlying9 (hval 1 9 v1 rfl rfl) h1
  obtain ⟨a2, rfl, rfl, rfl, w2⟩ := open_string Try.underlying9 (hval 2 9 v2 rfl rfl) h2
  obtain ⟨a3, rfl, rfl, rfl, w3⟩ := open_string Try.underlying9 (hval 3 9 v3 rfl rfl) h3
  obtain ⟨a4, rfl, rfl, rfl, w4⟩ := open_string Try.underlying9 (hval 4 9 v4 rfl rfl) h4
  obtain ⟨a5, rfl, rfl, rfl, w5⟩ := open_string Try.underlying9 (hval 5 9 v5 rfl rfl) h5
  clear hA0 hval0
  obtain ⟨P, hz, C⟩ := fl3
  refine (sound_any C ord p1_prime (order1 C.toFld) a0 a1 a2 a3 a4 a5 W).mono fun e W' ⟨he, bel⟩ => ?_
  subst he
  exact ⟨_, rfl, _, _, _, [], _, [], hW', (trodAll_cons_mk (shut_bool Try.underlying4 _) trodAll_mk0), (trodAll_cons_mk (shut_string Try.underlying9 w0) (trodAll_cons_mk (shut_string Try.underlying9 w1) (trodAll_cons_mk (shut_string Try.underlying9 w2) (trodAll_cons_mk (shut_string Try.underlying9 w3) (trodAll_cons_mk (shut_string Try.underlying9 w4) (trodAll_cons_mk (shut_string Try.underlying9 w5) trodAll_mk0)))))), rfl, bel.frame _, fun h => by cases h⟩
theorem over : Rows.sigmaSoundRow.holds Try.pinned (OpenSpec.ofChange Rows.sigmaSoundSpec) :=
  OpenClaim.holds_of_wide 4 Try.f4 rfl rfl rfl rfl rfl rfl rfl ⟨rfl, rfl, rfl, rfl, rfl⟩ rfl rfl rfl rfl rfl (by kernel_rfl) Try.func4 (by kernel_rfl)
    (of_decide_eq_true (by kernel_rfl)) (by unfold Func.isWrapper; first | (rw [if_pos (by decide +kernel)]; kernel_rfl) | (rw [if_neg (by decide +kernel)]; exact ⟨rfl, rfl⟩))
    (fun os started H enc _ => lifted os started H enc)
theorem proved : Rows.SigmaSoundSaid :=
  over
end Go.Proofs.Yticolhhalbbogae.sigmaSound
namespace Go.Proofs.Yticolhhalbbogae
/-- THE STATEMENT. -/
theorem sigmaSound_holds : Rows.SigmaSoundSaid := sigmaSound.proved
#print axioms sigmaSound_holds
end Go.Proofs.Yticolhhalbbogae
