import Derived.Deep.LoopGhost
import Derived.Deep.RegionHeld3
import Derived.Deep.CutRange
import Derived.Deep.DeepCutAuto
import Derived.Laws.MakeOwn
import Derived.ChangeKeysEq
import Derived.Deep.AppendSrc
import Derived.Lib.AppendZeros
import Derived.Lib.LazyBuf
import Derived.Test.YticolhhalbbogacGreatGI3
set_option linter.unusedVariables false
set_option linter.unusedSimpArgs false
namespace Go.Proofs.YticolhhalbbogacGreat
open Go.RowKit Go.Sort
variable {P : Nat} [NeZero P]
def F107a_0 : List RG.It := [.m 4 [] 1, .m 5 [] 2]
def F107b_1 (n off : Nat) (x : Fin P) (D : Nat → Int) : List RG.It := [.s 8 [] (.p 0 off), .x 9 [] (nv n), .c 10 [(9, 1)] (dv D), .s 11 [(8, 0)] (.p 0 off), .s 12 [(11, 3)] (.p 0 (off + 96)), .u [(12, 4), (10, 2)] 0]
def F107c_2 (off : Nat) (x y : Fin P) (s0 : T3 P) : List RG.It := [.s 13 [] (.p 0 off), .x 14 [] (pv x y), .c 15 [(14, 1)] (tv s0), .s 16 [(13, 0)] (.p 0 off), .s 17 [(16, 3)] (.p 0 (off + 0)), .s 18 [(17, 4)] (.p 0 ((off + 0) + 12 * 0)), .u [(18, 5), (15, 2)] 0]
def F107d_3 (off : Nat) (x : Fin P) (s0 s2 : T3 P) : List RG.It := [.s 19 [] (.p 0 off), .s 20 [(19, 0)] (.p 0 off), .s 21 [(20, 1)] (.p 0 (off + 0)), .s 22 [(21, 2)] (.p 0 ((off + 0) + 12 * 0)), .x 23 [(22, 3)] (tv s0), .c 24 [(23, 4)] (tv s2), .m 6 [] 3, .u [(6, 6), (24, 5)] 3]
def F107d_4 (x : Fin P) : List RG.It := [.x 7 [] (.int .i64 1)]
def F107e_5 (i : Nat) (x : Fin P) : List RG.It := [.x 25 [] (.int .i64 (i : Int)), .x 26 [(25, 0)] (.bool true)]
def F107e_7 (off i : Nat) (x : Fin P) (s2 s3 sp : T3 P) : List RG.It := [.s 29 [] (.p 0 off), .x 30 [] (.int .i64 (i : Int)), .s 31 [] (.p 0 off), .x 32 [] (.int .i64 (i : Int)), .x 33 [(32, 3)] (.int .i64 ((i - 1 : Nat) : Int)), .s 34 [(31, 2)] (.p 0 off), .s 35 [(34, 5)] (.p 0 (off + 0)), .s 36 [(35, 6), (33, 4)] (.p 0 ((off + 0) + 12 * (i - 1))), .x 37 [(36, 7)] (tv sp), .x 38 [] (tv s2), .c 39 [(37, 8), (38, 9)] (tv s3), .s 40 [(29, 0)] (.p 0 off), .s 41 [(40, 11)] (.p 0 (off + 0)), .s 42 [(41, 12), (30, 1)] (.p 0 ((off + 0) + 12 * i)), .u [(42, 13), (39, 10)] 0]
def F107e_6 (i : Nat) (x : Fin P) : List RG.It := [.x 27 [] (.int .i64 (i : Int)), .x 28 [(27, 0)] (.int .i64 ((i + 1 : Nat) : Int)), .x 7 [(28, 1)] (.int .i64 ((i + 1 : Nat) : Int))]
def F107f_5 (i : Nat) (x : Fin P) : List RG.It := [.x 25 [] (.int .i64 (i : Int)), .x 26 [(25, 0)] (.bool false)]
set_option maxHeartbeats 2000000 in
set_option maxRecDepth 100000 in
theorem fill_c (F : Fld P) {n : Nat} (hn : n < top) (x y : Fin P) (C0 : List Value) (kt off : Nat) (hoff : off + 353 ≤ C0.length) (w : World) (hk : kt < w.heap.size) (ht : w.there kt 0 C0.length) (hr : w.rangeAt kt 0 C0) :
    Calls Tryz.prog 43 #[.pointer (some ⟨kt, off, none⟩), nv n, pv x y] w (Ret fun r w' => (∃ C, Fi x y (digs n) C0 off 8 C ∧ RG.PutTo kt C0.length C w w') ∧ r = .tuple #[]) := by
  obtain ⟨D, hDe⟩ : ∃ D, digs n = D := ⟨_, rfl⟩
  have hD : Gives 73 #[nv n] (dv D) := hDe ▸ digits_c hn
  obtain ⟨s0, hs0e⟩ : ∃ s, raJ x y = s := ⟨_, rfl⟩
  have hs0 : Gives 74 #[pv x y] (tv s0) := hs0e ▸ raJ_c F x y
  obtain ⟨s2, hs2e⟩ : ∃ s, twJ s0 = s := ⟨_, rfl⟩
  have hs2 : Gives 44 #[tv s0] (tv s2) := hs2e ▸ twJ_c F s0
  obtain ⟨C1, hC1e⟩ : ∃ c, RG.rep C0 (off + 96) (dg D) = c := ⟨_, rfl⟩
  have hlD : off + 96 + (dg D).length ≤ C0.length := by rw [dg_length]; omega
  have hC1 := hC1e ▸ RG.rep_at hlD
  have hL1 : C1.length = C0.length := hC1e ▸ RG.rep_length hlD
  have F1 : Fi x y D C0 off 0 C1 := hC1e ▸ Fi.first hoff
  obtain ⟨C2, hC2e⟩ : ∃ c, RG.rep C1 (off + 0 + 12 * 0) (tw s0) = c := ⟨_, rfl⟩
  have hlS : off + 0 + 12 * 0 + (tw s0).length ≤ C1.length := by rw [tw_length]; omega
  have hC2 := hC2e ▸ RG.rep_at hlS
  have hL2 : C2.length = C1.length := hC2e ▸ RG.rep_length hlS
  have F2 : Fi x y D C0 off 1 C2 := by
    have := F1.next hoff (by decide)
    rw [← hC2e, ← hs0e]
    exact this
  have hsub0 : (C2.drop (off + 0 + 12 * 0)).take (tw s0).length = tw s0 := by
    have := F2.sub hoff (q := 0) (by decide) (by decide)
    rw [← hs0e]
    exact this
  obtain ⟨i, hi0⟩ : ∃ i : Nat, i = 0 := ⟨_, rfl⟩
  obtain ⟨s3, -⟩ : ∃ s : T3 P, s = s0 := ⟨_, rfl⟩
  obtain ⟨sp, -⟩ : ∃ s : T3 P, s = s0 := ⟨_, rfl⟩
  go_enter Tryz.func43, Tryz.ntmps43
  refine RG.var3 (v0 := .pointer (some ⟨kt, off, none⟩)) (v1 := nv n) (v2 := pv x y) (n := 43) (by kernel_rfl) (by kernel_rfl) (by kernel_rfl) (by kernel_rfl) (by kernel_rfl) ?_
  intro a0 sl0 f0 f1 f2
  have hS0 := RG.St.lent hk hr ht
  have M0 : RG.M w w.heap.size [kt] 43 [C0] [kt] [(0, (.p 0 off)), (1, (.v (nv n))), (2, (.v (pv x y)))] a0 _ := ⟨hS0, sl0, ⟨f0, f1, f2, trivial⟩⟩
  repeat refine wp_seq ?_
  refine M0.tx F107a_0 [(0, (wn n)), (1, (ws x ++ (ws y)))] [] [C0, (wn n), (ws x ++ (ws y))] [(0, (.p 0 off)), (4, (.p 1 0)), (5, (.p 2 0))] (by kernel_rfl) (by kernel_rfl) ⟨RG.mk 1 46 fun _ _ => by kernel_rfl, RG.mk 2 48 fun _ _ => by kernel_rfl, trivial⟩ ?_
  intro j1 i1 a1 w1 M1
  have hS1 : RG.St w w.heap.size [kt] [C0, (wn n), (ws x ++ (ws y))] [kt, j1, i1] _ := M1.st
  have sl1 := M1.sl
  have f0_1 : a1.tmps[0]? = some (.pointer (some ⟨kt, off, none⟩)) := M1.at (s := (.p 0 off)) (by kernel_rfl)
  have f4_1 : a1.tmps[4]? = some (.pointer (some ⟨j1, 0, none⟩)) := M1.at (s := (.p 1 0)) (by kernel_rfl)
  have f5_1 : a1.tmps[5]? = some (.pointer (some ⟨i1, 0, none⟩)) := M1.at (s := (.p 2 0)) (by kernel_rfl)
  have M1 : RG.M w w.heap.size [kt] 43 [C0, (wn n), (ws x ++ (ws y))] [kt, j1, i1] [(0, (.p 0 off)), (4, (.p 1 0)), (5, (.p 2 0))] a1 _ := ⟨hS1, sl1, ⟨f0_1, f4_1, f5_1, trivial⟩⟩
  repeat refine wp_seq ?_
  refine M1.tx (F107b_1 n off x D) [] [(0, 5, C1)] [C1, (wn n), (ws x ++ (ws y))] [(0, (.p 0 off)), (5, (.p 2 0))] (by kernel_rfl) (congrArg (fun n => [n]) hL1) ⟨RG.st fun _ _ => by kernel_rfl, RG.ld u85 i85 (by kernel_rfl), RG.cl (hD) fun _ _ => by kernel_rfl, RG.st fun _ _ => by kernel_rfl, RG.st fun _ _ => by kernel_rfl, RG.cert_putAt 0 (off + 96) rfl _ rfl 89 (.tmp 12) (.tmp 10) (dg D) rfl rfl (RG.sx fun _ => by kernel_rfl) (RG.sx fun _ => by kernel_rfl) (by show off + 96 + (dg D).length ≤ C0.length; rw [dg_length]; omega) (hC1) (by show _ = some (dg _).length; rw [dg_length]; exact i138) (dg_one _), trivial⟩ ?_
  intro a2 w2 M2
  have hS2 : RG.St w w.heap.size [kt] [C1, (wn n), (ws x ++ (ws y))] [kt, j1, i1] _ := M2.st
  have sl2 := M2.sl
  have f0_2 : a2.tmps[0]? = some (.pointer (some ⟨kt, off, none⟩)) := M2.at (s := (.p 0 off)) (by kernel_rfl)
  have f5_2 : a2.tmps[5]? = some (.pointer (some ⟨i1, 0, none⟩)) := M2.at (s := (.p 2 0)) (by kernel_rfl)
  have M2 : RG.M w w.heap.size [kt] 43 [C1, (wn n), (ws x ++ (ws y))] [kt, j1, i1] [(0, (.p 0 off)), (5, (.p 2 0))] a2 _ := ⟨hS2, sl2, ⟨f0_2, f5_2, trivial⟩⟩
  repeat refine wp_seq ?_
  refine M2.dr (by kernel_rfl) (F107c_2 off x y s0) [] [(0, 6, C2)] [C2, (wn n), (ws x ++ (ws y))] [(0, (.p 0 off))] (by kernel_rfl) (congrArg (fun n => [n]) hL2) ⟨RG.st fun _ _ => by kernel_rfl, RG.ld u109 i109 (by kernel_rfl), RG.cl (hs0) fun _ _ => by kernel_rfl, RG.st fun _ _ => by kernel_rfl, RG.st fun _ _ => by kernel_rfl, RG.cert_idxc rfl 87 17 (.int .i64 0) rfl (.p 0 (off + 0)) (RG.sx fun _ => by kernel_rfl) (fun μ w => at136 _ _ 0 (by decide) w), RG.cert_putAt 0 ((off + 0) + 12 * 0) rfl _ rfl 86 (.tmp 18) (.tmp 15) (tw s0) rfl rfl (RG.sx fun _ => by kernel_rfl) (RG.sx fun _ => by kernel_rfl) (by show off + 0 + 12 * 0 + (tw s0).length ≤ C1.length; rw [tw_length]; omega) (hC2) i117 (tw_one _), trivial⟩ ?_
  intro a3 w3 M3
  have hS3 : RG.St w w.heap.size [kt] [C2, (wn n), (ws x ++ (ws y))] [kt, j1, i1] _ := M3.st
  have sl3 := M3.sl
  have f0_3 : a3.tmps[0]? = some (.pointer (some ⟨kt, off, none⟩)) := M3.at (s := (.p 0 off)) (by kernel_rfl)
  have M3 : RG.M w w.heap.size [kt] 43 [C2, (wn n), (ws x ++ (ws y))] [kt, j1, i1] [(0, (.p 0 off))] a3 _ := ⟨hS3, sl3, ⟨f0_3, trivial⟩⟩
  repeat refine wp_seq ?_
  refine M3.tx (F107d_3 off x s0 s2) [(6, (RG.z 12))] [(3, 7, (tw s2))] [C2, (wn n), (ws x ++ (ws y)), (tw s2)] [(0, (.p 0 off)), (6, (.p 3 0))] (by kernel_rfl) (by kernel_rfl) ⟨RG.st fun _ _ => by kernel_rfl, RG.st fun _ _ => by kernel_rfl, RG.st fun _ _ => by kernel_rfl, RG.cert_idxc rfl 87 21 (.int .i64 0) rfl (.p 0 (off + 0)) (RG.sx fun _ => by kernel_rfl) (fun μ w => at136 _ _ 0 (by decide) w), RG.cert_load rfl 0 ((off + 0) + 12 * 0) _ rfl rfl (by kernel_rfl) 86 22 rfl (tw s0) rfl (RG.sx fun _ => by kernel_rfl) (hsub0) u117 i117, RG.cl (hs2) fun _ _ => by kernel_rfl, RG.mk 3 86 fun _ _ => by kernel_rfl, RG.pt i117 (by kernel_rfl), trivial⟩ ?_
  intro j4 a4 w4 M4
  repeat refine wp_seq ?_
  refine M4.tx0 (F107d_4 x) [(0, (.p 0 off)), (6, (.p 3 0)), (7, (.v (.int .i64 1)))] (by kernel_rfl) ⟨RG.st fun _ _ => by kernel_rfl, trivial⟩ ?_
  intro a5 w5 M5
  have hS5 : RG.St w w.heap.size [kt] [C2, (wn n), (ws x ++ (ws y)), (tw s2)] [kt, j1, i1, j4] _ := M5.st
  have sl5 := M5.sl
  have f0_5 : a5.tmps[0]? = some (.pointer (some ⟨kt, off, none⟩)) := M5.at (s := (.p 0 off)) (by kernel_rfl)
  have f6_5 : a5.tmps[6]? = some (.pointer (some ⟨j4, 0, none⟩)) := M5.at (s := (.p 3 0)) (by kernel_rfl)
  have f7_5 : a5.tmps[7]? = some (.int .i64 1) := M5.at (s := (.v (.int .i64 1))) (by kernel_rfl)
  subst hDe
  subst hs0e
  subst hs2e
  clear hC1 hC2 hsub0 hL1 hL2 hlD hlS
  repeat refine wp_seq ?_
  refine wp_block ?_
  refine wp_loop_ghost (fun m a wr => ∃ (i : Nat) (C : List Value), 1 ≤ i ∧ i ≤ 8 ∧ i + m = 8 ∧ Fi x y (digs n) C0 off i C ∧ RG.Sl a 43 ∧ a.tmps[0]? = some (.pointer (some ⟨kt, off, none⟩)) ∧ a.tmps[6]? = some (.pointer (some ⟨j4, 0, none⟩)) ∧ a.tmps[7]? = some (.int .i64 (i : Int)) ∧ RG.St w w.heap.size [kt] [C, wn n, ws x ++ ws y, tw (twJ (raJ x y))] [kt, j1, i1, j4] wr) 7 ⟨1, C2, by omega, by omega, by omega, F2, sl5, f0_5, f6_5, f7_5, hS5⟩ ?_
  intro m a wr
  rintro ⟨i, C1, hi1, hi8, hm, hF, sl, g0, g6, g7, hS⟩
  generalize j1 = k1 at g6 hS
  generalize i1 = k2 at g6 hS
  generalize j4 = k3 at g6 hS
  obtain ⟨D, hDe⟩ : ∃ D, digs n = D := ⟨_, rfl⟩
  rw [hDe] at hF
  obtain ⟨s0, hs0e⟩ : ∃ s, raJ x y = s := ⟨_, rfl⟩
  obtain ⟨s2, hs2e⟩ : ∃ s, twJ (raJ x y) = s := ⟨_, rfl⟩
  rw [hs2e] at hS
  obtain ⟨sp, hspe⟩ : ∃ s, od x y (i - 1) = s := ⟨_, rfl⟩
  obtain ⟨s3, hs3e⟩ : ∃ s, plJ sp s2 = s := ⟨_, rfl⟩
  have hs3 : Gives 45 #[tv sp, tv s2] (tv s3) := hs3e ▸ plJ_c F sp s2
  have hlen := hF.len
  by_cases hi : i < 8
  · have hod : od x y i = s3 := by
      obtain ⟨q, rfl⟩ : ∃ q, i = q + 1 := ⟨i - 1, by omega⟩
      rw [← hs3e, ← hspe, ← hs2e]
      rfl
    have hsubp : (C1.drop (off + 0 + 12 * (i - 1))).take (tw sp).length = tw sp := by
      have := hF.sub hoff (q := i - 1) (by omega) (by omega)
      rw [hspe] at this
      exact this
    obtain ⟨C2, hC2e⟩ : ∃ c, RG.rep C1 (off + 0 + 12 * i) (tw s3) = c := ⟨_, rfl⟩
    have hlS : off + 0 + 12 * i + (tw s3).length ≤ C1.length := by rw [tw_length]; omega
    have hC2 := hC2e ▸ RG.rep_at hlS
    have hL2 : C2.length = C1.length := hC2e ▸ RG.rep_length hlS
    have hF2 : Fi x y D C0 off (i + 1) C2 := by
      have := hF.next hoff hi
      rw [hod] at this
      rw [← hC2e]
      exact this
    have hsb : ∀ w, (binOp .sub 3 (.int .i64 (i : Int)) (.int .i64 1)).run Tryz.prog w = .ok (.int .i64 ((i - 1 : Nat) : Int)) w := fun w => by
      rw [sub64i _ _ (by omega) (by omega), show (i : Int) - 1 = ((i - 1 : Nat) : Int) by omega]
    clear hs0e hC2e
    have M0 : RG.M w w.heap.size [kt] 43 [C1, (wn n), (ws x ++ (ws y)), (tw s2)] [kt, k1, k2, k3] [(0, (.p 0 off)), (6, (.p 3 0)), (7, (.v (.int .i64 (i : Int))))] a _ := ⟨hS, sl, ⟨g0, g6, g7, trivial⟩⟩
    repeat refine wp_seq ?_
    refine M0.tx0 (F107e_5 i x) [(0, (.p 0 off)), (6, (.p 3 0)), (7, (.v (.int .i64 (i : Int)))), (26, (.v (.bool true)))] (by kernel_rfl) ⟨RG.st fun _ _ => by kernel_rfl, RG.cert_binc rfl .lss 3 3 25 (.int .i64 (i : Int)) (.int .i64 8) (.bool true) rfl rfl (RG.sx fun _ => by kernel_rfl) (fun w => by kernel_rfl) (lssn_t (n := 8) hi), trivial⟩ ?_
    intro a1 w1 M1
    repeat refine wp_seq ?_
    refine wp_cond_true (M1.ev (by kernel_rfl)) ?_
    refine wp_skip ?_
    refine wp_seq ?_
    refine wp_block ?_
    repeat refine wp_seq ?_
    refine M1.dr (by kernel_rfl) (F107e_7 off i x s2 s3 sp) [] [(0, 14, C2)] [C2, (wn n), (ws x ++ (ws y)), (tw s2)] [(0, (.p 0 off)), (6, (.p 3 0)), (7, (.v (.int .i64 (i : Int))))] (by kernel_rfl) (congrArg (fun n => [n]) hL2) ⟨RG.st fun _ _ => by kernel_rfl, RG.st fun _ _ => by kernel_rfl, RG.st fun _ _ => by kernel_rfl, RG.st fun _ _ => by kernel_rfl, RG.cert_binc rfl .sub 3 3 32 (.int .i64 (i : Int)) (.int .i64 1) (.int .i64 ((i - 1 : Nat) : Int)) rfl rfl (RG.sx fun _ => by kernel_rfl) (fun w => by kernel_rfl) (hsb), RG.st fun _ _ => by kernel_rfl, RG.st fun _ _ => by kernel_rfl, RG.cert_idx rfl 87 35 33 rfl (.p 0 (off + 0)) (.int .i64 ((i - 1 : Nat) : Int)) (RG.sx fun _ => by kernel_rfl) (RG.sx fun _ => by kernel_rfl) (fun μ w => at136 _ _ (i - 1) (by omega) w), RG.cert_load rfl 0 ((off + 0) + 12 * (i - 1)) _ rfl rfl (by kernel_rfl) 86 36 rfl (tw sp) rfl (RG.sx fun _ => by kernel_rfl) (hsubp) u117 i117, RG.ld u117 i117 (by kernel_rfl), RG.cl (hs3) fun _ _ => by kernel_rfl, RG.st fun _ _ => by kernel_rfl, RG.st fun _ _ => by kernel_rfl, RG.cert_idx rfl 87 41 30 rfl (.p 0 (off + 0)) (.int .i64 (i : Int)) (RG.sx fun _ => by kernel_rfl) (RG.sx fun _ => by kernel_rfl) (fun μ w => at136 _ _ i (by omega) w), RG.cert_putAt 0 ((off + 0) + 12 * i) rfl _ rfl 86 (.tmp 42) (.tmp 39) (tw s3) rfl rfl (RG.sx fun _ => by kernel_rfl) (RG.sx fun _ => by kernel_rfl) (by show off + 0 + 12 * i + (tw s3).length ≤ C1.length; rw [tw_length]; omega) (hC2) i117 (tw_one _), trivial⟩ ?_
    intro a2 w2 M2
    repeat refine wp_seq ?_
    refine M2.tx0 (F107e_6 i x) [(0, (.p 0 off)), (6, (.p 3 0)), (7, (.v (.int .i64 ((i + 1 : Nat) : Int))))] (by kernel_rfl) ⟨RG.st fun _ _ => by kernel_rfl, RG.cert_binc rfl .add 3 3 27 (.int .i64 (i : Int)) (.int .i64 1) (.int .i64 ((i + 1 : Nat) : Int)) rfl rfl (RG.sx fun _ => by kernel_rfl) (fun w => by kernel_rfl) (addn i 1 (by omega) (by omega)), RG.st fun _ _ => by kernel_rfl, trivial⟩ ?_
    intro a3 w3 M3
    have hS3 : RG.St w w.heap.size [kt] [C2, (wn n), (ws x ++ (ws y)), (tw s2)] [kt, k1, k2, k3] _ := M3.st
    have sl3 := M3.sl
    have f0_3 : a3.tmps[0]? = some (.pointer (some ⟨kt, off, none⟩)) := M3.at (s := (.p 0 off)) (by kernel_rfl)
    have f6_3 : a3.tmps[6]? = some (.pointer (some ⟨k3, 0, none⟩)) := M3.at (s := (.p 3 0)) (by kernel_rfl)
    have f7_3 : a3.tmps[7]? = some (.int .i64 ((i + 1 : Nat) : Int)) := M3.at (s := (.v (.int .i64 ((i + 1 : Nat) : Int)))) (by kernel_rfl)
    show ∃ n', _
    exact ⟨m - 1, by omega, i + 1, C2, by omega, by omega, by omega, hDe.symm ▸ hF2, sl3, f0_3, f6_3, f7_3, by rw [hs2e]; exact hS3⟩
  · have hi9 : i = 8 := by omega
    obtain ⟨C2, -⟩ : ∃ c : List Value, c = C1 := ⟨_, rfl⟩
    have M0 : RG.M w w.heap.size [kt] 43 [C1, (wn n), (ws x ++ (ws y)), (tw s2)] [kt, k1, k2, k3] [(0, (.p 0 off)), (6, (.p 3 0)), (7, (.v (.int .i64 (i : Int))))] a _ := ⟨hS, sl, ⟨g0, g6, g7, trivial⟩⟩
    repeat refine wp_seq ?_
    refine M0.tx0 (F107f_5 i x) [(0, (.p 0 off)), (6, (.p 3 0)), (7, (.v (.int .i64 (i : Int)))), (26, (.v (.bool false)))] (by kernel_rfl) ⟨RG.st fun _ _ => by kernel_rfl, RG.cert_binc rfl .lss 3 3 25 (.int .i64 (i : Int)) (.int .i64 8) (.bool false) rfl rfl (RG.sx fun _ => by kernel_rfl) (fun w => by kernel_rfl) (lssn_f (n := 8) hi), trivial⟩ ?_
    intro a1 w1 M1
    repeat refine wp_seq ?_
    refine wp_cond_false (M1.ev (by kernel_rfl)) ?_
    refine wp_exit ?_
    dsimp only [Exit.then, Exit.inBlock]
    rw [if_pos rfl]
    have hS1 : RG.St w w.heap.size [kt] [C1, (wn n), (ws x ++ (ws y)), (tw s2)] [kt, k1, k2, k3] _ := M1.st
    have sl1 := M1.sl
    have f0_1 : a1.tmps[0]? = some (.pointer (some ⟨kt, off, none⟩)) := M1.at (s := (.p 0 off)) (by kernel_rfl)
    have f6_1 : a1.tmps[6]? = some (.pointer (some ⟨k3, 0, none⟩)) := M1.at (s := (.p 3 0)) (by kernel_rfl)
    have f7_1 : a1.tmps[7]? = some (.int .i64 (i : Int)) := M1.at (s := (.v (.int .i64 (i : Int)))) (by kernel_rfl)
    exact ⟨sl1.defers, .tuple #[], RG.results_none rfl, _, rfl, ⟨C1, hDe.symm ▸ hi9 ▸ hF, hS1.putTo hF.len⟩, rfl⟩
end Go.Proofs.YticolhhalbbogacGreat
namespace Go.Proofs.YticolhhalbbogacGreat
open Go.RowKit Go.Sort
variable {P : Nat} [NeZero P]
def F108n_0 : List RG.It := [.m 4 [] 0]
def F108n_1 (k : Nat) : List RG.It := [.x 5 [] (.int .i8 (-(2 * (k : Int) + 1))), .x 6 [(5, 0)] (.bool true)]
def F108n_2 (kt o k : Nat) (s s2 : T3 P) : List RG.It := [.x 7 [] (.pointer (some ⟨kt, o, none⟩)), .x 8 [] (.int .i8 (-(2 * (k : Int) + 1))), .x 9 [(8, 1)] (.int .i8 (2 * (k : Int) + 1)), .x 10 [(9, 2)] (.int .i8 (k : Int)), .x 11 [(7, 0)] (.pointer (some ⟨kt, o, none⟩)), .x 12 [(11, 4)] (.pointer (some ⟨kt, (o + 0), none⟩)), .x 13 [(12, 5), (10, 3)] (.pointer (some ⟨kt, ((o + 0) + 12 * k), none⟩)), .x 14 [(13, 6)] (tv s), .c 15 [(14, 7)] (tv s2), .u [(15, 8)] 0]
def F108p_0 : List RG.It := [.m 4 [] 0]
def F108p_1 (k : Nat) : List RG.It := [.x 5 [] (.int .i8 (2 * (k : Int) + 1)), .x 6 [(5, 0)] (.bool false)]
def F108p_3 (kt o k : Nat) (s : T3 P) : List RG.It := [.x 16 [] (.pointer (some ⟨kt, o, none⟩)), .x 17 [] (.int .i8 (2 * (k : Int) + 1)), .x 18 [(17, 1)] (.int .i8 (k : Int)), .x 19 [(16, 0)] (.pointer (some ⟨kt, o, none⟩)), .x 20 [(19, 3)] (.pointer (some ⟨kt, (o + 0), none⟩)), .x 21 [(20, 4), (18, 2)] (.pointer (some ⟨kt, ((o + 0) + 12 * k), none⟩)), .x 22 [(21, 5)] (tv s), .u [(22, 6)] 0]
set_option maxHeartbeats 2000000 in
set_option maxRecDepth 100000 in
theorem times_n (F : Fld P) (kt o k : Nat) (hq : k < 8) (s : T3 P) (w : World) (hk : kt < w.heap.size) (hr : w.rangeAt kt (o + 0 + 12 * k) (tw s)) : Calls Tryz.prog 46 #[(.pointer (some ⟨kt, o, none⟩)), (.int .i8 (-(2 * (k : Int) + 1)))] w (Ret fun e w' => Below w.heap.size w w' ∧ e = tv (opJ s)) := by
  obtain ⟨s2, hs2e⟩ : ∃ s2, opJ s = s2 := ⟨_, rfl⟩
  have hs2 : Gives 80 #[tv s] (tv s2) := hs2e ▸ opJ_c F s
  have hlss : ∀ w, (binOp .lss 88 (.int .i8 (-(2 * (k : Int) + 1))) (.int .i8 0)).run Tryz.prog w = .ok (.bool true) w := fun w => by
    have h1 : -(2 * (k : Int) + 1) < 0 := by omega
    go_simp
    try omega
  have hneg : ∀ w, (Op.unary .neg (.int .i8 (-(2 * (k : Int) + 1)))).run Tryz.prog w = .ok (.int .i8 (2 * (k : Int) + 1)) w := fun w => by
    rw [i8neg _ (by omega), Int.neg_neg]
  go_enter Tryz.func46, Tryz.ntmps46
  refine RG.var2 (v0 := (.pointer (some ⟨kt, o, none⟩))) (v1 := (.int .i8 (-(2 * (k : Int) + 1)))) (n := 23) (by kernel_rfl) (by kernel_rfl) (by kernel_rfl) (by kernel_rfl) ?_
  intro a0 sl0 f0 f1
  have hS0 := RG.St.begin w
  have M0 : RG.M w w.heap.size [] 23 [] [] [(0, (.v (.pointer (some ⟨kt, o, none⟩)))), (1, (.v (.int .i8 (-(2 * (k : Int) + 1)))))] a0 _ := ⟨hS0, sl0, ⟨f0, f1, trivial⟩⟩
  repeat refine wp_seq ?_
  refine M0.tx F108n_0 [(0, (RG.z 12))] [] [(RG.z 12)] [(0, (.v (.pointer (some ⟨kt, o, none⟩)))), (1, (.v (.int .i8 (-(2 * (k : Int) + 1))))), (4, (.p 0 0))] (by kernel_rfl) (by kernel_rfl) ⟨RG.mk 0 86 fun _ _ => by kernel_rfl, trivial⟩ ?_
  intro j1 a1 w1 M1
  repeat refine wp_seq ?_
  refine M1.tx0 (F108n_1 k) [(0, (.v (.pointer (some ⟨kt, o, none⟩)))), (1, (.v (.int .i8 (-(2 * (k : Int) + 1))))), (4, (.p 0 0)), (6, (.v (.bool true)))] (by kernel_rfl) ⟨RG.st fun _ _ => by kernel_rfl, RG.cert_binc rfl .lss 88 88 5 (.int .i8 (-(2 * (k : Int) + 1))) (.int .i8 0) (.bool true) rfl rfl (RG.sx fun _ => by kernel_rfl) (fun w => by kernel_rfl) (hlss), trivial⟩ ?_
  intro a2 w2 M2
  repeat refine wp_seq ?_
  refine wp_cond_true (M2.ev (by kernel_rfl)) ?_
  repeat refine wp_seq ?_
  refine M2.tx (F108n_2 kt o k s s2) [] [(0, 9, (tw s2))] [(tw s2)] [(4, (.p 0 0))] (by kernel_rfl) (by kernel_rfl) ⟨RG.st fun _ _ => by kernel_rfl, RG.st fun _ _ => by kernel_rfl, RG.cert_un rfl .neg 88 8 (.int .i8 (-(2 * (k : Int) + 1))) (.int .i8 (2 * (k : Int) + 1)) rfl rfl (RG.sx fun _ => by kernel_rfl) (hneg), RG.cert_binc rfl .quo 88 88 9 (.int .i8 (2 * (k : Int) + 1)) (.int .i8 2) (.int .i8 (k : Int)) rfl rfl (RG.sx fun _ => by kernel_rfl) (fun w => by kernel_rfl) (i8quo k hq), RG.st fun _ _ => by kernel_rfl, RG.st fun _ _ => by kernel_rfl, RG.cert_idx rfl 87 12 10 rfl (.v (.pointer (some ⟨kt, (o + 0), none⟩))) (.int .i8 (k : Int)) (RG.sx fun _ => by kernel_rfl) (RG.sx fun _ => by kernel_rfl) (fun μ w => at136b _ _ k hq w), RG.cert_loadB rfl kt ((o + 0) + 12 * k) hk List.not_mem_nil 86 13 rfl (tw s) rfl (RG.sx fun _ => by kernel_rfl) hr u117 i117, RG.cl (hs2) fun _ _ => by kernel_rfl, RG.pt i117 (by kernel_rfl), trivial⟩ ?_
  intro a3 w3 M3
  have hS3 : RG.St w w.heap.size [] [(tw s2)] [j1] _ := M3.st
  have sl3 := M3.sl
  have f4_3 : a3.tmps[4]? = some (.pointer (some ⟨j1, 0, none⟩)) := M3.at (s := (.p 0 0)) (by kernel_rfl)
  refine wp_ret ?_
  refine bodyPost_ret (v := tv s2) (RG.results_row hS3 4 86 rfl 0 _ rfl f4_3 u117 i117) sl3.defers ?_
  exact ⟨_, rfl, hS3.bel.below, by rw [hs2e]⟩
set_option maxHeartbeats 2000000 in
set_option maxRecDepth 100000 in
theorem times_p (F : Fld P) (kt o k : Nat) (hq : k < 8) (s : T3 P) (w : World) (hk : kt < w.heap.size) (hr : w.rangeAt kt (o + 0 + 12 * k) (tw s)) : Calls Tryz.prog 46 #[(.pointer (some ⟨kt, o, none⟩)), (.int .i8 (2 * (k : Int) + 1))] w (Ret fun e w' => Below w.heap.size w w' ∧ e = tv s) := by
  obtain ⟨s2, hs2e⟩ : ∃ s2, opJ s = s2 := ⟨_, rfl⟩
  have hs2 : Gives 80 #[tv s] (tv s2) := hs2e ▸ opJ_c F s
  have hlss : ∀ w, (binOp .lss 88 (.int .i8 (2 * (k : Int) + 1)) (.int .i8 0)).run Tryz.prog w = .ok (.bool false) w := fun w => by
    have h1 : ¬ 2 * (k : Int) + 1 < 0 := by omega
    go_simp
    try omega
  have hneg : ∀ w, (Op.unary .neg (.int .i8 (-(2 * (k : Int) + 1)))).run Tryz.prog w = .ok (.int .i8 (2 * (k : Int) + 1)) w := fun w => by
    rw [i8neg _ (by omega), Int.neg_neg]
  go_enter Tryz.func46, Tryz.ntmps46
  refine RG.var2 (v0 := (.pointer (some ⟨kt, o, none⟩))) (v1 := (.int .i8 (2 * (k : Int) + 1))) (n := 23) (by kernel_rfl) (by kernel_rfl) (by kernel_rfl) (by kernel_rfl) ?_
  intro a0 sl0 f0 f1
  have hS0 := RG.St.begin w
  have M0 : RG.M w w.heap.size [] 23 [] [] [(0, (.v (.pointer (some ⟨kt, o, none⟩)))), (1, (.v (.int .i8 (2 * (k : Int) + 1))))] a0 _ := ⟨hS0, sl0, ⟨f0, f1, trivial⟩⟩
  repeat refine wp_seq ?_
  refine M0.tx F108p_0 [(0, (RG.z 12))] [] [(RG.z 12)] [(0, (.v (.pointer (some ⟨kt, o, none⟩)))), (1, (.v (.int .i8 (2 * (k : Int) + 1)))), (4, (.p 0 0))] (by kernel_rfl) (by kernel_rfl) ⟨RG.mk 0 86 fun _ _ => by kernel_rfl, trivial⟩ ?_
  intro j1 a1 w1 M1
  repeat refine wp_seq ?_
  refine M1.tx0 (F108p_1 k) [(0, (.v (.pointer (some ⟨kt, o, none⟩)))), (1, (.v (.int .i8 (2 * (k : Int) + 1)))), (4, (.p 0 0)), (6, (.v (.bool false)))] (by kernel_rfl) ⟨RG.st fun _ _ => by kernel_rfl, RG.cert_binc rfl .lss 88 88 5 (.int .i8 (2 * (k : Int) + 1)) (.int .i8 0) (.bool false) rfl rfl (RG.sx fun _ => by kernel_rfl) (fun w => by kernel_rfl) (hlss), trivial⟩ ?_
  intro a2 w2 M2
  repeat refine wp_seq ?_
  refine wp_cond_false (M2.ev (by kernel_rfl)) ?_
  refine wp_skip ?_
  repeat refine wp_seq ?_
  refine M2.tx (F108p_3 kt o k s) [] [(0, 7, (tw s))] [(tw s)] [(4, (.p 0 0))] (by kernel_rfl) (by kernel_rfl) ⟨RG.st fun _ _ => by kernel_rfl, RG.st fun _ _ => by kernel_rfl, RG.cert_binc rfl .quo 88 88 17 (.int .i8 (2 * (k : Int) + 1)) (.int .i8 2) (.int .i8 (k : Int)) rfl rfl (RG.sx fun _ => by kernel_rfl) (fun w => by kernel_rfl) (i8quo k hq), RG.st fun _ _ => by kernel_rfl, RG.st fun _ _ => by kernel_rfl, RG.cert_idx rfl 87 20 18 rfl (.v (.pointer (some ⟨kt, (o + 0), none⟩))) (.int .i8 (k : Int)) (RG.sx fun _ => by kernel_rfl) (RG.sx fun _ => by kernel_rfl) (fun μ w => at136b _ _ k hq w), RG.cert_loadB rfl kt ((o + 0) + 12 * k) hk List.not_mem_nil 86 21 rfl (tw s) rfl (RG.sx fun _ => by kernel_rfl) hr u117 i117, RG.pt i117 (by kernel_rfl), trivial⟩ ?_
  intro a3 w3 M3
  have hS3 : RG.St w w.heap.size [] [(tw s)] [j1] _ := M3.st
  have sl3 := M3.sl
  have f4_3 : a3.tmps[4]? = some (.pointer (some ⟨j1, 0, none⟩)) := M3.at (s := (.p 0 0)) (by kernel_rfl)
  refine wp_ret ?_
  refine bodyPost_ret (v := tv s) (RG.results_row hS3 4 86 rfl 0 _ rfl f4_3 u117 i117) sl3.defers ?_
  exact ⟨_, rfl, hS3.bel.below, rfl⟩
end Go.Proofs.YticolhhalbbogacGreat
namespace Go.Proofs.YticolhhalbbogacGreat
open Go.RowKit Go.Sort
variable {P : Nat} [NeZero P]
/-- A term times a digit. -/
def tmJ (x y : Fin P) (d : Int) : T3 P := if d < 0 then opJ (od x y ((-d).toNat / 2)) else od x y (d.toNat / 2)
theorem tmJ_J (C : Fld P) {x y : Fin P} {p : EC.Pt P} (h : EC.Pair x y p) (hp : EC.On p) {d : Int} (hd : d % 2 = 1) : JacT (tmJ x y d) (EC.zmul d p) := by
  unfold tmJ
  by_cases hn : d < 0
  · rw [if_pos hn]
    have h1 := (od_J C h hp ((-d).toNat / 2)).neg
    rw [← EC.zmul_neg C.cur hp] at h1
    rw [show -((2 * ((-d).toNat / 2) + 1 : Nat) : Int) = d by omega] at h1
    exact h1
  · rw [if_neg hn]
    have h1 := od_J C h hp (d.toNat / 2)
    rw [show ((2 * (d.toNat / 2) + 1 : Nat) : Int) = d by omega] at h1
    exact h1
/-- What a place adds, of i terms. -/
def inn (ns : Nat → Nat) (xs ys : Nat → Fin P) (st : T3 P) (place : Nat) : Nat → T3 P
  | 0 => st
  | i + 1 => if digs (ns i) place = 0 then inn ns xs ys st place i else plJ (inn ns xs ys st place i) (tmJ (xs i) (ys i) (digs (ns i) place))
/-- The sum behind m places. -/
def sumJ (ns : Nat → Nat) (xs ys : Nat → Fin P) (N : Nat) : Nat → T3 P
  | 0 => (0, 0, 0)
  | m + 1 => inn ns xs ys (twJ (sumJ ns xs ys N m)) (256 - m) N
theorem inn_J (C : Fld P) {ns : Nat → Nat} {xs ys : Nat → Fin P} {p : Nat → EC.Pt P} {N : Nat} (hns : ∀ i, i < N → ns i < 2 ^ 256) (hp : ∀ i, i < N → EC.Pair (xs i) (ys i) (p i)) (ho : ∀ i, i < N → EC.On (p i)) {st : T3 P} {g : Nat → Int} {place : Nat}
    (h : JacT st (EC.tot p N g)) : ∀ i, i ≤ N → JacT (inn ns xs ys st place i) (EC.tot p N (fun j => if j < i then g j + digs (ns j) place else g j))
  | 0, _ => by
    have : EC.tot p N (fun j => if j < 0 then g j + digs (ns j) place else g j) = EC.tot p N g := EC.tot_congr N fun j _ => if_neg (by omega)
    rw [this]
    exact h
  | i + 1, hi => by
    have ih := inn_J C hns hp ho (place := place) h i (by omega)
    have e : EC.tot p N (fun j => if j < i + 1 then g j + digs (ns j) place else g j) = EC.add (EC.tot p N (fun j => if j < i then g j + digs (ns j) place else g j)) (EC.zmul (digs (ns i) place) (p i)) := by
      rw [← EC.tot_upd C.cur _ i (digs (ns i) place) N (by omega) ho]
      refine EC.tot_congr N fun j _ => ?_
      by_cases h1 : j = i
      · subst h1
        rw [if_pos (by omega), if_pos rfl, if_neg (by omega)]
      · rw [if_neg h1]
        by_cases h2 : j < i
        · rw [if_pos (by omega), if_pos h2]
        · rw [if_neg (by omega), if_neg h2]
    rw [e]
    unfold inn
    by_cases hz : digs (ns i) place = 0
    · rw [if_pos hz, hz, EC.zmul_zero, EC.add_none]
      exact ih
    · rw [if_neg hz]
      obtain ⟨q, c, -, hD⟩ := digs_DI (hns i (by omega))
      rcases hD.ho place with h1 | h1
      · exact absurd h1 hz
      · exact ih.plus C (tmJ_J C (hp i (by omega)) (ho i (by omega)) h1.1)
theorem sumJ_J (C : Fld P) {ns : Nat → Nat} {xs ys : Nat → Fin P} {p : Nat → EC.Pt P} {N : Nat} (hns : ∀ i, i < N → ns i < 2 ^ 256) (hp : ∀ i, i < N → EC.Pair (xs i) (ys i) (p i)) (ho : ∀ i, i < N → EC.On (p i)) :
    ∀ m, m ≤ 257 → JacT (sumJ ns xs ys N m) (EC.tot p N (fun j => DG.hor (digs (ns j)) m))
  | 0, _ => by
    rw [show EC.tot p N (fun j => DG.hor (digs (ns j)) 0) = .none from EC.tot_zero p N (fun _ _ => rfl)]
    exact JacT.none
  | m + 1, hm => by
    have ih := (sumJ_J C hns hp ho m (by omega)).twice C
    rw [← EC.tot_twice C.cur _ N ho] at ih
    have h1 := inn_J C hns hp ho (place := 256 - m) ih N (Nat.le_refl _)
    have e : EC.tot p N (fun j => DG.hor (digs (ns j)) (m + 1)) = EC.tot p N (fun j => if j < N then 2 * DG.hor (digs (ns j)) m + digs (ns j) (256 - m) else 2 * DG.hor (digs (ns j)) m) :=
      EC.tot_congr N fun j hj => by rw [if_pos hj]; rfl
    rw [e]
    exact h1
theorem sumJ_all (C : Fld P) {ns : Nat → Nat} {xs ys : Nat → Fin P} {p : Nat → EC.Pt P} {N : Nat} (hns : ∀ i, i < N → ns i < 2 ^ 256) (hp : ∀ i, i < N → EC.Pair (xs i) (ys i) (p i)) (ho : ∀ i, i < N → EC.On (p i)) :
    JacT (sumJ ns xs ys N 257) (EC.tot p N (fun j => (ns j : Int))) := by
  have h := sumJ_J C hns hp ho 257 (Nat.le_refl _)
  have e : EC.tot p N (fun j => (ns j : Int)) = EC.tot p N (fun j => DG.hor (digs (ns j)) 257) := EC.tot_congr N fun j hj => by
    obtain ⟨q, c, hq, hD⟩ := digs_DI (hns j hj)
    exact (DG.hor_all hD hq).symm
  rw [e]
  exact h
/-- The block of terms, i of them filled. -/
def cc (ns : Nat → Nat) (xs ys : Nat → Fin P) (C0 : List Value) : Nat → List Value
  | 0 => C0
  | i + 1 => fc (xs i) (ys i) (digs (ns i)) (cc ns xs ys C0 i) (353 * i) 8
theorem cc_at {ns : Nat → Nat} {xs ys : Nat → Fin P} {C0 : List Value} {N : Nat} (hl : C0.length = 353 * N) : ∀ i, i ≤ N → (cc ns xs ys C0 i).length = 353 * N ∧
    ∀ j, j < i → (∀ q, q < 257 → (cc ns xs ys C0 i)[353 * j + 96 + q]? = some (.int .i8 (digs (ns j) q))) ∧ ∀ q r, q < 8 → r < 12 → (cc ns xs ys C0 i)[353 * j + 12 * q + r]? = (tw (od (xs j) (ys j) q))[r]?
  | 0, _ => ⟨hl, fun j hj => by omega⟩
  | i + 1, hi => by
    obtain ⟨h1, h2⟩ := cc_at hl i (by omega)
    have hF := fc_Fi (x := xs i) (y := ys i) (D := digs (ns i)) (C0 := cc ns xs ys C0 i) (off := 353 * i) (by rw [h1]; omega) 8 (Nat.le_refl _)
    refine ⟨by rw [← h1]; exact hF.len, fun j hj => ?_⟩
    by_cases hji : j = i
    · subst hji
      exact ⟨hF.dig, fun q r hq hr => hF.odd q r hq hr⟩
    · obtain ⟨g1, g2⟩ := h2 j (by omega)
      exact ⟨fun q hq => (hF.out _ (by omega)).trans (g1 q hq), fun q r hq hr => (hF.out _ (by omega)).trans (g2 q r hq hr)⟩
theorem mk135 (N : Nat) (hN : N ≤ 512) : ∃ C0 : List Value, C0.length = 353 * N ∧ ∀ w : World, (Instr.makeSlice 83 (.int .i64 (N : Int)) (.int .i64 (N : Int))).run Tryz.prog w = .ok (.slice (some ⟨w.heap.size, 0, none⟩) N N) (w.alloc (.cells C0.toArray 91)) := by
  have hu : Tryz.prog.underlying 83 = some (.slice 91) := by kernel_rfl
  have hi : (Tryz.prog.info? 91).map (fun i => (i.size, decide (i.bytes ≤ 4000), i.zero.isSome)) = some (353, true, true) := by kernel_rfl
  obtain ⟨i, hi1, hi2⟩ := Option.map_eq_some_iff.1 hi
  simp only [Prod.mk.injEq, decide_eq_true_eq] at hi2
  obtain ⟨h1, h2, h3⟩ := hi2
  obtain ⟨z, hz⟩ := Option.isSome_iff_exists.1 h3
  refine ⟨(madeCells z.cells (N * 353)).toList, by rw [Array.length_toList, size_madeCells, Nat.mul_comm], fun w => ?_⟩
  have hb : (i.bytes : Int) * (N : Int) ≤ 281474976710656 := by
    have : i.bytes * N ≤ 4000 * 512 := Nat.mul_le_mul h2 hN
    have h5 : ((i.bytes * N : Nat) : Int) ≤ 281474976710656 := by omega
    rwa [Int.natCast_mul] at h5
  have := run_make (P := Tryz.prog) w 83 91 i z hu hi1 hz .i64 .i64 (N : Int) (N : Int) (by omega) (by omega) hb (by omega)
  rw [Int.toNat_natCast, h1] at this
  rw [Array.toArray_toList]
  exact this
/-- Fill, as a call that writes into a block. -/
theorem fill_put (F : Fld P) {n : Nat} (hn : n < top) (x y : Fin P) (C0 : List Value) (kt off : Nat) (hoff : off + 353 ≤ C0.length) (w : World) (ht : w.there kt 0 C0.length) (hr : w.rangeAt kt 0 C0) :
    Calls Tryz.prog 43 #[.pointer (some ⟨kt, off, none⟩), nv n, pv x y] w (Ret fun r w' => RG.PutTo kt C0.length (fc x y (digs n) C0 off 8) w w' ∧ r = .tuple #[]) := by
  have hk : kt < w.heap.size := by
    have h1 := (ht 0 (by omega)).1
    exact Classical.byContradiction fun hn => by
      have h2 : w.heap[kt]? = none := Array.getElem?_eq_none (by omega)
      simp [World.cell?, h2] at h1
  refine (fill_c F hn x y C0 kt off hoff w hk ht hr).mono ?_
  rintro e w' ⟨v, rfl, ⟨C, hF, hP⟩, rfl⟩
  refine ⟨_, rfl, ?_, rfl⟩
  rw [(fc_Fi hoff 8 (Nat.le_refl _)).uniq hF]
  exact hP
/-- Times, at a digit. -/
theorem times_d (F : Fld P) (kt o : Nat) (x y : Fin P) {d : Int} (hd : d % 2 = 1) (hd2 : -15 ≤ d ∧ d ≤ 15) (w : World) (hk : kt < w.heap.size) (hr : ∀ q, q < 8 → w.rangeAt kt (o + 0 + 12 * q) (tw (od x y q))) :
    Calls Tryz.prog 46 #[.pointer (some ⟨kt, o, none⟩), .int .i8 d] w (Ret fun e w' => Below w.heap.size w w' ∧ e = tv (tmJ x y d)) := by
  unfold tmJ
  by_cases hn : d < 0
  · rw [if_pos hn]
    have h1 := times_n F kt o ((-d).toNat / 2) (by omega) (od x y ((-d).toNat / 2)) w hk (hr _ (by omega))
    rw [show -(2 * (((-d).toNat / 2 : Nat) : Int) + 1) = d by omega] at h1
    exact h1
  · rw [if_neg hn]
    have h1 := times_p F kt o (d.toNat / 2) (by omega) (od x y (d.toNat / 2)) w hk (hr _ (by omega))
    rw [show 2 * ((d.toNat / 2 : Nat) : Int) + 1 = d by omega] at h1
    exact h1
end Go.Proofs.YticolhhalbbogacGreat
namespace Go.Proofs.YticolhhalbbogacGreat
open Go.RowKit Go.Sort
variable {P : Nat} [NeZero P]
theorem al117 {P : Nat} [NeZero P] (w : World) : (Instr.alloc 86 true (.tuple #[])).run Tryz.prog w = .ok (.pointer (some ⟨w.heap.size, 0, none⟩)) (w.alloc (.cells (tw ((0, 0, 0) : T3 P)).toArray 86)) := by
  show _ = Result.ok _ (w.alloc (.cells (ws (0 : Fin P) ++ (ws (0 : Fin P) ++ ws (0 : Fin P))).toArray 86))
  rw [← ws_zero]
  kernel_rfl
theorem ne8_f (w : World) : (binOp .neq 88 (.int .i8 0) (.int .i8 0)).run Tryz.prog w = .ok (.bool false) w := by kernel_rfl
theorem ne8_t {d : Int} (h : ¬ d = 0) (w : World) : (binOp .neq 88 (.int .i8 d) (.int .i8 0)).run Tryz.prog w = .ok (.bool true) w := by
  go_simp
theorem sub1' (q : Nat) (hq : q < 1000) (w : World) : (binOp .sub 3 (.int .i64 (q : Int)) (.int .i64 1)).run Tryz.prog w = .ok (.int .i64 ((q : Int) - 1)) w := sub64i _ _ (by omega) (by omega) w
theorem geq0' (i : Nat) (w : World) : (binOp .geq 3 (.int .i64 (i : Int)) (.int .i64 0)).run Tryz.prog w = .ok (.bool true) w := by
  go_simp
def F82a_0 : List RG.It := [.m 4 [] 0]
def F82a_1 (N kn : Nat) (s : T3 P) : List RG.It := [.x 11 [] (.slice (some ⟨kn, 0, none⟩) N N), .x 12 [(11, 0)] (.int .i64 (N : Int)), ⟨some 13, [(12, 1)], (.s 1 N N), .make 1⟩, .s 5 [(13, 2)] (.s 1 N N)]
def F82a_2 (N : Nat) (s : T3 P) : List RG.It := [.s 14 [] (.s 1 N N), .x 15 [(14, 0)] (.int .i64 (N : Int)), .x 16 [] (.int .i64 0)]
def F82b_3 : List RG.It := [.x 17 [] (.bool true)]
def F82b_4 (i : Nat) : List RG.It := [.x 18 [] (.int .i64 (i : Int)), .x 6 [(18, 0)] (.int .i64 (i : Int))]
def F82b_5 (N kn ka i : Nat) (ns : Nat → Nat) (xs ys : Nat → Fin P) (s : T3 P) : List RG.It := [.s 19 [] (.s 1 N N), .x 20 [] (.int .i64 (i : Int)), .s 21 [(19, 0), (20, 1)] (.p 1 (353 * i)), .x 22 [] (.slice (some ⟨kn, 0, none⟩) N N), .x 23 [] (.int .i64 (i : Int)), .x 24 [(22, 3), (23, 4)] (.pointer (some ⟨kn, (0 + 4 * i), none⟩)), .x 25 [(24, 5)] (nv (ns i)), .x 26 [] (.slice (some ⟨ka, 0, none⟩) N N), .x 27 [] (.int .i64 (i : Int)), .x 28 [(26, 7), (27, 8)] (.pointer (some ⟨ka, (0 + 8 * i), none⟩)), .x 29 [(28, 9)] (pv (xs i) (ys i)), ⟨some 30, [(21, 2), (25, 6), (29, 10)], (.v (.tuple #[])), .put 1⟩]
def F82b_6 (i : Nat) : List RG.It := [.x 31 [] (.int .i64 ((i + 1 : Nat) : Int)), .x 16 [(31, 0)] (.int .i64 ((i + 1 : Nat) : Int))]
def F82c_3 : List RG.It := [.x 17 [] (.bool false)]
def F82c_7 : List RG.It := [.m 7 [] 2]
def F82c_8 : List RG.It := [.x 8 [] (.int .i64 256)]
def F82d_9 (q : Nat) : List RG.It := [.x 32 [] (.int .i64 (q : Int)), .x 33 [(32, 0)] (.bool true)]
def F82d_11 (s s2 : T3 P) : List RG.It := [.x 36 [] (tv s), .c 37 [(36, 0)] (tv s2), .u [(37, 1)] 2]
def F82d_12 (N : Nat) (s : T3 P) : List RG.It := [.s 38 [] (.s 1 N N), .x 39 [(38, 0)] (.int .i64 (N : Int)), .x 40 [] (.int .i64 0)]
def F82e_9 : List RG.It := [.x 32 [] (.int .i64 (-1)), .x 33 [(32, 0)] (.bool false)]
def F82e_19 (s : T3 P) : List RG.It := [.x 60 [] (tv s), .c 61 [(60, 0)] (pv (s.1 * (EC.inv s.2.2 * EC.inv s.2.2)) (s.2.1 * (EC.inv s.2.2 * EC.inv s.2.2) * EC.inv s.2.2)), .u [(61, 1)] 0]
def F82f_13 : List RG.It := [.x 41 [] (.bool true)]
def F82f_14 (i : Nat) : List RG.It := [.x 42 [] (.int .i64 (i : Int)), .x 9 [(42, 0)] (.int .i64 (i : Int))]
def F82f_15 (N i q : Nat) (s : T3 P) : List RG.It := [.s 43 [] (.s 1 N N), .x 44 [] (.int .i64 (i : Int)), .x 45 [] (.int .i64 (q : Int)), .s 46 [(43, 0), (44, 1)] (.p 1 (353 * i)), .s 47 [(46, 3)] (.p 1 ((353 * i) + 96)), .s 48 [(47, 4), (45, 2)] (.p 1 (((353 * i) + 96) + q)), .x 49 [(48, 5)] (.int .i8 0), .x 10 [(49, 6)] (.int .i8 0)]
def F82f_16 : List RG.It := [.x 50 [] (.int .i8 0), .x 51 [(50, 0)] (.bool false)]
def F82f_18 (i : Nat) : List RG.It := [.x 59 [] (.int .i64 ((i + 1 : Nat) : Int)), .x 40 [(59, 0)] (.int .i64 ((i + 1 : Nat) : Int))]
def F82g_13 : List RG.It := [.x 41 [] (.bool true)]
def F82g_14 (i : Nat) : List RG.It := [.x 42 [] (.int .i64 (i : Int)), .x 9 [(42, 0)] (.int .i64 (i : Int))]
def F82g_15 (N i q : Nat) (d : Int) (s : T3 P) : List RG.It := [.s 43 [] (.s 1 N N), .x 44 [] (.int .i64 (i : Int)), .x 45 [] (.int .i64 (q : Int)), .s 46 [(43, 0), (44, 1)] (.p 1 (353 * i)), .s 47 [(46, 3)] (.p 1 ((353 * i) + 96)), .s 48 [(47, 4), (45, 2)] (.p 1 (((353 * i) + 96) + q)), .x 49 [(48, 5)] (.int .i8 d), .x 10 [(49, 6)] (.int .i8 d)]
def F82g_16 (d : Int) : List RG.It := [.x 50 [] (.int .i8 d), .x 51 [(50, 0)] (.bool true)]
def F82g_17 (N i : Nat) (d : Int) (s s3 s4 : T3 P) : List RG.It := [.x 52 [] (tv s), .s 53 [] (.s 1 N N), .x 54 [] (.int .i64 (i : Int)), .s 55 [(53, 1), (54, 2)] (.p 1 (353 * i)), .x 56 [] (.int .i8 d), .c 57 [(55, 3), (56, 4)] (tv s3), .c 58 [(52, 0), (57, 5)] (tv s4), .u [(58, 6)] 2]
def F82g_18 (i : Nat) : List RG.It := [.x 59 [] (.int .i64 ((i + 1 : Nat) : Int)), .x 40 [(59, 0)] (.int .i64 ((i + 1 : Nat) : Int))]
def F82h_13 : List RG.It := [.x 41 [] (.bool false)]
def F82h_10 (q : Nat) : List RG.It := [.x 34 [] (.int .i64 (q : Int)), .x 35 [(34, 0)] (.int .i64 ((q : Int) - 1)), .x 8 [(35, 1)] (.int .i64 ((q : Int) - 1))]
set_option maxHeartbeats 4000000 in
set_option maxRecDepth 100000 in
theorem sums_c (F : Fld P) (N : Nat) (hN : N ≤ 512) (ns : Nat → Nat) (xs ys : Nat → Fin P) (hns : ∀ i, i < N → ns i < top) (kn ka : Nat) (w : World) (hkn : kn < w.heap.size) (hka : ka < w.heap.size)
    (hn : ∀ i, i < N → w.rangeAt kn (4 * i) (wn (ns i))) (ha : ∀ i, i < N → w.rangeAt ka (8 * i) (ws (xs i) ++ ws (ys i))) :
    Calls Tryz.prog 21 #[(.slice (some ⟨kn, 0, none⟩) N N), (.slice (some ⟨ka, 0, none⟩) N N)] w (Ret fun e w' => Below w.heap.size w w' ∧ ∃ s, s = sumJ ns xs ys N 257 ∧ e = pv (s.1 * (EC.inv s.2.2 * EC.inv s.2.2)) (s.2.1 * (EC.inv s.2.2 * EC.inv s.2.2) * EC.inv s.2.2)) := by
  obtain ⟨C, hCl, hmk⟩ := mk135 N hN
  have hstepC : ∀ (i : Nat) (c2 : List Value), fc (xs i) (ys i) (digs (ns i)) (cc ns xs ys C i) (353 * i) 8 = c2 → cc ns xs ys C (i + 1) = c2 := fun i c2 h => h
  obtain ⟨i, -⟩ : ∃ i : Nat, i = 0 := ⟨_, rfl⟩
  obtain ⟨q, -⟩ : ∃ i : Nat, i = 0 := ⟨_, rfl⟩
  obtain ⟨d, -⟩ : ∃ i : Int, i = 0 := ⟨_, rfl⟩
  obtain ⟨C2, -⟩ : ∃ c : List Value, c = C := ⟨_, rfl⟩
  obtain ⟨s, -⟩ : ∃ s : T3 P, s = (0, 0, 0) := ⟨_, rfl⟩
  obtain ⟨s2, -⟩ : ∃ s : T3 P, s = (0, 0, 0) := ⟨_, rfl⟩
  obtain ⟨s3, -⟩ : ∃ s : T3 P, s = (0, 0, 0) := ⟨_, rfl⟩
  obtain ⟨s4, -⟩ : ∃ s : T3 P, s = (0, 0, 0) := ⟨_, rfl⟩
  go_enter Tryz.func21, Tryz.ntmps21
  refine RG.var2 (v0 := (.slice (some ⟨kn, 0, none⟩) N N)) (v1 := (.slice (some ⟨ka, 0, none⟩) N N)) (n := 62) (by kernel_rfl) (by kernel_rfl) (by kernel_rfl) (by kernel_rfl) ?_
  intro a0 sl0 f0 f1
  have hS0 := RG.St.begin w
  have M0 : RG.M w w.heap.size [] 62 [] [] [(0, (.v (.slice (some ⟨kn, 0, none⟩) N N))), (1, (.v (.slice (some ⟨ka, 0, none⟩) N N)))] a0 _ := ⟨hS0, sl0, ⟨f0, f1, trivial⟩⟩
  repeat refine wp_seq ?_
  refine M0.tx F82a_0 [(0, (RG.z 8))] [] [(RG.z 8)] [(0, (.v (.slice (some ⟨kn, 0, none⟩) N N))), (1, (.v (.slice (some ⟨ka, 0, none⟩) N N))), (4, (.p 0 0))] (by kernel_rfl) (by kernel_rfl) ⟨RG.mk 0 48 fun _ _ => by kernel_rfl, trivial⟩ ?_
  intro j1 a1 w1 M1
  repeat refine wp_seq ?_
  refine M1.tx (F82a_1 N kn s) [(2, C)] [] [(RG.z 8), C] [(0, (.v (.slice (some ⟨kn, 0, none⟩) N N))), (1, (.v (.slice (some ⟨ka, 0, none⟩) N N))), (4, (.p 0 0)), (5, (.s 1 N N))] (by kernel_rfl) (by kernel_rfl) ⟨RG.st fun _ _ => by kernel_rfl, RG.cert_one rfl 11 (.v (.slice (some ⟨kn, 0, none⟩) N N)) (.int .i64 (N : Int)) rfl (RG.sx fun _ => by kernel_rfl) (fun a w => by kernel_rfl) (fun μ w => by kernel_rfl), RG.cert_makes 1 rfl _ rfl 83 91 12 12 N rfl rfl (RG.sx fun _ => by kernel_rfl) (RG.sx fun _ => by kernel_rfl) (hmk), RG.st fun _ _ => by kernel_rfl, trivial⟩ ?_
  intro j2 a2 w2 M2
  repeat refine wp_seq ?_
  refine M2.tx0 (F82a_2 N s) [(0, (.v (.slice (some ⟨kn, 0, none⟩) N N))), (1, (.v (.slice (some ⟨ka, 0, none⟩) N N))), (4, (.p 0 0)), (5, (.s 1 N N)), (15, (.v (.int .i64 (N : Int)))), (16, (.v (.int .i64 0)))] (by kernel_rfl) ⟨RG.st fun _ _ => by kernel_rfl, RG.cert_one rfl 14 (.s 1 N N) (.int .i64 (N : Int)) rfl (RG.sx fun _ => by kernel_rfl) (fun a w => by kernel_rfl) (fun μ w => by kernel_rfl), RG.st fun _ _ => by kernel_rfl, trivial⟩ ?_
  intro a3 w3 M3
  have hS3 : RG.St w w.heap.size [] [(RG.z 8), C] [j1, j2] _ := M3.st
  have sl3 := M3.sl
  have f0_3 : a3.tmps[0]? = some (.slice (some ⟨kn, 0, none⟩) N N) := M3.at (s := (.v (.slice (some ⟨kn, 0, none⟩) N N))) (by kernel_rfl)
  have f1_3 : a3.tmps[1]? = some (.slice (some ⟨ka, 0, none⟩) N N) := M3.at (s := (.v (.slice (some ⟨ka, 0, none⟩) N N))) (by kernel_rfl)
  have f4_3 : a3.tmps[4]? = some (.pointer (some ⟨j1, 0, none⟩)) := M3.at (s := (.p 0 0)) (by kernel_rfl)
  have f5_3 : a3.tmps[5]? = some (.slice (some ⟨j2, 0, none⟩) N N) := M3.at (s := (.s 1 N N)) (by kernel_rfl)
  have f15_3 : a3.tmps[15]? = some (.int .i64 (N : Int)) := M3.at (s := (.v (.int .i64 (N : Int)))) (by kernel_rfl)
  have f16_3 : a3.tmps[16]? = some (.int .i64 0) := M3.at (s := (.v (.int .i64 0))) (by kernel_rfl)
  repeat refine wp_seq ?_
  refine wp_block ?_
  refine wp_loop_ghost (fun m a wr => ∃ i, i + m = N ∧ RG.Sl a 62 ∧ a.tmps[0]? = some (.slice (some ⟨kn, 0, none⟩) N N) ∧ a.tmps[1]? = some (.slice (some ⟨ka, 0, none⟩) N N) ∧ a.tmps[4]? = some (.pointer (some ⟨j1, 0, none⟩)) ∧ a.tmps[5]? = some (.slice (some ⟨j2, 0, none⟩) N N) ∧ a.tmps[15]? = some (.int .i64 (N : Int)) ∧ a.tmps[16]? = some (.int .i64 (i : Int)) ∧ RG.St w w.heap.size [] [[.int .u64 0, .int .u64 0, .int .u64 0, .int .u64 0, .int .u64 0, .int .u64 0, .int .u64 0, .int .u64 0], cc ns xs ys C i] [j1, j2] wr) N ⟨0, by omega, sl3, f0_3, f1_3, f4_3, f5_3, f15_3, f16_3, hS3⟩ ?_
  intro m a wr
  rintro ⟨i, him, sl, p0, p1, p4, p5, p15, p16, hSp⟩
  generalize j1 = kr at p4 hSp
  generalize j2 = kt at p5 hSp
  obtain ⟨C, hCe⟩ : ∃ c, cc ns xs ys C i = c := ⟨_, rfl⟩
  have hcc := cc_at (ns := ns) (xs := xs) (ys := ys) hCl i (by omega)
  rw [hCe] at hSp hcc
  by_cases hi : i < N
  · obtain ⟨C2, hC2e⟩ : ∃ c, fc (xs i) (ys i) (digs (ns i)) C (353 * i) 8 = c := ⟨_, rfl⟩
    have hoff : 353 * i + 353 ≤ C.length := by rw [hcc.1]; omega
    have hcl : C2.length = C.length := hC2e ▸ (fc_Fi hoff 8 (Nat.le_refl _)).len
    have hfill : ∀ (k : Nat) (w : World), w.there k 0 C.length → w.rangeAt k 0 C → Calls Tryz.prog 43 #[.pointer (some ⟨k, 353 * i, none⟩), nv (ns i), pv (xs i) (ys i)] w (Ret fun r w' => RG.PutTo k C.length C2 w w' ∧ r = .tuple #[]) := fun k w ht hr => hC2e ▸ fill_put F (hns i hi) (xs i) (ys i) C k (353 * i) hoff w ht hr
    have hrn : w.rangeAt kn (0 + 4 * i) (wn (ns i)) := by rw [Nat.zero_add]; exact hn i hi
    have hra : w.rangeAt ka (0 + 8 * i) (ws (xs i) ++ ws (ys i)) := by rw [Nat.zero_add]; exact ha i hi
    have M10 : RG.M w w.heap.size [] 62 [(RG.z 8), C] [kr, kt] [(0, (.v (.slice (some ⟨kn, 0, none⟩) N N))), (1, (.v (.slice (some ⟨ka, 0, none⟩) N N))), (4, (.p 0 0)), (5, (.s 1 N N)), (15, (.v (.int .i64 (N : Int)))), (16, (.v (.int .i64 (i : Int))))] a _ := ⟨hSp, sl, ⟨p0, p1, p4, p5, p15, p16, trivial⟩⟩
    repeat refine wp_seq ?_
    refine M10.tx0 F82b_3 [(0, (.v (.slice (some ⟨kn, 0, none⟩) N N))), (1, (.v (.slice (some ⟨ka, 0, none⟩) N N))), (4, (.p 0 0)), (5, (.s 1 N N)), (15, (.v (.int .i64 (N : Int)))), (16, (.v (.int .i64 (i : Int)))), (17, (.v (.bool true)))] (by kernel_rfl) ⟨RG.cert_bin rfl .lss 3 3 16 15 (.int .i64 (i : Int)) (.int .i64 (N : Int)) (.bool true) rfl rfl (RG.sx fun _ => by kernel_rfl) (RG.sx fun _ => by kernel_rfl) (fun w => by kernel_rfl) (lssn_t hi), trivial⟩ ?_
    intro a11 w11 M11
    repeat refine wp_seq ?_
    refine wp_cond_true (M11.ev (by kernel_rfl)) ?_
    refine wp_skip ?_
    refine wp_seq ?_
    refine wp_block ?_
    repeat refine wp_seq ?_
    refine M11.tx0 (F82b_4 i) [(0, (.v (.slice (some ⟨kn, 0, none⟩) N N))), (1, (.v (.slice (some ⟨ka, 0, none⟩) N N))), (4, (.p 0 0)), (5, (.s 1 N N)), (6, (.v (.int .i64 (i : Int)))), (15, (.v (.int .i64 (N : Int)))), (16, (.v (.int .i64 (i : Int))))] (by kernel_rfl) ⟨RG.st fun _ _ => by kernel_rfl, RG.st fun _ _ => by kernel_rfl, trivial⟩ ?_
    intro a12 w12 M12
    repeat refine wp_seq ?_
    refine M12.dr (by kernel_rfl) (F82b_5 N kn ka i ns xs ys s) [] [(1, 11, C2)] [(RG.z 8), C2] [(0, (.v (.slice (some ⟨kn, 0, none⟩) N N))), (1, (.v (.slice (some ⟨ka, 0, none⟩) N N))), (4, (.p 0 0)), (5, (.s 1 N N)), (15, (.v (.int .i64 (N : Int)))), (16, (.v (.int .i64 (i : Int))))] (by kernel_rfl) (congrArg (fun n => [n]) hcl) ⟨RG.st fun _ _ => by kernel_rfl, RG.st fun _ _ => by kernel_rfl, RG.cert_idx rfl 83 19 20 rfl (.s 1 N N) (.int .i64 (i : Int)) (RG.sx fun _ => by kernel_rfl) (RG.sx fun _ => by kernel_rfl) (fun μ w => at135 _ _ _ i hi w), RG.st fun _ _ => by kernel_rfl, RG.st fun _ _ => by kernel_rfl, RG.cert_idx rfl 54 22 23 rfl (.v (.slice (some ⟨kn, 0, none⟩) N N)) (.int .i64 (i : Int)) (RG.sx fun _ => by kernel_rfl) (RG.sx fun _ => by kernel_rfl) (fun μ w => at82 _ _ _ _ i hi w), RG.cert_loadB rfl kn (0 + 4 * i) hkn List.not_mem_nil 46 24 rfl (wn (ns i)) rfl (RG.sx fun _ => by kernel_rfl) hrn u85 i85, RG.st fun _ _ => by kernel_rfl, RG.st fun _ _ => by kernel_rfl, RG.cert_idx rfl 58 26 27 rfl (.v (.slice (some ⟨ka, 0, none⟩) N N)) (.int .i64 (i : Int)) (RG.sx fun _ => by kernel_rfl) (RG.sx fun _ => by kernel_rfl) (fun μ w => at112 _ _ _ _ i hi w), RG.cert_loadB rfl ka (0 + 8 * i) hka List.not_mem_nil 48 28 rfl (ws (xs i) ++ ws (ys i)) rfl (RG.sx fun _ => by kernel_rfl) hra u109 i109, RG.cert_callput3 1 rfl _ rfl 43 21 25 29 (.p 1 (353 * i)) (nv (ns i)) (pv (xs i) (ys i)) (.tuple #[]) rfl (fun a w => by kernel_rfl) (RG.sx fun _ => by kernel_rfl) (RG.sx fun _ => by kernel_rfl) (RG.sx fun _ => by kernel_rfl) (fun μ w ht hr => hfill (μ 1) w ht hr), trivial⟩ ?_
    intro a13 w13 M13
    repeat refine wp_seq ?_
    refine M13.tx0 (F82b_6 i) [(0, (.v (.slice (some ⟨kn, 0, none⟩) N N))), (1, (.v (.slice (some ⟨ka, 0, none⟩) N N))), (4, (.p 0 0)), (5, (.s 1 N N)), (15, (.v (.int .i64 (N : Int)))), (16, (.v (.int .i64 ((i + 1 : Nat) : Int))))] (by kernel_rfl) ⟨RG.cert_binc rfl .add 3 3 16 (.int .i64 (i : Int)) (.int .i64 1) (.int .i64 ((i + 1 : Nat) : Int)) rfl rfl (RG.sx fun _ => by kernel_rfl) (fun w => by kernel_rfl) (addn i 1 (by omega) (by omega)), RG.st fun _ _ => by kernel_rfl, trivial⟩ ?_
    intro a14 w14 M14
    have hS14 : RG.St w w.heap.size [] [(RG.z 8), C2] [kr, kt] _ := M14.st
    have sl14 := M14.sl
    have f0_14 : a14.tmps[0]? = some (.slice (some ⟨kn, 0, none⟩) N N) := M14.at (s := (.v (.slice (some ⟨kn, 0, none⟩) N N))) (by kernel_rfl)
    have f1_14 : a14.tmps[1]? = some (.slice (some ⟨ka, 0, none⟩) N N) := M14.at (s := (.v (.slice (some ⟨ka, 0, none⟩) N N))) (by kernel_rfl)
    have f4_14 : a14.tmps[4]? = some (.pointer (some ⟨kr, 0, none⟩)) := M14.at (s := (.p 0 0)) (by kernel_rfl)
    have f5_14 : a14.tmps[5]? = some (.slice (some ⟨kt, 0, none⟩) N N) := M14.at (s := (.s 1 N N)) (by kernel_rfl)
    have f15_14 : a14.tmps[15]? = some (.int .i64 (N : Int)) := M14.at (s := (.v (.int .i64 (N : Int)))) (by kernel_rfl)
    have f16_14 : a14.tmps[16]? = some (.int .i64 ((i + 1 : Nat) : Int)) := M14.at (s := (.v (.int .i64 ((i + 1 : Nat) : Int)))) (by kernel_rfl)
    show ∃ n', _
    refine ⟨m - 1, by omega, i + 1, by omega, sl14, f0_14, f1_14, f4_14, f5_14, f15_14, f16_14, ?_⟩
    rw [hstepC i C2 (by rw [hCe]; exact hC2e)]
    exact hS14
  · have hiN : i = N := by omega
    rw [hiN] at hcc
    have hcN := hcc.2
    have M20 : RG.M w w.heap.size [] 62 [(RG.z 8), C] [kr, kt] [(0, (.v (.slice (some ⟨kn, 0, none⟩) N N))), (1, (.v (.slice (some ⟨ka, 0, none⟩) N N))), (4, (.p 0 0)), (5, (.s 1 N N)), (15, (.v (.int .i64 (N : Int)))), (16, (.v (.int .i64 (i : Int))))] a _ := ⟨hSp, sl, ⟨p0, p1, p4, p5, p15, p16, trivial⟩⟩
    repeat refine wp_seq ?_
    refine M20.tx0 F82c_3 [(4, (.p 0 0)), (5, (.s 1 N N)), (17, (.v (.bool false)))] (by kernel_rfl) ⟨RG.cert_bin rfl .lss 3 3 16 15 (.int .i64 (i : Int)) (.int .i64 (N : Int)) (.bool false) rfl rfl (RG.sx fun _ => by kernel_rfl) (RG.sx fun _ => by kernel_rfl) (fun w => by kernel_rfl) (lssn_f hi), trivial⟩ ?_
    intro a21 w21 M21
    repeat refine wp_seq ?_
    refine wp_cond_false (M21.ev (by kernel_rfl)) ?_
    refine wp_exit ?_
    dsimp only [Exit.then, Exit.inBlock]
    rw [if_pos rfl]
    repeat refine wp_seq ?_
    refine M21.tx F82c_7 [(0, (tw ((0, 0, 0) : T3 P)))] [] [(RG.z 8), C, (tw ((0, 0, 0) : T3 P))] [(4, (.p 0 0)), (5, (.s 1 N N)), (7, (.p 2 0))] (by kernel_rfl) (by kernel_rfl) ⟨RG.cert_alloc 2 rfl rfl _ rfl 86 rfl (al117), trivial⟩ ?_
    intro j22 a22 w22 M22
    repeat refine wp_seq ?_
    refine M22.tx0 F82c_8 [(4, (.p 0 0)), (5, (.s 1 N N)), (7, (.p 2 0)), (8, (.v (.int .i64 256)))] (by kernel_rfl) ⟨RG.st fun _ _ => by kernel_rfl, trivial⟩ ?_
    intro a23 w23 M23
    have hS23 : RG.St w w.heap.size [] [(RG.z 8), C, (tw ((0, 0, 0) : T3 P))] [kr, kt, j22] _ := M23.st
    have sl23 := M23.sl
    have f4_23 : a23.tmps[4]? = some (.pointer (some ⟨kr, 0, none⟩)) := M23.at (s := (.p 0 0)) (by kernel_rfl)
    have f5_23 : a23.tmps[5]? = some (.slice (some ⟨kt, 0, none⟩) N N) := M23.at (s := (.s 1 N N)) (by kernel_rfl)
    have f7_23 : a23.tmps[7]? = some (.pointer (some ⟨j22, 0, none⟩)) := M23.at (s := (.p 2 0)) (by kernel_rfl)
    have f8_23 : a23.tmps[8]? = some (.int .i64 256) := M23.at (s := (.v (.int .i64 256))) (by kernel_rfl)
    repeat refine wp_seq ?_
    refine wp_block ?_
    refine wp_loop_ghost (fun m a wr => m ≤ 257 ∧ RG.Sl a 62 ∧ a.tmps[4]? = some (.pointer (some ⟨kr, 0, none⟩)) ∧ a.tmps[5]? = some (.slice (some ⟨kt, 0, none⟩) N N) ∧ a.tmps[7]? = some (.pointer (some ⟨j22, 0, none⟩)) ∧ a.tmps[8]? = some (.int .i64 ((m : Int) - 1)) ∧ RG.St w w.heap.size [] [[.int .u64 0, .int .u64 0, .int .u64 0, .int .u64 0, .int .u64 0, .int .u64 0, .int .u64 0, .int .u64 0], C, tw (sumJ ns xs ys N (257 - m))] [kr, kt, j22] wr) 257 ⟨Nat.le_refl _, sl23, f4_23, f5_23, f7_23, f8_23, ?_⟩ ?_
    · rw [Nat.sub_self, sumJ]
      exact hS23
    intro m b wr
    rintro ⟨hm, slb, q4, q5, q7, q8, hSq⟩
    generalize j22 = kl at q7 hSq
    by_cases hz : m = 0
    · subst hz
      rw [show 257 - 0 = 257 from rfl] at hSq
      obtain ⟨s, hse⟩ : ∃ s, sumJ ns xs ys N 257 = s := ⟨_, rfl⟩
      rw [hse] at hSq
      have M40 : RG.M w w.heap.size [] 62 [(RG.z 8), C, (tw s)] [kr, kt, kl] [(4, (.p 0 0)), (5, (.s 1 N N)), (7, (.p 2 0)), (8, (.v (.int .i64 (-1))))] b _ := ⟨hSq, slb, ⟨q4, q5, q7, q8, trivial⟩⟩
      repeat refine wp_seq ?_
      refine M40.tx0 F82e_9 [(4, (.p 0 0)), (7, (.p 2 0)), (33, (.v (.bool false)))] (by kernel_rfl) ⟨RG.st fun _ _ => by kernel_rfl, RG.st fun _ _ => by kernel_rfl, trivial⟩ ?_
      intro a41 w41 M41
      repeat refine wp_seq ?_
      refine wp_cond_false (M41.ev (by kernel_rfl)) ?_
      refine wp_exit ?_
      dsimp only [Exit.then, Exit.inBlock]
      rw [if_pos rfl]
      repeat refine wp_seq ?_
      refine M41.tx (F82e_19 s) [] [(0, 2, (ws (s.1 * (EC.inv s.2.2 * EC.inv s.2.2)) ++ (ws (s.2.1 * (EC.inv s.2.2 * EC.inv s.2.2) * EC.inv s.2.2))))] [(ws (s.1 * (EC.inv s.2.2 * EC.inv s.2.2)) ++ (ws (s.2.1 * (EC.inv s.2.2 * EC.inv s.2.2) * EC.inv s.2.2))), C, (tw s)] [(4, (.p 0 0))] (by kernel_rfl) (by kernel_rfl) ⟨RG.ld u117 i117 (by kernel_rfl), RG.cl (ptJ_c F s) fun _ _ => by kernel_rfl, RG.pt i109 (by kernel_rfl), trivial⟩ ?_
      intro a42 w42 M42
      have hS42 : RG.St w w.heap.size [] [(ws (s.1 * (EC.inv s.2.2 * EC.inv s.2.2)) ++ (ws (s.2.1 * (EC.inv s.2.2 * EC.inv s.2.2) * EC.inv s.2.2))), C, (tw s)] [kr, kt, kl] _ := M42.st
      have sl42 := M42.sl
      have f4_42 : a42.tmps[4]? = some (.pointer (some ⟨kr, 0, none⟩)) := M42.at (s := (.p 0 0)) (by kernel_rfl)
      refine wp_ret ?_
      refine bodyPost_ret (v := pv (s.1 * (EC.inv s.2.2 * EC.inv s.2.2)) (s.2.1 * (EC.inv s.2.2 * EC.inv s.2.2) * EC.inv s.2.2)) (RG.results_row hS42 4 48 rfl 0 _ rfl f4_42 u109 i109) sl42.defers ?_
      exact ⟨_, rfl, hS42.bel.below, s, hse.symm, rfl⟩
    · obtain ⟨q, rfl⟩ : ∃ q, m = q + 1 := ⟨m - 1, by omega⟩
      have hq : q < 257 := by omega
      replace q8 : b.tmps[8]? = some (.int .i64 (q : Int)) := by rw [q8]; congr 2; omega
      obtain ⟨s, hse⟩ : ∃ s, sumJ ns xs ys N (257 - (q + 1)) = s := ⟨_, rfl⟩
      rw [hse] at hSq
      obtain ⟨s2, hs2e⟩ : ∃ t, twJ s = t := ⟨_, rfl⟩
      have hs2 : Gives 44 #[tv s] (tv s2) := hs2e ▸ twJ_c F s
      have hnext : sumJ ns xs ys N (257 - q) = inn ns xs ys s2 q N := by
        rw [show 257 - q = 257 - (q + 1) + 1 by omega]
        show inn ns xs ys (twJ (sumJ ns xs ys N (257 - (q + 1)))) (256 - (257 - (q + 1))) N = _
        rw [hse, hs2e, show 256 - (257 - (q + 1)) = q by omega]
      have M30 : RG.M w w.heap.size [] 62 [(RG.z 8), C, (tw s)] [kr, kt, kl] [(4, (.p 0 0)), (5, (.s 1 N N)), (7, (.p 2 0)), (8, (.v (.int .i64 (q : Int))))] b _ := ⟨hSq, slb, ⟨q4, q5, q7, q8, trivial⟩⟩
      repeat refine wp_seq ?_
      refine M30.tx0 (F82d_9 q) [(4, (.p 0 0)), (5, (.s 1 N N)), (7, (.p 2 0)), (8, (.v (.int .i64 (q : Int)))), (33, (.v (.bool true)))] (by kernel_rfl) ⟨RG.st fun _ _ => by kernel_rfl, RG.cert_binc rfl .geq 3 3 32 (.int .i64 (q : Int)) (.int .i64 0) (.bool true) rfl rfl (RG.sx fun _ => by kernel_rfl) (fun w => by kernel_rfl) (geq0' q), trivial⟩ ?_
      intro a31 w31 M31
      repeat refine wp_seq ?_
      refine wp_cond_true (M31.ev (by kernel_rfl)) ?_
      refine wp_skip ?_
      refine wp_seq ?_
      refine wp_block ?_
      repeat refine wp_seq ?_
      refine M31.tx (F82d_11 s s2) [] [(2, 2, (tw s2))] [(RG.z 8), C, (tw s2)] [(4, (.p 0 0)), (5, (.s 1 N N)), (7, (.p 2 0)), (8, (.v (.int .i64 (q : Int))))] (by kernel_rfl) (by kernel_rfl) ⟨RG.ld u117 i117 (by kernel_rfl), RG.cl (hs2) fun _ _ => by kernel_rfl, RG.pt i117 (by kernel_rfl), trivial⟩ ?_
      intro a32 w32 M32
      repeat refine wp_seq ?_
      refine M32.tx0 (F82d_12 N s) [(4, (.p 0 0)), (5, (.s 1 N N)), (7, (.p 2 0)), (8, (.v (.int .i64 (q : Int)))), (39, (.v (.int .i64 (N : Int)))), (40, (.v (.int .i64 0)))] (by kernel_rfl) ⟨RG.st fun _ _ => by kernel_rfl, RG.cert_one rfl 38 (.s 1 N N) (.int .i64 (N : Int)) rfl (RG.sx fun _ => by kernel_rfl) (fun a w => by kernel_rfl) (fun μ w => by kernel_rfl), RG.st fun _ _ => by kernel_rfl, trivial⟩ ?_
      intro a33 w33 M33
      have hS33 : RG.St w w.heap.size [] [(RG.z 8), C, (tw s2)] [kr, kt, kl] _ := M33.st
      have sl33 := M33.sl
      have f4_33 : a33.tmps[4]? = some (.pointer (some ⟨kr, 0, none⟩)) := M33.at (s := (.p 0 0)) (by kernel_rfl)
      have f5_33 : a33.tmps[5]? = some (.slice (some ⟨kt, 0, none⟩) N N) := M33.at (s := (.s 1 N N)) (by kernel_rfl)
      have f7_33 : a33.tmps[7]? = some (.pointer (some ⟨kl, 0, none⟩)) := M33.at (s := (.p 2 0)) (by kernel_rfl)
      have f8_33 : a33.tmps[8]? = some (.int .i64 (q : Int)) := M33.at (s := (.v (.int .i64 (q : Int)))) (by kernel_rfl)
      have f39_33 : a33.tmps[39]? = some (.int .i64 (N : Int)) := M33.at (s := (.v (.int .i64 (N : Int)))) (by kernel_rfl)
      have f40_33 : a33.tmps[40]? = some (.int .i64 0) := M33.at (s := (.v (.int .i64 0))) (by kernel_rfl)
      repeat refine wp_seq ?_
      refine wp_block ?_
      refine wp_loop_ghost (fun m a wr => ∃ i, i + m = N ∧ RG.Sl a 62 ∧ a.tmps[4]? = some (.pointer (some ⟨kr, 0, none⟩)) ∧ a.tmps[5]? = some (.slice (some ⟨kt, 0, none⟩) N N) ∧ a.tmps[7]? = some (.pointer (some ⟨kl, 0, none⟩)) ∧ a.tmps[8]? = some (.int .i64 (q : Int)) ∧ a.tmps[39]? = some (.int .i64 (N : Int)) ∧ a.tmps[40]? = some (.int .i64 (i : Int)) ∧ RG.St w w.heap.size [] [[.int .u64 0, .int .u64 0, .int .u64 0, .int .u64 0, .int .u64 0, .int .u64 0, .int .u64 0, .int .u64 0], C, tw (inn ns xs ys s2 q i)] [kr, kt, kl] wr) N ⟨0, by omega, sl33, f4_33, f5_33, f7_33, f8_33, f39_33, f40_33, hS33⟩ ?_
      intro m' c wr
      rintro ⟨i, him, slc, r4, r5, r7, r8, r39, r40, hSr⟩
      obtain ⟨s, hse3⟩ : ∃ s, inn ns xs ys s2 q i = s := ⟨_, rfl⟩
      rw [hse3] at hSr
      by_cases hi : i < N
      · obtain ⟨h1, h2⟩ := hcN i hi
        obtain ⟨d, hde⟩ : ∃ d, digs (ns i) q = d := ⟨_, rfl⟩
        have hdig : C[353 * i + 96 + q]? = some (.int .i8 d) := hde ▸ h1 q hq
        have hCne : C ≠ [] := by intro h; rw [h] at hdig; simp at hdig
        have hstep : inn ns xs ys s2 q (i + 1) = if d = 0 then s else plJ s (tmJ (xs i) (ys i) d) := by rw [← hse3, ← hde]; rfl
        by_cases hdz : d = 0
        · rw [if_pos hdz] at hstep
          rw [hdz] at hdig
          have M50 : RG.M w w.heap.size [] 62 [(RG.z 8), C, (tw s)] [kr, kt, kl] [(4, (.p 0 0)), (5, (.s 1 N N)), (7, (.p 2 0)), (8, (.v (.int .i64 (q : Int)))), (39, (.v (.int .i64 (N : Int)))), (40, (.v (.int .i64 (i : Int))))] c _ := ⟨hSr, slc, ⟨r4, r5, r7, r8, r39, r40, trivial⟩⟩
          repeat refine wp_seq ?_
          refine M50.tx0 F82f_13 [(4, (.p 0 0)), (5, (.s 1 N N)), (7, (.p 2 0)), (8, (.v (.int .i64 (q : Int)))), (39, (.v (.int .i64 (N : Int)))), (40, (.v (.int .i64 (i : Int)))), (41, (.v (.bool true)))] (by kernel_rfl) ⟨RG.cert_bin rfl .lss 3 3 40 39 (.int .i64 (i : Int)) (.int .i64 (N : Int)) (.bool true) rfl rfl (RG.sx fun _ => by kernel_rfl) (RG.sx fun _ => by kernel_rfl) (fun w => by kernel_rfl) (lssn_t hi), trivial⟩ ?_
          intro a51 w51 M51
          repeat refine wp_seq ?_
          refine wp_cond_true (M51.ev (by kernel_rfl)) ?_
          refine wp_skip ?_
          refine wp_seq ?_
          refine wp_block ?_
          repeat refine wp_seq ?_
          refine M51.tx0 (F82f_14 i) [(4, (.p 0 0)), (5, (.s 1 N N)), (7, (.p 2 0)), (8, (.v (.int .i64 (q : Int)))), (9, (.v (.int .i64 (i : Int)))), (39, (.v (.int .i64 (N : Int)))), (40, (.v (.int .i64 (i : Int))))] (by kernel_rfl) ⟨RG.st fun _ _ => by kernel_rfl, RG.st fun _ _ => by kernel_rfl, trivial⟩ ?_
          intro a52 w52 M52
          repeat refine wp_seq ?_
          refine M52.tx0 (F82f_15 N i q s) [(4, (.p 0 0)), (5, (.s 1 N N)), (7, (.p 2 0)), (8, (.v (.int .i64 (q : Int)))), (10, (.v (.int .i8 0))), (39, (.v (.int .i64 (N : Int)))), (40, (.v (.int .i64 (i : Int))))] (by kernel_rfl) ⟨RG.st fun _ _ => by kernel_rfl, RG.st fun _ _ => by kernel_rfl, RG.st fun _ _ => by kernel_rfl, RG.cert_idx rfl 83 43 44 rfl (.s 1 N N) (.int .i64 (i : Int)) (RG.sx fun _ => by kernel_rfl) (RG.sx fun _ => by kernel_rfl) (fun μ w => at135 _ _ _ i hi w), RG.st fun _ _ => by kernel_rfl, RG.cert_idx rfl 89 47 45 rfl (.p 1 ((353 * i) + 96)) (.int .i64 (q : Int)) (RG.sx fun _ => by kernel_rfl) (RG.sx fun _ => by kernel_rfl) (fun μ w => at138 _ _ q hq w), RG.cert_load1 rfl 1 (((353 * i) + 96) + q) _ rfl rfl (by kernel_rfl) 88 48 rfl (.int .i8 0) rfl (RG.sx fun _ => by kernel_rfl) hdig u137, RG.st fun _ _ => by kernel_rfl, trivial⟩ ?_
          intro a53 w53 M53
          repeat refine wp_seq ?_
          refine M53.tx0 F82f_16 [(4, (.p 0 0)), (5, (.s 1 N N)), (7, (.p 2 0)), (8, (.v (.int .i64 (q : Int)))), (39, (.v (.int .i64 (N : Int)))), (40, (.v (.int .i64 (i : Int)))), (51, (.v (.bool false)))] (by kernel_rfl) ⟨RG.st fun _ _ => by kernel_rfl, RG.cert_binc rfl .neq 88 88 50 (.int .i8 0) (.int .i8 0) (.bool false) rfl rfl (RG.sx fun _ => by kernel_rfl) (fun w => by kernel_rfl) (ne8_f), trivial⟩ ?_
          intro a54 w54 M54
          repeat refine wp_seq ?_
          refine wp_cond_false (M54.ev (by kernel_rfl)) ?_
          refine wp_skip ?_
          repeat refine wp_seq ?_
          refine M54.tx0 (F82f_18 i) [(4, (.p 0 0)), (5, (.s 1 N N)), (7, (.p 2 0)), (8, (.v (.int .i64 (q : Int)))), (39, (.v (.int .i64 (N : Int)))), (40, (.v (.int .i64 ((i + 1 : Nat) : Int))))] (by kernel_rfl) ⟨RG.cert_binc rfl .add 3 3 40 (.int .i64 (i : Int)) (.int .i64 1) (.int .i64 ((i + 1 : Nat) : Int)) rfl rfl (RG.sx fun _ => by kernel_rfl) (fun w => by kernel_rfl) (addn i 1 (by omega) (by omega)), RG.st fun _ _ => by kernel_rfl, trivial⟩ ?_
          intro a55 w55 M55
          have hS55 : RG.St w w.heap.size [] [(RG.z 8), C, (tw s)] [kr, kt, kl] _ := M55.st
          have sl55 := M55.sl
          have f4_55 : a55.tmps[4]? = some (.pointer (some ⟨kr, 0, none⟩)) := M55.at (s := (.p 0 0)) (by kernel_rfl)
          have f5_55 : a55.tmps[5]? = some (.slice (some ⟨kt, 0, none⟩) N N) := M55.at (s := (.s 1 N N)) (by kernel_rfl)
          have f7_55 : a55.tmps[7]? = some (.pointer (some ⟨kl, 0, none⟩)) := M55.at (s := (.p 2 0)) (by kernel_rfl)
          have f8_55 : a55.tmps[8]? = some (.int .i64 (q : Int)) := M55.at (s := (.v (.int .i64 (q : Int)))) (by kernel_rfl)
          have f39_55 : a55.tmps[39]? = some (.int .i64 (N : Int)) := M55.at (s := (.v (.int .i64 (N : Int)))) (by kernel_rfl)
          have f40_55 : a55.tmps[40]? = some (.int .i64 ((i + 1 : Nat) : Int)) := M55.at (s := (.v (.int .i64 ((i + 1 : Nat) : Int)))) (by kernel_rfl)
          show ∃ n', _
          exact ⟨m' - 1, by omega, i + 1, by omega, sl55, f4_55, f5_55, f7_55, f8_55, f39_55, f40_55, by rw [hstep]; exact hS55⟩
        · rw [if_neg hdz] at hstep
          have hodd : d % 2 = 1 ∧ -15 ≤ d ∧ d ≤ 15 := by
            obtain ⟨_, _, -, hD⟩ := digs_DI (show ns i < 2 ^ 256 from hns i hi)
            rcases hD.ho q with h | h
            · exact absurd (hde ▸ h) hdz
            · exact hde ▸ h
          obtain ⟨s3, hs3e⟩ : ∃ t, tmJ (xs i) (ys i) d = t := ⟨_, rfl⟩
          obtain ⟨s4, hs4e⟩ : ∃ t, plJ s s3 = t := ⟨_, rfl⟩
          have hs4 : Gives 45 #[tv s, tv s3] (tv s4) := hs4e ▸ plJ_c F s s3
          have htm : ∀ (k : Nat) (w : World), k < w.heap.size → w.rangeAt k 0 C → Calls Tryz.prog 46 #[.pointer (some ⟨k, 353 * i, none⟩), .int .i8 d] w (Ret fun r w' => Below w.heap.size w w' ∧ r = tv s3) := fun k w hlt hr =>
            hs3e ▸ times_d F k (353 * i) (xs i) (ys i) hodd.1 hodd.2 w hlt (fun qq hqq => RG.range_sub hr (fun j hj => by rw [Nat.add_zero]; exact h2 qq j hqq (by rw [tw_length] at hj; exact hj)))
          rw [hs3e, hs4e] at hstep
          have M50 : RG.M w w.heap.size [] 62 [(RG.z 8), C, (tw s)] [kr, kt, kl] [(4, (.p 0 0)), (5, (.s 1 N N)), (7, (.p 2 0)), (8, (.v (.int .i64 (q : Int)))), (39, (.v (.int .i64 (N : Int)))), (40, (.v (.int .i64 (i : Int))))] c _ := ⟨hSr, slc, ⟨r4, r5, r7, r8, r39, r40, trivial⟩⟩
          repeat refine wp_seq ?_
          refine M50.tx0 F82g_13 [(4, (.p 0 0)), (5, (.s 1 N N)), (7, (.p 2 0)), (8, (.v (.int .i64 (q : Int)))), (39, (.v (.int .i64 (N : Int)))), (40, (.v (.int .i64 (i : Int)))), (41, (.v (.bool true)))] (by kernel_rfl) ⟨RG.cert_bin rfl .lss 3 3 40 39 (.int .i64 (i : Int)) (.int .i64 (N : Int)) (.bool true) rfl rfl (RG.sx fun _ => by kernel_rfl) (RG.sx fun _ => by kernel_rfl) (fun w => by kernel_rfl) (lssn_t hi), trivial⟩ ?_
          intro a51 w51 M51
          repeat refine wp_seq ?_
          refine wp_cond_true (M51.ev (by kernel_rfl)) ?_
          refine wp_skip ?_
          refine wp_seq ?_
          refine wp_block ?_
          repeat refine wp_seq ?_
          refine M51.tx0 (F82g_14 i) [(4, (.p 0 0)), (5, (.s 1 N N)), (7, (.p 2 0)), (8, (.v (.int .i64 (q : Int)))), (9, (.v (.int .i64 (i : Int)))), (39, (.v (.int .i64 (N : Int)))), (40, (.v (.int .i64 (i : Int))))] (by kernel_rfl) ⟨RG.st fun _ _ => by kernel_rfl, RG.st fun _ _ => by kernel_rfl, trivial⟩ ?_
          intro a52 w52 M52
          repeat refine wp_seq ?_
          refine M52.tx0 (F82g_15 N i q d s) [(4, (.p 0 0)), (5, (.s 1 N N)), (7, (.p 2 0)), (8, (.v (.int .i64 (q : Int)))), (9, (.v (.int .i64 (i : Int)))), (10, (.v (.int .i8 d))), (39, (.v (.int .i64 (N : Int)))), (40, (.v (.int .i64 (i : Int))))] (by kernel_rfl) ⟨RG.st fun _ _ => by kernel_rfl, RG.st fun _ _ => by kernel_rfl, RG.st fun _ _ => by kernel_rfl, RG.cert_idx rfl 83 43 44 rfl (.s 1 N N) (.int .i64 (i : Int)) (RG.sx fun _ => by kernel_rfl) (RG.sx fun _ => by kernel_rfl) (fun μ w => at135 _ _ _ i hi w), RG.st fun _ _ => by kernel_rfl, RG.cert_idx rfl 89 47 45 rfl (.p 1 ((353 * i) + 96)) (.int .i64 (q : Int)) (RG.sx fun _ => by kernel_rfl) (RG.sx fun _ => by kernel_rfl) (fun μ w => at138 _ _ q hq w), RG.cert_load1 rfl 1 (((353 * i) + 96) + q) _ rfl rfl (by kernel_rfl) 88 48 rfl (.int .i8 d) rfl (RG.sx fun _ => by kernel_rfl) hdig u137, RG.st fun _ _ => by kernel_rfl, trivial⟩ ?_
          intro a53 w53 M53
          repeat refine wp_seq ?_
          refine M53.tx0 (F82g_16 d) [(4, (.p 0 0)), (5, (.s 1 N N)), (7, (.p 2 0)), (8, (.v (.int .i64 (q : Int)))), (9, (.v (.int .i64 (i : Int)))), (10, (.v (.int .i8 d))), (39, (.v (.int .i64 (N : Int)))), (40, (.v (.int .i64 (i : Int)))), (51, (.v (.bool true)))] (by kernel_rfl) ⟨RG.st fun _ _ => by kernel_rfl, RG.cert_binc rfl .neq 88 88 50 (.int .i8 d) (.int .i8 0) (.bool true) rfl rfl (RG.sx fun _ => by kernel_rfl) (fun w => by kernel_rfl) (ne8_t hdz), trivial⟩ ?_
          intro a54 w54 M54
          repeat refine wp_seq ?_
          refine wp_cond_true (M54.ev (by kernel_rfl)) ?_
          repeat refine wp_seq ?_
          refine M54.dr (by kernel_rfl) (F82g_17 N i d s s3 s4) [] [(2, 7, (tw s4))] [(RG.z 8), C, (tw s4)] [(4, (.p 0 0)), (5, (.s 1 N N)), (7, (.p 2 0)), (8, (.v (.int .i64 (q : Int)))), (39, (.v (.int .i64 (N : Int)))), (40, (.v (.int .i64 (i : Int))))] (by kernel_rfl) (by kernel_rfl) ⟨RG.ld u117 i117 (by kernel_rfl), RG.st fun _ _ => by kernel_rfl, RG.st fun _ _ => by kernel_rfl, RG.cert_idx rfl 83 53 54 rfl (.s 1 N N) (.int .i64 (i : Int)) (RG.sx fun _ => by kernel_rfl) (RG.sx fun _ => by kernel_rfl) (fun μ w => at135 _ _ _ i hi w), RG.st fun _ _ => by kernel_rfl, RG.cert_callM2 rfl 1 _ rfl rfl (by kernel_rfl) hCne 46 55 56 (.p 1 (353 * i)) (.int .i8 d) (tv s3) rfl (fun a w => by kernel_rfl) (RG.sx fun _ => by kernel_rfl) (RG.sx fun _ => by kernel_rfl) (fun μ w hlt hr => htm (μ 1) w hlt hr), RG.cl (hs4) fun _ _ => by kernel_rfl, RG.pt i117 (by kernel_rfl), trivial⟩ ?_
          intro a55 w55 M55
          repeat refine wp_seq ?_
          refine M55.tx0 (F82g_18 i) [(4, (.p 0 0)), (5, (.s 1 N N)), (7, (.p 2 0)), (8, (.v (.int .i64 (q : Int)))), (39, (.v (.int .i64 (N : Int)))), (40, (.v (.int .i64 ((i + 1 : Nat) : Int))))] (by kernel_rfl) ⟨RG.cert_binc rfl .add 3 3 40 (.int .i64 (i : Int)) (.int .i64 1) (.int .i64 ((i + 1 : Nat) : Int)) rfl rfl (RG.sx fun _ => by kernel_rfl) (fun w => by kernel_rfl) (addn i 1 (by omega) (by omega)), RG.st fun _ _ => by kernel_rfl, trivial⟩ ?_
          intro a56 w56 M56
          have hS56 : RG.St w w.heap.size [] [(RG.z 8), C, (tw s4)] [kr, kt, kl] _ := M56.st
          have sl56 := M56.sl
          have f4_56 : a56.tmps[4]? = some (.pointer (some ⟨kr, 0, none⟩)) := M56.at (s := (.p 0 0)) (by kernel_rfl)
          have f5_56 : a56.tmps[5]? = some (.slice (some ⟨kt, 0, none⟩) N N) := M56.at (s := (.s 1 N N)) (by kernel_rfl)
          have f7_56 : a56.tmps[7]? = some (.pointer (some ⟨kl, 0, none⟩)) := M56.at (s := (.p 2 0)) (by kernel_rfl)
          have f8_56 : a56.tmps[8]? = some (.int .i64 (q : Int)) := M56.at (s := (.v (.int .i64 (q : Int)))) (by kernel_rfl)
          have f39_56 : a56.tmps[39]? = some (.int .i64 (N : Int)) := M56.at (s := (.v (.int .i64 (N : Int)))) (by kernel_rfl)
          have f40_56 : a56.tmps[40]? = some (.int .i64 ((i + 1 : Nat) : Int)) := M56.at (s := (.v (.int .i64 ((i + 1 : Nat) : Int)))) (by kernel_rfl)
          show ∃ n', _
          exact ⟨m' - 1, by omega, i + 1, by omega, sl56, f4_56, f5_56, f7_56, f8_56, f39_56, f40_56, by rw [hstep]; exact hS56⟩
      · have hiN3 : i = N := by omega
        rw [hiN3] at hse3
        rw [hse3] at hnext
        have M60 : RG.M w w.heap.size [] 62 [(RG.z 8), C, (tw s)] [kr, kt, kl] [(4, (.p 0 0)), (5, (.s 1 N N)), (7, (.p 2 0)), (8, (.v (.int .i64 (q : Int)))), (39, (.v (.int .i64 (N : Int)))), (40, (.v (.int .i64 (i : Int))))] c _ := ⟨hSr, slc, ⟨r4, r5, r7, r8, r39, r40, trivial⟩⟩
        repeat refine wp_seq ?_
        refine M60.tx0 F82h_13 [(4, (.p 0 0)), (5, (.s 1 N N)), (7, (.p 2 0)), (8, (.v (.int .i64 (q : Int)))), (41, (.v (.bool false)))] (by kernel_rfl) ⟨RG.cert_bin rfl .lss 3 3 40 39 (.int .i64 (i : Int)) (.int .i64 (N : Int)) (.bool false) rfl rfl (RG.sx fun _ => by kernel_rfl) (RG.sx fun _ => by kernel_rfl) (fun w => by kernel_rfl) (lssn_f hi), trivial⟩ ?_
        intro a61 w61 M61
        repeat refine wp_seq ?_
        refine wp_cond_false (M61.ev (by kernel_rfl)) ?_
        refine wp_exit ?_
        dsimp only [Exit.then, Exit.inBlock]
        rw [if_pos rfl]
        repeat refine wp_seq ?_
        refine M61.tx0 (F82h_10 q) [(4, (.p 0 0)), (5, (.s 1 N N)), (7, (.p 2 0)), (8, (.v (.int .i64 ((q : Int) - 1))))] (by kernel_rfl) ⟨RG.st fun _ _ => by kernel_rfl, RG.cert_binc rfl .sub 3 3 34 (.int .i64 (q : Int)) (.int .i64 1) (.int .i64 ((q : Int) - 1)) rfl rfl (RG.sx fun _ => by kernel_rfl) (fun w => by kernel_rfl) (sub1' q (by omega)), RG.st fun _ _ => by kernel_rfl, trivial⟩ ?_
        intro a62 w62 M62
        have hS62 : RG.St w w.heap.size [] [(RG.z 8), C, (tw s)] [kr, kt, kl] _ := M62.st
        have sl62 := M62.sl
        have f4_62 : a62.tmps[4]? = some (.pointer (some ⟨kr, 0, none⟩)) := M62.at (s := (.p 0 0)) (by kernel_rfl)
        have f5_62 : a62.tmps[5]? = some (.slice (some ⟨kt, 0, none⟩) N N) := M62.at (s := (.s 1 N N)) (by kernel_rfl)
        have f7_62 : a62.tmps[7]? = some (.pointer (some ⟨kl, 0, none⟩)) := M62.at (s := (.p 2 0)) (by kernel_rfl)
        have f8_62 : a62.tmps[8]? = some (.int .i64 ((q : Int) - 1)) := M62.at (s := (.v (.int .i64 ((q : Int) - 1)))) (by kernel_rfl)
        show ∃ n', _
        exact ⟨q, Nat.lt_succ_self q, by omega, sl62, f4_62, f5_62, f7_62, f8_62, by rw [hnext]; exact hS62⟩
end Go.Proofs.YticolhhalbbogacGreat
set_option linter.unusedVariables false
set_option linter.unusedSimpArgs false
namespace Go.Proofs.YticolhhalbbogacGreat
open Go.RowKit Go.Sort
variable {P : Nat} [NeZero P]
theorem ws_one (h : Fld P) : ([.int .u64 1, .int .u64 0, .int .u64 0, .int .u64 0] : List Value) = ws (1 : Fin P) := by
  have h := one_fv h
  unfold nv at h
  injection h with h
  exact congrArg Array.toList h
/-- The even root of a number, if there is one. -/
def rt (m : Fin P) : Option (Fin P) := if m.val ^ (P / 4 + 1) % P * (m.val ^ (P / 4 + 1) % P) % P = m.val then some (Fin.ofNat P (even P (m.val ^ (P / 4 + 1) % P))) else none
omit [NeZero P] in
theorem even_lt {r : Nat} (hP : 0 < P) (h : r < P) : even P r < P := by unfold even; split <;> omega
theorem rt_four {m y : Fin P} {v : Value} (h : rt m = some y) (hF : Four v (even P (m.val ^ (P / 4 + 1) % P))) : v = fv y := by
  unfold rt at h
  split at h
  · obtain rfl := Option.some.inj h
    have : (Fin.ofNat P (even P (m.val ^ (P / 4 + 1) % P))).val = even P (m.val ^ (P / 4 + 1) % P) := Nat.mod_eq_of_lt (even_lt (Nat.pos_of_neZero P) (Nat.mod_lt _ (Nat.pos_of_neZero P)))
    show v = nv _
    rw [this]
    exact hF.nv
  · cases h
theorem rt_yes {m y : Fin P} (h : rt m = some y) : m.val ^ (P / 4 + 1) % P * (m.val ^ (P / 4 + 1) % P) % P = m.val := by
  unfold rt at h
  split at h
  · assumption
  · cases h
theorem rt_no {m : Fin P} (h : rt m = none) : ¬ m.val ^ (P / 4 + 1) % P * (m.val ^ (P / 4 + 1) % P) % P = m.val := by
  unfold rt at h
  split at h
  · cases h
  · assumption
theorem RootR.val {m : Fin P} {e : Value} (h : RootR P m.val (m.val ^ (P / 4 + 1) % P) e) : (∀ y, rt m = some y → e = .tuple #[fv y, .bool true]) ∧ (rt m = none → e = .tuple #[fv (0 : Fin P), .bool false]) := by
  obtain ⟨ya, yb, yc, yd, ok, rfl, h1, h2, h3⟩ := h
  refine ⟨fun y hy => ?_, fun hn => ?_⟩
  · cases ok with
    | true => rw [rt_four hy (h1 rfl).2]
    | false => exact absurd (rt_yes hy) (h2 rfl)
  · cases ok with
    | true => exact absurd (h1 rfl).1 (rt_no hn)
    | false =>
      obtain ⟨rfl, rfl, rfl, rfl⟩ := h3 rfl
      rw [← zero_fv]
      rfl
theorem Root_y (h : Fld P) {m y : Fin P} (e : rt m = some y) : Gives 72 #[gv0, fv m] (.tuple #[fv y, .bool true]) := fun w =>
  (Root_any 4294968273 0 0 P _ m.val h.gap h.p4 (h.four m) w).mono (by rintro e' w' ⟨v, rfl, hb, hF⟩; exact ⟨_, rfl, hb, hF.val.1 y e⟩)
theorem Root_n (h : Fld P) {m : Fin P} (e : rt m = none) : Gives 72 #[gv0, fv m] (.tuple #[fv (0 : Fin P), .bool false]) := fun w =>
  (Root_any 4294968273 0 0 P _ m.val h.gap h.p4 (h.four m) w).mono (by rintro e' w' ⟨v, rfl, hb, hF⟩; exact ⟨_, rfl, hb, hF.val.2 e⟩)
end Go.Proofs.YticolhhalbbogacGreat
namespace Go.Proofs.YticolhhalbbogacGreat
open Go.RowKit Go.Sort
variable {P : Nat} [NeZero P]
def gl0 : List Value := [.int .u64 4294968273, .int .u64 0, .int .u64 0, .int .u64 0]
def F99y_0 (x : Fin P) : List RG.It := [.m 1 [] 0, .m 2 [] 1, .x 3 [] (.bool false)]
def F99y_1 : List RG.It := [.c 8 [] gv0, .m 4 [] 2, .u [(4, 1), (8, 0)] 2]
def F99y_2 (x c1 c2 c3 : Fin P) : List RG.It := [.x 9 [] gv0, .x 10 [] gv0, .x 11 [] gv0, .x 12 [] (fv x), .x 13 [] (fv x), .c 14 [(11, 2), (12, 3), (13, 4)] (fv c1), .x 15 [] (fv x), .c 16 [(10, 1), (14, 5), (15, 6)] (fv c2), .x 17 [] (fv (7 : Fin P)), .c 18 [(9, 0), (16, 7), (17, 8)] (fv c3), .m 5 [] 3, .u [(5, 10), (18, 9)] 3]
def F99y_3 (x y c3 : Fin P) : List RG.It := [.x 20 [] gv0, .x 21 [] (fv c3), .c 22 [(20, 0), (21, 1)] (.tuple #[(fv y), (.bool true)]), .x 19 [(22, 2)] (.tuple #[(fv y), (.bool true)]), .x 23 [(19, 3)] (fv y), .x 24 [(19, 3)] (.bool true), .m 6 [] 4, .u [(6, 6), (23, 4)] 4, .x 7 [(24, 5)] (.bool true)]
def F99y_4 (x : Fin P) : List RG.It := [.x 25 [] (.bool true), .x 26 [(25, 0)] (.bool false)]
def F99y_6 (x y : Fin P) : List RG.It := [.x 28 [] (fv x), .x 29 [] (fv y), .x 30 [(28, 0), (29, 1)] (pv x y), .u [(30, 2)] 1, .x 3 [] (.bool true)]
set_option maxHeartbeats 2000000 in
set_option maxRecDepth 100000 in
theorem above_y_c (C : Fld P) (x y : Fin P)(hr : rt (x * x * x + 7) = some y)  : Gives 41 #[(fv x)] (.tuple #[pv x y, .bool true]) := by
  intro w
  obtain ⟨c1, hc1⟩ : ∃ c, c = x * x := ⟨_, rfl⟩
  obtain ⟨c2, hc2⟩ : ∃ c, c = c1 * x := ⟨_, rfl⟩
  obtain ⟨c3, hc3⟩ : ∃ c, c = c2 + (7 : Fin P) := ⟨_, rfl⟩
  have hfin : ((.tuple #[(pv x y), (.bool true)]) : Value) = (.tuple #[pv x y, .bool true]) := by
    subst_vars; rfl
  rw [← hfin]
  go_enter Tryz.func41, Tryz.ntmps41
  refine RG.M.enter [(0, (.v (fv x)))] 31 (by kernel_rfl) ?_
  intro a0 M0
  repeat refine wp_seq ?_
  refine M0.tx (F99y_0 x) [(0, (ws x)), (1, (RG.z 8))] [] [(ws x), (RG.z 8)] [(1, (.p 0 0)), (2, (.p 1 0)), (3, (.v (.bool false)))] (by kernel_rfl) (by kernel_rfl) ⟨RG.mk 0 46 fun _ _ => by kernel_rfl, RG.mk 1 48 fun _ _ => by kernel_rfl, RG.st fun _ _ => by kernel_rfl, trivial⟩ ?_
  intro j1 i1 a1 w1 M1
  repeat refine wp_seq ?_
  refine M1.tx F99y_1 [(1, (RG.z 4))] [(2, 2, gl0)] [(ws x), (RG.z 8), gl0] [(1, (.p 0 0)), (2, (.p 1 0)), (3, (.v (.bool false))), (4, (.p 2 0))] (by kernel_rfl) (by kernel_rfl) ⟨RG.cl (Coordinates_c) fun _ _ => by kernel_rfl, RG.mk 2 78 fun _ _ => by kernel_rfl, RG.pt i79 (by kernel_rfl), trivial⟩ ?_
  intro j2 a2 w2 M2
  repeat refine wp_seq ?_
  refine M2.dr (by kernel_rfl) (F99y_2 x c1 c2 c3) [(10, (RG.z 4))] [(3, 11, (ws c3))] [(ws x), (RG.z 8), gl0, (ws c3)] [(1, (.p 0 0)), (2, (.p 1 0)), (3, (.v (.bool false))), (4, (.p 2 0)), (5, (.p 3 0))] (by kernel_rfl) (by kernel_rfl) ⟨RG.ld u79 i79 (by kernel_rfl), RG.ld u79 i79 (by kernel_rfl), RG.ld u79 i79 (by kernel_rfl), RG.ld u85 i85 (by kernel_rfl), RG.ld u85 i85 (by kernel_rfl), RG.cl ((PTimes_c C x x).e hc1) fun _ _ => by kernel_rfl, RG.ld u85 i85 (by kernel_rfl), RG.cl ((PTimes_c C c1 x).e hc2) fun _ _ => by kernel_rfl, RG.se (seven_fv C) fun _ _ => by kernel_rfl, RG.cl ((PPlus_c C c2 (7 : Fin P)).e hc3) fun _ _ => by kernel_rfl, RG.mk 3 46 fun _ _ => by kernel_rfl, RG.pt i85 (by kernel_rfl), trivial⟩ ?_
  intro j3 a3 w3 M3
  repeat refine wp_seq ?_
  refine M3.tx (F99y_3 x y c3) [(6, (RG.z 4))] [(4, 7, (ws y))] [(ws x), (RG.z 8), gl0, (ws c3), (ws y)] [(1, (.p 0 0)), (2, (.p 1 0)), (3, (.v (.bool false))), (6, (.p 4 0)), (7, (.v (.bool true)))] (by kernel_rfl) (by kernel_rfl) ⟨RG.ld u79 i79 (by kernel_rfl), RG.ld u85 i85 (by kernel_rfl), RG.cl (f := 72) (args := #[gv0, (fv c3)]) (v := (.tuple #[(fv y), (.bool true)])) (Root_y C (by subst_vars; exact hr)) fun _ _ => by kernel_rfl, RG.st fun _ _ => by kernel_rfl, RG.st fun _ _ => by kernel_rfl, RG.st fun _ _ => by kernel_rfl, RG.mk 4 46 fun _ _ => by kernel_rfl, RG.pt i85 (by kernel_rfl), RG.st fun _ _ => by kernel_rfl, trivial⟩ ?_
  intro j4 a4 w4 M4
  repeat refine wp_seq ?_
  refine M4.tx0 (F99y_4 x) [(1, (.p 0 0)), (2, (.p 1 0)), (3, (.v (.bool false))), (6, (.p 4 0)), (26, (.v (.bool false)))] (by kernel_rfl) ⟨RG.st fun _ _ => by kernel_rfl, RG.st fun _ _ => by kernel_rfl, trivial⟩ ?_
  intro a5 w5 M5
  repeat refine wp_seq ?_
  refine wp_cond_false (M5.ev (by kernel_rfl)) ?_
  refine wp_skip ?_
  repeat refine wp_seq ?_
  refine M5.tx (F99y_6 x y) [] [(1, 3, (ws x ++ (ws y)))] [(ws x), (ws x ++ (ws y)), gl0, (ws c3), (ws y)] [(2, (.p 1 0)), (3, (.v (.bool true)))] (by kernel_rfl) (by kernel_rfl) ⟨RG.ld u85 i85 (by kernel_rfl), RG.ld u85 i85 (by kernel_rfl), RG.st fun _ _ => by kernel_rfl, RG.pt i109 (by kernel_rfl), RG.st fun _ _ => by kernel_rfl, trivial⟩ ?_
  intro a6 w6 M6
  refine wp_ret ?_
  refine bodyPost_ret (v := (.tuple #[(pv x y), (.bool true)])) (RG.results_rt M6.st 2 3 48 rfl 1 _ rfl (M6.at (s := (.p 1 0)) (by kernel_rfl)) _ (M6.at (s := (.v (.bool true))) (by kernel_rfl)) u109 i109) M6.sl.defers ?_
  exact ⟨_, rfl, M6.st.bel.below, rfl⟩
def F99n_0 (x : Fin P) : List RG.It := [.m 1 [] 0, .m 2 [] 1, .x 3 [] (.bool false)]
def F99n_1 : List RG.It := [.c 8 [] gv0, .m 4 [] 2, .u [(4, 1), (8, 0)] 2]
def F99n_2 (x c1 c2 c3 : Fin P) : List RG.It := [.x 9 [] gv0, .x 10 [] gv0, .x 11 [] gv0, .x 12 [] (fv x), .x 13 [] (fv x), .c 14 [(11, 2), (12, 3), (13, 4)] (fv c1), .x 15 [] (fv x), .c 16 [(10, 1), (14, 5), (15, 6)] (fv c2), .x 17 [] (fv (7 : Fin P)), .c 18 [(9, 0), (16, 7), (17, 8)] (fv c3), .m 5 [] 3, .u [(5, 10), (18, 9)] 3]
def F99n_3 (x c3 : Fin P) : List RG.It := [.x 20 [] gv0, .x 21 [] (fv c3), .c 22 [(20, 0), (21, 1)] (.tuple #[(fv (0 : Fin P)), (.bool false)]), .x 19 [(22, 2)] (.tuple #[(fv (0 : Fin P)), (.bool false)]), .x 23 [(19, 3)] (fv (0 : Fin P)), .x 24 [(19, 3)] (.bool false), .m 6 [] 4, .u [(6, 6), (23, 4)] 4, .x 7 [(24, 5)] (.bool false)]
def F99n_4 (x : Fin P) : List RG.It := [.x 25 [] (.bool false), .x 26 [(25, 0)] (.bool true)]
def F99n_5 (x : Fin P) : List RG.It := [.x 27 [] (pv (0 : Fin P) (0 : Fin P)), .u [(27, 0)] 1, .x 3 [] (.bool false)]
set_option maxHeartbeats 2000000 in
set_option maxRecDepth 100000 in
theorem above_n_c (C : Fld P) (x : Fin P)(hr : rt (x * x * x + 7) = none)  : Gives 41 #[(fv x)] (.tuple #[pv (0 : Fin P) 0, .bool false]) := by
  intro w
  obtain ⟨c1, hc1⟩ : ∃ c, c = x * x := ⟨_, rfl⟩
  obtain ⟨c2, hc2⟩ : ∃ c, c = c1 * x := ⟨_, rfl⟩
  obtain ⟨c3, hc3⟩ : ∃ c, c = c2 + (7 : Fin P) := ⟨_, rfl⟩
  have hfin : ((.tuple #[(pv (0 : Fin P) (0 : Fin P)), (.bool false)]) : Value) = (.tuple #[pv (0 : Fin P) 0, .bool false]) := by
    subst_vars; rfl
  rw [← hfin]
  go_enter Tryz.func41, Tryz.ntmps41
  refine RG.M.enter [(0, (.v (fv x)))] 31 (by kernel_rfl) ?_
  intro a0 M0
  repeat refine wp_seq ?_
  refine M0.tx (F99n_0 x) [(0, (ws x)), (1, (RG.z 8))] [] [(ws x), (RG.z 8)] [(1, (.p 0 0)), (2, (.p 1 0)), (3, (.v (.bool false)))] (by kernel_rfl) (by kernel_rfl) ⟨RG.mk 0 46 fun _ _ => by kernel_rfl, RG.mk 1 48 fun _ _ => by kernel_rfl, RG.st fun _ _ => by kernel_rfl, trivial⟩ ?_
  intro j1 i1 a1 w1 M1
  repeat refine wp_seq ?_
  refine M1.tx F99n_1 [(1, (RG.z 4))] [(2, 2, gl0)] [(ws x), (RG.z 8), gl0] [(1, (.p 0 0)), (2, (.p 1 0)), (3, (.v (.bool false))), (4, (.p 2 0))] (by kernel_rfl) (by kernel_rfl) ⟨RG.cl (Coordinates_c) fun _ _ => by kernel_rfl, RG.mk 2 78 fun _ _ => by kernel_rfl, RG.pt i79 (by kernel_rfl), trivial⟩ ?_
  intro j2 a2 w2 M2
  repeat refine wp_seq ?_
  refine M2.dr (by kernel_rfl) (F99n_2 x c1 c2 c3) [(10, (RG.z 4))] [(3, 11, (ws c3))] [(ws x), (RG.z 8), gl0, (ws c3)] [(2, (.p 1 0)), (3, (.v (.bool false))), (4, (.p 2 0)), (5, (.p 3 0))] (by kernel_rfl) (by kernel_rfl) ⟨RG.ld u79 i79 (by kernel_rfl), RG.ld u79 i79 (by kernel_rfl), RG.ld u79 i79 (by kernel_rfl), RG.ld u85 i85 (by kernel_rfl), RG.ld u85 i85 (by kernel_rfl), RG.cl ((PTimes_c C x x).e hc1) fun _ _ => by kernel_rfl, RG.ld u85 i85 (by kernel_rfl), RG.cl ((PTimes_c C c1 x).e hc2) fun _ _ => by kernel_rfl, RG.se (seven_fv C) fun _ _ => by kernel_rfl, RG.cl ((PPlus_c C c2 (7 : Fin P)).e hc3) fun _ _ => by kernel_rfl, RG.mk 3 46 fun _ _ => by kernel_rfl, RG.pt i85 (by kernel_rfl), trivial⟩ ?_
  intro j3 a3 w3 M3
  repeat refine wp_seq ?_
  refine M3.tx (F99n_3 x c3) [(6, (RG.z 4))] [(4, 7, (ws (0 : Fin P)))] [(ws x), (RG.z 8), gl0, (ws c3), (ws (0 : Fin P))] [(2, (.p 1 0)), (3, (.v (.bool false))), (7, (.v (.bool false)))] (by kernel_rfl) (by kernel_rfl) ⟨RG.ld u79 i79 (by kernel_rfl), RG.ld u85 i85 (by kernel_rfl), RG.cl (f := 72) (args := #[gv0, (fv c3)]) (v := (.tuple #[(fv (0 : Fin P)), (.bool false)])) (Root_n C (by subst_vars; exact hr)) fun _ _ => by kernel_rfl, RG.st fun _ _ => by kernel_rfl, RG.st fun _ _ => by kernel_rfl, RG.st fun _ _ => by kernel_rfl, RG.mk 4 46 fun _ _ => by kernel_rfl, RG.pt i85 (by kernel_rfl), RG.st fun _ _ => by kernel_rfl, trivial⟩ ?_
  intro j4 a4 w4 M4
  repeat refine wp_seq ?_
  refine M4.tx0 (F99n_4 x) [(2, (.p 1 0)), (3, (.v (.bool false))), (26, (.v (.bool true)))] (by kernel_rfl) ⟨RG.st fun _ _ => by kernel_rfl, RG.st fun _ _ => by kernel_rfl, trivial⟩ ?_
  intro a5 w5 M5
  repeat refine wp_seq ?_
  refine wp_cond_true (M5.ev (by kernel_rfl)) ?_
  repeat refine wp_seq ?_
  refine M5.tx (F99n_5 x) [] [(1, 1, (ws (0 : Fin P) ++ (ws (0 : Fin P))))] [(ws x), (ws (0 : Fin P) ++ (ws (0 : Fin P))), gl0, (ws c3), (ws (0 : Fin P))] [(2, (.p 1 0)), (3, (.v (.bool false)))] (by kernel_rfl) (by kernel_rfl) ⟨RG.se (zero_pv (P := P)) fun _ _ => by kernel_rfl, RG.pt i109 (by kernel_rfl), RG.st fun _ _ => by kernel_rfl, trivial⟩ ?_
  intro a6 w6 M6
  refine wp_ret ?_
  refine bodyPost_ret (v := (.tuple #[(pv (0 : Fin P) (0 : Fin P)), (.bool false)])) (RG.results_rt M6.st 2 3 48 rfl 1 _ rfl (M6.at (s := (.p 1 0)) (by kernel_rfl)) _ (M6.at (s := (.v (.bool false))) (by kernel_rfl)) u109 i109) M6.sl.defers ?_
  exact ⟨_, rfl, M6.st.bel.below, rfl⟩
def F77_0 : List RG.It := [.m 1 [] 0, .m 2 [] 1]
def F77_1 (x y c1 : Fin P) : List RG.It := [.s 3 [] (.p 0 0), .x 4 [(3, 0)] (fv x), .c 5 [] gv0, .x 6 [] (fv (0 : Fin P)), .s 7 [] (.p 0 4), .x 8 [(7, 4)] (fv y), .c 9 [(5, 2), (6, 3), (8, 5)] (fv c1), .x 10 [(4, 1), (9, 6)] (pv x c1), .u [(10, 7)] 1]
end Go.Proofs.YticolhhalbbogacGreat
namespace Go.Proofs.YticolhhalbbogacGreat
open Go.RowKit Go.Sort Go.Deep
theorem readS_of {w W : World} {k0 k1 k6 a b c d g0 g1 g2 : Nat} (h : Kept w k0 [⟨k6, 0, a, b, c, d⟩, ⟨k0, 0, g0, g1, g2, 0⟩, ⟨k1, 0, 0, 0, 0, 0⟩] W) : W.cell? ⟨k6, 0, none⟩ = some (.int .u64 (a : Int)) ∧ W.cell? ⟨k6, 1, none⟩ = some (.int .u64 (b : Int)) ∧ W.cell? ⟨k6, 2, none⟩ = some (.int .u64 (c : Int)) ∧ W.cell? ⟨k6, 3, none⟩ = some (.int .u64 (d : Int)) ∧ W.cell? ⟨k0, 0, none⟩ = some (.int .u64 (g0 : Int)) ∧ W.cell? ⟨k0, 1, none⟩ = some (.int .u64 (g1 : Int)) ∧ W.cell? ⟨k0, 2, none⟩ = some (.int .u64 (g2 : Int)) ∧ W.cell? ⟨k0, 3, none⟩ = some (.int .u64 0) ∧ Kept w k0 [⟨k6, 0, a, b, c, d⟩, ⟨k0, 0, g0, g1, g2, 0⟩, ⟨k1, 0, 0, 0, 0, 0⟩] W := ⟨h.head.c0, h.head.c1, h.head.c2, h.head.c3, h.tail.head.c0, h.tail.head.c1, h.tail.head.c2, h.tail.head.c3, h⟩
theorem readS_get {w W : World} {k0 k1 k6 a b c d g0 g1 g2 : Nat} (h : W.cell? ⟨k6, 0, none⟩ = some (.int .u64 (a : Int)) ∧ W.cell? ⟨k6, 1, none⟩ = some (.int .u64 (b : Int)) ∧ W.cell? ⟨k6, 2, none⟩ = some (.int .u64 (c : Int)) ∧ W.cell? ⟨k6, 3, none⟩ = some (.int .u64 (d : Int)) ∧ W.cell? ⟨k0, 0, none⟩ = some (.int .u64 (g0 : Int)) ∧ W.cell? ⟨k0, 1, none⟩ = some (.int .u64 (g1 : Int)) ∧ W.cell? ⟨k0, 2, none⟩ = some (.int .u64 (g2 : Int)) ∧ W.cell? ⟨k0, 3, none⟩ = some (.int .u64 0) ∧ Kept w k0 [⟨k6, 0, a, b, c, d⟩, ⟨k0, 0, g0, g1, g2, 0⟩, ⟨k1, 0, 0, 0, 0, 0⟩] W) : Kept w k0 [⟨k6, 0, a, b, c, d⟩, ⟨k0, 0, g0, g1, g2, 0⟩, ⟨k1, 0, 0, 0, 0, 0⟩] W := h.2.2.2.2.2.2.2.2
theorem readS_alloc {w W : World} {k0 k1 k6 a b c d g0 g1 g2 : Nat} {o : Obj} (h : W.cell? ⟨k6, 0, none⟩ = some (.int .u64 (a : Int)) ∧ W.cell? ⟨k6, 1, none⟩ = some (.int .u64 (b : Int)) ∧ W.cell? ⟨k6, 2, none⟩ = some (.int .u64 (c : Int)) ∧ W.cell? ⟨k6, 3, none⟩ = some (.int .u64 (d : Int)) ∧ W.cell? ⟨k0, 0, none⟩ = some (.int .u64 (g0 : Int)) ∧ W.cell? ⟨k0, 1, none⟩ = some (.int .u64 (g1 : Int)) ∧ W.cell? ⟨k0, 2, none⟩ = some (.int .u64 (g2 : Int)) ∧ W.cell? ⟨k0, 3, none⟩ = some (.int .u64 0) ∧ Kept w k0 [⟨k6, 0, a, b, c, d⟩, ⟨k0, 0, g0, g1, g2, 0⟩, ⟨k1, 0, 0, 0, 0, 0⟩] W) : (W.alloc o).cell? ⟨k6, 0, none⟩ = some (.int .u64 (a : Int)) ∧ (W.alloc o).cell? ⟨k6, 1, none⟩ = some (.int .u64 (b : Int)) ∧ (W.alloc o).cell? ⟨k6, 2, none⟩ = some (.int .u64 (c : Int)) ∧ (W.alloc o).cell? ⟨k6, 3, none⟩ = some (.int .u64 (d : Int)) ∧ (W.alloc o).cell? ⟨k0, 0, none⟩ = some (.int .u64 (g0 : Int)) ∧ (W.alloc o).cell? ⟨k0, 1, none⟩ = some (.int .u64 (g1 : Int)) ∧ (W.alloc o).cell? ⟨k0, 2, none⟩ = some (.int .u64 (g2 : Int)) ∧ (W.alloc o).cell? ⟨k0, 3, none⟩ = some (.int .u64 0) ∧ Kept w k0 [⟨k6, 0, a, b, c, d⟩, ⟨k0, 0, g0, g1, g2, 0⟩, ⟨k1, 0, 0, 0, 0, 0⟩] (W.alloc o) := readS_of ((readS_get h).alloc o)
theorem readS_allocd {w W : World} {k0 k1 k6 a b c d g0 g1 g2 : Nat} {o : Obj} (h : W.drew.cell? ⟨k6, 0, none⟩ = some (.int .u64 (a : Int)) ∧ W.drew.cell? ⟨k6, 1, none⟩ = some (.int .u64 (b : Int)) ∧ W.drew.cell? ⟨k6, 2, none⟩ = some (.int .u64 (c : Int)) ∧ W.drew.cell? ⟨k6, 3, none⟩ = some (.int .u64 (d : Int)) ∧ W.drew.cell? ⟨k0, 0, none⟩ = some (.int .u64 (g0 : Int)) ∧ W.drew.cell? ⟨k0, 1, none⟩ = some (.int .u64 (g1 : Int)) ∧ W.drew.cell? ⟨k0, 2, none⟩ = some (.int .u64 (g2 : Int)) ∧ W.drew.cell? ⟨k0, 3, none⟩ = some (.int .u64 0) ∧ Kept w k0 [⟨k6, 0, a, b, c, d⟩, ⟨k0, 0, g0, g1, g2, 0⟩, ⟨k1, 0, 0, 0, 0, 0⟩] W.drew) : (W.alloc o).drew.cell? ⟨k6, 0, none⟩ = some (.int .u64 (a : Int)) ∧ (W.alloc o).drew.cell? ⟨k6, 1, none⟩ = some (.int .u64 (b : Int)) ∧ (W.alloc o).drew.cell? ⟨k6, 2, none⟩ = some (.int .u64 (c : Int)) ∧ (W.alloc o).drew.cell? ⟨k6, 3, none⟩ = some (.int .u64 (d : Int)) ∧ (W.alloc o).drew.cell? ⟨k0, 0, none⟩ = some (.int .u64 (g0 : Int)) ∧ (W.alloc o).drew.cell? ⟨k0, 1, none⟩ = some (.int .u64 (g1 : Int)) ∧ (W.alloc o).drew.cell? ⟨k0, 2, none⟩ = some (.int .u64 (g2 : Int)) ∧ (W.alloc o).drew.cell? ⟨k0, 3, none⟩ = some (.int .u64 0) ∧ Kept w k0 [⟨k6, 0, a, b, c, d⟩, ⟨k0, 0, g0, g1, g2, 0⟩, ⟨k1, 0, 0, 0, 0, 0⟩] (W.alloc o).drew := readS_of (((readS_get h).undrew).alloc o).drew
set_option maxHeartbeats 1000000 in
theorem Read_len (pv : Value) (p : Option Addr) (n cap : Nat) (w : World) (g0 g1 g2 : Nat) (hp : pv = .agg #[.int .u64 (g0 : Int), .int .u64 (g1 : Int), .int .u64 (g2 : Int), .int .u64 0]) (hn : n ≠ 32) :
    Calls Tryz.prog 40 #[pv, .slice p n cap] w (Ret fun e w' => Below w.heap.size w w' ∧ e = .tuple #[.agg #[.int .u64 0, .int .u64 0, .int .u64 0, .int .u64 0], .bool false]) := by
  subst hp
  have h1 : ¬ (n : Int) = 32 := by omega
  go_enter Tryz.func40, Tryz.ntmps40
  go_wp2
  refine bodyPost_ret (v := ?v) ?hr rfl ?hR
  case hr => simp [results, Tryz.results40, go_sem]; rfl
  exact ⟨_, rfl, below2 _ _ _, rfl⟩
set_option maxHeartbeats 4000000 in
set_option maxRecDepth 100000 in
theorem Read_any (g0 g1 g2 P g o cap : Nat) (bs : Bs) (hG : Gap g0 g1 g2 P) (w : World) (hs : bs.size = 32) (hc : 32 ≤ cap) (hg : g < w.heap.size) (hB : Holds encB w g o bs) :
    Calls Tryz.prog 40 #[.agg #[.int .u64 (g0 : Int), .int .u64 (g1 : Int), .int .u64 (g2 : Int), .int .u64 0], .slice (some ⟨g, o, none⟩) 32 cap] w
      (Ret fun e w' => Below w.heap.size w w' ∧ ((beV bs.toList < P ∧ ∃ v, e = .tuple #[v, .bool true] ∧ Four v (beV bs.toList)) ∨ (P ≤ beV bs.toList ∧ e = .tuple #[.agg #[.int .u64 0, .int .u64 0, .int .u64 0, .int .u64 0], .bool false]))) := by
  have HG : Hid (Gap g0 g1 g2 P) := hG
  have HBS : Hid (Holds encB w g o bs) := hB
  have HS : Hid (bs.size = 32) := hs
  clear hG hB hs
  go_enter Tryz.func40, Tryz.ntmps40
  go_wp2_with fail
  have PR := (At4.made w 78 g0 g1 g2 0 rfl).alloc (.cells #[.int .u64 0, .int .u64 0, .int .u64 0, .int .u64 0] 46)
  have RE := At4.made (w.alloc (.cells #[.int .u64 (g0 : Int), .int .u64 (g1 : Int), .int .u64 (g2 : Int), .int .u64 0] 78)) 46 0 0 0 0 (World.size_alloc _ _)
  have KP0 := ((Kept.mk1 (below2 w (.cells #[.int .u64 (g0 : Int), .int .u64 (g1 : Int), .int .u64 (g2 : Int), .int .u64 0] 78) (.cells #[.int .u64 0, .int .u64 0, .int .u64 0, .int .u64 0] 46)) (below2 w (.cells #[.int .u64 (g0 : Int), .int .u64 (g1 : Int), .int .u64 (g2 : Int), .int .u64 0] 78) (.cells #[.int .u64 0, .int .u64 0, .int .u64 0, .int .u64 0] 46)).size).cons RE.blk).cons PR.blk
  have HB0 := Holds.below HBS.out (below2 w (.cells #[.int .u64 (g0 : Int), .int .u64 (g1 : Int), .int .u64 (g2 : Int), .int .u64 0] 78) (.cells #[.int .u64 0, .int .u64 0, .int .u64 0, .int .u64 0] 46)) hg
  clear PR RE
  generalize World.alloc _ _ = W0 at KP0 HB0 ⊢
  refine (fromBytes_any (some ⟨g, o, none⟩) g o 32 cap bs _ (Nat.le_refl 32) hc HS.out (Or.inr ⟨rfl, HB0⟩)).mono ?_
  rintro e w1 ⟨v, rfl, hb1, hF⟩
  obtain ⟨a, b, c, d, rfl, ha, hb, hc', hd, es⟩ := id hF
  have HF : Hid (Four _ _) := hF
  have K1 := KP0.call hb1
  clear es hF hb1 KP0 HB0
  go_wp2_with fail
  have KP := (K1.alloc (.cells #[.int .u64 (a : Int), .int .u64 (b : Int), .int .u64 (c : Int), .int .u64 (d : Int)] 46)).cons (At4.made w1 46 a b c d rfl).blk
  have q60 : w1.heap.size ≠ w.heap.size := Nat.ne_of_gt K1.head.lt
  clear K1
  generalize World.alloc _ _ = W1 at KP ⊢
  generalize w1.heap.size = k6 at KP q60 ⊢
  generalize h1 : w.heap.size + 1 = k1 at KP ⊢
  have Q1 : Hid (w.heap.size ≤ k1) := by unfold Hid; omega
  generalize h0 : w.heap.size = k0 at KP Q1 hg q60 ⊢
  have H0 : Hid (w.heap.size = k0) := h0
  clear h0 h1
  go_cut [8] (fun s8 wx => ∃ k : Nat, s8 = .int .u64 (k : Int) ∧ k ≤ 1 ∧ Hid (∃ t, t < top ∧ t + top * k = beV bs.toList + val g0 g1 g2 0) ∧ Kept w k0 [⟨k6, 0, a, b, c, d⟩, ⟨k0, 0, g0, g1, g2, 0⟩, ⟨k1, 0, 0, 0, 0, 0⟩] wx)
  case first =>
    go_region_held3 (fun w' => w'.cell? ⟨k6, 0, none⟩ = some (.int .u64 (a : Int)) ∧ w'.cell? ⟨k6, 1, none⟩ = some (.int .u64 (b : Int)) ∧ w'.cell? ⟨k6, 2, none⟩ = some (.int .u64 (c : Int)) ∧ w'.cell? ⟨k6, 3, none⟩ = some (.int .u64 (d : Int)) ∧ w'.cell? ⟨k0, 0, none⟩ = some (.int .u64 (g0 : Int)) ∧ w'.cell? ⟨k0, 1, none⟩ = some (.int .u64 (g1 : Int)) ∧ w'.cell? ⟨k0, 2, none⟩ = some (.int .u64 (g2 : Int)) ∧ w'.cell? ⟨k0, 3, none⟩ = some (.int .u64 0) ∧ Kept w k0 [⟨k6, 0, a, b, c, d⟩, ⟨k0, 0, g0, g1, g2, 0⟩, ⟨k1, 0, 0, 0, 0, 0⟩] w') (first | (with_reducible exact readS_of KP) | (with_reducible exact readS_of KP.drew) | (with_reducible exact readS_allocd (by assumption)) | (with_reducible exact readS_alloc (by assumption)) | (with_reducible exact readS_of (KP.alloc _)) | (with_reducible exact readS_of (KP.set4' M7 (fun x hx => Nat.ne_of_gt (N7 x hx)) _ _ _ _)) | (with_reducible exact readS_of (KP.alloc _).drew) | (with_reducible exact readS_of (KP.set4' M7 (fun x hx => Nat.ne_of_gt (N7 x hx)) _ _ _ _).drew) | fail) (first | (go_at_call 69; refine (four_any _ _ HF.out _).mono ?_; rintro e w2 ⟨v, rfl, hb1, rfl⟩; (try (with_reducible have T1 := T.call hb1; clear T; have T := T1; clear T1)); (try (first | (with_reducible have T := (At4.made _ 76 0 0 0 0 rfl).call hb1) | (with_reducible have T := (At4.made _ 76 0 0 0 0 rfl).drew.call hb1)); have N7 := KP.lts; have M7 := KP.le); have KP1 := Kept.call (readS_get (by assumption)) hb1; clear KP; have KP := KP1; clear KP1 hb1) | (go_at_call 68; refine (plus_any _ _ _ _ HF.out (Four.mk HG.out.h0 HG.out.h1 HG.out.h2 (by decide) rfl) _).mono ?_; rintro e w2 ⟨v, rfl, hb1, v2, t, k, rfl, hF2, hk, he⟩; obtain ⟨a', b', c', d', rfl, ha', hb', hc', hd', es⟩ := id hF2; have HT : Hid (t < top ∧ t + top * k = beV bs.toList + val g0 g1 g2 0) := ⟨hF2.lt, he⟩; clear es he hF2; (try (with_reducible have T1 := T.call hb1; clear T; have T := T1; clear T1)); (try (first | (with_reducible have T := (At4.made _ 76 0 0 0 0 rfl).call hb1) | (with_reducible have T := (At4.made _ 76 0 0 0 0 rfl).drew.call hb1)); have N7 := KP.lts; have M7 := KP.le); have KP1 := Kept.call (readS_get (by assumption)) hb1; clear KP; have KP := KP1; clear KP1 hb1; (try (obtain ⟨tc0, tc1, tc2, tc3, tf⟩ := id T; have zt := T.lt))))
    all_goals (try go_wp2)
    all_goals (have HX : Hid (∃ t, t < top ∧ t + top * k = beV bs.toList + val g0 g1 g2 0) := ⟨t, HT.out⟩)
    all_goals (go_meet; first | (with_reducible exact ⟨k, rfl, hk, HX, KP.alloc _⟩) | (with_reducible exact ⟨k, rfl, hk, HX, (KP.alloc _).drew⟩) | (with_reducible exact ⟨k, rfl, hk, HX, KP.set4' M7 (fun x hx => Nat.ne_of_gt (N7 x hx)) _ _ _ _⟩) | (with_reducible exact ⟨k, rfl, hk, HX, (KP.set4' M7 (fun x hx => Nat.ne_of_gt (N7 x hx)) _ _ _ _).drew⟩) | fail)
  case rest =>
    clear KP
    obtain ⟨k, rfl, hk, HE, KP⟩ := hcut
    have hk' : k = 0 ∨ k = 1 := by omega
    rcases hk' with rfl | rfl
    · obtain ⟨xc0, xc1, xc2, xc3, xf⟩ := KP.head.at4
      obtain ⟨rc0, rc1, rc2, rc3, rf⟩ := KP.tail.tail.head.at4
      have z1 := KP.tail.tail.head.lt
      go_wp2
      have RF := KP.tail.tail.head.at4.self4 a b c d
      unfold set4 at RF
      refine bodyPost_ret (v := ?v0) ?hr0 rfl ?hR0
      case hr0 => simp [results, Tryz.results40, go_sem, RF.c0, RF.c1, RF.c2, RF.c3]; rfl
      refine ⟨_, rfl, ?_, Or.inl ⟨?_, _, rfl, HF.out⟩⟩
      · rw [H0.out]; exact below_set4 KP.bl Q1.out _ _ _ _
      · obtain ⟨t, h1, h2⟩ := HE.out
        have := HG.out.hP
        omega
    · obtain ⟨rc0, rc1, rc2, rc3, rf⟩ := KP.tail.tail.head.at4
      have z1 := KP.tail.tail.head.lt
      go_wp2
      have RF : At4 (set4 wc k1 (.int .u64 0) (.int .u64 0) (.int .u64 0) (.int .u64 0)) k1 0 0 0 0 := KP.tail.tail.head.at4.self4 0 0 0 0
      unfold set4 at RF
      refine bodyPost_ret (v := ?v1) ?hr1 rfl ?hR1
      case hr1 => simp [results, Tryz.results40, go_sem, RF.c0, RF.c1, RF.c2, RF.c3]; rfl
      refine ⟨_, rfl, ?_, Or.inr ⟨?_, rfl⟩⟩
      · rw [H0.out]; exact below_set4 KP.bl Q1.out _ _ _ _
      · obtain ⟨t, h1, h2⟩ := HE.out
        have := HG.out.hP
        omega
end Go.Proofs.YticolhhalbbogacGreat
namespace Go.Proofs.YticolhhalbbogacGreat
open Go.RowKit Go.Sort Go.Deep
/-- Numbers of four words, one behind the other, in a block: the first i of n are f. -/
def Nums (W : World) (k n i : Nat) (f : Nat → Nat) : Prop := ∀ j, j < n → ∃ a b c d : Nat, (Blk.mk k (j * 4) a b c d).at W ∧ (j < i → Four (.agg #[.int .u64 (a : Int), .int .u64 (b : Int), .int .u64 (c : Int), .int .u64 (d : Int)]) (f j))
theorem Nums.call {W w1 : World} {k n i : Nat} {f : Nat → Nat} (h : Nums W k n i f) (hb : Below W.heap.size W w1) : Nums w1 k n i f := fun j hj => by
  obtain ⟨a, b, c, d, h1, h2⟩ := h j hj
  exact ⟨a, b, c, d, h1.call hb, h2⟩
theorem Nums.drew {W : World} {k n i : Nat} {f : Nat → Nat} (h : Nums W k n i f) : Nums W.drew k n i f := fun j hj => by
  obtain ⟨a, b, c, d, h1, h2⟩ := h j hj
  exact ⟨a, b, c, d, ⟨h1.c0, h1.c1, h1.c2, h1.c3, h1.f⟩, h2⟩
theorem Nums.put {W : World} {k n i x y z t : Nat} {f : Nat → Nat} (h : Nums W k n i f) (hi : i < n) (hF : Four (.agg #[.int .u64 (x : Int), .int .u64 (y : Int), .int .u64 (z : Int), .int .u64 (t : Int)]) (f i)) :
    Nums ((((W.setCell ⟨k, i * 4, none⟩ (.int .u64 (x : Int))).setCell ⟨k, i * 4 + 1, none⟩ (.int .u64 (y : Int))).setCell ⟨k, i * 4 + 2, none⟩ (.int .u64 (z : Int))).setCell ⟨k, i * 4 + 3, none⟩ (.int .u64 (t : Int))) k n (i + 1) f := fun j hj => by
  obtain ⟨a, b, c, d, h1, h2⟩ := h j hj
  by_cases hji : j = i
  · subst hji
    exact ⟨x, y, z, t, h1.put x y z t, fun _ => hF⟩
  · refine ⟨a, b, c, d, ?_, fun h3 => h2 (by omega)⟩
    exact (((h1.off (by simp only; omega) _).off (by simp only; omega) _).off (by simp only; omega) _).off (by simp only; omega) _
theorem made_at (N j : Nat) (hj : j < N) : (madeCells #[.int .u64 0, .int .u64 0, .int .u64 0, .int .u64 0] N)[j]? = some (.int .u64 0) := by
  unfold madeCells
  rw [Array.getElem?_map, Array.getElem?_range]
  have h : j % 4 = 0 ∨ j % 4 = 1 ∨ j % 4 = 2 ∨ j % 4 = 3 := by omega
  simp only [hj, if_true, Option.map_some, List.size_toArray, List.length_cons, List.length_nil, Nat.zero_add]
  rcases h with h | h | h | h <;> rw [h] <;> rfl
theorem Nums.new (w : World) (t : TypeId) (n : Nat) (f : Nat → Nat) : Nums (w.alloc (.cells (madeCells #[.int .u64 0, .int .u64 0, .int .u64 0, .int .u64 0] (n * 4)) t)) w.heap.size n 0 f := fun j hj =>
  ⟨0, 0, 0, 0, ⟨by rw [World.cell?_alloc_new]; exact made_at _ _ (by simp only; omega), by rw [World.cell?_alloc_new]; exact made_at _ _ (by simp only; omega), by rw [World.cell?_alloc_new]; exact made_at _ _ (by simp only; omega), by rw [World.cell?_alloc_new]; exact made_at _ _ (by simp only; omega), fun o => World.frozen?_alloc_new _ _ _ _⟩, fun h => by omega⟩
theorem infoN : (Tryz.prog.info? 46).map (fun i => (i.zero, i.size, i.bytes)) = some (some (.agg #[.int .u64 0, .int .u64 0, .int .u64 0, .int .u64 0]), 4, 32) := by kernel_rfl
theorem sliceN : Tryz.prog.underlying 54 = some (.slice 46) := by kernel_rfl
theorem mkNums (n : Nat) (hn : n ≤ 1048576) (w : World) : (Instr.makeSlice 54 (.int .i64 (n : Int)) (.int .i64 (n : Int))).run Tryz.prog w = .ok (.slice (some ⟨w.heap.size, 0, none⟩) n n) (w.alloc (.cells (madeCells #[.int .u64 0, .int .u64 0, .int .u64 0, .int .u64 0] (n * 4)) 46)) := by
  obtain ⟨i, hi, hzz⟩ := Option.map_eq_some_iff.1 infoN
  simp only [Prod.mk.injEq] at hzz
  obtain ⟨hz, hs, hb⟩ := hzz
  have h := run_make (P := Tryz.prog) w 54 46 i _ sliceN hi hz .i64 .i64 (n : Int) (n : Int) (by omega) (Int.le_refl _) (by rw [hb]; omega) (by omega)
  rw [hs] at h
  exact h
/-- Bytes as an argument: where there are 32, they lie there. -/
def Arg (w : World) (v : Value) (bs : Bs) : Prop := ∃ (p : Option Addr) (n cap : Nat), v = .slice p n cap ∧ bs.size = n ∧ (n = 32 → ∃ g o, p = some ⟨g, o, none⟩ ∧ 32 ≤ cap ∧ g < w.heap.size ∧ Holds encB w g o bs)
theorem Arg.below {w w1 : World} {v : Value} {bs : Bs} (h : Arg w v bs) (hb : Below w.heap.size w w1) : Arg w1 v bs := by
  obtain ⟨p, n, cap, rfl, hs, h1⟩ := h
  refine ⟨p, n, cap, rfl, hs, fun h2 => ?_⟩
  obtain ⟨g, o, h3, h4, h6, h7⟩ := h1 h2
  exact ⟨g, o, h3, h4, Nat.lt_of_lt_of_le h6 hb.size, Holds.below h7 hb h6⟩
/-- Bytes are a number of the prime. -/
def IsNum (P : Nat) (bs : Bs) : Prop := bs.size = 32 ∧ beV bs.toList < P
theorem Read_arg (g0 g1 g2 P : Nat) (v : Value) (bs : Bs) (hG : Gap g0 g1 g2 P) (w : World) (hv : Arg w v bs) :
    Calls Tryz.prog 40 #[.agg #[.int .u64 (g0 : Int), .int .u64 (g1 : Int), .int .u64 (g2 : Int), .int .u64 0], v] w
      (Ret fun e w' => Below w.heap.size w w' ∧ ∃ (a b c d : Nat) (ok : Bool), e = .tuple #[.agg #[.int .u64 (a : Int), .int .u64 (b : Int), .int .u64 (c : Int), .int .u64 (d : Int)], .bool ok] ∧ (ok = true → IsNum P bs ∧ Four (.agg #[.int .u64 (a : Int), .int .u64 (b : Int), .int .u64 (c : Int), .int .u64 (d : Int)]) (beV bs.toList)) ∧ (ok = false → ¬ IsNum P bs)) := by
  obtain ⟨p, n, cap, rfl, hs, h1⟩ := hv
  by_cases hn : n = 32
  · subst hn
    obtain ⟨g, o, rfl, h4, h6, h7⟩ := h1 rfl
    refine (Read_any g0 g1 g2 P g o cap bs hG w hs h4 h6 h7).mono ?_
    rintro e w' ⟨v, rfl, hb, ⟨hl, v', rfl, a, b, c, d, rfl, h8⟩ | ⟨hl, rfl⟩⟩
    · exact ⟨_, rfl, hb, a, b, c, d, true, rfl, fun _ => ⟨⟨hs, hl⟩, ⟨a, b, c, d, rfl, h8⟩⟩, fun h => Bool.noConfusion h⟩
    · exact ⟨_, rfl, hb, 0, 0, 0, 0, false, rfl, fun h => Bool.noConfusion h, fun _ h => Nat.not_le_of_lt h.2 hl⟩
  · refine (Read_len _ p n cap w g0 g1 g2 rfl hn).mono ?_
    rintro e w' ⟨v, rfl, hb, rfl⟩
    exact ⟨_, rfl, hb, 0, 0, 0, 0, false, rfl, fun h => Bool.noConfusion h, fun _ h => hn (hs.symm.trans h.1)⟩
/-- A list of arguments in a block. -/
def Args (w : World) (q : Option Addr) (n : Nat) (L : Nat → Bs) : Prop := 0 < n → ∃ gg, q = some ⟨gg, 0, none⟩ ∧ gg < w.heap.size ∧ ∀ j, j < n → ∃ v, w.cell? ⟨gg, j, none⟩ = some v ∧ Arg w v (L j)
/-- What numbers answers. -/
def NumsR (w : World) (P n : Nat) (L : Nat → Bs) (e : Value) (w' : World) : Prop :=
  ((∀ j, j < n → IsNum P (L j)) ∧ ∃ k, w.heap.size ≤ k ∧ e = .tuple #[.slice (some ⟨k, 0, none⟩) n n, .int .i64 0] ∧ Nums w' k n n (fun j => beV (L j).toList)) ∨
  ((∃ j, j < n ∧ ¬ IsNum P (L j)) ∧ e = .tuple #[.slice none 0 0, .int .i64 3])
end Go.Proofs.YticolhhalbbogacGreat
namespace Go.Proofs.YticolhhalbbogacGreat
open Go.RowKit Go.Sort
theorem u5 : (Tryz.prog.underlying 5).map (·.isRow) = some false := by kernel_rfl
theorem und5 : Tryz.prog.underlying 5 = some (.int .u8) := by kernel_rfl
theorem cells5 : Tryz.prog.cellsOf 5 = 1 := by kernel_rfl
theorem sl33 (g o cap : Nat) (hc : 33 ≤ cap) (w : World) : (Instr.sliceAt 22 (.slice (some ⟨g, o, none⟩) 33 cap) (some (.int .i64 1)) none none).run Tryz.prog w = .ok (.slice (some ⟨g, o + 1, none⟩) 32 (cap - 1)) w := by
  go_simp
  omega
theorem at23 (g o n cap : Nat) (hn : 0 < n) (w : World) : (Instr.indexAt 22 (.slice (some ⟨g, o, none⟩) n cap) (.int .i64 0)).run Tryz.prog w = .ok (.pointer (some ⟨g, o, none⟩)) w := by
  have h : (0 : Int) < (n : Int) := by omega
  go_simp
theorem part5 (xs : Array Value) (i : Nat) (v : Value) (h : xs[i]? = some v) (w : World) : (part 5 xs i).run Tryz.prog w = .ok v w := by
  go_simp
theorem eqI (xs ys : Array Value) (a b : Nat → Int) (D : Nat) (w : World) : ∀ (is : List Nat), (∀ i ∈ is, xs[i]? = some (.int .u8 (a i))) → (∀ i ∈ is, ys[i]? = some (.int .u8 (b i))) →
    (Op.eqItems (D + 1) 5 1 xs ys is).run Tryz.prog w = .ok (decide (∀ i ∈ is, a i = b i)) w
  | [], _, _ => by
    rw [Op.eqItems]
    simp
  | i :: is, hx, hy => by
    have ih := eqI xs ys a b D w is (fun j hj => hx j (List.mem_cons_of_mem _ hj)) (fun j hj => hy j (List.mem_cons_of_mem _ hj))
    have p1 := part5 xs (i * 1) _ (by rw [Nat.mul_one]; exact hx i List.mem_cons_self) w
    have p2 := part5 ys (i * 1) _ (by rw [Nat.mul_one]; exact hy i List.mem_cons_self) w
    have p3 := run_equalIn_int (P := Tryz.prog) w D 5 .u8 .u8 (a i) (b i) und5
    rw [Op.eqItems]
    simp only [Sem.run_bind, p1, p2, p3, Result.andThen_ok]
    by_cases h : a i = b i
    · simp only [h, beq_self_eq_true, Bool.not_true, Bool.false_eq_true, if_false, ih, List.forall_mem_cons, true_and]
    · have h2 : (a i == b i) = false := by simpa using h
      simp only [h2, Bool.not_false, if_true, Sem.run_pure, List.forall_mem_cons, h, false_and, decide_false]
/-- 33 bytes as cells. -/
def bl33 (bs : Bs) : List Value := bs.toList.map encB
def z33 : List Value := List.replicate 33 (.int .u8 0)
theorem bl33_at (bs : Bs) (i : Nat) (h : i < bs.size) : (bl33 bs)[i]? = some (.int .u8 (ub bs[i]!)) := by
  unfold bl33
  rw [List.getElem?_map, Array.getElem?_toList, Array.getElem?_eq_getElem h, getElem!_pos bs i h]
  rfl
@[reducible] def Zero33 (bs : Bs) : Prop := ∀ i ∈ List.range 33, ub bs[i]! = 0
theorem bl33_length {bs : Bs} (h : bs.size = 33) : (bl33 bs).length = 33 := by unfold bl33; rw [List.length_map, Array.length_toList, h]
theorem bl33_range {bs : Bs} {w : World} {g o : Nat} (hB : Holds encB w g o bs) : w.rangeAt g o (bl33 bs) := fun j v hv => by
  have hj : j < bs.size := by
    have := (List.getElem?_eq_some_iff.1 hv).1
    unfold bl33 at this
    rwa [List.length_map, Array.length_toList] at this
  rw [bl33_at bs j hj] at hv
  rw [(hB j hj).1]
  exact hv
/-- All but the first. -/
def tl33 (bs : Bs) : Bs := bs.extract 1 33
theorem tl33_size {bs : Bs} (h : bs.size = 33) : (tl33 bs).size = 32 := by unfold tl33; rw [Array.size_extract, h]; rfl
theorem tl33_holds {bs : Bs} {w : World} {g o : Nat} (h : bs.size = 33) (hB : Holds encB w g o bs) : Holds encB w g (o + 1) (tl33 bs) :=
  Holds.part hB (by rw [tl33_size h, h]; decide) (fun j hj => by
    rw [tl33_size h] at hj
    unfold tl33
    rw [getElem!_pos _ j (by rw [Array.size_extract, h]; omega), getElem!_pos _ (1 + j) (by rw [h]; omega), Array.getElem_extract])
variable {P : Nat} [NeZero P]
theorem Read_y (C : Fld P) {g o cap : Nat} {bs : Bs} (hs : bs.size = 32) (hc : 32 ≤ cap) {x : Fin P} (hx : beV bs.toList = x.val) {w : World} (hg : g < w.heap.size) (hB : Holds encB w g o bs) :
    Calls Tryz.prog 40 #[gv0, .slice (some ⟨g, o, none⟩) 32 cap] w (Ret fun e w' => Below w.heap.size w w' ∧ e = .tuple #[fv x, .bool true]) :=
  (Read_any 4294968273 0 0 P g o cap bs C.gap w hs hc hg hB).mono (by
    rintro e w' ⟨v, rfl, hb, ⟨hl, v', rfl, h8⟩ | ⟨hl, rfl⟩⟩
    · refine ⟨_, rfl, hb, ?_⟩
      rw [hx] at h8
      rw [h8.nv]
    · have := x.isLt
      omega)
theorem Read_n (C : Fld P) {g o cap : Nat} {bs : Bs} (hs : bs.size = 32) (hc : 32 ≤ cap) (hx : ¬ beV bs.toList < P) {w : World} (hg : g < w.heap.size) (hB : Holds encB w g o bs) :
    Calls Tryz.prog 40 #[gv0, .slice (some ⟨g, o, none⟩) 32 cap] w (Ret fun e w' => Below w.heap.size w w' ∧ e = .tuple #[fv (0 : Fin P), .bool false]) :=
  (Read_any 4294968273 0 0 P g o cap bs C.gap w hs hc hg hB).mono (by
    rintro e w' ⟨v, rfl, hb, ⟨hl, v', rfl, h8⟩ | ⟨hl, rfl⟩⟩
    · exact absurd hl hx
    · refine ⟨_, rfl, hb, ?_⟩
      rw [← zero_fv])
/-- Bytes as a pair. -/
def rdx (P : Nat) [NeZero P] (bs : Bs) : Fin P := Fin.ofNat P (beV (tl33 bs).toList)
def rd (P : Nat) [NeZero P] (bs : Bs) : Option (Fin P × Fin P) :=
  if bs.size = 33 then
    if Zero33 bs then some (0, 0) else
    if ub bs[0]! = 2 ∨ ub bs[0]! = 3 then
      if beV (tl33 bs).toList < P then
        (rt (rdx P bs * rdx P bs * rdx P bs + 7)).map (fun y => (rdx P bs, if ub bs[0]! = 3 then 0 - y else y))
      else none
    else none
  else none
def rdV : Option (Fin P × Fin P) → Value
  | none => .tuple #[pv (0 : Fin P) 0, .bool false]
  | some p => .tuple #[pv p.1 p.2, .bool true]
end Go.Proofs.YticolhhalbbogacGreat
namespace Go.Proofs.YticolhhalbbogacGreat
open Go.RowKit Go.Sort
variable {P : Nat} [NeZero P]
def F71a_0 (x : Fin P) : List RG.It := [.m 2 [] 0, .x 3 [] (.bool false)]
def F71a_1 (q : Option Addr) (n cap : Nat) (x : Fin P) : List RG.It := [.x 7 [] (.slice q n cap), .x 8 [(7, 0)] (.int .i64 (n : Int)), .x 9 [(8, 1)] (.bool true)]
def F71a_2 (x : Fin P) : List RG.It := [.x 10 [] (pv (0 : Fin P) (0 : Fin P)), .u [(10, 0)] 0, .x 3 [] (.bool false)]
def F71b_0 (m : Int) (x : Fin P) : List RG.It := [.m 2 [] 0, .x 3 [] (.bool false)]
def F71b_1 (g o cap : Nat) (x : Fin P) : List RG.It := [.x 7 [] (.slice (some ⟨g, o, none⟩) 33 cap), .x 8 [(7, 0)] (.int .i64 33), .x 9 [(8, 1)] (.bool false)]
def F71b_3 (g o cap : Nat) (bs : Bs) (x : Fin P) : List RG.It := [.x 11 [] (.slice (some ⟨g, o, none⟩) 33 cap), .x 12 [(11, 0)] (.pointer (some ⟨g, o, none⟩)), .x 13 [(12, 1)] (.agg (bl33 bs).toArray), .x 14 [] (.agg z33.toArray), .x 15 [(13, 2), (14, 3)] (.bool true)]
def F71b_4 (x : Fin P) : List RG.It := [.x 16 [] (pv (0 : Fin P) (0 : Fin P)), .u [(16, 0)] 0, .x 3 [] (.bool true)]
def F71c_0 (m : Int) (x : Fin P) : List RG.It := [.m 2 [] 0, .x 3 [] (.bool false)]
def F71c_1 (g o cap : Nat) (x : Fin P) : List RG.It := [.x 7 [] (.slice (some ⟨g, o, none⟩) 33 cap), .x 8 [(7, 0)] (.int .i64 33), .x 9 [(8, 1)] (.bool false)]
def F71c_3 (g o cap : Nat) (bs : Bs) (x : Fin P) : List RG.It := [.x 11 [] (.slice (some ⟨g, o, none⟩) 33 cap), .x 12 [(11, 0)] (.pointer (some ⟨g, o, none⟩)), .x 13 [(12, 1)] (.agg (bl33 bs).toArray), .x 14 [] (.agg z33.toArray), .x 15 [(13, 2), (14, 3)] (.bool false)]
def F71c_5 (g o cap : Nat) (m : Int) (x : Fin P) : List RG.It := [.x 17 [] (.slice (some ⟨g, o, none⟩) 33 cap), .x 18 [(17, 0)] (.pointer (some ⟨g, o, none⟩)), .x 19 [(18, 1)] (.int .u8 m), .x 20 [(19, 2)] (.bool true), .x 21 [(20, 3)] (.bool true), .x 22 [] (.slice (some ⟨g, o, none⟩) 33 cap), .x 23 [(22, 5)] (.pointer (some ⟨g, o, none⟩)), .x 24 [(23, 6)] (.int .u8 m), .x 25 [(24, 7)] (.bool true), .x 26 [(21, 4), (25, 8)] (.bool true)]
def F71c_6 (x : Fin P) : List RG.It := [.x 27 [] (pv (0 : Fin P) (0 : Fin P)), .u [(27, 0)] 0, .x 3 [] (.bool false)]
def F71d2_0 (m : Int) (x : Fin P) : List RG.It := [.m 2 [] 0, .x 3 [] (.bool false)]
def F71d2_1 (g o cap : Nat) (x : Fin P) : List RG.It := [.x 7 [] (.slice (some ⟨g, o, none⟩) 33 cap), .x 8 [(7, 0)] (.int .i64 33), .x 9 [(8, 1)] (.bool false)]
def F71d2_3 (g o cap : Nat) (bs : Bs) (x : Fin P) : List RG.It := [.x 11 [] (.slice (some ⟨g, o, none⟩) 33 cap), .x 12 [(11, 0)] (.pointer (some ⟨g, o, none⟩)), .x 13 [(12, 1)] (.agg (bl33 bs).toArray), .x 14 [] (.agg z33.toArray), .x 15 [(13, 2), (14, 3)] (.bool false)]
def F71d2_5 (g o cap : Nat) (x : Fin P) : List RG.It := [.x 17 [] (.slice (some ⟨g, o, none⟩) 33 cap), .x 18 [(17, 0)] (.pointer (some ⟨g, o, none⟩)), .x 19 [(18, 1)] (.int .u8 2), .x 20 [(19, 2)] (.bool false), .x 21 [(20, 3)] (.bool false), ⟨some 22, [], (.v undef), .pass⟩, ⟨some 23, [], (.v undef), .pass⟩, ⟨some 24, [], (.v undef), .pass⟩, ⟨some 25, [], (.v undef), .pass⟩, .x 26 [(21, 4), (25, 8)] (.bool false)]
def F71d2_7 (g o cap : Nat) (m : Int) (x : Fin P) : List RG.It := [.c 29 [] gv0, .x 30 [] (.slice (some ⟨g, o, none⟩) 33 cap), .x 31 [(30, 1)] (.slice (some ⟨g, o + 1, none⟩) 32 (cap - 1)), .c 32 [(29, 0), (31, 2)] (.tuple #[(fv (0 : Fin P)), (.bool false)]), .x 28 [(32, 3)] (.tuple #[(fv (0 : Fin P)), (.bool false)]), .x 33 [(28, 4)] (fv (0 : Fin P)), .x 34 [(28, 4)] (.bool false), .m 4 [] 1, .u [(4, 7), (33, 5)] 1, .x 5 [(34, 6)] (.bool false)]
def F71d2_8 (x : Fin P) : List RG.It := [.x 35 [] (.bool false), .x 36 [(35, 0)] (.bool true)]
def F71d2_9 (x : Fin P) : List RG.It := [.x 37 [] (pv (0 : Fin P) (0 : Fin P)), .u [(37, 0)] 0, .x 3 [] (.bool false)]
def F71e2_0 (m : Int) (x : Fin P) : List RG.It := [.m 2 [] 0, .x 3 [] (.bool false)]
def F71e2_1 (g o cap : Nat) (x : Fin P) : List RG.It := [.x 7 [] (.slice (some ⟨g, o, none⟩) 33 cap), .x 8 [(7, 0)] (.int .i64 33), .x 9 [(8, 1)] (.bool false)]
def F71e2_3 (g o cap : Nat) (bs : Bs) (x : Fin P) : List RG.It := [.x 11 [] (.slice (some ⟨g, o, none⟩) 33 cap), .x 12 [(11, 0)] (.pointer (some ⟨g, o, none⟩)), .x 13 [(12, 1)] (.agg (bl33 bs).toArray), .x 14 [] (.agg z33.toArray), .x 15 [(13, 2), (14, 3)] (.bool false)]
def F71e2_5 (g o cap : Nat) (x : Fin P) : List RG.It := [.x 17 [] (.slice (some ⟨g, o, none⟩) 33 cap), .x 18 [(17, 0)] (.pointer (some ⟨g, o, none⟩)), .x 19 [(18, 1)] (.int .u8 2), .x 20 [(19, 2)] (.bool false), .x 21 [(20, 3)] (.bool false), ⟨some 22, [], (.v undef), .pass⟩, ⟨some 23, [], (.v undef), .pass⟩, ⟨some 24, [], (.v undef), .pass⟩, ⟨some 25, [], (.v undef), .pass⟩, .x 26 [(21, 4), (25, 8)] (.bool false)]
def F71e2_7 (g o cap : Nat) (m : Int) (x : Fin P) : List RG.It := [.c 29 [] gv0, .x 30 [] (.slice (some ⟨g, o, none⟩) 33 cap), .x 31 [(30, 1)] (.slice (some ⟨g, o + 1, none⟩) 32 (cap - 1)), .c 32 [(29, 0), (31, 2)] (.tuple #[(fv x), (.bool true)]), .x 28 [(32, 3)] (.tuple #[(fv x), (.bool true)]), .x 33 [(28, 4)] (fv x), .x 34 [(28, 4)] (.bool true), .m 4 [] 1, .u [(4, 7), (33, 5)] 1, .x 5 [(34, 6)] (.bool true)]
def F71e2_8 (x : Fin P) : List RG.It := [.x 35 [] (.bool true), .x 36 [(35, 0)] (.bool false)]
def F71e2_10 (m : Int) (x : Fin P) : List RG.It := [.x 39 [] (fv x), .c 40 [(39, 0)] (.tuple #[(pv (0 : Fin P) (0 : Fin P)), (.bool false)]), .x 38 [(40, 1)] (.tuple #[(pv (0 : Fin P) (0 : Fin P)), (.bool false)]), .x 41 [(38, 2)] (pv (0 : Fin P) (0 : Fin P)), .x 42 [(38, 2)] (.bool false), .m 6 [] 2, .u [(6, 5), (41, 3)] 2, .x 5 [(42, 4)] (.bool false)]
def F71e2_11 (x : Fin P) : List RG.It := [.x 43 [] (.bool false), .x 44 [(43, 0)] (.bool false), ⟨some 45, [], (.v undef), .pass⟩, ⟨some 46, [], (.v undef), .pass⟩, ⟨some 47, [], (.v undef), .pass⟩, ⟨some 48, [], (.v undef), .pass⟩, .x 49 [(44, 1), (48, 5)] (.bool false)]
def F71e2_13 (x : Fin P) : List RG.It := [.x 52 [] (pv (0 : Fin P) (0 : Fin P)), .x 53 [] (.bool false), .u [(52, 0)] 0, .x 3 [(53, 1)] (.bool false)]
def F71f_0 (m : Int) (x : Fin P) : List RG.It := [.m 2 [] 0, .x 3 [] (.bool false)]
def F71f_1 (g o cap : Nat) (x : Fin P) : List RG.It := [.x 7 [] (.slice (some ⟨g, o, none⟩) 33 cap), .x 8 [(7, 0)] (.int .i64 33), .x 9 [(8, 1)] (.bool false)]
def F71f_3 (g o cap : Nat) (bs : Bs) (x : Fin P) : List RG.It := [.x 11 [] (.slice (some ⟨g, o, none⟩) 33 cap), .x 12 [(11, 0)] (.pointer (some ⟨g, o, none⟩)), .x 13 [(12, 1)] (.agg (bl33 bs).toArray), .x 14 [] (.agg z33.toArray), .x 15 [(13, 2), (14, 3)] (.bool false)]
def F71f_5 (g o cap : Nat) (x : Fin P) : List RG.It := [.x 17 [] (.slice (some ⟨g, o, none⟩) 33 cap), .x 18 [(17, 0)] (.pointer (some ⟨g, o, none⟩)), .x 19 [(18, 1)] (.int .u8 2), .x 20 [(19, 2)] (.bool false), .x 21 [(20, 3)] (.bool false), ⟨some 22, [], (.v undef), .pass⟩, ⟨some 23, [], (.v undef), .pass⟩, ⟨some 24, [], (.v undef), .pass⟩, ⟨some 25, [], (.v undef), .pass⟩, .x 26 [(21, 4), (25, 8)] (.bool false)]
def F71f_7 (g o cap : Nat) (m : Int) (x : Fin P) : List RG.It := [.c 29 [] gv0, .x 30 [] (.slice (some ⟨g, o, none⟩) 33 cap), .x 31 [(30, 1)] (.slice (some ⟨g, o + 1, none⟩) 32 (cap - 1)), .c 32 [(29, 0), (31, 2)] (.tuple #[(fv x), (.bool true)]), .x 28 [(32, 3)] (.tuple #[(fv x), (.bool true)]), .x 33 [(28, 4)] (fv x), .x 34 [(28, 4)] (.bool true), .m 4 [] 1, .u [(4, 7), (33, 5)] 1, .x 5 [(34, 6)] (.bool true)]
def F71f_8 (x : Fin P) : List RG.It := [.x 35 [] (.bool true), .x 36 [(35, 0)] (.bool false)]
def F71f_10 (m : Int) (x y : Fin P) : List RG.It := [.x 39 [] (fv x), .c 40 [(39, 0)] (.tuple #[(pv x y), (.bool true)]), .x 38 [(40, 1)] (.tuple #[(pv x y), (.bool true)]), .x 41 [(38, 2)] (pv x y), .x 42 [(38, 2)] (.bool true), .m 6 [] 2, .u [(6, 5), (41, 3)] 2, .x 5 [(42, 4)] (.bool true)]
def F71f_11 (g o cap : Nat) (x : Fin P) : List RG.It := [.x 43 [] (.bool true), .x 44 [(43, 0)] (.bool true), .x 45 [] (.slice (some ⟨g, o, none⟩) 33 cap), .x 46 [(45, 2)] (.pointer (some ⟨g, o, none⟩)), .x 47 [(46, 3)] (.int .u8 2), .x 48 [(47, 4)] (.bool false), .x 49 [(44, 1), (48, 5)] (.bool false)]
def F71f_13 (x y : Fin P) : List RG.It := [.x 52 [] (pv x y), .x 53 [] (.bool true), .u [(52, 0)] 0, .x 3 [(53, 1)] (.bool true)]
def F71d3_0 (m : Int) (x : Fin P) : List RG.It := [.m 2 [] 0, .x 3 [] (.bool false)]
def F71d3_1 (g o cap : Nat) (x : Fin P) : List RG.It := [.x 7 [] (.slice (some ⟨g, o, none⟩) 33 cap), .x 8 [(7, 0)] (.int .i64 33), .x 9 [(8, 1)] (.bool false)]
def F71d3_3 (g o cap : Nat) (bs : Bs) (x : Fin P) : List RG.It := [.x 11 [] (.slice (some ⟨g, o, none⟩) 33 cap), .x 12 [(11, 0)] (.pointer (some ⟨g, o, none⟩)), .x 13 [(12, 1)] (.agg (bl33 bs).toArray), .x 14 [] (.agg z33.toArray), .x 15 [(13, 2), (14, 3)] (.bool false)]
def F71d3_5 (g o cap : Nat) (x : Fin P) : List RG.It := [.x 17 [] (.slice (some ⟨g, o, none⟩) 33 cap), .x 18 [(17, 0)] (.pointer (some ⟨g, o, none⟩)), .x 19 [(18, 1)] (.int .u8 3), .x 20 [(19, 2)] (.bool true), .x 21 [(20, 3)] (.bool true), .x 22 [] (.slice (some ⟨g, o, none⟩) 33 cap), .x 23 [(22, 5)] (.pointer (some ⟨g, o, none⟩)), .x 24 [(23, 6)] (.int .u8 3), .x 25 [(24, 7)] (.bool false), .x 26 [(21, 4), (25, 8)] (.bool false)]
def F71d3_7 (g o cap : Nat) (m : Int) (x : Fin P) : List RG.It := [.c 29 [] gv0, .x 30 [] (.slice (some ⟨g, o, none⟩) 33 cap), .x 31 [(30, 1)] (.slice (some ⟨g, o + 1, none⟩) 32 (cap - 1)), .c 32 [(29, 0), (31, 2)] (.tuple #[(fv (0 : Fin P)), (.bool false)]), .x 28 [(32, 3)] (.tuple #[(fv (0 : Fin P)), (.bool false)]), .x 33 [(28, 4)] (fv (0 : Fin P)), .x 34 [(28, 4)] (.bool false), .m 4 [] 1, .u [(4, 7), (33, 5)] 1, .x 5 [(34, 6)] (.bool false)]
def F71d3_8 (x : Fin P) : List RG.It := [.x 35 [] (.bool false), .x 36 [(35, 0)] (.bool true)]
def F71d3_9 (x : Fin P) : List RG.It := [.x 37 [] (pv (0 : Fin P) (0 : Fin P)), .u [(37, 0)] 0, .x 3 [] (.bool false)]
def F71e3_0 (m : Int) (x : Fin P) : List RG.It := [.m 2 [] 0, .x 3 [] (.bool false)]
def F71e3_1 (g o cap : Nat) (x : Fin P) : List RG.It := [.x 7 [] (.slice (some ⟨g, o, none⟩) 33 cap), .x 8 [(7, 0)] (.int .i64 33), .x 9 [(8, 1)] (.bool false)]
def F71e3_3 (g o cap : Nat) (bs : Bs) (x : Fin P) : List RG.It := [.x 11 [] (.slice (some ⟨g, o, none⟩) 33 cap), .x 12 [(11, 0)] (.pointer (some ⟨g, o, none⟩)), .x 13 [(12, 1)] (.agg (bl33 bs).toArray), .x 14 [] (.agg z33.toArray), .x 15 [(13, 2), (14, 3)] (.bool false)]
def F71e3_5 (g o cap : Nat) (x : Fin P) : List RG.It := [.x 17 [] (.slice (some ⟨g, o, none⟩) 33 cap), .x 18 [(17, 0)] (.pointer (some ⟨g, o, none⟩)), .x 19 [(18, 1)] (.int .u8 3), .x 20 [(19, 2)] (.bool true), .x 21 [(20, 3)] (.bool true), .x 22 [] (.slice (some ⟨g, o, none⟩) 33 cap), .x 23 [(22, 5)] (.pointer (some ⟨g, o, none⟩)), .x 24 [(23, 6)] (.int .u8 3), .x 25 [(24, 7)] (.bool false), .x 26 [(21, 4), (25, 8)] (.bool false)]
def F71e3_7 (g o cap : Nat) (m : Int) (x : Fin P) : List RG.It := [.c 29 [] gv0, .x 30 [] (.slice (some ⟨g, o, none⟩) 33 cap), .x 31 [(30, 1)] (.slice (some ⟨g, o + 1, none⟩) 32 (cap - 1)), .c 32 [(29, 0), (31, 2)] (.tuple #[(fv x), (.bool true)]), .x 28 [(32, 3)] (.tuple #[(fv x), (.bool true)]), .x 33 [(28, 4)] (fv x), .x 34 [(28, 4)] (.bool true), .m 4 [] 1, .u [(4, 7), (33, 5)] 1, .x 5 [(34, 6)] (.bool true)]
def F71e3_8 (x : Fin P) : List RG.It := [.x 35 [] (.bool true), .x 36 [(35, 0)] (.bool false)]
def F71e3_10 (m : Int) (x : Fin P) : List RG.It := [.x 39 [] (fv x), .c 40 [(39, 0)] (.tuple #[(pv (0 : Fin P) (0 : Fin P)), (.bool false)]), .x 38 [(40, 1)] (.tuple #[(pv (0 : Fin P) (0 : Fin P)), (.bool false)]), .x 41 [(38, 2)] (pv (0 : Fin P) (0 : Fin P)), .x 42 [(38, 2)] (.bool false), .m 6 [] 2, .u [(6, 5), (41, 3)] 2, .x 5 [(42, 4)] (.bool false)]
def F71e3_11 (x : Fin P) : List RG.It := [.x 43 [] (.bool false), .x 44 [(43, 0)] (.bool false), ⟨some 45, [], (.v undef), .pass⟩, ⟨some 46, [], (.v undef), .pass⟩, ⟨some 47, [], (.v undef), .pass⟩, ⟨some 48, [], (.v undef), .pass⟩, .x 49 [(44, 1), (48, 5)] (.bool false)]
def F71e3_13 (x : Fin P) : List RG.It := [.x 52 [] (pv (0 : Fin P) (0 : Fin P)), .x 53 [] (.bool false), .u [(52, 0)] 0, .x 3 [(53, 1)] (.bool false)]
def F71g_0 (m : Int) (x : Fin P) : List RG.It := [.m 2 [] 0, .x 3 [] (.bool false)]
def F71g_1 (g o cap : Nat) (x : Fin P) : List RG.It := [.x 7 [] (.slice (some ⟨g, o, none⟩) 33 cap), .x 8 [(7, 0)] (.int .i64 33), .x 9 [(8, 1)] (.bool false)]
def F71g_3 (g o cap : Nat) (bs : Bs) (x : Fin P) : List RG.It := [.x 11 [] (.slice (some ⟨g, o, none⟩) 33 cap), .x 12 [(11, 0)] (.pointer (some ⟨g, o, none⟩)), .x 13 [(12, 1)] (.agg (bl33 bs).toArray), .x 14 [] (.agg z33.toArray), .x 15 [(13, 2), (14, 3)] (.bool false)]
def F71g_5 (g o cap : Nat) (x : Fin P) : List RG.It := [.x 17 [] (.slice (some ⟨g, o, none⟩) 33 cap), .x 18 [(17, 0)] (.pointer (some ⟨g, o, none⟩)), .x 19 [(18, 1)] (.int .u8 3), .x 20 [(19, 2)] (.bool true), .x 21 [(20, 3)] (.bool true), .x 22 [] (.slice (some ⟨g, o, none⟩) 33 cap), .x 23 [(22, 5)] (.pointer (some ⟨g, o, none⟩)), .x 24 [(23, 6)] (.int .u8 3), .x 25 [(24, 7)] (.bool false), .x 26 [(21, 4), (25, 8)] (.bool false)]
def F71g_7 (g o cap : Nat) (m : Int) (x : Fin P) : List RG.It := [.c 29 [] gv0, .x 30 [] (.slice (some ⟨g, o, none⟩) 33 cap), .x 31 [(30, 1)] (.slice (some ⟨g, o + 1, none⟩) 32 (cap - 1)), .c 32 [(29, 0), (31, 2)] (.tuple #[(fv x), (.bool true)]), .x 28 [(32, 3)] (.tuple #[(fv x), (.bool true)]), .x 33 [(28, 4)] (fv x), .x 34 [(28, 4)] (.bool true), .m 4 [] 1, .u [(4, 7), (33, 5)] 1, .x 5 [(34, 6)] (.bool true)]
def F71g_8 (x : Fin P) : List RG.It := [.x 35 [] (.bool true), .x 36 [(35, 0)] (.bool false)]
def F71g_10 (m : Int) (x y : Fin P) : List RG.It := [.x 39 [] (fv x), .c 40 [(39, 0)] (.tuple #[(pv x y), (.bool true)]), .x 38 [(40, 1)] (.tuple #[(pv x y), (.bool true)]), .x 41 [(38, 2)] (pv x y), .x 42 [(38, 2)] (.bool true), .m 6 [] 2, .u [(6, 5), (41, 3)] 2, .x 5 [(42, 4)] (.bool true)]
def F71g_11 (g o cap : Nat) (x : Fin P) : List RG.It := [.x 43 [] (.bool true), .x 44 [(43, 0)] (.bool true), .x 45 [] (.slice (some ⟨g, o, none⟩) 33 cap), .x 46 [(45, 2)] (.pointer (some ⟨g, o, none⟩)), .x 47 [(46, 3)] (.int .u8 3), .x 48 [(47, 4)] (.bool true), .x 49 [(44, 1), (48, 5)] (.bool true)]
def F71g_12 (x y y2 : Fin P) : List RG.It := [.x 50 [] (pv x y), .c 51 [(50, 0)] (pv x y2), .u [(51, 1)] 2]
def F71g_13 (x y2 : Fin P) : List RG.It := [.x 52 [] (pv x y2), .x 53 [] (.bool true), .u [(52, 0)] 0, .x 3 [(53, 1)] (.bool true)]
/-- Bytes as an argument: where there are 33, they lie there. -/
def Arg33 (w : World) (v : Value) (bs : Bs) : Prop := ∃ (p : Option Addr) (n cap : Nat), v = .slice p n cap ∧ bs.size = n ∧ (n = 33 → ∃ g o, p = some ⟨g, o, none⟩ ∧ 33 ≤ cap ∧ g < w.heap.size ∧ Holds encB w g o bs)
theorem Arg33.below {w w1 : World} {v : Value} {bs : Bs} (h : Arg33 w v bs) (hb : Below w.heap.size w w1) : Arg33 w1 v bs := by
  obtain ⟨p, n, cap, rfl, hs, h1⟩ := h
  refine ⟨p, n, cap, rfl, hs, fun h2 => ?_⟩
  obtain ⟨g, o, h3, h4, h6, h7⟩ := h1 h2
  exact ⟨g, o, h3, h4, Nat.lt_of_lt_of_le h6 hb.size, Holds.below h7 hb h6⟩
end Go.Proofs.YticolhhalbbogacGreat
namespace Go.Proofs.YticolhhalbbogacGreat
open Go.RowKit Go.Sort Go.Deep
variable {P : Nat} [NeZero P]
/-- A number's 32 bytes. -/
def bx (n : Nat) : Bs := be32 (n % 18446744073709551616) (n / 18446744073709551616 % 18446744073709551616) (n / 340282366920938463463374607431768211456 % 18446744073709551616) (n / 6277101735386680763835789423207666416102355444464034512896 % 18446744073709551616)
theorem bx_size (n : Nat) : (bx n).size = 32 := by unfold bx; exact be32_size _ _ _ _
def mark (n : Nat) : UInt8 := if n % 2 = 1 then 3 else 2
/-- A point's 33 bytes. -/
def by33 (x y : Fin P) : Bs := if x = 0 ∧ y = 0 then Array.replicate 33 0 else #[mark y.val] ++ bx x.val
theorem Bytes_c (C : Fld P) (x : Fin P) (w : World) : Calls Tryz.prog 36 #[fv x] w (Ret fun e w' => Below w.heap.size w w' ∧ ∃ g, e = .slice (some ⟨g, 0, none⟩) 32 32 ∧ w.heap.size ≤ g ∧ Holds encB w' g 0 (bx x.val)) :=
  (Bytes_any _ _ w (C.four x)).mono (by
    rintro e w' ⟨v, rfl, hb, g, a, b, c, d, rfl, hg, he, hH⟩
    refine ⟨_, rfl, hb, g, rfl, hg, ?_⟩
    have h2 : fv x = .agg #[.int .u64 ((x.val % 18446744073709551616 : Nat) : Int), .int .u64 ((x.val / 18446744073709551616 % 18446744073709551616 : Nat) : Int), .int .u64 ((x.val / 340282366920938463463374607431768211456 % 18446744073709551616 : Nat) : Int), .int .u64 ((x.val / 6277101735386680763835789423207666416102355444464034512896 % 18446744073709551616 : Nat) : Int)] := rfl
    rw [h2] at he
    simp only [Value.agg.injEq, Array.mk.injEq, List.cons.injEq, Value.int.injEq, true_and, and_true, Int.ofNat_inj] at he
    obtain ⟨rfl, rfl, rfl, rfl⟩ := he
    exact hH)
theorem Odd_c (C : Fld P) (y : Fin P) : Gives 35 #[fv y] (.bool (decide (y.val % 2 = 1))) := fun w =>
  (Odd_any _ _ (C.four y) w).mono (by rintro e w' ⟨v, rfl, hb, rfl⟩; exact ⟨_, rfl, hb, rfl⟩)
theorem info5b : (Tryz.prog.info? 5).map (fun i => (i.zero, i.size, i.bytes)) = some (some (.int .u8 0), 1, 1) := by kernel_rfl
theorem und23 : Tryz.prog.underlying 22 = some (.slice 5) := by kernel_rfl
/-- What bytes answers. -/
def BytesR (w : World) (T : Bs) (e : Value) (w' : World) : Prop := ∃ g cap, e = .slice (some ⟨g, 0, none⟩) 33 cap ∧ 33 ≤ cap ∧ w.heap.size ≤ g ∧ g < w'.heap.size ∧ Holds encB w' g 0 T
theorem mk33 (w : World) : (Instr.makeSlice 22 (.int .i64 33) (.int .i64 33)).run Tryz.prog w = .ok (.slice (some ⟨w.heap.size, 0, none⟩) 33 33) (w.alloc (.cells (madeCells #[.int .u8 0] 33) 5)) :=
  run_make_row' (P := Tryz.prog) 22 5 (.int .u8 0) 1 und23 info5b rfl .i64 .i64 33 (by decide) (by decide) w
theorem made33 (w : World) (o : Obj) : Holds encB ((w.alloc o).alloc (.cells (madeCells #[.int .u8 0] 33) 5)) (w.heap.size + 1) 0 (Array.replicate 33 0) := by
  have h := Holds.made (enc := encB) (w.alloc o) 5 33 (0 : UInt8)
  rw [World.size_alloc] at h
  exact h
omit [NeZero P] in
theorem pv_words (x y : Fin P) : pv x y = .agg #[.int .u64 ((x.val % 18446744073709551616 : Nat) : Int), .int .u64 ((x.val / 18446744073709551616 % 18446744073709551616 : Nat) : Int), .int .u64 ((x.val / 340282366920938463463374607431768211456 % 18446744073709551616 : Nat) : Int), .int .u64 ((x.val / 6277101735386680763835789423207666416102355444464034512896 % 18446744073709551616 : Nat) : Int), .int .u64 ((y.val % 18446744073709551616 : Nat) : Int), .int .u64 ((y.val / 18446744073709551616 % 18446744073709551616 : Nat) : Int), .int .u64 ((y.val / 340282366920938463463374607431768211456 % 18446744073709551616 : Nat) : Int), .int .u64 ((y.val / 6277101735386680763835789423207666416102355444464034512896 % 18446744073709551616 : Nat) : Int)] := rfl
set_option maxHeartbeats 2000000 in
set_option maxRecDepth 100000 in
theorem bytes_zero (C : Fld P) (x y : Fin P) (hz : x = 0 ∧ y = 0) (w : World) : Calls Tryz.prog 17 #[pv x y] w (Ret fun e w' => Below w.heap.size w w' ∧ BytesR w (Array.replicate 33 0) e w') := by
  have heq := eqPt_t C (x := x) (y := y) (z := 0) (t := 0) hz
  rw [← zero_pv, pv_words] at heq
  rw [pv_words]
  generalize ((x.val % 18446744073709551616 : Nat) : Int) = a at heq ⊢
  generalize ((x.val / 18446744073709551616 % 18446744073709551616 : Nat) : Int) = b at heq ⊢
  generalize ((x.val / 340282366920938463463374607431768211456 % 18446744073709551616 : Nat) : Int) = c at heq ⊢
  generalize ((x.val / 6277101735386680763835789423207666416102355444464034512896 % 18446744073709551616 : Nat) : Int) = d at heq ⊢
  generalize ((y.val % 18446744073709551616 : Nat) : Int) = p at heq ⊢
  generalize ((y.val / 18446744073709551616 % 18446744073709551616 : Nat) : Int) = q at heq ⊢
  generalize ((y.val / 340282366920938463463374607431768211456 % 18446744073709551616 : Nat) : Int) = r at heq ⊢
  generalize ((y.val / 6277101735386680763835789423207666416102355444464034512896 % 18446744073709551616 : Nat) : Int) = s at heq ⊢
  have hmk := mk33
  generalize hT : (Array.replicate 33 0 : Bs) = T
  go_enter Tryz.func17, Tryz.ntmps17
  go_wp2
  go_ret
  have hM := made33 w (.cells #[.int .u64 a, .int .u64 b, .int .u64 c, .int .u64 d, .int .u64 p, .int .u64 q, .int .u64 r, .int .u64 s] 48)
  rw [hT] at hM
  exact ⟨_, rfl, below2 _ _ _, _, 33, rfl, by omega, by omega, by simp, hM⟩
theorem grow33 (w : World) (k g m : Nat) (B : Bs) (hB : B.size = 32) (hc : w.cell? ⟨k, 0, none⟩ = some (.int .u8 (m : Int))) (hH : Holds encB w g 0 B) (hm : m < 256 := by decide) :
    ∃ (w' : World) (cap : Nat), (Builtin.append_ #[22, 22] 22 #[.slice (some ⟨k, 0, none⟩) 1 1, .slice (some ⟨g, 0, none⟩) 32 32]).run Tryz.prog w = .ok (.slice (some ⟨w.heap.size, 0, none⟩) 33 cap) w' ∧ Below w.heap.size w w' ∧ 33 ≤ cap ∧ w.heap.size < w'.heap.size ∧ Holds encB w' w.heap.size 0 (#[UInt8.ofNat m] ++ B) := by
  obtain ⟨i, hi, hzz⟩ := Option.map_eq_some_iff.1 info5b
  simp only [Prod.mk.injEq] at hzz
  obtain ⟨hz, hs, hb⟩ := hzz
  have hap := run_append_grow (P := Tryz.prog) w 22 22 5 i (.int .u8 0) und23 hi hz ⟨k, 0, none⟩ 1 1 [.int .u8 (m : Int)] (by rw [hs]; rfl) (fun j v hj => by
      cases j with
      | zero =>
        obtain rfl : Value.int .u8 (m : Int) = v := by simpa using hj
        rw [Addr.add_mid]
        exact hc
      | succ j => simp at hj) ⟨g, 0, none⟩ 32 32 (B.toList.map encB) (by rw [hs, List.length_map, Array.length_toList, hB]) (fun j v hj => by
      have hj' : j < B.size := by
        have := (List.getElem?_eq_some_iff.1 hj).1
        rwa [List.length_map, Array.length_toList] at this
      rw [Addr.add_mid, (hH j hj').1]
      rw [List.getElem?_map, Array.getElem?_toList, Array.getElem?_eq_getElem hj'] at hj
      rw [getElem!_pos B j hj']
      exact hj) (by decide) (by decide) (by rw [hb]; decide)
  refine ⟨_, _, hap, ?_, ?_, ?_, ?_⟩
  · exact (Below.refl _ w).drew.trans (below1 w.drew _)
  · exact grownCap_ge w (1 + 32) 1 5
  · show w.drew.heap.size < (w.drew.alloc _).heap.size
    rw [World.size_alloc]
    exact Nat.lt_succ_self _
  · intro j hj
    have hsz : (#[UInt8.ofNat m] ++ B).size = 33 := by rw [Array.size_append, hB]; rfl
    have hj' : j < 33 := by rw [← hsz]; exact hj
    refine ⟨?_, World.frozen?_alloc_new w.drew _ _ _⟩
    show (w.drew.alloc _).cell? ⟨w.drew.heap.size, 0 + j, none⟩ = _
    rw [Nat.zero_add, World.cell?_alloc_new, getElem!_pos _ j hj, Array.getElem?_append_left (by
      rw [Array.size_append, List.size_toArray, List.size_toArray, List.length_map, Array.length_toList]
      show j < 1 + B.size
      omega)]
    cases j with
    | zero =>
      rw [Array.getElem?_append_left (by simp), Array.getElem_append_left (by simp)]
      show some (Value.int .u8 (m : Int)) = some (encB (UInt8.ofNat m))
      unfold encB
      rw [ub_ofNat, Nat.mod_eq_of_lt hm]
    | succ i =>
      rw [Array.getElem?_append_right (by simp), Array.getElem_append_right (by simp), List.getElem?_toArray, List.getElem?_map, Array.getElem?_toList]
      show Option.map encB B[i]? = some (encB B[i])
      rw [Array.getElem?_eq_getElem (by omega)]
      rfl
theorem keptP (w : World) (a b c d p q r s : Nat) : Kept w w.heap.size [⟨w.heap.size, 0, a, b, c, d⟩, ⟨w.heap.size, 4, p, q, r, s⟩] (w.alloc (.cells #[.int .u64 (a : Int), .int .u64 (b : Int), .int .u64 (c : Int), .int .u64 (d : Int), .int .u64 (p : Int), .int .u64 (q : Int), .int .u64 (r : Int), .int .u64 (s : Int)] 48)) := by
  have F := At8.made w 48 a b c d p q r s rfl
  refine ((Kept.mk1 (below1 w _) (below1 w _).size).cons ?_).cons ?_
  · exact ⟨F.c4, F.c5, F.c6, F.c7, F.fz⟩
  · exact ⟨F.c0, F.c1, F.c2, F.c3, F.fz⟩
set_option maxHeartbeats 4000000 in
set_option maxRecDepth 100000 in
theorem bytes_odd (C : Fld P) (x y : Fin P) (hz : ¬ (x = 0 ∧ y = 0)) (ho : y.val % 2 = 1) (w : World) : Calls Tryz.prog 17 #[pv x y] w (Ret fun e w' => Below w.heap.size w w' ∧ BytesR w (#[3] ++ bx x.val) e w') := by
  have heq := eqPt_f C (x := x) (y := y) (z := 0) (t := 0) hz
  rw [← zero_pv, pv_words] at heq
  rw [pv_words]
  have hO : ∀ w, Calls Tryz.prog 35 #[.agg #[.int .u64 ((y.val % 18446744073709551616 : Nat) : Int), .int .u64 ((y.val / 18446744073709551616 % 18446744073709551616 : Nat) : Int), .int .u64 ((y.val / 340282366920938463463374607431768211456 % 18446744073709551616 : Nat) : Int), .int .u64 ((y.val / 6277101735386680763835789423207666416102355444464034512896 % 18446744073709551616 : Nat) : Int)]] w (Ret fun e w' => Below w.heap.size w w' ∧ e = .bool true) := fun w => by
    have h := Odd_c C y w
    rw [decide_eq_true ho] at h
    exact h
  have hBy : ∀ w, Calls Tryz.prog 36 #[.agg #[.int .u64 ((x.val % 18446744073709551616 : Nat) : Int), .int .u64 ((x.val / 18446744073709551616 % 18446744073709551616 : Nat) : Int), .int .u64 ((x.val / 340282366920938463463374607431768211456 % 18446744073709551616 : Nat) : Int), .int .u64 ((x.val / 6277101735386680763835789423207666416102355444464034512896 % 18446744073709551616 : Nat) : Int)]] w (Ret fun e w' => Below w.heap.size w w' ∧ ∃ g, e = .slice (some ⟨g, 0, none⟩) 32 32 ∧ w.heap.size ≤ g ∧ Holds encB w' g 0 (bx x.val)) := Bytes_c C x
  have hbs := bx_size x.val
  generalize bx x.val = B at hBy hbs ⊢
  generalize x.val % 18446744073709551616 = a at heq hO hBy ⊢
  generalize x.val / 18446744073709551616 % 18446744073709551616 = b at heq hO hBy ⊢
  generalize x.val / 340282366920938463463374607431768211456 % 18446744073709551616 = c at heq hO hBy ⊢
  generalize x.val / 6277101735386680763835789423207666416102355444464034512896 % 18446744073709551616 = d at heq hO hBy ⊢
  generalize y.val % 18446744073709551616 = p at heq hO hBy ⊢
  generalize y.val / 18446744073709551616 % 18446744073709551616 = q at heq hO hBy ⊢
  generalize y.val / 340282366920938463463374607431768211456 % 18446744073709551616 = r at heq hO hBy ⊢
  generalize y.val / 6277101735386680763835789423207666416102355444464034512896 % 18446744073709551616 = s at heq hO hBy ⊢
  have HQ : Hid (∀ w, (binOp .eql 48 _ _).run Tryz.prog w = _) := heq
  go_enter Tryz.func17, Tryz.ntmps17
  go_wp2_with fail
  have KP := keptP w a b c d p q r s
  clear heq
  generalize World.alloc _ _ = W0 at KP ⊢
  generalize hk : w.heap.size = k0 at KP ⊢
  refine (hO _).mono ?_
  rintro e w1 ⟨v, rfl, hb1, rfl⟩
  replace KP := KP.call hb1
  clear hb1 HQ hO
  obtain ⟨xc0, xc1, xc2, xc3, xf⟩ := KP.head
  have zx := KP.head.lt
  go_wp2_with fail
  refine (hBy _).mono ?_
  rintro e w2 ⟨v, rfl, hb2, g, rfl, hg, hH⟩
  have hc : w2.cell? ⟨w1.heap.size, 0, none⟩ = some (.int .u8 3) := by
    rw [hb2.cell (p := ⟨w1.heap.size, 0, none⟩) (by show w1.heap.size < _; rw [World.size_alloc]; omega), World.cell?_alloc_new]
    rfl
  have hle : k0 ≤ w2.heap.size := Nat.le_trans KP.le (Nat.le_trans (by rw [World.size_alloc]; omega) hb2.size)
  have hbl : Hid (Below k0 w w2) := ((KP.alloc _).call hb2).bl
  clear KP hb2 xc0 xc1 xc2 xc3 xf zx hg
  obtain ⟨W3, cp, hap, hb3, hcp, hsz3, hH3⟩ := grow33 w2 w1.heap.size g 3 B hbs hc hH
  generalize w1.heap.size = km at hap ⊢
  go_wp2_with (at_builtin; refine Lib.wpList_append_run _ rfl _ _ 22 22 rfl _ _ rfl rfl _ _ hap ?_)
  go_ret
  refine ⟨_, rfl, ?_, _, cp, rfl, hcp, ?_, hsz3, hH3⟩
  · rw [hk]; exact hbl.out.trans (hb3.mono hle)
  · rw [hk]; exact hle
set_option maxHeartbeats 4000000 in
set_option maxRecDepth 100000 in
theorem bytes_even (C : Fld P) (x y : Fin P) (hz : ¬ (x = 0 ∧ y = 0)) (ho : ¬ y.val % 2 = 1) (w : World) : Calls Tryz.prog 17 #[pv x y] w (Ret fun e w' => Below w.heap.size w w' ∧ BytesR w (#[2] ++ bx x.val) e w') := by
  have heq := eqPt_f C (x := x) (y := y) (z := 0) (t := 0) hz
  rw [← zero_pv, pv_words] at heq
  rw [pv_words]
  have hO : ∀ w, Calls Tryz.prog 35 #[.agg #[.int .u64 ((y.val % 18446744073709551616 : Nat) : Int), .int .u64 ((y.val / 18446744073709551616 % 18446744073709551616 : Nat) : Int), .int .u64 ((y.val / 340282366920938463463374607431768211456 % 18446744073709551616 : Nat) : Int), .int .u64 ((y.val / 6277101735386680763835789423207666416102355444464034512896 % 18446744073709551616 : Nat) : Int)]] w (Ret fun e w' => Below w.heap.size w w' ∧ e = .bool false) := fun w => by
    have h := Odd_c C y w
    rw [decide_eq_false ho] at h
    exact h
  have hBy : ∀ w, Calls Tryz.prog 36 #[.agg #[.int .u64 ((x.val % 18446744073709551616 : Nat) : Int), .int .u64 ((x.val / 18446744073709551616 % 18446744073709551616 : Nat) : Int), .int .u64 ((x.val / 340282366920938463463374607431768211456 % 18446744073709551616 : Nat) : Int), .int .u64 ((x.val / 6277101735386680763835789423207666416102355444464034512896 % 18446744073709551616 : Nat) : Int)]] w (Ret fun e w' => Below w.heap.size w w' ∧ ∃ g, e = .slice (some ⟨g, 0, none⟩) 32 32 ∧ w.heap.size ≤ g ∧ Holds encB w' g 0 (bx x.val)) := Bytes_c C x
  have hbs := bx_size x.val
  generalize bx x.val = B at hBy hbs ⊢
  generalize x.val % 18446744073709551616 = a at heq hO hBy ⊢
  generalize x.val / 18446744073709551616 % 18446744073709551616 = b at heq hO hBy ⊢
  generalize x.val / 340282366920938463463374607431768211456 % 18446744073709551616 = c at heq hO hBy ⊢
  generalize x.val / 6277101735386680763835789423207666416102355444464034512896 % 18446744073709551616 = d at heq hO hBy ⊢
  generalize y.val % 18446744073709551616 = p at heq hO hBy ⊢
  generalize y.val / 18446744073709551616 % 18446744073709551616 = q at heq hO hBy ⊢
  generalize y.val / 340282366920938463463374607431768211456 % 18446744073709551616 = r at heq hO hBy ⊢
  generalize y.val / 6277101735386680763835789423207666416102355444464034512896 % 18446744073709551616 = s at heq hO hBy ⊢
  have HQ : Hid (∀ w, (binOp .eql 48 _ _).run Tryz.prog w = _) := heq
  go_enter Tryz.func17, Tryz.ntmps17
  go_wp2_with fail
  have KP := keptP w a b c d p q r s
  clear heq
  generalize World.alloc _ _ = W0 at KP ⊢
  generalize hk : w.heap.size = k0 at KP ⊢
  refine (hO _).mono ?_
  rintro e w1 ⟨v, rfl, hb1, rfl⟩
  replace KP := KP.call hb1
  clear hb1 HQ hO
  obtain ⟨xc0, xc1, xc2, xc3, xf⟩ := KP.head
  have zx := KP.head.lt
  go_wp2_with fail
  refine (hBy _).mono ?_
  rintro e w2 ⟨v, rfl, hb2, g, rfl, hg, hH⟩
  have hc : w2.cell? ⟨w1.heap.size, 0, none⟩ = some (.int .u8 2) := by
    rw [hb2.cell (p := ⟨w1.heap.size, 0, none⟩) (by show w1.heap.size < _; rw [World.size_alloc]; omega), World.cell?_alloc_new]
    rfl
  have hle : k0 ≤ w2.heap.size := Nat.le_trans KP.le (Nat.le_trans (by rw [World.size_alloc]; omega) hb2.size)
  have hbl : Hid (Below k0 w w2) := ((KP.alloc _).call hb2).bl
  clear KP hb2 xc0 xc1 xc2 xc3 xf zx hg
  obtain ⟨W3, cp, hap, hb3, hcp, hsz3, hH3⟩ := grow33 w2 w1.heap.size g 2 B hbs hc hH
  generalize w1.heap.size = km at hap ⊢
  go_wp2_with (at_builtin; refine Lib.wpList_append_run _ rfl _ _ 22 22 rfl _ _ rfl rfl _ _ hap ?_)
  go_ret
  refine ⟨_, rfl, ?_, _, cp, rfl, hcp, ?_, hsz3, hH3⟩
  · rw [hk]; exact hbl.out.trans (hb3.mono hle)
  · rw [hk]; exact hle
theorem bytes_c (C : Fld P) (x y : Fin P) (w : World) : Calls Tryz.prog 17 #[pv x y] w (Ret fun e w' => Below w.heap.size w w' ∧ BytesR w (by33 x y) e w') := by
  unfold by33 mark
  by_cases hz : x = 0 ∧ y = 0
  · rw [if_pos hz]
    exact bytes_zero C x y hz w
  · rw [if_neg hz]
    by_cases ho : y.val % 2 = 1
    · rw [if_pos ho]
      exact bytes_odd C x y hz ho w
    · rw [if_neg ho]
      exact bytes_even C x y hz ho w
end Go.Proofs.YticolhhalbbogacGreat
namespace Go.Proofs.YticolhhalbbogacGreat
open Go.RowKit Go.Sort Go.Deep
theorem u23 : (Tryz.prog.underlying 22).map (·.isRow) = some false := by kernel_rfl
theorem at46 (k o n c i : Nat) (hi : i < n) (w : World) : (Instr.indexAt 73 (.slice (some ⟨k, o, none⟩) n c) (.int .i64 (i : Int))).run Tryz.prog w = .ok (.pointer (some ⟨k, o + i, none⟩)) w := by
  have h1 : ¬ (i : Int) < 0 := by omega
  have h2 : (i : Int) < n := by omega
  go_simp
theorem mk112 (N : Nat) (hN : N ≤ 512) : ∃ C0 : List Value, C0.length = 8 * N ∧ ∀ w : World, (Instr.makeSlice 58 (.int .i64 (N : Int)) (.int .i64 (N : Int))).run Tryz.prog w = .ok (.slice (some ⟨w.heap.size, 0, none⟩) N N) (w.alloc (.cells C0.toArray 48)) := by
  have hu : Tryz.prog.underlying 58 = some (.slice 48) := by kernel_rfl
  have hi : (Tryz.prog.info? 48).map (fun i => (i.size, decide (i.bytes ≤ 4000), i.zero.isSome)) = some (8, true, true) := by kernel_rfl
  obtain ⟨i, hi1, hi2⟩ := Option.map_eq_some_iff.1 hi
  simp only [Prod.mk.injEq, decide_eq_true_eq] at hi2
  obtain ⟨h1, h2, h3⟩ := hi2
  obtain ⟨z, hz⟩ := Option.isSome_iff_exists.1 h3
  refine ⟨(madeCells z.cells (N * 8)).toList, by rw [Array.length_toList, size_madeCells, Nat.mul_comm], fun w => ?_⟩
  have hb : (i.bytes : Int) * (N : Int) ≤ 281474976710656 := by
    have : i.bytes * N ≤ 4000 * 512 := Nat.mul_le_mul h2 hN
    have h5 : ((i.bytes * N : Nat) : Int) ≤ 281474976710656 := by omega
    rwa [Int.natCast_mul] at h5
  have := run_make (P := Tryz.prog) w 58 48 i z hu hi1 hz .i64 .i64 (N : Int) (N : Int) (by omega) (by omega) hb (by omega)
  rw [Int.toNat_natCast, h1] at this
  rw [Array.toArray_toList]
  exact this
theorem mk82 (N : Nat) (hN : N ≤ 512) : ∃ C0 : List Value, C0.length = 4 * N ∧ ∀ w : World, (Instr.makeSlice 54 (.int .i64 (N : Int)) (.int .i64 (N : Int))).run Tryz.prog w = .ok (.slice (some ⟨w.heap.size, 0, none⟩) N N) (w.alloc (.cells C0.toArray 46)) := by
  have hu : Tryz.prog.underlying 54 = some (.slice 46) := by kernel_rfl
  have hi : (Tryz.prog.info? 46).map (fun i => (i.size, decide (i.bytes ≤ 4000), i.zero.isSome)) = some (4, true, true) := by kernel_rfl
  obtain ⟨i, hi1, hi2⟩ := Option.map_eq_some_iff.1 hi
  simp only [Prod.mk.injEq, decide_eq_true_eq] at hi2
  obtain ⟨h1, h2, h3⟩ := hi2
  obtain ⟨z, hz⟩ := Option.isSome_iff_exists.1 h3
  refine ⟨(madeCells z.cells (N * 4)).toList, by rw [Array.length_toList, size_madeCells, Nat.mul_comm], fun w => ?_⟩
  have hb : (i.bytes : Int) * (N : Int) ≤ 281474976710656 := by
    have : i.bytes * N ≤ 4000 * 512 := Nat.mul_le_mul h2 hN
    have h5 : ((i.bytes * N : Nat) : Int) ≤ 281474976710656 := by omega
    rwa [Int.natCast_mul] at h5
  have := run_make (P := Tryz.prog) w 54 46 i z hu hi1 hz .i64 .i64 (N : Int) (N : Int) (by omega) (by omega) hb (by omega)
  rw [Int.toNat_natCast, h1] at this
  rw [Array.toArray_toList]
  exact this
/-- Rows of sz cells: m of them are there. -/
structure Rows (sz N : Nat) (cell : Nat → List Value) (m : Nat) (C : List Value) : Prop where
  len : C.length = sz * N
  row : ∀ j r, j < m → r < sz → C[sz * j + r]? = (cell j)[r]?
theorem Rows.next {sz N m : Nat} {cell : Nat → List Value} {C : List Value} (h : Rows sz N cell m C) (hm : m < N) (hc : (cell m).length = sz) : Rows sz N cell (m + 1) (RG.rep C (0 + sz * m) (cell m)) := by
  have hlen := h.len
  have hb : sz * m + sz ≤ sz * N := by rw [← Nat.mul_succ]; exact Nat.mul_le_mul_left _ hm
  have hl : 0 + sz * m + (cell m).length ≤ C.length := by rw [hc]; omega
  refine ⟨by rw [RG.rep_length hl]; exact hlen, fun j r hj hr => ?_⟩
  rw [RG.rep_at hl]
  by_cases hjm : j = m
  · subst hjm
    rw [if_pos (by rw [hc]; omega), show sz * j + r - (0 + sz * j) = r by omega]
  · have h2 : sz * j + sz ≤ sz * m := by rw [← Nat.mul_succ]; exact Nat.mul_le_mul_left _ (by omega)
    rw [if_neg (by rw [hc]; omega)]
    exact h.row j r (by omega) hr
/-- Bytes as a number of the order. -/
def rq (N : Nat) (bs : Bs) : Option Nat := if bs.size = 32 ∧ beV bs.toList < N then some (beV bs.toList) else none
def rqV : Option Nat → Value
  | none => .tuple #[nv 0, .bool false]
  | some n => .tuple #[nv n, .bool true]
theorem Scalars_c : Gives 42 #[] gv1 := fun w => (Scalars_any w).mono (by rintro e w' ⟨rfl, rfl⟩; exact ⟨_, rfl, below1 _ _, rfl⟩)
theorem readQ_c {N : Nat} (hG : Gap 4624529908474429119 4994812053365940164 1 N) (v : Value) (bs : Bs) (w : World) (hv : Arg w v bs) : Calls Tryz.prog 40 #[gv1, v] w (Ret fun e w' => Below w.heap.size w w' ∧ e = rqV (rq N bs)) := by
  obtain ⟨p, n, cap, rfl, hs, h1⟩ := hv
  unfold rq
  by_cases hn : n = 32
  · subst hn
    obtain ⟨g, o, rfl, h4, h6, h7⟩ := h1 rfl
    refine (Read_any _ _ _ N g o cap bs hG w hs h4 h6 h7).mono ?_
    rintro e w' ⟨v, rfl, hb, ⟨hl, v', rfl, h8⟩ | ⟨hl, rfl⟩⟩
    · rw [if_pos ⟨hs, hl⟩]
      exact ⟨_, rfl, hb, by rw [h8.nv]; rfl⟩
    · rw [if_neg (fun h => by omega)]
      exact ⟨_, rfl, hb, rfl⟩
  · refine (Read_len _ p n cap w _ _ _ rfl hn).mono ?_
    rintro e w' ⟨v, rfl, hb, rfl⟩
    rw [if_neg (fun h => hn (hs.symm.trans h.1))]
    exact ⟨_, rfl, hb, rfl⟩
end Go.Proofs.YticolhhalbbogacGreat
namespace Go.Proofs.YticolhhalbbogacGreat
open Go.RowKit Go.Sort
variable {P : Nat} [NeZero P]
def F72a_0 (x : Fin P) : List RG.It := [.x 2 [] (.slice none 0 0), .x 3 [] (.int .i64 0)]
def F72a_1 (q : Option Addr) (n cap : Nat) (x : Fin P) : List RG.It := [.x 9 [] (.slice q n cap), .x 10 [(9, 0)] (.int .i64 (n : Int)), ⟨some 11, [(10, 1)], (.s 0 n n), .make 0⟩, .s 4 [(11, 2)] (.s 0 n n)]
def F72a_2 (q : Option Addr) (n cap : Nat) (x : Fin P) : List RG.It := [.x 12 [] (.slice q n cap), .x 13 [(12, 0)] (.int .i64 (n : Int)), .x 14 [] (.int .i64 0)]
def F72b_3 (x : Fin P) : List RG.It := [.x 15 [] (.bool true)]
def F72b_4 (gg i : Nat) (v : Value) (x : Fin P) : List RG.It := [.x 16 [] (.int .i64 (i : Int)), .x 17 [] (.pointer (some ⟨gg, (0 + i), none⟩)), .x 18 [(17, 1)] v, .x 5 [(16, 0)] (.int .i64 (i : Int)), .x 6 [(18, 2)] v]
def F72b_5 (m : Nat) (v : Value) (x y : Fin P) : List RG.It := [.x 20 [] v, .c 21 [(20, 0)] (.tuple #[(pv x y), (.bool true)]), .x 19 [(21, 1)] (.tuple #[(pv x y), (.bool true)]), .x 22 [(19, 2)] (pv x y), .x 23 [(19, 2)] (.bool true), .m 7 [] 1, .u [(7, 5), (22, 3)] 1, .x 8 [(23, 4)] (.bool true)]
def F72b_6 (x : Fin P) : List RG.It := [.x 24 [] (.bool true), .x 25 [(24, 0)] (.bool false)]
def F72b_8 (n i : Nat) (x y : Fin P) : List RG.It := [.s 26 [] (.s 0 n n), .x 27 [] (.int .i64 (i : Int)), .x 28 [] (pv x y), .s 29 [(26, 0), (27, 1)] (.p 0 (0 + 8 * i)), .u [(29, 3), (28, 2)] 0]
def F72b_9 (i : Nat) (x : Fin P) : List RG.It := [.x 30 [] (.int .i64 ((i + 1 : Nat) : Int)), .x 14 [(30, 0)] (.int .i64 ((i + 1 : Nat) : Int))]
def F72f_3 (x : Fin P) : List RG.It := [.x 15 [] (.bool true)]
def F72f_4 (gg i : Nat) (v : Value) (x : Fin P) : List RG.It := [.x 16 [] (.int .i64 (i : Int)), .x 17 [] (.pointer (some ⟨gg, (0 + i), none⟩)), .x 18 [(17, 1)] v, .x 5 [(16, 0)] (.int .i64 (i : Int)), .x 6 [(18, 2)] v]
def F72f_5 (m : Nat) (v : Value) (x : Fin P) : List RG.It := [.x 20 [] v, .c 21 [(20, 0)] (.tuple #[(pv (0 : Fin P) (0 : Fin P)), (.bool false)]), .x 19 [(21, 1)] (.tuple #[(pv (0 : Fin P) (0 : Fin P)), (.bool false)]), .x 22 [(19, 2)] (pv (0 : Fin P) (0 : Fin P)), .x 23 [(19, 2)] (.bool false), .m 7 [] 1, .u [(7, 5), (22, 3)] 1, .x 8 [(23, 4)] (.bool false)]
def F72f_6 (x : Fin P) : List RG.It := [.x 24 [] (.bool false), .x 25 [(24, 0)] (.bool true)]
def F72f_7 (x : Fin P) : List RG.It := [.x 2 [] (.slice none 0 0), .x 3 [] (.int .i64 4)]
def F72e_3 (x : Fin P) : List RG.It := [.x 15 [] (.bool false)]
def F72e_10 (n : Nat) (x : Fin P) : List RG.It := [.s 31 [] (.s 0 n n), .s 2 [(31, 0)] (.s 0 n n), .x 3 [] (.int .i64 0)]
/-- A list of arguments in a block. -/
def ArgsPts (w : World) (q : Option Addr) (n : Nat) (L : Nat → Bs) : Prop := 0 < n → ∃ gg, q = some ⟨gg, 0, none⟩ ∧ gg < w.heap.size ∧ ∀ j, j < n → ∃ v, w.cell? ⟨gg, j, none⟩ = some v ∧ Arg33 w v (L j)
def PtsR (P : Nat) [NeZero P] (w : World) (n : Nat) (L : Nat → Bs) (e : Value) (w' : World) : Prop :=
  (∃ k, w.heap.size ≤ k ∧ k < w'.heap.size ∧ e = .tuple #[.slice (some ⟨k, 0, none⟩) n n, .int .i64 0] ∧ ∀ j, j < n → ∃ p, rd P (L j) = some p ∧ w'.rangeAt k (8 * j) (ws p.1 ++ ws p.2)) ∨
  ((∃ j, j < n ∧ rd P (L j) = none) ∧ e = .tuple #[.slice none 0 0, .int .i64 4])
def F81a_0 : List RG.It := [.x 2 [] (.slice none 0 0), .x 3 [] (.int .i64 0)]
def F81a_1 (q : Option Addr) (n cap : Nat) : List RG.It := [.x 9 [] (.slice q n cap), .x 10 [(9, 0)] (.int .i64 (n : Int)), ⟨some 11, [(10, 1)], (.s 0 n n), .make 0⟩, .s 4 [(11, 2)] (.s 0 n n)]
def F81a_2 (q : Option Addr) (n cap : Nat) : List RG.It := [.x 12 [] (.slice q n cap), .x 13 [(12, 0)] (.int .i64 (n : Int)), .x 14 [] (.int .i64 0)]
def F81b_3 : List RG.It := [.x 15 [] (.bool true)]
def F81b_4 (gg i : Nat) (v : Value) : List RG.It := [.x 16 [] (.int .i64 (i : Int)), .x 17 [] (.pointer (some ⟨gg, (0 + i), none⟩)), .x 18 [(17, 1)] v, .x 5 [(16, 0)] (.int .i64 (i : Int)), .x 6 [(18, 2)] v]
def F81b_5 (m : Nat) (v : Value) : List RG.It := [.c 20 [] gv1, .x 21 [] v, .c 22 [(20, 0), (21, 1)] (.tuple #[(nv m), (.bool true)]), .x 19 [(22, 2)] (.tuple #[(nv m), (.bool true)]), .x 23 [(19, 3)] (nv m), .x 24 [(19, 3)] (.bool true), .m 7 [] 1, .u [(7, 6), (23, 4)] 1, .x 8 [(24, 5)] (.bool true)]
def F81b_6 : List RG.It := [.x 25 [] (.bool true), .x 26 [(25, 0)] (.bool false)]
def F81b_8 (n i m : Nat) : List RG.It := [.s 27 [] (.s 0 n n), .x 28 [] (.int .i64 (i : Int)), .x 29 [] (nv m), .s 30 [(27, 0), (28, 1)] (.p 0 (0 + 4 * i)), .u [(30, 3), (29, 2)] 0]
def F81b_9 (i : Nat) : List RG.It := [.x 31 [] (.int .i64 ((i + 1 : Nat) : Int)), .x 14 [(31, 0)] (.int .i64 ((i + 1 : Nat) : Int))]
def F81f_3 : List RG.It := [.x 15 [] (.bool true)]
def F81f_4 (gg i : Nat) (v : Value) : List RG.It := [.x 16 [] (.int .i64 (i : Int)), .x 17 [] (.pointer (some ⟨gg, (0 + i), none⟩)), .x 18 [(17, 1)] v, .x 5 [(16, 0)] (.int .i64 (i : Int)), .x 6 [(18, 2)] v]
def F81f_5 (m : Nat) (v : Value) : List RG.It := [.c 20 [] gv1, .x 21 [] v, .c 22 [(20, 0), (21, 1)] (.tuple #[(nv 0), (.bool false)]), .x 19 [(22, 2)] (.tuple #[(nv 0), (.bool false)]), .x 23 [(19, 3)] (nv 0), .x 24 [(19, 3)] (.bool false), .m 7 [] 1, .u [(7, 6), (23, 4)] 1, .x 8 [(24, 5)] (.bool false)]
def F81f_6 : List RG.It := [.x 25 [] (.bool false), .x 26 [(25, 0)] (.bool true)]
def F81f_7 : List RG.It := [.x 2 [] (.slice none 0 0), .x 3 [] (.int .i64 3)]
def F81e_3 : List RG.It := [.x 15 [] (.bool false)]
def F81e_10 (n : Nat) : List RG.It := [.s 32 [] (.s 0 n n), .s 2 [(32, 0)] (.s 0 n n), .x 3 [] (.int .i64 0)]
/-- A list of arguments in a block. -/
def ArgsScs (w : World) (q : Option Addr) (n : Nat) (L : Nat → Bs) : Prop := 0 < n → ∃ gg, q = some ⟨gg, 0, none⟩ ∧ gg < w.heap.size ∧ ∀ j, j < n → ∃ v, w.cell? ⟨gg, j, none⟩ = some v ∧ Arg w v (L j)
def ScsR (N : Nat) (w : World) (n : Nat) (L : Nat → Bs) (e : Value) (w' : World) : Prop :=
  (∃ k, w.heap.size ≤ k ∧ k < w'.heap.size ∧ e = .tuple #[.slice (some ⟨k, 0, none⟩) n n, .int .i64 0] ∧ ∀ j, j < n → ∃ p, rq N (L j) = some p ∧ w'.rangeAt k (4 * j) (wn p)) ∨
  ((∃ j, j < n ∧ rq N (L j) = none) ∧ e = .tuple #[.slice none 0 0, .int .i64 3])
set_option maxHeartbeats 4000000 in
set_option maxRecDepth 100000 in
theorem Scs_c {N : Nat} (hG : Gap 4624529908474429119 4994812053365940164 1 N) (n cap : Nat) (hn : n ≤ 512) (q : Option Addr) (L : Nat → Bs) (w : World) (hA : ArgsScs w q n L) : Calls Tryz.prog 20 #[.slice q n cap] w (Ret fun e w' => Below w.heap.size w w' ∧ ScsR N w n L e w') := by
  obtain ⟨C, hCl, hmk⟩ := mk82 n hn
  obtain ⟨i, -⟩ : ∃ i : Nat, i = 0 := ⟨_, rfl⟩
  obtain ⟨gg, -⟩ : ∃ i : Nat, i = 0 := ⟨_, rfl⟩
  obtain ⟨m, -⟩ : ∃ i : Nat, i = 0 := ⟨_, rfl⟩
  obtain ⟨v, -⟩ : ∃ v : Value, v = .bool true := ⟨_, rfl⟩
  obtain ⟨C2, -⟩ : ∃ c : List Value, c = C := ⟨_, rfl⟩
  go_enter Tryz.func20, Tryz.ntmps20
  refine RG.var1 (v0 := .slice q n cap) (n := 33) (by kernel_rfl) (by kernel_rfl) (by kernel_rfl) ?_
  intro a0 sl0 f0
  have hS0 := RG.St.begin w
  have M0 : RG.M w w.heap.size [] 33 [] [] [(0, (.v (.slice q n cap)))] a0 _ := ⟨hS0, sl0, ⟨f0, trivial⟩⟩
  repeat refine wp_seq ?_
  refine M0.tx0 F81a_0 [(0, (.v (.slice q n cap))), (2, (.v (.slice none 0 0))), (3, (.v (.int .i64 0)))] (by kernel_rfl) ⟨RG.st fun _ _ => by kernel_rfl, RG.st fun _ _ => by kernel_rfl, trivial⟩ ?_
  intro a1 w1 M1
  repeat refine wp_seq ?_
  refine M1.tx (F81a_1 q n cap) [(2, C)] [] [C] [(0, (.v (.slice q n cap))), (2, (.v (.slice none 0 0))), (3, (.v (.int .i64 0))), (4, (.s 0 n n))] (by kernel_rfl) (by kernel_rfl) ⟨RG.st fun _ _ => by kernel_rfl, RG.cert_one rfl 9 (.v (.slice q n cap)) (.int .i64 (n : Int)) rfl (RG.sx fun _ => by kernel_rfl) (fun a w => by kernel_rfl) (fun μ w => by kernel_rfl), RG.cert_makes 0 rfl _ rfl 54 46 10 10 n rfl rfl (RG.sx fun _ => by kernel_rfl) (RG.sx fun _ => by kernel_rfl) (hmk), RG.st fun _ _ => by kernel_rfl, trivial⟩ ?_
  intro j2 a2 w2 M2
  repeat refine wp_seq ?_
  refine M2.tx0 (F81a_2 q n cap) [(2, (.v (.slice none 0 0))), (3, (.v (.int .i64 0))), (4, (.s 0 n n)), (12, (.v (.slice q n cap))), (13, (.v (.int .i64 (n : Int)))), (14, (.v (.int .i64 0)))] (by kernel_rfl) ⟨RG.st fun _ _ => by kernel_rfl, RG.cert_one rfl 12 (.v (.slice q n cap)) (.int .i64 (n : Int)) rfl (RG.sx fun _ => by kernel_rfl) (fun a w => by kernel_rfl) (fun μ w => by kernel_rfl), RG.st fun _ _ => by kernel_rfl, trivial⟩ ?_
  intro a3 w3 M3
  have hS3 : RG.St w w.heap.size [] [C] [j2] _ := M3.st
  have sl3 := M3.sl
  have f2_3 : a3.tmps[2]? = some (.slice none 0 0) := M3.at (s := (.v (.slice none 0 0))) (by kernel_rfl)
  have f3_3 : a3.tmps[3]? = some (.int .i64 0) := M3.at (s := (.v (.int .i64 0))) (by kernel_rfl)
  have f4_3 : a3.tmps[4]? = some (.slice (some ⟨j2, 0, none⟩) n n) := M3.at (s := (.s 0 n n)) (by kernel_rfl)
  have f12_3 : a3.tmps[12]? = some (.slice q n cap) := M3.at (s := (.v (.slice q n cap))) (by kernel_rfl)
  have f13_3 : a3.tmps[13]? = some (.int .i64 (n : Int)) := M3.at (s := (.v (.int .i64 (n : Int)))) (by kernel_rfl)
  have f14_3 : a3.tmps[14]? = some (.int .i64 0) := M3.at (s := (.v (.int .i64 0))) (by kernel_rfl)
  repeat refine wp_seq ?_
  refine wp_block ?_
  refine wp_loop_ghost (fun m a wr => ∃ (i : Nat) (C : List Value), i + m = n ∧ (∀ j, j < i → (rq N (L j)).isSome = true) ∧ Rows 4 n (fun j => match rq N (L j) with | some k => wn k | none => []) i C ∧ RG.Sl a 33 ∧ a.tmps[4]? = some (.slice (some ⟨j2, 0, none⟩) n n) ∧ a.tmps[12]? = some (.slice q n cap) ∧ a.tmps[13]? = some (.int .i64 (n : Int)) ∧ a.tmps[14]? = some (.int .i64 (i : Int)) ∧ RG.St w w.heap.size [] [C] [j2] wr) n ⟨0, C, by omega, fun j hj => by omega, ⟨hCl, fun j r hj => by omega⟩, sl3, f4_3, f12_3, f13_3, f14_3, hS3⟩ ?_
  intro m' a wr
  rintro ⟨i, C, him, hall, hR, sl, p4, p12, p13, p14, hSp⟩
  generalize j2 = kt at p4 hSp
  by_cases hi : i < n
  · obtain ⟨gg, hqe, hgg, hc⟩ := hA (by omega)
    rw [hqe] at p12
    obtain ⟨v, hv, harg⟩ := hc i hi
    have hcell : w.cell? ⟨gg, 0 + i, none⟩ = some v := by rw [Nat.zero_add]; exact hv
    cases hrdv : rq N (L i) with
    | some pp =>
      obtain ⟨m, rfl⟩ : ∃ m, m = pp := ⟨_, rfl⟩
      have hrd : ∀ w', RG.BelX w.heap.size [] w w' → Calls Tryz.prog 40 #[gv1, v] w' (Ret fun e w'' => Below w'.heap.size w' w'' ∧ e = .tuple #[nv m, .bool true]) := fun w' hb => by
        have := readQ_c hG v (L i) w' (harg.below hb.below)
        rw [hrdv] at this
        exact this
      have hlen := hR.len
      have hoff : 0 + 4 * i + (wn m).length ≤ C.length := by rw [hlen]; show 0 + 4 * i + 4 ≤ 4 * n; omega
      obtain ⟨C2, hC2e⟩ : ∃ c, RG.rep C (0 + 4 * i) (wn m) = c := ⟨_, rfl⟩
      have hC2 := hC2e ▸ RG.rep_at hoff
      have hcl : C2.length = C.length := hC2e ▸ RG.rep_length hoff
      have hR2 : Rows 4 n (fun j => match rq N (L j) with | some k => wn k | none => []) (i + 1) C2 := by
        have := hR.next hi (by show List.length (match rq N (L i) with | some p => _ | none => _) = _; rw [hrdv]; rfl)
        rw [← hC2e]
        have e : (fun j => match rq N (L j) with | some k => wn k | none => []) i = (wn m) := by show (match rq N (L i) with | some p => _ | none => _) = _; rw [hrdv]
        rw [← e]
        exact this
      have M10 : RG.M w w.heap.size [] 33 [C] [kt] [(4, (.s 0 n n)), (12, (.v (.slice (some ⟨gg, 0, none⟩) n cap))), (13, (.v (.int .i64 (n : Int)))), (14, (.v (.int .i64 (i : Int))))] a _ := ⟨hSp, sl, ⟨p4, p12, p13, p14, trivial⟩⟩
      repeat refine wp_seq ?_
      refine M10.tx0 F81b_3 [(4, (.s 0 n n)), (12, (.v (.slice (some ⟨gg, 0, none⟩) n cap))), (13, (.v (.int .i64 (n : Int)))), (14, (.v (.int .i64 (i : Int)))), (15, (.v (.bool true)))] (by kernel_rfl) ⟨RG.cert_bin rfl .lss 3 3 14 13 (.int .i64 (i : Int)) (.int .i64 (n : Int)) (.bool true) rfl rfl (RG.sx fun _ => by kernel_rfl) (RG.sx fun _ => by kernel_rfl) (fun w => by kernel_rfl) (lssn_t hi), trivial⟩ ?_
      intro a11 w11 M11
      repeat refine wp_seq ?_
      refine wp_cond_true (M11.ev (by kernel_rfl)) ?_
      refine wp_skip ?_
      refine wp_seq ?_
      refine wp_block ?_
      repeat refine wp_seq ?_
      refine M11.tx0 (F81b_4 gg i v) [(4, (.s 0 n n)), (5, (.v (.int .i64 (i : Int)))), (6, (.v v)), (12, (.v (.slice (some ⟨gg, 0, none⟩) n cap))), (13, (.v (.int .i64 (n : Int)))), (14, (.v (.int .i64 (i : Int))))] (by kernel_rfl) ⟨RG.st fun _ _ => by kernel_rfl, RG.cert_idx rfl 73 12 14 rfl (.v (.slice (some ⟨gg, 0, none⟩) n cap)) (.int .i64 (i : Int)) (RG.sx fun _ => by kernel_rfl) (RG.sx fun _ => by kernel_rfl) (fun μ w => at46 _ 0 _ _ i hi w), RG.cert_load1B rfl gg (0 + i) hgg List.not_mem_nil 22 17 rfl v rfl (RG.sx fun _ => by kernel_rfl) hcell u23, RG.st fun _ _ => by kernel_rfl, RG.st fun _ _ => by kernel_rfl, trivial⟩ ?_
      intro a12 w12 M12
      repeat refine wp_seq ?_
      refine M12.tx (F81b_5 m v) [(6, (RG.z 4))] [(1, 7, (wn m))] [C, (wn m)] [(4, (.s 0 n n)), (5, (.v (.int .i64 (i : Int)))), (7, (.p 1 0)), (8, (.v (.bool true))), (12, (.v (.slice (some ⟨gg, 0, none⟩) n cap))), (13, (.v (.int .i64 (n : Int)))), (14, (.v (.int .i64 (i : Int))))] (by kernel_rfl) (by kernel_rfl) ⟨RG.cl (Scalars_c) fun _ _ => by kernel_rfl, RG.st fun _ _ => by kernel_rfl, RG.cert_callB2 rfl 40 20 21 gv1 v (.tuple #[(nv m), (.bool true)]) rfl (fun a w => by kernel_rfl) (RG.sx fun _ => by kernel_rfl) (RG.sx fun _ => by kernel_rfl) hrd, RG.st fun _ _ => by kernel_rfl, RG.st fun _ _ => by kernel_rfl, RG.st fun _ _ => by kernel_rfl, RG.mk 1 46 fun _ _ => by kernel_rfl, RG.pt i85 (by kernel_rfl), RG.st fun _ _ => by kernel_rfl, trivial⟩ ?_
      intro j13 a13 w13 M13
      repeat refine wp_seq ?_
      refine M13.tx0 F81b_6 [(4, (.s 0 n n)), (5, (.v (.int .i64 (i : Int)))), (7, (.p 1 0)), (12, (.v (.slice (some ⟨gg, 0, none⟩) n cap))), (13, (.v (.int .i64 (n : Int)))), (14, (.v (.int .i64 (i : Int)))), (26, (.v (.bool false)))] (by kernel_rfl) ⟨RG.st fun _ _ => by kernel_rfl, RG.st fun _ _ => by kernel_rfl, trivial⟩ ?_
      intro a14 w14 M14
      repeat refine wp_seq ?_
      refine wp_cond_false (M14.ev (by kernel_rfl)) ?_
      refine wp_skip ?_
      repeat refine wp_seq ?_
      refine M14.tx (F81b_8 n i m) [] [(0, 4, C2)] [C2, (wn m)] [(4, (.s 0 n n)), (12, (.v (.slice (some ⟨gg, 0, none⟩) n cap))), (13, (.v (.int .i64 (n : Int)))), (14, (.v (.int .i64 (i : Int))))] (by kernel_rfl) (congrArg (fun n => [n]) hcl) ⟨RG.st fun _ _ => by kernel_rfl, RG.st fun _ _ => by kernel_rfl, RG.ld u85 i85 (by kernel_rfl), RG.cert_idx rfl 54 27 28 rfl (.s 0 n n) (.int .i64 (i : Int)) (RG.sx fun _ => by kernel_rfl) (RG.sx fun _ => by kernel_rfl) (fun μ w => at82 _ 0 _ _ i hi w), RG.cert_putAt 0 (0 + 4 * i) rfl _ rfl 46 (.tmp 30) (.tmp 29) (wn m) rfl rfl (RG.sx fun _ => by kernel_rfl) (RG.sx fun _ => by kernel_rfl) hoff hC2 i85 rfl, trivial⟩ ?_
      intro a15 w15 M15
      repeat refine wp_seq ?_
      refine M15.tx0 (F81b_9 i) [(4, (.s 0 n n)), (12, (.v (.slice (some ⟨gg, 0, none⟩) n cap))), (13, (.v (.int .i64 (n : Int)))), (14, (.v (.int .i64 ((i + 1 : Nat) : Int))))] (by kernel_rfl) ⟨RG.cert_binc rfl .add 3 3 14 (.int .i64 (i : Int)) (.int .i64 1) (.int .i64 ((i + 1 : Nat) : Int)) rfl rfl (RG.sx fun _ => by kernel_rfl) (fun w => by kernel_rfl) (addn i 1 (by omega) (by omega)), RG.st fun _ _ => by kernel_rfl, trivial⟩ ?_
      intro a16 w16 M16
      have hS16 : RG.St w w.heap.size [] [C2, (wn m)] [kt, j13] _ := M16.st
      have sl16 := M16.sl
      have f4_16 : a16.tmps[4]? = some (.slice (some ⟨kt, 0, none⟩) n n) := M16.at (s := (.s 0 n n)) (by kernel_rfl)
      have f12_16 : a16.tmps[12]? = some (.slice (some ⟨gg, 0, none⟩) n cap) := M16.at (s := (.v (.slice (some ⟨gg, 0, none⟩) n cap))) (by kernel_rfl)
      have f13_16 : a16.tmps[13]? = some (.int .i64 (n : Int)) := M16.at (s := (.v (.int .i64 (n : Int)))) (by kernel_rfl)
      have f14_16 : a16.tmps[14]? = some (.int .i64 ((i + 1 : Nat) : Int)) := M16.at (s := (.v (.int .i64 ((i + 1 : Nat) : Int)))) (by kernel_rfl)
      show ∃ n', _
      exact ⟨m' - 1, by omega, i + 1, C2, by omega, fun j hj => (by
        by_cases hji : j = i
        · rw [hji, hrdv]; rfl
        · exact hall j (by omega)), hR2, sl16, f4_16, (by rw [hqe]; exact f12_16), f13_16, f14_16, RG.St.init (cs := [C2]) (ks := [kt]) hS16⟩
    | none =>
      have hrd : ∀ w', RG.BelX w.heap.size [] w w' → Calls Tryz.prog 40 #[gv1, v] w' (Ret fun e w'' => Below w'.heap.size w' w'' ∧ e = .tuple #[nv 0, .bool false]) := fun w' hb => by
        have := readQ_c hG v (L i) w' (harg.below hb.below)
        rw [hrdv] at this
        exact this
      have M20 : RG.M w w.heap.size [] 33 [C] [kt] [(4, (.s 0 n n)), (12, (.v (.slice (some ⟨gg, 0, none⟩) n cap))), (13, (.v (.int .i64 (n : Int)))), (14, (.v (.int .i64 (i : Int))))] a _ := ⟨hSp, sl, ⟨p4, p12, p13, p14, trivial⟩⟩
      repeat refine wp_seq ?_
      refine M20.tx0 F81f_3 [(12, (.v (.slice (some ⟨gg, 0, none⟩) n cap))), (14, (.v (.int .i64 (i : Int)))), (15, (.v (.bool true)))] (by kernel_rfl) ⟨RG.cert_bin rfl .lss 3 3 14 13 (.int .i64 (i : Int)) (.int .i64 (n : Int)) (.bool true) rfl rfl (RG.sx fun _ => by kernel_rfl) (RG.sx fun _ => by kernel_rfl) (fun w => by kernel_rfl) (lssn_t hi), trivial⟩ ?_
      intro a21 w21 M21
      repeat refine wp_seq ?_
      refine wp_cond_true (M21.ev (by kernel_rfl)) ?_
      refine wp_skip ?_
      refine wp_seq ?_
      refine wp_block ?_
      repeat refine wp_seq ?_
      refine M21.tx0 (F81f_4 gg i v) [(6, (.v v))] (by kernel_rfl) ⟨RG.st fun _ _ => by kernel_rfl, RG.cert_idx rfl 73 12 14 rfl (.v (.slice (some ⟨gg, 0, none⟩) n cap)) (.int .i64 (i : Int)) (RG.sx fun _ => by kernel_rfl) (RG.sx fun _ => by kernel_rfl) (fun μ w => at46 _ 0 _ _ i hi w), RG.cert_load1B rfl gg (0 + i) hgg List.not_mem_nil 22 17 rfl v rfl (RG.sx fun _ => by kernel_rfl) hcell u23, RG.st fun _ _ => by kernel_rfl, RG.st fun _ _ => by kernel_rfl, trivial⟩ ?_
      intro a22 w22 M22
      repeat refine wp_seq ?_
      refine M22.tx (F81f_5 m v) [(6, (RG.z 4))] [(1, 7, (wn 0))] [C, (wn 0)] [(8, (.v (.bool false)))] (by kernel_rfl) (by kernel_rfl) ⟨RG.cl (Scalars_c) fun _ _ => by kernel_rfl, RG.st fun _ _ => by kernel_rfl, RG.cert_callB2 rfl 40 20 21 gv1 v (.tuple #[(nv 0), (.bool false)]) rfl (fun a w => by kernel_rfl) (RG.sx fun _ => by kernel_rfl) (RG.sx fun _ => by kernel_rfl) hrd, RG.st fun _ _ => by kernel_rfl, RG.st fun _ _ => by kernel_rfl, RG.st fun _ _ => by kernel_rfl, RG.mk 1 46 fun _ _ => by kernel_rfl, RG.pt i85 (by kernel_rfl), RG.st fun _ _ => by kernel_rfl, trivial⟩ ?_
      intro j23 a23 w23 M23
      repeat refine wp_seq ?_
      refine M23.tx0 F81f_6 [(26, (.v (.bool true)))] (by kernel_rfl) ⟨RG.st fun _ _ => by kernel_rfl, RG.st fun _ _ => by kernel_rfl, trivial⟩ ?_
      intro a24 w24 M24
      repeat refine wp_seq ?_
      refine wp_cond_true (M24.ev (by kernel_rfl)) ?_
      repeat refine wp_seq ?_
      refine M24.tx0 F81f_7 [(2, (.v (.slice none 0 0))), (3, (.v (.int .i64 3)))] (by kernel_rfl) ⟨RG.st fun _ _ => by kernel_rfl, RG.st fun _ _ => by kernel_rfl, trivial⟩ ?_
      intro a25 w25 M25
      have hS25 : RG.St w w.heap.size [] [C, (wn 0)] [kt, j23] _ := M25.st
      have sl25 := M25.sl
      have f2_25 : a25.tmps[2]? = some (.slice none 0 0) := M25.at (s := (.v (.slice none 0 0))) (by kernel_rfl)
      have f3_25 : a25.tmps[3]? = some (.int .i64 3) := M25.at (s := (.v (.int .i64 3))) (by kernel_rfl)
      refine wp_ret ?_
      refine bodyPost_ret (v := .tuple #[.slice none 0 0, .int .i64 3]) (RG.results_tt 2 3 rfl _ _ f2_25 f3_25) sl25.defers ?_
      exact ⟨_, rfl, hS25.bel.below, Or.inr ⟨⟨i, hi, hrdv⟩, rfl⟩⟩
  · have hiN : i = n := by omega
    have M30 : RG.M w w.heap.size [] 33 [C] [kt] [(4, (.s 0 n n)), (12, (.v (.slice q n cap))), (13, (.v (.int .i64 (n : Int)))), (14, (.v (.int .i64 (i : Int))))] a _ := ⟨hSp, sl, ⟨p4, p12, p13, p14, trivial⟩⟩
    repeat refine wp_seq ?_
    refine M30.tx0 F81e_3 [(4, (.s 0 n n)), (15, (.v (.bool false)))] (by kernel_rfl) ⟨RG.cert_bin rfl .lss 3 3 14 13 (.int .i64 (i : Int)) (.int .i64 (n : Int)) (.bool false) rfl rfl (RG.sx fun _ => by kernel_rfl) (RG.sx fun _ => by kernel_rfl) (fun w => by kernel_rfl) (lssn_f hi), trivial⟩ ?_
    intro a31 w31 M31
    repeat refine wp_seq ?_
    refine wp_cond_false (M31.ev (by kernel_rfl)) ?_
    refine wp_exit ?_
    dsimp only [Exit.then, Exit.inBlock]
    rw [if_pos rfl]
    repeat refine wp_seq ?_
    refine M31.tx0 (F81e_10 n) [(2, (.s 0 n n)), (3, (.v (.int .i64 0)))] (by kernel_rfl) ⟨RG.st fun _ _ => by kernel_rfl, RG.st fun _ _ => by kernel_rfl, RG.st fun _ _ => by kernel_rfl, trivial⟩ ?_
    intro a32 w32 M32
    have hS32 : RG.St w w.heap.size [] [C] [kt] _ := M32.st
    have sl32 := M32.sl
    have f2_32 : a32.tmps[2]? = some (.slice (some ⟨kt, 0, none⟩) n n) := M32.at (s := (.s 0 n n)) (by kernel_rfl)
    have f3_32 : a32.tmps[3]? = some (.int .i64 0) := M32.at (s := (.v (.int .i64 0))) (by kernel_rfl)
    refine wp_ret ?_
    refine bodyPost_ret (v := .tuple #[.slice (some ⟨kt, 0, none⟩) n n, .int .i64 0]) (RG.results_tt 2 3 rfl _ _ f2_32 f3_32) sl32.defers ?_
    refine ⟨_, rfl, hS32.bel.below, Or.inl ⟨kt, ?_, ?_, rfl, fun j hj => ?_⟩⟩
    · exact (hS32.has 0 C rfl).2.2.2.elim id (fun h => absurd h List.not_mem_nil)
    · exact (hS32.has 0 C rfl).2.2.1
    · obtain ⟨pp, hpp⟩ := Option.isSome_iff_exists.1 (hall j (by omega))
      refine ⟨pp, hpp, RG.range_sub (hS32.has 0 C rfl).1 (fun r hr => ?_)⟩
      have h5 := hR.row j r (by omega) hr
      rw [h5]
      show (match rq N (L j) with | some p => _ | none => _)[r]? = _
      rw [hpp]
end Go.Proofs.YticolhhalbbogacGreat
set_option linter.unusedVariables false
set_option linter.unusedSimpArgs false
namespace Go.Proofs.YticolhhalbbogacGreat
open Go.RowKit Go.Sort Go.Deep
variable {P : Nat} [NeZero P]
omit [NeZero P] in
theorem words2 (x y : Fin P) : ∃ a b c d p q r s : Nat, pv x y = .agg #[.int .u64 (a : Int), .int .u64 (b : Int), .int .u64 (c : Int), .int .u64 (d : Int), .int .u64 (p : Int), .int .u64 (q : Int), .int .u64 (r : Int), .int .u64 (s : Int)] ∧ ws x ++ ws y = [.int .u64 (a : Int), .int .u64 (b : Int), .int .u64 (c : Int), .int .u64 (d : Int), .int .u64 (p : Int), .int .u64 (q : Int), .int .u64 (r : Int), .int .u64 (s : Int)] :=
  ⟨_, _, _, _, _, _, _, _, rfl, rfl⟩
theorem cells8 {w : World} {k o : Nat} {a b c d p q r s : Nat} (h : w.rangeAt k o [.int .u64 (a : Int), .int .u64 (b : Int), .int .u64 (c : Int), .int .u64 (d : Int), .int .u64 (p : Int), .int .u64 (q : Int), .int .u64 (r : Int), .int .u64 (s : Int)]) :
    w.cell? ⟨k, o, none⟩ = some (.int .u64 (a : Int)) ∧ w.cell? ⟨k, o + 1, none⟩ = some (.int .u64 (b : Int)) ∧ w.cell? ⟨k, o + 2, none⟩ = some (.int .u64 (c : Int)) ∧ w.cell? ⟨k, o + 3, none⟩ = some (.int .u64 (d : Int)) ∧
    w.cell? ⟨k, o + 4, none⟩ = some (.int .u64 (p : Int)) ∧ w.cell? ⟨k, o + 5, none⟩ = some (.int .u64 (q : Int)) ∧ w.cell? ⟨k, o + 6, none⟩ = some (.int .u64 (r : Int)) ∧ w.cell? ⟨k, o + 7, none⟩ = some (.int .u64 (s : Int)) :=
  ⟨h 0 _ rfl, h 1 _ rfl, h 2 _ rfl, h 3 _ rfl, h 4 _ rfl, h 5 _ rfl, h 6 _ rfl, h 7 _ rfl⟩
/-- What a call of the face answers: an errno, or a point's bytes in new memory. -/
def OutE (c : Int) (e : Value) : Prop := e = .tuple #[.slice none 0 0, .int .i64 c]
def OutP (w : World) (T : Bs) (e : Value) (w' : World) : Prop := ∃ g cap, e = .tuple #[.slice (some ⟨g, 0, none⟩) 33 cap, .int .i64 0] ∧ 33 ≤ cap ∧ w.heap.size ≤ g ∧ g < w'.heap.size ∧ Holds encB w' g 0 T
def MinusR (P : Nat) [NeZero P] (w : World) (bs : Bs) (e : Value) (w' : World) : Prop := match rd P bs with
  | none => OutE 4 e
  | some p => OutP w (by33 p.1 (0 - p.2)) e w'
theorem one_args {w : World} {v : Value} {bs : Bs} (T : TypeId) (h : Arg33 w v bs) : ArgsPts (w.alloc (.cells #[v] T)) (some ⟨w.heap.size, 0, none⟩) 1 (fun _ => bs) := fun _ =>
  ⟨w.heap.size, rfl, by rw [World.size_alloc]; omega, fun j hj => by
    obtain rfl : j = 0 := by omega
    exact ⟨v, by rw [World.cell?_alloc_new]; rfl, h.below (below1 w _)⟩⟩
/-- Two points in a block. -/
structure PS (w : World) (k : Nat) (a1 b1 c1 d1 p1 q1 r1 s1 a2 b2 c2 d2 p2 q2 r2 s2 : Nat) (W : World) : Prop where
  r1 : W.rangeAt k 0 [.int .u64 (a1 : Int), .int .u64 (b1 : Int), .int .u64 (c1 : Int), .int .u64 (d1 : Int), .int .u64 (p1 : Int), .int .u64 (q1 : Int), .int .u64 (r1 : Int), .int .u64 (s1 : Int)]
  r2 : W.rangeAt k 8 [.int .u64 (a2 : Int), .int .u64 (b2 : Int), .int .u64 (c2 : Int), .int .u64 (d2 : Int), .int .u64 (p2 : Int), .int .u64 (q2 : Int), .int .u64 (r2 : Int), .int .u64 (s2 : Int)]
  lt : k < W.heap.size
  bl : Below w.heap.size w W
theorem PS.call {w W W' : World} {k a1 b1 c1 d1 p1 q1 r1 s1 a2 b2 c2 d2 p2 q2 r2 s2 : Nat} (h : PS w k a1 b1 c1 d1 p1 q1 r1 s1 a2 b2 c2 d2 p2 q2 r2 s2 W) (hb : Below W.heap.size W W') : PS w k a1 b1 c1 d1 p1 q1 r1 s1 a2 b2 c2 d2 p2 q2 r2 s2 W' :=
  ⟨RG.range_below h.r1 hb h.lt, RG.range_below h.r2 hb h.lt, Nat.lt_of_lt_of_le h.lt hb.size, h.bl.trans (hb.mono h.bl.size)⟩
theorem PS.drew {w W : World} {k a1 b1 c1 d1 p1 q1 r1 s1 a2 b2 c2 d2 p2 q2 r2 s2 : Nat} (h : PS w k a1 b1 c1 d1 p1 q1 r1 s1 a2 b2 c2 d2 p2 q2 r2 s2 W) : PS w k a1 b1 c1 d1 p1 q1 r1 s1 a2 b2 c2 d2 p2 q2 r2 s2 W.drew := ⟨h.r1, h.r2, h.lt, h.bl.drew⟩
theorem psS {w W : World} {k a1 b1 c1 d1 p1 q1 r1 s1 a2 b2 c2 d2 p2 q2 r2 s2 : Nat} (h : PS w k a1 b1 c1 d1 p1 q1 r1 s1 a2 b2 c2 d2 p2 q2 r2 s2 W) : W.cell? ⟨k, 0, none⟩ = some (.int .u64 (a1 : Int)) ∧ W.cell? ⟨k, 1, none⟩ = some (.int .u64 (b1 : Int)) ∧ W.cell? ⟨k, 2, none⟩ = some (.int .u64 (c1 : Int)) ∧ W.cell? ⟨k, 3, none⟩ = some (.int .u64 (d1 : Int)) ∧ W.cell? ⟨k, 4, none⟩ = some (.int .u64 (p1 : Int)) ∧ W.cell? ⟨k, 5, none⟩ = some (.int .u64 (q1 : Int)) ∧ W.cell? ⟨k, 6, none⟩ = some (.int .u64 (r1 : Int)) ∧ W.cell? ⟨k, 7, none⟩ = some (.int .u64 (s1 : Int)) ∧ W.cell? ⟨k, 8, none⟩ = some (.int .u64 (a2 : Int)) ∧ W.cell? ⟨k, 9, none⟩ = some (.int .u64 (b2 : Int)) ∧ W.cell? ⟨k, 10, none⟩ = some (.int .u64 (c2 : Int)) ∧ W.cell? ⟨k, 11, none⟩ = some (.int .u64 (d2 : Int)) ∧ W.cell? ⟨k, 12, none⟩ = some (.int .u64 (p2 : Int)) ∧ W.cell? ⟨k, 13, none⟩ = some (.int .u64 (q2 : Int)) ∧ W.cell? ⟨k, 14, none⟩ = some (.int .u64 (r2 : Int)) ∧ W.cell? ⟨k, 15, none⟩ = some (.int .u64 (s2 : Int)) ∧ PS w k a1 b1 c1 d1 p1 q1 r1 s1 a2 b2 c2 d2 p2 q2 r2 s2 W :=
  let ⟨x0, x1, x2, x3, x4, x5, x6, x7⟩ := cells8 h.r1
  let ⟨y0, y1, y2, y3, y4, y5, y6, y7⟩ := cells8 h.r2
  ⟨x0, x1, x2, x3, x4, x5, x6, x7, y0, y1, y2, y3, y4, y5, y6, y7, h⟩
theorem two_args {w : World} {v u : Value} {az bs : Bs} (T : TypeId) (h : Arg33 w v az) (h' : Arg33 w u bs) : ArgsPts (w.alloc (.cells #[v, u] T)) (some ⟨w.heap.size, 0, none⟩) 2 (fun j => if j = 0 then az else bs) := fun _ =>
  ⟨w.heap.size, rfl, by rw [World.size_alloc]; omega, fun j hj => by
    by_cases h0 : j = 0
    · subst h0
      exact ⟨v, by rw [World.cell?_alloc_new]; rfl, h.below (below1 w _)⟩
    · obtain rfl : j = 1 := by omega
      exact ⟨u, by rw [World.cell?_alloc_new]; rfl, h'.below (below1 w _)⟩⟩
/-- The point that Plus answers. -/
def plP (p q : Fin P × Fin P) : T3 P := plJ (raJ p.1 p.2) (raJ q.1 q.2)
def ptP (s : T3 P) : Fin P × Fin P := (s.1 * (EC.inv s.2.2 * EC.inv s.2.2), s.2.1 * (EC.inv s.2.2 * EC.inv s.2.2) * EC.inv s.2.2)
def PlusR (P : Nat) [NeZero P] (w : World) (az bs : Bs) (e : Value) (w' : World) : Prop := match rd P az, rd P bs with
  | some p, some q => OutP w (by33 (ptP (plP p q)).1 (ptP (plP p q)).2) e w'
  | _, _ => OutE 4 e
end Go.Proofs.YticolhhalbbogacGreat
namespace Go.Proofs.YticolhhalbbogacGreat
open Go.RowKit Go.Sort Go.Deep
variable {P : Nat} [NeZero P]
theorem cell_below {w w1 : World} {k j : Nat} {v : Value} (h : w.cell? ⟨k, j, none⟩ = some v) (hb : Below w.heap.size w w1) (hk : k < w.heap.size) : w1.cell? ⟨k, j, none⟩ = some v := by
  have h1 : w.rangeAt k j [v] := fun i u hu => by
    cases i with
    | zero =>
      obtain rfl : v = u := Option.some.inj hu
      exact h
    | succ i => exact absurd hu (by simp)
  exact RG.range_below h1 hb hk 0 v rfl
theorem ArgsPts.below {w w1 : World} {q : Option Addr} {n : Nat} {L : Nat → Bs} (h : ArgsPts w q n L) (hb : Below w.heap.size w w1) : ArgsPts w1 q n L := fun hn => by
  obtain ⟨gg, hq, hlt, hc⟩ := h hn
  refine ⟨gg, hq, Nat.lt_of_lt_of_le hlt hb.size, fun j hj => ?_⟩
  obtain ⟨v, hv, ha⟩ := hc j hj
  exact ⟨v, cell_below hv hb hlt, ha.below hb⟩
theorem ArgsScs.below {w w1 : World} {q : Option Addr} {n : Nat} {L : Nat → Bs} (h : ArgsScs w q n L) (hb : Below w.heap.size w w1) : ArgsScs w1 q n L := fun hn => by
  obtain ⟨gg, hq, hlt, hc⟩ := h hn
  refine ⟨gg, hq, Nat.lt_of_lt_of_le hlt hb.size, fun j hj => ?_⟩
  obtain ⟨v, hv, ha⟩ := hc j hj
  exact ⟨v, cell_below hv hb hlt, ha.below hb⟩
/-- What Sum answers. -/
def SumR (P : Nat) [NeZero P] (N : Nat) (w : World) (n a : Nat) (L M : Nat → Bs) (e : Value) (w' : World) : Prop :=
  (n ≠ a ∧ OutE 2 e) ∨ (n = a ∧ 512 < n ∧ OutE 1 e) ∨ (n = a ∧ n ≤ 512 ∧ (((∃ j, j < n ∧ rq N (L j) = none) ∧ OutE 3 e) ∨
    ∃ ns : Nat → Nat, (∀ j, j < n → rq N (L j) = some (ns j)) ∧ (((∃ j, j < n ∧ rd P (M j) = none) ∧ OutE 4 e) ∨
      ∃ xs ys : Nat → Fin P, (∀ j, j < n → rd P (M j) = some (xs j, ys j)) ∧ OutP w (by33 (ptP (sumJ ns xs ys n 257)).1 (ptP (sumJ ns xs ys n 257)).2) e w')))
theorem choose_nat {A : Type} [Inhabited A] {n : Nat} {p : Nat → A → Prop} (h : ∀ j, j < n → ∃ a, p j a) : ∃ f : Nat → A, ∀ j, j < n → p j (f j) :=
  ⟨fun j => if hj : j < n then (h j hj).choose else default, fun j hj => by
    show p j (if hj : j < n then (h j hj).choose else default)
    rw [dif_pos hj]
    exact (h j hj).choose_spec⟩
theorem rq_top {N : Nat} (hN : N ≤ top) {bs : Bs} {m : Nat} (h : rq N bs = some m) : m < top := by
  unfold rq at h
  split at h
  · rename_i h1
    obtain rfl : beV bs.toList = m := Option.some.inj h
    exact Nat.lt_of_lt_of_le h1.2 hN
  · exact absurd h (by simp)
theorem one_scs {w : World} {v : Value} {bs : Bs} (T : TypeId) (h : Arg w v bs) : ArgsScs (w.alloc (.cells #[v] T)) (some ⟨w.heap.size, 0, none⟩) 1 (fun _ => bs) := fun _ =>
  ⟨w.heap.size, rfl, by rw [World.size_alloc]; omega, fun j hj => by
    obtain rfl : j = 0 := by omega
    exact ⟨v, by rw [World.cell?_alloc_new]; rfl, h.below (below1 w _)⟩⟩
theorem inn_one (ns : Nat → Nat) (xs ys : Nat → Fin P) (st : T3 P) (p : Nat) : inn ns xs ys st p 1 = inn (fun _ => ns 0) (fun _ => xs 0) (fun _ => ys 0) st p 1 := rfl
theorem sumJ_one (ns : Nat → Nat) (xs ys : Nat → Fin P) : ∀ m, sumJ ns xs ys 1 m = sumJ (fun _ => ns 0) (fun _ => xs 0) (fun _ => ys 0) 1 m
  | 0 => rfl
  | m + 1 => by
    unfold sumJ
    rw [sumJ_one ns xs ys m, inn_one]
/-- What Times answers. -/
def TimesR (P : Nat) [NeZero P] (N : Nat) (w : World) (az bs : Bs) (e : Value) (w' : World) : Prop := match rq N az, rd P bs with
  | none, _ => OutE 3 e
  | some _, none => OutE 4 e
  | some n, some p => OutP w (by33 (ptP (sumJ (fun _ => n) (fun _ => p.1) (fun _ => p.2) 1 257)).1 (ptP (sumJ (fun _ => n) (fun _ => p.1) (fun _ => p.2) 1 257)).2) e w'
end Go.Proofs.YticolhhalbbogacGreat
namespace Go.Proofs.YticolhhalbbogacGreat
open Go.RowKit Go.Sort Go.Deep
variable {P : Nat} [NeZero P]
/-- 33 zeros. -/
def zs33 : Bs := Array.replicate 33 0
theorem sq_mod (r d : Nat) : d * d % (r + d) = r * r % (r + d) := by
  have h : d * d + (r + d) * r = r * r + (r + d) * d := by
    rw [Nat.add_mul, Nat.add_mul, Nat.mul_comm d r]
    omega
  have h1 := congrArg (· % (r + d)) h
  simp only [Nat.add_mul_mod_self_left] at h1
  exact h1
theorem rt_sq {m y : Fin P} (h : rt m = some y) : y * y = m := by
  have h0 := rt_yes h
  unfold rt at h
  rw [if_pos h0] at h
  obtain rfl := Option.some.inj h
  have hP := Nat.pos_of_neZero P
  have hr : m.val ^ (P / 4 + 1) % P < P := Nat.mod_lt _ hP
  generalize m.val ^ (P / 4 + 1) % P = r at h0 hr
  apply Fin.ext
  rw [Fin.val_mul]
  show (even P r % P) * (even P r % P) % P = m.val
  rw [Nat.mod_eq_of_lt (even_lt hP hr), ← h0]
  unfold even
  split
  · have h2 := sq_mod r (P - r)
    rw [show r + (P - r) = P by omega] at h2
    exact h2
  · rfl
theorem zero33_iff {bs : Bs} (hs : bs.size = 33) : Zero33 bs ↔ bs = zs33 := by
  constructor
  · intro h
    apply Array.ext
    · rw [hs]; rfl
    · intro i h1 h2
      have := h i (List.mem_range.2 (by omega))
      rw [getElem!_pos bs i h1] at this
      have h3 : bs[i].toNat = 0 := by
        have h4 : ub bs[i] = (bs[i].toNat : Int) := rfl
        rw [h4] at this
        omega
      have h5 : (zs33)[i] = 0 := by
        have h6 : (Array.replicate 33 (0 : UInt8))[i]'h2 = 0 := Array.getElem_replicate _
        exact h6
      rw [h5]
      exact UInt8.toNat_inj.1 h3
  · rintro rfl i hi
    have hi := List.mem_range.1 hi
    unfold zs33
    rw [getElem!_pos _ i (by rw [Array.size_replicate]; exact hi), Array.getElem_replicate]
    rfl
theorem on_of {x y : Fin P} (h : y * y = x * x * x + 7) : EC.On (.some (x, y) : EC.Pt P) := by
  show y ^ 2 = x ^ 3 + 7
  grobner
theorem on_neg {x y : Fin P} (h : y * y = x * x * x + 7) : EC.On (.some (x, 0 - y) : EC.Pt P) := by
  show (0 - y) ^ 2 = x ^ 3 + 7
  grobner
/-- A point's bytes. -/
def wr : EC.Pt P → Bs
  | none => zs33
  | some (x, y) => #[mark y.val] ++ bx x.val
theorem by33_wr (C : Fld P) {x y : Fin P} {p : EC.Pt P} (h : EC.Pair x y p) (ho : EC.On p) : by33 x y = wr p := by
  unfold by33
  match p, h, ho with
  | none, h, _ => rw [if_pos (show x = 0 ∧ y = 0 from h)]; rfl
  | some (a, b), h, ho =>
    obtain ⟨rfl, rfl⟩ := h
    rw [if_neg (fun e => C.cur.y_ne ho e.2)]
    rfl
/-- The point that a pair is. -/
def pt (p : Fin P × Fin P) : EC.Pt P := if p.1 = 0 ∧ p.2 = 0 then none else some p
theorem pair_pt (C : Fld P) {x y : Fin P} {q : EC.Pt P} (h : EC.Pair x y q) (ho : EC.On q) : q = pt (x, y) := by
  unfold pt
  match q, h, ho with
  | none, h, _ => rw [if_pos (show x = 0 ∧ y = 0 from h)]
  | some (a, b), h, ho =>
    obtain ⟨rfl, rfl⟩ := h
    rw [if_neg (fun e => C.cur.y_ne ho e.2)]
theorem rd_on (C : Fld P) {bs : Bs} {p : Fin P × Fin P} (h : rd P bs = some p) : EC.Pair p.1 p.2 (pt p) ∧ EC.On (pt p) := by
  have key : ∃ q : EC.Pt P, EC.Pair p.1 p.2 q ∧ EC.On q := by
    unfold rd at h
    split at h
    · split at h
      · obtain rfl := Option.some.inj h
        exact ⟨none, ⟨rfl, rfl⟩, EC.none_on⟩
      · split at h
        · split at h
          · obtain ⟨y, hr, rfl⟩ := Option.map_eq_some_iff.1 h
            have hsq := rt_sq hr
            refine ⟨some (rdx P bs, if ub bs[0]! = 3 then 0 - y else y), ⟨rfl, rfl⟩, ?_⟩
            split
            · exact on_neg hsq
            · exact on_of hsq
          · cases h
        · cases h
    · cases h
  obtain ⟨q, h1, h2⟩ := key
  have := pair_pt C h1 h2
  rw [show pt p = q from this.symm]
  exact ⟨h1, h2⟩
/-- What Plus answers, by the points. -/
def PlusQ (P : Nat) [NeZero P] (w : World) (az bs : Bs) (e : Value) (w' : World) : Prop := match rd P az, rd P bs with
  | some p, some q => OutP w (wr (EC.add (pt p) (pt q))) e w'
  | _, _ => OutE 4 e
theorem PlusR.q (C : Fld P) {w w' : World} {az bs : Bs} {e : Value} (h : PlusR P w az bs e w') : PlusQ P w az bs e w' := by
  unfold PlusR at h
  unfold PlusQ
  cases h1 : rd P az with
  | none => rw [h1] at h; exact h
  | some p =>
    cases h2 : rd P bs with
    | none => rw [h1, h2] at h; exact h
    | some q =>
      rw [h1, h2] at h
      have hp := rd_on C h1
      have hq := rd_on C h2
      have hJ := (raJ_J C hp.1 hp.2).plus C (raJ_J C hq.1 hq.2)
      have e1 := by33_wr C (hJ.pair C) hJ.2
      dsimp only at h ⊢
      rw [← e1]
      exact h
def MinusQ (P : Nat) [NeZero P] (w : World) (bs : Bs) (e : Value) (w' : World) : Prop := match rd P bs with
  | some p => OutP w (wr (EC.neg (pt p))) e w'
  | none => OutE 4 e
theorem MinusR.q (C : Fld P) {w w' : World} {bs : Bs} {e : Value} (h : MinusR P w bs e w') : MinusQ P w bs e w' := by
  unfold MinusR at h
  unfold MinusQ
  cases h1 : rd P bs with
  | none => rw [h1] at h; exact h
  | some p =>
    rw [h1] at h
    have hp := rd_on C h1
    have hn : EC.Pair p.1 (0 - p.2) (EC.neg (pt p)) := by
      generalize pt p = q at hp
      match q, hp.1 with
      | none, h => exact ⟨h.1, by rw [show p.2 = 0 from h.2]; grobner⟩
      | some (a, b), h => exact ⟨h.1, by rw [show p.2 = b from h.2]; grobner⟩
    have e1 := by33_wr C hn (EC.neg_on hp.2)
    dsimp only at h ⊢
    rw [← e1]
    exact h
def TimesQ (P : Nat) [NeZero P] (N : Nat) (w : World) (az bs : Bs) (e : Value) (w' : World) : Prop := match rq N az, rd P bs with
  | none, _ => OutE 3 e
  | some _, none => OutE 4 e
  | some n, some p => OutP w (wr (EC.mul n (pt p))) e w'
theorem TimesR.q (C : Fld P) {N : Nat} (hN : N ≤ top) {w w' : World} {az bs : Bs} {e : Value} (h : TimesR P N w az bs e w') : TimesQ P N w az bs e w' := by
  unfold TimesR at h
  unfold TimesQ
  cases h1 : rq N az with
  | none => rw [h1] at h; exact h
  | some n =>
    cases h2 : rd P bs with
    | none => rw [h1, h2] at h; exact h
    | some p =>
      rw [h1, h2] at h
      have hp := rd_on C h2
      have hJ := sumJ_all C (N := 1) (ns := fun _ => n) (xs := fun _ => p.1) (ys := fun _ => p.2) (p := fun _ => pt p) (fun _ _ => rq_top hN h1) (fun _ _ => hp.1) (fun _ _ => hp.2)
      have e1 := by33_wr C (hJ.pair C) hJ.2
      have e2 : EC.tot (fun _ => pt p) 1 (fun _ => (n : Int)) = EC.mul n (pt p) := by
        rfl
      rw [e2] at e1
      dsimp only at h ⊢
      rw [← e1]
      exact h
omit [NeZero P] in
theorem wr_size (p : EC.Pt P) : (wr p).size = 33 := by
  match p with
  | none => rfl
  | some (x, y) =>
    show (#[mark y.val] ++ bx x.val).size = 33
    rw [Array.size_append, bx_size]
    rfl
end Go.Proofs.YticolhhalbbogacGreat
namespace Go.Proofs.YticolhhalbbogacGreat
theorem add_assoc_mod (a b c P : Nat) : ((a + b) % P + c) % P = (a + (b + c) % P) % P := by
  rw [Nat.add_mod ((a + b) % P), Nat.mod_mod, ← Nat.add_mod, Nat.add_mod a ((b + c) % P), Nat.mod_mod, ← Nat.add_mod, Nat.add_assoc]
theorem mul_assoc_mod (a b c P : Nat) : a * b % P * c % P = a * (b * c % P) % P := by
  rw [Nat.mul_mod (a * b % P), Nat.mod_mod, ← Nat.mul_mod, Nat.mul_mod a (b * c % P), Nat.mod_mod, ← Nat.mul_mod, Nat.mul_assoc]
theorem distrib_mod (a b c P : Nat) : a * ((b + c) % P) % P = (a * b % P + a * c % P) % P := by
  rw [Nat.mul_mod, Nat.mod_mod, ← Nat.mul_mod, Nat.mul_add, ← Nat.add_mod]
theorem add_sub_mod {a b P : Nat} (ha : a < P) (hb : b < P) : ((a + b) % P + P - b) % P = a := by
  by_cases h : a + b < P
  · rw [Nat.mod_eq_of_lt h, show a + b + P - b = a + P by omega, Nat.add_mod_right, Nat.mod_eq_of_lt ha]
  · have e : (a + b) % P = a + b - P := by rw [Nat.mod_eq_sub_mod (by omega), Nat.mod_eq_of_lt (by omega)]
    rw [e, show a + b - P + P - b = a by omega, Nat.mod_eq_of_lt ha]
theorem sub_self_mod {a P : Nat} (ha : a < P) : (a + P - a) % P = 0 := by
  rw [show a + P - a = P by omega, Nat.mod_self]
theorem inv_mod {a P : Nat} (h : NT.IsP P) (ha : a < P) (h0 : ¬ a = 0) : a * (a ^ (P - 2) % P) % P = 1 := by
  have h2 := h.1
  rw [Nat.mul_mod, Nat.mod_mod, ← Nat.mul_mod, Nat.mul_comm, ← Nat.pow_succ, show (P - 2).succ = P - 1 by omega]
  exact h.fermat1 a (fun hd => h0 (Nat.eq_zero_of_dvd_of_lt hd ha))
theorem inv_zero_mod {P : Nat} (h : 2 < P) : 0 ^ (P - 2) % P = 0 := by
  rw [Nat.zero_pow (by omega), Nat.zero_mod]
theorem root_mod {a P : Nat} (h : NT.IsP P) (h4 : P % 4 = 3) : (a * a % P) ^ (P / 4 + 1) % P * ((a * a % P) ^ (P / 4 + 1) % P) % P = a * a % P := by
  rw [← Nat.mul_mod, ← Nat.pow_add, ← Nat.pow_mod, ← Nat.pow_two, ← Nat.pow_mul, show 2 * (P / 4 + 1 + (P / 4 + 1)) = P + 1 by omega, Nat.pow_succ, Nat.mul_mod, h.fermat a, ← Nat.mul_mod, Nat.pow_two]
theorem root_is {a R P : Nat} (h : NT.IsP P) (ha : a < P) (hR : R < P) (he : R * R % P = a * a % P) : R = a ∨ R + a = P := by
  have key : ∀ x y : Nat, x < P → y < P → y ≤ x → x * x % P = y * y % P → x = y ∨ x + y = P := by
    intro x y hx hy hxy hxe
    have hd : P ∣ x * x - y * y := by
      refine Nat.dvd_of_mod_eq_zero ?_
      exact Nat.sub_mod_eq_zero_of_mod_eq hxe
    have hf : x * x - y * y = (x - y) * (x + y) := by
      rw [Nat.mul_comm (x - y), Nat.mul_self_sub_mul_self_eq]
    rw [hf] at hd
    rcases h.euclid hd with h1 | h1
    · left
      have := Nat.eq_zero_of_dvd_of_lt h1 (by omega)
      omega
    · obtain ⟨k, hk⟩ := h1
      have : k = 0 ∨ k = 1 ∨ 2 ≤ k := by omega
      rcases this with rfl | rfl | h2
      · left; omega
      · right; omega
      · have := Nat.mul_le_mul_left P h2
        omega
  rcases Nat.le_total a R with h1 | h1
  · exact key R a hR ha h1 he
  · rcases key a R ha hR h1 he.symm with h2 | h2
    · left; exact h2.symm
    · right; omega
end Go.Proofs.YticolhhalbbogacGreat
namespace Go.Proofs.YticolhhalbbogacGreat
open Go.RowKit Go.Sort Go.Deep
theorem w8_be8 (x : Nat) (hx : x < 18446744073709551616) :
    w8 (UInt8.ofNat (x / 72057594037927936)) (UInt8.ofNat (x / 281474976710656)) (UInt8.ofNat (x / 1099511627776)) (UInt8.ofNat (x / 4294967296)) (UInt8.ofNat (x / 16777216)) (UInt8.ofNat (x / 65536)) (UInt8.ofNat (x / 256)) (UInt8.ofNat x) = x := by
  unfold w8
  simp only [UInt8.toNat_ofNat']
  omega
theorem be32_list (a b c d : Nat) : (be32 a b c d).toList = [UInt8.ofNat (d / 72057594037927936), UInt8.ofNat (d / 281474976710656), UInt8.ofNat (d / 1099511627776), UInt8.ofNat (d / 4294967296), UInt8.ofNat (d / 16777216), UInt8.ofNat (d / 65536), UInt8.ofNat (d / 256), UInt8.ofNat d, UInt8.ofNat (c / 72057594037927936), UInt8.ofNat (c / 281474976710656), UInt8.ofNat (c / 1099511627776), UInt8.ofNat (c / 4294967296), UInt8.ofNat (c / 16777216), UInt8.ofNat (c / 65536), UInt8.ofNat (c / 256), UInt8.ofNat c, UInt8.ofNat (b / 72057594037927936), UInt8.ofNat (b / 281474976710656), UInt8.ofNat (b / 1099511627776), UInt8.ofNat (b / 4294967296), UInt8.ofNat (b / 16777216), UInt8.ofNat (b / 65536), UInt8.ofNat (b / 256), UInt8.ofNat b, UInt8.ofNat (a / 72057594037927936), UInt8.ofNat (a / 281474976710656), UInt8.ofNat (a / 1099511627776), UInt8.ofNat (a / 4294967296), UInt8.ofNat (a / 16777216), UInt8.ofNat (a / 65536), UInt8.ofNat (a / 256), UInt8.ofNat a] := by
  simp only [be32, be8, Array.toList_append, List.cons_append, List.nil_append]
theorem val_congr {a b c d p q r s : Nat} (h1 : a = p) (h2 : b = q) (h3 : c = r) (h4 : d = s) : val a b c d = val p q r s := by subst h1 h2 h3 h4; rfl
theorem beV_be32 (a b c d : Nat) (ha : a < 18446744073709551616) (hb : b < 18446744073709551616) (hc : c < 18446744073709551616) (hd : d < 18446744073709551616) : beV (be32 a b c d).toList = val a b c d :=
  (congrArg beV (be32_list a b c d)).trans ((beV_32 _ _ _ _ _ _ _ _ _ _ _ _ _ _ _ _ _ _ _ _ _ _ _ _ _ _ _ _ _ _ _ _).trans (val_congr (w8_be8 a ha) (w8_be8 b hb) (w8_be8 c hc) (w8_be8 d hd)))
theorem bx_val {n : Nat} (hn : n < top) : beV (bx n).toList = n := by
  unfold bx
  rw [beV_be32 _ _ _ _ (by omega) (by omega) (by omega) (by omega)]
  unfold val
  unfold top at hn
  omega
variable {P : Nat} [NeZero P]
theorem rt_of (C : Fld P) {y m : Fin P} (h : y * y = m) : rt m = some (if y.val % 2 = 1 then 0 - y else y) := by
  have hm : y.val * y.val % P = m.val := by rw [← h, Fin.val_mul]
  have h1 := root_mod (a := y.val) C.cur.pr C.p3
  rw [hm] at h1
  unfold rt
  rw [if_pos h1]
  have hP := Nat.pos_of_neZero P
  have hr : m.val ^ (P / 4 + 1) % P < P := Nat.mod_lt _ hP
  generalize m.val ^ (P / 4 + 1) % P = r at h1 hr
  have hy := y.isLt
  have h3 := C.p3
  have hor := root_is C.cur.pr hy hr (h1.trans hm.symm)
  congr 1
  apply Fin.ext
  show even P r % P = _
  unfold even
  have h0 : (0 - y : Fin P).val = (P - y.val) % P := by rw [← sub_fin, EC.val_zero, Nat.zero_add]
  by_cases ho : y.val % 2 = 1
  · rw [if_pos ho, h0]
    rcases hor with e | e
    · rw [e, if_pos ho]
    · rw [if_neg (by omega), show P - y.val = r by omega]
  · rw [if_neg ho]
    rcases hor with e | e
    · rw [e, if_neg ho, Nat.mod_eq_of_lt hy]
    · by_cases hz : y.val = 0
      · omega
      · rw [if_pos (by omega), show P - r = y.val by omega, Nat.mod_eq_of_lt hy]
theorem ub_mark (n : Nat) : ub (mark n) = if n % 2 = 1 then 3 else 2 := by
  unfold mark
  split <;> rfl
theorem tl_mark {m : UInt8} {b : Bs} (h : b.size = 32) : tl33 (#[m] ++ b) = b := by
  unfold tl33
  rw [Array.extract_append]
  have h1 : (#[m] : Bs).extract 1 33 = #[] := by rfl
  rw [h1]
  simp [h]
theorem mark_0 (m : UInt8) (b : Bs) : (#[m] ++ b)[0]! = m := by
  rw [getElem!_pos _ 0 (by rw [Array.size_append]; simp; omega), Array.getElem_append_left (by simp)]
  rfl
theorem rd_of (C : Fld P) {b : Bs} (hs : b.size = 33) {x y : Fin P} (hm : ub b[0]! = if y.val % 2 = 1 then 3 else 2) (hv : beV (tl33 b).toList = x.val) (h : EC.On (some (x, y) : EC.Pt P)) : rd P b = some (x, y) := by
  have hz : ¬ Zero33 b := fun hz => by
    have := hz 0 (List.mem_range.2 (by decide))
    rw [hm] at this
    split at this <;> omega
  have hx : rdx P b = x := by
    unfold rdx
    rw [hv]
    exact Fin.ext (Nat.mod_eq_of_lt x.isLt)
  have hy : y * y = x * x * x + 7 := by
    have : y ^ 2 = x ^ 3 + 7 := h
    grobner
  unfold rd
  rw [if_pos hs, if_neg hz, hm, hv, if_pos x.isLt, hx, rt_of C hy]
  by_cases ho : y.val % 2 = 1
  · rw [if_pos ho, if_pos (Or.inr rfl), if_pos ho, Option.map_some, if_pos rfl]
    have e : 0 - (0 - y) = y := by grobner
    rw [e]
  · rw [if_neg ho, if_pos (Or.inl rfl), if_neg ho, Option.map_some, if_neg (by decide)]
/-- What was written is read. -/
theorem rd_wr (C : Fld P) {X : EC.Pt P} (h : EC.On X) : ∃ p, rd P (wr X) = some p ∧ pt p = X := by
  match X, h with
  | none, _ =>
    refine ⟨(0, 0), ?_, by unfold pt; rw [if_pos ⟨rfl, rfl⟩]⟩
    have h1 : (wr (none : EC.Pt P)).size = 33 := wr_size _
    have h2 : Zero33 (wr (none : EC.Pt P)) := (zero33_iff h1).2 rfl
    generalize wr (none : EC.Pt P) = b at h1 h2
    unfold rd
    rw [if_pos h1, if_pos h2]
  | some (x, y), h =>
    have hs := wr_size (P := P) (some (x, y))
    have hb0 : (wr (some (x, y) : EC.Pt P))[0]! = mark y.val := mark_0 _ _
    have ht : tl33 (wr (some (x, y) : EC.Pt P)) = bx x.val := tl_mark (bx_size _)
    refine ⟨(x, y), rd_of C hs (by rw [hb0, ub_mark]) (by rw [ht, bx_val (C.top x)]) h, by unfold pt; rw [if_neg (fun e => C.cur.y_ne h e.2)]⟩
end Go.Proofs.YticolhhalbbogacGreat
namespace Go.Proofs.YticolhhalbbogacGreat
open Go.RowKit Go.Sort Go.Deep
variable {P : Nat} [NeZero P]
/-- The base. -/
def gxl : List Value := [.int .u64 6481385041966929816, .int .u64 188021827762530521, .int .u64 6170039885052185351, .int .u64 8772561819708210092]
def gyl : List Value := [.int .u64 11261198710074299576, .int .u64 18237243440184513561, .int .u64 6747795201694173352, .int .u64 5204712524664259685]
def gX (P : Nat) [NeZero P] : Fin P := Fin.ofNat P 55066263022277343669578718895168534326250603453777594175500187360389116729240
def gY (P : Nat) [NeZero P] : Fin P := Fin.ofNat P 32670510020758816978083085130507043184471273380659243275938904335757337482424
def gG (P : Nat) [NeZero P] : EC.Pt P := some (gX P, gY P)
theorem Fld.eq (C : Fld P) : P = 115792089237316195423570985008687907853269984665640564039457584007908834671663 := by
  have h := C.gap.hP
  have e : val 4294968273 0 0 0 = 4294968273 := by decide
  rw [e] at h
  unfold Go.Proofs.YticolhhalbbogacGreat.top at h
  omega
theorem gX_val (C : Fld P) : (gX P).val = 55066263022277343669578718895168534326250603453777594175500187360389116729240 := by
  have h := C.eq
  exact Nat.mod_eq_of_lt (by omega)
theorem gY_val (C : Fld P) : (gY P).val = 32670510020758816978083085130507043184471273380659243275938904335757337482424 := by
  have h := C.eq
  exact Nat.mod_eq_of_lt (by omega)
theorem gxl_ws (C : Fld P) : gxl = ws (gX P) := by
  show _ = wn (gX P).val
  rw [gX_val C]
  kernel_rfl
theorem gyl_ws (C : Fld P) : gyl = ws (gY P) := by
  show _ = wn (gY P).val
  rw [gY_val C]
  kernel_rfl
theorem g_eq : 32670510020758816978083085130507043184471273380659243275938904335757337482424 * 32670510020758816978083085130507043184471273380659243275938904335757337482424 % 115792089237316195423570985008687907853269984665640564039457584007908834671663 = (55066263022277343669578718895168534326250603453777594175500187360389116729240 * 55066263022277343669578718895168534326250603453777594175500187360389116729240 * 55066263022277343669578718895168534326250603453777594175500187360389116729240 + 7) % 115792089237316195423570985008687907853269984665640564039457584007908834671663 := by decide +kernel
theorem gG_on (C : Fld P) : EC.On (gG P) := by
  refine on_of (Fin.ext ?_)
  have h7 : (7 : Fin P).val = 7 := Nat.mod_eq_of_lt C.p7
  rw [Fin.val_mul, Fin.val_add, Fin.val_mul, Fin.val_mul, gX_val C, gY_val C, h7]
  have h := C.eq
  rw [h]
set_option maxHeartbeats 2000000 in
set_option maxRecDepth 100000 in
theorem base_v : Gives 16 #[] (.agg (gxl ++ gyl).toArray) := by
  intro w
  go_enter Tryz.func16, Tryz.ntmps16
  refine RG.M.enter [] 4 (by kernel_rfl) ?_
  intro a0 M0
  repeat refine wp_seq ?_
  refine M0.tx [.m 0 [] 0] [(0, RG.z 8)] [] [RG.z 8] [(0, .p 0 0)] (by kernel_rfl) (by kernel_rfl) ⟨RG.mk 0 48 fun _ _ => by kernel_rfl, trivial⟩ ?_
  intro j1 a1 w1 M1
  repeat refine wp_seq ?_
  refine M1.tx [.x 1 [] (.agg gxl.toArray), .x 2 [] (.agg gyl.toArray), .x 3 [(1, 0), (2, 1)] (.agg (gxl ++ gyl).toArray), .u [(3, 2)] 0] [] [(0, 3, gxl ++ gyl)] [gxl ++ gyl] [(0, .p 0 0)] (by kernel_rfl) (by kernel_rfl) ⟨RG.st fun _ _ => by kernel_rfl, RG.st fun _ _ => by kernel_rfl, RG.st fun _ _ => by kernel_rfl, RG.pt i109 (by kernel_rfl), trivial⟩ ?_
  intro a2 w2 M2
  refine wp_ret ?_
  refine bodyPost_ret (v := .agg (gxl ++ gyl).toArray) (RG.results_row M2.st 0 48 rfl 0 _ rfl (M2.at (s := .p 0 0) (by kernel_rfl)) u109 i109) M2.sl.defers ?_
  exact ⟨_, rfl, M2.st.bel.below, rfl⟩
theorem base_c (C : Fld P) : Gives 16 #[] (pv (gX P) (gY P)) := by
  unfold pv
  rw [← gxl_ws C, ← gyl_ws C]
  exact base_v
theorem gG_wr (C : Fld P) : by33 (gX P) (gY P) = wr (gG P) := by33_wr C ⟨rfl, rfl⟩ (gG_on C)
set_option maxHeartbeats 1000000 in
theorem Base_c (C : Fld P) (w : World) : Calls Tryz.prog 5 #[] w (Ret fun e w' => Below w.heap.size w w' ∧ BytesR w (wr (gG P)) e w') := by
  have HC : Hid (Fld P) := C
  clear C
  go_enter Tryz.func5, Tryz.ntmps5
  go_wp2_with fail
  refine (base_c HC.out _).mono ?_
  rintro e w1 ⟨v, rfl, hb1, rfl⟩
  go_wp2_with fail
  refine (bytes_c HC.out (gX P) (gY P) _).mono ?_
  rintro e w2 ⟨v, rfl, hb2, g, cap, rfl, h1, h2, h3, h4⟩
  rw [gG_wr HC.out] at h4
  have HB : Hid (Below w.heap.size w w2 ∧ BytesR w (wr (gG P)) (.slice (some ⟨g, 0, none⟩) 33 cap) w2) := ⟨hb1.trans (hb2.mono hb1.size), g, cap, rfl, h1, Nat.le_trans hb1.size h2, h3, h4⟩
  clear hb1 hb2 h1 h2 h3 h4
  go_wp2
  go_ret
  exact ⟨_, rfl, HB.out⟩
end Go.Proofs.YticolhhalbbogacGreat
