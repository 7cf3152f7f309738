import Derived.Deep.LoopGhost
import Derived.Deep.RegionHeld3
import Derived.Lib.ConvBytes
import Derived.Lib.LazyBuf
import Derived.ChangeOld
import Derived.Below
import Derived.WalkKit
import Derived.ProofKit
import Derived.OpenShut
import Derived.ShutString
import Derived.Test.YticolhhalbbogacGreatGI7
set_option linter.unusedVariables false
set_option linter.unusedSimpArgs false
namespace Go.Proofs.YticolhhalbbogacGreat
open Go.RowKit Go.Sort Go.Deep Go.Shelf
section
variable {P : Program} {ops : Array Oper} {rest : List Oper} {op : Oper} {a : Act} {w w' : World} {v : Value} {Q : Exit → Act → World → Prop}
theorem wpList_build (hgd : op.guard = none) (ty : TypeId) (n : Nat) (parts : Array (Nat × Operand)) (_ : op.op = .buildSlice ty n parts) (hr : (execOp a.eval op).run P w = .ok (.value v) w') (h : wpList P ops Q rest (a.put op.dst v) w') : wpList P ops Q (op :: rest) a w :=
  wpList_plain hgd fun K hK => by
    unfold Oper.wp
    rw [hr]
    exact hK _ _ h
end
variable {P : Nat} [NeZero P]
def valueL : ByteArray := ⟨#[118, 97, 108, 117, 101]⟩
/-- What a commitment is. -/
noncomputable def cmt (P : Nat) [NeZero P] (n m : Nat) : EC.Pt P := EC.tot (fun j => if j = 0 then .some (hpt P valueL []) else gG P) 2 (fun j => if j = 0 then (n : Int) else (m : Int))
def ComR (P : Nat) [NeZero P] (N : Nat) (w : World) (az bs : Bs) (e : Value) (w' : World) : Prop := match rq N az, rq N bs with
  | some n, some m => OutP w (wr (cmt P n m)) e w'
  | _, _ => OutE 3 e
theorem two_scs {w : World} {v v' : Value} {bs bs' : Bs} (T : TypeId) (h : Arg w v bs) (h' : Arg w v' bs') : ArgsScs (w.alloc (.cells #[v, v'] T)) (some ⟨w.heap.size, 0, none⟩) 2 (fun j => if j = 0 then bs else bs') := fun _ =>
  ⟨w.heap.size, rfl, by rw [World.size_alloc]; omega, fun j hj => by
    have hM := (RG.Made.alloc w [v, v'] T).range
    have hj2 : j = 0 ∨ j = 1 := by omega
    rcases hj2 with rfl | rfl
    · exact ⟨v, hM 0 _ rfl, h.below (below1 w _)⟩
    · exact ⟨v', hM 1 _ rfl, h'.below (below1 w _)⟩⟩
theorem nil_part (w : World) : SP.PartOk w (.slice none 0 0) [] := ⟨none, 0, 0, 0, #[], rfl, rfl, Nat.le_refl _, by decide, Or.inl rfl⟩
theorem pair_some (q : Fin P × Fin P) : EC.Pair q.1 q.2 (.some q : EC.Pt P) := ⟨rfl, rfl⟩
theorem cmt_wr (C : Fld P) {n m : Nat} (hn : n < top) (hm : m < top) {ns : Nat → Nat} {xs ys : Nat → Fin P} (h0 : ns 0 = n) (h1 : ns 1 = m) (hx0 : xs 0 = (hpt P valueL []).1) (hy0 : ys 0 = (hpt P valueL []).2) (hx1 : xs 1 = gX P) (hy1 : ys 1 = gY P) :
    by33 (ptP (sumJ ns xs ys 2 257)).1 (ptP (sumJ ns xs ys 2 257)).2 = wr (cmt P n m) := by
  have hJ := sumJ_all C (N := 2) (ns := ns) (xs := xs) (ys := ys) (p := fun j => if j = 0 then (.some (hpt P valueL []) : EC.Pt P) else gG P)
    (fun j hj => by have : j = 0 ∨ j = 1 := by omega
                    rcases this with rfl | rfl
                    · rw [h0]; exact hn
                    · rw [h1]; exact hm)
    (fun j hj => by have : j = 0 ∨ j = 1 := by omega
                    rcases this with rfl | rfl
                    · rw [hx0, hy0]; exact pair_some _
                    · rw [hx1, hy1]; exact pair_some (gX P, gY P))
    (fun j hj => by have : j = 0 ∨ j = 1 := by omega
                    rcases this with rfl | rfl
                    · exact hpt_on C _ _
                    · exact gG_on C)
  have e1 := by33_wr C (hJ.pair C) hJ.2
  have e2 : EC.tot (fun j => if j = 0 then (.some (hpt P valueL []) : EC.Pt P) else gG P) 2 (fun j => (ns j : Int)) = cmt P n m := EC.tot_congr 2 fun j hj => by
    have : j = 0 ∨ j = 1 := by omega
    rcases this with rfl | rfl
    · rw [h0]; rfl
    · rw [h1]; rfl
  rw [e2] at e1
  exact e1
set_option maxHeartbeats 1000000 in
set_option maxRecDepth 100000 in
theorem Commit_c {N : Nat} (C : Fld P) (hG : Gap 4624529908474429119 4994812053365940164 1 N) (hN : N ≤ top) (v0 v1 : Value) (az bs : Bs) (w : World) (h0 : Arg w v0 az) (h1 : Arg w v1 bs) :
    Calls Tryz.prog 7 #[v0, v1] w (Ret fun e w' => Below w.heap.size w w' ∧ ComR P N w az bs e w') := by
  have hA := two_scs 22 h0 h1
  obtain ⟨p0, n0, c0, rfl, -, -⟩ := h0
  obtain ⟨p1, n1, c1, rfl, -, -⟩ := h1
  have hS := Scs_c hG 2 2 (by decide) _ _ _ hA
  clear hA
  go_enter Tryz.func7, Tryz.ntmps7
  go_wp2_with fail
  refine hS.mono ?_
  rintro e w1 ⟨v, rfl, hb1, ⟨k, hk1, hk2, rfl, hrow⟩ | ⟨⟨j, hj, hno⟩, rfl⟩⟩
  · obtain ⟨n, hn, hrn⟩ := hrow 0 (by decide)
    obtain ⟨m, hm, hrm⟩ := hrow 1 (by decide)
    clear hrow hS
    have HB : Hid (Below w.heap.size w w1) := (below1 w _).trans (hb1.mono (by rw [World.size_alloc]; omega))
    have HK : Hid (k < w1.heap.size ∧ w1.rangeAt k (4 * 0) (wn n) ∧ w1.rangeAt k (4 * 1) (wn m)) := ⟨hk2, hrn, hrm⟩
    have HN : Hid (rq N az = some n ∧ rq N bs = some m) := ⟨hn, hm⟩
    clear hb1 hk1 hk2 hrn hrm hn hm
    go_wp2_with fail
    refine (pointsOf_c valueL none 0 0 w1).mono ?_
    rintro e w2 ⟨v, rfl, rfl, rfl⟩
    have hF := firstOf_c C valueL none 0 0 [] w1 (by decide) (nil_part w1)
    obtain ⟨q, hq⟩ : ∃ q, Hid (hpt P valueL [] = q) := ⟨_, rfl⟩
    rw [hq.out] at hF
    obtain ⟨x, y⟩ := q
    obtain ⟨gx, hgx⟩ : ∃ gx, Hid (gX P = gx) := ⟨_, rfl⟩
    obtain ⟨gy, hgy⟩ : ∃ gy, Hid (gY P = gy) := ⟨_, rfl⟩
    have hbs := base_c C
    rw [hgx.out, hgy.out] at hbs
    obtain ⟨v4, hv4⟩ : ∃ v4, Hid (pv x y = v4) := ⟨_, rfl⟩
    obtain ⟨v5, hv5⟩ : ∃ v5, Hid (pv gx gy = v5) := ⟨_, rfl⟩
    replace hF : Calls Tryz.prog 18 #[.func (.func 37) #[] #[.pointer (some ⟨w1.heap.size, 0, none⟩), .pointer (some ⟨w1.heap.size + 1, 0, none⟩)]] ((w1.alloc (.cells #[.string valueL] 9)).alloc (.cells #[.slice none 0 0] 22)) (Ret fun e w' => Below w1.heap.size w1 w' ∧ e = v4) := by rw [← hv4.out]; exact hF
    rw [hv5.out] at hbs
    go_wp2_with fail
    refine hF.mono ?_
    rintro e w3 ⟨v, rfl, hb3, rfl⟩
    have HB3 : Hid (Below w.heap.size w w3) := HB.out.trans (hb3.mono HB.out.size)
    have HK3 : Hid (k < w3.heap.size ∧ w3.rangeAt k (4 * 0) (wn n) ∧ w3.rangeAt k (4 * 1) (wn m)) := ⟨Nat.lt_of_lt_of_le HK.out.1 hb3.size, RG.range_below HK.out.2.1 hb3 HK.out.1, RG.range_below HK.out.2.2 hb3 HK.out.1⟩
    clear hF hb3 HB HK
    go_wp2_with fail
    refine (hbs _).mono ?_
    rintro e w4 ⟨v, rfl, hb4, rfl⟩
    have HB4 : Hid (Below w.heap.size w w4) := HB3.out.trans (hb4.mono HB3.out.size)
    have HK4 : Hid (k < w4.heap.size ∧ w4.rangeAt k (4 * 0) (wn n) ∧ w4.rangeAt k (4 * 1) (wn m)) := ⟨Nat.lt_of_lt_of_le HK3.out.1 hb4.size, RG.range_below HK3.out.2.1 hb4 HK3.out.1, RG.range_below HK3.out.2.2 hb4 HK3.out.1⟩
    clear hbs hb4 HB3 HK3
    obtain ⟨w5, hw5⟩ : ∃ w5, Hid (w4.alloc (.cells ((ws x ++ ws y) ++ (ws gx ++ ws gy)).toArray 48) = w5) := ⟨_, rfl⟩
    go_wp2_with (refine wpList_build (v := .slice (some ⟨w4.heap.size, 0, none⟩) 2 2) (w' := w5) rfl 58 2 _ rfl ?_ ?_; rw [← hw5.out, ← hv4.out, ← hv5.out]; kernel_rfl; refine Hid.out ?_)
    have H5 : Hid (Below w.heap.size w w5 ∧ k < w5.heap.size ∧ w4.heap.size < w5.heap.size ∧ (∀ i, i < 2 → w5.rangeAt k (4 * i) (wn (if i = 0 then n else m))) ∧ ∀ i, i < 2 → w5.rangeAt w4.heap.size (8 * i) (ws (if i = 0 then x else gx) ++ ws (if i = 0 then y else gy))) := by
      have hM := RG.Made.alloc w4 ((ws x ++ ws y) ++ (ws gx ++ ws gy)) 48
      have hw : w4.alloc (.cells ((ws x ++ ws y) ++ (ws gx ++ ws gy)).toArray 48) = w5 := hw5.out
      rw [hw] at hM
      refine ⟨HB4.out.trans (hM.bel.mono HB4.out.size), Nat.lt_of_lt_of_le HK4.out.1 hM.bel.size, hM.lt, fun i hi => ?_, fun i hi => ?_⟩
      · have : i = 0 ∨ i = 1 := by omega
        rcases this with rfl | rfl
        · exact RG.range_below HK4.out.2.1 hM.bel HK4.out.1
        · exact RG.range_below HK4.out.2.2 hM.bel HK4.out.1
      · have : i = 0 ∨ i = 1 := by omega
        rcases this with rfl | rfl
        · intro j v hj
          have hj8 : j < 8 := (List.getElem?_eq_some_iff.1 hj).1
          have := hM.range j v (by rw [List.getElem?_append_left (show j < (ws x ++ ws y).length from hj8)]; exact hj)
          exact this
        · intro j v hj
          have := hM.range (8 + j) v (by rw [List.getElem?_append_right (show (ws x ++ ws y).length ≤ 8 + j from Nat.le_add_right 8 j), show 8 + j - (ws x ++ ws y).length = j from Nat.add_sub_cancel_left 8 j]; exact hj)
          rw [Nat.zero_add] at this
          exact this
    clear hw5 HB4 HK4 hv4 hv5
    show wpList _ _ _ _ _ _
    have hS : Calls Tryz.prog 21 #[.slice (some ⟨k, 0, none⟩) 2 2, .slice (some ⟨w4.heap.size, 0, none⟩) 2 2] w5 (Ret fun e w' => Below w5.heap.size w5 w' ∧ e = pv (ptP (sumJ (fun i => if i = 0 then n else m) (fun i => if i = 0 then x else gx) (fun i => if i = 0 then y else gy) 2 257)).1 (ptP (sumJ (fun i => if i = 0 then n else m) (fun i => if i = 0 then x else gx) (fun i => if i = 0 then y else gy) 2 257)).2) := by
      refine (sums_c C 2 (by decide) (fun i => if i = 0 then n else m) (fun i => if i = 0 then x else gx) (fun i => if i = 0 then y else gy) (fun i hi => ?_) k w4.heap.size w5 H5.out.2.1 H5.out.2.2.1 H5.out.2.2.2.1 H5.out.2.2.2.2).mono ?_
      · have : i = 0 ∨ i = 1 := by omega
        rcases this with rfl | rfl
        · exact rq_top hN HN.out.1
        · exact rq_top hN HN.out.2
      · rintro e w' ⟨v, rfl, hb, s, rfl, rfl⟩
        exact ⟨_, rfl, hb, rfl⟩
    have hW := cmt_wr C (n := n) (m := m) (rq_top hN HN.out.1) (rq_top hN HN.out.2) (ns := fun i => if i = 0 then n else m) (xs := fun i => if i = 0 then x else gx) (ys := fun i => if i = 0 then y else gy) rfl rfl (by rw [hq.out]; rfl) (by rw [hq.out]; rfl) (by rw [hgx.out]; rfl) (by rw [hgy.out]; rfl)
    generalize ptP (sumJ (fun i => if i = 0 then n else m) (fun i => if i = 0 then x else gx) (fun i => if i = 0 then y else gy) 2 257) = z at hS hW
    have hBt : ∀ w, Calls Tryz.prog 17 #[pv z.1 z.2] w (Ret fun e w' => Below w.heap.size w w' ∧ BytesR w (by33 z.1 z.2) e w') := bytes_c C _ _
    rw [hW] at hBt
    clear hW
    generalize pv z.1 z.2 = v6 at hS hBt
    go_wp2_with fail
    refine hS.mono ?_
    rintro e w6 ⟨v, rfl, hb6, rfl⟩
    have HB6 : Hid (Below w.heap.size w w6) := H5.out.1.trans (hb6.mono H5.out.1.size)
    clear hb6 H5 hS
    go_wp2_with fail
    refine (hBt _).mono ?_
    rintro e w7 ⟨v, rfl, hb7, g, cap3, rfl, hc3, hg3, hlt3, hH3⟩
    have HB7 : Hid (Below w.heap.size w w7) := HB6.out.trans (hb7.mono HB6.out.size)
    have HO : Hid (ComR P N w az bs (.tuple #[.slice (some ⟨g, 0, none⟩) 33 cap3, .int .i64 0]) w7) := by
      show ComR P N w az bs (.tuple #[.slice (some ⟨g, 0, none⟩) 33 cap3, .int .i64 0]) w7
      unfold ComR
      rw [HN.out.1, HN.out.2]
      exact ⟨g, cap3, rfl, hc3, Nat.le_trans HB6.out.size hg3, hlt3, hH3⟩
    clear hb7 hH3 hBt
    go_wp2
    go_ret2
    exact ⟨_, rfl, HB7.out, HO.out⟩
  · have HB : Hid (Below w.heap.size w w1) := (below1 w _).trans (hb1.mono (by rw [World.size_alloc]; omega))
    have HO : Hid (ComR P N w az bs (.tuple #[.slice none 0 0, .int .i64 3]) w1) := by
      show ComR P N w az bs (.tuple #[.slice none 0 0, .int .i64 3]) w1
      unfold ComR
      have : j = 0 ∨ j = 1 := by omega
      rcases this with rfl | rfl
      · have hno : rq N az = none := hno
        rw [hno]; rfl
      · have hno : rq N bs = none := hno
        rw [hno]
        cases rq N az <;> rfl
    clear hb1 hno hS
    go_wp2
    go_ret2
    exact ⟨_, rfl, HB.out, HO.out⟩
end Go.Proofs.YticolhhalbbogacGreat
namespace Go.Proofs.YticolhhalbbogacGreat
open Go.RowKit Go.Sort
variable {P : Nat} [NeZero P]
theorem geq0 (i : Nat) (w : World) : (binOp .geq 3 (.int .i64 (i : Int)) (.int .i64 0)).run Tryz.prog w = .ok (.bool true) w := by
  go_simp
theorem sub1 (i : Nat) (hi : i < 1000) (w : World) : (binOp .sub 3 (.int .i64 (i : Int)) (.int .i64 1)).run Tryz.prog w = .ok (.int .i64 ((i : Int) - 1)) w := by
  have h := IntWalk.i64_in ((i : Int) - 1) (by omega)
  go_simp
theorem rBit_1 {n i : Nat} (hn : n < top) (hi : i < 256) (h : n / 2 ^ i % 2 = 1) : Gives 62 #[nv n, .int .i64 (i : Int)] (.int .u64 1) := fun w =>
  (rBit_any _ n i (four_nv hn) hi w).mono (by rintro e w' ⟨v, rfl, hb, t, rfl, ht⟩; exact ⟨_, rfl, hb, by rw [ht, h]; rfl⟩)
theorem rBit_0 {n i : Nat} (hn : n < top) (hi : i < 256) (h : ¬ n / 2 ^ i % 2 = 1) : Gives 62 #[nv n, .int .i64 (i : Int)] (.int .u64 0) := fun w =>
  (rBit_any _ n i (four_nv hn) hi w).mono (by rintro e w' ⟨v, rfl, hb, t, rfl, ht⟩; exact ⟨_, rfl, hb, by rw [ht, show n / 2 ^ i % 2 = 0 by omega]; rfl⟩)
def F40_0 : List RG.It := [.m 2 [] 0, .m 3 [] 1, .m 4 [] 2]
def F40_1 : List RG.It := [.c 7 [] (tv ((0, 1, 0) : T3 P)), .m 5 [] 3, .u [(5, 1), (7, 0)] 3]
def F40_2 : List RG.It := [.x 6 [] (.int .i64 255)]
def F40a_3 (i : Nat) : List RG.It := [.x 8 [] (.int .i64 (i : Int)), .x 9 [(8, 0)] (.bool true)]
def F40a_5 (s s2 : T3 P) : List RG.It := [.x 12 [] (tv s), .x 13 [] (tv s), .c 14 [(12, 0), (13, 1)] (tv s2), .u [(14, 2)] 3]
def F40a_6 (n i : Nat) : List RG.It := [.x 15 [] (nv n), .x 16 [] (.int .i64 (i : Int)), .c 17 [(15, 0), (16, 1)] (.int .u64 1), .x 18 [(17, 2)] (.bool true)]
def F40a_7 (t s2 s3 : T3 P) : List RG.It := [.x 19 [] (tv s2), .x 20 [] (tv t), .c 21 [(19, 0), (20, 1)] (tv s3), .u [(21, 2)] 3]
def F40a_4 (i : Nat) : List RG.It := [.x 10 [] (.int .i64 (i : Int)), .x 11 [(10, 0)] (.int .i64 ((i : Int) - 1)), .x 6 [(11, 1)] (.int .i64 ((i : Int) - 1))]
def F40b_3 (i : Nat) : List RG.It := [.x 8 [] (.int .i64 (i : Int)), .x 9 [(8, 0)] (.bool true)]
def F40b_5 (s s2 : T3 P) : List RG.It := [.x 12 [] (tv s), .x 13 [] (tv s), .c 14 [(12, 0), (13, 1)] (tv s2), .u [(14, 2)] 3]
def F40b_6 (n i : Nat) : List RG.It := [.x 15 [] (nv n), .x 16 [] (.int .i64 (i : Int)), .c 17 [(15, 0), (16, 1)] (.int .u64 0), .x 18 [(17, 2)] (.bool false)]
def F40b_4 (i : Nat) : List RG.It := [.x 10 [] (.int .i64 (i : Int)), .x 11 [(10, 0)] (.int .i64 ((i : Int) - 1)), .x 6 [(11, 1)] (.int .i64 ((i : Int) - 1))]
def F40c_3 : List RG.It := [.x 8 [] (.int .i64 (-1)), .x 9 [(8, 0)] (.bool false)]
def F40c_8 (s : T3 P) : List RG.It := [.x 22 [] (tv s), .u [(22, 0)] 2]
set_option maxHeartbeats 2000000 in
set_option maxRecDepth 100000 in
theorem rTimes_c (C : Fl3 P) (n : Nat) (hn : n < top) (t : T3 P) {p : EC.Pt P} (h : FracT t p) : Gives 33 #[nv n, tv t] (tv (tmF n t 256)) := by
  intro w
  go_enter Tryz.func33, Tryz.ntmps33
  refine RG.var2 (v0 := nv n) (v1 := tv t) (n := 23) (by kernel_rfl) (by kernel_rfl) (by kernel_rfl) (by kernel_rfl) ?_
  intro a0 sl0 f0 f1
  have hS0 := RG.St.begin w
  have M0 : RG.M w w.heap.size [] 23 [] [] [(0, (.v (nv n))), (1, (.v (tv t)))] a0 _ := ⟨hS0, sl0, ⟨f0, f1, trivial⟩⟩
  repeat refine wp_seq ?_
  refine M0.tx F40_0 [(0, (wn n)), (1, (tw t)), (2, (RG.z 12))] [] [(wn n), (tw t), (RG.z 12)] [(2, (.p 0 0)), (3, (.p 1 0)), (4, (.p 2 0))] (by kernel_rfl) (by kernel_rfl) ⟨RG.mk 0 32 fun _ _ => by kernel_rfl, RG.mk 1 34 fun _ _ => by kernel_rfl, RG.mk 2 34 fun _ _ => by kernel_rfl, trivial⟩ ?_
  intro j1 i1 m1 a1 w1 M1
  repeat refine wp_seq ?_
  refine M1.tx (F40_1 (P := P)) [(1, (RG.z 12))] [(3, 2, (tw ((0, 1, 0) : T3 P)))] [(wn n), (tw t), (RG.z 12), (tw ((0, 1, 0) : T3 P))] [(2, (.p 0 0)), (3, (.p 1 0)), (4, (.p 2 0)), (5, (.p 3 0))] (by kernel_rfl) (by kernel_rfl) ⟨RG.cl (None_c C) fun _ _ => by kernel_rfl, RG.mk 3 34 fun _ _ => by kernel_rfl, RG.pt i56 (by kernel_rfl), trivial⟩ ?_
  intro j2 a2 w2 M2
  repeat refine wp_seq ?_
  refine M2.tx0 F40_2 [(2, (.p 0 0)), (3, (.p 1 0)), (4, (.p 2 0)), (5, (.p 3 0)), (6, (.v (.int .i64 255)))] (by kernel_rfl) ⟨RG.st fun _ _ => by kernel_rfl, trivial⟩ ?_
  intro a3 w3 M3
  have hS3 : RG.St w w.heap.size [] [(wn n), (tw t), (RG.z 12), (tw ((0, 1, 0) : T3 P))] [j1, i1, m1, j2] _ := M3.st
  have sl3 := M3.sl
  have f2_3 : a3.tmps[2]? = some (.pointer (some ⟨j1, 0, none⟩)) := M3.at (s := (.p 0 0)) (by kernel_rfl)
  have f3_3 : a3.tmps[3]? = some (.pointer (some ⟨i1, 0, none⟩)) := M3.at (s := (.p 1 0)) (by kernel_rfl)
  have f4_3 : a3.tmps[4]? = some (.pointer (some ⟨m1, 0, none⟩)) := M3.at (s := (.p 2 0)) (by kernel_rfl)
  have f5_3 : a3.tmps[5]? = some (.pointer (some ⟨j2, 0, none⟩)) := M3.at (s := (.p 3 0)) (by kernel_rfl)
  have f6_3 : a3.tmps[6]? = some (.int .i64 255) := M3.at (s := (.v (.int .i64 255))) (by kernel_rfl)
  repeat refine wp_seq ?_
  refine wp_block ?_
  refine wp_loop_ghost (fun m a wr => m ≤ 256 ∧ RG.Sl a 23 ∧ a.tmps[2]? = some (.pointer (some ⟨j1, 0, none⟩)) ∧ a.tmps[3]? = some (.pointer (some ⟨i1, 0, none⟩)) ∧ a.tmps[4]? = some (.pointer (some ⟨m1, 0, none⟩)) ∧ a.tmps[5]? = some (.pointer (some ⟨j2, 0, none⟩)) ∧ a.tmps[6]? = some (.int .i64 ((m : Int) - 1)) ∧ RG.St w w.heap.size [] [wn n, tw t, [.int .u64 0, .int .u64 0, .int .u64 0, .int .u64 0, .int .u64 0, .int .u64 0, .int .u64 0, .int .u64 0, .int .u64 0, .int .u64 0, .int .u64 0, .int .u64 0], tw (tmF n t (256 - m))] [j1, i1, m1, j2] wr) 256 ⟨Nat.le_refl _, sl3, f2_3, f3_3, f4_3, f5_3, f6_3, ?_⟩ ?_
  · rw [Nat.sub_self, tmF]
    exact hS3
  intro m a wr
  rintro ⟨hm, sl, f2, f3, f4, f5, f6, hS⟩
  have hn2 : n < 2 ^ 256 := hn
  generalize j1 = k2 at f2 f3 f4 f5 hS
  generalize i1 = k3 at f2 f3 f4 f5 hS
  generalize m1 = k4 at f2 f3 f4 f5 hS
  generalize j2 = k5 at f2 f3 f4 f5 hS
  by_cases hz : m = 0
  · subst hz
    have e256 : tmF n t (256 - 0) = tmF n t 256 := rfl
    rw [e256] at hS
    obtain ⟨s, hs⟩ : ∃ s, tmF n t 256 = s := ⟨_, rfl⟩
    rw [hs] at hS ⊢
    have M0 : RG.M w w.heap.size [] 23 [(wn n), (tw t), (RG.z 12), (tw s)] [k2, k3, k4, k5] [(2, (.p 0 0)), (3, (.p 1 0)), (4, (.p 2 0)), (5, (.p 3 0)), (6, (.v (.int .i64 (-1))))] a _ := ⟨hS, sl, ⟨f2, f3, f4, f5, f6, trivial⟩⟩
    repeat refine wp_seq ?_
    refine M0.tx0 F40c_3 [(4, (.p 2 0)), (5, (.p 3 0)), (9, (.v (.bool false)))] (by kernel_rfl) ⟨RG.st fun _ _ => by kernel_rfl, RG.st fun _ _ => by kernel_rfl, trivial⟩ ?_
    intro a1 w1 M1
    repeat refine wp_seq ?_
    refine wp_cond_false (M1.ev (by kernel_rfl)) ?_
    refine wp_exit ?_
    dsimp only [Exit.then, Exit.inBlock]
    rw [if_pos rfl]
    repeat refine wp_seq ?_
    refine M1.tx (F40c_8 s) [] [(2, 1, (tw s))] [(wn n), (tw t), (tw s), (tw s)] [(4, (.p 2 0))] (by kernel_rfl) (by kernel_rfl) ⟨RG.ld u56 i56 (by kernel_rfl), RG.pt i56 (by kernel_rfl), trivial⟩ ?_
    intro a2 w2 M2
    have hS2 : RG.St w w.heap.size [] [(wn n), (tw t), (tw s), (tw s)] [k2, k3, k4, k5] _ := M2.st
    have sl2 := M2.sl
    have f4_2 : a2.tmps[4]? = some (.pointer (some ⟨k4, 0, none⟩)) := M2.at (s := (.p 2 0)) (by kernel_rfl)
    refine wp_ret ?_
    refine bodyPost_ret (v := tv s) (RG.results_row hS2 4 34 rfl 2 _ rfl f4_2 u56 i56) sl2.defers ?_
    exact ⟨_, rfl, hS2.bel.below, rfl⟩
  · obtain ⟨i, rfl⟩ : ∃ i, m = i + 1 := ⟨m - 1, by omega⟩
    have hi : i < 256 := by omega
    replace f6 : a.tmps[6]? = some (.int .i64 (i : Int)) := by rw [f6]; congr 2; omega
    have ih := tmF_F C hn2 h (256 - (i + 1)) (by omega)
    obtain ⟨s, hs⟩ : ∃ s, tmF n t (256 - (i + 1)) = s := ⟨_, rfl⟩
    rw [hs] at hS ih
    obtain ⟨s2, hs2⟩ : ∃ s2, s2 = plF s s := ⟨_, rfl⟩
    have hp1 := (ih.plus C ih).1
    have ih2 := (ih.plus C ih).2
    rw [← hs2] at hp1 ih2
    obtain ⟨s3, hs3⟩ : ∃ s3, s3 = plF s2 t := ⟨_, rfl⟩
    have hp2 := (ih2.plus C h).1
    rw [← hs3] at hp2
    have hstep : tmF n t (256 - i) = if n / 2 ^ i % 2 = 1 then s3 else s2 := by
      rw [show 256 - i = 256 - (i + 1) + 1 by omega]
      show (if n / 2 ^ (255 - (256 - (i + 1))) % 2 = 1 then plF (plF (tmF n t (256 - (i + 1))) (tmF n t (256 - (i + 1)))) t else plF (tmF n t (256 - (i + 1))) (tmF n t (256 - (i + 1)))) = _
      rw [show 255 - (256 - (i + 1)) = i by omega, hs, ← hs2, ← hs3]
    by_cases hb : n / 2 ^ i % 2 = 1
    · rw [if_pos hb] at hstep
      have M0 : RG.M w w.heap.size [] 23 [(wn n), (tw t), (RG.z 12), (tw s)] [k2, k3, k4, k5] [(2, (.p 0 0)), (3, (.p 1 0)), (4, (.p 2 0)), (5, (.p 3 0)), (6, (.v (.int .i64 (i : Int))))] a _ := ⟨hS, sl, ⟨f2, f3, f4, f5, f6, trivial⟩⟩
      repeat refine wp_seq ?_
      refine M0.tx0 (F40a_3 i) [(2, (.p 0 0)), (3, (.p 1 0)), (4, (.p 2 0)), (5, (.p 3 0)), (6, (.v (.int .i64 (i : Int)))), (9, (.v (.bool true)))] (by kernel_rfl) ⟨RG.st fun _ _ => by kernel_rfl, RG.cert_binc rfl .geq 3 3 8 (.int .i64 (i : Int)) (.int .i64 0) (.bool true) rfl rfl (RG.sx fun _ => by kernel_rfl) (fun w => by kernel_rfl) (geq0 i), trivial⟩ ?_
      intro a1 w1 M1
      repeat refine wp_seq ?_
      refine wp_cond_true (M1.ev (by kernel_rfl)) ?_
      refine wp_skip ?_
      refine wp_seq ?_
      refine wp_block ?_
      repeat refine wp_seq ?_
      refine M1.tx (F40a_5 s s2) [] [(3, 3, (tw s2))] [(wn n), (tw t), (RG.z 12), (tw s2)] [(2, (.p 0 0)), (3, (.p 1 0)), (4, (.p 2 0)), (5, (.p 3 0)), (6, (.v (.int .i64 (i : Int))))] (by kernel_rfl) (by kernel_rfl) ⟨RG.ld u56 i56 (by kernel_rfl), RG.ld u56 i56 (by kernel_rfl), RG.cl (hp1) fun _ _ => by kernel_rfl, RG.pt i56 (by kernel_rfl), trivial⟩ ?_
      intro a2 w2 M2
      repeat refine wp_seq ?_
      refine M2.tx0 (F40a_6 n i) [(2, (.p 0 0)), (3, (.p 1 0)), (4, (.p 2 0)), (5, (.p 3 0)), (6, (.v (.int .i64 (i : Int)))), (18, (.v (.bool true)))] (by kernel_rfl) ⟨RG.ld u33 i33 (by kernel_rfl), RG.st fun _ _ => by kernel_rfl, RG.cl (rBit_1 hn hi hb) fun _ _ => by kernel_rfl, RG.st fun _ _ => by kernel_rfl, trivial⟩ ?_
      intro a3 w3 M3
      repeat refine wp_seq ?_
      refine wp_cond_true (M3.ev (by kernel_rfl)) ?_
      repeat refine wp_seq ?_
      refine M3.tx (F40a_7 t s2 s3) [] [(3, 3, (tw s3))] [(wn n), (tw t), (RG.z 12), (tw s3)] [(2, (.p 0 0)), (3, (.p 1 0)), (4, (.p 2 0)), (5, (.p 3 0)), (6, (.v (.int .i64 (i : Int))))] (by kernel_rfl) (by kernel_rfl) ⟨RG.ld u56 i56 (by kernel_rfl), RG.ld u56 i56 (by kernel_rfl), RG.cl (hp2) fun _ _ => by kernel_rfl, RG.pt i56 (by kernel_rfl), trivial⟩ ?_
      intro a4 w4 M4
      repeat refine wp_seq ?_
      refine M4.tx0 (F40a_4 i) [(2, (.p 0 0)), (3, (.p 1 0)), (4, (.p 2 0)), (5, (.p 3 0)), (6, (.v (.int .i64 ((i : Int) - 1))))] (by kernel_rfl) ⟨RG.st fun _ _ => by kernel_rfl, RG.cert_binc rfl .sub 3 3 10 (.int .i64 (i : Int)) (.int .i64 1) (.int .i64 ((i : Int) - 1)) rfl rfl (RG.sx fun _ => by kernel_rfl) (fun w => by kernel_rfl) (sub1 i (by omega)), RG.st fun _ _ => by kernel_rfl, trivial⟩ ?_
      intro a5 w5 M5
      have hS5 : RG.St w w.heap.size [] [(wn n), (tw t), (RG.z 12), (tw s3)] [k2, k3, k4, k5] _ := M5.st
      have sl5 := M5.sl
      have f2_5 : a5.tmps[2]? = some (.pointer (some ⟨k2, 0, none⟩)) := M5.at (s := (.p 0 0)) (by kernel_rfl)
      have f3_5 : a5.tmps[3]? = some (.pointer (some ⟨k3, 0, none⟩)) := M5.at (s := (.p 1 0)) (by kernel_rfl)
      have f4_5 : a5.tmps[4]? = some (.pointer (some ⟨k4, 0, none⟩)) := M5.at (s := (.p 2 0)) (by kernel_rfl)
      have f5_5 : a5.tmps[5]? = some (.pointer (some ⟨k5, 0, none⟩)) := M5.at (s := (.p 3 0)) (by kernel_rfl)
      have f6_5 : a5.tmps[6]? = some (.int .i64 ((i : Int) - 1)) := M5.at (s := (.v (.int .i64 ((i : Int) - 1)))) (by kernel_rfl)
      show ∃ n', _
      exact ⟨i, Nat.lt_succ_self i, by omega, sl5, f2_5, f3_5, f4_5, f5_5, f6_5, by rw [hstep]; exact hS5⟩
    · rw [if_neg hb] at hstep
      have M0 : RG.M w w.heap.size [] 23 [(wn n), (tw t), (RG.z 12), (tw s)] [k2, k3, k4, k5] [(2, (.p 0 0)), (3, (.p 1 0)), (4, (.p 2 0)), (5, (.p 3 0)), (6, (.v (.int .i64 (i : Int))))] a _ := ⟨hS, sl, ⟨f2, f3, f4, f5, f6, trivial⟩⟩
      repeat refine wp_seq ?_
      refine M0.tx0 (F40b_3 i) [(2, (.p 0 0)), (3, (.p 1 0)), (4, (.p 2 0)), (5, (.p 3 0)), (6, (.v (.int .i64 (i : Int)))), (9, (.v (.bool true)))] (by kernel_rfl) ⟨RG.st fun _ _ => by kernel_rfl, RG.cert_binc rfl .geq 3 3 8 (.int .i64 (i : Int)) (.int .i64 0) (.bool true) rfl rfl (RG.sx fun _ => by kernel_rfl) (fun w => by kernel_rfl) (geq0 i), trivial⟩ ?_
      intro a1 w1 M1
      repeat refine wp_seq ?_
      refine wp_cond_true (M1.ev (by kernel_rfl)) ?_
      refine wp_skip ?_
      refine wp_seq ?_
      refine wp_block ?_
      repeat refine wp_seq ?_
      refine M1.tx (F40b_5 s s2) [] [(3, 3, (tw s2))] [(wn n), (tw t), (RG.z 12), (tw s2)] [(2, (.p 0 0)), (3, (.p 1 0)), (4, (.p 2 0)), (5, (.p 3 0)), (6, (.v (.int .i64 (i : Int))))] (by kernel_rfl) (by kernel_rfl) ⟨RG.ld u56 i56 (by kernel_rfl), RG.ld u56 i56 (by kernel_rfl), RG.cl (hp1) fun _ _ => by kernel_rfl, RG.pt i56 (by kernel_rfl), trivial⟩ ?_
      intro a2 w2 M2
      repeat refine wp_seq ?_
      refine M2.tx0 (F40b_6 n i) [(2, (.p 0 0)), (3, (.p 1 0)), (4, (.p 2 0)), (5, (.p 3 0)), (6, (.v (.int .i64 (i : Int)))), (18, (.v (.bool false)))] (by kernel_rfl) ⟨RG.ld u33 i33 (by kernel_rfl), RG.st fun _ _ => by kernel_rfl, RG.cl (rBit_0 hn hi hb) fun _ _ => by kernel_rfl, RG.st fun _ _ => by kernel_rfl, trivial⟩ ?_
      intro a3 w3 M3
      repeat refine wp_seq ?_
      refine wp_cond_false (M3.ev (by kernel_rfl)) ?_
      refine wp_skip ?_
      repeat refine wp_seq ?_
      refine M3.tx0 (F40b_4 i) [(2, (.p 0 0)), (3, (.p 1 0)), (4, (.p 2 0)), (5, (.p 3 0)), (6, (.v (.int .i64 ((i : Int) - 1))))] (by kernel_rfl) ⟨RG.st fun _ _ => by kernel_rfl, RG.cert_binc rfl .sub 3 3 10 (.int .i64 (i : Int)) (.int .i64 1) (.int .i64 ((i : Int) - 1)) rfl rfl (RG.sx fun _ => by kernel_rfl) (fun w => by kernel_rfl) (sub1 i (by omega)), RG.st fun _ _ => by kernel_rfl, trivial⟩ ?_
      intro a4 w4 M4
      have hS4 : RG.St w w.heap.size [] [(wn n), (tw t), (RG.z 12), (tw s2)] [k2, k3, k4, k5] _ := M4.st
      have sl4 := M4.sl
      have f2_4 : a4.tmps[2]? = some (.pointer (some ⟨k2, 0, none⟩)) := M4.at (s := (.p 0 0)) (by kernel_rfl)
      have f3_4 : a4.tmps[3]? = some (.pointer (some ⟨k3, 0, none⟩)) := M4.at (s := (.p 1 0)) (by kernel_rfl)
      have f4_4 : a4.tmps[4]? = some (.pointer (some ⟨k4, 0, none⟩)) := M4.at (s := (.p 2 0)) (by kernel_rfl)
      have f5_4 : a4.tmps[5]? = some (.pointer (some ⟨k5, 0, none⟩)) := M4.at (s := (.p 3 0)) (by kernel_rfl)
      have f6_4 : a4.tmps[6]? = some (.int .i64 ((i : Int) - 1)) := M4.at (s := (.v (.int .i64 ((i : Int) - 1)))) (by kernel_rfl)
      show ∃ n', _
      exact ⟨i, Nat.lt_succ_self i, by omega, sl4, f2_4, f3_4, f4_4, f5_4, f6_4, by rw [hstep]; exact hS4⟩
end Go.Proofs.YticolhhalbbogacGreat
namespace Go.Proofs.YticolhhalbbogacGreat
open Go.RowKit Go.Sort Go.Deep
variable {P : Nat} [NeZero P]
def F380_0 (x : Fin P) : List RG.It := [.m 1 [] 0, .x 2 [] (.string ⟨#[]⟩)]
def F380_1 (x y z : Fin P) : List RG.It := [.x 7 [] (rv x y z), .c 8 [(7, 0)] (.bool false), .x 3 [(8, 1)] (.bool false)]
def F380_2 (x : Fin P) : List RG.It := [.x 9 [] (.bool false)]
def F380_4 (x z c1 : Fin P) : List RG.It := [.c 12 [] rv0, .s 13 [] (.p 0 8), .x 14 [(13, 1)] (fv z), .c 15 [(12, 0), (14, 2)] (fv c1), .m 4 [] 1, .u [(4, 4), (15, 3)] 1]
def F380_5 (x c1 c2 : Fin P) : List RG.It := [.c 16 [] rv0, .s 17 [] (.p 0 0), .x 18 [(17, 1)] (fv x), .x 19 [] (fv c1), .c 20 [(16, 0), (18, 2), (19, 3)] (fv c2), .m 5 [] 2, .u [(5, 5), (20, 4)] 2]
def F380_6 (x y c1 c3 : Fin P) : List RG.It := [.c 21 [] rv0, .s 22 [] (.p 0 4), .x 23 [(22, 1)] (fv y), .x 24 [] (fv c1), .c 25 [(21, 0), (23, 2), (24, 3)] (fv c3), .m 6 [] 3, .u [(6, 5), (25, 4)] 3]
def F380_7 (x c2 c3 : Fin P) : List RG.It := [.s 26 [] (.p 3 0), .x 27 [(26, 0)] (.int .u64 ((c3.val % 18446744073709551616 : Nat) : Int)), .x 28 [(27, 1)] (.int .u64 0), .x 29 [(28, 2)] (.int .u8 0), .x 30 [(29, 3)] (.int .u8 2), ⟨some 31, [(30, 4)], (.s 4 1 1), .make 4⟩, .x 32 [(31, 5)] (.string ⟨#[2]⟩), .x 33 [] (fv c2), .c 34 [(33, 7)] (.string ⟨bx c2.val⟩), .x 35 [(32, 6), (34, 8)] (.string ⟨#[2] ++ bx c2.val⟩), .x 2 [(35, 9)] (.string ⟨#[2] ++ bx c2.val⟩)]
set_option maxHeartbeats 2000000 in
set_option maxRecDepth 100000 in
theorem rWr_0_c (C : Fl3 P) (x y z : Fin P)(hz : ¬ z = 0) (hpar : (y * EC.inv z).val % 2 = 0)  : Gives 10 #[(rv x y z)] (.string ⟨#[2] ++ bx (x * EC.inv z).val⟩) := by
  intro w
  obtain ⟨c1, hc1⟩ : ∃ c, c = EC.inv z := ⟨_, rfl⟩
  obtain ⟨c2, hc2⟩ : ∃ c, c = x * c1 := ⟨_, rfl⟩
  obtain ⟨c3, hc3⟩ : ∃ c, c = y * c1 := ⟨_, rfl⟩
  have hfin : ((.string ⟨#[2] ++ bx c2.val⟩) : Value) = (.string ⟨#[2] ++ bx (x * EC.inv z).val⟩) := by
    subst_vars; rfl
  rw [← hfin]
  go_enter Tryz.func10, Tryz.ntmps10
  refine RG.M.enter [(0, (.v (rv x y z)))] 36 (by kernel_rfl) ?_
  intro a0 M0
  repeat refine wp_seq ?_
  refine M0.tx (F380_0 x) [(0, (ws x ++ (ws y ++ (ws z))))] [] [(ws x ++ (ws y ++ (ws z)))] [(1, (.p 0 0)), (2, (.v (.string ⟨#[]⟩)))] (by kernel_rfl) (by kernel_rfl) ⟨RG.mk 0 34 fun _ _ => by kernel_rfl, RG.st fun _ _ => by kernel_rfl, trivial⟩ ?_
  intro j1 a1 w1 M1
  repeat refine wp_seq ?_
  refine M1.tx0 (F380_1 x y z) [(1, (.p 0 0)), (2, (.v (.string ⟨#[]⟩))), (3, (.v (.bool false)))] (by kernel_rfl) ⟨RG.ld u56 i56 (by kernel_rfl), RG.cl (Is_f_c C x y z hz) fun _ _ => by kernel_rfl, RG.st fun _ _ => by kernel_rfl, trivial⟩ ?_
  intro a2 w2 M2
  repeat refine wp_seq ?_
  refine M2.tx0 (F380_2 x) [(1, (.p 0 0)), (2, (.v (.string ⟨#[]⟩))), (9, (.v (.bool false)))] (by kernel_rfl) ⟨RG.st fun _ _ => by kernel_rfl, trivial⟩ ?_
  intro a3 w3 M3
  repeat refine wp_seq ?_
  refine wp_cond_false (M3.ev (by kernel_rfl)) ?_
  refine wp_skip ?_
  repeat refine wp_seq ?_
  refine M3.dr (by kernel_rfl) (F380_4 x z c1) [(4, (RG.z 4))] [(1, 5, (ws c1))] [(ws x ++ (ws y ++ (ws z))), (ws c1)] [(1, (.p 0 0)), (2, (.v (.string ⟨#[]⟩))), (4, (.p 1 0))] (by kernel_rfl) (by kernel_rfl) ⟨RG.cl (F3_c) fun _ _ => by kernel_rfl, RG.st fun _ _ => by kernel_rfl, RG.ld u33 i33 (by kernel_rfl), RG.cl ((rInv_c C z).e hc1) fun _ _ => by kernel_rfl, RG.mk 1 32 fun _ _ => by kernel_rfl, RG.pt i33 (by kernel_rfl), trivial⟩ ?_
  intro j4 a4 w4 M4
  repeat refine wp_seq ?_
  refine M4.dr (by kernel_rfl) (F380_5 x c1 c2) [(5, (RG.z 4))] [(2, 6, (ws c2))] [(ws x ++ (ws y ++ (ws z))), (ws c1), (ws c2)] [(1, (.p 0 0)), (2, (.v (.string ⟨#[]⟩))), (4, (.p 1 0)), (5, (.p 2 0))] (by kernel_rfl) (by kernel_rfl) ⟨RG.cl (F3_c) fun _ _ => by kernel_rfl, RG.st fun _ _ => by kernel_rfl, RG.ld u33 i33 (by kernel_rfl), RG.ld u33 i33 (by kernel_rfl), RG.cl ((rMul_c C x c1).e hc2) fun _ _ => by kernel_rfl, RG.mk 2 32 fun _ _ => by kernel_rfl, RG.pt i33 (by kernel_rfl), trivial⟩ ?_
  intro j5 a5 w5 M5
  repeat refine wp_seq ?_
  refine M5.dr (by kernel_rfl) (F380_6 x y c1 c3) [(5, (RG.z 4))] [(3, 6, (ws c3))] [(ws x ++ (ws y ++ (ws z))), (ws c1), (ws c2), (ws c3)] [(2, (.v (.string ⟨#[]⟩))), (5, (.p 2 0)), (6, (.p 3 0))] (by kernel_rfl) (by kernel_rfl) ⟨RG.cl (F3_c) fun _ _ => by kernel_rfl, RG.st fun _ _ => by kernel_rfl, RG.ld u33 i33 (by kernel_rfl), RG.ld u33 i33 (by kernel_rfl), RG.cl ((rMul_c C y c1).e hc3) fun _ _ => by kernel_rfl, RG.mk 3 32 fun _ _ => by kernel_rfl, RG.pt i33 (by kernel_rfl), trivial⟩ ?_
  intro j6 a6 w6 M6
  repeat refine wp_seq ?_
  refine M6.dr (by kernel_rfl) (F380_7 x c2 c3) [(5, [(.int .u8 2)])] [] [(ws x ++ (ws y ++ (ws z))), (ws c1), (ws c2), (ws c3), [(.int .u8 2)]] [(2, (.v (.string ⟨#[2] ++ bx c2.val⟩)))] (by kernel_rfl) (by kernel_rfl) ⟨RG.cert_idxc rfl 32 6 (.int .i64 0) rfl (.p 3 0) (RG.sx fun _ => by kernel_rfl) (fun μ w => by kernel_rfl), RG.cert_load1 rfl 3 0 _ rfl rfl (by kernel_rfl) 30 26 rfl (.int .u64 ((c3.val % 18446744073709551616 : Nat) : Int)) rfl (RG.sx fun _ => by kernel_rfl) rfl u31, RG.cert_binc rfl .and 30 30 27 (.int .u64 ((c3.val % 18446744073709551616 : Nat) : Int)) (.int .u64 1) (.int .u64 0) rfl rfl (RG.sx fun _ => by kernel_rfl) (fun w => by kernel_rfl) (and1 c3.val 0 (by subst_vars; exact hpar)), RG.cert_conv rfl 30 5 28 (.int .u64 0) (.int .u8 0) rfl rfl (RG.sx fun _ => by kernel_rfl) (fun w => by kernel_rfl), RG.st fun _ _ => by kernel_rfl, RG.cert_bs1 4 rfl _ rfl 22 5 30 (.int .u8 2) rfl rfl (RG.sx fun _ => by kernel_rfl) (bs1 2), RG.cert_str rfl 4 5 _ rfl _ rfl rfl (by kernel_rfl) (by kernel_rfl) 22 9 31 1 (.string ⟨#[2]⟩) rfl rfl (RG.sx fun _ => by kernel_rfl) (fun w k h => str1 2 w k h), RG.ld u33 i33 (by kernel_rfl), RG.cl (rBytes_c C.toFld c2) fun _ _ => by kernel_rfl, RG.cert_bin rfl .add 9 9 32 34 (.string ⟨#[2]⟩) (.string ⟨bx c2.val⟩) (.string ⟨#[2] ++ bx c2.val⟩) rfl rfl (RG.sx fun _ => by kernel_rfl) (RG.sx fun _ => by kernel_rfl) (fun w => by kernel_rfl) (cat 2 _), RG.st fun _ _ => by kernel_rfl, trivial⟩ ?_
  intro j7 a7 w7 M7
  refine wp_ret ?_
  refine bodyPost_ret (v := (.string ⟨#[2] ++ bx c2.val⟩)) (RG.results_t 2 rfl _ (M7.at (s := (.v (.string ⟨#[2] ++ bx c2.val⟩))) (by kernel_rfl))) M7.sl.defers ?_
  exact ⟨_, rfl, M7.st.bel.below, rfl⟩
def F381_0 (x : Fin P) : List RG.It := [.m 1 [] 0, .x 2 [] (.string ⟨#[]⟩)]
def F381_1 (x y z : Fin P) : List RG.It := [.x 7 [] (rv x y z), .c 8 [(7, 0)] (.bool false), .x 3 [(8, 1)] (.bool false)]
def F381_2 (x : Fin P) : List RG.It := [.x 9 [] (.bool false)]
def F381_4 (x z c1 : Fin P) : List RG.It := [.c 12 [] rv0, .s 13 [] (.p 0 8), .x 14 [(13, 1)] (fv z), .c 15 [(12, 0), (14, 2)] (fv c1), .m 4 [] 1, .u [(4, 4), (15, 3)] 1]
def F381_5 (x c1 c2 : Fin P) : List RG.It := [.c 16 [] rv0, .s 17 [] (.p 0 0), .x 18 [(17, 1)] (fv x), .x 19 [] (fv c1), .c 20 [(16, 0), (18, 2), (19, 3)] (fv c2), .m 5 [] 2, .u [(5, 5), (20, 4)] 2]
def F381_6 (x y c1 c3 : Fin P) : List RG.It := [.c 21 [] rv0, .s 22 [] (.p 0 4), .x 23 [(22, 1)] (fv y), .x 24 [] (fv c1), .c 25 [(21, 0), (23, 2), (24, 3)] (fv c3), .m 6 [] 3, .u [(6, 5), (25, 4)] 3]
def F381_7 (x c2 c3 : Fin P) : List RG.It := [.s 26 [] (.p 3 0), .x 27 [(26, 0)] (.int .u64 ((c3.val % 18446744073709551616 : Nat) : Int)), .x 28 [(27, 1)] (.int .u64 1), .x 29 [(28, 2)] (.int .u8 1), .x 30 [(29, 3)] (.int .u8 3), ⟨some 31, [(30, 4)], (.s 4 1 1), .make 4⟩, .x 32 [(31, 5)] (.string ⟨#[3]⟩), .x 33 [] (fv c2), .c 34 [(33, 7)] (.string ⟨bx c2.val⟩), .x 35 [(32, 6), (34, 8)] (.string ⟨#[3] ++ bx c2.val⟩), .x 2 [(35, 9)] (.string ⟨#[3] ++ bx c2.val⟩)]
set_option maxHeartbeats 2000000 in
set_option maxRecDepth 100000 in
theorem rWr_1_c (C : Fl3 P) (x y z : Fin P)(hz : ¬ z = 0) (hpar : (y * EC.inv z).val % 2 = 1)  : Gives 10 #[(rv x y z)] (.string ⟨#[3] ++ bx (x * EC.inv z).val⟩) := by
  intro w
  obtain ⟨c1, hc1⟩ : ∃ c, c = EC.inv z := ⟨_, rfl⟩
  obtain ⟨c2, hc2⟩ : ∃ c, c = x * c1 := ⟨_, rfl⟩
  obtain ⟨c3, hc3⟩ : ∃ c, c = y * c1 := ⟨_, rfl⟩
  have hfin : ((.string ⟨#[3] ++ bx c2.val⟩) : Value) = (.string ⟨#[3] ++ bx (x * EC.inv z).val⟩) := by
    subst_vars; rfl
  rw [← hfin]
  go_enter Tryz.func10, Tryz.ntmps10
  refine RG.M.enter [(0, (.v (rv x y z)))] 36 (by kernel_rfl) ?_
  intro a0 M0
  repeat refine wp_seq ?_
  refine M0.tx (F381_0 x) [(0, (ws x ++ (ws y ++ (ws z))))] [] [(ws x ++ (ws y ++ (ws z)))] [(1, (.p 0 0)), (2, (.v (.string ⟨#[]⟩)))] (by kernel_rfl) (by kernel_rfl) ⟨RG.mk 0 34 fun _ _ => by kernel_rfl, RG.st fun _ _ => by kernel_rfl, trivial⟩ ?_
  intro j1 a1 w1 M1
  repeat refine wp_seq ?_
  refine M1.tx0 (F381_1 x y z) [(1, (.p 0 0)), (2, (.v (.string ⟨#[]⟩))), (3, (.v (.bool false)))] (by kernel_rfl) ⟨RG.ld u56 i56 (by kernel_rfl), RG.cl (Is_f_c C x y z hz) fun _ _ => by kernel_rfl, RG.st fun _ _ => by kernel_rfl, trivial⟩ ?_
  intro a2 w2 M2
  repeat refine wp_seq ?_
  refine M2.tx0 (F381_2 x) [(1, (.p 0 0)), (2, (.v (.string ⟨#[]⟩))), (9, (.v (.bool false)))] (by kernel_rfl) ⟨RG.st fun _ _ => by kernel_rfl, trivial⟩ ?_
  intro a3 w3 M3
  repeat refine wp_seq ?_
  refine wp_cond_false (M3.ev (by kernel_rfl)) ?_
  refine wp_skip ?_
  repeat refine wp_seq ?_
  refine M3.dr (by kernel_rfl) (F381_4 x z c1) [(4, (RG.z 4))] [(1, 5, (ws c1))] [(ws x ++ (ws y ++ (ws z))), (ws c1)] [(1, (.p 0 0)), (2, (.v (.string ⟨#[]⟩))), (4, (.p 1 0))] (by kernel_rfl) (by kernel_rfl) ⟨RG.cl (F3_c) fun _ _ => by kernel_rfl, RG.st fun _ _ => by kernel_rfl, RG.ld u33 i33 (by kernel_rfl), RG.cl ((rInv_c C z).e hc1) fun _ _ => by kernel_rfl, RG.mk 1 32 fun _ _ => by kernel_rfl, RG.pt i33 (by kernel_rfl), trivial⟩ ?_
  intro j4 a4 w4 M4
  repeat refine wp_seq ?_
  refine M4.dr (by kernel_rfl) (F381_5 x c1 c2) [(5, (RG.z 4))] [(2, 6, (ws c2))] [(ws x ++ (ws y ++ (ws z))), (ws c1), (ws c2)] [(1, (.p 0 0)), (2, (.v (.string ⟨#[]⟩))), (4, (.p 1 0)), (5, (.p 2 0))] (by kernel_rfl) (by kernel_rfl) ⟨RG.cl (F3_c) fun _ _ => by kernel_rfl, RG.st fun _ _ => by kernel_rfl, RG.ld u33 i33 (by kernel_rfl), RG.ld u33 i33 (by kernel_rfl), RG.cl ((rMul_c C x c1).e hc2) fun _ _ => by kernel_rfl, RG.mk 2 32 fun _ _ => by kernel_rfl, RG.pt i33 (by kernel_rfl), trivial⟩ ?_
  intro j5 a5 w5 M5
  repeat refine wp_seq ?_
  refine M5.dr (by kernel_rfl) (F381_6 x y c1 c3) [(5, (RG.z 4))] [(3, 6, (ws c3))] [(ws x ++ (ws y ++ (ws z))), (ws c1), (ws c2), (ws c3)] [(2, (.v (.string ⟨#[]⟩))), (5, (.p 2 0)), (6, (.p 3 0))] (by kernel_rfl) (by kernel_rfl) ⟨RG.cl (F3_c) fun _ _ => by kernel_rfl, RG.st fun _ _ => by kernel_rfl, RG.ld u33 i33 (by kernel_rfl), RG.ld u33 i33 (by kernel_rfl), RG.cl ((rMul_c C y c1).e hc3) fun _ _ => by kernel_rfl, RG.mk 3 32 fun _ _ => by kernel_rfl, RG.pt i33 (by kernel_rfl), trivial⟩ ?_
  intro j6 a6 w6 M6
  repeat refine wp_seq ?_
  refine M6.dr (by kernel_rfl) (F381_7 x c2 c3) [(5, [(.int .u8 3)])] [] [(ws x ++ (ws y ++ (ws z))), (ws c1), (ws c2), (ws c3), [(.int .u8 3)]] [(2, (.v (.string ⟨#[3] ++ bx c2.val⟩)))] (by kernel_rfl) (by kernel_rfl) ⟨RG.cert_idxc rfl 32 6 (.int .i64 0) rfl (.p 3 0) (RG.sx fun _ => by kernel_rfl) (fun μ w => by kernel_rfl), RG.cert_load1 rfl 3 0 _ rfl rfl (by kernel_rfl) 30 26 rfl (.int .u64 ((c3.val % 18446744073709551616 : Nat) : Int)) rfl (RG.sx fun _ => by kernel_rfl) rfl u31, RG.cert_binc rfl .and 30 30 27 (.int .u64 ((c3.val % 18446744073709551616 : Nat) : Int)) (.int .u64 1) (.int .u64 1) rfl rfl (RG.sx fun _ => by kernel_rfl) (fun w => by kernel_rfl) (and1 c3.val 1 (by subst_vars; exact hpar)), RG.cert_conv rfl 30 5 28 (.int .u64 1) (.int .u8 1) rfl rfl (RG.sx fun _ => by kernel_rfl) (fun w => by kernel_rfl), RG.st fun _ _ => by kernel_rfl, RG.cert_bs1 4 rfl _ rfl 22 5 30 (.int .u8 3) rfl rfl (RG.sx fun _ => by kernel_rfl) (bs1 3), RG.cert_str rfl 4 5 _ rfl _ rfl rfl (by kernel_rfl) (by kernel_rfl) 22 9 31 1 (.string ⟨#[3]⟩) rfl rfl (RG.sx fun _ => by kernel_rfl) (fun w k h => str1 3 w k h), RG.ld u33 i33 (by kernel_rfl), RG.cl (rBytes_c C.toFld c2) fun _ _ => by kernel_rfl, RG.cert_bin rfl .add 9 9 32 34 (.string ⟨#[3]⟩) (.string ⟨bx c2.val⟩) (.string ⟨#[3] ++ bx c2.val⟩) rfl rfl (RG.sx fun _ => by kernel_rfl) (RG.sx fun _ => by kernel_rfl) (fun w => by kernel_rfl) (cat 3 _), RG.st fun _ _ => by kernel_rfl, trivial⟩ ?_
  intro j7 a7 w7 M7
  refine wp_ret ?_
  refine bodyPost_ret (v := (.string ⟨#[3] ++ bx c2.val⟩)) (RG.results_t 2 rfl _ (M7.at (s := (.v (.string ⟨#[3] ++ bx c2.val⟩))) (by kernel_rfl))) M7.sl.defers ?_
  exact ⟨_, rfl, M7.st.bel.below, rfl⟩
end Go.Proofs.YticolhhalbbogacGreat
namespace Go.Proofs.YticolhhalbbogacGreat
open Go.RowKit Go.Sort
variable {P : Nat} [NeZero P]
theorem rWritten_c (C : Fl3 P) {t : T3 P} {p : EC.Pt P} (h : FracT t p) : Gives 10 #[tv t] (.string ⟨wr p⟩) := by
  obtain ⟨x, y, z⟩ := t
  match p, h with
  | none, h => exact rWr_z C x y z h.1
  | some (a, b), h =>
    obtain ⟨⟨hz, hx, hy⟩, ho⟩ := h
    have hi := EC.inv_mul C.toFld.cur.pr hz
    have e1 : x * EC.inv z = a := by
      have hx : x = a * z := hx
      rw [hx]
      grobner
    have e2 : y * EC.inv z = b := by
      have hy : y = b * z := hy
      rw [hy]
      grobner
    show Gives _ #[rv x y z] (.string ⟨#[mark b.val] ++ bx a.val⟩)
    rw [← e1, ← e2]
    unfold mark
    by_cases hp : (y * EC.inv z).val % 2 = 1
    · rw [if_pos hp]
      exact rWr_1_c C x y z hz hp
    · rw [if_neg hp]
      exact rWr_0_c C x y z hz (by omega)
end Go.Proofs.YticolhhalbbogacGreat
namespace Go.Proofs.YticolhhalbbogacGreat
open Go.RowKit Go.Sort Go.Deep
variable {P : Nat} [NeZero P]
def FHh_0 : List RG.It := [.m 0 [] 0]
def FHh_1 (x y : Fin P) : List RG.It := [.c 1 [] (rv x y 1), .u [(1, 0)] 0]
set_option maxRecDepth 100000 in
theorem rH_c (C : Fl3 P) {x y : Fin P} (hq : hpt P valueL [] = (x, y)) : Gives 34 #[] (rv x y 1) := by
  intro w
  have hh : Gives 11 #[.string valueL, .string ⟨#[]⟩] (rv x y 1) := by
    have h := rHash_c C valueL ⟨#[]⟩ (by decide) (by decide)
    have e : hpt P valueL (⟨#[]⟩ : ByteArray).data.toList = (x, y) := hq
    rw [e] at h
    exact h
  clear hq
  go_enter Tryz.func34, Tryz.ntmps34
  refine RG.M.enter [] 2 (by kernel_rfl) ?_
  intro a0 M0
  repeat refine wp_seq ?_
  refine M0.tx FHh_0 [(0, RG.z 12)] [] [RG.z 12] [(0, .p 0 0)] (by kernel_rfl) (by kernel_rfl) ⟨RG.mk 0 34 fun _ _ => by kernel_rfl, trivial⟩ ?_
  intro k a1 w1 M1
  repeat refine wp_seq ?_
  refine M1.tx (FHh_1 x y) [] [(0, 1, ws x ++ (ws y ++ ws (1 : Fin P)))] [ws x ++ (ws y ++ ws (1 : Fin P))] [(0, .p 0 0)] (by kernel_rfl) (by kernel_rfl) ⟨RG.cl hh fun _ _ => by kernel_rfl, RG.pt i56 (by kernel_rfl), trivial⟩ ?_
  intro a2 w2 M2
  refine wp_ret ?_
  refine bodyPost_ret (v := rv x y 1) (RG.results_row M2.st 0 34 rfl 0 _ rfl (M2.at (s := (.p 0 0)) (by kernel_rfl)) u56 i56) M2.sl.defers ?_
  exact ⟨_, rfl, M2.st.bel.below, rfl⟩
def FHc_0 : List RG.It := [.m 2 [] 0, .m 3 [] 1, .m 4 [] 2]
def FHc_1 (n m : Nat) (x y gx gy : Fin P) (t1 t2 t3 : T3 P) : List RG.It := [.x 5 [] (nv n), .c 6 [] (rv x y 1), .c 7 [(5, 0), (6, 1)] (tv t1), .x 8 [] (nv m), .c 9 [] (rv gx gy 1), .c 10 [(8, 3), (9, 4)] (tv t2), .c 11 [(7, 2), (10, 5)] (tv t3), .u [(11, 6)] 2]
set_option maxRecDepth 100000 in
theorem cmt_eq (n m : Nat) : cmt P n m = EC.add (EC.mul n (.some (hpt P valueL []) : EC.Pt P)) (EC.mul m (gG P)) := by
  unfold cmt
  generalize hpt P valueL [] = q
  show EC.add (EC.add none (EC.zmul (n : Int) (.some q : EC.Pt P))) (EC.zmul (m : Int) (gG P)) = _
  rw [EC.none_add]
  rfl
set_option maxRecDepth 100000 in
theorem rCommit_c (C : Fl3 P) (n m : Nat) (hn : n < top) (hm : m < top) : ∃ t : T3 P, FracT t (cmt P n m) ∧ Gives 14 #[nv n, nv m] (tv t) := by
  rw [cmt_eq]
  have hon := hpt_on C.toFld valueL []
  obtain ⟨q, hq⟩ : ∃ q, hpt P valueL [] = q := ⟨_, rfl⟩
  rw [hq] at hon ⊢
  obtain ⟨x, y⟩ := q
  have hH := rH_c C hq
  clear hq
  have hG : Gives 9 #[] (rv (gX P) (gY P) 1) := rG_c C
  have f0 : FracT ((x, y, 1) : T3 P) (.some (x, y)) := ⟨frac_one C.toFld x y, hon⟩
  have f1 := gT_frac C.toFld
  have g0 := rTimes_c C n hn (x, y, 1) f0
  have g1 := rTimes_c C m hm (gT P) f1
  have e0 : FracT (tmF n (x, y, 1) 256) (EC.mul n (.some (x, y))) := by
    have h := tmF_F C (n := n) (by unfold top at hn; omega) f0 256 (Nat.le_refl _)
    rwa [Nat.sub_self, Nat.pow_zero, Nat.div_one] at h
  have e1 : FracT (tmF m (gT P) 256) (EC.mul m (gG P)) := by
    have h := tmF_F C (n := m) (by unfold top at hm; omega) f1 256 (Nat.le_refl _)
    rwa [Nat.sub_self, Nat.pow_zero, Nat.div_one] at h
  obtain ⟨g2, e2⟩ := FracT.plus C e0 e1
  refine ⟨_, e2, ?_⟩
  generalize plF (tmF n (x, y, 1) 256) (tmF m (gT P) 256) = t3 at g2 ⊢
  generalize tmF n (x, y, 1) 256 = t1 at g0 g2
  generalize tmF m (gT P) 256 = t2 at g1 g2
  replace g1 : Gives 33 #[nv m, rv (gX P) (gY P) 1] (tv t2) := g1
  replace g0 : Gives 33 #[nv n, rv x y 1] (tv t1) := g0
  generalize gX P = gx at hG g1
  generalize gY P = gy at hG g1
  clear e0 e1 e2 f0 f1 hon
  intro w
  go_enter Tryz.func14, Tryz.ntmps14
  refine RG.M.enter [(0, .v (nv n)), (1, .v (nv m))] 12 (by kernel_rfl) ?_
  intro a0 M0
  repeat refine wp_seq ?_
  refine M0.tx FHc_0 [(0, wn n), (1, wn m), (2, RG.z 12)] [] [wn n, wn m, RG.z 12] [(2, .p 0 0), (3, .p 1 0), (4, .p 2 0)] (by kernel_rfl) (by kernel_rfl) ⟨RG.mk 0 32 fun _ _ => by kernel_rfl, RG.mk 1 32 fun _ _ => by kernel_rfl, RG.mk 2 34 fun _ _ => by kernel_rfl, trivial⟩ ?_
  intro k1 k2 k3 a1 w1 M1
  repeat refine wp_seq ?_
  refine M1.dr (by kernel_rfl) (FHc_1 n m x y gx gy t1 t2 t3) [] [(2, 7, tw t3)] [wn n, wn m, tw t3] [(4, .p 2 0)] (by kernel_rfl) (by kernel_rfl) ⟨RG.ld u33 i33 (by kernel_rfl), RG.cl hH fun _ _ => by kernel_rfl, RG.cl g0 fun _ _ => by kernel_rfl, RG.ld u33 i33 (by kernel_rfl), RG.cl hG fun _ _ => by kernel_rfl, RG.cl g1 fun _ _ => by kernel_rfl, RG.cl g2 fun _ _ => by kernel_rfl, RG.pt i56 (by kernel_rfl), trivial⟩ ?_
  intro a2 w2 M2
  refine wp_ret ?_
  refine bodyPost_ret (v := tv t3) (RG.results_row M2.st 4 34 rfl 2 _ rfl (M2.at (s := (.p 2 0)) (by kernel_rfl)) u56 i56) M2.sl.defers ?_
  exact ⟨_, rfl, M2.st.bel.below, rfl⟩
end Go.Proofs.YticolhhalbbogacGreat
namespace Go.Proofs.YticolhhalbbogacGreat
open Go.RowKit Go.Sort Go.Deep
theorem uFq : (Tryz.prog.underlying 40).map (·.isRow) = some true := by kernel_rfl
theorem iFq : (Tryz.prog.info? 40).map (·.size) = some 8 := by kernel_rfl
def rl1 : List Value := [.int .u64 13822214165235122497, .int .u64 13451932020343611451, .int .u64 18446744073709551614, .int .u64 18446744073709551615, .int .u64 4624529908474429119, .int .u64 4994812053365940164, .int .u64 1, .int .u64 0]
def rv1 : Value := .agg rl1.toArray
theorem rMake1_c : Gives 30 #[.int .i64 1] rv1 := fun w => (rMake1 w).mono (by rintro e w' ⟨v, rfl, hb, rfl⟩; exact ⟨_, rfl, hb, rfl⟩)
def F32_0 : List RG.It := [.m 0 [] 0]
def F32_1 : List RG.It := [.c 1 [] rv1, .u [(1, 0)] 0]
set_option maxHeartbeats 2000000 in
set_option maxRecDepth 100000 in
theorem Q3_c  : Gives 12 #[] rv1 := by
  intro w
  go_enter Tryz.func12, Tryz.ntmps12
  refine RG.M.enter [] 2 (by kernel_rfl) ?_
  intro a0 M0
  repeat refine wp_seq ?_
  refine M0.tx F32_0 [(0, (RG.z 8))] [] [(RG.z 8)] [(0, (.p 0 0))] (by kernel_rfl) (by kernel_rfl) ⟨RG.mk 0 40 fun _ _ => by kernel_rfl, trivial⟩ ?_
  intro j1 a1 w1 M1
  repeat refine wp_seq ?_
  refine M1.tx F32_1 [] [(0, 1, rl1)] [rl1] [(0, (.p 0 0))] (by kernel_rfl) (by kernel_rfl) ⟨RG.cl (rMake1_c) fun _ _ => by kernel_rfl, RG.pt iFq (by kernel_rfl), trivial⟩ ?_
  intro a2 w2 M2
  refine wp_ret ?_
  refine bodyPost_ret (v := rv1) (RG.results_row M2.st 0 40 rfl 0 _ rfl (M2.at (s := (.p 0 0)) (by kernel_rfl)) uFq iFq) M2.sl.defers ?_
  exact ⟨_, rfl, M2.st.bel.below, rfl⟩
/-- What the reference's Number answers, modulo the order. -/
def nuV (bs : Bs) : Nat := if bs.size = 32 then beV bs.toList else 0
theorem rNum_v {N : Nat} (hR : RefP 13822214165235122497 13451932020343611451 18446744073709551614 18446744073709551615 4624529908474429119 4994812053365940164 1 0 N) (s : ByteArray) : Gives 13 #[rv1, .string s] (.tuple #[nv (nuV s.data), .bool (rq N s.data).isSome]) := fun w =>
  (rNumber_any _ _ _ _ _ _ _ _ N s hR w).mono (by
    rintro e w' ⟨v, rfl, hb, a, b, c, d, ok, rfl, h1, h2, h3, h4⟩
    refine ⟨_, rfl, hb, ?_⟩
    unfold nuV rq
    cases ok with
    | true =>
      obtain ⟨hi, hF⟩ := h1 rfl
      rw [if_pos (show s.data.size = 32 ∧ beV s.data.toList < N from hi), if_pos (show s.data.size = 32 from hi.1), hF.nv]
      rfl
    | false =>
      rw [if_neg (show ¬ (s.data.size = 32 ∧ beV s.data.toList < N) from h2 rfl)]
      by_cases hs : s.data.size = 32
      · rw [if_pos hs, (h3 hs).nv]
        rfl
      · rw [if_neg hs]
        obtain ⟨rfl, rfl, rfl, rfl⟩ := h4 hs
        rfl)
theorem rq_nu {N : Nat} {bs : Bs} {n : Nat} (h : rq N bs = some n) : n = nuV bs := by
  unfold rq at h
  split at h
  · rename_i hc
    unfold nuV
    rw [if_pos hc.1]
    exact (Option.some.inj h).symm
  · cases h
end Go.Proofs.YticolhhalbbogacGreat
namespace Go.Proofs.YticolhhalbbogacGreat
open Go.RowKit Go.Sort Go.Deep
variable {P : Nat} [NeZero P]
/-- What the reference's Number answers, modulo the order. -/
def NumQR (N : Nat) (bs : Bs) (e : Value) : Prop := match rq N bs with
  | some n => e = .tuple #[nv n, .bool true]
  | none => ∃ m, e = .tuple #[nv m, .bool false]
theorem rNumQ {N : Nat} (hR : RefP 13822214165235122497 13451932020343611451 18446744073709551614 18446744073709551615 4624529908474429119 4994812053365940164 1 0 N) (bs : Bs) (w : World) : Calls Tryz.prog 13 #[rv1, .string ⟨bs⟩] w (Ret fun e w' => Below w.heap.size w w' ∧ NumQR N bs e) :=
  (rNumber_any _ _ _ _ _ _ _ _ N ⟨bs⟩ hR w).mono (by
    rintro e w' ⟨v, rfl, hb, a, b, c, d, ok, rfl, h1, h2, h3, h4⟩
    refine ⟨_, rfl, hb, ?_⟩
    unfold NumQR rq
    cases ok with
    | true =>
      obtain ⟨hi, hF⟩ := h1 rfl
      rw [if_pos (show bs.size = 32 ∧ beV bs.toList < N from hi)]
      dsimp only
      rw [hF.nv]
    | false =>
      rw [if_neg (show ¬ (bs.size = 32 ∧ beV bs.toList < N) from h2 rfl)]
      by_cases hs : bs.size = 32
      · exact ⟨_, by rw [(h3 hs).nv]⟩
      · obtain ⟨rfl, rfl, rfl, rfl⟩ := h4 hs
        exact ⟨0, rfl⟩)
set_option maxHeartbeats 1000000 in
theorem told3_err (c : Int) (s : ByteArray) (hc : ¬ c = 0) (w : World) :
    Calls Tryz.prog 15 #[.slice none 0 0, .int .i64 c, .int .i64 c, .string s] w (Ret fun e w' => Below w.heap.size w w' ∧ e = .bool true) := by
  go_enter Tryz.func15, Tryz.ntmps15
  go_wp2
  go_ret
  exact ⟨_, rfl, Below.refl _ _, by simp⟩
set_option maxHeartbeats 1000000 in
theorem told3_ok (g cap : Nat) (T : Bs) (w : World) (hT : T.size = 33) (hH : Holds encB w g 0 T) :
    Calls Tryz.prog 15 #[.slice (some ⟨g, 0, none⟩) 33 cap, .int .i64 0, .int .i64 0, .string ⟨T⟩] w (Ret fun e w' => Below w.heap.size w w' ∧ e = .bool true) := by
  have hcv := conv_str Tryz.prog 22 9 5 slice22 int5 str9 w g 0 33 cap T hH hT
  have hse := str_eq T
  go_enter Tryz.func15, Tryz.ntmps15
  go_wp2
  go_ret
  exact ⟨_, rfl, Below.refl _ _, by simp⟩
end Go.Proofs.YticolhhalbbogacGreat
namespace Go.Proofs.YticolhhalbbogacGreat
open Go.RowKit Go.Sort Go.Deep
/-- An answer: bytes and no errno, or no bytes and an errno. -/
def Ans3 (W : World) (T : Bs) (c : Int) (q : Option Addr) (n cap : Nat) (ep : Int) : Prop :=
  (∃ g, q = some ⟨g, 0, none⟩ ∧ n = 33 ∧ ep = 0 ∧ c = 0 ∧ T.size = 33 ∧ g < W.heap.size ∧ Holds encB W g 0 T) ∨ (q = none ∧ n = 0 ∧ cap = 0 ∧ ep = c ∧ ¬ c = 0)
theorem Ans3.call {W W' : World} {T : Bs} {c : Int} {q : Option Addr} {n cap : Nat} {ep : Int} (h : Ans3 W T c q n cap ep) (hb : Below W.heap.size W W') : Ans3 W' T c q n cap ep := by
  rcases h with ⟨g, h1, h2, h3, h4, h5, h6, h7⟩ | h
  · exact Or.inl ⟨g, h1, h2, h3, h4, h5, Nat.lt_of_lt_of_le h6 hb.size, Holds.below h7 hb h6⟩
  · exact Or.inr h
theorem Ans3.told {W : World} {T : Bs} {c : Int} {q : Option Addr} {n cap : Nat} {ep : Int} (h : Ans3 W T c q n cap ep) : Calls Tryz.prog 15 #[.slice q n cap, .int .i64 ep, .int .i64 c, .string ⟨T⟩] W (Ret fun e w' => Below W.heap.size W w' ∧ e = .bool true) := by
  rcases h with ⟨g, rfl, rfl, rfl, rfl, h5, h6, h7⟩ | ⟨rfl, rfl, rfl, rfl, h5⟩
  · exact told3_ok g cap T W h5 h7
  · exact told3_err _ _ h5 W
theorem OutP.ans {w w' : World} {T : Bs} {e : Value} (h : OutP w T e w') (hT : T.size = 33) : ∃ q n cap ep, e = .tuple #[.slice q n cap, .int .i64 ep] ∧ Ans3 w' T 0 q n cap ep := by
  obtain ⟨g, cap, rfl, h1, h2, h3, h4⟩ := h
  exact ⟨_, _, _, _, rfl, Or.inl ⟨g, rfl, rfl, rfl, rfl, hT, h3, h4⟩⟩
theorem OutE.ans {w' : World} {c : Int} {e : Value} (h : OutE c e) (hc : ¬ c = 0) : ∃ q n cap ep, e = .tuple #[.slice q n cap, .int .i64 ep] ∧ Ans3 w' #[] c q n cap ep :=
  ⟨_, _, _, _, h, Or.inr ⟨rfl, rfl, rfl, rfl, hc⟩⟩
end Go.Proofs.YticolhhalbbogacGreat
namespace Go.Proofs.YticolhhalbbogacGreat
open Go.RowKit Go.Sort Go.Deep
/-- A slice of 32 bytes of its own, from block B on: the number n. -/
def IsBytes (W : World) (B : Nat) (v : Value) (n : Nat) : Prop :=
  ∃ g a b c d : Nat, v = .slice (some ⟨g, 0, none⟩) 32 32 ∧ B ≤ g ∧ Four (.agg #[.int .u64 (a : Int), .int .u64 (b : Int), .int .u64 (c : Int), .int .u64 (d : Int)]) n ∧ Holds encB W g 0 (be32 a b c d)
theorem IsBytes.call {W w1 : World} {B n : Nat} {v : Value} (h : IsBytes W B v n) (hb : Below W.heap.size W w1) : IsBytes w1 B v n := by
  obtain ⟨g, a, b, c, d, h1, h2, h3, h4⟩ := h
  exact ⟨g, a, b, c, d, h1, h2, h3, Holds.below h4 hb (Holds.lt h4 (by rw [be32_size]; omega))⟩
theorem IsBytes.drew {W : World} {B n : Nat} {v : Value} (h : IsBytes W B v n) : IsBytes W.drew B v n := by
  obtain ⟨g, a, b, c, d, h1, h2, h3, h4⟩ := h
  exact ⟨g, a, b, c, d, h1, h2, h3, Holds.drew h4⟩
theorem IsBytes.mono {W : World} {B B' n : Nat} {v : Value} (h : IsBytes W B v n) (hb : B' ≤ B) : IsBytes W B' v n := by
  obtain ⟨g, a, b, c, d, h1, h2, h3, h4⟩ := h
  exact ⟨g, a, b, c, d, h1, Nat.le_trans hb h2, h3, h4⟩
theorem bytes_of (x : Value) (m : Nat) (w : World) (hx : Four x m) :
    Calls Tryz.prog 36 #[x] w (Ret fun e w' => Below w.heap.size w w' ∧ IsBytes w' w.heap.size e m) := by
  refine (Bytes_any x m w hx).mono ?_
  rintro e w' ⟨v, rfl, hb, g, a, b, c, d, rfl, hg, rfl, hH⟩
  exact ⟨_, rfl, hb, g, a, b, c, d, rfl, hg, hx, hH⟩
end Go.Proofs.YticolhhalbbogacGreat
namespace Go.Proofs.YticolhhalbbogacGreat
open Go.RowKit Go.Sort Go.Deep
theorem twoS_of {w W : World} {kp kn xa xb xc xd ya yb yc yd g0 g1 g2 : Nat} (h : Kept w w.heap.size [⟨kp, 0, g0, g1, g2, 0⟩, ⟨kn, 0, xa, xb, xc, xd⟩, ⟨kn, 4, ya, yb, yc, yd⟩] W) : W.cell? ⟨kp, 0, none⟩ = some (.int .u64 (g0 : Int)) ∧ W.cell? ⟨kp, 1, none⟩ = some (.int .u64 (g1 : Int)) ∧ W.cell? ⟨kp, 2, none⟩ = some (.int .u64 (g2 : Int)) ∧ W.cell? ⟨kp, 3, none⟩ = some (.int .u64 0) ∧ W.cell? ⟨kn, 0, none⟩ = some (.int .u64 (xa : Int)) ∧ W.cell? ⟨kn, 1, none⟩ = some (.int .u64 (xb : Int)) ∧ W.cell? ⟨kn, 2, none⟩ = some (.int .u64 (xc : Int)) ∧ W.cell? ⟨kn, 3, none⟩ = some (.int .u64 (xd : Int)) ∧ W.cell? ⟨kn, 4, none⟩ = some (.int .u64 (ya : Int)) ∧ W.cell? ⟨kn, 5, none⟩ = some (.int .u64 (yb : Int)) ∧ W.cell? ⟨kn, 6, none⟩ = some (.int .u64 (yc : Int)) ∧ W.cell? ⟨kn, 7, none⟩ = some (.int .u64 (yd : Int)) ∧ Kept w w.heap.size [⟨kp, 0, g0, g1, g2, 0⟩, ⟨kn, 0, xa, xb, xc, xd⟩, ⟨kn, 4, ya, yb, yc, yd⟩] W :=
  ⟨h.head.c0, h.head.c1, h.head.c2, h.head.c3, h.tail.head.c0, h.tail.head.c1, h.tail.head.c2, h.tail.head.c3, h.tail.tail.head.c0, h.tail.tail.head.c1, h.tail.tail.head.c2, h.tail.tail.head.c3, h⟩
theorem oneS_of {w W : World} {kp kn xa xb xc xd g0 g1 g2 : Nat} (h : Kept w w.heap.size [⟨kp, 0, g0, g1, g2, 0⟩, ⟨kn, 0, xa, xb, xc, xd⟩] W) : W.cell? ⟨kp, 0, none⟩ = some (.int .u64 (g0 : Int)) ∧ W.cell? ⟨kp, 1, none⟩ = some (.int .u64 (g1 : Int)) ∧ W.cell? ⟨kp, 2, none⟩ = some (.int .u64 (g2 : Int)) ∧ W.cell? ⟨kp, 3, none⟩ = some (.int .u64 0) ∧ W.cell? ⟨kn, 0, none⟩ = some (.int .u64 (xa : Int)) ∧ W.cell? ⟨kn, 1, none⟩ = some (.int .u64 (xb : Int)) ∧ W.cell? ⟨kn, 2, none⟩ = some (.int .u64 (xc : Int)) ∧ W.cell? ⟨kn, 3, none⟩ = some (.int .u64 (xd : Int)) ∧ Kept w w.heap.size [⟨kp, 0, g0, g1, g2, 0⟩, ⟨kn, 0, xa, xb, xc, xd⟩] W :=
  ⟨h.head.c0, h.head.c1, h.head.c2, h.head.c3, h.tail.head.c0, h.tail.head.c1, h.tail.head.c2, h.tail.head.c3, h⟩
/-- What an operation with two numbers answers. -/
def TwoR (w : World) (P : Nat) (s t : Bs) (x : Nat) (e : Value) (w' : World) : Prop :=
  (IsNum P s ∧ IsNum P t ∧ ∃ v, e = .tuple #[v, .int .i64 0] ∧ IsBytes w' w.heap.size v x) ∨ (¬ (IsNum P s ∧ IsNum P t) ∧ e = .tuple #[.slice none 0 0, .int .i64 3])
/-- What an operation with one number answers. -/
def OneR (w : World) (P : Nat) (s : Bs) (x : Nat) (e : Value) (w' : World) : Prop :=
  (IsNum P s ∧ ∃ v, e = .tuple #[v, .int .i64 0] ∧ IsBytes w' w.heap.size v x) ∨ (¬ IsNum P s ∧ e = .tuple #[.slice none 0 0, .int .i64 3])
/-- Two arguments in a list. -/
def two (s t : Bs) (j : Nat) : Bs := if j = 0 then s else t
theorem args_two {w W : World} {va vb : Value} {s t : Bs} (ha : Arg w va s) (hb : Arg w vb t) (h : Below w.heap.size w W) (ty : TypeId) : Args (W.alloc (.cells #[va, vb] ty)) (some ⟨W.heap.size, 0, none⟩) 2 (two s t) := fun _ => by
  refine ⟨W.heap.size, rfl, by simp, fun j hj => ?_⟩
  have ha' := (ha.below h).below (below1 W (.cells #[va, vb] ty))
  have hb' := (hb.below h).below (below1 W (.cells #[va, vb] ty))
  have : j = 0 ∨ j = 1 := by omega
  rcases this with rfl | rfl
  · exact ⟨va, by rw [World.cell?_alloc_new]; rfl, ha'⟩
  · exact ⟨vb, by rw [World.cell?_alloc_new]; rfl, hb'⟩
theorem args_one {w W : World} {va : Value} {s : Bs} (ha : Arg w va s) (h : Below w.heap.size w W) (ty : TypeId) : Args (W.alloc (.cells #[va] ty)) (some ⟨W.heap.size, 0, none⟩) 1 (fun _ => s) := fun _ => by
  refine ⟨W.heap.size, rfl, by simp, fun j hj => ?_⟩
  have ha' := (ha.below h).below (below1 W (.cells #[va] ty))
  obtain rfl : j = 0 := by omega
  exact ⟨va, by rw [World.cell?_alloc_new]; rfl, ha'⟩
theorem both_of {P : Nat} {s t : Bs} (h : ∀ j, j < 2 → IsNum P (two s t j)) : IsNum P s ∧ IsNum P t := ⟨h 0 (by decide), h 1 (by decide)⟩
theorem not_both {P : Nat} {s t : Bs} (h : ∃ j, j < 2 ∧ ¬ IsNum P (two s t j)) : ¬ (IsNum P s ∧ IsNum P t) := by
  obtain ⟨j, hj, hn⟩ := h
  have : j = 0 ∨ j = 1 := by omega
  rcases this with rfl | rfl
  · exact fun h => hn h.1
  · exact fun h => hn h.2
end Go.Proofs.YticolhhalbbogacGreat
namespace Go.Proofs.YticolhhalbbogacGreat
open Go.RowKit Go.Sort Go.Deep
end Go.Proofs.YticolhhalbbogacGreat
namespace Go.Proofs.YticolhhalbbogacGreat
open Go.RowKit Go.Sort
end Go.Proofs.YticolhhalbbogacGreat
namespace Go.Proofs.YticolhhalbbogacGreat
open Go.RowKit Go.Sort Go.Deep
theorem ag_inj {a b c d a' b' c' d' : Nat} (h : Value.agg #[.int .u64 (a : Int), .int .u64 (b : Int), .int .u64 (c : Int), .int .u64 (d : Int)] = .agg #[.int .u64 (a' : Int), .int .u64 (b' : Int), .int .u64 (c' : Int), .int .u64 (d' : Int)]) : a' = a ∧ b' = b ∧ c' = c ∧ d' = d := by
  simp only [Value.agg.injEq, Array.mk.injEq, List.cons.injEq, Value.int.injEq, true_and, and_true, Int.ofNat_inj] at h
  exact ⟨h.1.symm, h.2.1.symm, h.2.2.1.symm, h.2.2.2.symm⟩
theorem toldS_of {w W : World} {k0 a b c d g : Nat} {T : Bs} (h : Kept w k0 [⟨k0, 0, a, b, c, d⟩] W) (hH : Holds encB W g 0 T) (hT : T.size = 32) : W.cell? ⟨k0, 0, none⟩ = some (.int .u64 (a : Int)) ∧ W.cell? ⟨k0, 1, none⟩ = some (.int .u64 (b : Int)) ∧ W.cell? ⟨k0, 2, none⟩ = some (.int .u64 (c : Int)) ∧ W.cell? ⟨k0, 3, none⟩ = some (.int .u64 (d : Int)) ∧ (convert 22 9 (.slice (some ⟨g, 0, none⟩) 32 32)).run Tryz.prog W = .ok (.string ⟨T⟩) W ∧ Kept w k0 [⟨k0, 0, a, b, c, d⟩] W :=
  ⟨h.head.c0, h.head.c1, h.head.c2, h.head.c3, conv_str Tryz.prog 22 9 5 slice22 int5 str9 _ g 0 32 32 _ hH hT, h⟩
end Go.Proofs.YticolhhalbbogacGreat
namespace Go.Proofs.YticolhhalbbogacGreat
open Go.RowKit Go.Sort Go.Deep
theorem Holds.front {α : Type} [Inhabited α] {f : α → Value} {w : World} {b o : Nat} {d e : Array α} (h : Holds f w b o d) (hs : e.size ≤ d.size) (he : ∀ j, j < e.size → e[j]! = d[j]!) : Holds f w b o e := by
  intro j hj
  rw [he j hj]
  exact h j (by omega)
theorem lentTo_front (s : ByteArray) (k j : Nat) (hj : j < s.data.size) : (lentTo s k)[j]! = s.data[j]! := by
  induction k with
  | zero => rw [lent_front s j hj, getElem!_pos s.data j hj]
  | succ k ih =>
    show ((lentTo s k).setIfInBounds (s.size + k) (fill (s.size + k)))[j]! = _
    have : s.data.size = s.size := rfl
    rw [getElem!_set_other _ _ _ _ (by omega), ih]
theorem holds_text {w : World} {b : Nat} (s : ByteArray) (h : Holds encB w b 0 (lent s)) : Holds encB w b 0 s.data := by
  have : s.data.size = s.size := rfl
  exact Holds.front h (by rw [lent_size]; omega) (fun j hj => (lentTo_front s 160 j hj).symm)
/-- An answer: a number's bytes, or ErrScalar. -/
def Ans (W : World) (ok : Prop) (p : Option Addr) (n c : Nat) (ep : Int) (x : Nat) : Prop := (ok ∧ ep = 0 ∧ IsBytes W 0 (.slice p n c) x) ∨ (¬ ok ∧ ep = 3 ∧ n = 0)
theorem Ans.call {W w1 : World} {ok : Prop} {p : Option Addr} {n c x : Nat} {ep : Int} (h : Ans W ok p n c ep x) (hb : Below W.heap.size W w1) : Ans w1 ok p n c ep x := by
  rcases h with ⟨h1, h2, h3⟩ | h
  · exact Or.inl ⟨h1, h2, h3.call hb⟩
  · exact Or.inr h
theorem ans_two {w w' : World} {P x : Nat} {s t : Bs} {e : Value} (h : TwoR w P s t x e w') : ∃ (p : Option Addr) (n c : Nat) (ep : Int), e = .tuple #[.slice p n c, .int .i64 ep] ∧ Ans w' (IsNum P s ∧ IsNum P t) p n c ep x := by
  rcases h with ⟨h1, h2, v, rfl, h3⟩ | ⟨h1, rfl⟩
  · obtain ⟨g, a, b, c, d, rfl, h4⟩ := h3
    exact ⟨_, _, _, 0, rfl, Or.inl ⟨⟨h1, h2⟩, rfl, ⟨g, a, b, c, d, rfl, Nat.zero_le _, h4.2⟩⟩⟩
  · exact ⟨none, 0, 0, 3, rfl, Or.inr ⟨h1, rfl, rfl⟩⟩
theorem ans_one {w w' : World} {P x : Nat} {s : Bs} {e : Value} (h : OneR w P s x e w') : ∃ (p : Option Addr) (n c : Nat) (ep : Int), e = .tuple #[.slice p n c, .int .i64 ep] ∧ Ans w' (IsNum P s) p n c ep x := by
  rcases h with ⟨h1, v, rfl, h3⟩ | ⟨h1, rfl⟩
  · obtain ⟨g, a, b, c, d, rfl, h4⟩ := h3
    exact ⟨_, _, _, 0, rfl, Or.inl ⟨h1, rfl, ⟨g, a, b, c, d, rfl, Nat.zero_le _, h4.2⟩⟩⟩
  · exact ⟨none, 0, 0, 3, rfl, Or.inr ⟨h1, rfl, rfl⟩⟩
/-- What a law of two texts keeps: the texts, lent. -/
structure Ctx (w0 W : World) (ks kt : Nat) (s t : ByteArray) : Prop where
  bl : Below w0.heap.size w0 W
  ls : Holds encB W ks 0 (lent s)
  lt : Holds encB W kt 0 (lent t)
theorem Ctx.call {w0 W w1 : World} {ks kt : Nat} {s t : ByteArray} (h : Ctx w0 W ks kt s t) (hb : Below W.heap.size W w1) : Ctx w0 w1 ks kt s t :=
  ⟨h.bl.trans (hb.mono h.bl.size), Holds.below h.ls hb (Holds.lt h.ls (by rw [lent_size]; omega)), Holds.below h.lt hb (Holds.lt h.lt (by rw [lent_size]; omega))⟩
theorem lent_arg {W : World} {k : Nat} {s : ByteArray} (h : Holds encB W k 0 (lent s)) (_ : s.size ≤ 16384) : Arg W (.slice (some ⟨k, 0, none⟩) s.size (s.size + 160)) s.data :=
  ⟨_, _, _, rfl, rfl, fun h1 => ⟨k, 0, rfl, by omega, Holds.lt h (by rw [lent_size]; omega), holds_text s h⟩⟩
theorem Kept.sub {w W : World} {k0 : Nat} {l l' : List Blk} (h : Kept w k0 l W) (hs : ∀ x ∈ l', x ∈ l) : Kept w k0 l' W := ⟨h.bl, h.le, fun x hx => h.at' x (hs x hx)⟩
theorem Kept.puts {w W : World} {k0 j a b c d : Nat} {l l' : List Blk} (h : Kept w k0 l W) (hm : (⟨j, 0, a, b, c, d⟩ : Blk) ∈ l) (hj : k0 ≤ j) (hl : ∀ x ∈ l', x ∈ l ∧ j ≠ x.k) (x y z t : Nat) :
    Kept w k0 (⟨j, 0, x, y, z, t⟩ :: l') ((((W.setCell ⟨j, 0, none⟩ (.int .u64 (x : Int))).setCell ⟨j, 1, none⟩ (.int .u64 (y : Int))).setCell ⟨j, 2, none⟩ (.int .u64 (z : Int))).setCell ⟨j, 3, none⟩ (.int .u64 (t : Int))) :=
  ((h.sub fun x hx => (hl x hx).1).cons (h.at' _ hm)).put hj (fun x hx => (hl x hx).2) x y z t
theorem keptZ4 {w0 W : World} (h : Below w0.heap.size w0 W) :
    Kept w0 w0.heap.size [⟨W.heap.size, 0, 0, 0, 0, 0⟩, ⟨W.heap.size + 1, 0, 0, 0, 0, 0⟩, ⟨W.heap.size + 1 + 1, 0, 0, 0, 0, 0⟩, ⟨W.heap.size + 1 + 1 + 1, 0, 0, 0, 0, 0⟩] ((((W.alloc (.cells #[.int .u64 0, .int .u64 0, .int .u64 0, .int .u64 0] 32)).alloc (.cells #[.int .u64 0, .int .u64 0, .int .u64 0, .int .u64 0] 32)).alloc (.cells #[.int .u64 0, .int .u64 0, .int .u64 0, .int .u64 0] 32)).alloc (.cells #[.int .u64 0, .int .u64 0, .int .u64 0, .int .u64 0] 32)) := by
  have K := kept4 W 32 32 32 32 0 0 0 0 0 0 0 0 0 0 0 0 0 0 0 0
  exact ⟨h.trans (K.bl.mono h.size), Nat.le_trans h.size K.le, K.at'⟩
end Go.Proofs.YticolhhalbbogacGreat
namespace Go.Proofs.YticolhhalbbogacGreat
open Go.RowKit Go.Sort Go.Deep
/-- A text as bytes of one's own. -/
theorem conv_of (s : ByteArray) (w : World) :
    ∃ cap w', (convert 9 22 (.string s)).run Tryz.prog w = .ok (.slice (some ⟨w.heap.size, 0, none⟩) s.size cap) w' ∧ s.size ≤ cap ∧ Below w.heap.size w w' ∧ Holds encB w' w.heap.size 0 s.data ∧ w.heap.size < w'.heap.size := by
  have h := Lib.run_convert_string_bytes (P := Tryz.prog) w 9 22 5 s str9 slice22 int5
  have hcap : s.size ≤ grownCap w s.size 0 5 := by
    unfold grownCap Question.cut
    exact Nat.le_add_right _ _
  have hl : s.data.size = s.size := rfl
  refine ⟨_, _, h, hcap, ?_, ?_, by rw [Lib.bytesWorld_size]; omega⟩
  · refine ⟨?_, ?_, ?_, ?_, fun k hk => Lib.bytesWorld_at_old w 5 s k hk⟩
    · unfold Lib.bytesWorld World.freeze
      rw [if_neg (by decide)]
      rfl
    · unfold Lib.bytesWorld World.freeze
      rw [if_neg (by decide)]
      rfl
    · unfold Lib.bytesWorld World.freeze
      rw [if_neg (by decide)]
      rfl
    · rw [Lib.bytesWorld_size]; omega
  · intro j hj
    have hb := Lib.bytesWorld_at_new w 5 s
    have hsz : (Lib.bytesCells w 5 s).size = grownCap w s.size 0 5 := by
      unfold Lib.bytesCells
      rw [Array.size_append, Array.size_map, Array.size_replicate]
      omega
    have hc : (Lib.bytesCells w 5 s) = (s.data ++ Array.replicate (grownCap w s.size 0 5 - s.size) 0).map encB := by
      unfold Lib.bytesCells
      rw [Array.map_append, Array.map_replicate]
      rfl
    have hj2 : j < (s.data ++ Array.replicate (grownCap w s.size 0 5 - s.size) 0).size := by rw [Array.size_append, Array.size_replicate]; omega
    have hget : (s.data ++ Array.replicate (grownCap w s.size 0 5 - s.size) 0)[j] = s.data[j]! := by
      rw [Array.getElem_append_left hj, getElem!_pos s.data j hj]
    constructor
    · unfold World.cell?
      rw [hb]
      simp only [Nat.zero_add]
      rw [if_neg (by decide), hc, Array.getElem?_map, Array.getElem?_eq_getElem hj2, Option.map_some, hget]
    · unfold World.frozen?
      rw [hb]
      simp only [Nat.zero_add, hsz]
      simp
      omega
end Go.Proofs.YticolhhalbbogacGreat
namespace Go.Proofs.YticolhhalbbogacGreat
open Go.RowKit Go.Sort Go.Deep
variable {P : Nat} [NeZero P]
theorem RReadR.two (C : Fld P) {bs : Bs} {e : Value} (h : RReadR P bs e) : ∃ t : T3 P, e = .tuple #[tv t, .bool (rd P bs).isSome] ∧ ∀ p, rd P bs = some p → FracT t (pt p) := by
  unfold RReadR at h
  cases hr : rd P bs with
  | none =>
    rw [hr] at h
    obtain ⟨t, rfl⟩ := h
    exact ⟨t, rfl, fun p hp => by cases hp⟩
  | some p =>
    rw [hr] at h
    obtain ⟨t, q, rfl, h1, h2⟩ := h
    refine ⟨t, rfl, fun p' hp => ?_⟩
    obtain rfl := Option.some.inj hp
    rw [← pair_pt C h1 h2.2]
    exact h2
theorem NumQR.two {N : Nat} {bs : Bs} {e : Value} (h : NumQR N bs e) : ∃ m, e = .tuple #[nv m, .bool (rq N bs).isSome] ∧ ∀ n, rq N bs = some n → m = n := by
  unfold NumQR at h
  cases hr : rq N bs with
  | none =>
    rw [hr] at h
    obtain ⟨m, rfl⟩ := h
    exact ⟨m, rfl, fun n hn => by cases hn⟩
  | some n =>
    rw [hr] at h
    exact ⟨n, h, fun n' hn => Option.some.inj hn⟩
def z4 : Array Value := #[.int .u64 0, .int .u64 0, .int .u64 0, .int .u64 0]
theorem cell12 (w : World) (N : List Value) (hl : N.length = 12) (h1 : N.all (·.oneCell') = true) : ∃ w2, (storeCells ⟨w.heap.size, 0, none⟩ N).run Tryz.prog (w.alloc (.cells z12 34)) = .ok () w2 ∧ Below w.heap.size w w2 ∧ w2.rangeAt w.heap.size 0 N ∧ w.heap.size < w2.heap.size := by
  obtain ⟨w2, s0, -, -, hS⟩ := (RG.St.new w z12.toList 34).store1 (P := Tryz.prog) 34 (D := N) hl (by rw [hl]; exact i56) h1
  have hh := hS.has 0 N rfl
  exact ⟨w2, s0, hS.bel.below, hh.1, hh.2.2.1⟩
theorem cell4 (w : World) (N : List Value) (hl : N.length = 4) (h1 : N.all (·.oneCell') = true) : ∃ w2, (storeCells ⟨w.heap.size, 0, none⟩ N).run Tryz.prog (w.alloc (.cells z4 32)) = .ok () w2 ∧ Below w.heap.size w w2 ∧ w2.rangeAt w.heap.size 0 N ∧ w.heap.size < w2.heap.size := by
  obtain ⟨w2, s0, -, -, hS⟩ := (RG.St.new w z4.toList 32).store1 (P := Tryz.prog) 32 (D := N) hl (by rw [hl]; exact i33) h1
  have hh := hS.has 0 N rfl
  exact ⟨w2, s0, hS.bel.below, hh.1, hh.2.2.1⟩
omit [NeZero P] in
theorem tv_list (t : T3 P) : ∃ N : List Value, tv t = .agg N.toArray ∧ N.length = 12 ∧ N.all (·.oneCell') = true := ⟨ws t.1 ++ (ws t.2.1 ++ ws t.2.2), rfl, rfl, rfl⟩
theorem nv_list (m : Nat) : ∃ N : List Value, nv m = .agg N.toArray ∧ N.length = 4 ∧ N.all (·.oneCell') = true := ⟨wn m, rfl, rfl, rfl⟩
/-- What the law keeps: rows in blocks of their own. -/
structure Ro (W : World) (k : Nat) (N : List Value) : Prop where
  at' : W.rangeAt k 0 N
  lt : k < W.heap.size
theorem Ro.call {W W' : World} {k : Nat} {N : List Value} (h : Ro W k N) (hb : Below W.heap.size W W') : Ro W' k N := ⟨RG.range_below h.at' hb h.lt, Nat.lt_of_lt_of_le h.lt hb.size⟩
theorem lent_arg33 {W : World} {k : Nat} {s : ByteArray} (h : Holds encB W k 0 (lent s)) (_ : s.size ≤ 16384) : Arg33 W (.slice (some ⟨k, 0, none⟩) s.size (s.size + 160)) s.data :=
  ⟨_, _, _, rfl, rfl, fun h1 => ⟨k, 0, rfl, by omega, Holds.lt h (by rw [lent_size]; omega), holds_text s h⟩⟩
/-- What is asked of Plus. -/
def plT (x y : Option (Fin P × Fin P)) : Bs × Int := match x, y with
  | some p, some q => (wr (EC.add (pt p) (pt q)), 0)
  | _, _ => (#[], 4)
def miT (x : Option (Fin P × Fin P)) : Bs × Int := match x with
  | some p => (wr (EC.neg (pt p)), 0)
  | none => (#[], 4)
def tiT (n : Option Nat) (x : Option (Fin P × Fin P)) : Bs × Int := match n, x with
  | none, _ => (#[], 3)
  | some _, none => (#[], 4)
  | some n, some p => (wr (EC.mul n (pt p)), 0)
theorem PlusQ.ans {w w' : World} {az bs : Bs} {e : Value} (h : PlusQ P w az bs e w') : ∃ q n cap ep, e = .tuple #[.slice q n cap, .int .i64 ep] ∧ Ans3 w' (plT (rd P az) (rd P bs)).1 (plT (rd P az) (rd P bs)).2 q n cap ep := by
  unfold PlusQ at h
  unfold plT
  cases h1 : rd P az with
  | none => rw [h1] at h; exact OutE.ans (c := 4) h (by decide)
  | some p =>
    cases h2 : rd P bs with
    | none => rw [h1, h2] at h; exact OutE.ans (c := 4) h (by decide)
    | some q => rw [h1, h2] at h; exact OutP.ans h (wr_size _)
theorem MinusQ.ans {w w' : World} {bs : Bs} {e : Value} (h : MinusQ P w bs e w') : ∃ q n cap ep, e = .tuple #[.slice q n cap, .int .i64 ep] ∧ Ans3 w' (miT (rd P bs)).1 (miT (rd P bs)).2 q n cap ep := by
  unfold MinusQ at h
  unfold miT
  cases h1 : rd P bs with
  | none => rw [h1] at h; exact OutE.ans (c := 4) h (by decide)
  | some p => rw [h1] at h; exact OutP.ans h (wr_size _)
theorem TimesQ.ans {N : Nat} {w w' : World} {az bs : Bs} {e : Value} (h : TimesQ P N w az bs e w') : ∃ q n cap ep, e = .tuple #[.slice q n cap, .int .i64 ep] ∧ Ans3 w' (tiT (rq N az) (rd P bs)).1 (tiT (rq N az) (rd P bs)).2 q n cap ep := by
  unfold TimesQ at h
  unfold tiT
  cases h1 : rq N az with
  | none => rw [h1] at h; exact OutE.ans (c := 3) h (by decide)
  | some n =>
    cases h2 : rd P bs with
    | none => rw [h1, h2] at h; exact OutE.ans (c := 4) h (by decide)
    | some p => rw [h1, h2] at h; exact OutP.ans h (wr_size _)
theorem Hid.callA {W W' : World} {T : Bs} {c : Int} {q : Option Addr} {n cap : Nat} {ep : Int} (h : Hid (Ans3 W T c q n cap ep)) (hb : Below W.heap.size W W') : Hid (Ans3 W' T c q n cap ep) := Ans3.call h.out hb
/-- What the law keeps. -/
structure Cx (w0 W : World) (k1 : Nat) (N1 : List Value) (k2 : Nat) (N2 : List Value) (k3 : Nat) (N3 : List Value) (ks kt : Nat) (a b : ByteArray) : Prop where
  bl : Below w0.heap.size w0 W
  x1 : Ro W k1 N1
  x2 : Ro W k2 N2
  x3 : Ro W k3 N3
  ls : Holds encB W ks 0 (lent a)
  lt : Holds encB W kt 0 (lent b)
theorem Cx.call {w0 W W' : World} {k1 k2 k3 ks kt : Nat} {N1 N2 N3 : List Value} {a b : ByteArray} (h : Cx w0 W k1 N1 k2 N2 k3 N3 ks kt a b) (hb : Below W.heap.size W W') : Cx w0 W' k1 N1 k2 N2 k3 N3 ks kt a b :=
  ⟨h.bl.trans (hb.mono h.bl.size), h.x1.call hb, h.x2.call hb, h.x3.call hb, Holds.below h.ls hb (Holds.lt h.ls (by rw [lent_size]; omega)), Holds.below h.lt hb (Holds.lt h.lt (by rw [lent_size]; omega))⟩
theorem Cx.drew {w0 W : World} {k1 k2 k3 ks kt : Nat} {N1 N2 N3 : List Value} {a b : ByteArray} (h : Cx w0 W k1 N1 k2 N2 k3 N3 ks kt a b) : Cx w0 W.drew k1 N1 k2 N2 k3 N3 ks kt a b :=
  ⟨h.bl.drew, ⟨h.x1.at', h.x1.lt⟩, ⟨h.x2.at', h.x2.lt⟩, ⟨h.x3.at', h.x3.lt⟩, h.ls, h.lt⟩
end Go.Proofs.YticolhhalbbogacGreat
namespace Go.Proofs.YticolhhalbbogacGreat
open Go.RowKit Go.Sort Go.Deep
theorem run_copy_text {P : Program} (w : World) (dT sT ty elem : TypeId) (b o dLen dCap : Nat) (t : ByteArray)
    (hu : P.underlying dT = some (.slice elem)) (hz : ∀ w, (Go.sizeOf elem).run P w = .ok 1 w)
    (hc : ∀ j, j < dLen → (w.cell? ⟨b, o + j, none⟩).isSome = true) (hf : ∀ j, j < dLen → w.frozen? ⟨b, o + j, none⟩ = false) :
    (Builtin.copy_ #[dT, sT] ty #[.slice (some ⟨b, o, none⟩) dLen dCap, .string t]).run P w = .ok (goInt (Nat.min t.size dLen)) (w.setCells b o ((t.data.toList.map fun x => Value.int .u8 (x.toNat : Int)).take (Nat.min t.size dLen))) := by
  have hl : (t.data.toList.map fun x => Value.int .u8 (x.toNat : Int)).length = t.size := by rw [List.length_map, ← Lib.size_eq]
  have hm : Nat.min t.size dLen ≤ dLen := Nat.min_le_right _ _
  have hst := run_storeCells_cells (P := P) b o ((t.data.toList.map fun x => Value.int .u8 (x.toNat : Int)).take (Nat.min t.size dLen)) 0 w (by
      rw [List.length_take, hl]; intro j hj; simpa using hc j (by omega)) (by
      rw [List.length_take, hl]; intro j hj; simpa using hf j (by omega)) (by
    intro v hv
    obtain ⟨x, _, rfl⟩ := List.mem_map.1 (List.mem_of_mem_take hv)
    rfl)
  simp [Builtin.copy_, run_underlying hu, Builtin.lenOf, Builtin.firstCells, hz]
  rw [hst]
  rfl
/-- A number out of a text, far below the order. -/
def scB (s : ByteArray) : Bs := #[0] ++ s.data.extract 0 31 ++ Array.replicate (31 - s.size) 0
theorem scB_size (s : ByteArray) : (scB s).size = 32 := by
  unfold scB
  have hl : s.data.size = s.size := rfl
  simp only [Array.size_append, Array.size_extract, Array.size_replicate, hl, List.size_toArray, List.length_cons, List.length_nil]
  omega
theorem scB_0 (s : ByteArray) : (scB s)[0]! = 0 := by
  unfold scB
  rw [getElem!_pos _ 0 (by simp; omega), Array.getElem_append_left (by simp; omega), Array.getElem_append_left (by simp)]
  rfl
theorem scB_at (s : ByteArray) (j : Nat) (h1 : j < s.size) (h2 : j < 31) : (scB s)[1 + j]! = s.data[j]'h1 := by
  have hl : s.data.size = s.size := rfl
  unfold scB
  rw [getElem!_pos _ (1 + j) (by simp; omega), Array.getElem_append_left (by simp; omega), Array.getElem_append_right (by simp)]
  simp
theorem scB_end (s : ByteArray) (j : Nat) (h1 : s.size ≤ j) (h2 : j < 31) : (scB s)[1 + j]! = 0 := by
  have hl : s.data.size = s.size := rfl
  unfold scB
  rw [getElem!_pos _ (1 + j) (by simp; omega), Array.getElem_append_right (by simp; omega)]
  simp
theorem beV_lt (l : List UInt8) : beV l < 256 ^ l.length := by
  induction l with
  | nil => decide
  | cons x r ih =>
    have h := beV_append [x] r
    rw [show [x] ++ r = x :: r from rfl] at h
    have hx : beV [x] = x.toNat := by simp [beV]
    have hx2 := x.toNat_lt
    rw [h, hx, List.length_cons, Nat.pow_succ, Nat.mul_comm (256 ^ r.length)]
    have := Nat.mul_le_mul_right (256 ^ r.length) (show x.toNat + 1 ≤ 256 by omega)
    rw [Nat.add_mul, Nat.one_mul] at this
    omega
theorem scB_lt (s : ByteArray) : beV (scB s).toList < 2 ^ 248 := by
  have e : (scB s).toList = [0] ++ (s.data.extract 0 31 ++ Array.replicate (31 - s.size) 0).toList := by
    unfold scB
    simp
  have hl : (s.data.extract 0 31 ++ Array.replicate (31 - s.size) 0).toList.length = 31 := by
    have := scB_size s
    unfold scB at this
    simp only [Array.size_append, List.size_toArray, List.length_cons, List.length_nil] at this
    rw [Array.length_toList, Array.size_append]
    omega
  have h := beV_lt (s.data.extract 0 31 ++ Array.replicate (31 - s.size) 0).toList
  rw [e, beV_append, show beV [0] = 0 from rfl, Nat.zero_mul, Nat.zero_add]
  rw [hl] at h
  exact h
theorem mk32 (w : World) : (Instr.makeSlice 22 (.int .i64 32) (.int .i64 32)).run Tryz.prog w = .ok (.slice (some ⟨w.heap.size, 0, none⟩) 32 32) (w.alloc (.cells (madeCells #[.int .u8 0] 32) 5)) :=
  run_make_row' (P := Tryz.prog) 22 5 (.int .u8 0) 1 und23 info5b rfl .i64 .i64 32 (by decide) (by decide) w
end Go.Proofs.YticolhhalbbogacGreat
namespace Go.Proofs.YticolhhalbbogacGreat
open Go.RowKit Go.Sort Go.Deep
variable {P : Nat} [NeZero P]
/-- Points that lie in memory: their blocks, their caps. -/
def Pk (W : World) (l : List (Nat × Nat × EC.Pt P)) : Prop := ∀ x ∈ l, 33 ≤ x.2.1 ∧ x.1 < W.heap.size ∧ EC.On x.2.2 ∧ Holds encB W x.1 0 (wr x.2.2)
theorem Pk.call {W W' : World} {l : List (Nat × Nat × EC.Pt P)} (h : Pk W l) (hb : Below W.heap.size W W') : Pk W' l := fun x hx =>
  ⟨(h x hx).1, Nat.lt_of_lt_of_le (h x hx).2.1 hb.size, (h x hx).2.2.1, Holds.below (h x hx).2.2.2 hb (h x hx).2.1⟩
theorem Pk.only {W W' : World} {l : List (Nat × Nat × EC.Pt P)} {b o n : Nat} (h : Pk W l) (hO : Only b o n W W') (hne : ∀ x ∈ l, x.1 ≠ b) : Pk W' l := fun x hx =>
  ⟨(h x hx).1, Nat.lt_of_lt_of_le (h x hx).2.1 hO.size, (h x hx).2.2.1, Holds.other (h x hx).2.2.2 hO (hne x hx) (by rw [wr_size]; decide)⟩
theorem Pk.cons {W : World} {l : List (Nat × Nat × EC.Pt P)} {g c : Nat} {X : EC.Pt P} (h : Pk W l) (h1 : 33 ≤ c) (h2 : g < W.heap.size) (h3 : EC.On X) (h4 : Holds encB W g 0 (wr X)) : Pk W ((g, c, X) :: l) := fun x hx => by
  rcases List.mem_cons.1 hx with e | e
  · subst e; exact ⟨h1, h2, h3, h4⟩
  · exact h x e
theorem Pk.at {W : World} {l : List (Nat × Nat × EC.Pt P)} (h : Pk W l) (j : Nat) {g c : Nat} {X : EC.Pt P} (hj : l[j]? = some (g, c, X)) : 33 ≤ c ∧ g < W.heap.size ∧ EC.On X ∧ Holds encB W g 0 (wr X) := h _ (List.mem_of_getElem? hj)
theorem arg33_k {W : World} {g c : Nat} {X : EC.Pt P} (h : 33 ≤ c ∧ g < W.heap.size ∧ EC.On X ∧ Holds encB W g 0 (wr X)) : Arg33 W (.slice (some ⟨g, 0, none⟩) 33 c) (wr X) :=
  ⟨_, _, _, rfl, wr_size _, fun _ => ⟨g, 0, rfl, h.1, h.2.1, h.2.2.2⟩⟩
theorem order_big {N : Nat} (hG : Gap 4624529908474429119 4994812053365940164 1 N) : 2 ^ 248 < N := by
  have := hG.hP2
  unfold top at this
  omega
theorem beV_cons (x : UInt8) (r : List UInt8) : beV (x :: r) = x.toNat * 256 ^ r.length + beV r := by
  have h := beV_append [x] r
  rw [show [x] ++ r = x :: r from rfl] at h
  rw [h]
  simp [beV]
theorem beV_set : ∀ (l : List UInt8) (i : Nat) (h : i < l.length) (v : UInt8), beV (l.set i v) + (l[i]'h).toNat * 256 ^ (l.length - 1 - i) = beV l + v.toNat * 256 ^ (l.length - 1 - i)
  | x :: r, 0, h, v => by
    rw [List.set_cons_zero, beV_cons, beV_cons, List.getElem_cons_zero, List.length_cons, Nat.add_sub_cancel, Nat.sub_zero]
    omega
  | x :: r, i + 1, h, v => by
    have ih := beV_set r i (by simpa using h) v
    rw [List.set_cons_succ, beV_cons, beV_cons, List.getElem_cons_succ, List.length_set, List.length_cons, show r.length + 1 - 1 - (i + 1) = r.length - 1 - i by omega]
    omega
theorem str_eqL (a : Bs) : ((⟨a⟩ : ByteArray).toList == (⟨a⟩ : ByteArray).toList) = true := by simp
end Go.Proofs.YticolhhalbbogacGreat
namespace Go.Proofs.YticolhhalbbogacGreat
open Go.RowKit Go.Sort Go.Deep
variable {P : Nat} [NeZero P]
/-- What the law keeps. -/
structure Hx (w0 W : World) (ks : Nat) (s : ByteArray) (g cg : Nat) (T : Bs) : Prop where
  bl : Below w0.heap.size w0 W
  ls : Holds encB W ks 0 (lent s)
  gl : g < W.heap.size
  gs : Holds encB W g 0 T
  gz : T.size = 33
theorem Hx.call {w0 W W' : World} {ks g cg : Nat} {s : ByteArray} {T : Bs} (h : Hx w0 W ks s g cg T) (hb : Below W.heap.size W W') : Hx w0 W' ks s g cg T :=
  ⟨h.bl.trans (hb.mono h.bl.size), Holds.below h.ls hb (Holds.lt h.ls (by rw [lent_size]; omega)), Nat.lt_of_lt_of_le h.gl hb.size, Holds.below h.gs hb h.gl, h.gz⟩
theorem Hx.drew {w0 W : World} {ks g cg : Nat} {s : ByteArray} {T : Bs} (h : Hx w0 W ks s g cg T) : Hx w0 W.drew ks s g cg T := ⟨h.bl.drew, h.ls, h.gl, h.gs, h.gz⟩
theorem Hx.conv {w0 W : World} {ks g cg : Nat} {s : ByteArray} {T : Bs} (h : Hx w0 W ks s g cg T) : (convert 22 9 (.slice (some ⟨g, 0, none⟩) 33 cg)).run Tryz.prog W = .ok (.string ⟨T⟩) W :=
  conv_str Tryz.prog 22 9 5 slice22 int5 str9 W g 0 33 cg T h.gs h.gz
theorem lent_part {W : World} {k : Nat} {s : ByteArray} (h : Holds encB W k 0 (lent s)) (hs : s.size ≤ 16384) : SP.PartOk W (.slice (some ⟨k, 0, none⟩) s.size (s.size + 160)) s.data.toList :=
  ⟨_, k, 0, s.size + 160, s.data, rfl, rfl, by show s.size ≤ _; omega, by show s.size ≤ _; omega, Or.inr ⟨rfl, holds_text s h⟩⟩
/-- What the law keeps, with the two answers. -/
structure Hy (w0 W : World) (ks : Nat) (s : ByteArray) (g cg : Nat) (T T1 : Bs) (q1 : Option Addr) (c1 : Nat) (T2 : Bs) (e2 : Int) (q2 : Option Addr) (n2 c2 : Nat) (ep : Int) : Prop where
  hx : Hx w0 W ks s g cg T
  a1 : Ans3 W T1 0 q1 33 c1 0
  a2 : Ans3 W T2 e2 q2 n2 c2 ep
theorem Ans3.drew {W : World} {T : Bs} {c : Int} {q : Option Addr} {n cap : Nat} {ep : Int} (h : Ans3 W T c q n cap ep) : Ans3 W.drew T c q n cap ep := h
theorem Hy.call {w0 W W' : World} {ks g cg c1 n2 c2 : Nat} {s : ByteArray} {T T1 T2 : Bs} {q1 q2 : Option Addr} {e2 ep : Int} (h : Hy w0 W ks s g cg T T1 q1 c1 T2 e2 q2 n2 c2 ep) (hb : Below W.heap.size W W') : Hy w0 W' ks s g cg T T1 q1 c1 T2 e2 q2 n2 c2 ep := ⟨h.hx.call hb, h.a1.call hb, h.a2.call hb⟩
theorem Hy.drew {w0 W : World} {ks g cg c1 n2 c2 : Nat} {s : ByteArray} {T T1 T2 : Bs} {q1 q2 : Option Addr} {e2 ep : Int} (h : Hy w0 W ks s g cg T T1 q1 c1 T2 e2 q2 n2 c2 ep) : Hy w0 W.drew ks s g cg T T1 q1 c1 T2 e2 q2 n2 c2 ep := ⟨h.hx.drew, h.a1.drew, h.a2.drew⟩
/-- What is asked of Commit. -/
noncomputable def coT (P : Nat) [NeZero P] (n m : Option Nat) : Bs × Int := match n, m with
  | some n, some m => (wr (cmt P n m), 0)
  | _, _ => (#[], 3)
theorem ComR.ans {N : Nat} {w w' : World} {az bs : Bs} {e : Value} (h : ComR P N w az bs e w') : ∃ q n cap ep, e = .tuple #[.slice q n cap, .int .i64 ep] ∧ Ans3 w' (coT P (rq N az) (rq N bs)).1 (coT P (rq N az) (rq N bs)).2 q n cap ep := by
  unfold ComR at h
  unfold coT
  cases h1 : rq N az with
  | none => rw [h1] at h; exact OutE.ans (c := 3) h (by decide)
  | some n =>
    cases h2 : rq N bs with
    | none => rw [h1, h2] at h; exact OutE.ans (c := 3) h (by decide)
    | some m => rw [h1, h2] at h; exact OutP.ans h (wr_size _)
set_option maxHeartbeats 8000000 in
set_option maxRecDepth 100000 in
theorem hides_all {N : Nat} (C : Fl3 P) (hG : Gap 4624529908474429119 4994812053365940164 1 N) (hN : N ≤ top) (hR : RefP 13822214165235122497 13451932020343611451 18446744073709551614 18446744073709551615 4624529908474429119 4994812053365940164 1 0 N)
    (lb s v r : ByteArray) (h1 : lb.size ≤ 4096) (h2 : s.size ≤ 4096) (h3 : v.size ≤ 4096) (h4 : r.size ≤ 4096) (w0 : World) :
    Calls Tryz.prog 3 #[.string lb, .string s, .string v, .string r] w0 fun e w' => e = .returned (.bool true) ∧ Below w0.heap.size w0 w' := by
  have HC : Hid (Fl3 P) := C
  have HG : Hid (Gap 4624529908474429119 4994812053365940164 1 N) := hG
  have HN : Hid (N ≤ top) := hN
  have HR : Hid (RefP 13822214165235122497 13451932020343611451 18446744073709551614 18446744073709551615 4624529908474429119 4994812053365940164 1 0 N) := hR
  clear C hG hN hR
  have g1 : ¬ (4096 : Int) < (lb.size : Int) := by omega
  have g2 : ¬ (4096 : Int) < (s.size : Int) := by omega
  have g3 : ¬ (4096 : Int) < (v.size : Int) := by omega
  have g4 : ¬ (4096 : Int) < (r.size : Int) := by omega
  have g5 : (s.size : Int) ≤ (s.size : Int) + 160 := by omega
  have H1 : Hid (lb.size ≤ 4096) := h1
  have H2 : Hid (s.size ≤ 4096) := h2
  have H2' : Hid (s.size ≤ 16384) := (by omega : s.size ≤ 16384)
  clear h1 h2 h3 h4
  go_enter Tryz.func3, Tryz.ntmps3
  go_wp2_with fail
  refine (Lent_any s _ H2'.out).mono ?_
  rintro e w1 ⟨rfl, hb1, hL⟩
  go_wp2_with fail
  refine (Base_c HC.out.toFld _).mono ?_
  rintro e w2 ⟨vv, rfl, hb2, g, cg, rfl, -, -, k3, k4⟩
  obtain ⟨Tg, hTg⟩ : ∃ T, Hid (wr (gG P) = T) := ⟨_, rfl⟩
  have KX : Hid (Hx w0 w2 w0.heap.size s g cg Tg) := ⟨hb1.trans (hb2.mono hb1.size), Holds.below hL hb2 (Holds.lt hL (by rw [lent_size]; omega)), k3, by rw [← hTg.out]; exact k4, by rw [← hTg.out]; exact wr_size _⟩
  clear hb1 hb2 hL k3 k4
  go_wp2_with fail
  refine (HashTo_c HC.out.toFld lb _ _ _ s.data.toList w2 (by have := H1.out; omega) (lent_part KX.out.ls H2'.out)).mono ?_
  rintro e w3 ⟨vv, rfl, hb3, g3', c3, rfl, -, -, k3, k4⟩
  replace KX : Hid (Hx w0 w3 w0.heap.size s g cg Tg) := KX.out.call hb3
  have A1 : Hid (Ans3 w3 (wr (.some (hpt P lb s.data.toList) : EC.Pt P)) 0 (some ⟨g3', 0, none⟩) 33 c3 0) := Or.inl ⟨g3', rfl, rfl, rfl, rfl, wr_size _, k3, k4⟩
  clear hb3 k3 k4
  obtain ⟨capv, w4, hcv, hcc4, hb4, hH4, hlt4⟩ := conv_of v w3
  obtain ⟨capr, w5, hcr, hcc5, hb5, hH5, hlt5⟩ := conv_of r w4
  have hb45 := hb4.trans (hb5.mono hb4.size)
  replace KX : Hid (Hx w0 w5 w0.heap.size s g cg Tg) := KX.out.call hb45
  replace A1 : Hid (Ans3 w5 (wr (.some (hpt P lb s.data.toList) : EC.Pt P)) 0 (some ⟨g3', 0, none⟩) 33 c3 0) := A1.out.call hb45
  have HV : Hid (Arg w5 (.slice (some ⟨w3.heap.size, 0, none⟩) v.size capv) v.data) := ⟨_, _, _, rfl, rfl, fun h => ⟨_, 0, rfl, by omega, Nat.lt_of_lt_of_le hlt4 hb5.size, Holds.below hH4 hb5 hlt4⟩⟩
  have HRr : Hid (Arg w5 (.slice (some ⟨w4.heap.size, 0, none⟩) r.size capr) r.data) := ⟨_, _, _, rfl, rfl, fun h => ⟨_, 0, rfl, by omega, hlt5, hH5⟩⟩
  clear hb4 hb5 hb45 hH4 hH5 hlt4 hlt5 hcc4 hcc5
  go_wp2_with fail
  refine (Commit_c HC.out.toFld HG.out HN.out _ _ v.data r.data w5 HV.out HRr.out).mono ?_
  rintro e w6 ⟨vv, rfl, hb6, hq⟩
  obtain ⟨qc, nc, cc, ec, rfl, hs⟩ := hq.ans
  obtain ⟨CO, hCO⟩ : ∃ z, Hid (coT P (rq N v.data) (rq N r.data) = z) := ⟨_, rfl⟩
  rw [hCO.out] at hs
  have A2 : Hid (Ans3 w6 CO.1 CO.2 qc nc cc ec) := hs
  replace KX : Hid (Hx w0 w6 w0.heap.size s g cg Tg) := KX.out.call hb6
  replace A1 : Hid (Ans3 w6 (wr (.some (hpt P lb s.data.toList) : EC.Pt P)) 0 (some ⟨g3', 0, none⟩) 33 c3 0) := A1.out.call hb6
  clear hb6 hq hs hcv hcr HV HRr
  go_wp2_with fail
  refine (Still_any w0.heap.size _ s w6 H2'.out KX.out.ls rfl).mono ?_
  rintro e w7 ⟨rfl, hb7⟩
  replace KX : Hid (Hx w0 w7 w0.heap.size s g cg Tg) := KX.out.call hb7
  replace A1 : Hid (Ans3 w7 (wr (.some (hpt P lb s.data.toList) : EC.Pt P)) 0 (some ⟨g3', 0, none⟩) 33 c3 0) := A1.out.call hb7
  replace A2 : Hid (Ans3 w7 CO.1 CO.2 qc nc cc ec) := A2.out.call hb7
  clear hb7 g1 g2 g3 g4 g5
  go_wp2_with fail
  obtain ⟨T1, hT1⟩ : ∃ T, Hid (wr (.some (hpt P lb s.data.toList) : EC.Pt P) = T) := ⟨_, rfl⟩
  rw [hT1.out] at A1
  have KP : Hy w0 w7 w0.heap.size s g cg Tg T1 (some ⟨g3', 0, none⟩) c3 CO.1 CO.2 qc nc cc ec := ⟨KX.out, A1.out, A2.out⟩
  clear KX A1 A2
  obtain ⟨vG, hvG⟩ : ∃ z, Hid (rv (gX P) (gY P) 1 = z) := ⟨_, rfl⟩
  have hGc : Gives 9 #[] vG := by rw [← hvG.out]; exact rG_c HC.out
  have hWc : Gives 10 #[vG] (.string ⟨Tg⟩) := by rw [← hvG.out, ← hTg.out]; exact rWritten_c HC.out (t := gT P) (gT_frac HC.out.toFld)
  have eT := str_eqL Tg
  go_region_held3 (fun W => (convert 22 9 (.slice (some ⟨g, 0, none⟩) 33 cg)).run Tryz.prog W = .ok (.string ⟨Tg⟩) W ∧ Hy w0 W w0.heap.size s g cg Tg T1 (some ⟨g3', 0, none⟩) c3 CO.1 CO.2 qc nc cc ec) (first | (with_reducible exact ⟨KP.hx.conv, KP⟩) | (with_reducible exact ⟨KP.drew.hx.conv, KP.drew⟩) | fail) (first | (go_at_call 9; refine (hGc _).mono ?_; rintro e w8 ⟨vv, rfl, hba, rfl⟩; (first | (with_reducible (have KP1 := KP.drew.call hba)) | (with_reducible (have KP1 := KP.call hba)) | fail); clear KP hba; have KP := KP1; clear KP1) | (go_at_call 10; refine (hWc _).mono ?_; rintro e w9 ⟨vv, rfl, hba, rfl⟩; (first | (with_reducible (have KP1 := KP.drew.call hba)) | (with_reducible (have KP1 := KP.call hba)) | fail); clear KP hba; have KP := KP1; clear KP1))
  have KX : Hid (Hy w0 w9 w0.heap.size s g cg Tg T1 (some ⟨g3', 0, none⟩) c3 CO.1 CO.2 qc nc cc ec) := KP
  clear KP hGc hWc hvG
  go_wp2_with fail
  clear eT
  obtain ⟨q, hq⟩ : ∃ q, Hid (hpt P lb s.data.toList = q) := ⟨_, rfl⟩
  obtain ⟨x, y⟩ := q
  have hHc : Gives 11 #[.string lb, .string s] (tv (x, y, 1)) := by
    have h := rHash_c HC.out lb s H1.out H2.out
    rw [hq.out] at h
    exact h
  have hWp : Hid (Gives 10 #[tv (x, y, 1)] (.string ⟨T1⟩)) := by
    rw [← hT1.out, hq.out]
    have ho := hpt_on HC.out.toFld lb s.data.toList
    rw [hq.out] at ho
    exact rWritten_c HC.out (t := (x, y, 1)) ⟨frac_one HC.out.toFld x y, ho⟩
  obtain ⟨t1, ht1⟩ : ∃ t : T3 P, (x, y, 1) = t := ⟨_, rfl⟩
  rw [ht1] at hHc hWp
  clear ht1
  refine (hHc w9).mono ?_
  rintro e w10 ⟨vv, rfl, hb10, rfl⟩
  obtain ⟨N1, e1, l1, o1⟩ := tv_list t1
  obtain ⟨w11, s11, hb11, r11, lt11⟩ := cell12 w10 N1 l1 o1
  unfold z12 at s11
  rw [e1]
  rw [e1] at hWp
  have hbx := hb10.trans (hb11.mono hb10.size)
  replace KX : Hid (Hy w0 w11 w0.heap.size s g cg Tg T1 (some ⟨g3', 0, none⟩) c3 CO.1 CO.2 qc nc cc ec ∧ Ro w11 w10.heap.size N1) := ⟨KX.out.call hbx, ⟨r11, lt11⟩⟩
  clear hHc hb10 hb11 hbx r11 lt11 e1 o1 hq
  go_wp2_with fail
  clear s11
  generalize w10.heap.size = k1 at KX ⊢
  refine (Q3_c w11).mono ?_
  rintro e w12 ⟨vv, rfl, hb12, rfl⟩
  go_wp2_with fail
  refine (rNumQ HR.out v.data w12).mono ?_
  rintro e w13 ⟨vv, rfl, hb13, hr⟩
  obtain ⟨m, rfl, hfm⟩ := hr.two
  have HM : Hid (∀ n, rq N v.data = some n → m = n) := hfm
  obtain ⟨N2, e2, l2, o2⟩ := nv_list m
  obtain ⟨w14, s14, hb14, r14, lt14⟩ := cell4 w13 N2 l2 o2
  unfold z4 at s14
  rw [e2]
  have E2 : Hid (nv m = .agg N2.toArray) := e2
  have hbx := hb12.trans ((hb13.trans (hb14.mono hb13.size)).mono hb12.size)
  replace KX : Hid (Hy w0 w14 w0.heap.size s g cg Tg T1 (some ⟨g3', 0, none⟩) c3 CO.1 CO.2 qc nc cc ec ∧ Ro w14 k1 N1 ∧ Ro w14 w13.heap.size N2) := ⟨KX.out.1.call hbx, KX.out.2.call hbx, ⟨r14, lt14⟩⟩
  clear hr hfm e2 o2 hb12 hb13 hb14 hbx r14 lt14
  generalize hok : (rq N v.data).isSome = ok
  have HOK : Hid ((rq N v.data).isSome = ok) := hok
  clear hok
  go_wp2_with fail
  clear s14
  generalize w13.heap.size = k2 at KX ⊢
  refine (Q3_c w14).mono ?_
  rintro e w15 ⟨vv, rfl, hb15, rfl⟩
  go_wp2_with fail
  refine (rNumQ HR.out r.data w15).mono ?_
  rintro e w16 ⟨vv, rfl, hb16, hr⟩
  obtain ⟨m3, rfl, hfm⟩ := hr.two
  have HM3 : Hid (∀ n, rq N r.data = some n → m3 = n) := hfm
  obtain ⟨N3, e3, l3, o3⟩ := nv_list m3
  obtain ⟨w17, s17, hb17, r17, lt17⟩ := cell4 w16 N3 l3 o3
  unfold z4 at s17
  rw [e3]
  have E3 : Hid (nv m3 = .agg N3.toArray) := e3
  have hbx := hb15.trans ((hb16.trans (hb17.mono hb16.size)).mono hb15.size)
  replace KX : Hid (Hy w0 w17 w0.heap.size s g cg Tg T1 (some ⟨g3', 0, none⟩) c3 CO.1 CO.2 qc nc cc ec ∧ Ro w17 k1 N1 ∧ Ro w17 k2 N2 ∧ Ro w17 w16.heap.size N3) := ⟨KX.out.1.call hbx, KX.out.2.1.call hbx, KX.out.2.2.call hbx, ⟨r17, lt17⟩⟩
  clear hr hfm e3 o3 hb15 hb16 hb17 hbx r17 lt17
  generalize hok : (rq N r.data).isSome = ok3
  have HOK3 : Hid ((rq N r.data).isSome = ok3) := hok
  clear hok
  have HU : Hid (∃ d, Tryz.prog.underlying 34 = some d ∧ d.isRow = true) := Option.map_eq_some_iff.1 u56
  have HU3 : Hid (∃ d, Tryz.prog.underlying 32 = some d ∧ d.isRow = true) := Option.map_eq_some_iff.1 u33
  obtain ⟨d56, hu56, hd56⟩ := HU.out
  obtain ⟨d33, hu33, hd33⟩ := HU3.out
  clear HU HU3
  cases hv : rq N v.data with
  | none =>
    obtain rfl : ok = false := by rw [← HOK.out, hv]; rfl
    obtain rfl : CO = (#[], 3) := by rw [← hCO.out, hv]; rfl
    have r1 := KX.out.2.1.at'
    have r2 := KX.out.2.2.1.at'
    have r3 := KX.out.2.2.2.at'
    go_wp2_with (first | (refine wpList_load_mid rfl 34 _ rfl k1 0 ?_ N1 _ ?_ hu56 hd56 ?_ ?_; rfl; exact r1; (rw [l1]; exact i56)) | (refine wpList_load_mid rfl 32 _ rfl k2 0 ?_ N2 _ ?_ hu33 hd33 ?_ ?_; rfl; exact r2; (rw [l2]; exact i33)) | (refine wpList_load_mid rfl 32 _ rfl w16.heap.size 0 ?_ N3 _ ?_ hu33 hd33 ?_ ?_; rfl; exact r3; (rw [l3]; exact i33)))
    clear r1 r2 r3
    refine (hWp.out _).mono ?_
    rintro e w20 ⟨vv, rfl, hb20, rfl⟩
    replace KX : Hid (Hy w0 w20 w0.heap.size s g cg Tg T1 (some ⟨g3', 0, none⟩) c3 #[] 3 qc nc cc ec) := KX.out.1.call hb20
    clear hb20
    go_wp2_with fail
    refine (Ans3.told KX.out.a1).mono ?_
    rintro e w21 ⟨vv, rfl, hb21, rfl⟩
    replace KX : Hid (Hy w0 w21 w0.heap.size s g cg Tg T1 (some ⟨g3', 0, none⟩) c3 #[] 3 qc nc cc ec) := KX.out.call hb21
    clear hb21
    go_wp2_with fail
    refine (Ans3.told KX.out.a2).mono ?_
    rintro e w22 ⟨vv, rfl, hb22, rfl⟩
    replace KX : Hid (Hy w0 w22 w0.heap.size s g cg Tg T1 (some ⟨g3', 0, none⟩) c3 #[] 3 qc nc cc ec) := KX.out.call hb22
    clear hb22
    go_wp2
    go_ret
    exact ⟨by simp, KX.out.hx.bl⟩
  | some n =>
    obtain rfl : ok = true := by rw [← HOK.out, hv]; rfl
    cases hw : rq N r.data with
    | none =>
      obtain rfl : ok3 = false := by rw [← HOK3.out, hw]; rfl
      obtain rfl : CO = (#[], 3) := by rw [← hCO.out, hv, hw]; rfl
      have r1 := KX.out.2.1.at'
      have r2 := KX.out.2.2.1.at'
      have r3 := KX.out.2.2.2.at'
      go_wp2_with (first | (refine wpList_load_mid rfl 34 _ rfl k1 0 ?_ N1 _ ?_ hu56 hd56 ?_ ?_; rfl; exact r1; (rw [l1]; exact i56)) | (refine wpList_load_mid rfl 32 _ rfl k2 0 ?_ N2 _ ?_ hu33 hd33 ?_ ?_; rfl; exact r2; (rw [l2]; exact i33)) | (refine wpList_load_mid rfl 32 _ rfl w16.heap.size 0 ?_ N3 _ ?_ hu33 hd33 ?_ ?_; rfl; exact r3; (rw [l3]; exact i33)))
      clear r1 r2 r3
      refine (hWp.out _).mono ?_
      rintro e w20 ⟨vv, rfl, hb20, rfl⟩
      replace KX : Hid (Hy w0 w20 w0.heap.size s g cg Tg T1 (some ⟨g3', 0, none⟩) c3 #[] 3 qc nc cc ec) := KX.out.1.call hb20
      clear hb20
      go_wp2_with fail
      refine (Ans3.told KX.out.a1).mono ?_
      rintro e w21 ⟨vv, rfl, hb21, rfl⟩
      replace KX : Hid (Hy w0 w21 w0.heap.size s g cg Tg T1 (some ⟨g3', 0, none⟩) c3 #[] 3 qc nc cc ec) := KX.out.call hb21
      clear hb21
      go_wp2_with fail
      refine (Ans3.told KX.out.a2).mono ?_
      rintro e w22 ⟨vv, rfl, hb22, rfl⟩
      replace KX : Hid (Hy w0 w22 w0.heap.size s g cg Tg T1 (some ⟨g3', 0, none⟩) c3 #[] 3 qc nc cc ec) := KX.out.call hb22
      clear hb22
      go_wp2
      go_ret
      exact ⟨by simp, KX.out.hx.bl⟩
    | some n3 =>
      obtain rfl : ok3 = true := by rw [← HOK3.out, hw]; rfl
      obtain rfl : m = n := HM.out n hv
      obtain rfl : m3 = n3 := HM3.out n3 hw
      obtain ⟨T2, hT2⟩ : ∃ T, Hid (wr (cmt P m m3) = T) := ⟨_, rfl⟩
      obtain rfl : CO = (T2, 0) := by rw [← hCO.out, hv, hw, ← hT2.out]; rfl
      obtain ⟨t2, hf2, hcm⟩ := rCommit_c HC.out m m3 (rq_top HN.out hv) (rq_top HN.out hw)
      have hW2 := rWritten_c HC.out hf2
      rw [hT2.out] at hW2
      rw [E2.out, E3.out] at hcm
      generalize tv t2 = vt at hcm hW2
      have HCM := Hid.mk hcm
      have HW2 := Hid.mk hW2
      clear hcm hW2 hf2
      have r1 := KX.out.2.1.at'
      have r2 := KX.out.2.2.1.at'
      have r3 := KX.out.2.2.2.at'
      go_wp2_with (first | (refine wpList_load_mid rfl 34 _ rfl k1 0 ?_ N1 _ ?_ hu56 hd56 ?_ ?_; rfl; exact r1; (rw [l1]; exact i56)) | (refine wpList_load_mid rfl 32 _ rfl k2 0 ?_ N2 _ ?_ hu33 hd33 ?_ ?_; rfl; exact r2; (rw [l2]; exact i33)) | (refine wpList_load_mid rfl 32 _ rfl w16.heap.size 0 ?_ N3 _ ?_ hu33 hd33 ?_ ?_; rfl; exact r3; (rw [l3]; exact i33)))
      clear r1 r2 r3
      refine (HCM.out _).mono ?_
      rintro e w18 ⟨vv, rfl, hb18, rfl⟩
      replace KX : Hid (Hy w0 w18 w0.heap.size s g cg Tg T1 (some ⟨g3', 0, none⟩) c3 T2 0 qc nc cc ec ∧ Ro w18 k1 N1 ∧ Ro w18 k2 N2 ∧ Ro w18 w16.heap.size N3) := ⟨KX.out.1.call hb18, KX.out.2.1.call hb18, KX.out.2.2.1.call hb18, KX.out.2.2.2.call hb18⟩
      clear hb18
      go_wp2_with fail
      refine (HW2.out _).mono ?_
      rintro e w19 ⟨vv, rfl, hb19, rfl⟩
      replace KX : Hid (Hy w0 w19 w0.heap.size s g cg Tg T1 (some ⟨g3', 0, none⟩) c3 T2 0 qc nc cc ec ∧ Ro w19 k1 N1 ∧ Ro w19 k2 N2 ∧ Ro w19 w16.heap.size N3) := ⟨KX.out.1.call hb19, KX.out.2.1.call hb19, KX.out.2.2.1.call hb19, KX.out.2.2.2.call hb19⟩
      clear hb19
      have r1 := KX.out.2.1.at'
      have r2 := KX.out.2.2.1.at'
      have r3 := KX.out.2.2.2.at'
      go_wp2_with (first | (refine wpList_load_mid rfl 34 _ rfl k1 0 ?_ N1 _ ?_ hu56 hd56 ?_ ?_; rfl; exact r1; (rw [l1]; exact i56)) | (refine wpList_load_mid rfl 32 _ rfl k2 0 ?_ N2 _ ?_ hu33 hd33 ?_ ?_; rfl; exact r2; (rw [l2]; exact i33)) | (refine wpList_load_mid rfl 32 _ rfl w16.heap.size 0 ?_ N3 _ ?_ hu33 hd33 ?_ ?_; rfl; exact r3; (rw [l3]; exact i33)))
      clear r1 r2 r3
      refine (hWp.out _).mono ?_
      rintro e w20 ⟨vv, rfl, hb20, rfl⟩
      replace KX : Hid (Hy w0 w20 w0.heap.size s g cg Tg T1 (some ⟨g3', 0, none⟩) c3 T2 0 qc nc cc ec) := KX.out.1.call hb20
      clear hb20
      go_wp2_with fail
      refine (Ans3.told KX.out.a1).mono ?_
      rintro e w21 ⟨vv, rfl, hb21, rfl⟩
      replace KX : Hid (Hy w0 w21 w0.heap.size s g cg Tg T1 (some ⟨g3', 0, none⟩) c3 T2 0 qc nc cc ec) := KX.out.call hb21
      clear hb21
      go_wp2_with fail
      refine (Ans3.told KX.out.a2).mono ?_
      rintro e w22 ⟨vv, rfl, hb22, rfl⟩
      replace KX : Hid (Hy w0 w22 w0.heap.size s g cg Tg T1 (some ⟨g3', 0, none⟩) c3 T2 0 qc nc cc ec) := KX.out.call hb22
      clear hb22
      go_wp2
      go_ret
      exact ⟨by simp, KX.out.hx.bl⟩
end Go.Proofs.YticolhhalbbogacGreat
namespace Go.Proofs.YticolhhalbbogacGreat
open Go.RowKit Go.Sort Go.Deep
theorem fl3 : ∃ (P : Nat) (_ : NeZero P), Fl3 P := by
  obtain ⟨P, hz, hP, hc⟩ := EC.cur
  have h0 : P = Go.Proofs.YticolhhalbbogacGreat.p0 := by rw [hP]; decide +kernel
  have hg := gap0
  have hr := refP0
  have h2 : 2 ≤ Go.Proofs.YticolhhalbbogacGreat.p0 % 18446744073709551616 := by decide +kernel
  have h4 : Go.Proofs.YticolhhalbbogacGreat.p0 / 4 % 18446744073709551616 < 18446744073709551615 := by decide +kernel
  have h3 : Go.Proofs.YticolhhalbbogacGreat.p0 % 4 = 3 := by decide +kernel
  have h7 : 7 < Go.Proofs.YticolhhalbbogacGreat.p0 := by decide +kernel
  rw [← h0] at hg hr h2 h4 h3 h7
  exact ⟨P, hz, ⟨⟨hg, hc, h2, h4, h3, h7⟩, hr⟩⟩
theorem p1_top : Go.Proofs.YticolhhalbbogacGreat.p1 ≤ top := by decide +kernel
end Go.Proofs.YticolhhalbbogacGreat
namespace Go.Proofs.YticolhhalbbogacGreat
open Go.RowKit Go.Sort Go.Deep
set_option maxHeartbeats 2000000 in
theorem hides_any (a b c d : ByteArray) (w0 : World) :
    Calls Tryz.prog 3 #[.string a, .string b, .string c, .string d] w0 fun e w' => e = .returned (.bool true) ∧ Below w0.heap.size w0 w' := by
  by_cases ha : a.size ≤ 4096
  · by_cases hb : b.size ≤ 4096
    · by_cases hc : c.size ≤ 4096
      · by_cases hd : d.size ≤ 4096
        · obtain ⟨P, hz, C⟩ := fl3
          exact hides_all C gap1 p1_top refP1 a b c d ha hb hc hd w0
        · have g1 : ¬ (4096 : Int) < (a.size : Int) := by omega
          have g2 : ¬ (4096 : Int) < (b.size : Int) := by omega
          have g3 : ¬ (4096 : Int) < (c.size : Int) := by omega
          have g4 : (4096 : Int) < (d.size : Int) := by omega
          go_enter Tryz.func3, Tryz.ntmps3
          go_wp2
          go_ret
          exact ⟨rfl, Below.refl _ _⟩
      · have g1 : ¬ (4096 : Int) < (a.size : Int) := by omega
        have g2 : ¬ (4096 : Int) < (b.size : Int) := by omega
        have g3 : (4096 : Int) < (c.size : Int) := by omega
        go_enter Tryz.func3, Tryz.ntmps3
        go_wp2
        go_ret
        exact ⟨rfl, Below.refl _ _⟩
    · have g1 : ¬ (4096 : Int) < (a.size : Int) := by omega
      have g2 : (4096 : Int) < (b.size : Int) := by omega
      go_enter Tryz.func3, Tryz.ntmps3
      go_wp2
      go_ret
      exact ⟨rfl, Below.refl _ _⟩
  · have g1 : (4096 : Int) < (a.size : Int) := by omega
    go_enter Tryz.func3, Tryz.ntmps3
    go_wp2
    go_ret
    exact ⟨rfl, Below.refl _ _⟩
end Go.Proofs.YticolhhalbbogacGreat
/-
  THE ROW OF 'GroupHides' round its walk; the frame by the guide's program (howto/shells), the world behind the call told by 'Below'.
-/
namespace Go.Proofs.YticolhhalbbogacGreat.groupHides
open Go.ChangeShapes Go.WideShapes Go.ChangeAt Go.RowKit
open Go.ChangeMaps (open_string shut_string)
theorem own : ownKnob Tryz.prog.godebug = none := by kernel_rfl
set_option maxRecDepth 100000 in
theorem lifted (os : Os) (started : os.Started) (H : Type) (enc : TypeId × Value → H) :
    ReturnsInHanded {} Tryz.checked os 3 .any (Rows.groupHidesSpec.pre6 enc Tryz.prog Tryz.f3 Rows.groupHidesRow.domain false) (Rows.groupHidesSpec.post enc Tryz.prog Tryz.f3 false true false false) := by
  refine returnsInHanded_of_change (C := Tryz.checked) own started (by kernel_rfl) Tryz.func3
    (ChangeSpec.witness6 (enc := enc) (C := Tryz.checked) false ⟨#[], #[.string ByteArray.empty, .string ByteArray.empty, .string ByteArray.empty, .string ByteArray.empty], []⟩ 8 (by kernel_rfl) (by kernel_rfl) (by kernel_rfl) (by kernel_rfl)) ?_
  intro W base args ds gs before hval0 hW hcnd _
  have hval : ∀ (j : Nat) t v, Tryz.f3.params[j]? = some t → args[j]? = some v → Value.okWide Tryz.prog W .any base t v := hval0
  have hW' := hW
  obtain ⟨p, q, hA0, hV, rfl, hfz, hnd⟩ := hW
  have hA : DataW.TrodAll enc Tryz.prog W 0 (fun _ => true) true Tryz.f3.params.toList args.toList ds p := hA0
  rw [Tryz.params3] at hA hval
  obtain ⟨v0, vs0, d0, ds0, p0, q0, hargs, rfl, rfl, h0, r0⟩ := trodAll_cons hA
  obtain ⟨v1, vs1, d1, ds1, p1, q1, rfl, rfl, rfl, h1, r1⟩ := trodAll_cons r0
  obtain ⟨v2, vs2, d2, ds2, p2, q2, rfl, rfl, rfl, h2, r2⟩ := trodAll_cons r1
  obtain ⟨v3, vs3, d3, ds3, p3, q3, rfl, rfl, rfl, h3, r3⟩ := trodAll_cons r2
  obtain ⟨rfl, rfl, rfl⟩ := trodAll_nil r3
  obtain rfl : args = #[v0, v1, v2, v3] := by cases args; simp_all
  obtain ⟨rfl, rfl⟩ := trodVars_none hV
  obtain ⟨a0, rfl, rfl, rfl, w0⟩ := open_string Tryz.underlying9 (hval 0 9 v0 rfl rfl) h0
  obtain ⟨a1, rfl, rfl, rfl, w1⟩ := open_string Tryz.underlying9 (hval 1 9 v1 rfl rfl) h1
  obtain ⟨a2, rfl, rfl, rfl, w2⟩ := open_string Tryz.underlying9 (hval 2 9 v2 rfl rfl) h2
  obtain ⟨a3, rfl, rfl, rfl, w3⟩ := open_string Tryz.underlying9 (hval 3 9 v3 rfl rfl) h3
  clear hA0 hval0
  refine (hides_any a0 a1 a2 a3 W).mono fun e W' ⟨he, bel⟩ => ?_
  subst he
  exact ⟨_, rfl, _, _, _, [], _, [], hW', (trodAll_cons_mk (shut_bool Tryz.underlying4 _) trodAll_mk0), (trodAll_cons_mk (shut_string Tryz.underlying9 w0) (trodAll_cons_mk (shut_string Tryz.underlying9 w1) (trodAll_cons_mk (shut_string Tryz.underlying9 w2) (trodAll_cons_mk (shut_string Tryz.underlying9 w3) trodAll_mk0)))), rfl, bel.frame _, fun h => by cases h⟩
theorem over : Rows.groupHidesRow.holds Tryz.pinned (OpenSpec.ofChange Rows.groupHidesSpec) :=
  OpenClaim.holds_of_wide 3 Tryz.f3 rfl rfl rfl rfl rfl rfl rfl ⟨rfl, rfl, rfl, rfl, rfl⟩ rfl rfl rfl rfl rfl (by kernel_rfl) Tryz.func3 (by kernel_rfl)
    (of_decide_eq_true (by kernel_rfl)) (by unfold Func.isWrapper; first | (rw [if_pos (by decide +kernel)]; kernel_rfl) | (rw [if_neg (by decide +kernel)]; exact ⟨rfl, rfl⟩))
    (fun os started H enc _ => lifted os started H enc)
theorem proved : Rows.GroupHidesSaid :=
  over
end Go.Proofs.YticolhhalbbogacGreat.groupHides
namespace Go.Proofs.YticolhhalbbogacGreat
/-- THE STATEMENT. -/
theorem groupHides_holds : Rows.GroupHidesSaid := groupHides.proved
#print axioms groupHides_holds
end Go.Proofs.YticolhhalbbogacGreat
