import Derived.Deep.LoopGhost
import Derived.Laws.AppendOwn
import Derived.Laws.IdiomCopy
import Derived.Test.YtmepmoalhgehhaaGreatDoorks12
set_option linter.unusedVariables false
set_option linter.unusedSimpArgs false
namespace Go.Proofs.YtmepmoalhgehhaaGreatDoor
open Go.RowKit Go.Sort Go.Deep
section
variable {P : Program} {ops : Array Oper} {rest : List Oper} {op : Oper} {a : Act} {w w' : World} {v : Value} {Q : Exit → Act → World → Prop}
theorem wpList_bld (hgd : op.guard = none) (T : TypeId) (parts : Array (Nat × Operand)) (ho : op.op = .build T parts) (vs : Array (Nat × Value)) (hx : (parts.map fun (i, x) => (i, a.eval x)) = vs) (hr : (Instr.build T vs).run P w = .ok v w') (h : wpList P ops Q rest (a.put op.dst v) w') : wpList P ops Q (op :: rest) a w :=
  wpList_plain hgd fun K hK => by
    unfold Oper.wp execOp
    simp only [ho, hx, Sem.run_bind, hr, Result.andThen_ok, Sem.run_pure]
    exact hK _ _ h
theorem wpList_bsl (hgd : op.guard = none) (T : TypeId) (n : Nat) (parts : Array (Nat × Operand)) (ho : op.op = .buildSlice T n parts) (vs : Array (Nat × Value)) (hx : (parts.map fun (i, x) => (i, a.eval x)) = vs) (hr : (Instr.buildSlice T n vs).run P w = .ok v w') (h : wpList P ops Q rest (a.put op.dst v) w') : wpList P ops Q (op :: rest) a w :=
  wpList_plain hgd fun K hK => by
    unfold Oper.wp execOp
    simp only [ho, hx, Sem.run_bind, hr, Result.andThen_ok, Sem.run_pure]
    exact hK _ _ h
end
set_option maxRecDepth 100000 in
theorem bldT {a : Bs} (ha : a.size = 33) (n : Nat) (w : World) : (Instr.build 78 #[(0, nv n), (1, pvl a)]).run Tryz.prog w = .ok (.agg (wn n ++ bl33 a).toArray) w := by
  unfold pvl
  rw [bl33_lit ha]
  kernel_rfl
set_option maxRecDepth 100000 in
theorem bslT {a : Bs} (ha : a.size = 33) (n : Nat) (w : World) : (Instr.buildSlice 54 1 #[(0, .agg (wn n ++ bl33 a).toArray)]).run Tryz.prog w = .ok (.slice (some ⟨w.heap.size, 0, none⟩) 1 1) (w.alloc (.cells (wn n ++ bl33 a).toArray 78)) := by
  rw [bl33_lit ha]
  kernel_rfl
theorem boxS (n : Nat) (w : World) : (Instr.box 47 (nv n)).run Tryz.prog w = .ok (.pointer (some ⟨w.heap.size, 0, none⟩)) (w.alloc (.cells (wn n).toArray 47)) := by kernel_rfl
set_option maxHeartbeats 1000000 in
set_option maxRecDepth 100000 in
theorem ptTimes_c (a : Bs) (ha : a.size = 33) (n : Nat) (w : World) : Calls Tryz.prog 18 #[pvl a, nv n] w (Ret fun e w' => Below w.heap.size w w' ∧ ∃ k, e = .slice (some ⟨k, 0, none⟩) 1 1 ∧ w.heap.size ≤ k ∧ Row w' k (wn n ++ bl33 a)) := by
  have B1 := Hid.mk' (boxCP ha w)
  obtain ⟨w1, hw1⟩ : ∃ w1, Hid (w.alloc (.cells (bl33 a).toArray 52) = w1) := ⟨_, rfl⟩
  rw [hw1.out] at B1
  have e1 : w1.heap.size = w.heap.size + 1 := by rw [← hw1.out, World.size_alloc]
  have B2 := Hid.mk' (boxS n w1)
  obtain ⟨w2, hw2⟩ : ∃ w2, Hid (w1.alloc (.cells (wn n).toArray 47) = w2) := ⟨_, rfl⟩
  rw [hw2.out, e1] at B2
  have e2 : w2.heap.size = w.heap.size + 2 := by rw [← hw2.out, World.size_alloc, e1]
  have B3 := Hid.mk' (bldT ha n w2)
  have B4 := Hid.mk' (bslT ha n w2)
  obtain ⟨w3, hw3⟩ : ∃ w3, Hid (w2.alloc (.cells (wn n ++ bl33 a).toArray 78) = w3) := ⟨_, rfl⟩
  rw [hw3.out, e2] at B4
  have K : Hid (Row w2 w.heap.size (bl33 a) ∧ Row w2 (w.heap.size + 1) (wn n) ∧ Below w.heap.size w w3 ∧ Row w3 (w.heap.size + 2) (wn n ++ bl33 a)) := by
    have q1 : Row w1 w.heap.size (bl33 a) := by rw [← hw1.out]; exact row_new w _ _
    have q2 : Row w2 (w.heap.size + 1) (wn n) := by rw [← hw2.out, ← e1]; exact row_new w1 _ _
    have q3 : Row w3 (w.heap.size + 2) (wn n ++ bl33 a) := by rw [← hw3.out, ← e2]; exact row_new w2 _ _
    have b1 : Below w.heap.size w w1 := by rw [← hw1.out]; exact below1 w _
    have b2 : Below w1.heap.size w1 w2 := by rw [← hw2.out]; exact below1 w1 _
    have b3 : Below w2.heap.size w2 w3 := by rw [← hw3.out]; exact below1 w2 _
    exact ⟨q1.below b2, q2, (b1.trans (b2.mono (by omega))).trans (b3.mono (by omega)), q3⟩
  have HL : Hid ((Tryz.prog.info? 52).map (·.size) = some (bl33 a).length) := by show _ = _; rw [bl33_length ha]; exact infoCP
  obtain ⟨d, hd1, hd2⟩ := Option.map_eq_some_iff.1 uCP
  obtain ⟨d', hd3, hd4⟩ := Option.map_eq_some_iff.1 u40
  have HD : Hid ((Tryz.prog.underlying 52 = some d ∧ d.isRow = true) ∧ Tryz.prog.underlying 47 = some d' ∧ d'.isRow = true) := ⟨⟨hd1, hd2⟩, hd3, hd4⟩
  clear hd1 hd2 hd3 hd4 hw1 hw2 hw3 e1 e2
  obtain ⟨va, hva⟩ : ∃ v, Hid (pvl a = v) := ⟨_, rfl⟩
  obtain ⟨vn, hvn⟩ : ∃ v, Hid (nv n = v) := ⟨_, rfl⟩
  obtain ⟨vt, hvt⟩ : ∃ v, Hid (Value.agg (wn n ++ bl33 a).toArray = v) := ⟨_, rfl⟩
  have B1' : Hid ((Instr.box 52 va).run Tryz.prog w = .ok (.pointer (some ⟨w.heap.size, 0, none⟩)) w1) := by rw [← hva.out]; exact B1
  rw [hvn.out] at B2
  rw [hva.out, hvn.out, hvt.out] at B3
  rw [hvt.out] at B4
  rw [hva.out, hvn.out]
  clear B1
  go_enter Tryz.func18, Tryz.ntmps18
  go_wp2_with (first | (refine wpList_box (u := va) (v := .pointer (some ⟨w.heap.size, 0, none⟩)) (w' := w1) rfl 52 (.tmp 0) rfl ?_ ?_ ?_; rfl; exact B1'.out) | (refine wpList_box (u := vn) (v := .pointer (some ⟨w.heap.size + 1, 0, none⟩)) (w' := w2) rfl 47 (.tmp 1) rfl ?_ ?_ ?_; rfl; exact B2.out) | (refine wpList_load_mid rfl 47 _ rfl (w.heap.size + 1) 0 ?_ (wn n) d' ?_ ?_ ?_ ?_ ?_; rfl; exact K.out.2.1.2.1; exact HD.out.2.1; exact HD.out.2.2; exact i40; rw [show Value.agg (wn n).toArray = vn from hvn.out]) | (refine wpList_load_mid rfl 52 _ rfl w.heap.size 0 ?_ (bl33 a) d ?_ ?_ ?_ ?_ ?_; rfl; exact K.out.1.2.1; exact HD.out.1.1; exact HD.out.1.2; exact HL.out; rw [show Value.agg (bl33 a).toArray = va from hva.out]) | (refine wpList_bld (v := vt) (w' := w2) rfl 78 _ rfl #[(0, vn), (1, va)] ?_ ?_ ?_; kernel_rfl; exact B3.out) | (refine wpList_bsl (v := .slice (some ⟨w.heap.size + 2, 0, none⟩) 1 1) (w' := w3) rfl 54 1 _ rfl #[(0, vt)] ?_ ?_ ?_; kernel_rfl; exact B4.out))
  go_ret
  exact ⟨_, rfl, K.out.2.2.1, w.heap.size + 2, rfl, by omega, K.out.2.2.2⟩
end Go.Proofs.YtmepmoalhgehhaaGreatDoor
namespace Go.Proofs.YtmepmoalhgehhaaGreatDoor
open Go.RowKit Go.Sort Go.Deep
set_option maxRecDepth 100000 in
theorem boxT {a : Bs} (ha : a.size = 33) (n : Nat) (w : World) : (Instr.box 78 (.agg (wn n ++ bl33 a).toArray)).run Tryz.prog w = .ok (.pointer (some ⟨w.heap.size, 0, none⟩)) (w.alloc (.cells (wn n ++ bl33 a).toArray 78)) := by
  rw [bl33_lit ha]
  kernel_rfl
theorem bldS (w : World) : (Instr.build 47 #[]).run Tryz.prog w = .ok (nv 0) w := by kernel_rfl
/-- A term as a value. -/
def tvl (n : Nat) (a : Bs) : Value := .agg (wn n ++ bl33 a).toArray
theorem range_front {W : World} {k : Nat} {xs ys : List Value} (h : W.rangeAt k 0 (xs ++ ys)) : W.rangeAt k 0 xs := fun j v hj => h j v (by rw [List.getElem?_append_left (List.getElem?_eq_some_iff.1 hj).1]; exact hj)
theorem range_back {W : World} {k : Nat} {xs ys : List Value} (h : W.rangeAt k 0 (xs ++ ys)) : W.rangeAt k xs.length ys := fun j v hj => by
  have := h (xs.length + j) v (by rw [List.getElem?_append_right (Nat.le_add_right _ _), Nat.add_sub_cancel_left]; exact hj)
  rwa [Nat.zero_add] at this
set_option maxHeartbeats 1000000 in
set_option maxRecDepth 100000 in
theorem none_c {n : Nat} (hn : n < top) {a : Bs} (ha : a.size = 33) : Gives 64 #[tvl n a] (.bool (decide (n = 0))) := by
  intro w
  have B1 := Hid.mk' (boxT ha n w)
  obtain ⟨w1, hw1⟩ : ∃ w1, Hid (w.alloc (.cells (wn n ++ bl33 a).toArray 78) = w1) := ⟨_, rfl⟩
  rw [hw1.out] at B1
  have K : Hid (Row w1 w.heap.size (wn n ++ bl33 a) ∧ Below w.heap.size w w1) := by rw [← hw1.out]; exact ⟨row_new w _ _, below1 w _⟩
  obtain ⟨d', hd3, hd4⟩ := Option.map_eq_some_iff.1 u40
  have HD : Hid (Tryz.prog.underlying 47 = some d' ∧ d'.isRow = true) := ⟨hd3, hd4⟩
  clear hd3 hd4 hw1
  obtain ⟨va, hva⟩ : ∃ v, Hid (tvl n a = v) := ⟨_, rfl⟩
  obtain ⟨vn, hvn⟩ : ∃ v, Hid (nv n = v) := ⟨_, rfl⟩
  obtain ⟨v0, hv0⟩ : ∃ v, Hid (nv 0 = v) := ⟨_, rfl⟩
  have B1' : Hid ((Instr.box 78 va).run Tryz.prog w = .ok (.pointer (some ⟨w.heap.size, 0, none⟩)) w1) := by rw [← hva.out]; exact B1
  have B2 : Hid ((Instr.build 47 #[]).run Tryz.prog w1 = .ok v0 w1) := by rw [← hv0.out]; exact bldS w1
  have B3 := Hid.mk' (eqS hn (show 0 < top by unfold top; omega) w1)
  rw [hvn.out, hv0.out] at B3
  have hq := B3.out
  obtain ⟨z, hz⟩ : ∃ z, Hid (decide (n = 0) = z) := ⟨_, rfl⟩
  rw [hz.out] at hq
  have hg : (eqGuard .eql 47 (.tmp 4) (.tmp 5) vn v0).run Tryz.prog w1 = .ok () w1 := by rw [← hvn.out, ← hv0.out]; kernel_rfl
  rw [hva.out, hz.out]
  clear B1 B3
  go_enter Tryz.func64, Tryz.ntmps64
  go_wp2_with (first | (refine wpList_box (u := va) (v := .pointer (some ⟨w.heap.size, 0, none⟩)) (w' := w1) rfl 78 (.tmp 0) rfl ?_ ?_ ?_; rfl; exact B1'.out) | (refine wpList_load_mid rfl 47 _ rfl w.heap.size 0 ?_ (wn n) d' ?_ ?_ ?_ ?_ ?_; rfl; exact range_front K.out.1.2.1; exact HD.out.1; exact HD.out.2; exact i40; rw [show Value.agg (wn n).toArray = vn from hvn.out]) | (refine wpList_bld (v := v0) (w' := w1) rfl 47 _ rfl #[] ?_ ?_ ?_; kernel_rfl; exact B2.out))
  go_wp2
  go_ret
  exact ⟨_, rfl, K.out.2, rfl⟩
end Go.Proofs.YtmepmoalhgehhaaGreatDoor
namespace Go.Proofs.YtmepmoalhgehhaaGreatDoor
open Go.RowKit Go.Sort Go.Deep
theorem uT : (Tryz.prog.underlying 78).map (·.isRow) = some true := by kernel_rfl
theorem iT : (Tryz.prog.info? 78).map (·.size) = some 37 := by kernel_rfl
theorem atT (k o n c i : Nat) (hi : i < n) (w : World) : (Instr.indexAt 54 (.slice (some ⟨k, o, none⟩) n c) (.int .i64 (i : Int))).run Tryz.prog w = .ok (.pointer (some ⟨k, o + 37 * i, none⟩)) w := by
  have h1 : ¬ (i : Int) < 0 := by omega
  have h2 : (i : Int) < n := by omega
  go_simp
/-- The first term that is taken 0 times. -/
def firstZ (ns : Nat → Nat) : Nat → Nat → Int
  | _, 0 => -1
  | i, m + 1 => if ns i = 0 then (i : Int) else firstZ ns (i + 1) m
def FIx_2 (b : Bool) : List RG.It := [.x 9 [] (.bool b)]
def FIx_4 (g k c i n : Nat) (a : Bs) (z : Bool) : List RG.It := [.x 11 [] (.func (.func 64) #[] #[]), .x 12 [] (.slice (some ⟨g, 0, none⟩) k c), .x 13 [] (.int .i64 (i : Int)), .x 14 [(12, 1), (13, 2)] (.pointer (some ⟨g, (0 + 37 * i), none⟩)), .x 15 [(14, 3)] (tvl n a), .c 16 [(11, 0), (15, 4)] (.bool z)]
set_option maxHeartbeats 2000000 in
set_option maxRecDepth 100000 in
theorem index_c (g k c : Nat) (hk : k ≤ 1000000) (ns : Nat → Nat) (az : Nat → Bs) (hn : ∀ j, j < k → ns j < top) (ha : ∀ j, j < k → (az j).size = 33) (w : World) (hg : g < w.heap.size) (hr : ∀ j, j < k → w.rangeAt g (37 * j) (wn (ns j) ++ bl33 (az j))) :
    Calls Tryz.prog 88 #[(.slice (some ⟨g, 0, none⟩) k c), (.func (.func 64) #[] #[])] w (Ret fun e w' => Below w.heap.size w w' ∧ e = .int .i64 (firstZ ns 0 k)) := by
  obtain ⟨R, hR⟩ : ∃ R, firstZ ns 0 k = R := ⟨_, rfl⟩
  rw [hR]
  go_enter Tryz.func88, Tryz.ntmps88
  refine RG.M.enter [(0, .v (.slice (some ⟨g, 0, none⟩) k c)), (1, .v (.func (.func 64) #[] #[]))] 19 (by kernel_rfl) ?_
  intro a0 M0
  repeat refine wp_seq ?_
  refine M0.u [.x 4 [] (.int .i64 0)] [(0, .v (.slice (some ⟨g, 0, none⟩) k c)), (1, .v (.func (.func 64) #[] #[]))] ⟨RG.st, trivial⟩ ?_
  intro a1 w1 M1
  repeat refine wp_seq ?_
  refine M1.u [.x 6 [] (.slice (some ⟨g, 0, none⟩) k c), .x 7 [(6, 0)] (.int .i64 (k : Int)), .x 8 [] (.int .i64 0)] [(0, .v (.slice (some ⟨g, 0, none⟩) k c)), (1, .v (.func (.func 64) #[] #[])), (7, .v (.int .i64 (k : Int))), (8, .v (.int .i64 0))] ⟨RG.st, RG.st, RG.st, trivial⟩ ?_
  intro a2 w2 M2
  repeat refine wp_seq ?_
  refine wp_block ?_
  refine wp_loop_ghost (fun m a wr => ∃ i : Nat, i + m = k ∧ firstZ ns i m = R ∧ RG.M w w.heap.size [] 19 [] [] [(0, .v (.slice (some ⟨g, 0, none⟩) k c)), (1, .v (.func (.func 64) #[] #[])), (7, .v (.int .i64 (k : Int))), (8, .v (.int .i64 (i : Int)))] a wr) k ⟨0, by omega, hR, M2⟩ ?_
  intro m' a wr
  rintro ⟨i, him, hf, M20⟩
  by_cases hi : i < k
  · obtain ⟨n, hne⟩ : ∃ n, ns i = n := ⟨_, rfl⟩
    obtain ⟨b, hbe⟩ : ∃ b, az i = b := ⟨_, rfl⟩
    have hnt := hn i hi
    have hbs := ha i hi
    have hri := hr i hi
    rw [hne] at hnt hri
    rw [hbe] at hbs hri
    have hri' : w.rangeAt g (0 + 37 * i) (wn n ++ bl33 b) := by rw [Nat.zero_add]; exact hri
    have hlen : (Tryz.prog.info? 78).map (·.size) = some (wn n ++ bl33 b).length := by rw [List.length_append, bl33_length hbs]; exact iT
    have hz := none_c hnt hbs
    obtain ⟨m2, rfl⟩ : ∃ m2, m' = m2 + 1 := ⟨m' - 1, by omega⟩
    unfold firstZ at hf
    rw [hne] at hf
    repeat refine wp_seq ?_
    refine M20.u (FIx_2 true) [(0, .v (.slice (some ⟨g, 0, none⟩) k c)), (1, .v (.func (.func 64) #[] #[])), (7, .v (.int .i64 (k : Int))), (8, .v (.int .i64 (i : Int))), (9, .v (.bool true))] ⟨RG.cert_bin rfl .lss 3 3 8 7 (.int .i64 (i : Int)) (.int .i64 (k : Int)) (.bool true) rfl rfl RG.sx RG.sx (fun w => by kernel_rfl) (lssn_t hi), trivial⟩ ?_
    intro a21 w21 M21
    repeat refine wp_seq ?_
    refine wp_cond_true M21.ev ?_
    refine wp_skip ?_
    refine wp_seq ?_
    refine wp_block ?_
    repeat refine wp_seq ?_
    refine M21.u [.x 10 [] (.int .i64 (i : Int)), .x 5 [(10, 0)] (.int .i64 (i : Int))] [(0, .v (.slice (some ⟨g, 0, none⟩) k c)), (1, .v (.func (.func 64) #[] #[])), (7, .v (.int .i64 (k : Int))), (8, .v (.int .i64 (i : Int))), (5, .v (.int .i64 (i : Int)))] ⟨RG.st, RG.st, trivial⟩ ?_
    intro a22 w22 M22
    repeat refine wp_seq ?_
    by_cases h0 : n = 0
    · rw [decide_eq_true h0] at hz
      rw [if_pos h0] at hf
      refine M22.u (FIx_4 g k c i n b true) [(0, .v (.slice (some ⟨g, 0, none⟩) k c)), (1, .v (.func (.func 64) #[] #[])), (7, .v (.int .i64 (k : Int))), (8, .v (.int .i64 (i : Int))), (5, .v (.int .i64 (i : Int))), (16, .v (.bool true))] ⟨RG.st, RG.st, RG.st, RG.cert_idx rfl 54 12 13 rfl (.v (.slice (some ⟨g, 0, none⟩) k c)) (.int .i64 (i : Int)) RG.sx RG.sx (fun μ w => atT _ 0 _ _ i hi w), RG.cert_loadB rfl g (0 + 37 * i) hg List.not_mem_nil 78 14 rfl (wn n ++ bl33 b) rfl RG.sx hri' uT hlen, RG.clB (fun _ _ => by kernel_rfl) (fun w' _ => hz w'), trivial⟩ ?_
      intro a23 w23 M23
      repeat refine wp_seq ?_
      refine wp_cond_true M23.ev ?_
      repeat refine wp_seq ?_
      refine M23.u [.x 17 [] (.int .i64 (i : Int)), .x 4 [(17, 0)] (.int .i64 (i : Int))] [(4, .v (.int .i64 (i : Int)))] ⟨RG.st, RG.st, trivial⟩ ?_
      intro a24 w24 M24
      refine wp_ret ?_
      refine bodyPost_ret (v := .int .i64 (i : Int)) (RG.results_t 4 rfl (.int .i64 (i : Int)) M24.av) M24.sl.defers ?_
      exact ⟨_, rfl, M24.st.bel.below, by rw [hf]⟩
    · rw [decide_eq_false h0] at hz
      rw [if_neg h0] at hf
      refine M22.u (FIx_4 g k c i n b false) [(0, .v (.slice (some ⟨g, 0, none⟩) k c)), (1, .v (.func (.func 64) #[] #[])), (7, .v (.int .i64 (k : Int))), (8, .v (.int .i64 (i : Int))), (16, .v (.bool false))] ⟨RG.st, RG.st, RG.st, RG.cert_idx rfl 54 12 13 rfl (.v (.slice (some ⟨g, 0, none⟩) k c)) (.int .i64 (i : Int)) RG.sx RG.sx (fun μ w => atT _ 0 _ _ i hi w), RG.cert_loadB rfl g (0 + 37 * i) hg List.not_mem_nil 78 14 rfl (wn n ++ bl33 b) rfl RG.sx hri' uT hlen, RG.clB (fun _ _ => by kernel_rfl) (fun w' _ => hz w'), trivial⟩ ?_
      intro a23 w23 M23
      repeat refine wp_seq ?_
      refine wp_cond_false M23.ev ?_
      refine wp_skip ?_
      repeat refine wp_seq ?_
      refine M23.u [.x 18 [] (.int .i64 ((i + 1 : Nat) : Int)), .x 8 [(18, 0)] (.int .i64 ((i + 1 : Nat) : Int))] [(0, .v (.slice (some ⟨g, 0, none⟩) k c)), (1, .v (.func (.func 64) #[] #[])), (7, .v (.int .i64 (k : Int))), (8, .v (.int .i64 ((i + 1 : Nat) : Int)))] ⟨RG.cert_binc rfl .add 3 3 8 (.int .i64 (i : Int)) (.int .i64 1) (.int .i64 ((i + 1 : Nat) : Int)) rfl rfl RG.sx (fun w => by kernel_rfl) (addn i 1 (by omega) (by omega)), RG.st, trivial⟩ ?_
      intro a24 w24 M24
      show ∃ n', _
      exact ⟨m2, by omega, i + 1, by omega, hf, M24⟩
  · have hik : m' = 0 := by omega
    rw [hik] at hf
    unfold firstZ at hf
    repeat refine wp_seq ?_
    refine M20.u (FIx_2 false) [(9, .v (.bool false))] ⟨RG.cert_bin rfl .lss 3 3 8 7 (.int .i64 (i : Int)) (.int .i64 (k : Int)) (.bool false) rfl rfl RG.sx RG.sx (fun w => by kernel_rfl) (lssn_f hi), trivial⟩ ?_
    intro a21 w21 M21
    repeat refine wp_seq ?_
    refine wp_cond_false M21.ev ?_
    refine wp_exit ?_
    dsimp only [Exit.then, Exit.inBlock]
    rw [if_pos rfl]
    repeat refine wp_seq ?_
    refine M21.u [.x 4 [] (.int .i64 (-1))] [(4, .v (.int .i64 (-1)))] ⟨RG.st, trivial⟩ ?_
    intro a22 w22 M22
    refine wp_ret ?_
    refine bodyPost_ret (v := .int .i64 (-1)) (RG.results_t 4 rfl (.int .i64 (-1)) M22.av) M22.sl.defers ?_
    exact ⟨_, rfl, M22.st.bel.below, by rw [← hf]⟩
end Go.Proofs.YtmepmoalhgehhaaGreatDoor
namespace Go.Proofs.YtmepmoalhgehhaaGreatDoor
open Go.RowKit Go.Sort Go.Deep
theorem firstZ_none {ns : Nat → Nat} : ∀ (m i : Nat), (∀ j, i ≤ j → j < i + m → ns j ≠ 0) → firstZ ns i m = -1
  | 0, _, _ => rfl
  | m + 1, i, h => by
    unfold firstZ
    rw [if_neg (h i (Nat.le_refl _) (by omega))]
    exact firstZ_none m (i + 1) (fun j h1 h2 => h j (by omega) (by omega))
set_option maxHeartbeats 2000000 in
set_option maxRecDepth 100000 in
/-- Where no term is taken 0 times, nothing is struck out. -/
theorem delete_none (g k c : Nat) (hk : k ≤ 1000000) (ns : Nat → Nat) (az : Nat → Bs) (hn : ∀ j, j < k → ns j < top) (hn0 : ∀ j, j < k → ns j ≠ 0) (ha : ∀ j, j < k → (az j).size = 33) (w : World) (hg : g < w.heap.size) (hr : ∀ j, j < k → w.rangeAt g (37 * j) (wn (ns j) ++ bl33 (az j))) :
    Calls Tryz.prog 63 #[(.slice (some ⟨g, 0, none⟩) k c), (.func (.func 64) #[] #[])] w (Ret fun e w' => Below w.heap.size w w' ∧ e = (.slice (some ⟨g, 0, none⟩) k c)) := by
  have hI : ∀ w', RG.BelX w.heap.size [] w w' → Calls Tryz.prog 88 #[(.slice (some ⟨g, 0, none⟩) k c), (.func (.func 64) #[] #[])] w' (Ret fun e w'' => Below w'.heap.size w' w'' ∧ e = .int .i64 (-1)) := fun w' hb => by
    have h := index_c g k c hk ns az hn ha w' (Nat.lt_of_lt_of_le hg hb.below.size) (fun j hj => RG.range_below (hr j hj) hb.below hg)
    rw [firstZ_none k 0 (fun j _ h2 => hn0 j (by omega))] at h
    exact h
  go_enter Tryz.func63, Tryz.ntmps63
  refine RG.M.enter [(0, .v (.slice (some ⟨g, 0, none⟩) k c)), (1, .v (.func (.func 64) #[] #[]))] 42 (by kernel_rfl) ?_
  intro a0 M0
  repeat refine wp_seq ?_
  refine M0.u [.x 4 [] (.slice none 0 0)] [(0, .v (.slice (some ⟨g, 0, none⟩) k c)), (1, .v (.func (.func 64) #[] #[]))] ⟨RG.st, trivial⟩ ?_
  intro a1 w1 M1
  repeat refine wp_seq ?_
  refine M1.u [.x 8 [] (.slice (some ⟨g, 0, none⟩) k c), .x 9 [] (.func (.func 64) #[] #[]), .c 10 [(8, 0), (9, 1)] (.int .i64 (-1)), .x 5 [(10, 2)] (.int .i64 (-1))] [(0, .v (.slice (some ⟨g, 0, none⟩) k c)), (5, .v (.int .i64 (-1)))] ⟨RG.st, RG.st, RG.clB (fun _ _ => by kernel_rfl) hI, RG.st, trivial⟩ ?_
  intro a2 w2 M2
  repeat refine wp_seq ?_
  refine M2.u [.x 11 [] (.int .i64 (-1)), .x 12 [(11, 0)] (.bool true)] [(0, .v (.slice (some ⟨g, 0, none⟩) k c)), (12, .v (.bool true))] ⟨RG.st, RG.st, trivial⟩ ?_
  intro a3 w3 M3
  repeat refine wp_seq ?_
  refine wp_cond_true M3.ev ?_
  repeat refine wp_seq ?_
  refine M3.u [.x 13 [] (.slice (some ⟨g, 0, none⟩) k c), .x 4 [(13, 0)] (.slice (some ⟨g, 0, none⟩) k c)] [(4, .v (.slice (some ⟨g, 0, none⟩) k c))] ⟨RG.st, RG.st, trivial⟩ ?_
  intro a4 w4 M4
  refine wp_ret ?_
  refine bodyPost_ret (v := (.slice (some ⟨g, 0, none⟩) k c)) (RG.results_t 4 rfl _ M4.av) M4.sl.defers ?_
  exact ⟨_, rfl, M4.st.bel.below, rfl⟩
end Go.Proofs.YtmepmoalhgehhaaGreatDoor
namespace Go.Proofs.YtmepmoalhgehhaaGreatDoor
open Go.RowKit Go.Sort Go.Deep
theorem undM : Tryz.prog.underlying 109 = some (.map 52 3) := by kernel_rfl
theorem zero3 (w : World) : (zeroValue 3).run Tryz.prog w = .ok (.int .i64 0) w := by kernel_rfl
theorem ents_snoc (b : Bs) : ∀ (D : List Bs) (i : Nat), ents (D ++ [b]) i = ents D i ++ [{ key := .agg (bl33 b).toArray, val := .int .i64 ((i + D.length : Nat) : Int), born := i + D.length }]
  | [], i => rfl
  | k :: r, i => by
    rw [List.cons_append]
    unfold ents
    rw [ents_snoc b r (i + 1), List.length_cons, show i + 1 + r.length = i + (r.length + 1) by omega]
    rfl
theorem look_run {b : Bs} (hb : b.size = 33) (D : List Bs) (hD : ∀ k ∈ D, k.size = 33) (m clock : Nat) (w : World) (hm : w.heap[m]? = some (.map (ents D 0).toArray clock)) :
    (Instr.lookup 109 (.map (some m)) (.agg (bl33 b).toArray) true).run Tryz.prog w = .ok (.tuple #[.int .i64 (((at? b D 0).getD 0 : Nat) : Int), .bool (at? b D 0).isSome]) w := by
  have h1 := run_underlying undM w
  have h2 := fun e => checkCP hb e w
  have h3 := key_run hb D hD w
  have h4 : (getObj m).run Tryz.prog w = .ok (.map (ents D 0).toArray clock) w := by
    simp [getObj, Sem.run, hm]
  unfold Instr.lookup
  simp only [Sem.run_bind, h1, Result.andThen_ok, h4, Sem.run_pure, h2, h3]
  cases h : at? b D 0 with
  | none => simp [Sem.run_bind, zero3]
  | some j => simp
theorem upd_run {b : Bs} (hb : b.size = 33) (D : List Bs) (hD : ∀ k ∈ D, k.size = 33) (m : Nat) (w : World) (hm : w.heap[m]? = some (.map (ents D 0).toArray D.length)) (hn : at? b D 0 = none) :
    (Instr.mapUpdate 109 (.map (some m)) (.agg (bl33 b).toArray) (.int .i64 (D.length : Int))).run Tryz.prog w = .ok () (w.putObj m (.map (ents (D ++ [b]) 0).toArray (D.length + 1))) := by
  have h1 := run_underlying undM w
  have h2 := fun e => checkCP hb e w
  have h3 := key_run hb D hD w
  rw [hn] at h3
  have h4 : (getObj m).run Tryz.prog w = .ok (.map (ents D 0).toArray D.length) w := by
    simp [getObj, Sem.run, hm]
  unfold Instr.mapUpdate
  simp only [Sem.run_bind, h1, Result.andThen_ok, h4, Sem.run_pure, h2, h3]
  rw [ents_snoc, Nat.zero_add]
  simp [setObj, Sem.run, hm, World.putObj]
end Go.Proofs.YtmepmoalhgehhaaGreatDoor
namespace Go.Proofs.YtmepmoalhgehhaaGreatDoor
open Go.RowKit Go.Sort Go.Deep
theorem undS : Tryz.prog.underlying 54 = some (.slice 78) := by kernel_rfl
theorem infoT : (Tryz.prog.info? 78).map (fun i => (i.size, i.bytes, i.zero.map fun z => z.cells.size)) = some (37, 72, some 37) := by kernel_rfl
theorem cells_one (n : Nat) (a : Bs) : ∀ u ∈ wn n ++ bl33 a, u.oneCell' = true := by
  intro u hu
  rcases List.mem_append.1 hu with h | h
  · unfold wn at h
    simp only [List.mem_cons, List.not_mem_nil, or_false] at h
    rcases h with rfl | rfl | rfl | rfl <;> rfl
  · obtain ⟨x, -, rfl⟩ := List.mem_map.1 h
    rfl
/-- A term is appended to terms of one's own. -/
theorem app_term {base k g n : Nat} {v : Value} {xs : List Value} {a : Bs} (ha : a.size = 33) {W : World} (hown : W.ownsRow base 78 37 v k xs) (hR : Row W g (wn n ++ bl33 a)) (hk : k ≤ 1000000) (hb : base ≤ W.heap.size) :
    ∃ v' W', (Builtin.append_ #[54, 54] 54 #[v, .slice (some ⟨g, 0, none⟩) 1 1]).run Tryz.prog W = .ok v' W' ∧ W'.ownsRow base 78 37 v' (k + 1) (xs ++ (wn n ++ bl33 a)) ∧ W.grownBy W' v.ownBlock := by
  obtain ⟨i, hi, he⟩ := Option.map_eq_some_iff.1 infoT
  simp only [Prod.mk.injEq] at he
  obtain ⟨h1, h2, h3⟩ := he
  obtain ⟨z, hz, hz2⟩ := Option.map_eq_some_iff.1 h3
  obtain ⟨v', W', r1, r2, r3, -⟩ := run_append_own (P := Tryz.prog) W base 54 54 78 i z 37 72 undS hi hz h1 h2 hz2 (by decide) v k xs hown ⟨g, 0, none⟩ 1 1 (wn n ++ bl33 a) (by rw [List.length_append, bl33_length ha]; rfl)
    (fun j u hj => by
      have := hR.2.1 j u hj
      rw [Nat.zero_add] at this
      rw [show (⟨g, 0, none⟩ : Addr).add j = ⟨g, j, none⟩ by unfold Addr.add; split <;> simp_all]
      exact this) (cells_one n a) (by unfold maxLen; omega) (by omega) hb
  exact ⟨v', W', r1, r2, r3⟩
/-- The terms of a sum, each point once. -/
def addT (N : Nat) : List (Nat × Bs) → Nat → Bs → List (Nat × Bs)
  | [], n, p => [(n, p)]
  | (s, q) :: r, n, p => if p = q then (sPl N s n, q) :: r else (s, q) :: addT N r n p
def mrg (N : Nat) (ns : Nat → Nat) (az : Nat → Bs) : Nat → List (Nat × Bs)
  | 0 => []
  | i + 1 => addT N (mrg N ns az i) (ns i) (az i)
def cellsT (l : List (Nat × Bs)) : List Value := l.flatMap fun x => wn x.1 ++ bl33 x.2
theorem addT_new {N n : Nat} {p : Bs} : ∀ {l : List (Nat × Bs)}, at? p (l.map (·.2)) 0 = none → addT N l n p = l ++ [(n, p)]
  | [], _ => rfl
  | (s, q) :: r, h => by
    have h2 := at?_none.1 h
    rw [List.map_cons, List.mem_cons, not_or] at h2
    unfold addT
    rw [if_neg h2.1, addT_new (l := r) (at?_none.2 h2.2)]
    rfl
theorem cellsT_snoc (l : List (Nat × Bs)) (n : Nat) (p : Bs) : cellsT (l ++ [(n, p)]) = cellsT l ++ (wn n ++ bl33 p) := by
  unfold cellsT
  rw [List.flatMap_append]
  simp
end Go.Proofs.YtmepmoalhgehhaaGreatDoor
namespace Go.Proofs.YtmepmoalhgehhaaGreatDoor
open Go.RowKit Go.Sort Go.Deep
variable {N : Nat}
/-- The map and the terms, apart. -/
structure Mx (w W : World) (m : Nat) (l : List (Nat × Bs)) (v : Value) : Prop where
  bl : Below w.heap.size w W
  mp : W.heap[m]? = some (.map (ents (l.map (·.2)) 0).toArray l.length)
  lm : w.heap.size ≤ m
  ow : W.ownsRow w.heap.size 78 37 v l.length (cellsT l)
theorem Mx.own_ne {w W : World} {m : Nat} {l : List (Nat × Bs)} {v : Value} (h : Mx w W m l v) {g : Nat} (hg : v.ownBlock = some g) : g ≠ m ∧ w.heap.size ≤ g ∧ g < W.heap.size := by
  rcases h.ow.2 with ⟨rfl, -⟩ | ⟨g', cap, cur, rfl, h1, h2, -⟩
  · cases hg
  · obtain rfl : g' = g := by simpa [Value.ownBlock] using hg
    refine ⟨fun e => ?_, h1, (Array.getElem?_eq_some_iff.1 h2).1⟩
    have := h.mp
    rw [← e, h2] at this
    cases this
theorem owns_kept {W W' : World} {base k : Nat} {e : TypeId} {s : Nat} {v : Value} {xs : List Value} (h : W.ownsRow base e s v k xs) (hk : ∀ g, v.ownBlock = some g → W'.heap[g]? = W.heap[g]?) : W'.ownsRow base e s v k xs := by
  refine ⟨h.1, ?_⟩
  rcases h.2 with h2 | ⟨g, cap, cur, rfl, h1, h2, h3⟩
  · exact Or.inl h2
  · exact Or.inr ⟨g, cap, cur, rfl, h1, by rw [hk g rfl]; exact h2, h3⟩
/-- What leaves the map and the terms alone. -/
theorem Mx.kept {w W W' : World} {m : Nat} {l : List (Nat × Bs)} {v : Value} (h : Mx w W m l v) (hb : Below W.heap.size W W') : Mx w W' m l v :=
  ⟨h.bl.trans (hb.mono h.bl.size), by rw [hb.block m (Array.getElem?_eq_some_iff.1 h.mp).1]; exact h.mp, h.lm, owns_kept h.ow fun g hg => hb.block g (h.own_ne hg).2.2⟩
theorem ents_map (l : List (Nat × Bs)) (n : Nat) (p : Bs) : (l ++ [(n, p)]).map (·.2) = l.map (·.2) ++ [p] := by simp
theorem Mx.push {w W : World} {m : Nat} {l : List (Nat × Bs)} {v : Value} (h : Mx w W m l v) {p : Bs} (hp : p.size = 33) (hk : l.length ≤ 1000000) (n : Nat) :
    ∃ v' W5x, (Builtin.append_ #[54, 54] 54 #[v, .slice (some ⟨W.heap.size, 0, none⟩) 1 1]).run Tryz.prog ((W.putObj m (.map (ents (l.map (·.2) ++ [p]) 0).toArray (l.length + 1))).alloc (.cells (wn n ++ bl33 p).toArray 78)) = .ok v' W5x ∧ Mx w W5x m (l ++ [(n, p)]) v' ∧ W.heap.size < W5x.heap.size ∧ ∀ j, j < W.heap.size → w.heap.size ≤ j → j ≠ m → some j ≠ v.ownBlock → W5x.heap[j]? = W.heap[j]? := by
  obtain ⟨W3, h3⟩ : ∃ W3, W.putObj m (.map (ents (l.map (·.2) ++ [p]) 0).toArray (l.length + 1)) = W3 := ⟨_, rfl⟩
  have s3 : W3.heap.size = W.heap.size := by rw [← h3]; simp [World.putObj]
  have hmW : m < W.heap.size := (Array.getElem?_eq_some_iff.1 h.mp).1
  have o3 : ∀ j, j ≠ m → W3.heap[j]? = W.heap[j]? := fun j hj => by rw [← h3]; exact World.putObj_heap_other hj
  have b3 : Below w.heap.size w W3 := h.bl.trans ⟨by rw [← h3]; rfl, by rw [← h3]; rfl, by rw [← h3]; rfl, by omega, fun j hj => o3 j (by have := h.lm; omega)⟩
  have w3 : W3.ownsRow w.heap.size 78 37 v l.length (cellsT l) := owns_kept h.ow fun g hg => o3 g (h.own_ne hg).1
  have m3 : W3.heap[m]? = some (.map (ents (l.map (·.2) ++ [p]) 0).toArray (l.length + 1)) := by rw [← h3]; exact World.putObj_heap_same hmW
  rw [h3]
  have R4 := row_new W3 (wn n ++ bl33 p) 78
  have b4 := below1 W3 (.cells (wn n ++ bl33 p).toArray 78)
  have s4 : (W3.alloc (.cells (wn n ++ bl33 p).toArray 78)).heap.size = W.heap.size + 1 := by rw [World.size_alloc, s3]
  generalize W3.alloc (.cells (wn n ++ bl33 p).toArray 78) = W4 at R4 b4 s4 ⊢
  have w4 : W4.ownsRow w.heap.size 78 37 v l.length (cellsT l) := owns_kept w3 fun g hg => b4.block g (by have := (h.own_ne hg).2.2; omega)
  rw [s3] at R4
  obtain ⟨v', W5x, r1, r2, r3⟩ := app_term hp w4 R4 hk (by have := b3.size; omega)
  have hm5 : some m ≠ v.ownBlock := fun e => (h.own_ne e.symm).1 rfl
  refine ⟨v', W5x, r1, ⟨?_, ?_, h.lm, ?_⟩, by have := r3.size; omega, fun j hj _ hjm hjo => ?_⟩
  · exact (b3.trans (b4.mono b3.size)).grown r3 (by have := b3.size; omega) (fun k e => (h.own_ne e).2.1)
  · rw [r3.block m (by omega) hm5, b4.block m (by omega), m3, ents_map, List.length_append]
    rfl
  · rw [cellsT_snoc, List.length_append]
    exact r2
  · rw [r3.block j (by omega) hjo, b4.block j (by omega), o3 j hjm]
end Go.Proofs.YtmepmoalhgehhaaGreatDoor
namespace Go.Proofs.YtmepmoalhgehhaaGreatDoor
open Go.RowKit Go.Sort Go.Deep
variable {N : Nat}
section
variable {P : Program} {ops : Array Oper} {rest : List Oper} {op : Oper} {a : Act} {w w' : World} {v x y z : Value} {Q : Exit → Act → World → Prop}
theorem wpList_lk (hgd : op.guard = none) (T : TypeId) (m k : Operand) (ok : Bool) (ho : op.op = .lookup T m k ok) (hm : a.eval m = x) (hk : a.eval k = y) (hr : (Instr.lookup T x y ok).run P w = .ok v w') (h : wpList P ops Q rest (a.put op.dst v) w') : wpList P ops Q (op :: rest) a w :=
  wpList_plain hgd fun K hK => by
    unfold Oper.wp execOp
    simp only [ho, hm, hk, Sem.run_bind, hr, Result.andThen_ok, Sem.run_pure]
    exact hK _ _ h
theorem wpList_mu (hgd : op.guard = none) (T : TypeId) (m k u : Operand) (ho : op.op = .mapUpdate T m k u) (hm : a.eval m = x) (hk : a.eval k = y) (hu : a.eval u = z) (hr : (Instr.mapUpdate T x y z).run P w = .ok () w') (h : wpList P ops Q rest (a.put op.dst undef) w') : wpList P ops Q (op :: rest) a w :=
  wpList_plain hgd fun K hK => by
    unfold Oper.wp execOp
    simp only [ho, hm, hk, hu, Sem.run_bind, hr, Result.andThen_ok, Sem.run_pure]
    exact hK _ _ h
theorem wpList_app (hgd : op.guard = none) (s u : Operand) (t : TypeId) (ho : op.op = .call { callee := .builtin .append, args := #[s, u], argTypes := #[t, t] }) (hs : a.eval s = x) (hu : a.eval u = y) (hr : (Builtin.append_ #[t, t] op.type #[x, y]).run P w = .ok v w') (h : wpList P ops Q rest (a.put op.dst v) w') : wpList P ops Q (op :: rest) a w :=
  wpList_plain hgd fun K hK => by
    unfold Oper.wp execOp
    simp only [ho, resolve, invoke, builtin, Sem.run_bind, Sem.run_pure, Result.andThen_ok, List.map_toArray, List.map_cons, List.map_nil, hs, hu, hr]
    exact hK _ _ h
end
def zT : List Value := [.int .u64 0, .int .u64 0, .int .u64 0, .int .u64 0] ++ z33
theorem owns_form {W : World} {base k : Nat} {e : TypeId} {s : Nat} {v : Value} {xs : List Value} (h : W.ownsRow base e s v k xs) : ∃ q cap, v = .slice q k cap := by
  rcases h.2 with ⟨rfl, rfl⟩ | ⟨g, cap, cur, rfl, -⟩
  · exact ⟨none, 0, rfl⟩
  · exact ⟨some ⟨g, 0, none⟩, cap, rfl⟩
theorem mrg_len (ns : Nat → Nat) (az : Nat → Bs) : ∀ i, (mrg N ns az i).length ≤ i
  | 0 => Nat.le_refl _
  | i + 1 => by
    have ih := mrg_len ns az i
    have h : ∀ (l : List (Nat × Bs)) n p, (addT N l n p).length ≤ l.length + 1 := by
      intro l n p
      induction l with
      | nil => exact Nat.le_refl _
      | cons x r ihr =>
        unfold addT
        split
        · simp
        · simp only [List.length_cons]; omega
    exact Nat.le_trans (h _ _ _) (by omega)
theorem mrg_size (ns : Nat → Nat) (az : Nat → Bs) {k : Nat} (ha : ∀ j, j < k → (az j).size = 33) : ∀ i, i ≤ k → ∀ x ∈ (mrg N ns az i).map (·.2), x.size = 33
  | 0, _ => fun x hx => by cases hx
  | i + 1, hi => by
    have ih := mrg_size ns az ha i (by omega)
    have h : ∀ (l : List (Nat × Bs)) n p, p.size = 33 → (∀ x ∈ l.map (·.2), x.size = 33) → ∀ x ∈ (addT N l n p).map (·.2), x.size = 33 := by
      intro l n p hp
      induction l with
      | nil => intro _ x hx; simp [addT] at hx; rw [hx]; exact hp
      | cons y r ihr =>
        intro hl x hx
        unfold addT at hx
        split at hx
        · exact hl x (by simpa using hx)
        · rw [List.map_cons, List.mem_cons] at hx
          rcases hx with hx | hx
          · exact hl x (by rw [hx]; simp)
          · exact ihr (fun z hz => hl z (List.mem_cons_of_mem _ hz)) x hx
    exact h _ _ _ (ha i (by omega)) ih
theorem cellsT_at : ∀ (l : List (Nat × Bs)), (∀ x ∈ l.map (·.2), x.size = 33) → ∀ (j : Nat) (hj : j < l.length) (t : Nat), t < 37 → (cellsT l)[37 * j + t]? = (wn (l[j]).1 ++ bl33 (l[j]).2)[t]?
  | [], _, j, hj, _, _ => by cases hj
  | x :: r, hs, j, hj, t, ht => by
    have hx : (wn x.1 ++ bl33 x.2).length = 37 := by rw [List.length_append, bl33_length (hs x.2 (by simp))]; rfl
    have e : cellsT (x :: r) = (wn x.1 ++ bl33 x.2) ++ cellsT r := by unfold cellsT; rw [List.flatMap_cons]
    rw [e]
    cases j with
    | zero =>
      rw [Nat.mul_zero, Nat.zero_add, List.getElem?_append_left (by omega)]
      rfl
    | succ j =>
      rw [List.getElem?_append_right (by omega), hx, show 37 * (j + 1) + t - 37 = 37 * j + t by omega, cellsT_at r (fun y hy => hs y (List.mem_cons_of_mem _ hy)) j (by simpa using hj) t ht]
      rfl
theorem owns_rows {W : World} {base : Nat} {v : Value} {l : List (Nat × Bs)} (h : W.ownsRow base 78 37 v l.length (cellsT l)) (hs : ∀ x ∈ l.map (·.2), x.size = 33) (hl : 0 < l.length) :
    ∃ g cap, v = .slice (some ⟨g, 0, none⟩) l.length cap ∧ base ≤ g ∧ g < W.heap.size ∧ ∀ j (hj : j < l.length), W.rangeAt g (37 * j) (wn (l[j]).1 ++ bl33 (l[j]).2) := by
  have h0 := h
  rcases h.2 with ⟨-, h2⟩ | ⟨g, cap, cur, rfl, h1, h2, h3⟩
  · omega
  · refine ⟨g, cap, rfl, h1, (Array.getElem?_eq_some_iff.1 h2).1, fun j hj t u hu => ?_⟩
    have ht : t < 37 := by
      have := (List.getElem?_eq_some_iff.1 hu).1
      rw [List.length_append, bl33_length (hs _ (List.mem_map.2 ⟨_, List.getElem_mem hj, rfl⟩))] at this
      exact this
    have hc := h0.cells (g := g) rfl (37 * j + t) u (by rw [cellsT_at l hs j hj t ht]; exact hu)
    have e : (⟨g, 0, none⟩ : Addr).add (37 * j + t) = ⟨g, 37 * j + t, none⟩ := by
      unfold Addr.add
      split
      · rename_i h; rw [h]
      · simp
    rw [e] at hc
    exact hc
set_option maxHeartbeats 1000000 in
set_option maxRecDepth 100000 in
theorem merged_g (R : Value → World → Prop) (g k c : Nat) (hk : k ≤ 1000) (ns : Nat → Nat) (az : Nat → Bs) (ha : ∀ j, j < k → (az j).size = 33) (hd : ∀ i, i < k → at? (az i) ((mrg N ns az i).map (·.2)) 0 = none) (w : World) (hg : g < w.heap.size) (hr : ∀ j, j < k → w.rangeAt g (37 * j) (wn (ns j) ++ bl33 (az j)))
    (hdel : ∀ W v, Mx w W w.heap.size (mrg N ns az k) v → Calls Tryz.prog 63 #[v, .func (.func 64) #[] #[]] W (Ret R)) :
    Calls Tryz.prog 36 #[.slice (some ⟨g, 0, none⟩) k c] w (Ret R) := by
  have HDEL := Hid.mk' hdel
  clear hdel
  have hmm : (Instr.makeMap 109 none).run Tryz.prog w = .ok (.map (some w.heap.size)) (w.alloc (.map #[] 0)) := by kernel_rfl
  obtain ⟨w1, hw1⟩ : ∃ w1, Hid (w.alloc (.map #[] 0) = w1) := ⟨_, rfl⟩
  rw [hw1.out] at hmm
  have M1 : Hid (Mx w w1 w.heap.size (mrg N ns az 0) (.slice none 0 0)) := by
    rw [← hw1.out]
    exact ⟨below1 w _, by show (w.heap.push (.map #[] 0))[w.heap.size]? = _; rw [Array.getElem?_push_size]; rfl, Nat.le_refl _, rfl, Or.inl ⟨rfl, rfl⟩⟩
  have HH : Hid (True ∧ (∀ j, j < k → (az j).size = 33) ∧ (∀ i, i < k → at? (az i) ((mrg N ns az i).map (·.2)) 0 = none) ∧ g < w.heap.size ∧ ∀ j, j < k → w.rangeAt g (37 * j) (wn (ns j) ++ bl33 (az j))) := ⟨trivial, ha, hd, hg, hr⟩
  obtain ⟨d, hd1, hd2⟩ := Option.map_eq_some_iff.1 uCP
  obtain ⟨d', hd3, hd4⟩ := Option.map_eq_some_iff.1 uT
  have HD : Hid ((Tryz.prog.underlying 52 = some d ∧ d.isRow = true) ∧ Tryz.prog.underlying 78 = some d' ∧ d'.isRow = true) := ⟨⟨hd1, hd2⟩, hd3, hd4⟩
  clear hd1 hd2 hd3 hd4 hw1 ha hd hg hr
  go_enter Tryz.func36, Tryz.ntmps36
  go_wp2
  clear hmm
  go_loopg [4, 12] k (fun q s4 s12 W => ∃ i : Nat, i + q = k ∧ s12 = .int .i64 (i : Int) ∧ Hid (Mx w W w.heap.size (mrg N ns az i) s4))
  case atStart => exact ⟨0, by omega, rfl, M1⟩
  case round =>
    clear M1
    obtain ⟨i, hik, rfl, KM⟩ := hrel
    by_cases hi : i < k
    · have hi' : (i : Int) < (k : Int) := by omega
      obtain ⟨n, hne⟩ : ∃ n, Hid (ns i = n) := ⟨_, rfl⟩
      obtain ⟨p, hpe⟩ : ∃ p, Hid (az i = p) := ⟨_, rfl⟩
      obtain ⟨l, hl⟩ : ∃ l, Hid (mrg N ns az i = l) := ⟨_, rfl⟩
      rw [hl.out] at KM
      have hps : Hid (p.size = 33) := by have := HH.out.2.1 i hi; rw [hpe.out] at this; exact this
      have hll : Hid (l.length ≤ i) := by have := mrg_len (N := N) ns az i; rw [hl.out] at this; exact this
      obtain ⟨q, cap, rfl⟩ := owns_form KM.out.ow
      obtain ⟨W1, hW1⟩ : ∃ W1, Hid (wr.alloc (.cells zT.toArray 78) = W1) := ⟨_, rfl⟩
      obtain ⟨W2, hW2⟩ : ∃ W2, Hid (W1.setCells wr.heap.size 0 (wn n ++ bl33 p) = W2) := ⟨_, rfl⟩
      have hlen : (wn n ++ bl33 p).length = 37 := by rw [List.length_append, bl33_length hps.out]; rfl
      have F1 : Hid (Row W1 wr.heap.size zT ∧ Below wr.heap.size wr W1 ∧ W1.heap.size = wr.heap.size + 1) := by rw [← hW1.out]; exact ⟨row_new wr _ _, below1 wr _, World.size_alloc _ _⟩
      have F2 : Hid (Row W2 wr.heap.size (wn n ++ bl33 p) ∧ Below wr.heap.size wr W2 ∧ W2.heap.size = wr.heap.size + 1) := by rw [← hW2.out]; exact ⟨F1.out.1.put (by rw [hlen]; rfl), RG.below_setCells (Nat.le_refl _) _ _ _ F1.out.2.1, by rw [RG.setCells_size]; exact F1.out.2.2⟩
      have K2 : Hid (Mx w W2 w.heap.size l (.slice q l.length cap)) := KM.out.kept F2.out.2.1
      have hnone : Hid (at? p (l.map (·.2)) 0 = none) := by have := HH.out.2.2.1 i hi; rw [hpe.out, hl.out] at this; exact this
      have hsz : ∀ x ∈ l.map (·.2), x.size = 33 := by have := mrg_size (N := N) ns az HH.out.2.1 i (by omega); rw [hl.out] at this; exact this
      have B1 := Hid.mk' (look_run hps.out (l.map (·.2)) hsz w.heap.size l.length W2 K2.out.mp)
      rw [hnone.out] at B1
      have B2 : Hid ((Instr.mapUpdate 109 (.map (some w.heap.size)) (.agg (bl33 p).toArray) (.int .i64 (l.length : Int))).run Tryz.prog W2 = .ok () (W2.putObj w.heap.size (.map (ents (l.map (·.2) ++ [p]) 0).toArray (l.length + 1)))) := by
        have h := upd_run hps.out (l.map (·.2)) hsz w.heap.size W2 (by rw [List.length_map]; exact K2.out.mp) hnone.out
        rw [List.length_map] at h
        exact h
      obtain ⟨v', W5x, happ, K5, lt5, -⟩ := K2.out.push hps.out (by have := hll.out; omega) n
      obtain ⟨W3, hW3⟩ : ∃ W3, Hid (W2.putObj w.heap.size (.map (ents (l.map (·.2) ++ [p]) 0).toArray (l.length + 1)) = W3) := ⟨_, rfl⟩
      have F3 : Hid (Row W3 wr.heap.size (wn n ++ bl33 p) ∧ W3.heap.size = wr.heap.size + 1) := by rw [← hW3.out]; exact ⟨F2.out.1.putObj K2.out.mp rfl _, by simp [World.putObj]; exact F2.out.2.2⟩
      have B3 := Hid.mk' (bslT hps.out n W3)
      obtain ⟨W4, hW4⟩ : ∃ W4, Hid (W3.alloc (.cells (wn n ++ bl33 p).toArray 78) = W4) := ⟨_, rfl⟩
      rw [hW3.out] at B2 happ
      rw [hW4.out] at B3 happ
      rw [F3.out.2] at B3
      rw [F2.out.2.2] at happ
      have K5' : Hid (Mx w W5x w.heap.size (mrg N ns az (i + 1)) v') := by
        have e : mrg N ns az (i + 1) = l ++ [(n, p)] := by
          show addT N (mrg N ns az i) (ns i) (az i) = _
          rw [hl.out, hne.out, hpe.out]
          exact addT_new hnone.out
        rw [e]; exact K5
      have B0 : Hid (wr.rangeAt g (37 * i) (wn n ++ bl33 p)) := by
        have h := RG.range_below (HH.out.2.2.2.2 i hi) KM.out.bl HH.out.2.2.2.1
        rw [hne.out, hpe.out] at h
        exact h
      have HLT : Hid ((Tryz.prog.info? 78).map (·.size) = some (wn n ++ bl33 p).length) := by show _ = _; rw [hlen]; exact iT
      have HLS : Hid ((Tryz.prog.info? 78).map (·.size) = some (wn n ++ bl33 p).toArray.size ∧ W1.there wr.heap.size 0 (wn n ++ bl33 p).toArray.size) := by
        have e : (wn n ++ bl33 p).toArray.size = 37 := by rw [List.size_toArray]; exact hlen
        rw [e]; exact ⟨iT, F1.out.1.2.2⟩
      have HLP : Hid ((Tryz.prog.info? 52).map (·.size) = some (bl33 p).length) := by show _ = _; rw [bl33_length hps.out]; exact infoCP
      have HB : Hid (W2.rangeAt wr.heap.size 4 (bl33 p)) := range_back (xs := wn n) F2.out.1.2.1
      have HAL : Hid ((wn n ++ bl33 p).toArray.all (·.oneCell') = true) := by
        show _ = _
        rw [Array.all_eq_true']
        intro u hu
        exact cells_one n p u (List.mem_toArray.1 hu)
      have hix := atT g 0 k c i hi
      have HAP := Hid.mk' happ
      clear happ
      obtain ⟨vt, hvt⟩ : ∃ v, Hid (Value.agg (wn n ++ bl33 p).toArray = v) := ⟨_, rfl⟩
      obtain ⟨vp, hvp⟩ : ∃ v, Hid (Value.agg (bl33 p).toArray = v) := ⟨_, rfl⟩
      rw [hvp.out] at B1 B2
      rw [hvt.out] at B3
      clear hlen hsz K5 lt5 hW4 hW3 K2 KM
      go_wp2_with (first | (refine wpList_load_mid rfl 78 _ rfl g (37 * i) ?_ (wn n ++ bl33 p) d' ?_ ?_ ?_ ?_ ?_; rfl; exact B0.out; exact HD.out.2.1; exact HD.out.2.2; exact HLT.out; rw [hvt.out]) | (refine wpList_op (v := .pointer (some ⟨wr.heap.size, 0, none⟩)) (w' := W1) rfl (.alloc 78) rfl ?_ ?_; (rw [← hW1.out]; kernel_rfl)) | (refine wpList_store_mid rfl 78 _ _ rfl wr.heap.size 0 (wn n ++ bl33 p).toArray ?_ ?_ ?_ ?_ ?_ ?_; rfl; exact hvt.out.symm; exact HLS.out.2; exact HLS.out.1; exact HAL.out; rw [show (wn n ++ bl33 p).toArray.toList = wn n ++ bl33 p from rfl, hW2.out]) | (refine wpList_load_mid rfl 52 _ rfl wr.heap.size 4 ?_ (bl33 p) d ?_ ?_ ?_ ?_ ?_; rfl; exact HB.out; exact HD.out.1.1; exact HD.out.1.2; exact HLP.out; rw [hvp.out]) | (refine wpList_lk (x := .map (some w.heap.size)) (y := vp) (w' := W2) rfl 109 _ _ true rfl ?_ ?_ B1.out ?_; rfl; rfl) | (refine wpList_mu (x := .map (some w.heap.size)) (y := vp) (z := .int .i64 (l.length : Int)) (w' := W3) rfl 109 _ _ _ rfl ?_ ?_ ?_ B2.out ?_; rfl; rfl; rfl) | (refine wpList_load_mid rfl 78 _ rfl wr.heap.size 0 ?_ (wn n ++ bl33 p) d' ?_ ?_ ?_ ?_ ?_; rfl; exact F3.out.1.2.1; exact HD.out.2.1; exact HD.out.2.2; exact HLT.out; rw [hvt.out]) | (refine wpList_bsl (v := .slice (some ⟨wr.heap.size + 1, 0, none⟩) 1 1) (w' := W4) rfl 54 1 _ rfl #[(0, vt)] ?_ B3.out ?_; kernel_rfl) | (refine wpList_app (x := .slice q l.length cap) (y := .slice (some ⟨wr.heap.size + 1, 0, none⟩) 1 1) (v := v') (w' := W5x) rfl _ _ 54 rfl ?_ ?_ ?_ ?_; rfl; rfl; exact HAP.out))
      go_roundg (gk - 1)
      case measure => omega
      case rel => exact ⟨i + 1, by omega, rfl, K5'⟩
    · have hi' : ¬ (i : Int) < (k : Int) := by omega
      obtain rfl : i = k := by omega
      go_wp2_with fail
      refine (HDEL.out wr _ KM.out).mono ?_
      rintro e w9 ⟨vv, rfl, hR9⟩
      have HR9 := Hid.mk' hR9
      clear hR9 HDEL
      go_wp2
      go_ret
      exact ⟨_, rfl, HR9.out⟩
theorem merged_d (g k c : Nat) (hk : k ≤ 1000) (ns : Nat → Nat) (az : Nat → Bs) (ha : ∀ j, j < k → (az j).size = 33) (hd : ∀ i, i < k → at? (az i) ((mrg N ns az i).map (·.2)) 0 = none) (hz : ∀ x ∈ mrg N ns az k, x.1 ≠ 0 ∧ x.1 < top) (hk0 : 0 < (mrg N ns az k).length) (w : World) (hg : g < w.heap.size) (hr : ∀ j, j < k → w.rangeAt g (37 * j) (wn (ns j) ++ bl33 (az j))) :
    Calls Tryz.prog 36 #[.slice (some ⟨g, 0, none⟩) k c] w (Ret fun e w' => Below w.heap.size w w' ∧ ∃ g' cap, e = .slice (some ⟨g', 0, none⟩) (mrg N ns az k).length cap ∧ w.heap.size ≤ g' ∧ g' < w'.heap.size ∧ ∀ j (hj : j < (mrg N ns az k).length), w'.rangeAt g' (37 * j) (wn ((mrg N ns az k)[j]).1 ++ bl33 ((mrg N ns az k)[j]).2)) := by
  refine merged_g _ g k c hk ns az ha hd w hg hr fun W v hM => ?_
  have hms := mrg_size (N := N) ns az ha k (Nat.le_refl _)
  have hml := mrg_len (N := N) ns az k
  generalize mrg N ns az k = l at hM hms hml hz hk0 ⊢
  obtain ⟨g', cap, rfl, h1, h2, h3⟩ := owns_rows hM.ow hms hk0
  refine (delete_none g' l.length cap (by omega) (fun j => ((l[j]?).getD (0, #[])).1) (fun j => ((l[j]?).getD (0, #[])).2) (fun j hj => by rw [List.getElem?_eq_getElem hj]; exact (hz _ (List.getElem_mem hj)).2) (fun j hj => by rw [List.getElem?_eq_getElem hj]; exact (hz _ (List.getElem_mem hj)).1) (fun j hj => by rw [List.getElem?_eq_getElem hj]; exact hms _ (List.mem_map.2 ⟨_, List.getElem_mem hj, rfl⟩)) W h2 (fun j hj => by rw [List.getElem?_eq_getElem hj]; exact h3 j hj)).mono ?_
  rintro e w9 ⟨vv, rfl, hb9, rfl⟩
  exact ⟨_, rfl, hM.bl.trans (hb9.mono hM.bl.size), g', cap, rfl, h1, Nat.lt_of_lt_of_le h2 hb9.size, fun j hj => RG.range_below (h3 j hj) hb9 h2⟩
end Go.Proofs.YtmepmoalhgehhaaGreatDoor
namespace Go.Proofs.YtmepmoalhgehhaaGreatDoor
open Go.RowKit Go.Sort Go.Deep
theorem zeroTm (w : World) : (zeroValue 78).run Tryz.prog w = .ok (.agg zT.toArray) w := by kernel_rfl
theorem zeroTc : (Builtin.zeroCells (Value.agg zT.toArray).cells 1).toList = zT := by kernel_rfl
theorem zT_one : ∀ v ∈ zT, v.oneCell' = true := by
  intro v hv
  unfold zT z33 at hv
  rcases List.mem_append.1 hv with h | h
  · simp only [List.mem_cons, List.not_mem_nil, or_false] at h
    rcases h with rfl | rfl | rfl | rfl <;> rfl
  · rw [(List.mem_replicate.1 h).2]; rfl
theorem zT_len : zT.length = 37 := by kernel_rfl
set_option maxRecDepth 10000 in
theorem clearT (g c : Nat) (ty : TypeId) (w : World) (h : w.there g 0 37) : (Builtin.clear_ #[54] ty #[.slice (some ⟨g, 0, none⟩) 1 c]).run Tryz.prog w = .ok (.tuple #[]) (w.setCells g 0 zT) := by
  have h1 := zeroTm w
  have h2 := zeroTc
  have h3 := run_underlying undS w
  have h4 : (storeCells ⟨g, 0, none⟩ zT).run Tryz.prog w = .ok () (w.setCells g 0 zT) := by
    have h5 := run_storeCells_cells (P := Tryz.prog) g 0 zT 0 w (fun j hj => by rw [zT_len] at hj; have := (h j hj).1; simpa using this) (fun j hj => by rw [zT_len] at hj; have := (h j hj).2; simpa using this) zT_one
    exact h5
  generalize zT = Z at h1 h2 h4 ⊢
  unfold Builtin.clear_
  simp [Sem.run_bind, h3, h1, h2, h4]
/-- The list of one term that is taken 0 times: nothing is left. -/
theorem delete_zero (g c : Nat) (a : Bs) (ha : a.size = 33) (w : World) (hR : Row w g (wn 0 ++ bl33 a)) (hc : 1 ≤ c) :
    Calls Tryz.prog 63 #[.slice (some ⟨g, 0, none⟩) 1 c, .func (.func 64) #[] #[]] w (Ret fun e w' => (∀ j, j < w.heap.size → j ≠ g → w'.heap[j]? = w.heap[j]?) ∧ w.heap.size ≤ w'.heap.size ∧ Below g w w' ∧ e = .slice (some ⟨g, 0, none⟩) 0 c) := by
  have hI := index_c g 1 c (by decide) (fun _ => 0) (fun _ => a) (fun _ _ => by show 0 < top; unfold top; omega) (fun _ _ => ha) w hR.1 (fun j hj => by
    obtain rfl : j = 0 := by omega
    exact hR.2.1)
  have hf : firstZ (fun _ => 0) 0 1 = 0 := rfl
  rw [hf] at hI
  have HI := Hid.mk' hI
  have hlen : (wn 0 ++ bl33 a).length = 37 := by rw [List.length_append, bl33_length ha]; rfl
  have HR := Hid.mk' hR
  have hth : Hid (w.there g 0 37) := by have := hR.2.2; rw [hlen] at this; exact this
  clear hI hf hR hlen
  have hc1 : (1 : Int) ≤ (c : Int) := by omega
  have hc0 : (0 : Int) ≤ (c : Int) := by omega
  go_enter Tryz.func63, Tryz.ntmps63
  go_wp2_with fail
  refine HI.out.mono ?_
  rintro e w1 ⟨v, rfl, hb1, rfl⟩
  have K1 : Hid (Below w.heap.size w w1 ∧ Row w1 g (wn 0 ++ bl33 a)) := ⟨hb1, HR.out.below hb1⟩
  have hcl : ∀ ty, (Builtin.clear_ #[54] ty #[.slice (some ⟨g, 0, none⟩) 1 c]).run Tryz.prog w1 = .ok (.tuple #[]) (w1.setCells g 0 zT) := fun ty => clearT g c ty w1 (by
    have := K1.out.2.2.2
    rw [List.length_append, bl33_length ha] at this
    exact this)
  clear hb1 HI
  go_wp2
  refine wp_loop_once ?_
  go_wp2
  go_ret
  refine ⟨_, rfl, fun j hj hne => ?_, by rw [RG.setCells_size]; exact K1.out.1.size, RG.below_setCells (Nat.le_refl _) _ _ _ (K1.out.1.mono (Nat.le_of_lt HR.out.1)), rfl⟩
  rw [RG.setCells_other _ _ _ _ _ hne]
  exact K1.out.1.block j hj
/-- merged of one term that is taken 0 times: nothing. -/
theorem merged_0 (g c : Nat) (a : Bs) (ha : a.size = 33) (w : World) (hg : g < w.heap.size) (hr : w.rangeAt g 0 (wn 0 ++ bl33 a)) :
    Calls Tryz.prog 36 #[.slice (some ⟨g, 0, none⟩) 1 c] w (Ret fun e w' => Below w.heap.size w w' ∧ ∃ q cap, e = .slice q 0 cap) := by
  refine merged_g (N := 2) _ g 1 c (by decide) (fun _ => 0) (fun _ => a) (fun _ _ => ha) (fun i hi => by
    obtain rfl : i = 0 := by omega
    rfl) w hg (fun j hj => by
    obtain rfl : j = 0 := by omega
    exact hr) fun W v hM => ?_
  have e1 : mrg 2 (fun _ => 0) (fun _ => a) 1 = [(0, a)] := rfl
  rw [e1] at hM
  obtain ⟨g', cap, rfl, h1, h2, h3⟩ := owns_rows hM.ow (fun x hx => by simp at hx; rw [hx]; exact ha) (Nat.lt_succ_self 0)
  have h0 := h3 0 (Nat.lt_succ_self 0)
  have hth : W.there g' 0 37 := by
    rcases hM.ow.2 with ⟨h, -⟩ | ⟨g2, cap2, cur, he, -, hc, hn, -, hs, -⟩
    · cases h
    · injection he with he1 he2 he3
      injection he1 with he1
      injection he1 with he1
      subst he1
      intro j hj
      have hj2 : 0 + j < cur.size := by
        rw [hs]
        have : 1 ≤ cap2 := hn
        omega
      refine ⟨?_, ?_⟩
      · simp [World.cell?, hc, hj2]
        omega
      · simp [World.frozen?, hc]
  have hR : Row W g' (wn 0 ++ bl33 a) := ⟨h2, h0, by rw [List.length_append, bl33_length ha]; exact hth⟩
  refine (delete_zero g' cap a ha W hR ?_).mono ?_
  · rcases hM.ow.2 with ⟨h, -⟩ | ⟨g2, cap2, cur, he, -, hc, hn, -, hs, -⟩
    · cases h
    · injection he with he1 he2 he3
      rw [he3]; exact hn
  · rintro e w9 ⟨vv, rfl, hk9, hs9, hb9, rfl⟩
    exact ⟨_, rfl, hM.bl.trans (hb9.mono h1), _, _, rfl⟩
end Go.Proofs.YtmepmoalhgehhaaGreatDoor
set_option linter.unusedVariables false
set_option linter.unusedSimpArgs false
namespace Go.Proofs.YtmepmoalhgehhaaGreatDoor.RG
open Go Go.RowKit
variable {P : Program} {ops : Array Oper} {Q : Exit → Act → World → Prop} {w : World} {a0 : Act} {L : Array Bool}
/-- A region as a flow: what holds of each operation's value, what holds at first, what each does to the world, who ends what holds. -/
structure Flow where
  R : Nat → Value → World → Prop
  B : Nat → World → Prop
  E : Nat → World → World → Prop
  kill : Nat → List Nat
  killB : Nat → List Nat
def dstOf (ops : Array Oper) (i : Nat) : Option Tmp := (ops[i]?).bind (·.dst)
def depOn (ops : Array Oper) (x k : Nat) : Bool := match ops[x]? with | some o => depB o k | none => true
def okK (ops : Array Oper) (k : Nat) (l : List Nat) : Bool := l.all (fun x => x == k || depOn ops x k)
/-- Slot t is filled by operations alone that wait for k. -/
def freeF (ops : Array Oper) (k : Nat) (t : Tmp) : Bool := (List.range ops.size).all (fun i => dstOf ops i != some t || i == k || depOn ops i k)
structure InvF (F : Flow) (ops : Array Oper) (a0 : Act) (L : Array Bool) (a : Act) (w : World) : Prop where
  size : L.size = ops.size
  cl : ∀ (i : Nat) (o : Oper), ops[i]? = some o → on L i = true → ∀ e ∈ o.after, Region.binds .any e = true → on L e.on = true
  def' : a.defers = a0.defers
  sz : a.tmps.size = a0.tmps.size
  rest : ∀ t : Tmp, (∀ i, on L i = true → dstOf ops i ≠ some t) → a.tmps[t]? = a0.tmps[t]?
  all : ∃ V : Nat → Value, (∀ i d, on L i = true → dstOf ops i = some d → a.tmps[d]? = some (V i)) ∧ (∀ i, on L i = true → (∀ x ∈ F.kill i, on L x = false) → F.R i (V i) w)
  base : ∀ b, (∀ x ∈ F.killB b, on L x = false) → F.B b w
/-- What an operation is asked for. -/
def CertF (P : Program) (Q : Exit → Act → World → Prop) (F : Flow) (ops : Array Oper) (a0 : Act) (k : Nat) (o : Oper) : Prop :=
  ∀ (a : Act) (w : World) (K : Act → World → Prop),
    (∀ j d, depB o j = true → okK ops k (F.kill j) = true → dstOf ops j = some d → F.R j (a.eval (.tmp d)) w) →
    (∀ t, freeF ops k t = true → a.eval (.tmp t) = a0.eval (.tmp t)) →
    (∀ b, okK ops k (F.killB b) = true → F.B b w) →
    (∀ v w', F.E k w w' → F.R k v w' → K (a.put o.dst v) w') → o.wp P a w K Q
/-- An operation that may be guarded: it is wanted, or it is passed by. -/
def CertH (P : Program) (Q : Exit → Act → World → Prop) (F : Flow) (ops : Array Oper) (a0 : Act) (k : Nat) (o : Oper) : Prop :=
  match o.guard with
  | none => CertF P Q F ops a0 k o
  | some (j, want) => depB o j = true ∧ (dstOf ops j).isSome = true ∧ okK ops k (F.kill j) = true ∧
    (((∀ v w, F.R j v w → v = .bool want) ∧ CertF P Q F ops a0 k o) ∨ ((∀ v w, F.R j v w → v = .bool (!want)) ∧ ∀ w, F.E k w w ∧ F.R k undef w))
def chkF (ops : Array Oper) (n : Nat) : Bool :=
  (List.range ops.size).all (fun i => match ops[i]? with
    | some o => o.after.all (fun e => !Region.binds .any e || e.on < i) && (match o.dst with | none => true | some d => decide (d < n) && (List.range ops.size).all (fun j => j == i || dstOf ops j != some d))
    | none => false)
structure RegF (P : Program) (Q : Exit → Act → World → Prop) (F : Flow) (ops : Array Oper) (a0 : Act) (m : Nat) : Prop where
  chk : chkF ops a0.tmps.size = true
  cert : ∀ k o, k < m → ops[k]? = some o → CertH P Q F ops a0 k o
  stab : ∀ i j, i < m → j < m → i ≠ j → (F.kill j).contains i = false → depOn ops j i = false → ∀ v w w', F.E i w w' → F.R j v w → F.R j v w'
  stabB : ∀ i b, i < m → (F.killB b).contains i = false → ∀ w w', F.E i w w' → F.B b w → F.B b w'
variable {F : Flow} {m : Nat}
theorem RegF.of {k : Nat} {o : Oper} (h : RegF P Q F ops a0 m) (ho : ops[k]? = some o) : (∀ e ∈ o.after, Region.binds .any e = true → e.on < k) ∧ ∀ d, o.dst = some d → d < a0.tmps.size ∧ ∀ j, dstOf ops j = some d → j = k := by
  have hk : k < ops.size := (Array.getElem?_eq_some_iff.1 ho).1
  have h1 := List.all_eq_true.1 h.chk k (List.mem_range.2 hk)
  rw [ho] at h1
  simp only [Bool.and_eq_true] at h1
  obtain ⟨h2, h3⟩ := h1
  refine ⟨fun e he hb => ?_, fun d hd => ?_⟩
  · have := Array.all_eq_true'.1 h2 e he
    simpa [hb] using this
  · rw [hd] at h3
    simp only [Bool.and_eq_true, decide_eq_true_eq] at h3
    refine ⟨h3.1, fun j hj => ?_⟩
    have hjs : j < ops.size := by
      unfold dstOf at hj
      cases hx : ops[j]? with
      | none => rw [hx] at hj; cases hj
      | some x => exact (Array.getElem?_eq_some_iff.1 hx).1
    have := List.all_eq_true.1 h3.2 j (List.mem_range.2 hjs)
    simpa [hj] using this
theorem dstOf_some {i : Nat} {o : Oper} (ho : ops[i]? = some o) : dstOf ops i = o.dst := by unfold dstOf; rw [ho]; rfl
theorem dep_on {a : Act} {x k : Nat} {o : Oper} (h : InvF F ops a0 L a w) {ho : ops[x]? = some o} (hd : depB o k = true) (hx : on L x = true) : on L k = true := by
  obtain ⟨e, he, hb⟩ := Array.any_eq_true'.1 hd
  simp only [Bool.and_eq_true, beq_iff_eq] at hb
  rw [← hb.2]
  exact h.cl x o ho hx e he hb.1
theorem on_lt {L : Array Bool} {x : Nat} (h : on L x = true) : x < L.size := by
  rcases Nat.lt_or_ge x L.size with h1 | h1
  · exact h1
  · unfold on at h
    rw [Array.getD_eq_getD_getElem?, Array.getElem?_eq_none h1] at h
    cases h
theorem stepF {k : Nat} {o : Oper} {a : Act} (R : RegF P Q F ops a0 m) (hkm : k < m) (hlt : ∀ i, on L i = true → i < m) (ho : ops[k]? = some o) (hun : on L k = false) (hdep : ∀ e ∈ o.after, Region.binds .any e = true → on L e.on = true) (h : InvF F ops a0 L a w) :
    wpOp P ops Q k (InvF F ops a0 (L.setIfInBounds k true)) a w := by
  obtain ⟨hback, hdst⟩ := R.of ho
  have hks : k < ops.size := (Array.getElem?_eq_some_iff.1 ho).1
  have hkL : k < L.size := by rw [h.size]; exact hks
  have hdo : dstOf ops k = o.dst := dstOf_some ho
  have hnot : ∀ x, (x == k || depOn ops x k) = true → on L x = false := fun x hx => by
    cases hon : on L x with
    | false => rfl
    | true =>
      rcases Bool.or_eq_true _ _ ▸ hx with h1 | h1
      · rw [show x = k by simpa using h1, hun] at hon; cases hon
      · unfold depOn at h1
        have hxs : x < ops.size := by rw [← h.size]; exact on_lt hon
        have hox : ops[x]? = some ops[x] := Array.getElem?_eq_getElem hxs
        rw [hox] at h1
        have := dep_on (ho := hox) h h1 hon
        rw [hun] at this; cases this
  obtain ⟨V, hV1, hV2⟩ := h.all
  have hp1 : ∀ j d, depB o j = true → okK ops k (F.kill j) = true → dstOf ops j = some d → a.tmps[d]? = some (V j) ∧ F.R j (V j) w := fun j d hj hok hd => by
    obtain ⟨e, he, hb⟩ := Array.any_eq_true'.1 hj
    simp only [Bool.and_eq_true, beq_iff_eq] at hb
    have hjon : on L j = true := by rw [← hb.2]; exact hdep e he hb.1
    exact ⟨hV1 j d hjon hd, hV2 j hjon fun x hx => hnot x (List.all_eq_true.1 hok x hx)⟩
  have hpre1 : ∀ j d, depB o j = true → okK ops k (F.kill j) = true → dstOf ops j = some d → F.R j (a.eval (.tmp d)) w := fun j d hj hok hd => by
    rw [eval_of (hp1 j d hj hok hd).1]
    exact (hp1 j d hj hok hd).2
  have hpre2 : ∀ t, freeF ops k t = true → a.eval (.tmp t) = a0.eval (.tmp t) := fun t hf => by
    have h1 := h.rest t fun i hi hd => by
      have his : i < ops.size := by rw [← h.size]; exact on_lt hi
      have h2 := List.all_eq_true.1 hf i (List.mem_range.2 his)
      rw [hd] at h2
      have h3 : (i == k || depOn ops i k) = true := by simpa using h2
      rw [hnot i h3] at hi; cases hi
    show a.tmps.getD t undef = a0.tmps.getD t undef
    rw [Array.getD_eq_getD_getElem?, Array.getD_eq_getD_getElem?, h1]
  have hpre3 : ∀ b, okK ops k (F.killB b) = true → F.B b w := fun b hb => h.base b fun x hx => hnot x (List.all_eq_true.1 hb x hx)
  have hpost : ∀ v w', F.E k w w' → F.R k v w' → InvF F ops a0 (L.setIfInBounds k true) (a.put o.dst v) w' := fun v w' hE hR => by
    have hon : ∀ x, on (L.setIfInBounds k true) x = (on L x || k == x) := fun x => on_set hkL
    refine ⟨by rw [Array.size_setIfInBounds]; exact h.size, fun i oi hoi hi e he hb => ?_, ?_, ?_, fun t ht => ?_, ⟨fun x => if x = k then v else V x, fun i d hi hd => ?_, fun i hi hkl => ?_⟩, fun b hb => ?_⟩
    · rw [hon] at hi ⊢
      by_cases hik : k = i
      · subst hik
        rw [ho] at hoi
        obtain rfl := Option.some.inj hoi
        rw [hdep e he hb, Bool.true_or]
      · rw [h.cl i oi hoi (by simpa [hik] using hi) e he hb, Bool.true_or]
    · rw [← h.def']; cases o.dst <;> rfl
    · rw [put_size]; exact h.sz
    · have h1 : o.dst ≠ some t := fun hd => ht k (by rw [hon]; simp) (by rw [hdo]; exact hd)
      rw [put_other a v h1]
      exact h.rest t fun i hi => ht i (by rw [hon, hi, Bool.true_or])
    · rw [hon] at hi
      by_cases hik : i = k
      · subst hik
        rw [hdo] at hd
        rw [hd]
        show (a.tmps.setIfInBounds d v)[d]? = some (if i = i then v else V i)
        rw [if_pos (rfl : i = i)]
        rw [Array.getElem?_setIfInBounds, if_pos rfl, if_pos (by rw [h.sz]; exact (hdst d hd).1)]
      · have hne : o.dst ≠ some d := fun hd2 => hik ((hdst d hd2).2 i hd)
        rw [put_other a v hne]
        show _ = some (if i = k then v else V i)
        rw [if_neg hik]
        have hik' : ¬ k = i := fun e => hik e.symm
        exact hV1 i d (by simpa [hik'] using hi) hd
    · rw [hon] at hi
      by_cases hik : i = k
      · subst hik
        show F.R i (if i = i then v else V i) w'
        rw [if_pos rfl]; exact hR
      · show F.R i (if i = k then v else V i) w'
        rw [if_neg hik]
        have hik' : ¬ k = i := fun e => hik e.symm
        have hi' : on L i = true := by simpa [hik'] using hi
        have h1 : ∀ x ∈ F.kill i, on L x = false := fun x hx => by
          have := hkl x hx
          rw [hon, Bool.or_eq_false_iff] at this
          exact this.1
        have h2 : (F.kill i).contains k = false := by
          cases hc : (F.kill i).contains k with
          | false => rfl
          | true =>
            have := hkl k (by simpa using hc)
            rw [hon] at this
            simp at this
        have his : i < ops.size := by rw [← h.size]; exact on_lt hi'
        have h3 : depOn ops i k = false := by
          cases hc : depOn ops i k with
          | false => rfl
          | true => rw [hnot i (by rw [hc, Bool.or_true])] at hi'; cases hi'
        exact R.stab k i hkm (hlt i hi') (Ne.symm hik) h2 h3 _ _ _ hE (hV2 i hi' h1)
    · have h1 : ∀ x ∈ F.killB b, on L x = false := fun x hx => by
        have := hb x hx
        rw [hon, Bool.or_eq_false_iff] at this
        exact this.1
      have h2 : (F.killB b).contains k = false := by
        cases hc : (F.killB b).contains k with
        | false => rfl
        | true =>
          have := hb k (by simpa using hc)
          rw [hon] at this
          simp at this
      exact R.stabB k b hkm h2 _ _ hE (h.base b h1)
  have hC := R.cert k o hkm ho
  unfold CertH at hC
  unfold wpOp
  rw [ho]
  dsimp only
  cases hg : o.guard with
  | none =>
    rw [hg] at hC
    rw [wanted_none hg, if_pos rfl]
    left
    exact hC a w _ hpre1 hpre2 hpre3 hpost
  | some jw =>
    obtain ⟨j, want⟩ := jw
    rw [hg] at hC
    obtain ⟨hd1, hd2, hd3, hcase⟩ := hC
    obtain ⟨d, hd⟩ := Option.isSome_iff_exists.1 hd2
    obtain ⟨hs, hRj⟩ := hp1 j d hd1 hd3 hd
    have hy : ∀ b, V j = .bool b → Region.wanted o (yielded ops a.tmps) = (b == want) := fun b hb => by
      have h4 : yielded ops a.tmps j = some b := by
        unfold dstOf at hd
        unfold yielded
        cases hoj : ops[j]? with
        | none => rw [hoj] at hd; cases hd
        | some oj =>
          rw [hoj] at hd
          show (match oj.dst.bind (a.tmps[·]?) with | some (.bool b) => some b | _ => none) = _
          rw [show oj.dst = some d from hd]
          show (match a.tmps[d]? with | some (.bool b) => some b | _ => none) = _
          rw [hs, hb]
      unfold Region.wanted
      rw [hg]
      show (yielded ops a.tmps j == some want) = _
      rw [h4]
      cases b <;> cases want <;> rfl
    rcases hcase with ⟨hw, hc⟩ | ⟨hw, hsk⟩
    · rw [hy _ (hw _ _ hRj), show (want == want) = true by cases want <;> rfl, if_pos rfl]
      left
      exact hc a w _ hpre1 hpre2 hpre3 hpost
    · rw [hy _ (hw _ _ hRj), show ((!want) == want) = false by cases want <;> rfl]
      exact hpost undef w (hsk w).1 (hsk w).2
/-- All slots that were filled. -/
def putV (V : Nat → Value) : List Oper → Nat → Act → Act
  | [], _, a => a
  | o :: r, i, a => putV V r (i + 1) (a.put o.dst (V i))
theorem putV_defers (V : Nat → Value) : ∀ (l : List Oper) (i : Nat) (a : Act), (putV V l i a).defers = a.defers
  | [], _, _ => rfl
  | o :: r, i, a => by
    rw [putV, putV_defers V r]
    cases o.dst <;> rfl
theorem putV_other (V : Nat → Value) : ∀ (l : List Oper) (i : Nat) (a : Act) (t : Tmp), (∀ o ∈ l, o.dst ≠ some t) → (putV V l i a).tmps[t]? = a.tmps[t]?
  | [], _, _, _, _ => rfl
  | o :: r, i, a, t, h => by
    rw [putV, putV_other V r _ _ t (fun x hx => h x (List.mem_cons_of_mem _ hx)), put_other a _ (h o List.mem_cons_self)]
theorem putV_same (V : Nat → Value) : ∀ (l : List Oper) (i : Nat) (a : Act) (j : Nat) (o : Oper) (d : Tmp), l[j]? = some o → o.dst = some d → (∀ j' o', l[j']? = some o' → o'.dst = some d → j' = j) → d < a.tmps.size → (putV V l i a).tmps[d]? = some (V (i + j))
  | [], _, _, _, _, _, h, _, _, _ => by simp at h
  | x :: r, i, a, 0, o, d, h, hd, hu, hs => by
    obtain rfl : x = o := by simpa using h
    rw [putV, putV_other V r _ _ d (fun y hy hyd => by
      obtain ⟨j', hj'⟩ := List.getElem?_of_mem hy
      have := hu (j' + 1) y (by simpa using hj') hyd
      omega), hd]
    show (a.tmps.setIfInBounds d _)[d]? = _
    rw [Array.getElem?_setIfInBounds, if_pos rfl, if_pos hs]
    rfl
  | x :: r, i, a, j + 1, o, d, h, hd, hu, hs => by
    rw [putV, putV_same V r (i + 1) _ j o d (by simpa using h) hd (fun j' o' h' hd' => by
      have := hu (j' + 1) o' (by simpa using h') hd'
      omega) (by rw [put_size]; exact hs)]
    congr 2
    omega
theorem InvF.done {a : Act} (R : RegF P Q F ops a0 m) (h : InvF F ops a0 L a w) (hall : ∀ i, i < ops.size → on L i = true)
    (hp : ∀ (V : Nat → Value), (∀ i, i < ops.size → F.kill i = [] → F.R i (V i) w) → (∀ b, F.killB b = [] → F.B b w) → Q .normal (putV V ops.toList 0 a0) w) : Q .normal a w := by
  obtain ⟨V, hV1, hV2⟩ := h.all
  have e : a = putV V ops.toList 0 a0 := by
    refine Act.ext' ?_ (by rw [putV_defers]; exact h.def')
    apply Array.ext_getElem?
    intro t
    by_cases ht : ∃ (i : Nat) (o : Oper), ops[i]? = some o ∧ o.dst = some t
    · obtain ⟨i, o, ho, hd⟩ := ht
      rw [hV1 i t (hall i (Array.getElem?_eq_some_iff.1 ho).1) (by rw [dstOf_some ho]; exact hd)]
      rw [putV_same V ops.toList 0 a0 i o t (by rw [Array.getElem?_toList]; exact ho) hd (fun j' o' hj' hd' => ((R.of ho).2 t hd).2 j' (by rw [Array.getElem?_toList] at hj'; rw [dstOf_some hj']; exact hd')) ((R.of ho).2 t hd).1, Nat.zero_add]
    · rw [h.rest t (fun i hi hd => ?_), putV_other V ops.toList 0 a0 t (fun o hm hd => ?_)]
      · obtain ⟨i, hi⟩ := List.getElem?_of_mem hm
        rw [Array.getElem?_toList] at hi
        exact ht ⟨i, o, hi, hd⟩
      · unfold dstOf at hd
        cases hx : ops[i]? with
        | none => rw [hx] at hd; cases hd
        | some x => rw [hx] at hd; exact ht ⟨i, x, hx, hd⟩
  rw [e]
  exact hp V (fun i hi hk => hV2 i (hall i hi) (by rw [hk]; simp)) (fun b hb => h.base b (by rw [hb]; simp))
theorem InvF.full {a : Act} (R : RegF P Q F ops a0 m) (h : InvF F ops a0 L a w) (hr : Region.ready .any ops L = []) : ∀ i, i < ops.size → on L i = true := by
  intro i
  induction i using Nat.strongRecOn with
  | ind i ih =>
    intro hi
    have ho : ops[i]? = some ops[i] := Array.getElem?_eq_getElem _
    cases hon : on L i with
    | true => rfl
    | false =>
      have : i ∈ Region.ready .any ops L := mem_ready.2 ⟨?_, _, ho, fun e he hb => ?_⟩
      · rw [hr] at this; cases this
      · unfold on at hon
        rw [Array.getD_eq_getD_getElem?, Array.getElem?_eq_getElem (by rw [h.size]; exact hi)] at hon ⊢
        exact hon
      · have hlt := (R.of ho).1 e he hb
        exact ih e.on hlt (Nat.lt_trans hlt hi)
/-- THE LAW of flows, for a region that draws its order. -/
theorem flow_draws {id : Nat} (F : Flow) (hm : P.follows .mixedOrders = true) (R : RegF P Q F ops a0 ops.size) (hB : ∀ b, F.B b w.drew)
    (hp : ∀ (V : Nat → Value) (w' : World), (∀ i, i < ops.size → F.kill i = [] → F.R i (V i) w') → (∀ b, F.killB b = [] → F.B b w') → Q .normal (putV V ops.toList 0 a0) w') : (Code.region id ops true).wp P Q a0 w := by
  have key : ∀ (fuel : Nat) (L : Array Bool) (a : Act) (w : World), unl L = fuel → InvF F ops a0 L a w → wpAny P .any ops Q fuel L a w := by
    intro fuel
    induction fuel with
    | zero =>
      intro L a w hu hI
      have hall : ∀ i, i < ops.size → on L i = true := fun i hi => unl_zero hu i (by rw [hI.size]; exact hi)
      refine ⟨?_, hI.done R hall (fun V => hp V w)⟩
      apply List.eq_nil_iff_forall_not_mem.2
      intro i hi
      obtain ⟨h1, o, ho, -⟩ := mem_ready.1 hi
      have h2 := hall i (Array.getElem?_eq_some_iff.1 ho).1
      unfold on at h2
      rw [Array.getD_eq_getD_getElem?] at h1 h2
      cases hh : L[i]? with
      | none => rw [hh] at h1; cases h1
      | some b => rw [hh] at h1 h2; rw [show b = false from h1] at h2; cases h2
    | succ fuel ih =>
      intro L a w hu hI
      refine ⟨fun hr => hI.done R (hI.full R hr) (fun V => hp V w), fun i hi => ?_⟩
      obtain ⟨h1, o, ho, hdep⟩ := mem_ready.1 hi
      have hoff : on L i = false := by
        unfold on
        rw [Array.getD_eq_getD_getElem?] at h1 ⊢
        cases hh : L[i]? with
        | none => rfl
        | some b => rw [hh] at h1; exact h1
      exact wpOp_mono (fun a' w' hI' => ih _ a' w' (by have := unl_set h1; omega) hI') (stepF R (Array.getElem?_eq_some_iff.1 ho).1 (fun i hi => by rw [← hI.size]; exact on_lt hi) ho hoff hdep hI)
  have hoff : ∀ i, on (Array.replicate ops.size false) i = false := fun i => by
    unfold on
    rw [Array.getD_eq_getD_getElem?, Array.getElem?_replicate]
    by_cases h : i < ops.size
    · rw [if_pos h]; rfl
    · rw [if_neg h]; rfl
  refine wp_region_any hm (key _ _ a0 _ ?_ ⟨Array.size_replicate, (fun i o _ h => by rw [hoff] at h; cases h), rfl, rfl, fun _ _ => rfl, ⟨fun _ => undef, fun i d h => (by rw [hoff] at h; cases h), fun i h => (by rw [hoff] at h; cases h)⟩, fun b _ => hB b⟩)
  unfold unl
  rw [Array.toList_replicate, List.countP_replicate]
  simp
theorem putV_size (V : Nat → Value) : ∀ (l : List Oper) (i : Nat) (a : Act), (putV V l i a).tmps.size = a.tmps.size
  | [], _, _ => rfl
  | o :: r, i, a => by rw [putV, putV_size V r, put_size]
theorem RegF.slot {V : Nat → Value} (R : RegF P Q F ops a0 m) {i : Nat} {d : Tmp} (hd : dstOf ops i = some d) : (putV V ops.toList 0 a0).tmps[d]? = some (V i) := by
  cases ho : ops[i]? with
  | none => unfold dstOf at hd; rw [ho] at hd; cases hd
  | some o =>
    have hd' : o.dst = some d := by rw [← dstOf_some ho]; exact hd
    rw [putV_same V ops.toList 0 a0 i o d (by rw [Array.getElem?_toList]; exact ho) hd' (fun j' o' hj' hdj => ((R.of ho).2 d hd').2 j' (by rw [Array.getElem?_toList] at hj'; rw [dstOf_some hj']; exact hdj)) ((R.of ho).2 d hd').1, Nat.zero_add]
/-- What an operation may lean on. -/
structure PreF (F : Flow) (ops : Array Oper) (a0 : Act) (k : Nat) (o : Oper) (a : Act) (w : World) : Prop where
  n : ∀ j d, depB o j = true → okK ops k (F.kill j) = true → dstOf ops j = some d → F.R j (a.eval (.tmp d)) w
  o : ∀ t, freeF ops k t = true → a.eval (.tmp t) = a0.eval (.tmp t)
  b : ∀ b, okK ops k (F.killB b) = true → F.B b w
def CertsF (P : Program) (Q : Exit → Act → World → Prop) (F : Flow) (ops : Array Oper) (a0 : Act) : Nat → List Oper → Prop
  | _, [] => True
  | k, o :: r => CertH P Q F ops a0 k o ∧ CertsF P Q F ops a0 (k + 1) r
theorem certs_go : ∀ (l : List Oper) (i : Nat), CertsF P Q F ops a0 i l → ∀ k o, l[k]? = some o → CertH P Q F ops a0 (i + k) o
  | [], _, _, k, o, h => by simp at h
  | x :: r, i, hc, 0, o, h => by
    obtain rfl : x = o := by simpa using h
    exact hc.1
  | x :: r, i, hc, k + 1, o, h => by
    have := certs_go r (i + 1) hc.2 k o (by simpa using h)
    rwa [show i + 1 + k = i + (k + 1) by omega] at this
theorem certs_of (h : CertsF P Q F ops a0 0 ops.toList) : ∀ k o, k < ops.size → ops[k]? = some o → CertH P Q F ops a0 k o := fun k o _ ho => by
  have := certs_go ops.toList 0 h k o (by rw [Array.getElem?_toList]; exact ho)
  rwa [Nat.zero_add] at this
def evo (ev : Tmp → Value) : Operand → Value
  | .tmp t => ev t
  | .const v => v
  | .global g => .pointer (some ⟨g, 0, none⟩)
  | .func f => .func (.func f) #[] #[]
def seenT (T : List Tmp) (o : Oper) : Bool :=
  (match o.op with | .select _ _ => false | _ => true) && o.op.operands.all (fun x => match x with | .tmp t => T.contains t | _ => true)
theorem exec_ev {a : Act} {o : Oper} (ev : Tmp → Value) (T : List Tmp) (h : seenT T o = true) (he : ∀ t ∈ T, a.eval (.tmp t) = ev t) : execOp a.eval o = execOp (evo ev) o := by
  simp only [seenT, Bool.and_eq_true] at h
  refine execOp_congr o (fun cs b he => ?_) (fun x hx => ?_)
  · rw [he] at h; exact absurd h.1 (by simp)
  · have h1 := Array.all_eq_true'.1 h.2 x hx
    cases x with
    | tmp t => exact he t (by simpa using h1)
    | const v => rfl
    | global g => rfl
    | func f => rfl
/-- An operation that is run. -/
theorem cf_val {k : Nat} {o : Oper} (h : ∀ (a : Act) (w : World), PreF F ops a0 k o a w → ∃ v w', (execOp a.eval o).run P w = .ok (.value v) w' ∧ F.E k w w' ∧ F.R k v w') : CertF P Q F ops a0 k o := by
  intro a w K h1 h2 h3 hK
  obtain ⟨v, w', hr, hE, hR⟩ := h a w ⟨h1, h2, h3⟩
  unfold Oper.wp
  rw [hr]
  exact hK v w' hE hR
/-- An operation over one slot. -/
theorem cf_one {k : Nat} {o : Oper} (t : Tmp) (h : ∀ (a : Act) (w : World), PreF F ops a0 k o a w → ∃ v w', (seenT [t] o = true) ∧ (execOp (evo fun _ => a.eval (.tmp t)) o).run P w = .ok (.value v) w' ∧ F.E k w w' ∧ F.R k v w') : CertF P Q F ops a0 k o := by
  refine cf_val fun a w hp => ?_
  obtain ⟨v, w', hs, hr, hE⟩ := h a w hp
  refine ⟨v, w', ?_, hE⟩
  rw [exec_ev (fun _ => a.eval (.tmp t)) [t] hs (fun x hx => by rw [show x = t by simpa using hx])]
  exact hr
/-- A call. -/
theorem cf_call {k : Nat} {o : Oper} (t : Tmp) (h : ∀ (a : Act) (w : World), PreF F ops a0 k o a w → ∃ f args, (seenT [t] o = true) ∧ (execOp (evo fun _ => a.eval (.tmp t)) o).run P w = .ok (.enter f args) w ∧ Calls P f args w (Ret fun e w' => F.E k w w' ∧ F.R k e w')) : CertF P Q F ops a0 k o := by
  intro a w K h1 h2 h3 hK
  obtain ⟨f, args, hs, hr, hc⟩ := h a w ⟨h1, h2, h3⟩
  unfold Oper.wp
  rw [exec_ev (fun _ => a.eval (.tmp t)) [t] hs (fun x hx => by rw [show x = t by simpa using hx]), hr, Oper.upon_enter]
  refine hc.mono ?_
  rintro e w' ⟨v, rfl, hE, hR⟩
  exact hK _ _ hE hR
/-- A row is loaded. -/
theorem cf_load {k : Nat} {o : Oper} (T : TypeId) (t : Tmp) (ho : o.op = .load T (.tmp t)) (hu : (P.underlying T).map (·.isRow) = some true)
    (h : ∀ (a : Act) (w : World), PreF F ops a0 k o a w → ∃ g off cs, a.eval (.tmp t) = .pointer (some ⟨g, off, none⟩) ∧ w.rangeAt g off cs ∧ (P.info? T).map (·.size) = some cs.length ∧ F.E k w w ∧ F.R k (.agg cs.toArray) w) : CertF P Q F ops a0 k o := by
  intro a w K h1 h2 h3 hK
  obtain ⟨g, off, cs, he, hr, hi, hE, hR⟩ := h a w ⟨h1, h2, h3⟩
  obtain ⟨d, hu, hd⟩ := Option.map_eq_some_iff.1 hu
  exact wp_load_mid T (.tmp t) ho g off he cs d hr hu hd hi (hK _ _ hE hR)
/-- A list is appended to another. -/
theorem cf_app {k : Nat} {o : Oper} (s u : Tmp) (t : TypeId) (ho : o.op = .call { callee := .builtin .append, args := #[.tmp s, .tmp u], argTypes := #[t, t] })
    (h : ∀ (a : Act) (w : World), PreF F ops a0 k o a w → ∃ v w', (Builtin.append_ #[t, t] o.type #[a.eval (.tmp s), a.eval (.tmp u)]).run P w = .ok v w' ∧ F.E k w w' ∧ F.R k v w') : CertF P Q F ops a0 k o := by
  intro a w K h1 h2 h3 hK
  obtain ⟨v, w', hr, hE, hR⟩ := h a w ⟨h1, h2, h3⟩
  unfold Oper.wp execOp
  simp only [ho, resolve, invoke, builtin, Sem.run_bind, Sem.run_pure, Result.andThen_ok, List.map_toArray, List.map_cons, List.map_nil, hr]
  exact hK _ _ hE hR
theorem certs_but (h : CertsF P Q F ops a0 0 (ops.toList.take m)) : ∀ k o, k < m → ops[k]? = some o → CertH P Q F ops a0 k o := fun k o hk ho => by
  have := certs_go (ops.toList.take m) 0 h k o (by rw [List.getElem?_take, if_pos hk, Array.getElem?_toList]; exact ho)
  rwa [Nat.zero_add] at this
theorem InvF.act {a : Act} (R : RegF P Q F ops a0 m) (h : InvF F ops a0 L a w) (hm : m ≤ ops.size) (hall : ∀ i, on L i = true ↔ i < m) {V : Nat → Value} (hV1 : ∀ i d, on L i = true → dstOf ops i = some d → a.tmps[d]? = some (V i)) : a = putV V (ops.toList.take m) 0 a0 := by
  refine Act.ext' ?_ (by rw [putV_defers]; exact h.def')
  apply Array.ext_getElem?
  intro t
  by_cases ht : ∃ (i : Nat) (o : Oper), i < m ∧ ops[i]? = some o ∧ o.dst = some t
  · obtain ⟨i, o, him, ho, hd⟩ := ht
    rw [hV1 i t ((hall i).2 him) (by rw [dstOf_some ho]; exact hd)]
    rw [putV_same V (ops.toList.take m) 0 a0 i o t (by rw [List.getElem?_take, if_pos him, Array.getElem?_toList]; exact ho) hd (fun j' o' hj' hd' => ((R.of ho).2 t hd).2 j' (by
      rw [List.getElem?_take] at hj'
      split at hj'
      · rw [Array.getElem?_toList] at hj'; rw [dstOf_some hj']; exact hd'
      · cases hj')) ((R.of ho).2 t hd).1, Nat.zero_add]
  · rw [h.rest t (fun i hi hd => ?_), putV_other V (ops.toList.take m) 0 a0 t (fun o hm' hd => ?_)]
    · obtain ⟨i, hi⟩ := List.getElem?_of_mem hm'
      rw [List.getElem?_take] at hi
      split at hi
      · rename_i him
        rw [Array.getElem?_toList] at hi
        exact ht ⟨i, o, him, hi, hd⟩
      · cases hi
    · unfold dstOf at hd
      cases hx : ops[i]? with
      | none => rw [hx] at hd; cases hd
      | some x => rw [hx] at hd; exact ht ⟨i, x, (hall i).1 hi, hx, hd⟩
/-- THE LAW of flows, for a region whose last operation waits for all others. -/
theorem flow_last {id : Nat} (F : Flow) (n : Nat) (hn : ops.size = n + 1) (hd : (List.range n).all (fun j => depOn ops n j || (List.range n).any (fun i => depOn ops n i && depOn ops i j)) = true) (hm : P.follows .mixedOrders = true) (R : RegF P Q F ops a0 n) (hB : ∀ b, F.B b w.drew)
    (hp : ∀ (V : Nat → Value) (w' : World), (∀ i, i < n → F.kill i = [] → F.R i (V i) w') → (∀ b, F.killB b = [] → F.B b w') → wpList P ops Q (ops.toList.drop n) (putV V (ops.toList.take n) 0 a0) w') : (Code.region id ops true).wp P Q a0 w := by
  have hon' : ops[n]? = some (ops[n]'(by omega)) := Array.getElem?_eq_getElem _
  have key : ∀ (fuel : Nat) (L : Array Bool) (a : Act) (w : World), unl L = fuel → on L n = false → InvF F ops a0 L a w → wpAny P .any ops Q fuel L a w := by
    intro fuel
    induction fuel with
    | zero =>
      intro L a w hu hoff hI
      have := unl_zero hu n (by rw [hI.size]; omega)
      rw [hoff] at this; cases this
    | succ fuel ih =>
      intro L a w hu hoff hI
      refine ⟨fun hr => ?_, fun i hi => ?_⟩
      · have := hI.full R hr n (by omega)
        rw [hoff] at this; cases this
      · obtain ⟨h1, o, ho, hdep⟩ := mem_ready.1 hi
        have his : i < ops.size := (Array.getElem?_eq_some_iff.1 ho).1
        have hoi : on L i = false := by
          unfold on
          rw [Array.getD_eq_getD_getElem?] at h1 ⊢
          cases hh : L[i]? with
          | none => rfl
          | some b => rw [hh] at h1; exact h1
        by_cases hin : i = n
        · subst hin
          have hall : ∀ j, on L j = true ↔ j < i := fun j => by
            constructor
            · intro hj
              have h2 : j < ops.size := by rw [← hI.size]; exact on_lt hj
              rcases Nat.lt_or_ge j i with h | h
              · exact h
              · obtain rfl : j = i := by omega
                rw [hoff] at hj; cases hj
            · intro hj
              have hdir : ∀ j, depOn ops i j = true → on L j = true := fun j h2 => by
                unfold depOn at h2
                rw [ho] at h2
                obtain ⟨e, he, hb⟩ := Array.any_eq_true'.1 h2
                simp only [Bool.and_eq_true, beq_iff_eq] at hb
                have := hdep e he hb.1
                rw [hb.2] at this
                exact this
              have h2 := List.all_eq_true.1 hd j (List.mem_range.2 hj)
              rw [Bool.or_eq_true] at h2
              rcases h2 with h2 | h2
              · exact hdir j h2
              · obtain ⟨x, hx, h3⟩ := List.any_eq_true.1 h2
                rw [Bool.and_eq_true] at h3
                have hxo := hdir x h3.1
                have hxs : x < ops.size := by have := List.mem_range.1 hx; omega
                have hox : ops[x]? = some ops[x] := Array.getElem?_eq_getElem hxs
                have h4 := h3.2
                unfold depOn at h4
                rw [hox] at h4
                exact dep_on (ho := hox) hI h4 hxo
          obtain ⟨V, hV1, hV2⟩ := hI.all
          have ha := hI.act R (by omega) hall hV1
          have hkl : ∀ l : List Nat, l = [] → ∀ x ∈ l, on L x = false := fun l hl x hx => by rw [hl] at hx; cases hx
          have hfin := hp V w (fun j hj hk => hV2 j ((hall j).2 hj) (hkl _ hk)) (fun b hb => hI.base b (hkl _ hb))
          have hdrop : ops.toList.drop i = [o] := by
            have hlen : ops.toList.length = i + 1 := by rw [Array.length_toList]; exact hn
            rw [List.drop_eq_getElem_cons (by omega), List.drop_of_length_le (by omega)]
            have : ops.toList[i]? = some o := by rw [Array.getElem?_toList]; exact ho
            rw [List.getElem?_eq_getElem (by omega)] at this
            rw [Option.some.inj this]
          rw [hdrop, ← ha] at hfin
          have hop : wpOp P ops Q i (fun a' w' => Q .normal a' w') a w := by
            unfold wpOp
            rw [ho]
            exact hfin
          refine wpOp_mono (fun a' w' hq => ?_) hop
          have hon2 : ∀ j, j < ops.size → on (L.setIfInBounds i true) j = true := fun j hj => by
            rw [on_set (by rw [hI.size]; omega)]
            by_cases h : j < i
            · rw [(hall j).2 h, Bool.true_or]
            · rw [show j = i by omega]; simp
          have hr : Region.ready .any ops (L.setIfInBounds i true) = [] := by
            apply List.eq_nil_iff_forall_not_mem.2
            intro j hj
            obtain ⟨h1, o', ho', -⟩ := mem_ready.1 hj
            have h2 := hon2 j (Array.getElem?_eq_some_iff.1 ho').1
            unfold on at h2
            rw [Array.getD_eq_getD_getElem?] at h1 h2
            cases hh : (L.setIfInBounds i true)[j]? with
            | none => rw [hh] at h1; cases h1
            | some b => rw [hh] at h1 h2; rw [show b = false from h1] at h2; cases h2
          cases fuel with
          | zero => exact ⟨hr, hq⟩
          | succ f => exact ⟨fun _ => hq, fun j hj => by rw [hr] at hj; cases hj⟩
        · refine wpOp_mono (fun a' w' hI' => ih _ a' w' (by have := unl_set h1; omega) ?_ hI') (stepF R (by omega) (fun j hj => ?_) ho hoi hdep hI)
          · rw [on_set (by rw [hI.size]; exact his), hoff]
            simpa using hin
          · have h2 : j < ops.size := by rw [← hI.size]; exact on_lt hj
            rcases Nat.lt_or_ge j n with h | h
            · exact h
            · obtain rfl : j = n := by omega
              rw [hoff] at hj; cases hj
  have hoff : ∀ i, on (Array.replicate ops.size false) i = false := fun i => by
    unfold on
    rw [Array.getD_eq_getD_getElem?, Array.getElem?_replicate]
    by_cases h : i < ops.size
    · rw [if_pos h]; rfl
    · rw [if_neg h]; rfl
  refine wp_region_any hm (key _ _ a0 _ ?_ (hoff n) ⟨Array.size_replicate, (fun i o _ h => by rw [hoff] at h; cases h), rfl, rfl, fun _ _ => rfl, ⟨fun _ => undef, fun i d h => (by rw [hoff] at h; cases h), fun i h => (by rw [hoff] at h; cases h)⟩, fun b _ => hB b⟩)
  unfold unl
  rw [Array.toList_replicate, List.countP_replicate]
  simp
end Go.Proofs.YtmepmoalhgehhaaGreatDoor.RG
namespace Go.Proofs.YtmepmoalhgehhaaGreatDoor
open Go.RowKit Go.Sort Go.Deep
theorem u8_ne {p : Option Addr} {n c : Nat} {x : UInt8} : encB x ≠ .slice p n c := fun h => by cases h
/-- n bytes, in a block from its begin. -/
def El (n : Nat) (W : World) (x : Value) (b : Bs) : Prop := ∃ k c, x = .slice (some ⟨k, 0, none⟩) n c ∧ n ≤ c ∧ b.size = n ∧ k < W.heap.size ∧ Holds encB W k 0 b
/-- Cell 0 of block g is a list of n bytes. -/
def isL (n : Nat) (W : World) (g : Nat) : Prop := ∃ p c, W.cell? ⟨g, 0, none⟩ = some (.slice p n c)
/-- The world grows; list v (of n bytes each) may be written behind. -/
structure Gr (n : Nat) (v : Value) (W W' : World) : Prop where
  gr : W.grownBy W' v.ownBlock
  is : ∀ g, v.ownBlock = some g → isL n W g
theorem Gr.of {W W' : World} {n : Nat} (h : Below W.heap.size W W') : Gr n (.slice none 0 0) W W' :=
  ⟨⟨h.os, h.tape, h.output, h.size, fun k hk _ => h.block k hk⟩, fun g hg => by cases hg⟩
theorem Gr.below {n : Nat} {v : Value} {w W W' : World} {B : Nat} (h : Gr n v W W') (hb : Below B w W) (hB : B ≤ W.heap.size) (hv : ∀ g, v.ownBlock = some g → B ≤ g) : Below B w W' :=
  hb.grown h.gr hB (fun k hk => hv k hk)
theorem Gr.block {n k : Nat} {v : Value} {W W' : World} (h : Gr n v W W') (hk : k < W.heap.size) (hne : ∀ p c, W.cell? ⟨k, 0, none⟩ ≠ some (.slice p n c)) : W'.heap[k]? = W.heap[k]? :=
  h.gr.block k hk fun e => by
    obtain ⟨p, c, hc⟩ := h.is k e.symm
    exact hne p c hc
theorem Holds.kept {W W' : World} {k : Nat} {b : Bs} (h : Holds encB W k 0 b) (e : W'.heap[k]? = W.heap[k]?) : Holds encB W' k 0 b := fun j hj => by
  rw [World.cell?_of_block (a := ⟨k, 0 + j, none⟩) e, World.frozen?_of_block (a := ⟨k, 0 + j, none⟩) e]
  exact h j hj
theorem El.kept {m n : Nat} {v x : Value} {W W' : World} {b : Bs} (h : El m W x b) (hm : 0 < m) (hg : Gr n v W W') : El m W' x b := by
  obtain ⟨k, c, rfl, h1, h2, h3, h4⟩ := h
  refine ⟨k, c, rfl, h1, h2, Nat.lt_of_lt_of_le h3 hg.gr.size, Holds.kept h4 (hg.block h3 fun p c' hc => ?_)⟩
  have := (h4 0 (by omega)).1
  rw [Nat.zero_add, hc] at this
  exact u8_ne (Option.some.inj this).symm
theorem Row.kept {n k : Nat} {v : Value} {W W' : World} {vs : List Value} (h : Row W k vs) (hg : Gr n v W W') (hne : ∀ p c, vs[0]? ≠ some (.slice p n c)) (hl : 0 < vs.length) : Row W' k vs := by
  have e := hg.block h.1 fun p c hc => by
    have h0 := h.2.1 0 vs[0] (List.getElem?_eq_getElem hl)
    rw [Nat.zero_add, hc] at h0
    exact hne p c (by rw [List.getElem?_eq_getElem hl, h0])
  refine ⟨Nat.lt_of_lt_of_le h.1 hg.gr.size, fun j u hj => ?_, fun j hj => ?_⟩
  · rw [World.cell?_of_block (a := ⟨k, 0 + j, none⟩) e]; exact h.2.1 j u hj
  · rw [World.cell?_of_block (a := ⟨k, 0 + j, none⟩) e, World.frozen?_of_block (a := ⟨k, 0 + j, none⟩) e]; exact h.2.2 j hj
/-- A list of lists of n bytes, in memory of one's own. -/
structure Lo (n base : Nat) (W : World) (v : Value) (bs : List Bs) : Prop where
  ex : ∃ xs : List Value, xs.length = bs.length ∧ W.ownsRow base 24 1 v bs.length xs ∧ ∀ (j : Nat) (x : Value) (b : Bs), xs[j]? = some x → bs[j]? = some b → El n W x b
  nil : bs = [] → v = .slice none 0 0
theorem Lo.begin (n base : Nat) (W : World) : Lo n base W (.slice none 0 0) [] := ⟨⟨[], rfl, World.ownsRow_nil _ _ _ _, fun j x b h => by cases h⟩, fun _ => rfl⟩
theorem add0 (g j : Nat) : (⟨g, 0, none⟩ : Addr).add j = ⟨g, j, none⟩ := by unfold Addr.add; split <;> simp_all
theorem Lo.isL {n base : Nat} {W : World} {v : Value} {bs : List Bs} (h : Lo n base W v bs) {g : Nat} (hg : v.ownBlock = some g) : isL n W g := by
  obtain ⟨xs, h1, h2, h3⟩ := h.ex
  have hne : bs ≠ [] := fun e => by rw [h.nil e] at hg; cases hg
  cases bs with
  | nil => exact absurd rfl hne
  | cons b r =>
    cases xs with
    | nil => cases h1
    | cons x xr =>
      obtain ⟨k, c, rfl, -⟩ := h3 0 x b rfl rfl
      have := h2.cells hg 0 _ rfl
      rw [add0] at this
      exact ⟨_, _, this⟩
theorem Lo.lt {n base : Nat} {W : World} {v : Value} {bs : List Bs} (h : Lo n base W v bs) : ∀ g, v.ownBlock = some g → base ≤ g ∧ g < W.heap.size := by
  obtain ⟨xs, h1, h2, h3⟩ := h.ex
  exact h2.lt
theorem Lo.kept {m n base : Nat} {W W' : World} {v v' : Value} {bs : List Bs} (h : Lo m base W v bs) (hm : 0 < m) (hg : Gr n v' W W') (hne : m ≠ n) : Lo m base W' v bs := by
  have hL := fun {g} => h.isL (g := g)
  obtain ⟨xs, h1, h2, h3⟩ := h.ex
  refine ⟨⟨xs, h1, h2.kept hg.gr ?_, fun j x b hx hb => (h3 j x b hx hb).kept hm hg⟩, h.nil⟩
  cases hv : v.ownBlock with
  | none => exact Or.inl rfl
  | some g =>
    refine Or.inr fun e => hne ?_
    obtain ⟨p, c, hc⟩ := hL hv
    obtain ⟨p', c', hc'⟩ := hg.is g e.symm
    rw [hc] at hc'
    injection hc' with hc'
    injection hc' with _ h5 _
theorem infoB : (Tryz.prog.info? 24).map (fun i => (i.size, i.bytes, i.zero.map fun z => z.cells.size)) = some (1, 24, some 1) := by kernel_rfl
theorem undB : Tryz.prog.underlying 33 = some (.slice 24) := by kernel_rfl
/-- One more. -/
theorem Lo.app {n base g : Nat} {W : World} {v x : Value} {bs : List Bs} {b : Bs} (h : Lo n base W v bs) (hn : 0 < n) (hx : El n W x b) (hc : W.cell? ⟨g, 0, none⟩ = some x) (hk : bs.length ≤ 1000000) (hb : base ≤ W.heap.size) :
    ∃ v' W', (Builtin.append_ #[33, 33] 33 #[v, .slice (some ⟨g, 0, none⟩) 1 1]).run Tryz.prog W = .ok v' W' ∧ Lo n base W' v' (bs ++ [b]) ∧ Gr n v W W' := by
  obtain ⟨i, hi, he⟩ := Option.map_eq_some_iff.1 infoB
  simp only [Prod.mk.injEq] at he
  obtain ⟨h1, h2, h3⟩ := he
  obtain ⟨z, hz, hz2⟩ := Option.map_eq_some_iff.1 h3
  obtain ⟨xs, x1, x2, x3⟩ := h.ex
  obtain ⟨v', W', r1, r2, r3, r4⟩ := run_append_own (P := Tryz.prog) W base 33 33 24 i z 1 24 undB hi hz h1 h2 hz2 (by decide) v bs.length xs x2 ⟨g, 0, none⟩ 1 1 [x] rfl
    (fun j u hj => by
      cases j with
      | zero =>
        obtain rfl : x = u := by simpa using hj
        rw [add0]; exact hc
      | succ j => simp at hj) (fun u hu => by
      obtain rfl : u = x := by simpa using hu
      obtain ⟨k, c, rfl, -⟩ := hx
      rfl) (by unfold maxLen; omega) (by omega) hb
  have G : Gr n v W W' := ⟨r3, fun g hg => h.isL hg⟩
  refine ⟨v', W', r1, ⟨⟨xs ++ [x], by simp [x1], by rw [List.length_append]; exact r2, fun j y c hy hcy => ?_⟩, fun e => by simp at e⟩, G⟩
  by_cases hj : j < bs.length
  · rw [List.getElem?_append_left (by omega)] at hy hcy
    exact (x3 j y c hy hcy).kept hn G
  · rw [List.getElem?_append_right (by omega)] at hy hcy
    rw [x1] at hy
    cases hjj : j - bs.length with
    | zero =>
      rw [hjj] at hy hcy
      obtain rfl : x = y := by simpa using hy
      obtain rfl : b = c := by simpa using hcy
      exact hx.kept hn G
    | succ d => rw [hjj] at hy; simp at hy
/-- Bytes of a point, in new memory. -/
theorem ptBytes_c {a : Bs} (ha : a.size = 33) (w : World) : Calls Tryz.prog 20 #[pvl a] w (Ret fun e w' => Below w.heap.size w w' ∧ El 33 w' e a) := by
  have B1 := Hid.mk' (boxCP ha w)
  obtain ⟨w1, hw1⟩ : ∃ w1, Hid (w.alloc (.cells (bl33 a).toArray 52) = w1) := ⟨_, rfl⟩
  rw [hw1.out] at B1
  have K : Hid (Row w1 w.heap.size (bl33 a) ∧ Below w.heap.size w w1) := by rw [← hw1.out]; exact ⟨row_new w _ _, below1 w _⟩
  obtain ⟨va, hva⟩ : ∃ v, Hid (pvl a = v) := ⟨_, rfl⟩
  have B1' : Hid ((Instr.box 52 va).run Tryz.prog w = .ok (.pointer (some ⟨w.heap.size, 0, none⟩)) w1) := by rw [← hva.out]; exact B1
  rw [hva.out]
  have hs := slCP w.heap.size
  clear B1 hw1
  go_enter Tryz.func20, Tryz.ntmps20
  go_wp2_with (first | (refine wpList_box (u := va) (v := .pointer (some ⟨w.heap.size, 0, none⟩)) (w' := w1) rfl 52 (.tmp 0) rfl ?_ ?_ ?_; rfl; exact B1'.out))
  go_ret
  exact ⟨_, rfl, K.out.2, w.heap.size, 33, rfl, by omega, ha, K.out.1.1, row_holds K.out.1⟩
end Go.Proofs.YtmepmoalhgehhaaGreatDoor
namespace Go.Proofs.YtmepmoalhgehhaaGreatDoor
open Go.RowKit Go.Sort Go.Deep
variable {P : Nat} [NeZero P] {N : Nat}
/-- A list of one, that holds n bytes. -/
def Bo (n B0 : Nat) (W : World) (v : Value) (b : Bs) : Prop := ∃ k x, v = .slice (some ⟨k, 0, none⟩) 1 1 ∧ B0 ≤ k ∧ k < W.heap.size ∧ W.cell? ⟨k, 0, none⟩ = some x ∧ El n W x b
theorem Bo.kept {m n B0 : Nat} {W W' : World} {v u : Value} {b : Bs} (h : Bo n B0 W v b) (hn : 0 < n) (hg : Gr m u W W') (hu : ∀ g, u.ownBlock = some g → g < B0) : Bo n B0 W' v b := by
  obtain ⟨k, x, rfl, h1, h2, h3, h4⟩ := h
  refine ⟨k, x, rfl, h1, Nat.lt_of_lt_of_le h2 hg.gr.size, ?_, h4.kept hn hg⟩
  rw [World.cell?_of_block (a := ⟨k, 0, none⟩) (hg.gr.block k h2 fun e => by have := hu k e.symm; omega)]
  exact h3
/-- The terms. -/
def Tm (W : World) (q : Option Addr) (k : Nat) (ns : Nat → Nat) (az : Nat → Bs) : Prop := 0 < k → ∃ g, q = some ⟨g, 0, none⟩ ∧ g < W.heap.size ∧ ∀ j, j < k → W.rangeAt g (37 * j) (wn (ns j) ++ bl33 (az j))
theorem Tm.kept {m k : Nat} {W W' : World} {u : Value} {q : Option Addr} {ns : Nat → Nat} {az : Nat → Bs} (h : Tm W q k ns az) (hg : Gr m u W W') : Tm W' q k ns az := fun hk => by
  obtain ⟨g, h1, h2, h3⟩ := h hk
  refine ⟨g, h1, Nat.lt_of_lt_of_le h2 hg.gr.size, fun j hj i v hv => ?_⟩
  have e := hg.block h2 fun p c hc => by
    have h0 := h3 0 hk 0 _ (show (wn (ns 0) ++ bl33 (az 0))[0]? = some _ from rfl)
    rw [show 37 * 0 + 0 = 0 from rfl, hc] at h0
    cases h0
  rw [World.cell?_of_block (a := ⟨g, 37 * j + i, none⟩) e]
  exact h3 j hj i v hv
section
variable (w0 : World) (v3 v4 : Value) (k6 n B0 base : Nat) (p : Bs) (bs cs : List Bs) (q : Option Addr) (k : Nat) (ns : Nat → Nat) (az : Nat → Bs)
def PR : Nat → Value → World → Prop
  | 0, v, _ => v = v3
  | 1, v, _ => v = .pointer (some ⟨k6, 0, none⟩)
  | 2, v, _ => v = nv n
  | 3, v, w => El 32 w v (bx n)
  | 4, v, w => Bo 32 B0 w v (bx n)
  | 5, v, w => Lo 32 base w v (bs ++ [bx n])
  | 6, v, _ => v = v4
  | 7, v, _ => v = .pointer (some ⟨k6, 4, none⟩)
  | 8, v, _ => v = pvl p
  | 9, v, w => El 33 w v p
  | 10, v, w => Bo 33 B0 w v p
  | 11, v, w => Lo 33 base w v (cs ++ [p])
  | 12, v, w => Lo 32 base w v (bs ++ [bx n])
  | 13, v, w => Lo 33 base w v (cs ++ [p])
  | _, _, _ => True
def PBs : Nat → World → Prop
  | 0, w => Row w k6 (wn n ++ bl33 p)
  | 1, w => Lo 32 base w v3 bs
  | 2, w => Lo 33 base w v4 cs
  | 3, w => Below base w0 w ∧ base ≤ w.heap.size ∧ B0 ≤ w.heap.size
  | 4, w => Tm w q k ns az
  | 5, w => Row w base z33
  | _, _ => True
def PE : Nat → World → World → Prop
  | 5 => Gr 32 v3
  | 11 => Gr 33 v4
  | _ => Gr 0 (.slice none 0 0)
def Pk1 : Nat → List Nat
  | 4 => [5]
  | 10 => [11]
  | _ => []
def Pk2 : Nat → List Nat
  | 1 => [5]
  | 2 => [11]
  | _ => []
def FP : RG.Flow := ⟨PR v3 v4 k6 n B0 base p bs cs, PBs w0 v3 v4 k6 n B0 base p bs cs q k ns az, PE v3 v4, Pk1, Pk2⟩
theorem PE_any {i : Nat} {w w' : World} (h : PE v3 v4 i w w') : ∃ m u, Gr m u w w' ∧ ((i = 5 ∧ m = 32 ∧ u = v3) ∨ (i = 11 ∧ m = 33 ∧ u = v4) ∨ (i ≠ 5 ∧ i ≠ 11 ∧ m = 0 ∧ u = .slice none 0 0)) := by
  unfold PE at h
  split at h
  · exact ⟨_, _, h, Or.inl ⟨rfl, rfl, rfl⟩⟩
  · exact ⟨_, _, h, Or.inr (Or.inl ⟨rfl, rfl, rfl⟩)⟩
  · rename_i h1 h2
    exact ⟨_, _, h, Or.inr (Or.inr ⟨h1, h2, rfl, rfl⟩)⟩
variable (hv3 : ∀ g, v3.ownBlock = some g → base ≤ g ∧ g < B0) (hv4 : ∀ g, v4.ownBlock = some g → base ≤ g ∧ g < B0)
include hv3 hv4
theorem PE_own {i m : Nat} {u : Value} (h : (i = 5 ∧ m = 32 ∧ u = v3) ∨ (i = 11 ∧ m = 33 ∧ u = v4) ∨ (i ≠ 5 ∧ i ≠ 11 ∧ m = 0 ∧ u = .slice none 0 0)) : ∀ g, u.ownBlock = some g → base ≤ g ∧ g < B0 := by
  rcases h with ⟨-, -, rfl⟩ | ⟨-, -, rfl⟩ | ⟨-, -, -, rfl⟩
  · exact hv3
  · exact hv4
  · intro g hg; cases hg
theorem P_stab (i j : Nat) (hj : j < 14) (hij : i ≠ j) (hk : (Pk1 j).contains i = false) (h1 : ¬ (j = 12 ∧ i = 5)) (h2 : ¬ (j = 13 ∧ i = 11)) (v : Value) (w w' : World) (hE : PE v3 v4 i w w') (hR : PR v3 v4 k6 n B0 base p bs cs j v w) : PR v3 v4 k6 n B0 base p bs cs j v w' := by
  obtain ⟨m, u, hg, hc⟩ := PE_any v3 v4 hE
  have hu := PE_own v3 v4 B0 base hv3 hv4 hc
  have m32 : m = 32 → i = 5 := fun h => by rcases hc with ⟨h1, -⟩ | ⟨-, h2, -⟩ | ⟨-, -, h2, -⟩ <;> omega
  have m33 : m = 33 → i = 11 := fun h => by rcases hc with ⟨-, h2, -⟩ | ⟨h1, -⟩ | ⟨-, -, h2, -⟩ <;> omega
  match j, hj, hR with
  | 0, _, h => exact h
  | 1, _, h => exact h
  | 2, _, h => exact h
  | 3, _, h => exact El.kept h (by decide) hg
  | 4, _, h => exact Bo.kept h (by decide) hg fun g hgg => (hu g hgg).2
  | 5, _, h => exact Lo.kept h (by decide) hg fun e => hij (m32 e.symm)
  | 6, _, h => exact h
  | 7, _, h => exact h
  | 8, _, h => exact h
  | 9, _, h => exact El.kept h (by decide) hg
  | 10, _, h => exact Bo.kept h (by decide) hg fun g hgg => (hu g hgg).2
  | 11, _, h => exact Lo.kept h (by decide) hg fun e => hij (m33 e.symm)
  | 12, _, h => exact Lo.kept h (by decide) hg fun e => h1 ⟨rfl, m32 e.symm⟩
  | 13, _, h => exact Lo.kept h (by decide) hg fun e => h2 ⟨rfl, m33 e.symm⟩
  | _ + 14, hj, _ => omega
theorem P_stabB (i b : Nat) (hk : (Pk2 b).contains i = false) (w w' : World) (hE : PE v3 v4 i w w') (hR : PBs w0 v3 v4 k6 n B0 base p bs cs q k ns az b w) : PBs w0 v3 v4 k6 n B0 base p bs cs q k ns az b w' := by
  obtain ⟨m, u, hg, hc⟩ := PE_any v3 v4 hE
  have hu := PE_own v3 v4 B0 base hv3 hv4 hc
  have m32 : m = 32 → i = 5 := fun h => by rcases hc with ⟨h1, -⟩ | ⟨-, h2, -⟩ | ⟨-, -, h2, -⟩ <;> omega
  have m33 : m = 33 → i = 11 := fun h => by rcases hc with ⟨-, h2, -⟩ | ⟨h1, -⟩ | ⟨-, -, h2, -⟩ <;> omega
  match b, hk, hR with
  | 0, _, h => exact Row.kept h hg (fun p c e => by cases e) (by rw [List.length_append]; exact Nat.lt_of_lt_of_le (by decide) (Nat.le_add_right 4 _))
  | 1, hk, h => exact Lo.kept h (by decide) hg fun e => by rw [m32 e.symm] at hk; cases hk
  | 2, hk, h => exact Lo.kept h (by decide) hg fun e => by rw [m33 e.symm] at hk; cases hk
  | 3, _, h => exact ⟨hg.below h.1 h.2.1 fun g hgg => (hu g hgg).1, Nat.le_trans h.2.1 hg.gr.size, Nat.le_trans h.2.2 hg.gr.size⟩
  | 4, _, h => exact Tm.kept h hg
  | 5, _, h => exact Row.kept h hg (fun p c e => by cases e) (by decide)
  | _ + 6, _, _ => trivial
end
end Go.Proofs.YtmepmoalhgehhaaGreatDoor
namespace Go.Proofs.YtmepmoalhgehhaaGreatDoor
open Go.RowKit Go.Sort Go.Deep
variable {P : Nat} [NeZero P] {N : Nat}
theorem Lo.drew {n base : Nat} {W : World} {v : Value} {bs : List Bs} (h : Lo n base W v bs) : Lo n base W.drew v bs := ⟨h.ex, h.nil⟩
theorem SumR.all (C : Fld P) (O : Ord N) {w w' : World} {k : Nat} (hk : k ≤ 512) {ns : Nat → Nat} {X : Nat → EC.Pt P} (hn : ∀ j, j < k → ns j < N) (hX : ∀ j, j < k → EC.On (X j)) {L M : Nat → Bs} (hL : ∀ j, j < k → L j = bx (ns j)) (hM : ∀ j, j < k → M j = wr (X j)) {e : Value} (h : SumR P N w k k L M e w') :
    OutP w (wr (EC.tot X k (fun j => (ns j : Int)))) e w' := by
  have hq : ∀ j, j < k → rq N (L j) = some (ns j) := fun j hj => by
    rw [hL j hj]
    have hb : beV (bx (ns j)).toList = ns j := bx_val (Nat.lt_of_lt_of_le (hn j hj) O.le)
    unfold rq
    rw [if_pos ⟨bx_size _, by rw [hb]; exact hn j hj⟩, hb]
  have hr : ∀ j, j < k → ∃ p, rd P (M j) = some p ∧ pt p = X j := fun j hj => by rw [hM j hj]; exact rd_wr C (hX j hj)
  rcases h with ⟨h, -⟩ | ⟨-, h, -⟩ | ⟨-, -, ⟨⟨j, hj, hn'⟩, -⟩ | ⟨ns', hns, ⟨⟨j, hj, hn'⟩, -⟩ | ⟨xs, ys, hxy, h⟩⟩⟩
  · exact absurd rfl h
  · omega
  · rw [hq j hj] at hn'; cases hn'
  · obtain ⟨p, hp, -⟩ := hr j hj
    rw [hp] at hn'; cases hn'
  · have e1 : ∀ j, j < k → ns' j = ns j := fun j hj => by
      have := hns j hj
      rw [hq j hj] at this
      exact (Option.some.inj this).symm
    have hp : ∀ j, j < k → EC.Pair (xs j) (ys j) (X j) ∧ EC.On (X j) := fun j hj => by
      obtain ⟨p, hp, hpt⟩ := hr j hj
      have h1 := hxy j hj
      rw [hp] at h1
      have h2 := Option.some.inj h1
      have h3 := rd_on C hp
      rw [hpt] at h3
      rw [h2] at h3
      exact h3
    have hJ := sumJ_all C (ns := ns') (xs := xs) (ys := ys) (p := X) (N := k) (fun i hi => by rw [e1 i hi]; exact Nat.lt_of_lt_of_le (hn i hi) O.le) (fun i hi => (hp i hi).1) (fun i hi => (hp i hi).2)
    have e2 : EC.tot X k (fun j => (ns' j : Int)) = EC.tot X k (fun j => (ns j : Int)) := EC.tot_congr k fun j hj => by rw [e1 j hj]
    rw [e2] at hJ
    rw [← by33_wr C (hJ.pair C) hJ.2]
    exact h
/-- What is kept from round to round. -/
structure Pz (w W : World) (q : Option Addr) (k i : Nat) (ns : Nat → Nat) (az : Nat → Bs) (s3 s4 : Value) : Prop where
  bl : Below w.heap.size w W
  l3 : Lo 32 w.heap.size W s3 ((List.range i).map fun j => bx (ns j))
  l4 : Lo 33 w.heap.size W s4 ((List.range i).map az)
  tm : Tm W q k ns az
  r2 : Row W w.heap.size z33
end Go.Proofs.YtmepmoalhgehhaaGreatDoor
namespace Go.Proofs.YtmepmoalhgehhaaGreatDoor
open Go.RowKit Go.Sort Go.Deep
variable {P : Nat} [NeZero P] {N : Nat}
theorem El.of_made {w w' : World} {k n : Nat} {b : Bs} (h : RG.Made w k (cb b) w') (hb : b.size = n) : El n w' (.slice (some ⟨k, 0, none⟩) n n) b := ⟨k, n, rfl, Nat.le_refl _, hb, h.lt, cb_holds h.range h.there⟩
theorem bsl1 (x : Value) (hx : ∃ p n c, x = .slice p n c) (w : World) : (Instr.buildSlice 33 1 #[(0, x)]).run Tryz.prog w = .ok (.slice (some ⟨w.heap.size, 0, none⟩) 1 1) (w.alloc (.cells #[x] 24)) := by
  obtain ⟨p, n, c, rfl⟩ := hx
  kernel_rfl
theorem Bo.of {n B0 : Nat} {w : World} {x : Value} {b : Bs} (h : El n w x b) (hn : 0 < n) (hB : B0 ≤ w.heap.size) (T : TypeId) : Bo n B0 (w.alloc (.cells #[x] T)) (.slice (some ⟨w.heap.size, 0, none⟩) 1 1) b :=
  ⟨w.heap.size, x, rfl, hB, by rw [World.size_alloc]; omega, by rw [World.cell?_alloc_new]; rfl, h.kept hn (Gr.of (n := 0) (below1 w _))⟩
theorem Lo.args {n base : Nat} {W : World} {v : Value} {bs : List Bs} (h : Lo n base W v bs) : ∃ q cap, v = .slice q bs.length cap ∧ (0 < bs.length → ∃ g, q = some ⟨g, 0, none⟩ ∧ g < W.heap.size ∧ ∀ (j : Nat) (b : Bs), bs[j]? = some b → ∃ x, W.cell? ⟨g, j, none⟩ = some x ∧ El n W x b) := by
  obtain ⟨xs, h1, h2, h3⟩ := h.ex
  have h4 := fun {g : Nat} => h2.cells (g := g)
  rcases h2.2 with ⟨rfl, h0⟩ | ⟨g, cap, cur, rfl, -, hc, -⟩
  · exact ⟨none, 0, by rw [h0], fun h => by omega⟩
  · refine ⟨_, _, rfl, fun _ => ⟨g, rfl, (Array.getElem?_eq_some_iff.1 hc).1, fun j b hb => ?_⟩⟩
    have hj : j < xs.length := by rw [h1]; exact (List.getElem?_eq_some_iff.1 hb).1
    have := h4 (g := g) rfl j xs[j] (List.getElem?_eq_getElem hj)
    rw [add0] at this
    exact ⟨_, this, h3 j _ b (List.getElem?_eq_getElem hj) hb⟩
theorem El.arg {W : World} {x : Value} {b : Bs} (h : El 32 W x b) : Arg W x b := by
  obtain ⟨k, c, rfl, h1, h2, h3, h4⟩ := h
  exact ⟨_, _, _, rfl, h2, fun _ => ⟨k, 0, rfl, h1, h3, h4⟩⟩
theorem El.arg33 {W : World} {x : Value} {b : Bs} (h : El 33 W x b) : Arg33 W x b := by
  obtain ⟨k, c, rfl, h1, h2, h3, h4⟩ := h
  exact ⟨_, _, _, rfl, h2, fun _ => ⟨k, 0, rfl, h1, h3, h4⟩⟩
set_option maxHeartbeats 2000000 in
set_option maxRecDepth 100000 in
theorem sumPoint_g (C : Fld P) (O : Ord N) (v : Value) (w : World) (k : Nat) (hk : k ≤ 512) (ns : Nat → Nat) (X : Nat → EC.Pt P) (hn : ∀ j, j < k → ns j < N) (hX : ∀ j, j < k → EC.On (X j))
    (hmer : ∀ W, Below w.heap.size w W → Calls Tryz.prog 36 #[v] W (Ret fun e w' => Below W.heap.size W w' ∧ ∃ q cap, e = .slice q k cap ∧ Tm w' q k ns (fun j => wr (X j)))) :
    Calls Tryz.prog 19 #[v] w (Ret fun e w' => Below w.heap.size w w' ∧ e = pvl (wr (EC.tot X k (fun j => (ns j : Int))))) := by
  have HM := Hid.mk' hmer
  have HC : Hid (Fld P ∧ Ord N ∧ (∀ j, j < k → ns j < N) ∧ ∀ j, j < k → EC.On (X j)) := ⟨C, O, hn, hX⟩
  obtain ⟨az, haz⟩ : ∃ az : Nat → Bs, Hid ((fun j => wr (X j)) = az) := ⟨_, rfl⟩
  have haz' : Hid (∀ j, az j = wr (X j)) := fun j => by rw [← haz.out]
  rw [haz.out] at HM
  obtain ⟨w1, hw1⟩ : ∃ w1, Hid (w.alloc (.cells z33.toArray 52) = w1) := ⟨_, rfl⟩
  have K1 : Hid (Row w1 w.heap.size z33 ∧ Below w.heap.size w w1) := by rw [← hw1.out]; exact ⟨row_new w _ _, below1 w _⟩
  obtain ⟨d, hd1, hd2⟩ := Option.map_eq_some_iff.1 uCP
  obtain ⟨d', hd3, hd4⟩ := Option.map_eq_some_iff.1 uT
  have HD : Hid ((Tryz.prog.underlying 52 = some d ∧ d.isRow = true) ∧ Tryz.prog.underlying 78 = some d' ∧ d'.isRow = true) := ⟨⟨hd1, hd2⟩, hd3, hd4⟩
  clear hd1 hd2 hd3 hd4 hmer hn hX haz C O
  go_enter Tryz.func19, Tryz.ntmps19
  go_wp2_with (refine wpList_op (v := .pointer (some ⟨w.heap.size, 0, none⟩)) (w' := w1) rfl (.alloc 52) rfl ?_ ?_; (rw [← hw1.out]; kernel_rfl))
  clear hw1
  refine (HM.out w1 K1.out.2).mono ?_
  rintro e w2 ⟨vv, rfl, hb2, q, cap, rfl, hT⟩
  have K2 : Hid (Pz w w2 q k 0 ns az (.slice none 0 0) (.slice none 0 0)) := ⟨K1.out.2.trans (hb2.mono K1.out.2.size), Lo.begin _ _ _, Lo.begin _ _ _, hT, K1.out.1.below hb2⟩
  clear hb2 hT K1 HM
  go_wp2_with fail
  go_loopg [3, 4, 12] k (fun m s3 s4 s12 W => ∃ i : Nat, i + m = k ∧ s12 = .int .i64 (i : Int) ∧ Hid (Pz w W q k i ns az s3 s4))
  case atStart => exact ⟨0, by omega, rfl, K2⟩
  case round =>
    clear K2
    obtain ⟨i, hik, rfl, KM⟩ := hrel
    by_cases hi : i < k
    · have hi' : (i : Int) < (k : Int) := by omega
      obtain ⟨g, hq, hg, hr⟩ := KM.out.tm (by omega)
      subst hq
      obtain ⟨n, hne⟩ : ∃ n, Hid (ns i = n) := ⟨_, rfl⟩
      obtain ⟨p, hpe⟩ : ∃ p, Hid (az i = p) := ⟨_, rfl⟩
      have B0 : Hid (wr.rangeAt g (37 * i) (wn n ++ bl33 p)) := by
        have h := hr i hi
        rw [hne.out, hpe.out] at h
        exact h
      have hps : Hid (p.size = 33) := by rw [← hpe.out, haz'.out i]; exact wr_size _
      have hnN : Hid (n < N) := by rw [← hne.out]; exact HC.out.2.2.1 i hi
      obtain ⟨W1, hW1⟩ : ∃ W1, Hid (wr.alloc (.cells zT.toArray 78) = W1) := ⟨_, rfl⟩
      obtain ⟨W2, hW2⟩ : ∃ W2, Hid (W1.setCells wr.heap.size 0 (wn n ++ bl33 p) = W2) := ⟨_, rfl⟩
      have hlen : (wn n ++ bl33 p).length = 37 := by rw [List.length_append, bl33_length hps.out]; rfl
      have F1 : Hid (Row W1 wr.heap.size zT ∧ Below wr.heap.size wr W1 ∧ W1.heap.size = wr.heap.size + 1) := by rw [← hW1.out]; exact ⟨row_new wr _ _, below1 wr _, World.size_alloc _ _⟩
      have F2 : Hid (Row W2 wr.heap.size (wn n ++ bl33 p) ∧ Below wr.heap.size wr W2) := by rw [← hW2.out]; exact ⟨F1.out.1.put (by rw [hlen]; rfl), RG.below_setCells (Nat.le_refl _) _ _ _ F1.out.2.1⟩
      have HLT : Hid ((Tryz.prog.info? 78).map (·.size) = some (wn n ++ bl33 p).length) := by show _ = _; rw [hlen]; exact iT
      have HLS : Hid ((Tryz.prog.info? 78).map (·.size) = some (wn n ++ bl33 p).toArray.size ∧ W1.there wr.heap.size 0 (wn n ++ bl33 p).toArray.size) := by
        have e : (wn n ++ bl33 p).toArray.size = 37 := by rw [List.size_toArray]; exact hlen
        rw [e]; exact ⟨iT, F1.out.1.2.2⟩
      have HAL : Hid ((wn n ++ bl33 p).toArray.all (·.oneCell') = true) := by
        show _ = _
        rw [Array.all_eq_true']
        intro u hu
        exact cells_one n p u (List.mem_toArray.1 hu)
      have hix := atT g 0 k cap i hi
      obtain ⟨vt, hvt⟩ : ∃ v, Hid (Value.agg (wn n ++ bl33 p).toArray = v) := ⟨_, rfl⟩
      have G2 : Gr 0 (.slice none 0 0) wr W2 := Gr.of F2.out.2
      have HB : Hid (∀ b, PBs w u3 u4 wr.heap.size n W2.heap.size w.heap.size p ((List.range i).map fun j => bx (ns j)) ((List.range i).map az) (some ⟨g, 0, none⟩) k ns az b W2.drew) := fun b => by
        match b with
        | 0 => exact F2.out.1
        | 1 => exact (KM.out.l3.kept (by decide) G2 (by decide)).drew
        | 2 => exact (KM.out.l4.kept (by decide) G2 (by decide)).drew
        | 3 => exact ⟨(KM.out.bl.trans (F2.out.2.mono KM.out.bl.size)).drew, Nat.le_trans KM.out.bl.size F2.out.2.size, Nat.le_refl _⟩
        | 4 => exact KM.out.tm.kept (W' := W2) G2
        | 5 => exact KM.out.r2.below (W' := W2) F2.out.2
        | _ + 6 => trivial
      have H3 : Hid (∀ g, u3.ownBlock = some g → w.heap.size ≤ g ∧ g < W2.heap.size) := fun g hg => ⟨(KM.out.l3.lt g hg).1, Nat.lt_of_lt_of_le (KM.out.l3.lt g hg).2 F2.out.2.size⟩
      have H4 : Hid (∀ g, u4.ownBlock = some g → w.heap.size ≤ g ∧ g < W2.heap.size) := fun g hg => ⟨(KM.out.l4.lt g hg).1, Nat.lt_of_lt_of_le (KM.out.l4.lt g hg).2 F2.out.2.size⟩
      have HG := Hid.mk' hg
      clear hlen hr G2 KM F2 hg
      go_wp2_with (first | (refine wpList_load_mid rfl 78 _ rfl g (37 * i) ?_ (wn n ++ bl33 p) d' ?_ ?_ ?_ ?_ ?_; rfl; exact B0.out; exact HD.out.2.1; exact HD.out.2.2; exact HLT.out; rw [hvt.out]) | (refine wpList_op (v := .pointer (some ⟨wr.heap.size, 0, none⟩)) (w' := W1) rfl (.alloc 78) rfl ?_ ?_; (rw [← hW1.out]; kernel_rfl)) | (refine wpList_store_mid rfl 78 _ _ rfl wr.heap.size 0 (wn n ++ bl33 p).toArray ?_ ?_ ?_ ?_ ?_ ?_; rfl; exact hvt.out.symm; exact HLS.out.2; exact HLS.out.1; exact HAL.out; rw [show (wn n ++ bl33 p).toArray.toList = wn n ++ bl33 p from rfl, hW2.out]) | fail)
      refine RG.flow_draws (FP w u3 u4 wr.heap.size n W2.heap.size w.heap.size p ((List.range i).map fun j => bx (ns j)) ((List.range i).map az) (some ⟨g, 0, none⟩) k ns az) (by kernel_rfl) ⟨by kernel_rfl, RG.certs_of ?_, fun i' j hi0 hj hij hkl hdp => P_stab u3 u4 wr.heap.size n W2.heap.size w.heap.size p _ _ H3.out H4.out i' j hj hij hkl (fun h => by rw [h.1, h.2] at hdp; exact absurd (show false = true from hdp.symm.trans (by kernel_rfl)) (by decide)) (fun h => by rw [h.1, h.2] at hdp; exact absurd (show false = true from hdp.symm.trans (by kernel_rfl)) (by decide)), fun i' b _ hkl => P_stabB w u3 u4 wr.heap.size n W2.heap.size w.heap.size p _ _ _ k ns az H3.out H4.out i' b hkl⟩ HB.out ?_
      · have hb0 : ∀ W : World, Gr 0 (.slice none 0 0) W W := fun W => Gr.of (Below.refl _ _)
        refine ⟨RG.cf_one 3 fun a W hp => ⟨a.eval (.tmp 3), W, by kernel_rfl, by kernel_rfl, hb0 W, hp.o 3 (by kernel_rfl)⟩,
          RG.cf_one 6 fun a W hp => ⟨.pointer (some ⟨wr.heap.size, 0, none⟩), W, by kernel_rfl, by rw [show a.eval (.tmp 6) = .pointer (some ⟨wr.heap.size, 0, none⟩) from hp.o 6 (by kernel_rfl)]; kernel_rfl, hb0 W, rfl⟩,
          RG.cf_load 47 17 rfl u40 fun a W hp => ⟨wr.heap.size, 0, wn n, hp.n 1 17 (by kernel_rfl) (by kernel_rfl) (by kernel_rfl), range_front (show Row W wr.heap.size (wn n ++ bl33 p) from hp.b 0 (by kernel_rfl)).2.1, i40, hb0 W, rfl⟩,
          RG.cf_call 18 fun a W hp => ⟨13, #[nv n], by kernel_rfl, by rw [show a.eval (.tmp 18) = nv n from hp.n 2 18 (by kernel_rfl) (by kernel_rfl) (by kernel_rfl)]; kernel_rfl, (sbytes_c HC.out.2.1 hnN.out W).mono (by
            rintro e W' ⟨u, rfl, k', hm, rfl⟩
            exact ⟨_, rfl, Gr.of hm.bel, El.of_made hm (bx_size n)⟩)⟩,
          RG.cf_one 19 fun a W hp => ⟨.slice (some ⟨W.heap.size, 0, none⟩) 1 1, W.alloc (.cells #[a.eval (.tmp 19)] 24), by kernel_rfl, by
            obtain ⟨k', c', he, -⟩ := show El 32 W (a.eval (.tmp 19)) (bx n) from hp.n 3 19 (by kernel_rfl) (by kernel_rfl) (by kernel_rfl)
            rw [he]; kernel_rfl, Gr.of (below1 W _), Bo.of (show El 32 W (a.eval (.tmp 19)) (bx n) from hp.n 3 19 (by kernel_rfl) (by kernel_rfl) (by kernel_rfl)) (by decide) (hp.b 3 (by kernel_rfl)).2.2 _⟩,
          RG.cf_app 16 20 33 rfl fun a W hp => ?_,
          RG.cf_one 4 fun a W hp => ⟨a.eval (.tmp 4), W, by kernel_rfl, by kernel_rfl, hb0 W, hp.o 4 (by kernel_rfl)⟩,
          RG.cf_one 6 fun a W hp => ⟨.pointer (some ⟨wr.heap.size, 4, none⟩), W, by kernel_rfl, by rw [show a.eval (.tmp 6) = .pointer (some ⟨wr.heap.size, 0, none⟩) from hp.o 6 (by kernel_rfl)]; kernel_rfl, hb0 W, rfl⟩,
          RG.cf_load 52 23 rfl uCP fun a W hp => ⟨wr.heap.size, 4, bl33 p, hp.n 7 23 (by kernel_rfl) (by kernel_rfl) (by kernel_rfl), range_back (xs := wn n) (show Row W wr.heap.size (wn n ++ bl33 p) from hp.b 0 (by kernel_rfl)).2.1, by rw [bl33_length hps.out]; exact infoCP, hb0 W, rfl⟩,
          RG.cf_call 24 fun a W hp => ⟨20, #[pvl p], by kernel_rfl, by rw [show a.eval (.tmp 24) = pvl p from hp.n 8 24 (by kernel_rfl) (by kernel_rfl) (by kernel_rfl)]; kernel_rfl, (ptBytes_c hps.out W).mono (by
            rintro e W' ⟨u, rfl, hb, hE⟩
            exact ⟨_, rfl, Gr.of hb, hE⟩)⟩,
          RG.cf_one 25 fun a W hp => ⟨.slice (some ⟨W.heap.size, 0, none⟩) 1 1, W.alloc (.cells #[a.eval (.tmp 25)] 24), by kernel_rfl, by
            obtain ⟨k', c', he, -⟩ := show El 33 W (a.eval (.tmp 25)) p from hp.n 9 25 (by kernel_rfl) (by kernel_rfl) (by kernel_rfl)
            rw [he]; kernel_rfl, Gr.of (below1 W _), Bo.of (show El 33 W (a.eval (.tmp 25)) p from hp.n 9 25 (by kernel_rfl) (by kernel_rfl) (by kernel_rfl)) (by decide) (hp.b 3 (by kernel_rfl)).2.2 _⟩,
          RG.cf_app 22 26 33 rfl fun a W hp => ?_,
          RG.cf_one 21 fun a W hp => ⟨a.eval (.tmp 21), W, by kernel_rfl, by kernel_rfl, hb0 W, hp.n 5 21 (by kernel_rfl) (by kernel_rfl) (by kernel_rfl)⟩,
          RG.cf_one 27 fun a W hp => ⟨a.eval (.tmp 27), W, by kernel_rfl, by kernel_rfl, hb0 W, hp.n 11 27 (by kernel_rfl) (by kernel_rfl) (by kernel_rfl)⟩, trivial⟩
        · obtain ⟨k', x, he, h1, h2, h3, h4⟩ := show Bo 32 W2.heap.size W (a.eval (.tmp 20)) (bx n) from hp.n 4 20 (by kernel_rfl) (by kernel_rfl) (by kernel_rfl)
          obtain ⟨v', W', r1, r2, r3⟩ := Lo.app (show Lo 32 w.heap.size W u3 _ from hp.b 1 (by kernel_rfl)) (by decide) h4 h3 (by rw [List.length_map, List.length_range]; omega) (hp.b 3 (by kernel_rfl)).2.1
          refine ⟨v', W', ?_, r3, r2⟩
          rw [he, show a.eval (.tmp 16) = u3 from hp.n 0 16 (by kernel_rfl) (by kernel_rfl) (by kernel_rfl)]
          exact r1
        · obtain ⟨k', x, he, h1, h2, h3, h4⟩ := show Bo 33 W2.heap.size W (a.eval (.tmp 26)) p from hp.n 10 26 (by kernel_rfl) (by kernel_rfl) (by kernel_rfl)
          obtain ⟨v', W', r1, r2, r3⟩ := Lo.app (show Lo 33 w.heap.size W u4 _ from hp.b 2 (by kernel_rfl)) (by decide) h4 h3 (by rw [List.length_map, List.length_range]; omega) (hp.b 3 (by kernel_rfl)).2.1
          refine ⟨v', W', ?_, r3, r2⟩
          rw [he, show a.eval (.tmp 22) = u4 from hp.n 6 22 (by kernel_rfl) (by kernel_rfl) (by kernel_rfl)]
          exact r1
      · intro V w5 hR5 hB5
        have KN : Hid (Pz w w5 (some ⟨g, 0, none⟩) k (i + 1) ns az (V 12) (V 13)) := by
          have h1 := hR5 12 (Nat.lt_of_succ_le (Nat.le_of_ble_eq_true (by kernel_rfl))) rfl
          have h2 := hR5 13 (Nat.lt_of_succ_le (Nat.le_of_ble_eq_true (by kernel_rfl))) rfl
          refine ⟨(hB5 3 rfl).1, ?_, ?_, hB5 4 rfl, hB5 5 rfl⟩
          · rw [List.range_succ, List.map_append]
            show Lo 32 w.heap.size w5 (V 12) (_ ++ [bx (ns i)])
            rw [hne.out]; exact h1
          · rw [List.range_succ, List.map_append]
            show Lo 33 w.heap.size w5 (V 13) (_ ++ [az i])
            rw [hpe.out]; exact h2
        clear hR5 hB5 HB H3 H4
        dsimp only [RG.putV, Nat.reduceAdd]
        generalize V 12 = s3 at KN ⊢
        generalize V 13 = s4 at KN ⊢
        go_wp2
        go_roundg (gk - 1)
        case measure => omega
        case rel => exact ⟨i + 1, by omega, rfl, KN⟩
    · have hi' : ¬ (i : Int) < (k : Int) := by omega
      obtain rfl : i = k := by omega
      obtain ⟨q3, c3, rfl, h3⟩ := KM.out.l3.args
      obtain ⟨q4, c4, rfl, h4⟩ := KM.out.l4.args
      rw [List.length_map, List.length_range] at h3 h4
      have HA : Hid (ArgsScs wr q3 i (fun j => bx (ns j))) := fun h0 => by
        obtain ⟨g, e1, e2, e3⟩ := h3 h0
        refine ⟨g, e1, e2, fun j hj => ?_⟩
        obtain ⟨x, x1, x2⟩ := e3 j (bx (ns j)) (by rw [List.getElem?_map, List.getElem?_range hj]; rfl)
        exact ⟨x, x1, x2.arg⟩
      have HP : Hid (ArgsPts wr q4 i az) := fun h0 => by
        obtain ⟨g, e1, e2, e3⟩ := h4 h0
        refine ⟨g, e1, e2, fun j hj => ?_⟩
        obtain ⟨x, x1, x2⟩ := e3 j (az j) (by rw [List.getElem?_map, List.getElem?_range hj]; rfl)
        exact ⟨x, x1, x2.arg33⟩
      rw [List.length_map, List.length_range, List.length_map, List.length_range]
      have KB : Hid (Below w.heap.size w wr ∧ Row wr w.heap.size z33) := ⟨KM.out.bl, KM.out.r2⟩
      clear h3 h4 KM
      go_wp2_with fail
      refine (gSum_c HC.out.1 HC.out.2.1.gap HC.out.2.1.le q3 q4 i c3 i c4 (fun j => bx (ns j)) az wr HA.out HP.out).mono ?_
      rintro e w6 ⟨vv, rfl, hb6, hS⟩
      obtain ⟨gs, cs, rfl, -, -, h6, h7⟩ := SumR.all HC.out.1 HC.out.2.1 (by omega) HC.out.2.2.1 HC.out.2.2.2 (fun _ _ => rfl) (fun j _ => haz'.out j) hS
      obtain ⟨T, hT⟩ : ∃ T, Hid (Go.Proofs.YtmepmoalhgehhaaGreatDoor.wr (EC.tot X i (fun j => (ns j : Int))) = T) := ⟨_, rfl⟩
      have hTs : T.size = 33 := by rw [← hT.out]; exact wr_size _
      rw [hT.out] at h7
      have K6 : Hid (Row w6 w.heap.size z33 ∧ Below w.heap.size w w6 ∧ Row w6 gs (bl33 T)) := ⟨KB.out.2.below hb6, KB.out.1.trans (hb6.mono KB.out.1.size), row_cp h7 h6⟩
      clear hb6 hS h6 h7 KB HA HP
      have harr := arrCP gs cs
      obtain ⟨w7, hw7⟩ : ∃ w7, Hid (w6.setCells w.heap.size 0 (bl33 T) = w7) := ⟨_, rfl⟩
      have hlen : (bl33 T).length = 33 := bl33_length hTs
      have K7 : Hid (Row w7 w.heap.size (bl33 T) ∧ Below w.heap.size w w7) := by rw [← hw7.out]; exact ⟨K6.out.1.put (by rw [hlen]; rfl), RG.below_setCells (Nat.le_refl _) _ _ _ K6.out.2.1⟩
      obtain ⟨vt, hvt⟩ : ∃ vt, Hid (Value.agg (bl33 T).toArray = vt) := ⟨_, rfl⟩
      have HI : Hid ((Tryz.prog.info? 52).map (·.size) = some (bl33 T).length ∧ w6.there w.heap.size 0 (bl33 T).toArray.size ∧ (Tryz.prog.info? 52).map (·.size) = some (bl33 T).toArray.size) := by
        have e : (bl33 T).toArray.size = 33 := by rw [List.size_toArray]; exact hlen
        refine ⟨by rw [hlen]; exact infoCP, by rw [e]; exact K6.out.1.2.2, by rw [e]; exact infoCP⟩
      clear hlen
      go_wp2_with (first | (refine wpList_load_mid rfl 52 _ rfl gs 0 ?_ (bl33 T) d ?_ ?_ ?_ ?_ ?_; rfl; exact K6.out.2.2.2.1; exact HD.out.1.1; exact HD.out.1.2; exact HI.out.1; rw [hvt.out]) | (refine wpList_store_mid rfl 52 _ _ rfl w.heap.size 0 (bl33 T).toArray ?_ ?_ ?_ ?_ ?_ ?_; rfl; exact hvt.out.symm; exact HI.out.2.1; exact HI.out.2.2; exact bl33_one T; rw [show (bl33 T).toArray.toList = bl33 T from rfl, hw7.out]))
      refine bodyPost_ret (results_cell 2 52 rfl K7.out.1 rfl uCP HI.out.1) rfl ?_
      exact ⟨_, rfl, K7.out.2, by rw [hT.out]; rfl⟩
end Go.Proofs.YtmepmoalhgehhaaGreatDoor
namespace Go.Proofs.YtmepmoalhgehhaaGreatDoor
open Go.RowKit Go.Sort Go.Deep
variable {P : Nat} [NeZero P] {N : Nat}
/-- A sum of one term. -/
theorem one_point (C : Fld P) (O : Ord N) {g c n : Nat} (hn : n < N) {X : EC.Pt P} (hX : EC.On X) (w : World) (hR : Row w g (wn n ++ bl33 (wr X))) :
    Calls Tryz.prog 19 #[.slice (some ⟨g, 0, none⟩) 1 c] w (Ret fun e w' => Below w.heap.size w w' ∧ e = pvl (wr (EC.mul n X))) := by
  by_cases h0 : n = 0
  · subst h0
    refine (sumPoint_g C O _ w 0 (by decide) (fun _ => 0) (fun _ => X) (fun j hj => by omega) (fun j hj => by omega) fun W hb => ?_).mono ?_
    · refine (merged_0 g c (wr X) (wr_size X) W (hR.below hb).1 (hR.below hb).2.1).mono ?_
      rintro e w' ⟨v, rfl, hb', q, cap, rfl⟩
      exact ⟨_, rfl, hb', q, cap, rfl, fun h => by omega⟩
    · rintro e w' ⟨v, rfl, hb', rfl⟩
      exact ⟨_, rfl, hb', rfl⟩
  · refine (sumPoint_g C O _ w 1 (by decide) (fun _ => n) (fun _ => X) (fun j hj => hn) (fun j hj => hX) fun W hb => ?_).mono ?_
    · have e1 : mrg N (fun _ => n) (fun _ => wr X) 1 = [(n, wr X)] := rfl
      have h := merged_d (N := N) g 1 c (by decide) (fun _ => n) (fun _ => wr X) (fun _ _ => wr_size X) (fun i hi => by
        obtain rfl : i = 0 := by omega
        rfl) (fun x hx => by
        rw [e1] at hx
        obtain rfl : x = (n, wr X) := by simpa using hx
        exact ⟨h0, Nat.lt_of_lt_of_le hn O.le⟩) (by rw [e1]; exact Nat.lt_succ_self 0) W (hR.below hb).1 (fun j hj => by
        obtain rfl : j = 0 := by omega
        exact (hR.below hb).2.1)
      refine h.mono ?_
      rintro e w' ⟨v, rfl, hb', g', cap, rfl, h1, h2, h3⟩
      refine ⟨_, rfl, hb', some ⟨g', 0, none⟩, cap, rfl, fun _ => ⟨g', rfl, h2, fun j hj => ?_⟩⟩
      have := h3 j hj
      obtain rfl : j = 0 := by omega
      exact this
    · rintro e w' ⟨v, rfl, hb', rfl⟩
      exact ⟨_, rfl, hb', rfl⟩
end Go.Proofs.YtmepmoalhgehhaaGreatDoor
