import Derived.Laws.AppendOwn
import Derived.Deep.AppendSrc
import Derived.Lib.AppendZeros
import Derived.Deep.MidRow
import Derived.BigQuiet
import Derived.Lib.ConvBytes
import Derived.BigRegion
import Derived.Deep.RegionLaw
import Derived.Laws.OwnMore
import Derived.StillTailTactics
import Derived.Deep.LoopGhost
import Derived.Test.YtfkgfcggcfkkiaaDoorwk9
set_option linter.unusedVariables false
set_option linter.unusedSimpArgs false
namespace Go.Proofs.YtfkgfcggcfkkiaaDoor.SP
open Go.RowKit Go.Sort Go.Deep
theorem int5 : Tryd.prog.underlying 5 = some (.int .u8) := by kernel_rfl
theorem str9 : Tryd.prog.underlying 9 = some .string := by kernel_rfl
theorem size5 : ∀ w, (Go.sizeOf 5).run Tryd.prog w = .ok 1 w := size_of5 Tryd.prog 5 (by kernel_rfl)
theorem lent_step (s : ByteArray) (k : Nat) : lentTo s (k + 1) = (lentTo s k).setIfInBounds (s.size + k) (fill (s.size + k)) := rfl
set_option maxHeartbeats 1000000 in
set_option maxRecDepth 100000 in
theorem Lent_any (s : ByteArray) (w : World) (hs : s.size ≤ 16384) :
    Calls Tryd.prog 7 #[.string s] w fun e w' => e = .returned (.slice (some ⟨w.heap.size, 0, none⟩) (s.size + 160) (s.size + 160)) ∧ Below w.heap.size w w' ∧ Holds encB w' w.heap.size 0 (lent s) := by
  obtain ⟨n, hn⟩ : ∃ n, s.size + 160 = n := ⟨_, rfl⟩
  have hmk := run_make_row' (P := Tryd.prog) 22 5 (.int .u8 0) 1 slice22 info5 rfl .i64 .i64 n (by omega) (by omega)
  rw [← hn, show ((s.size + 160 : Nat) : Int) = (s.size : Int) + 160 from by omega, hn] at hmk
  have hH0 : Holds encB (w.alloc (.cells (madeCells #[.int .u8 0] n) 5)) w.heap.size 0 (Array.replicate n 0) := Holds.made (enc := encB) w 5 n 0
  have hcp := run_copy_string (P := Tryd.prog) (w.alloc (.cells (madeCells #[.int .u8 0] n) 5)) 22 9 3 5 w.heap.size 0 n n s slice22 size5 (by omega)
    (fun j hj => by rw [(hH0 j (by rw [Array.size_replicate]; omega)).1]; rfl) (fun j hj => (hH0 j (by rw [Array.size_replicate]; omega)).2)
  have hH1 : Holds encB ((w.alloc (.cells (madeCells #[.int .u8 0] n) 5)).setCells w.heap.size 0 (s.data.toList.map fun x => Value.int .u8 (x.toNat : Int))) w.heap.size 0 (lentTo s 0) := by
    exact holds_lent0 s n hn hH0
  have hb1 : Below w.heap.size w ((w.alloc (.cells (madeCells #[.int .u8 0] n) 5)).setCells w.heap.size 0 (s.data.toList.map fun x => Value.int .u8 (x.toNat : Int))) :=
    below_setCells (Nat.le_refl _) _ _ _ ((Below.refl _ _).alloc (Nat.le_refl _) _)
  have hsz : w.heap.size < ((w.alloc (.cells (madeCells #[.int .u8 0] n) 5)).setCells w.heap.size 0 (s.data.toList.map fun x => Value.int .u8 (x.toNat : Int))).heap.size := by
    have := (below_setCells (B := 0) (b := w.heap.size) (Nat.zero_le _) (s.data.toList.map fun x => Value.int .u8 (x.toNat : Int)) 0 (w.alloc (.cells (madeCells #[.int .u8 0] n) 5)) (Below.refl 0 _)).size
    rw [World.size_alloc] at this
    omega
  go_enter Tryd.func7, Tryd.ntmps7
  go_wp2
  generalize World.setCells _ _ _ _ = W2 at hH1 hb1 hsz ⊢
  clear hmk hcp hH0
  have n160 : (n : Int) = (s.size : Int) + 160 := by omega
  have Hn : Hid (s.size + 160 = n) := hn
  have hnb : n ≤ 16544 := by omega
  have hsn : s.size ≤ n := by omega
  clear hn n160
  go_loopg [4] 160 (fun g s4 wr => ∃ (k : Nat) (bs : Bs), k + g = 160 ∧ s4 = .int .i64 ((s.size + k : Nat) : Int) ∧ Holds encB wr w.heap.size 0 bs ∧ Only w.heap.size 0 n W2 wr ∧ Hid (bs = lentTo s k))
  case atStart => exact ⟨0, _, rfl, rfl, hH1, Only.refl _ _ _ _, rfl⟩
  case round =>
    obtain ⟨k, bs, hk, rfl, hB, hO, HE⟩ := hrel
    have hbs : bs.size = n := by rw [HE.out, lentTo_size]; exact Hn.out
    obtain ⟨i, hi⟩ : ∃ i, s.size + k = i := ⟨_, rfl⟩
    have Hi : Hid (s.size + k = i) := hi
    rw [hi]
    clear hi
    by_cases hlt : k < 160
    · have hin : i < n := by have := Hi.out; have := Hn.out; omega
      obtain ⟨c0, f0⟩ := hB i (by omega)
      rw [Nat.zero_add] at c0 f0
      have hin' : (i : Int) < (n : Int) := by omega
      have hf := fill_int i
      go_wp2
      go_roundg (gk - 1)
      case measure => omega
      case rel =>
        refine ⟨k + 1, bs.setIfInBounds i (fill i), by omega, ?_, ?_, ?_, ?_⟩
        · rw [← Hi.out]; go_num
        · have := Holds.set hB (i := i) (by omega) (fill i)
          rw [Nat.zero_add] at this
          exact this
        · exact hO.setCell (o := i) (by omega) (by omega) _
        · show _ = lentTo s (k + 1)
          rw [lent_step, Hi.out, HE.out]
    · have hin : (n : Int) ≤ (i : Int) := by have := Hi.out; have := Hn.out; omega
      have hk0 : k = 160 := by omega
      go_wp2
      go_ret
      refine ⟨?_, hb1.trans (hO.below (by omega) (Nat.le_refl _)), ?_⟩
      · rw [Hn.out]; rfl
      · unfold lent
        rw [HE.out, hk0] at hB
        exact hB
set_option maxHeartbeats 1000000 in
set_option maxRecDepth 100000 in
theorem Still_any (b : Nat) (bs : Bs) (s : ByteArray) (w : World) (hs : s.size ≤ 16384) (hB : Holds encB w b 0 bs) (hbs : bs = lent s) :
    Calls Tryd.prog 9 #[.slice (some ⟨b, 0, none⟩) (s.size + 160) (s.size + 160), .string s] w fun e w' => e = .returned (.bool true) ∧ Below w.heap.size w w' := by
  have hb := Holds.lt hB (by rw [hbs, lent_size]; omega)
  go_enter Tryd.func9, Tryd.ntmps9
  go_wp2_with fail
  refine (Lent_any s _ hs).mono ?_
  rintro e w1 ⟨rfl, hb1, hL⟩
  have k1 := conv_str Tryd.prog 22 9 5 slice22 int5 str9 w1 b 0 (s.size + 160) (s.size + 160) _ (Holds.below hB hb1 hb) (by rw [hbs, lent_size])
  have k2 := conv_str Tryd.prog 22 9 5 slice22 int5 str9 w1 w.heap.size 0 (s.size + 160) (s.size + 160) _ hL (lent_size s)
  rw [hbs] at k1
  go_wp2
  go_ret
  exact ⟨rfl, hb1⟩
end Go.Proofs.YtfkgfcggcfkkiaaDoor.SP
namespace Go.Proofs.YtfkgfcggcfkkiaaDoor.SP
open Go.RowKit Go.Sort Go.Deep
set_option maxHeartbeats 1000000 in
set_option maxRecDepth 100000 in
theorem LentJ (s : ByteArray) (w : World) (hs : s.size ≤ 1048576) :
    Calls Tryd.prog 7 #[.string s] w fun e w' => e = .returned (.slice (some ⟨w.heap.size, 0, none⟩) (s.size + 160) (s.size + 160)) ∧ Below w.heap.size w w' ∧ Holds encB w' w.heap.size 0 (lent s) := by
  obtain ⟨n, hn⟩ : ∃ n, s.size + 160 = n := ⟨_, rfl⟩
  have hmk := run_make_row' (P := Tryd.prog) 22 5 (.int .u8 0) 1 slice22 info5 rfl .i64 .i64 n (by omega) (by omega)
  rw [← hn, show ((s.size + 160 : Nat) : Int) = (s.size : Int) + 160 from by omega, hn] at hmk
  have hH0 : Holds encB (w.alloc (.cells (madeCells #[.int .u8 0] n) 5)) w.heap.size 0 (Array.replicate n 0) := Holds.made (enc := encB) w 5 n 0
  have hcp := run_copy_string (P := Tryd.prog) (w.alloc (.cells (madeCells #[.int .u8 0] n) 5)) 22 9 3 5 w.heap.size 0 n n s slice22 size5 (by omega)
    (fun j hj => by rw [(hH0 j (by rw [Array.size_replicate]; omega)).1]; rfl) (fun j hj => (hH0 j (by rw [Array.size_replicate]; omega)).2)
  have hH1 : Holds encB ((w.alloc (.cells (madeCells #[.int .u8 0] n) 5)).setCells w.heap.size 0 (s.data.toList.map fun x => Value.int .u8 (x.toNat : Int))) w.heap.size 0 (lentTo s 0) := by
    exact holds_lent0 s n hn hH0
  have hb1 : Below w.heap.size w ((w.alloc (.cells (madeCells #[.int .u8 0] n) 5)).setCells w.heap.size 0 (s.data.toList.map fun x => Value.int .u8 (x.toNat : Int))) :=
    below_setCells (Nat.le_refl _) _ _ _ ((Below.refl _ _).alloc (Nat.le_refl _) _)
  have hsz : w.heap.size < ((w.alloc (.cells (madeCells #[.int .u8 0] n) 5)).setCells w.heap.size 0 (s.data.toList.map fun x => Value.int .u8 (x.toNat : Int))).heap.size := by
    have := (below_setCells (B := 0) (b := w.heap.size) (Nat.zero_le _) (s.data.toList.map fun x => Value.int .u8 (x.toNat : Int)) 0 (w.alloc (.cells (madeCells #[.int .u8 0] n) 5)) (Below.refl 0 _)).size
    rw [World.size_alloc] at this
    omega
  go_enter Tryd.func7, Tryd.ntmps7
  go_wp2
  generalize World.setCells _ _ _ _ = W2 at hH1 hb1 hsz ⊢
  clear hmk hcp hH0
  have n160 : (n : Int) = (s.size : Int) + 160 := by omega
  have Hn : Hid (s.size + 160 = n) := hn
  have hnb : n ≤ 1048736 := by omega
  have hsn : s.size ≤ n := by omega
  clear hn n160
  go_loopg [4] 160 (fun g s4 wr => ∃ (k : Nat) (bs : Bs), k + g = 160 ∧ s4 = .int .i64 ((s.size + k : Nat) : Int) ∧ Holds encB wr w.heap.size 0 bs ∧ Only w.heap.size 0 n W2 wr ∧ Hid (bs = lentTo s k))
  case atStart => exact ⟨0, _, rfl, rfl, hH1, Only.refl _ _ _ _, rfl⟩
  case round =>
    obtain ⟨k, bs, hk, rfl, hB, hO, HE⟩ := hrel
    have hbs : bs.size = n := by rw [HE.out, lentTo_size]; exact Hn.out
    obtain ⟨i, hi⟩ : ∃ i, s.size + k = i := ⟨_, rfl⟩
    have Hi : Hid (s.size + k = i) := hi
    rw [hi]
    clear hi
    by_cases hlt : k < 160
    · have hin : i < n := by have := Hi.out; have := Hn.out; omega
      obtain ⟨c0, f0⟩ := hB i (by omega)
      rw [Nat.zero_add] at c0 f0
      have hin' : (i : Int) < (n : Int) := by omega
      have hf := fill_int i
      go_wp2
      go_roundg (gk - 1)
      case measure => omega
      case rel =>
        refine ⟨k + 1, bs.setIfInBounds i (fill i), by omega, ?_, ?_, ?_, ?_⟩
        · rw [← Hi.out]; go_num
        · have := Holds.set hB (i := i) (by omega) (fill i)
          rw [Nat.zero_add] at this
          exact this
        · exact hO.setCell (o := i) (by omega) (by omega) _
        · show _ = lentTo s (k + 1)
          rw [lent_step, Hi.out, HE.out]
    · have hin : (n : Int) ≤ (i : Int) := by have := Hi.out; have := Hn.out; omega
      have hk0 : k = 160 := by omega
      go_wp2
      go_ret
      refine ⟨?_, hb1.trans (hO.below (by omega) (Nat.le_refl _)), ?_⟩
      · rw [Hn.out]; rfl
      · unfold lent
        rw [HE.out, hk0] at hB
        exact hB
set_option maxHeartbeats 1000000 in
set_option maxRecDepth 100000 in
theorem StillJ (b : Nat) (bs : Bs) (s : ByteArray) (w : World) (hs : s.size ≤ 1048576) (hB : Holds encB w b 0 bs) (hbs : bs = lent s) :
    Calls Tryd.prog 9 #[.slice (some ⟨b, 0, none⟩) (s.size + 160) (s.size + 160), .string s] w fun e w' => e = .returned (.bool true) ∧ Below w.heap.size w w' := by
  have hb := Holds.lt hB (by rw [hbs, lent_size]; omega)
  go_enter Tryd.func9, Tryd.ntmps9
  go_wp2_with fail
  refine (LentJ s _ hs).mono ?_
  rintro e w1 ⟨rfl, hb1, hL⟩
  have k1 := conv_str Tryd.prog 22 9 5 slice22 int5 str9 w1 b 0 (s.size + 160) (s.size + 160) _ (Holds.below hB hb1 hb) (by rw [hbs, lent_size])
  have k2 := conv_str Tryd.prog 22 9 5 slice22 int5 str9 w1 w.heap.size 0 (s.size + 160) (s.size + 160) _ hL (lent_size s)
  rw [hbs] at k1
  go_wp2
  go_ret
  exact ⟨rfl, hb1⟩
end Go.Proofs.YtfkgfcggcfkkiaaDoor.SP
namespace Go.Proofs.YtfkgfcggcfkkiaaDoor
open Go.RowKit Go.Sort Go.Deep
theorem undBB : Tryd.prog.underlying 36 = some (.slice 22) := by kernel_rfl
theorem infoBB : (Tryd.prog.info? 22).map (fun i => (i.size, i.bytes, i.zero.map fun z => z.cells.size)) = some (1, 24, some 1) := by kernel_rfl
theorem addP0 (g o j : Nat) : (⟨g, o, none⟩ : Addr).add j = ⟨g, o + j, none⟩ := by
  unfold Addr.add
  by_cases h0 : j = 0
  · subst h0; rw [if_pos rfl]; rfl
  · rw [if_neg h0]
/-- A list of values of one cell each, anywhere. -/
structure VL (w : World) (q : Option Addr) (m : Nat) (ys : List Value) : Prop where
  len : ys.length = m
  nil : q = none → m = 0
  cells : ys = [] ∨ ∃ b o, q = some ⟨b, o, none⟩ ∧ b < w.heap.size ∧ ∀ (j : Nat) u, ys[j]? = some u → w.cell? ⟨b, o + j, none⟩ = some u
  one : ∀ u ∈ ys, u.oneCell' = true
theorem VL.below {w w' : World} {q : Option Addr} {m : Nat} {ys : List Value} (h : VL w q m ys) (hb : Below w.heap.size w w') : VL w' q m ys :=
  ⟨h.len, h.nil, by
    rcases h.cells with h0 | ⟨b, o, h1, h2, h3⟩
    · exact Or.inl h0
    · exact Or.inr ⟨b, o, h1, Nat.lt_of_lt_of_le h2 hb.size, fun j u hj => by rw [hb.cell (p := ⟨b, o + j, none⟩) h2]; exact h3 j u hj⟩, h.one⟩
/-- A list of a walk's own, that grows. -/
structure GLs (w W : World) (v : Value) (xs : List Value) : Prop where
  bl : Below w.heap.size w W
  ow : W.ownsRow w.heap.size 22 1 v xs.length xs
  nn : v.ownBlock ≠ none
theorem GLs.lt {w W : World} {v : Value} {xs : List Value} (h : GLs w W v xs) : ∃ g cap, v = .slice (some ⟨g, 0, none⟩) xs.length cap ∧ w.heap.size ≤ g ∧ g < W.heap.size := by
  rcases id h.ow with ⟨-, ⟨rfl, h0⟩ | ⟨g, cap, cur, rfl, h1, h2, -⟩⟩
  · exact absurd rfl h.nn
  · refine ⟨g, cap, rfl, h1, ?_⟩
    by_cases hg : g < W.heap.size
    · exact hg
    · rw [Array.getElem?_eq_none (by omega)] at h2; cases h2
theorem GLs.below {w W W' : World} {v : Value} {xs : List Value} (h : GLs w W v xs) (hb : Below W.heap.size W W') : GLs w W' v xs := by
  refine ⟨h.bl.trans (hb.mono h.bl.size), ?_, h.nn⟩
  rcases h.ow with ⟨h0, h1 | ⟨g, cap, cur, h1, h2, h3, h4⟩⟩
  · exact ⟨h0, Or.inl h1⟩
  · refine ⟨h0, Or.inr ⟨g, cap, cur, h1, h2, ?_, h4⟩⟩
    rw [hb.block g (by
      by_cases hg : g < W.heap.size
      · exact hg
      · rw [Array.getElem?_eq_none (by omega)] at h3; cases h3)]
    exact h3
/-- 'append(l, ys...)', l a walk's own. -/
theorem GLs.app2 {w W : World} {v : Value} {xs ys : List Value} {q : Option Addr} {m c : Nat} (h : GLs w W v xs) (hx : VL W q m ys) (hn : xs.length + m ≤ 1000000) :
    ∃ v' W', (Builtin.append_ #[36, 36] 36 #[v, .slice q m c]).run Tryd.prog W = .ok v' W' ∧ GLs w W' v' (xs ++ ys) ∧ W.heap.size ≤ W'.heap.size := by
  obtain ⟨i, hi, he⟩ := Option.map_eq_some_iff.1 infoBB
  simp only [Prod.mk.injEq] at he
  obtain ⟨h1, h2, h3⟩ := he
  obtain ⟨z, hz, hz2⟩ := Option.map_eq_some_iff.1 h3
  obtain ⟨g, cap, rfl, hg1, hg2⟩ := h.lt
  cases q with
  | none =>
    have hm := hx.nil rfl
    subst hm
    obtain rfl : ys = [] := List.length_eq_zero_iff.1 hx.len
    rcases id h.ow with ⟨-, ⟨h0, -⟩ | ⟨g', cap', cur, h0, g1, g2, g3, g4⟩⟩
    · cases h0
    · injection h0 with h0 _ h0'
      injection h0 with h0
      injection h0 with h0
      subst h0 h0'
      have hap := run_append_room_src (P := Tryd.prog) W 36 36 36 22 i undBB hi g 0 xs.length cap (.slice none 0 c) 0 [] (Src.ofNil (e' := 22) _ undBB c) g3 (fun j hj => by cases hj) (fun j hj => by cases hj)
      refine ⟨_, _, hap, ?_, Nat.le_refl _⟩
      rw [List.append_nil]
      exact h
  | some a =>
    obtain ⟨v', W', r1, r2, r3, r4⟩ := run_append_own (P := Tryd.prog) W w.heap.size 36 36 22 i z 1 24 undBB hi hz h1 h2 hz2 (by decide) _ xs.length xs h.ow a m c ys (by rw [hx.len]; omega)
      (fun j u hj => by
        rcases hx.cells with rfl | ⟨b, o, hq, -, hc⟩
        · cases hj
        · obtain rfl := Option.some.inj hq
          rw [addP0]; exact hc j u hj) hx.one (by unfold maxLen; omega) (by omega) h.bl.size
    refine ⟨v', W', r1, ⟨⟨by rw [r3.os, h.bl.os], by rw [r3.tape, h.bl.tape], by rw [r3.output, h.bl.output], Nat.le_trans h.bl.size r3.size, fun k hk => ?_⟩, ?_, ?_⟩, r3.size⟩
    · rw [r3.block k (Nat.lt_of_lt_of_le hk h.bl.size) (by simp [Value.ownBlock]; omega)]
      exact h.bl.block k hk
    · rw [List.length_append, hx.len]; exact r2
    · rcases r2.2 with ⟨h5, -⟩ | ⟨g', cap', cur, rfl, -⟩
      · have := (r4.1 h5).1
        exact absurd this (by simp)
      · simp [Value.ownBlock]
theorem GLs.app {w W : World} {v : Value} {xs ys : List Value} {q : Option Addr} {m c : Nat} (h : GLs w W v xs) (hx : VL W q m ys) (hn : xs.length + m ≤ 1000000) :
    ∃ v' W', (Builtin.append_ #[36, 36] 36 #[v, .slice q m c]).run Tryd.prog W = .ok v' W' ∧ GLs w W' v' (xs ++ ys) := by
  obtain ⟨v', W', h1, h2, -⟩ := h.app2 (c := c) hx hn
  exact ⟨v', W', h1, h2⟩
end Go.Proofs.YtfkgfcggcfkkiaaDoor
namespace Go.Proofs.YtfkgfcggcfkkiaaDoor
open Go.RowKit Go.Sort Go.Deep
theorem Hid.mkP {p : Prop} (h : p) : Hid p := h
section
variable {P : Program} {ops : Array Oper} {rest : List Oper} {op : Oper} {a : Act} {w w' : World} {v : Value} {Q : Exit → Act → World → Prop}
theorem wpList_opP (hgd : op.guard = none) (X : Op) (_ : op.op = X) (hr : (execOp a.eval op).run P w = .ok (.value v) w') (h : wpList P ops Q rest (a.put op.dst v) w') : wpList P ops Q (op :: rest) a w :=
  wpList_plain hgd fun K hK => by
    unfold Oper.wp
    rw [hr]
    exact hK _ _ h
end
theorem alloc_below (w : World) (o : Obj) : Below w.heap.size w (w.alloc o) := (Below.refl _ _).alloc (Nat.le_refl _) _
theorem alloc_cell (w : World) (cs : Array Value) (T : TypeId) (j : Nat) (v : Value) (h : cs[j]? = some v) : (w.alloc (.cells cs T)).cell? ⟨w.heap.size, j, none⟩ = some v := by
  unfold World.alloc World.cell?
  simp [h]
theorem gls_new (w : World) : GLs w (w.alloc (.cells #[] 22)) (.slice (some ⟨w.heap.size, 0, none⟩) 0 0) [] :=
  ⟨alloc_below w _, ⟨rfl, .inr ⟨w.heap.size, 0, #[], rfl, Nat.le_refl _, Array.getElem?_push_size, Nat.le_refl _, Nat.zero_le _, rfl, rfl⟩⟩, by simp [Value.ownBlock]⟩
theorem vl_new (w : World) (ys : List Value) (T : TypeId) (h1 : ∀ u ∈ ys, u.oneCell' = true) : VL (w.alloc (.cells ys.toArray T)) (some ⟨w.heap.size, 0, none⟩) ys.length ys :=
  ⟨rfl, fun h => by (cases h), Or.inr ⟨w.heap.size, 0, rfl, by rw [World.size_alloc]; omega, fun j u hj => by rw [Nat.zero_add]; exact alloc_cell w _ T j u (by simpa using hj)⟩, h1⟩
end Go.Proofs.YtfkgfcggcfkkiaaDoor
namespace Go.Proofs.YtfkgfcggcfkkiaaDoor
open Go.RowKit Go.Sort Go.Deep
/-- A part of a proof: any bytes' value. -/
structure Sv where
  q : Option Addr
  n : Nat
  c : Nat
def Sv.v (s : Sv) : Value := .slice s.q s.n s.c
/-- A proof of a range, as eleven cells: A, S, T1, T2, Tau, Mu, T, then L, R, A, B. -/
def rgC (a b c d e f g l r x y : Sv) : List Value := [a.v, b.v, c.v, d.v, e.v, f.v, g.v, l.v, r.v, x.v, y.v]
end Go.Proofs.YtfkgfcggcfkkiaaDoor
namespace Go.Proofs.YtfkgfcggcfkkiaaDoor
open Go.RowKit Go.Sort Go.Deep
theorem GLs.cell {w W : World} {g n c : Nat} {xs : List Value} (h : GLs w W (.slice (some ⟨g, 0, none⟩) n c) xs) (j : Nat) (u : Value) (hj : xs[j]? = some u) : W.cell? ⟨g, j, none⟩ = some u := by
  have := h.ow.cells (g := g) rfl j u hj
  rw [addP0, Nat.zero_add] at this
  exact this
theorem idxP (g n c i : Nat) (hi : i < n) (w : World) : (Instr.indexAt 36 (.slice (some ⟨g, 0, none⟩) n c) (.int .i64 (i : Int))).run Tryd.prog w = .ok (.pointer (some ⟨g, i, none⟩)) w := by
  have h1 : ¬ (i : Int) < 0 := by omega
  have h2 : (i : Int) < (n : Int) := by omega
  go_simp
/-- What claimed answers. -/
def ClR (w : World) (n m : Nat) (XS : List Value) (e : Ending) (w' : World) : Prop := Below w.heap.size w w' ∧ ∃ t, e = .returned (.bool t) ∧ (t = true → n ≤ 10 ∧ m ≤ 10 ∧ ∀ s : Sv, s.v ∈ XS → s.n ≤ 100)
end Go.Proofs.YtfkgfcggcfkkiaaDoor
namespace Go.Proofs.YtfkgfcggcfkkiaaDoor
open Go.RowKit Go.Sort Go.Deep
/-- A value is bytes b, wherever they lie. -/
def Pt (W : World) (u : Value) (b : SP.Bs) : Prop := ∃ q c, u = .slice q (Array.size b) c ∧ (b.size = 0 ∨ ∃ g o, q = some ⟨g, o, none⟩ ∧ g < W.heap.size ∧ Holds SP.encB W g o b)
theorem Pt.below {W W' : World} {u : Value} {b : SP.Bs} (h : Pt W u b) (hb : Below W.heap.size W W') : Pt W' u b := by
  obtain ⟨q, c, h1, h2 | ⟨g, o, h3, h4, h5⟩⟩ := h
  · exact ⟨q, c, h1, Or.inl h2⟩
  · exact ⟨q, c, h1, Or.inr ⟨g, o, h3, Nat.lt_of_lt_of_le h4 hb.size, SP.Holds.below h5 hb h4⟩⟩
theorem Pt.conv {W : World} {u : Value} {b : SP.Bs} (h : Pt W u b) : (convert 22 9 u).run Tryd.prog W = .ok (.string ⟨b⟩) W := by
  obtain ⟨q, c, rfl, h2 | ⟨g, o, rfl, h4, h5⟩⟩ := h
  · obtain rfl : b = #[] := Array.eq_empty_of_size_eq_zero h2
    cases q with
    | none => exact run_convert_bytes_nil (P := Tryd.prog) (w := W) 22 5 SP.slice22 SP.int5 0 c 9 SP.str9
    | some a => exact run_convert_bytes_back (P := Tryd.prog) W 22 9 5 a c [] SP.slice22 SP.int5 SP.str9 (fun j hj => by cases hj)
  · exact SP.conv_str Tryd.prog 22 9 5 SP.slice22 SP.int5 SP.str9 W g o _ c b h5 rfl
/-- An Inner's value. -/
def inV (l r x y : Sv) : List Value := [l.v, r.v, x.v, y.v]
theorem alloc_range (w : World) (cs : List Value) (T : TypeId) : (w.alloc (.cells cs.toArray T)).rangeAt w.heap.size 0 cs := fun j u hj => by rw [Nat.zero_add]; exact alloc_cell w _ _ j u (by simpa using hj)
theorem range_below {w w' : World} {b o : Nat} {cs : List Value} (h : w.rangeAt b o cs) (hb : Below w.heap.size w w') (hlt : b < w.heap.size) : w'.rangeAt b o cs := fun j u hj => by rw [hb.cell (p := ⟨b, o + j, none⟩) hlt]; exact h j u hj
end Go.Proofs.YtfkgfcggcfkkiaaDoor
namespace Go.Proofs.YtfkgfcggcfkkiaaDoor
open Go.RowKit Go.Sort Go.Deep
/-- Seven values, four values: a proof of a range as eleven cells. -/
structure Rg where
  a : Sv
  b : Sv
  c : Sv
  d : Sv
  e : Sv
  f : Sv
  g : Sv
  l : Sv
  r : Sv
  x : Sv
  y : Sv
def Rg.cs (p : Rg) : List Value := rgC p.a p.b p.c p.d p.e p.f p.g p.l p.r p.x p.y
def Rg.all (p : Rg) (ys1 ys2 : List Value) : List Value := ys1 ++ ys2 ++ [p.x.v, p.y.v] ++ [p.a.v, p.b.v, p.c.v, p.d.v, p.e.v, p.f.v, p.g.v]
end Go.Proofs.YtfkgfcggcfkkiaaDoor
namespace Go.Proofs.YtfkgfcggcfkkiaaDoor
open Go.RowKit Go.Sort Go.Deep
/-- A text as bytes of one's own. -/
theorem conv_ofP (s : ByteArray) (w : World) :
    ∃ cap w', (convert 9 22 (.string s)).run Tryd.prog w = .ok (.slice (some ⟨w.heap.size, 0, none⟩) s.size cap) w' ∧ s.size ≤ cap ∧ Below w.heap.size w w' ∧ Holds SP.encB w' w.heap.size 0 s.data ∧ w.heap.size < w'.heap.size := by
  have h := Lib.run_convert_string_bytes (P := Tryd.prog) w 9 22 5 s SP.str9 SP.slice22 SP.int5
  have hcap : s.size ≤ grownCap w s.size 0 5 := by
    unfold grownCap Question.cut
    exact Nat.le_add_right _ _
  have hl : s.data.size = s.size := rfl
  refine ⟨_, _, h, hcap, ?_, ?_, by rw [Lib.bytesWorld_size]; omega⟩
  · refine ⟨?_, ?_, ?_, ?_, fun k hk => Lib.bytesWorld_at_old w 5 s k hk⟩
    · unfold Lib.bytesWorld World.freeze
      rw [if_neg (by decide)]
      rfl
    · unfold Lib.bytesWorld World.freeze
      rw [if_neg (by decide)]
      rfl
    · unfold Lib.bytesWorld World.freeze
      rw [if_neg (by decide)]
      rfl
    · rw [Lib.bytesWorld_size]; omega
  · intro j hj
    have hb := Lib.bytesWorld_at_new w 5 s
    have hsz : (Lib.bytesCells w 5 s).size = grownCap w s.size 0 5 := by
      unfold Lib.bytesCells
      rw [Array.size_append, Array.size_map, Array.size_replicate]
      omega
    have hc : (Lib.bytesCells w 5 s) = (s.data ++ Array.replicate (grownCap w s.size 0 5 - s.size) 0).map SP.encB := by
      unfold Lib.bytesCells
      rw [Array.map_append, Array.map_replicate]
      rfl
    have hj2 : j < (s.data ++ Array.replicate (grownCap w s.size 0 5 - s.size) 0).size := by rw [Array.size_append, Array.size_replicate]; omega
    have hget : (s.data ++ Array.replicate (grownCap w s.size 0 5 - s.size) 0)[j] = s.data[j]! := by
      rw [Array.getElem_append_left hj, getElem!_pos s.data j hj]
    constructor
    · unfold World.cell?
      rw [hb]
      simp only [Nat.zero_add]
      rw [if_neg (by decide), hc, Array.getElem?_map, Array.getElem?_eq_getElem hj2, Option.map_some, hget]
    · unfold World.frozen?
      rw [hb]
      simp only [Nat.zero_add, hsz]
      simp
      omega
theorem slT (s : ByteArray) (at' m : Nat) (h0 : at' ≤ m) (h : m ≤ s.size) (w : World) : (Instr.sliceAt 9 (.string s) (some (.int .i64 (at' : Int))) (some (.int .i64 (m : Int))) none).run Tryd.prog w = .ok (.string (s.extract at' m)) w := by
  have h1 : (0 : Int) ≤ (at' : Int) := by omega
  have h2 : (0 : Int) ≤ (m : Int) := by omega
  have h3 : (m : Int) ≤ (s.size : Int) := by omega
  have h4 : (at' : Int) ≤ (m : Int) := by omega
  go_simp
end Go.Proofs.YtfkgfcggcfkkiaaDoor
namespace Go.Proofs.YtfkgfcggcfkkiaaDoor
open Go.RowKit Go.Sort Go.Deep
theorem nextcap_leP (n c : Nat) (h : c < n) : Builtin.nextslicecap n c ≤ 2 * n + 768 := by
  unfold Builtin.nextslicecap
  split
  · omega
  · split
    · omega
    · simp only [Builtin.growBy]
      repeat' split
      all_goals omega
/-- 'append(l, x...)', l a row of one's own: where the new row lies. -/
theorem own_blockP {base n m size c : Nat} {T e : TypeId} {i : TypeInfo} {z : Value} {W W' : World} {v v' : Value} {xs news : List Value} {a : Addr} (hT : Tryd.prog.underlying T = some (.slice e)) (hi : Tryd.prog.info? e = some i) (hz : i.zero = some z) (hsz : i.size = size) (hby : i.bytes ≤ 1000)
    (hown : W.ownsRow base e size v n xs) (hs : Src Tryd.prog size T (.slice (some a) m c) m news W) (hn : n + m ≤ 1000000000)
    (hr : (Builtin.append_ #[T, T] T #[v, .slice (some a) m c]).run Tryd.prog W = .ok v' W') : v'.ownBlock = v.ownBlock ∨ v'.ownBlock = some W.heap.size := by
  subst hsz
  have hgrow : ∀ (q : Option Addr) (cap : Nat) (olds : List Value), v = .slice q n cap → cap < n + m → (Builtin.firstCells i.size n (.slice q n cap)).run Tryd.prog W.drew = .ok olds.toArray W.drew → v'.ownBlock = v.ownBlock ∨ v'.ownBlock = some W.heap.size := fun q cap olds hv hc hold => by
    have h1 := nextcap_leP (n + m) cap hc
    have h2 : Builtin.nextslicecap (n + m) cap * i.bytes ≤ (2 * (n + m) + 768) * 1000 := Nat.mul_le_mul h1 hby
    have hap := run_append_grow_src (P := Tryd.prog) W T T T e i z hT hi hz q n cap olds hold (.slice (some a) m c) m news hs hc (by omega) (Nat.le_trans h2 (by clear h1 h2; omega))
    rw [hv, hap] at hr
    injection hr with hr1 hr2
    right
    rw [← hr1]
    rfl
  rcases id hown with ⟨-, ⟨rfl, rfl⟩ | ⟨g, cap, cur, rfl, g1, g2, g3, g4, g5, g6⟩⟩
  · by_cases hm : m = 0
    · subst hm
      have hr' := hr
      obtain ⟨w1, hr2⟩ : ∃ w1, (Builtin.append_ #[T, T] T #[.slice none 0 0, .slice (some a) 0 c]).run Tryd.prog W = .ok (.slice none 0 0) w1 := by
        rcases hs.kind with ⟨e', hk⟩ | hk <;> exact ⟨_, by simp [Builtin.append_, run_underlying hT, run_underlying hk, sizeOf, typeInfo, hi, hs.len, hs.cells]; rfl⟩
      rw [hr2] at hr
      injection hr with hr1 hr2
      left
      rw [← hr1]
    · exact hgrow none 0 [] rfl (by omega) (run_firstCells_none W.drew i.size 0 0 0)
  · by_cases hroom : n + m ≤ cap
    · have hap := run_append_room_src (P := Tryd.prog) W T T T e i hT hi g 0 n cap (.slice (some a) m c) m news hs hroom
        (fun j hj => by
          have hj2 : n * i.size + j < cur.size := by
            rw [g5]
            have h1 : j < m * i.size := by rw [← hs.newsLen]; exact hj
            have h2 : (n + m) * i.size ≤ cap * i.size := Nat.mul_le_mul_right _ hroom
            rw [Nat.add_mul] at h2
            omega
          simp [World.cell?, g2, Nat.zero_add, Array.getElem?_eq_getElem hj2])
        (fun j hj => by simp [World.frozen?, g2])
      rw [hap] at hr
      injection hr with hr1 hr2
      left
      rw [← hr1]
      rfl
    · refine hgrow (some ⟨g, 0, none⟩) cap xs rfl (by omega) ?_
      exact run_firstCells_some W.drew i.size n ⟨g, 0, none⟩ n cap xs hown.1 (fun j u hj => by rw [World.cell?_drew]; exact hown.cells (g := g) rfl j u hj)
end Go.Proofs.YtfkgfcggcfkkiaaDoor
namespace Go.Proofs.YtfkgfcggcfkkiaaDoor
open Go.RowKit Go.Sort Go.Deep
theorem step_runP {P : Program} {ops : Array Oper} {o : Oper} {a : Act} {w : World} {K : Act → World → Prop} {Q : Exit → Act → World → Prop} {E : Prop} (hg : o.guard = none) (s x : Operand) (t tn : TypeId)
    (ho : o.op = .call { callee := .builtin .append, args := #[s, x], argTypes := #[t, tn] }) (vs vx : Value) (hs : a.eval s = vs) (hx : a.eval x = vx)
    (v' : Value) (w' : World) (hr : (Builtin.append_ #[t, tn] o.type #[vs, vx]).run P w = .ok v' w') (h : K (a.put o.dst v') w') : if Region.wanted o (yielded ops a.tmps) = true then Oper.wp P o a w K Q else E := by
  have hw : Region.wanted o (yielded ops a.tmps) = true := by simp [Region.wanted, hg]
  rw [if_pos hw]
  exact Lib.wp_append_run w s x t tn ho vs vx hs hx v' w' hr h
/-- A part: where it lies, how long it is. -/
def pC (x : Addr × Nat) : List Value := [.pointer (some x.1), .int .i64 (x.2 : Int)]
def psC (ps : List (Addr × Nat)) : List Value := ps.flatMap pC
theorem psC_len : ∀ ps : List (Addr × Nat), (psC ps).length = ps.length * 2
  | [] => rfl
  | x :: r => by
    have := psC_len r
    unfold psC at *
    rw [List.flatMap_cons, List.length_append, this, List.length_cons]
    show 2 + _ = _
    omega
theorem psC_app (a b : List (Addr × Nat)) : psC (a ++ b) = psC a ++ psC b := List.flatMap_append
theorem psC_one : ∀ (ps : List (Addr × Nat)), ∀ u ∈ psC ps, u.oneCell' = true := by
  intro ps u hu
  obtain ⟨x, -, hx⟩ := List.mem_flatMap.1 hu
  unfold pC at hx
  simp only [List.mem_cons, List.not_mem_nil, or_false] at hx
  rcases hx with rfl | rfl <;> rfl
theorem psC_at : ∀ (ps : List (Addr × Nat)) (j : Nat) (x : Addr × Nat), ps[j]? = some x → (psC ps)[2 * j]? = some (.pointer (some x.1)) ∧ (psC ps)[2 * j + 1]? = some (.int .i64 (x.2 : Int))
  | [], j, x, h => by simp at h
  | y :: r, 0, x, h => by
    obtain rfl : y = x := by simpa using h
    exact ⟨rfl, rfl⟩
  | y :: r, j + 1, x, h => by
    have := psC_at r j x (by simpa using h)
    have e : psC (y :: r) = pC y ++ psC r := rfl
    rw [e, List.getElem?_append_right (by show 2 ≤ _; omega), List.getElem?_append_right (by show 2 ≤ _; omega)]
    show (psC r)[2 * (j + 1) - 2]? = _ ∧ (psC r)[2 * (j + 1) + 1 - 2]? = _
    rw [show 2 * (j + 1) - 2 = 2 * j by omega, show 2 * (j + 1) + 1 - 2 = 2 * j + 1 by omega]
    exact this
end Go.Proofs.YtfkgfcggcfkkiaaDoor
namespace Go.Proofs.YtfkgfcggcfkkiaaDoor
open Go.RowKit Go.Sort Go.Deep
def lp (b o n : Nat) : List (Addr × Nat) := (List.range n).map fun j => ((⟨b, o + j, none⟩ : Addr), 33)
def basP (gp : Nat) : List (Addr × Nat) := [(⟨gp, 0, none⟩, 33), (⟨gp, 1, none⟩, 33), (⟨gp, 2, none⟩, 33), (⟨gp, 3, none⟩, 33), (⟨gp, 4, none⟩, 32), (⟨gp, 5, none⟩, 32), (⟨gp, 6, none⟩, 32)]
def endP (gp : Nat) : List (Addr × Nat) := [(⟨gp, 9, none⟩, 32), (⟨gp, 10, none⟩, 32)]
theorem lp_succ (b o n : Nat) : lp b o (n + 1) = lp b o n ++ [(⟨b, o + n, none⟩, 33)] := by
  unfold lp
  rw [List.range_succ, List.map_append]
  rfl
theorem lp_len (b o n : Nat) : (lp b o n).length = n := by unfold lp; simp
def curP (gp bl ol nl br or nr : Nat) : Nat → List (Addr × Nat)
  | 0 => basP gp
  | 1 => basP gp ++ lp bl ol nl
  | _ => basP gp ++ lp bl ol nl ++ lp br or nr
theorem idxO (b o n c i : Nat) (hi : i < n) (w : World) : (Instr.indexAt 36 (.slice (some ⟨b, o, none⟩) n c) (.int .i64 (i : Int))).run Tryd.prog w = .ok (.pointer (some ⟨b, o + i, none⟩)) w := by
  have h1 : ¬ (i : Int) < 0 := by omega
  have h2 : (i : Int) < (n : Int) := by omega
  have h3 := addP0 b o i
  go_simp
end Go.Proofs.YtfkgfcggcfkkiaaDoor
namespace Go.Proofs.YtfkgfcggcfkkiaaDoor
open Go.RowKit Go.Sort Go.Deep
theorem infoU8 : (Tryd.prog.info? 5).map (fun i => (i.size, i.bytes, i.zero.map fun z => z.cells.size)) = some (1, 1, some 1) := by kernel_rfl
/-- The bytes' cells. -/
def bC (b : SP.Bs) : List Value := b.toList.map SP.encB
theorem bC_len (b : SP.Bs) : (bC b).length = b.size := by unfold bC; simp
theorem bC_one (b : SP.Bs) : ∀ u ∈ bC b, u.oneCell' = true := by
  intro u hu
  obtain ⟨x, -, rfl⟩ := List.mem_map.1 hu
  rfl
theorem bC_app (a b : SP.Bs) : bC (a ++ b) = bC a ++ bC b := by unfold bC; simp
theorem Pt.vl {W : World} {q : Option Addr} {n c : Nat} {b : SP.Bs} (h : Pt W (.slice q n c) b) : n = b.size ∧ VL W q n (bC b) := by
  obtain ⟨q', c', h1, h2⟩ := h
  injection h1 with e1 e2 e3
  subst e1 e2
  refine ⟨rfl, ⟨bC_len b, ?_, ?_, bC_one b⟩⟩
  · intro hq
    rcases h2 with h2 | ⟨g, o, h3, -⟩
    · exact h2
    · rw [hq] at h3; cases h3
  · rcases h2 with h2 | ⟨g, o, h3, h4, h5⟩
    · left
      have : (bC b).length = 0 := by rw [bC_len]; exact h2
      exact List.length_eq_zero_iff.1 this
    · right
      refine ⟨g, o, h3, h4, fun j u hj => ?_⟩
      unfold bC at hj
      rw [List.getElem?_map] at hj
      obtain ⟨x, hx, rfl⟩ := Option.map_eq_some_iff.1 hj
      have hjl : j < b.size := by
        have := (List.getElem?_eq_some_iff.1 hx).1
        simpa using this
      rw [(h5 j hjl).1]
      rw [getElem!_pos b j hjl]
      have := (List.getElem?_eq_some_iff.1 hx).2
      rw [Array.getElem_toList] at this
      rw [this]
/-- What Put's loop keeps: bytes of its own, two blocks that stay. -/
structure PuI (w w4 W : World) (gp gq : Nat) (v : Value) (b : SP.Bs) : Prop where
  bl : Below w.heap.size w W
  ow : W.ownsRow w.heap.size 5 1 v b.size (bC b)
  nn : v.ownBlock ≠ none
  n1 : v.ownBlock ≠ some gp
  n2 : v.ownBlock ≠ some gq
  e1 : W.heap[gp]? = w4.heap[gp]?
  e2 : W.heap[gq]? = w4.heap[gq]?
  sz : w4.heap.size ≤ W.heap.size
  l1 : gp < w4.heap.size
  l2 : gq < w4.heap.size
theorem PuI.lt {w w4 W : World} {gp gq : Nat} {v : Value} {b : SP.Bs} (h : PuI w w4 W gp gq v b) : ∃ g cap, v = .slice (some ⟨g, 0, none⟩) b.size cap ∧ w.heap.size ≤ g ∧ g < W.heap.size := by
  rcases id h.ow with ⟨-, ⟨rfl, h0⟩ | ⟨g, cap, cur, rfl, h1, h2, -⟩⟩
  · exact absurd rfl h.nn
  · refine ⟨g, cap, rfl, h1, ?_⟩
    by_cases hg : g < W.heap.size
    · exact hg
    · rw [Array.getElem?_eq_none (by omega)] at h2; cases h2
theorem PuI.below {w w4 W W' : World} {gp gq : Nat} {v : Value} {b : SP.Bs} (h : PuI w w4 W gp gq v b) (hb : Below W.heap.size W W') : PuI w w4 W' gp gq v b := by
  have hs := h.sz
  refine ⟨h.bl.trans (hb.mono h.bl.size), ?_, h.nn, h.n1, h.n2, by rw [hb.block gp (by have := h.l1; omega)]; exact h.e1, by rw [hb.block gq (by have := h.l2; omega)]; exact h.e2, Nat.le_trans hs hb.size, h.l1, h.l2⟩
  rcases h.ow with ⟨h0, h1 | ⟨g, cap, cur, h1, h2, h3, h4⟩⟩
  · exact ⟨h0, Or.inl h1⟩
  · refine ⟨h0, Or.inr ⟨g, cap, cur, h1, h2, ?_, h4⟩⟩
    rw [hb.block g (by
      by_cases hg : g < W.heap.size
      · exact hg
      · rw [Array.getElem?_eq_none (by omega)] at h3; cases h3)]
    exact h3
theorem undB5 : Tryd.prog.underlying 22 = some (.slice 5) := by kernel_rfl
theorem PuI.app {w w4 W : World} {gp gq : Nat} {v : Value} {b x : SP.Bs} {q : Option Addr} {c : Nat} (h : PuI w w4 W gp gq v b) (hx : VL W q x.size (bC x)) (hn : b.size + x.size ≤ 1000000) :
    ∃ v' W', (Builtin.append_ #[22, 22] 22 #[v, .slice q x.size c]).run Tryd.prog W = .ok v' W' ∧ PuI w w4 W' gp gq v' (b ++ x) := by
  obtain ⟨i, hi, he⟩ := Option.map_eq_some_iff.1 infoU8
  simp only [Prod.mk.injEq] at he
  obtain ⟨h1, h2, h3⟩ := he
  obtain ⟨z, hz, hz2⟩ := Option.map_eq_some_iff.1 h3
  obtain ⟨g, cap, rfl, hg1, hg2⟩ := h.lt
  have hs := h.sz
  cases q with
  | none =>
    have hm := hx.nil rfl
    obtain rfl : x = #[] := Array.eq_empty_of_size_eq_zero hm
    rcases id h.ow with ⟨-, ⟨h0, -⟩ | ⟨g', cap', cur, h0, g1, g2, g3, g4⟩⟩
    · cases h0
    · injection h0 with h0 _ h0'
      injection h0 with h0
      injection h0 with h0
      subst h0 h0'
      have hap := run_append_room_src (P := Tryd.prog) W 22 22 22 5 i undB5 hi g 0 b.size cap (.slice none 0 c) 0 [] (Src.ofNil (e' := 5) _ undB5 c) g3 (fun j hj => by cases hj) (fun j hj => by cases hj)
      refine ⟨_, _, hap, ?_⟩
      rw [Array.append_empty]
      exact h
  | some a =>
    have hc : ∀ (j : Nat) u, (bC x)[j]? = some u → W.cell? (a.add j) = some u := fun j u hj => by
      rcases hx.cells with h0 | ⟨b, o, hq, -, hc⟩
      · rw [h0] at hj; cases hj
      · obtain rfl := Option.some.inj hq
        rw [addP0]; exact hc j u hj
    obtain ⟨v', W', r1, r2, r3, r4⟩ := run_append_own (P := Tryd.prog) W w.heap.size 22 22 5 i z 1 1 undB5 hi hz h1 h2 hz2 (by decide) _ b.size (bC b) h.ow a x.size c (bC x) (by rw [bC_len]; omega) hc (bC_one x) (by unfold maxLen; omega) (by omega) h.bl.size
    have hb := own_blockP (c := c) undB5 hi hz h1 (by omega) h.ow (Src.ofSlice (P := Tryd.prog) (size := 1) W undB5 a x.size c (bC x) (by rw [bC_len]; omega) hc (bC_one x)) (by omega) r1
    have k1 : ∀ k, k < w4.heap.size → v'.ownBlock ≠ some k ∨ (Value.slice (some ⟨g, 0, none⟩) b.size cap).ownBlock = some k := fun k hk => by
      rcases hb with e | e
      · by_cases hh : (Value.slice (some ⟨g, 0, none⟩) b.size cap).ownBlock = some k
        · exact Or.inr hh
        · left; rw [e]; exact hh
      · left; rw [e]; intro hh; have := Option.some.inj hh; omega
    refine ⟨v', W', r1, ⟨⟨by rw [r3.os, h.bl.os], by rw [r3.tape, h.bl.tape], by rw [r3.output, h.bl.output], Nat.le_trans h.bl.size r3.size, fun k hk => ?_⟩, ?_, ?_, ?_, ?_, ?_, ?_, ?_, h.l1, h.l2⟩⟩
    · rw [r3.block k (Nat.lt_of_lt_of_le hk h.bl.size) (by simp [Value.ownBlock]; omega)]
      exact h.bl.block k hk
    · rw [Array.size_append, bC_app]; exact r2
    · rcases hb with e | e <;> rw [e]
      · simp [Value.ownBlock]
      · simp
    · rcases k1 gp h.l1 with e | e
      · exact e
      · exact absurd e h.n1
    · rcases k1 gq h.l2 with e | e
      · exact e
      · exact absurd e h.n2
    · rw [r3.block gp (by have := h.l1; omega) (fun e => h.n1 e.symm)]; exact h.e1
    · rw [r3.block gq (by have := h.l2; omega) (fun e => h.n2 e.symm)]; exact h.e2
    · exact Nat.le_trans hs r3.size
end Go.Proofs.YtfkgfcggcfkkiaaDoor
namespace Go.Proofs.YtfkgfcggcfkkiaaDoor
open Go.RowKit Go.Sort Go.Deep
/-- 'append(l, x...)', l a row of one's own: where the new row lies. -/
theorem own_blockQ {base n m size c : Nat} {T e : TypeId} {i : TypeInfo} {z : Value} {W W' : World} {v v' : Value} {xs news : List Value} {a : Addr} (hT : Tryd.prog.underlying T = some (.slice e)) (hi : Tryd.prog.info? e = some i) (hz : i.zero = some z) (hsz : i.size = size) (hby : i.bytes ≤ 1000)
    (hown : W.ownsRow base e size v n xs) (hs : Src Tryd.prog size T (.slice (some a) m c) m news W) (hn : n + m ≤ 1000000000)
    (hr : (Builtin.append_ #[T, T] T #[v, .slice (some a) m c]).run Tryd.prog W = .ok v' W') : v'.ownBlock = v.ownBlock ∨ (v'.ownBlock = some W.heap.size ∧ Below W.heap.size W W') := by
  subst hsz
  have hgrow : ∀ (q : Option Addr) (cap : Nat) (olds : List Value), v = .slice q n cap → cap < n + m → (Builtin.firstCells i.size n (.slice q n cap)).run Tryd.prog W.drew = .ok olds.toArray W.drew → v'.ownBlock = v.ownBlock ∨ (v'.ownBlock = some W.heap.size ∧ Below W.heap.size W W') := fun q cap olds hv hc hold => by
    have h1 := nextcap_leP (n + m) cap hc
    have h2 : Builtin.nextslicecap (n + m) cap * i.bytes ≤ (2 * (n + m) + 768) * 1000 := Nat.mul_le_mul h1 hby
    have hap := run_append_grow_src (P := Tryd.prog) W T T T e i z hT hi hz q n cap olds hold (.slice (some a) m c) m news hs hc (by omega) (Nat.le_trans h2 (by clear h1 h2; omega))
    rw [hv, hap] at hr
    injection hr with hr1 hr2
    right
    refine ⟨by rw [← hr1]; rfl, ?_⟩
    rw [← hr2]
    exact (⟨rfl, rfl, rfl, Nat.le_refl _, fun _ _ => rfl⟩ : Below W.heap.size W W.drew).trans (alloc_below W.drew _)
  rcases id hown with ⟨-, ⟨rfl, rfl⟩ | ⟨g, cap, cur, rfl, g1, g2, g3, g4, g5, g6⟩⟩
  · by_cases hm : m = 0
    · subst hm
      have hr' := hr
      obtain ⟨w1, hr2⟩ : ∃ w1, (Builtin.append_ #[T, T] T #[.slice none 0 0, .slice (some a) 0 c]).run Tryd.prog W = .ok (.slice none 0 0) w1 := by
        rcases hs.kind with ⟨e', hk⟩ | hk <;> exact ⟨_, by simp [Builtin.append_, run_underlying hT, run_underlying hk, sizeOf, typeInfo, hi, hs.len, hs.cells]; rfl⟩
      rw [hr2] at hr
      injection hr with hr1 hr2
      left
      rw [← hr1]
    · exact hgrow none 0 [] rfl (by omega) (run_firstCells_none W.drew i.size 0 0 0)
  · by_cases hroom : n + m ≤ cap
    · have hap := run_append_room_src (P := Tryd.prog) W T T T e i hT hi g 0 n cap (.slice (some a) m c) m news hs hroom
        (fun j hj => by
          have hj2 : n * i.size + j < cur.size := by
            rw [g5]
            have h1 : j < m * i.size := by rw [← hs.newsLen]; exact hj
            have h2 : (n + m) * i.size ≤ cap * i.size := Nat.mul_le_mul_right _ hroom
            rw [Nat.add_mul] at h2
            omega
          simp [World.cell?, g2, Nat.zero_add, Array.getElem?_eq_getElem hj2])
        (fun j hj => by simp [World.frozen?, g2])
      rw [hap] at hr
      injection hr with hr1 hr2
      left
      rw [← hr1]
      rfl
    · refine hgrow (some ⟨g, 0, none⟩) cap xs rfl (by omega) ?_
      exact run_firstCells_some W.drew i.size n ⟨g, 0, none⟩ n cap xs hown.1 (fun j u hj => by rw [World.cell?_drew]; exact hown.cells (g := g) rfl j u hj)
/-- What an append of one value to a row of one's own turns. -/
structure Ap1 (W W' : World) (v v' : Value) : Prop where
  os : W'.os = W.os
  tape : W'.tape = W.tape
  output : W'.output = W.output
  size : W.heap.size ≤ W'.heap.size
  keep : ∀ g, g < W.heap.size → v.ownBlock ≠ some g → W'.heap[g]? = W.heap[g]?
  mv : v'.ownBlock = v.ownBlock ∨ ((∃ g, v'.ownBlock = some g ∧ W.heap.size ≤ g) ∧ ∀ g, g < W.heap.size → W'.heap[g]? = W.heap[g]?)
theorem own_keep {W W' : World} {base n k : Nat} {e : TypeId} {v : Value} {xs : List Value} (h : W.ownsRow base e k v n xs) (hk : ∀ g, v.ownBlock = some g → W'.heap[g]? = W.heap[g]?) : W'.ownsRow base e k v n xs := by
  rcases h with ⟨h0, h1 | ⟨g, cap, cur, rfl, h2, h3, h4⟩⟩
  · exact ⟨h0, Or.inl h1⟩
  · exact ⟨h0, Or.inr ⟨g, cap, cur, rfl, h2, by rw [hk g rfl]; exact h3, h4⟩⟩
theorem own_lt {W : World} {base n k g : Nat} {e : TypeId} {v : Value} {xs : List Value} (h : W.ownsRow base e k v n xs) (hg : v.ownBlock = some g) : base ≤ g ∧ g < W.heap.size ∧ ∃ cur, W.heap[g]? = some (.cells cur e (0, 0)) := by
  rcases h with ⟨h0, ⟨rfl, -⟩ | ⟨g', cap, cur, rfl, h2, h3, h4⟩⟩
  · cases hg
  · obtain rfl : g' = g := Option.some.inj hg
    refine ⟨h2, ?_, cur, h3⟩
    by_cases hg : g' < W.heap.size
    · exact hg
    · rw [Array.getElem?_eq_none (by omega)] at h3; cases h3
theorem own_app1 {base n by' : Nat} {T e : TypeId} {W : World} {v x : Value} {xs : List Value} (hT : Tryd.prog.underlying T = some (.slice e)) (hI : (Tryd.prog.info? e).map (fun i => (i.size, i.bytes, i.zero.map fun z => z.cells.size)) = some (1, by', some 1)) (hby : by' ≤ 1000)
    (hown : W.ownsRow base e 1 v n xs) (hx : x.oneCell' = true) (hn : n ≤ 100000000) (hb : base ≤ W.heap.size) :
    ∃ v' W', (Builtin.append_ #[T, T] T #[v, .slice (some ⟨W.heap.size, 0, none⟩) 1 1]).run Tryd.prog (W.alloc (.cells #[x] e)) = .ok v' W' ∧ W'.ownsRow base e 1 v' (n + 1) (xs ++ [x]) ∧ Ap1 W W' v v' := by
  obtain ⟨i, hi, he⟩ := Option.map_eq_some_iff.1 hI
  simp only [Prod.mk.injEq] at he
  obtain ⟨h1, h2, h3⟩ := he
  obtain ⟨z, hz, hz2⟩ := Option.map_eq_some_iff.1 h3
  have ba := alloc_below W (.cells #[x] e)
  have hz1 : (W.alloc (.cells #[x] e)).heap.size = W.heap.size + 1 := World.size_alloc _ _
  have ho : (W.alloc (.cells #[x] e)).ownsRow base e 1 v n xs := own_keep hown (fun g hg => ba.block g (own_lt hown hg).2.1)
  have hc : ∀ (j : Nat) u, [x][j]? = some u → (W.alloc (.cells #[x] e)).cell? ((⟨W.heap.size, 0, none⟩ : Addr).add j) = some u := fun j u hj => by
    rw [addP0, Nat.zero_add]
    exact alloc_cell W _ _ j u (by simpa using hj)
  have h1x : ∀ u ∈ [x], u.oneCell' = true := fun u hu => by
    obtain rfl : u = x := by simpa using hu
    exact hx
  obtain ⟨v', W', r1, r2, r3, -⟩ := run_append_own (P := Tryd.prog) (W.alloc (.cells #[x] e)) base T T e i z 1 by' hT hi hz h1 h2 hz2 (by decide) v n xs ho ⟨W.heap.size, 0, none⟩ 1 1 [x] rfl hc h1x (by unfold maxLen; omega) (by
    have : (n + 1) * by' ≤ (n + 1) * 1000 := Nat.mul_le_mul_left _ hby
    omega) (by omega)
  have hq := own_blockQ (c := 1) hT hi hz h1 (by omega) ho (Src.ofSlice (P := Tryd.prog) (size := 1) (W.alloc (.cells #[x] e)) hT ⟨W.heap.size, 0, none⟩ 1 1 [x] rfl hc h1x) (by omega) r1
  refine ⟨v', W', r1, r2, r3.os, r3.tape, r3.output, by have := r3.size; omega, fun g hg hv => ?_, ?_⟩
  · rw [r3.block g (by omega) (fun h => hv h.symm), ba.block g hg]
  · rcases hq with h | ⟨h, hbl⟩
    · exact Or.inl h
    · refine Or.inr ⟨⟨_, h, by omega⟩, fun g hg => ?_⟩
      rw [hbl.block g (by omega), ba.block g hg]
/-- Bytes at the front of a block. -/
def FrB (W : World) (g : Nat) (b : SP.Bs) : Prop := ∃ cur, W.heap[g]? = some (.cells cur 5 (0, 0)) ∧ cur.toList.take b.size = bC b
/-- A value is bytes at the front of a block, or nothing. -/
def RV (W : World) (v : Value) (b : SP.Bs) : Prop := (b.size = 0 ∧ v = .slice none 0 0) ∨ ∃ g c, v = .slice (some ⟨g, 0, none⟩) b.size c ∧ FrB W g b
theorem RV.keep {W W' : World} {v : Value} {b : SP.Bs} (h : RV W v b) (hk : ∀ g, v.ownBlock = some g → W'.heap[g]? = W.heap[g]?) : RV W' v b := by
  rcases h with h | ⟨g, c, rfl, cur, h1, h2⟩
  · exact Or.inl h
  · exact Or.inr ⟨g, c, rfl, cur, by rw [hk g rfl]; exact h1, h2⟩
theorem RV.of {W : World} {base : Nat} {v : Value} {b : SP.Bs} (h : W.ownsRow base 5 1 v b.size (bC b)) : RV W v b := by
  rcases h with ⟨h0, ⟨rfl, h1⟩ | ⟨g, cap, cur, rfl, h2, h3, h4, h5, h6, h7⟩⟩
  · exact Or.inl ⟨h1, rfl⟩
  · exact Or.inr ⟨g, cap, rfl, cur, h3, by rw [Nat.mul_one] at h7; exact h7⟩
theorem RV.slice {W : World} {v : Value} {b : SP.Bs} (h : RV W v b) : ∃ q c, v = .slice q b.size c := by
  rcases h with ⟨h, rfl⟩ | ⟨g, c, rfl, -⟩
  · exact ⟨none, 0, by rw [h]⟩
  · exact ⟨_, _, rfl⟩
theorem RV.at {W : World} {v : Value} {b : SP.Bs} (h : RV W v b) {k : Nat} (hk : k < b.size) : ∃ g c, v = .slice (some ⟨g, 0, none⟩) b.size c ∧ W.cell? ⟨g, k, none⟩ = some (SP.encB b[k]!) ∧ W.frozen? ⟨g, k, none⟩ = false := by
  rcases h with ⟨h, -⟩ | ⟨g, c, rfl, cur, h1, h2⟩
  · omega
  · refine ⟨g, c, rfl, ?_, by simp [World.frozen?, h1]⟩
    have h3 : (cur.toList.take b.size)[k]? = some (SP.encB b[k]!) := by
      rw [h2]
      unfold bC
      rw [List.getElem?_map, List.getElem?_eq_getElem (by simpa using hk), Option.map_some, getElem!_pos b k hk]
      simp
    rw [List.getElem?_take, if_pos hk] at h3
    unfold World.cell?
    rw [h1]
    simpa using h3
theorem RV.pt {W : World} {v : Value} {b : SP.Bs} (h : RV W v b) : Pt W v b := by
  rcases id h with ⟨h1, rfl⟩ | ⟨g, c, rfl, cur, h1, h2⟩
  · exact ⟨none, 0, by rw [h1], Or.inl h1⟩
  · refine ⟨_, _, rfl, Or.inr ⟨g, 0, rfl, ?_, fun j hj => ?_⟩⟩
    · by_cases hg : g < W.heap.size
      · exact hg
      · rw [Array.getElem?_eq_none (by omega)] at h1; cases h1
    · obtain ⟨g', c', e, h3, h4⟩ := h.at hj
      injection e with e _ _
      injection e with e
      injection e with e _ _
      subst e
      rw [Nat.zero_add]
      exact ⟨h3, h4⟩
theorem RV.front {W : World} {g c : Nat} {b x : SP.Bs} (h : RV W (.slice (some ⟨g, 0, none⟩) (b ++ x).size c) (b ++ x)) : FrB W g b := by
  rcases h with ⟨-, h⟩ | ⟨g', c', e, cur, h1, h2⟩
  · cases h
  · injection e with e _ _
    injection e with e
    injection e with e _ _
    subst e
    refine ⟨cur, h1, ?_⟩
    have h3 := congrArg (List.take b.size) h2
    rw [List.take_take, Nat.min_eq_left (by rw [Array.size_append]; omega), bC_app, List.take_append_of_le_length (by rw [bC_len]; omega)] at h3
    rw [h3]
    exact List.take_of_length_le (by rw [bC_len]; omega)
end Go.Proofs.YtfkgfcggcfkkiaaDoor
namespace Go.Proofs.YtfkgfcggcfkkiaaDoor
open Go.RowKit Go.Sort Go.Deep
def fillQ (i j : Nat) : UInt8 := UInt8.ofNat ((i * 37 + j) % 253) ^^^ 90
theorem fillQ_int (i j : Nat) : bits .xor .u8 (((i : Int) * 37 + (j : Int)) % 253) 90 = SP.ub (fillQ i j) := by
  have H : ∀ j : Fin 253, bits .xor .u8 (j.val : Int) 90 = SP.ub (UInt8.ofNat j.val ^^^ 90) := by decide +kernel
  have := H ⟨(i * 37 + j) % 253, Nat.mod_lt _ (by decide)⟩
  have e : (((i * 37 + j) % 253 : Nat) : Int) = ((i : Int) * 37 + (j : Int)) % 253 := by omega
  simp only [e] at this
  exact this
theorem ubQ_succ (x : UInt8) : IntKind.u8.wrap (SP.ub x + 1) = SP.ub (x + 1) := by
  have H : ∀ j : Fin 256, IntKind.u8.wrap ((j.val : Int) + 1) = (((UInt8.ofNat j.val + 1).toNat : Nat) : Int) := by decide +kernel
  have := H ⟨x.toNat, x.toNat_lt⟩
  unfold SP.ub
  simp only [UInt8.ofNat_toNat] at this
  exact this
/-- What has grown of b, list i, behind j steps. -/
def flQ (b : SP.Bs) (i : Nat) : Nat → SP.Bs
  | 0 => b
  | j + 1 => flQ b i j ++ #[fillQ i j]
theorem flQ_size (b : SP.Bs) (i : Nat) : ∀ j, (flQ b i j).size = b.size + j
  | 0 => rfl
  | j + 1 => by rw [flQ, Array.size_append, flQ_size b i j]; rfl
theorem arr_front (a x : SP.Bs) (k : Nat) (h : k < a.size) : (a ++ x)[k]! = a[k]! := by
  rw [getElem!_pos (a ++ x) k (by rw [Array.size_append]; omega), getElem!_pos a k h, Array.getElem_append_left h]
theorem flQ_low (b : SP.Bs) (i k : Nat) (hk : k < b.size) : ∀ j, (flQ b i j)[k]! = b[k]!
  | 0 => rfl
  | j + 1 => by rw [flQ, arr_front _ _ _ (by rw [flQ_size]; omega), flQ_low b i k hk j]
theorem flQ_high (b : SP.Bs) (i k : Nat) : ∀ j, k < j → (flQ b i j)[b.size + k]! = fillQ i k
  | 0, h => absurd h (by omega)
  | j + 1, h => by
    rw [flQ]
    by_cases e : k = j
    · subst e
      rw [getElem!_pos (flQ b i k ++ #[fillQ i k]) (b.size + k) (by rw [Array.size_append, flQ_size]; show _ < _ + 1; omega), Array.getElem_append_right (by rw [flQ_size]; omega)]
      simp [flQ_size]
    · rw [arr_front _ _ _ (by rw [flQ_size]; omega), flQ_high b i k j (by omega)]
theorem flQ_app (b : SP.Bs) (i j : Nat) : ∃ x, flQ b i j = b ++ x := by
  induction j with
  | zero => exact ⟨#[], by rw [Array.append_empty]; rfl⟩
  | succ j ih =>
    obtain ⟨x, hx⟩ := ih
    exact ⟨x ++ #[fillQ i j], by rw [flQ, hx, Array.append_assoc]⟩
/-- The first k bytes, each one more. -/
def incQ (b : SP.Bs) : Nat → SP.Bs
  | 0 => b
  | k + 1 => (incQ b k).setIfInBounds k (b[k]! + 1)
theorem incQ_size (b : SP.Bs) : ∀ k, (incQ b k).size = b.size
  | 0 => rfl
  | k + 1 => by rw [incQ, Array.size_setIfInBounds, incQ_size b k]
theorem incQ_at (b : SP.Bs) : ∀ k j, k ≤ b.size → j < b.size → (incQ b k)[j]! = if j < k then b[j]! + 1 else b[j]!
  | 0, j, _, _ => by simp [incQ]
  | k + 1, j, hk, hj => by
    have hj' : j < ((incQ b k).setIfInBounds k (b[k]! + 1)).size := by rw [Array.size_setIfInBounds, incQ_size]; exact hj
    rw [incQ, getElem!_pos _ j hj', Array.getElem_setIfInBounds (by rw [incQ_size]; exact hj)]
    by_cases e : k = j
    · subst e
      rw [if_pos rfl, if_pos (by omega)]
    · rw [if_neg e, ← getElem!_pos (incQ b k) j (by rw [incQ_size]; exact hj), incQ_at b k j (by omega) hj]
      by_cases h : j < k
      · rw [if_pos h, if_pos (by omega)]
      · rw [if_neg h, if_neg (by omega)]
def T2Q (T : Nat → SP.Bs) (i k : Nat) : Nat → SP.Bs := fun j => if j < i then incQ (T j) (T j).size else if j = i then incQ (T j) k else T j
theorem T2Q_zero (T : Nat → SP.Bs) : T2Q T 0 0 = T := by
  funext j
  unfold T2Q
  rw [if_neg (by omega)]
  by_cases h : j = 0
  · rw [if_pos h]; rfl
  · rw [if_neg h]
theorem T2Q_next (T : Nat → SP.Bs) (i : Nat) : T2Q T i (T i).size = T2Q T (i + 1) 0 := by
  funext j
  unfold T2Q
  by_cases h : j < i
  · rw [if_pos h, if_pos (by omega)]
  · rw [if_neg h]
    by_cases h2 : j = i
    · rw [if_pos h2, if_pos (by omega), h2]
    · rw [if_neg h2, if_neg (by omega)]
      by_cases h3 : j = i + 1
      · rw [if_pos h3]; rfl
      · rw [if_neg h3]
theorem T2Q_own (T : Nat → SP.Bs) (i k : Nat) : T2Q T i k i = incQ (T i) k := by unfold T2Q; rw [if_neg (by omega), if_pos rfl]
theorem T2Q_else (T : Nat → SP.Bs) (i k j : Nat) (h : j ≠ i) : T2Q T i (k + 1) j = T2Q T i k j := by
  unfold T2Q
  rw [if_neg h, if_neg h]
theorem T2Q_size (T : Nat → SP.Bs) (i k j : Nat) : (T2Q T i k j).size = (T j).size := by
  unfold T2Q
  split
  · exact incQ_size _ _
  · split
    · exact incQ_size _ _
    · rfl
theorem T2Q_all (T : Nat → SP.Bs) (n j : Nat) (h : j < n) : T2Q T n 0 j = incQ (T j) (T j).size := by unfold T2Q; rw [if_pos h]
theorem bC_set (b : SP.Bs) (k : Nat) (x : UInt8) : bC (b.setIfInBounds k x) = (bC b).set k (SP.encB x) := by
  unfold bC
  rw [Array.toList_setIfInBounds, List.map_set]
/-- What is laid down of the lists, at first. -/
structure ARow (w : World) (B kl n : Nat) (V : Nat → Value) : Prop where
  cell : ∀ j, j < n → w.cell? ⟨kl, j, none⟩ = some (V j)
  kb : 0 < n → kl < w.heap.size
  ne : ∀ j, j < n → (V j).ownBlock ≠ some kl
  inj : ∀ j j', j < n → j' < n → j ≠ j' → ∀ g, (V j).ownBlock = some g → (V j').ownBlock ≠ some g
  lt : ∀ j, j < n → ∀ g, (V j).ownBlock = some g → B ≤ g ∧ g < w.heap.size
/-- While they are written. -/
structure AS (w W : World) (B kl n : Nat) (V : Nat → Value) (T : Nat → SP.Bs) (sv : Value) (m : Nat) (S : Nat → SP.Bs) : Prop where
  bl : Below B w W
  sz : w.heap.size ≤ W.heap.size
  kl0 : 0 < n → W.heap[kl]? = w.heap[kl]?
  own : ∀ j, j < n → W.ownsRow B 5 1 (V j) (T j).size (bC (T j))
  sl : W.ownsRow w.heap.size 9 1 sv m ((List.range m).map fun j => .string ⟨S j⟩)
theorem AS.cell {w W : World} {B kl n m : Nat} {V : Nat → Value} {T S : Nat → SP.Bs} {sv : Value} (h : AS w W B kl n V T sv m S) (hA : ARow w B kl n V) {j : Nat} (hj : j < n) : W.cell? ⟨kl, j, none⟩ = some (V j) := by
  have : W.cell? ⟨kl, j, none⟩ = w.cell? ⟨kl, j, none⟩ := by unfold World.cell?; rw [h.kl0 (by omega)]
  rw [this]
  exact hA.cell j hj
theorem AS.drewN {w W : World} {B kl n m : Nat} {V : Nat → Value} {T S : Nat → SP.Bs} {sv : Value} (h : AS w W B kl n V T sv m S) (q : Nat) : AS w (W.drewN q) B kl n V T sv m S := ⟨⟨h.bl.os, h.bl.tape, h.bl.output, h.bl.size, h.bl.block⟩, h.sz, h.kl0, h.own, h.sl⟩
theorem AS.drew {w W : World} {B kl n m : Nat} {V : Nat → Value} {T S : Nat → SP.Bs} {sv : Value} (h : AS w W B kl n V T sv m S) : AS w W.drew B kl n V T sv m S := ⟨⟨h.bl.os, h.bl.tape, h.bl.output, h.bl.size, h.bl.block⟩, h.sz, h.kl0, h.own, h.sl⟩
/-- A text is appended to the texts. -/
theorem infoST : (Tryd.prog.info? 9).map (fun i => (i.size, i.bytes, i.zero.map fun z => z.cells.size)) = some (1, 16, some 1) := by kernel_rfl
theorem undST : Tryd.prog.underlying 65 = some (.slice 9) := by kernel_rfl
theorem AS.push {w W : World} {B kl n m : Nat} {V : Nat → Value} {T S : Nat → SP.Bs} {sv : Value} (h : AS w W B kl n V T sv m S) (hA : ARow w B kl n V) (hB : B ≤ w.heap.size) (hm : m ≤ 1000000) {x : ByteArray} (hx : x = ⟨S m⟩) :
    ∃ v' W', (Builtin.append_ #[65, 65] 65 #[sv, .slice (some ⟨W.heap.size, 0, none⟩) 1 1]).run Tryd.prog (W.alloc (.cells #[.string x] 9)) = .ok v' W' ∧ AS w W' B kl n V T v' (m + 1) S := by
  have hs := h.sz
  obtain ⟨v', W', r1, r2, r3⟩ := own_app1 undST infoST (by omega) h.sl (x := .string x) rfl (by omega) hs
  have hsv : ∀ g, g < w.heap.size → sv.ownBlock ≠ some g := fun g hg e => by
    have := (own_lt h.sl e).1
    omega
  have hk : ∀ g, g < w.heap.size → W'.heap[g]? = W.heap[g]? := fun g hg => r3.keep g (by omega) (hsv g hg)
  refine ⟨v', W', r1, ⟨by rw [r3.os, h.bl.os], by rw [r3.tape, h.bl.tape], by rw [r3.output, h.bl.output], Nat.le_trans h.bl.size r3.size, fun g hg => ?_⟩, by have := r3.size; omega, fun hn => ?_, fun j hj => ?_, ?_⟩
  · rw [hk g (by omega), h.bl.block g hg]
  · rw [hk kl (hA.kb hn), h.kl0 hn]
  · exact own_keep (h.own j hj) (fun g hg => hk g (hA.lt j hj g hg).2)
  · rw [List.range_succ, List.map_append]
    rw [hx] at r2
    exact r2
/-- A byte is written. -/
theorem AS.set {w W : World} {B kl n m i k g c : Nat} {V : Nat → Value} {T S : Nat → SP.Bs} {sv : Value} {x : UInt8} (h : AS w W B kl n V (T2Q T i k) sv m S) (hA : ARow w B kl n V) (hi : i < n) (hv : V i = .slice (some ⟨g, 0, none⟩) (T i).size c) (hx : x = (T i)[k]! + 1) : AS w (W.setCell ⟨g, k, none⟩ (SP.encB x)) B kl n V (T2Q T i (k + 1)) sv m S := by
  have ho := h.own i hi
  have hg : (V i).ownBlock = some g := by rw [hv]; rfl
  obtain ⟨g1, g2⟩ := hA.lt i hi g hg
  have hsz := T2Q_size T i k i
  rw [hv] at ho
  rw [hsz] at ho
  obtain ⟨s1, s2⟩ := ho.stored k (SP.encB x)
  have hk : ∀ y, y < W.heap.size → y ≠ g → (W.setCell ⟨g, k, none⟩ (SP.encB x)).heap[y]? = W.heap[y]? := fun y hy hne => s2.block y hy (fun e => hne (Option.some.inj e))
  have hs := h.sz
  refine ⟨⟨by rw [s2.os, h.bl.os], by rw [s2.tape, h.bl.tape], by rw [s2.output, h.bl.output], Nat.le_trans h.bl.size s2.size, fun y hy => ?_⟩, Nat.le_trans hs s2.size, fun hn => ?_, fun j hj => ?_, ?_⟩
  · rw [hk y (by omega) (by omega), h.bl.block y hy]
  · have := hA.kb hn
    rw [hk kl (by omega) (fun e => hA.ne i hi (by rw [hg, e])), h.kl0 hn]
  · by_cases e : j = i
    · subst e
      rw [T2Q_own, incQ, bC_set, Array.size_setIfInBounds, incQ_size, hv, ← hx]
      rw [T2Q_own] at s1
      exact s1
    · rw [T2Q_else _ _ _ _ e]
      refine own_keep (h.own j hj) (fun y hy => hk y (by have := (hA.lt j hj y hy).2; omega) (fun e2 => ?_))
      rw [e2] at hy
      exact hA.inj j i hj hi e g hy hg
  · refine own_keep h.sl (fun y hy => ?_)
    have := own_lt h.sl hy
    exact hk y this.2.1 (by omega)
end Go.Proofs.YtfkgfcggcfkkiaaDoor
namespace Go.Proofs.YtfkgfcggcfkkiaaDoor
open Go.RowKit Go.Sort Go.Deep
theorem RV.typ {W : World} {v : Value} {b : SP.Bs} {g : Nat} (h : RV W v b) (hg : v.ownBlock = some g) : g < W.heap.size ∧ ∃ cur, W.heap[g]? = some (.cells cur 5 (0, 0)) := by
  rcases h with ⟨-, rfl⟩ | ⟨g', c, rfl, cur, h1, -⟩
  · cases hg
  · obtain rfl : g' = g := Option.some.inj hg
    refine ⟨?_, cur, h1⟩
    by_cases hg : g' < W.heap.size
    · exact hg
    · rw [Array.getElem?_eq_none (by omega)] at h1; cases h1
/-- While they grow: i lists are grown, rows from o on are as they were. -/
structure AG (w W : World) (B kl n : Nat) (V : Nat → Value) (T : Nat → SP.Bs) (sv : Value) (S : Nat → SP.Bs) (gv : Value) (i o : Nat) (U : Nat → Value) : Prop where
  bl : Below B w W
  sz : w.heap.size ≤ W.heap.size
  kl0 : 0 < n → W.heap[kl]? = w.heap[kl]?
  own : ∀ j, o ≤ j → j < n → W.ownsRow B 5 1 (V j) (T j).size (bC (T j))
  rv : ∀ j, j < n → RV W (V j) (T j)
  sl : W.ownsRow w.heap.size 9 1 sv n ((List.range n).map fun j => .string ⟨S j⟩)
  gl : W.ownsRow w.heap.size 22 1 gv i ((List.range i).map U)
  uv : ∀ j, j < i → RV W (U j) (flQ (T j) j 80)
  ud : ∀ j, j < i → (U j).ownBlock = (V j).ownBlock ∨ ∃ g, (U j).ownBlock = some g ∧ w.heap.size ≤ g
variable {w W : World} {B kl n i o : Nat} {V U : Nat → Value} {T S : Nat → SP.Bs} {sv gv u : Value}
theorem AG.cell (h : AG w W B kl n V T sv S gv i o U) (hA : ARow w B kl n V) {j : Nat} (hj : j < n) : W.cell? ⟨kl, j, none⟩ = some (V j) := by
  have : W.cell? ⟨kl, j, none⟩ = w.cell? ⟨kl, j, none⟩ := by unfold World.cell?; rw [h.kl0 (by omega)]
  rw [this]
  exact hA.cell j hj
theorem AG.drewN (h : AG w W B kl n V T sv S gv i o U) (q : Nat) : AG w (W.drewN q) B kl n V T sv S gv i o U := ⟨⟨h.bl.os, h.bl.tape, h.bl.output, h.bl.size, h.bl.block⟩, h.sz, h.kl0, h.own, h.rv, h.sl, h.gl, h.uv, h.ud⟩
theorem AG.begin (h : AS w W B kl n V T sv n S) : AG w W B kl n V T sv S (.slice none 0 0) 0 0 U :=
  ⟨h.bl, h.sz, h.kl0, fun j _ hj => h.own j hj, fun j hj => RV.of (h.own j hj), h.sl, ⟨rfl, Or.inl ⟨rfl, rfl⟩⟩, fun j hj => absurd hj (Nat.not_lt_zero _), fun j hj => absurd hj (Nat.not_lt_zero _)⟩
/-- While list i grows. -/
structure AJ (w W : World) (B kl n : Nat) (V : Nat → Value) (T : Nat → SP.Bs) (sv : Value) (S : Nat → SP.Bs) (gv : Value) (i : Nat) (U : Nat → Value) (u : Value) (j : Nat) : Prop where
  ag : AG w W B kl n V T sv S gv i (i + 1) U
  cu : W.ownsRow B 5 1 u ((T i).size + j) (bC (flQ (T i) i j))
  cd : u.ownBlock = (V i).ownBlock ∨ ∃ g, u.ownBlock = some g ∧ w.heap.size ≤ g
  un : ∀ k, k < i → ∀ g, (U k).ownBlock = some g → u.ownBlock ≠ some g
theorem AJ.begin (h : AG w W B kl n V T sv S gv i i U) (hA : ARow w B kl n V) (hi : i < n) : AJ w W B kl n V T sv S gv i U (V i) 0 := by
  refine ⟨⟨h.bl, h.sz, h.kl0, fun j h1 h2 => h.own j (by omega) h2, h.rv, h.sl, h.gl, h.uv, h.ud⟩, h.own i (Nat.le_refl _) hi, Or.inl rfl, fun k hk g hg e => ?_⟩
  have hl := hA.lt i hi g e
  rcases h.ud k hk with h1 | ⟨g', h1, h2⟩
  · rw [h1] at hg
    exact hA.inj k i (by omega) hi (by omega) g hg e
  · rw [h1] at hg
    have := Option.some.inj hg
    omega
theorem AJ.push {j : Nat} (h : AJ w W B kl n V T sv S gv i U u j) (hA : ARow w B kl n V) (hi : i < n) (hin : i < n) (hsz : (T i).size + j ≤ 1000000) (hB : B ≤ w.heap.size) {x : Value} (hx : x = SP.encB (fillQ i j)) :
    ∃ v' W', (Builtin.append_ #[22, 22] 22 #[u, .slice (some ⟨W.heap.size, 0, none⟩) 1 1]).run Tryd.prog (W.alloc (.cells #[x] 5)) = .ok v' W' ∧ AJ w W' B kl n V T sv S gv i U v' (j + 1) := by
  have a := h.ag
  have hs := a.sz
  obtain ⟨v', W', r1, r2, r3⟩ := own_app1 undB5 infoU8 (by omega) h.cu (x := x) (by rw [hx]; rfl) (by omega) (by omega)
  have hcu' : W'.ownsRow B 5 1 v' ((T i).size + (j + 1)) (bC (flQ (T i) i (j + 1))) := by
    rw [flQ, bC_app]
    rw [hx] at r2
    exact r2
  have ut : ∀ g, u.ownBlock = some g → B ≤ g ∧ g < W.heap.size ∧ ∃ cur, W.heap[g]? = some (.cells cur 5 (0, 0)) := fun g hg => own_lt h.cu hg
  have uV : ∀ k, k < n → k ≠ i → ∀ g, (V k).ownBlock = some g → u.ownBlock ≠ some g := fun k hk hne g hg e => by
    rcases h.cd with h1 | ⟨g', h1, h2⟩
    · rw [h1] at e
      exact hA.inj k i hk hi hne g hg e
    · rw [h1] at e
      have e' := Option.some.inj e
      have := (hA.lt k hk g hg).2
      omega
  have hrs := r3.size
  refine ⟨v', W', r1, ⟨⟨⟨by rw [r3.os, a.bl.os], by rw [r3.tape, a.bl.tape], by rw [r3.output, a.bl.output], Nat.le_trans a.bl.size r3.size, fun g hg => ?_⟩, by omega, fun hn => ?_, fun k h1 h2 => ?_, fun k hk => ?_, ?_, ?_, fun k hk => ?_, a.ud⟩, hcu', ?_, fun k hk g hg => ?_⟩⟩
  · rw [r3.keep g (by omega) (fun e => by have := (ut g e).1; omega), a.bl.block g hg]
  · have hk := hA.kb hn
    rw [r3.keep kl (by omega) (fun e => by
      rcases h.cd with h1 | ⟨g', h1, h2⟩
      · exact hA.ne i hi (by rw [← h1]; exact e)
      · rw [h1] at e
        have := Option.some.inj e
        omega), a.kl0 hn]
  · exact own_keep (a.own k h1 h2) (fun g hg => r3.keep g (own_lt (a.own k h1 h2) hg).2.1 (uV k h2 (by omega) g hg))
  · by_cases e : k = i
    · subst e
      rcases r3.mv with h1 | ⟨-, h1⟩
      · by_cases hb : u.ownBlock = (V k).ownBlock
        · rcases id (a.rv k hk) with h2 | ⟨g, c, h2, -⟩
          · exact Or.inl h2
          · refine Or.inr ⟨g, c, h2, ?_⟩
            obtain ⟨x', hx'⟩ := flQ_app (T k) k (j + 1)
            have hv' : v'.ownBlock = some g := by rw [h1, hb, h2]; rfl
            have hR : RV W' v' (T k ++ x') := by
              rw [← hx']
              refine RV.of (base := B) ?_
              rw [flQ_size]
              exact hcu'
            rcases id hR with ⟨-, e⟩ | ⟨g2, c2, e, -⟩
            · rw [e] at hv'; cases hv'
            · rw [e] at hv' hR
              obtain rfl : g2 = g := Option.some.inj hv'
              exact RV.front hR
        · exact (a.rv k hk).keep (fun g hg => r3.keep g ((a.rv k hk).typ hg).1 (fun e => hb (by rw [e, hg])))
      · exact (a.rv k hk).keep (fun g hg => h1 g ((a.rv k hk).typ hg).1)
    · exact (a.rv k hk).keep (fun g hg => r3.keep g ((a.rv k hk).typ hg).1 (uV k hk e g hg))
  · refine own_keep a.sl (fun g hg => ?_)
    obtain ⟨-, g2, cur, g3⟩ := own_lt a.sl hg
    exact r3.keep g g2 (fun e => by
      obtain ⟨-, -, cur', e3⟩ := ut g e
      rw [g3] at e3
      injection e3 with e3
      injection e3 with _ e3 _
      cases e3)
  · refine own_keep a.gl (fun g hg => ?_)
    obtain ⟨-, g2, cur, g3⟩ := own_lt a.gl hg
    exact r3.keep g g2 (fun e => by
      obtain ⟨-, -, cur', e3⟩ := ut g e
      rw [g3] at e3
      injection e3 with e3
      injection e3 with _ e3 _
      cases e3)
  · exact (a.uv k hk).keep (fun g hg => r3.keep g ((a.uv k hk).typ hg).1 (h.un k hk g hg))
  · rcases r3.mv with h1 | ⟨⟨g, h1, h2⟩, -⟩
    · rw [h1]; exact h.cd
    · exact Or.inr ⟨g, h1, by omega⟩
  · rcases r3.mv with h1 | ⟨⟨g', h1, h2⟩, -⟩
    · rw [h1]; exact h.un k hk g hg
    · rw [h1]
      intro e
      have e' := Option.some.inj e
      have := ((a.uv k hk).typ hg).1
      omega
theorem AJ.done (h : AJ w W B kl n V T sv S gv i U u 80) (hA : ARow w B kl n V) (hi : i < n) (hn : i ≤ 1000000) (hB : B ≤ w.heap.size) :
    ∃ v' W', (Builtin.append_ #[36, 36] 36 #[gv, .slice (some ⟨W.heap.size, 0, none⟩) 1 1]).run Tryd.prog (W.alloc (.cells #[u] 22)) = .ok v' W' ∧ AG w W' B kl n V T sv S v' (i + 1) (i + 1) (fun k => if k = i then u else U k) := by
  have a := h.ag
  have hs := a.sz
  have hu : RV W u (flQ (T i) i 80) := by
    refine RV.of (base := B) ?_
    rw [flQ_size]
    exact h.cu
  obtain ⟨v', W', r1, r2, r3⟩ := own_app1 undBB infoBB (by omega) a.gl (x := u) (by
    obtain ⟨q, c, rfl⟩ := hu.slice
    rfl) (by omega) hs
  have gt : ∀ g, gv.ownBlock = some g → w.heap.size ≤ g ∧ g < W.heap.size ∧ ∃ cur, W.heap[g]? = some (.cells cur 22 (0, 0)) := fun g hg => own_lt a.gl hg
  have hrs := r3.size
  have old : ∀ g, g < w.heap.size → W'.heap[g]? = W.heap[g]? := fun g hg => r3.keep g (by omega) (fun e => by have := (gt g e).1; omega)
  have kp : ∀ {v : Value} {b : SP.Bs}, RV W v b → RV W' v b := fun hv => hv.keep (fun g hg => by
    obtain ⟨g1, cur, g2⟩ := hv.typ hg
    exact r3.keep g g1 (fun e => by
      obtain ⟨-, -, cur', e3⟩ := gt g e
      rw [g2] at e3
      injection e3 with e3
      injection e3 with _ e3 _
      cases e3))
  refine ⟨v', W', r1, ⟨⟨by rw [r3.os, a.bl.os], by rw [r3.tape, a.bl.tape], by rw [r3.output, a.bl.output], Nat.le_trans a.bl.size r3.size, fun g hg => ?_⟩, by omega, fun hn => ?_, fun k h1 h2 => ?_, fun k hk => kp (a.rv k hk), ?_, ?_, fun k hk => ?_, fun k hk => ?_⟩⟩
  · rw [old g (by omega), a.bl.block g hg]
  · rw [old kl (hA.kb hn), a.kl0 hn]
  · exact own_keep (a.own k h1 h2) (fun g hg => old g (hA.lt k h2 g hg).2)
  · refine own_keep a.sl (fun g hg => ?_)
    obtain ⟨-, g2, cur, g3⟩ := own_lt a.sl hg
    exact r3.keep g g2 (fun e => by
      obtain ⟨-, -, cur', e3⟩ := gt g e
      rw [g3] at e3
      injection e3 with e3
      injection e3 with _ e3 _
      cases e3)
  · rw [List.range_succ, List.map_append]
    have e1 : (List.range i).map (fun k => if k = i then u else U k) = (List.range i).map U := by
      refine List.map_congr_left fun k hk => ?_
      have := List.mem_range.1 hk
      rw [if_neg (by omega)]
    rw [e1]
    simp only [List.map_cons, List.map_nil, if_pos]
    exact r2
  · by_cases e : k = i
    · subst e
      rw [if_pos rfl]
      exact kp hu
    · rw [if_neg e]
      exact kp (a.uv k (by omega))
  · by_cases e : k = i
    · subst e
      rw [if_pos rfl]
      exact h.cd
    · rw [if_neg e]
      exact a.ud k (by omega)
end Go.Proofs.YtfkgfcggcfkkiaaDoor
namespace Go.Proofs.YtfkgfcggcfkkiaaDoor
open Go.RowKit Go.Sort Go.Deep
/-- Row p, as it is looked at. -/
structure LookQ (W : World) (kl gs gg p : Nat) (qv qu : Option Addr) (m cv cu : Nat) (s : ByteArray) (b b3 : SP.Bs) : Prop where
  cl : W.cell? ⟨kl, p, none⟩ = some (.slice qv m cv)
  cs : W.cell? ⟨gs, p, none⟩ = some (.string s)
  cg : W.cell? ⟨gg, p, none⟩ = some (.slice qu (m + 80) cu)
  hl : RV W (.slice qv m cv) b
  hg : RV W (.slice qu (m + 80) cu) b3
theorem LookQ.drewN {W : World} {kl gs gg p m cv cu : Nat} {qv qu : Option Addr} {s : ByteArray} {b b3 : SP.Bs} (h : LookQ W kl gs gg p qv qu m cv cu s b b3) (q : Nat) : LookQ (W.drewN q) kl gs gg p qv qu m cv cu s b b3 := ⟨h.cl, h.cs, h.cg, h.hl, h.hg⟩
theorem mixedQ : Tryd.prog.follows .mixedOrders = true := by kernel_rfl
theorem own_cellS {W : World} {base n g c : Nat} {e : TypeId} {xs : List Value} (h : W.ownsRow base e 1 (.slice (some ⟨g, 0, none⟩) n c) n xs) {j : Nat} {u : Value} (hu : xs[j]? = some u) : W.cell? ⟨g, j, none⟩ = some u := by
  have := h.cells (g := g) rfl j u hu
  rw [addP0, Nat.zero_add] at this
  exact this
theorem own_shape {W : World} {base n : Nat} {e : TypeId} {v : Value} {xs : List Value} (h : W.ownsRow base e 1 v n xs) (hn : 0 < n) : ∃ g c, v = .slice (some ⟨g, 0, none⟩) n c := by
  rcases h with ⟨-, ⟨-, h0⟩ | ⟨g, cap, cur, rfl, -⟩⟩
  · omega
  · exact ⟨g, cap, rfl⟩
set_option maxHeartbeats 4000000 in
set_option maxRecDepth 100000 in
theorem ApartQ (kl n c B : Nat) (q : Option Addr) (V : Nat → Value) (T : Nat → SP.Bs) (w : World) (hn : n ≤ 5000) (hq : 0 < n → q = some ⟨kl, 0, none⟩) (hA : ARow w B kl n V) (hO : ∀ j, j < n → w.ownsRow B 5 1 (V j) (T j).size (bC (T j))) (hT : ∀ j, j < n → (T j).size ≤ 100000) (hBw : B ≤ w.heap.size) :
    Calls Tryd.prog 12 #[.slice q n c] w (fun e w' => e = .returned (.bool true) ∧ Below B w w') := by
  have HA := Hid.mkP hA
  have HT := Hid.mkP hT
  have HQ := Hid.mkP hq
  have A0 : Hid (AS w w B kl n V T (.slice none 0 0) 0 T) := ⟨Below.refl _ _, Nat.le_refl _, fun _ => rfl, hO, ⟨rfl, Or.inl ⟨rfl, rfl⟩⟩⟩
  clear hA hO hq hT
  go_enter Tryd.func12, Tryd.ntmps12
  go_wp2
  go_loopg [3, 4] n (fun gk s3 s4 wr => ∃ (i : Nat) (sv : Value), i + gk = n ∧ sv = s3 ∧ s4 = .int .i64 (i : Int) ∧ Hid (AS w wr B kl n V T sv i T))
  case atStart => exact ⟨0, _, Nat.zero_add _, rfl, rfl, A0⟩
  case round =>
    clear A0
    obtain ⟨i, sv, hi, rfl, rfl, HS⟩ := hrel
    by_cases hlt : i < n
    · have hlt' : (i : Int) < (n : Int) := by omega
      obtain rfl := HQ.out (by omega)
      have hc := HS.out.cell HA.out hlt
      have hpt := (RV.of (HS.out.own i hlt)).pt
      obtain ⟨qv, cv, hv, -⟩ := id hpt
      rw [hv] at hc hpt
      have hcv := hpt.conv
      obtain ⟨v', w3, hap, hL3⟩ := HS.out.push HA.out hBw (by omega) (x := ⟨T i⟩) rfl
      have HL3 := Hid.mkP hL3
      generalize (⟨T i⟩ : ByteArray) = s at hcv hap
      generalize Array.size (T i) = m at hc hcv
      clear hL3 hpt hv HS
      go_wp2_with (at_builtin; refine Lib.wpList_append_run _ rfl _ _ 65 65 rfl _ _ rfl rfl _ _ hap ?_)
      go_roundg (gk - 1)
      case measure => omega
      case rel => exact ⟨i + 1, _, by omega, rfl, rfl, HL3⟩
    · have hge : ¬ (i : Int) < (n : Int) := by omega
      obtain rfl : i = n := by omega
      have HS1 : Hid (AS w wr B kl i V (T2Q T 0 0) sv i T) := by rw [T2Q_zero]; exact HS
      clear HS hi hlt
      go_wp2
      clear hge
      go_loopg [5] i (fun gk s5 wr => ∃ k : Nat, k + gk = i ∧ s5 = .int .i64 (k : Int) ∧ Hid (AS w wr B kl i V (T2Q T k 0) sv i T))
      case atStart => exact ⟨0, Nat.zero_add _, rfl, HS1⟩
      case round =>
        clear HS1
        obtain ⟨k, hk, rfl, HS1⟩ := hrel
        by_cases hlt : k < i
        · have hlt' : (k : Int) < (i : Int) := by omega
          obtain rfl := HQ.out (by omega)
          have hm : (T k).size ≤ 100000 := HT.out k hlt
          obtain ⟨m, hmm⟩ : ∃ m, Hid ((T k).size = m) := ⟨_, rfl⟩
          rw [hmm.out] at hm
          obtain ⟨qv, cv, hv⟩ := (RV.of (HS1.out.own k hlt)).slice
          rw [T2Q_size, hmm.out] at hv
          have Hv := Hid.mkP hv
          clear hv
          go_wp2
          go_loopg [6] m (fun gj s6 wr => ∃ j : Nat, j + gj = m ∧ s6 = .int .i64 (j : Int) ∧ Hid (AS w wr B kl i V (T2Q T k j) sv i T))
          case atStart => exact ⟨0, Nat.zero_add _, rfl, HS1⟩
          case round =>
            clear HS1
            obtain ⟨j, hj, rfl, HS1⟩ := hrel
            have hc := HS1.out.cell HA.out hlt
            rw [Hv.out] at hc
            by_cases hj2 : j < m
            · have hj3 : (j : Int) < (m : Int) := by omega
              obtain ⟨x, hx⟩ : ∃ x, (T k)[j]! = x := ⟨_, rfl⟩
              obtain ⟨g, c0, e1, hb0, hf0⟩ := (RV.of (HS1.out.own k hlt)).at (k := j) (by rw [T2Q_size, hmm.out]; exact hj2)
              rw [T2Q_own, incQ_at _ _ _ (by rw [hmm.out]; omega) (by rw [hmm.out]; omega), if_neg (by omega), hx] at hb0
              have e2 : V k = .slice (some ⟨g, 0, none⟩) (T k).size c0 := by rw [e1, T2Q_size]
              rw [Hv.out, hmm.out] at e2
              injection e2 with e3 _ e4
              subst e3 e4
              have hw := ubQ_succ x
              have HS2 : Hid (AS w (wr.setCell ⟨g, j, none⟩ (SP.encB (x + 1))) B kl i V (T2Q T k (j + 1)) sv i T) := HS1.out.set HA.out hlt (by rw [Hv.out, hmm.out]) (by rw [hx])
              unfold SP.encB at hb0 HS2
              clear HS1 hx e1
              generalize SP.ub x = u at hb0 hw
              go_wp2_with fail
              go_still_tail 14, mixedQ
              go_wp2
              go_roundg (gk - 1)
              case measure => omega
              case rel => exact ⟨j + 1, by omega, rfl, HS2.out.drew⟩
            · have hj3 : ¬ (j : Int) < (m : Int) := by omega
              obtain rfl : j = m := by omega
              have HS2 : Hid (AS w wr B kl i V (T2Q T (k + 1) 0) sv i T) := by
                rw [← T2Q_next, hmm.out]
                exact HS1
              clear HS1
              go_wp2
              go_roundg (i - (k + 1))
              case measure => omega
              case rel => exact ⟨k + 1, by omega, rfl, HS2⟩
        · have hge : ¬ (k : Int) < (i : Int) := by omega
          obtain rfl : k = i := by omega
          have HG0 : Hid (AG w wr B kl k V (T2Q T k 0) sv T (.slice none 0 0) 0 0 (fun _ => undef)) := AG.begin HS1.out
          clear hlt hk HS1
          go_wp2
          clear hge
          go_loopg [7, 8] k (fun gk s7 s8 wr => ∃ (i : Nat) (gv : Value) (U : Nat → Value), i + gk = k ∧ gv = s7 ∧ s8 = .int .i64 (i : Int) ∧ Hid (AG w wr B kl k V (T2Q T k 0) sv T gv i i U))
          case atStart => exact ⟨0, _, _, Nat.zero_add _, rfl, rfl, HG0⟩
          case round =>
            clear HG0
            obtain ⟨i, gv, U, hi, rfl, rfl, HG1⟩ := hrel
            by_cases hlt : i < k
            · have hlt' : (i : Int) < (k : Int) := by omega
              obtain rfl := HQ.out (by omega)
              have hc := HG1.out.cell HA.out hlt
              obtain ⟨qv, cv, hv⟩ := (HG1.out.rv i hlt).slice
              have HJ0 : Hid (AJ w wr B kl k V (T2Q T k 0) sv T gv i U (V i) 0) := AJ.begin HG1.out HA.out hlt
              have hm : (T2Q T k 0 i).size ≤ 100000 := by rw [T2Q_size]; exact HT.out i hlt
              obtain ⟨m, Hm⟩ : ∃ m, Hid ((T2Q T k 0 i).size = m) := ⟨_, rfl⟩
              rw [hv, Hm.out] at hc HJ0
              rw [Hm.out] at hm
              clear hv HG1
              go_wp2
              clear hc
              go_loopg [9, 10] 80 (fun gk s9 s10 wr => ∃ (j : Nat) (bv : Value), j + gk = 80 ∧ bv = s9 ∧ s10 = .int .i64 (j : Int) ∧ Hid (AJ w wr B kl k V (T2Q T k 0) sv T gv i U bv j))
              case atStart => exact ⟨0, _, Nat.zero_add _, rfl, rfl, HJ0⟩
              case round =>
                clear HJ0
                obtain ⟨j, bv, hj, rfl, rfl, HJ⟩ := hrel
                by_cases hj2 : j < 80
                · have hj3 : (j : Int) < 80 := by omega
                  have hf := fillQ_int i j
                  obtain ⟨v', w3, hap, hL3⟩ := HJ.out.push HA.out hlt hlt (by rw [Hm.out]; omega) hBw (x := .int .u8 (SP.ub (fillQ i j))) rfl
                  have HL3 := Hid.mkP hL3
                  clear hL3 HJ
                  generalize SP.ub (fillQ i j) = u at hf hap
                  go_wp2_with (at_builtin; refine Lib.wpList_append_run _ rfl _ _ 22 22 rfl _ _ rfl rfl _ _ hap ?_)
                  go_roundg (gk - 1)
                  case measure => omega
                  case rel => exact ⟨j + 1, _, by omega, rfl, rfl, HL3⟩
                · have hj3 : ¬ (j : Int) < 80 := by omega
                  obtain rfl : j = 80 := by omega
                  obtain ⟨qb, cb, hbv⟩ : ∃ q c, bv = .slice q (m + 80) c := by
                    have h1 : RV wr bv (flQ (T2Q T k 0 i) i 80) := by
                      refine RV.of (base := B) ?_
                      rw [flQ_size]
                      exact HJ.out.cu
                    obtain ⟨q, c, h2⟩ := h1.slice
                    rw [flQ_size, Hm.out] at h2
                    exact ⟨q, c, h2⟩
                  subst hbv
                  obtain ⟨v', w3, hap, hL3⟩ := HJ.out.done HA.out hlt (by omega) hBw
                  have HL3 := Hid.mkP hL3
                  clear hL3 HJ
                  go_wp2_with (at_builtin; refine Lib.wpList_append_run _ rfl _ _ 36 36 rfl _ _ rfl rfl _ _ hap ?_)
                  go_roundg (k - (i + 1))
                  case measure => omega
                  case rel => exact ⟨i + 1, _, _, by omega, rfl, rfl, HL3⟩
            · have hge : ¬ (i : Int) < (k : Int) := by omega
              obtain rfl : i = k := by omega
              clear hlt hi
              go_wp2
              clear hge
              go_loopg [11] i (fun gk s11 wr => ∃ p : Nat, p + gk = i ∧ s11 = .int .i64 (p : Int) ∧ Hid (AG w wr B kl i V (T2Q T i 0) sv T gv i i U))
              case atStart => exact ⟨0, Nat.zero_add _, rfl, HG1⟩
              case round =>
                clear HG1
                obtain ⟨p, hp, rfl, HST⟩ := hrel
                by_cases hlt : p < i
                · have hlt' : (p : Int) < (i : Int) := by omega
                  obtain rfl := HQ.out (by omega)
                  obtain ⟨gs, cs, rfl⟩ := own_shape HST.out.sl (by omega)
                  obtain ⟨gg, cg, rfl⟩ := own_shape HST.out.gl (by omega)
                  have hcs : wr.cell? ⟨gs, p, none⟩ = some (.string ⟨T p⟩) := own_cellS HST.out.sl (by rw [List.getElem?_map, List.getElem?_range hlt]; rfl)
                  have hcg : wr.cell? ⟨gg, p, none⟩ = some (U p) := own_cellS HST.out.gl (by rw [List.getElem?_map, List.getElem?_range hlt]; rfl)
                  have hcl := HST.out.cell HA.out hlt
                  have hHl := HST.out.rv p hlt
                  have hHg := HST.out.uv p hlt
                  obtain ⟨qv, cv, hv⟩ := hHl.slice
                  obtain ⟨qu, cu, hu⟩ := hHg.slice
                  have hm : (T p).size ≤ 100000 := HT.out p hlt
                  obtain ⟨m, hmm⟩ : ∃ m, (T p).size = m := ⟨_, rfl⟩
                  rw [T2Q_size, hmm] at hv
                  rw [flQ_size, T2Q_size, hmm] at hu
                  rw [hv] at hcl hHl
                  rw [hu] at hcg hHg
                  rw [hmm] at hm
                  have HLK : Hid (LookQ wr kl gs gg p qv qu m cv cu ⟨T p⟩ (T2Q T i 0 p) (flQ (T2Q T i 0 p) p 80)) := ⟨hcl, hcs, hcg, hHl, hHg⟩
                  have HB1 : Hid (∀ j, j < m → (T2Q T i 0 p)[j]! = (T p)[j]! + 1) := fun j hj => by rw [T2Q_all _ _ _ hlt, incQ_at _ _ _ (Nat.le_refl _) (by rw [hmm]; exact hj), if_pos (by rw [hmm]; exact hj)]
                  have HB2 : Hid (∀ j, j < m → (flQ (T2Q T i 0 p) p 80)[j]! = (T p)[j]! + 1) := fun j hj => by
                    rw [flQ_low _ _ _ (by rw [T2Q_size, hmm]; exact hj)]
                    exact HB1.out j hj
                  have HB3 : Hid (∀ j, j < 80 → (flQ (T2Q T i 0 p) p 80)[m + j]! = fillQ p j) := fun j hj => by
                    have := flQ_high (T2Q T i 0 p) p j 80 hj
                    rw [T2Q_size, hmm] at this
                    exact this
                  have HSS : Hid ((T2Q T i 0 p).size = m ∧ (flQ (T2Q T i 0 p) p 80).size = m + 80) := ⟨by rw [T2Q_size, hmm], by rw [flQ_size, T2Q_size, hmm]⟩
                  generalize flQ (T2Q T i 0 p) p 80 = b3 at HLK HB2 HB3 HSS
                  obtain ⟨b, hb⟩ : ∃ b, T2Q T i 0 p = b := ⟨_, rfl⟩
                  rw [hb] at HLK HB1 HSS
                  obtain ⟨s, hs⟩ : ∃ s : ByteArray, s = ⟨T p⟩ := ⟨_, rfl⟩
                  rw [← hs] at HLK hcs
                  have hsz : s.size = m := by rw [hs]; exact hmm
                  have HSX : Hid (∀ j (h : j < s.size), s[j] = (T p)[j]!) := fun j h => by
                    subst hs
                    have h' : j < (T p).size := h
                    rw [getElem!_pos (T p) j h']
                    rfl
                  clear hHg hHl hs hb hv hu hmm
                  go_wp2_with fail
                  go_quiet (fail)
                  have HST1 := Hid.mkP (HST.out.drewN nq)
                  have HLK1 := Hid.mkP (HLK.out.drewN nq)
                  clear HST HLK hcs hcg hcl
                  generalize wr.drewN nq = w6 at HST1 HLK1 ⊢
                  go_wp2
                  go_loopg [12] m (fun gk s12 wr => ∃ j : Nat, j + gk = m ∧ s12 = .int .i64 (j : Int) ∧ Hid (AG w wr B kl i V (T2Q T i 0) (.slice (some ⟨gs, 0, none⟩) i cs) T (.slice (some ⟨gg, 0, none⟩) i cg) i i U) ∧ Hid (LookQ wr kl gs gg p qv qu m cv cu s b b3))
                  case atStart => exact ⟨0, Nat.zero_add _, rfl, HST1, HLK1⟩
                  case round =>
                    clear HST1 HLK1
                    obtain ⟨j, hj, rfl, HST, HLK⟩ := hrel
                    have hcs := HLK.out.cs
                    by_cases hj2 : j < m
                    · have hj3 : (j : Int) < (m : Int) := by omega
                      have hj4 : j < s.size := by omega
                      have hj5 : (j : Int) < (s.size : Int) := by omega
                      have hj6 : (j : Int) < (m : Int) + 80 := by omega
                      have hcl := HLK.out.cl
                      have hcg := HLK.out.cg
                      obtain ⟨g1, c1, e1, h1, -⟩ := HLK.out.hl.at (k := j) (by rw [HSS.out.1]; exact hj2)
                      obtain ⟨g2, c2, e2, h2, -⟩ := HLK.out.hg.at (k := j) (by rw [HSS.out.2]; omega)
                      rw [HB1.out j hj2] at h1
                      rw [HB2.out j hj2] at h2
                      injection e1 with e1 _ _
                      injection e2 with e2 _ _
                      have hw : IntKind.u8.wrap ((s[j].toNat : Int) + 1) = SP.ub ((T p)[j]! + 1) := by rw [HSX.out j hj4]; exact ubQ_succ _
                      unfold SP.encB at h1 h2
                      generalize SP.ub ((T p)[j]! + 1) = u at h1 h2 hw
                      rw [e1] at hcl
                      rw [e2] at hcg
                      go_wp2_with fail
                      go_quiet (fail)
                      have HST1 := Hid.mkP (HST.out.drewN nq)
                      have HLK1 := Hid.mkP (HLK.out.drewN nq)
                      clear HST HLK hcs hcg hcl h1 h2 hw
                      generalize wr.drewN nq = w7 at HST1 HLK1 ⊢
                      go_wp2
                      go_roundg (gk - 1)
                      case measure => omega
                      case rel => exact ⟨j + 1, by omega, rfl, HST1, HLK1⟩
                    · have hj3 : ¬ (j : Int) < (m : Int) := by omega
                      have hj7 : ¬ (j : Int) < (s.size : Int) := by omega
                      go_wp2
                      clear hcs hj3
                      go_loopg [13] 80 (fun gk s13 wr => ∃ j : Nat, j + gk = 80 ∧ s13 = .int .i64 (j : Int) ∧ Hid (AG w wr B kl i V (T2Q T i 0) (.slice (some ⟨gs, 0, none⟩) i cs) T (.slice (some ⟨gg, 0, none⟩) i cg) i i U) ∧ Hid (LookQ wr kl gs gg p qv qu m cv cu s b b3))
                      case atStart => exact ⟨0, Nat.zero_add _, rfl, HST, HLK⟩
                      case round =>
                        clear HST HLK hj hj2
                        obtain ⟨j, hj, rfl, HST, HLK⟩ := hrel
                        by_cases hj2 : j < 80
                        · have hj3 : (j : Int) < 80 := by omega
                          have hcs := HLK.out.cs
                          have hcg := HLK.out.cg
                          obtain ⟨m2, hm2⟩ : ∃ m2, m + j = m2 := ⟨_, rfl⟩
                          have i1 : (s.size : Int) + (j : Int) = (m2 : Int) := by omega
                          have i2 : (m2 : Int) < (m : Int) + 80 := by omega
                          obtain ⟨g2, c2, e2, h2, -⟩ := HLK.out.hg.at (k := m2) (by rw [HSS.out.2]; omega)
                          injection e2 with e2 _ _
                          rw [e2] at hcg
                          rw [← hm2, HB3.out j hj2, hm2] at h2
                          have hf := fillQ_int p j
                          unfold SP.encB at h2
                          generalize SP.ub (fillQ p j) = u at h2 hf
                          go_wp2_with fail
                          go_quiet (fail)
                          have HST1 := Hid.mkP (HST.out.drewN nq)
                          have HLK1 := Hid.mkP (HLK.out.drewN nq)
                          clear HST HLK hcs hcg h2 hf
                          generalize wr.drewN nq = w7 at HST1 HLK1 ⊢
                          go_wp2
                          go_roundg (gk - 1)
                          case measure => omega
                          case rel => exact ⟨j + 1, by omega, rfl, HST1, HLK1⟩
                        · have hj3 : ¬ (j : Int) < 80 := by omega
                          go_wp2
                          go_roundg (i - (p + 1))
                          case measure => omega
                          case rel => exact ⟨p + 1, by omega, rfl, HST⟩
                · have hge : ¬ (p : Int) < (i : Int) := by omega
                  go_wp2
                  go_ret
                  exact ⟨rfl, HST.out.bl⟩
end Go.Proofs.YtfkgfcggcfkkiaaDoor
namespace Go.Proofs.YtfkgfcggcfkkiaaDoor
open Go.RowKit Go.Sort Go.Deep
namespace WI
variable {T : World → Prop} {u : List UInt8 → Bool}
/-- What Parse answers. -/
def prs (u : List UInt8 → Bool) (x : List UInt8) : Itm × Int := if 65536 < x.length then (.mk 0 0 [] [], 1) else match rdAll u x with
  | some i => (i, 0)
  | none => (.mk 0 0 [] [], 2)
theorem Parse_any (hU : UV T u) (w : World) (q : Option Addr) (m c : Nat) (x : List UInt8) (hT : T w) (hP : PBq w w.heap.size q m c x) : Calls Tryd.prog 8 #[.slice q m c] w (RetW fun e w' => Below w.heap.size w w' ∧ ∃ qd dl cd ql ml cl, e = .tuple #[itv (prs u x).1.k (prs u x).1.n qd dl cd ql ml cl, .int .i64 (prs u x).2] ∧ IMO w.heap.size w' (prs u x).1 (.slice qd dl cd) (.slice ql ml cl)) := by
  have hm := hP.1
  by_cases h : 65536 < x.length
  · have e : prs u x = (.mk 0 0 [] [], 1) := if_pos h
    rw [e]
    refine (Parse_l w q m c (by omega)).mono ?_
    rintro e w' ⟨v, rfl, hb, rfl⟩
    exact ⟨_, rfl, hb, none, 0, 0, none, 0, 0, rfl, imq_num hb.size 0 0 (by decide)⟩
  · refine (Parse_c hU w q m c x hT (by omega) hP).mono ?_
    rintro e w' ⟨v, rfl, hb, ⟨i, qd, dl, cd, ql, ml, cl, hr, rfl, hI⟩ | ⟨hr, rfl⟩⟩
    · have e : prs u x = (i, 0) := by unfold prs; rw [if_neg h, hr]
      rw [e]
      exact ⟨_, rfl, hb, qd, dl, cd, ql, ml, cl, rfl, hI⟩
    · have e : prs u x = (.mk 0 0 [] [], 2) := by unfold prs; rw [if_neg h, hr]
      rw [e]
      exact ⟨_, rfl, hb, none, 0, 0, none, 0, 0, rfl, imq_num hb.size 0 0 (by decide)⟩
theorem rParse_any (hU : UV T u) (w : World) (S : ByteArray) (hT : T w) : Calls Tryd.prog 10 #[.string S] w (RetW fun e w' => Below w.heap.size w w' ∧ ∃ qd dl cd ql ml cl, e = .tuple #[itv (prs u S.data.toList).1.k (prs u S.data.toList).1.n qd dl cd ql ml cl, .int .i64 (prs u S.data.toList).2] ∧ InM w' w'.heap.size (prs u S.data.toList).1 (.slice qd dl cd) (.slice ql ml cl)) := by
  have hl : S.data.toList.length = S.size := by rw [Array.length_toList]; rfl
  have hz : ∀ W : World, InM W W.heap.size (.mk 0 0 [] []) (.slice none 0 0) (.slice none 0 0) := fun W => by
    rw [InM]
    exact ⟨by decide, by simp, by simp, ⟨none, 0, rfl, Nat.le_refl _, Or.inl rfl⟩, none, 0, rfl, Or.inl rfl⟩
  by_cases h : 65536 < S.data.toList.length
  · have e : prs u S.data.toList = (.mk 0 0 [] [], 1) := if_pos h
    rw [e]
    refine (rParse_l w S (by omega)).mono ?_
    rintro e w' ⟨v, rfl, hb, rfl⟩
    exact ⟨_, rfl, hb, none, 0, 0, none, 0, 0, rfl, hz w'⟩
  · refine (rParse_c hU w S S.data.toList rfl hT (by omega)).mono ?_
    rintro e w' ⟨v, rfl, hb, ⟨i, qd, dl, cd, ql, ml, cl, hr, rfl, hI⟩ | ⟨hr, rfl⟩⟩
    · have e : prs u S.data.toList = (i, 0) := by unfold prs; rw [if_neg h, hr]
      rw [e]
      exact ⟨_, rfl, hb, qd, dl, cd, ql, ml, cl, rfl, hI w' fun _ _ _ => rfl⟩
    · have e : prs u S.data.toList = (.mk 0 0 [] [], 2) := by unfold prs; rw [if_neg h, hr]
      rw [e]
      exact ⟨_, rfl, hb, none, 0, 0, none, 0, 0, rfl, hz w'⟩
/-- What is known of it. -/
theorem prs_kn (u : List UInt8 → Bool) (x : List UInt8) : cnt (prs u x).1 ≤ 4096 ∧ (prs u x).1.n < 18446744073709551616 ∧ ((prs u x).1 = .mk 0 0 [] [] ∨ (shp u (prs u x).1 = true ∧ (byt (prs u x).1).length ≤ 65536)) := by
  unfold prs
  split
  · exact ⟨by simp [cnt, cnts], by decide, Or.inl rfl⟩
  · rename_i h
    cases hr : rdAll u x with
    | none => exact ⟨by simp [cnt, cnts], by decide, Or.inl rfl⟩
    | some i =>
      obtain ⟨n, h1⟩ := whole_some hr
      obtain ⟨h2, h3, -, h5, h6, h7⟩ := rd_some u 16 0 x i n [] h1
      rw [List.append_nil] at h2
      refine ⟨by simp only; omega, ?_, Or.inr ⟨h3, by simp only; rw [← h2]; omega⟩⟩
      obtain ⟨k, n', d, l⟩ := i
      rw [n64] at h7
      exact h7.1
theorem own_d {u : List UInt8 → Bool} {k : Int} {n : Nat} {d : List UInt8} {m : Nat} (h : own u k n d m = true) : d = [] ∨ k = 2 ∨ k = 3 := by
  rcases own_kind u k n d m h with rfl | rfl | rfl | rfl | rfl | rfl | rfl
  · left; simp [own] at h; exact h.1
  · left; simp [own] at h; exact h.1
  · right; left; rfl
  · right; right; rfl
  · left; simp [own] at h; exact h.2
  · left; simp [own] at h; exact h.1.2
  · left; simp only [own] at h; simpa using (by simpa using h : (d = [] ∧ m = 0) ∧ _).1.1
mutual
theorem DsM.all {w : World} {B : Nat} {u : List UInt8 → Bool} : ∀ (i : Itm) (vd vl : Value) (vs : List Value), shp u i = true → DsM w B i vd vl vs → ∀ v ∈ vs, ∃ d : List UInt8, w.ownsRow B 5 1 v d.length (Lib.byteCells d) ∧ d.length ≤ (byt i).length
  | .mk k n d l, vd, vl, vs, hs, h => by
    rw [shp, Bool.and_eq_true, Bool.and_eq_true] at hs
    obtain ⟨⟨ho, -⟩, hsl⟩ := hs
    rw [DsM] at h
    obtain ⟨h1, ws, rfl, h3⟩ := h
    intro v hv
    rcases List.mem_cons.1 hv with rfl | hv
    · refine ⟨d, h1, ?_⟩
      rcases own_d ho with rfl | rfl | rfl
      · simp
      · rw [byt]; simp
      · rw [byt]; simp
    · rcases h3 with ⟨rfl, rfl⟩ | ⟨b, o, m, c, h3, h4⟩
      · cases hv
      · obtain ⟨d', k1, k2⟩ := DsL.all l b o ws hsl h4 v hv
        refine ⟨d', k1, Nat.le_trans k2 ?_⟩
        have hl : l = [] ∨ k = 4 ∨ k = 5 := by
          rcases own_kind u k n d l.length ho with rfl | rfl | rfl | rfl | rfl | rfl | rfl
          · left; simp [own] at ho; exact ho.2
          · left; simp [own] at ho; exact ho.2
          · left; simp [own] at ho; exact ho.2
          · left; simp [own] at ho; exact ho.1.2
          · right; left; rfl
          · right; right; rfl
          · left; simp only [own] at ho; simpa using (by simpa using ho : (d = [] ∧ l = []) ∧ _).1.2
        rcases hl with rfl | rfl | rfl
        · simp [byts]
        · rw [byt]; simp
        · rw [byt]; simp
theorem DsL.all {w : World} {B : Nat} {u : List UInt8 → Bool} : ∀ (l : List Itm) (b o : Nat) (ws : List Value), shps u l = true → DsL w B l b o ws → ∀ v ∈ ws, ∃ d : List UInt8, w.ownsRow B 5 1 v d.length (Lib.byteCells d) ∧ d.length ≤ (byts l).flatten.length
  | [], _, _, ws, _, h => by rw [DsL] at h; rw [h]; intro v hv; cases hv
  | i :: r, b, o, ws, hs, h => by
    rw [shps, Bool.and_eq_true] at hs
    rw [DsL] at h
    obtain ⟨vd, vl, vs1, vs2, -, h2, h3, rfl⟩ := h
    intro v hv
    rw [byts, List.flatten_cons, List.length_append]
    rcases List.mem_append.1 hv with hv | hv
    · obtain ⟨d', k1, k2⟩ := DsM.all i vd vl vs1 hs.1 h2 v hv
      exact ⟨d', k1, by omega⟩
    · obtain ⟨d', k1, k2⟩ := DsL.all r b (o + 4) vs2 hs.2 h3 v hv
      exact ⟨d', k1, by omega⟩
end
theorem Asc.bnd {hi : Nat} : ∀ {vs : List Value} {lo : Nat}, Asc lo hi vs → ∀ v ∈ vs, ∀ g, v.ownBlock = some g → lo ≤ g ∧ g < hi
  | [], lo, _, v, hv, _, _ => by cases hv
  | a :: r, lo, h, v, hv, g, hg => by
    rw [Asc] at h
    rcases List.mem_cons.1 hv with rfl | hv
    · rcases h with ⟨h0, -⟩ | ⟨g', h0, h1, h2, -⟩
      · rw [h0] at hg; cases hg
      · rw [h0] at hg
        obtain rfl := Option.some.inj hg
        exact ⟨h1, h2⟩
    · rcases h with ⟨-, h⟩ | ⟨g', -, h1, -, h3⟩
      · exact h.bnd v hv g hg
      · have := h3.bnd v hv g hg
        exact ⟨by omega, this.2⟩
theorem Asc.inj {hi : Nat} : ∀ {vs : List Value} {lo : Nat}, Asc lo hi vs → ∀ (i j : Nat) (v v' : Value), vs[i]? = some v → vs[j]? = some v' → i < j → ∀ g, v.ownBlock = some g → v'.ownBlock ≠ some g
  | [], lo, _, i, j, v, v', hi', _, _, _, _ => by cases hi'
  | a :: r, lo, h, 0, 0, v, v', _, _, hl, _, _ => by omega
  | a :: r, lo, h, 0, j + 1, v, v', h1, h2, _, g, hg => by
    rw [Asc] at h
    obtain rfl := Option.some.inj h1
    have hm : v' ∈ r := List.mem_of_getElem? (show r[j]? = some v' from h2)
    rcases h with ⟨h0, -⟩ | ⟨g', h0, -, -, h3⟩
    · rw [h0] at hg; cases hg
    · rw [h0] at hg
      obtain rfl := Option.some.inj hg
      intro he
      have := h3.bnd v' hm g' he
      omega
  | a :: r, lo, h, i + 1, 0, v, v', _, _, hl, _, _ => by omega
  | a :: r, lo, h, i + 1, j + 1, v, v', h1, h2, hl, g, hg => by
    rw [Asc] at h
    rcases h with ⟨-, h⟩ | ⟨g', -, -, -, h⟩
    · exact h.inj i j v v' h1 h2 (by omega) g hg
    · exact h.inj i j v v' h1 h2 (by omega) g hg
end WI
end Go.Proofs.YtfkgfcggcfkkiaaDoor
namespace Go.Proofs.YtfkgfcggcfkkiaaDoor
open Go.RowKit Go.Sort Go.Deep
namespace WI
variable {T : World → Prop} {u : List UInt8 → Bool}
theorem lentTo_atX (s : ByteArray) : ∀ (k j : Nat) (_ : j < s.data.size), (SP.lentTo s k)[j]! = s.data[j]!
  | 0, j, hj => by rw [SP.lent_front s j hj, getElem!_pos s.data j hj]
  | k + 1, j, hj => by
    have hs : s.data.size = s.size := rfl
    rw [SP.lent_step, getElem!_set_other _ _ _ _ (by omega)]
    exact lentTo_atX s k j hj
theorem lent_pbq {W : World} {k : Nat} {s : ByteArray} (h : Holds SP.encB W k 0 (SP.lent s)) : PBq W W.heap.size (some ⟨k, 0, none⟩) s.size (s.size + 160) s.data.toList := by
  have hlt := SP.Holds.lt h (by rw [SP.lent_size]; omega)
  refine ⟨by rw [Array.length_toList]; rfl, by omega, Or.inr ⟨k, 0, rfl, hlt, hlt, fun j u hj => ?_⟩⟩
  have hj2 : j < s.data.size := by have := (List.getElem?_eq_some_iff.1 hj).1; simpa using this
  have hc := (h j (by rw [SP.lent_size]; show j < s.data.size + 160; omega)).1
  have e : (SP.lent s)[j]! = u := by
    unfold SP.lent
    rw [lentTo_atX s 160 j hj2, getElem!_pos s.data j hj2]
    rw [Array.getElem?_toList, Array.getElem?_eq_getElem hj2] at hj
    exact Option.some.inj hj
  rw [e] at hc
  exact hc
theorem slLentX (k n : Nat) (hn : n ≤ 1048576) (w : World) : (Instr.sliceAt 22 (.slice (some ⟨k, 0, none⟩) (n + 160) (n + 160)) none (some (.int .i64 (n : Int))) none).run Tryd.prog w = .ok (.slice (some ⟨k, 0, none⟩) n (n + 160)) w := by
  have h1 : ¬ (n : Int) < 0 := by omega
  have h2 : (n : Int) ≤ (n : Int) + 160 := by omega
  go_simp
/-- What a caller's bytes, written over, leave alone. -/
structure WpX (g n : Nat) (w3 wr : World) : Prop where
  bl : Below g w3 wr
  sz : wr.heap.size = w3.heap.size
  ot : ∀ k, k ≠ g → wr.heap[k]? = w3.heap[k]?
  hb : ∃ bs : SP.Bs, bs.size = n ∧ Holds SP.encB wr g 0 bs
theorem WpX.set {g n i : Nat} {w3 wr : World} (h : WpX g n w3 wr) (hi : i < n) : WpX g n w3 (wr.setCell ⟨g, i, none⟩ (.int .u8 7)) := by
  obtain ⟨bs, h1, h2⟩ := h.hb
  refine ⟨h.bl.setCell (Nat.le_refl _) _, by rw [World.size_setCell]; exact h.sz, fun k hk => by rw [blk_other wr ⟨g, i, none⟩ _ k hk]; exact h.ot k hk, bs.setIfInBounds i 7, by rw [Array.size_setIfInBounds]; exact h1, ?_⟩
  have := SP.Holds.set h2 (i := i) (by omega) 7
  rw [Nat.zero_add] at this
  exact this
theorem bc_bC (d : List UInt8) : bC d.toArray = Lib.byteCells d := rfl
/-- Apart, of the data of an item in new memory. -/
theorem apart_in {w w' : World} {B : Nat} {i : Itm} {vd vl : Value} {vs : List Value} {hiB : Nat} {e : Value} (hcnt : vs.length ≤ 5000) (hA : Asc B hiB vs) (hAll : ∀ v ∈ vs, ∃ d : List UInt8, w'.ownsRow B 5 1 v d.length (Lib.byteCells d) ∧ d.length ≤ 100000) (hvs : 0 < vs.length) (hB : hiB ≤ w.heap.size) (hBw : B ≤ w.heap.size) (hbw : Below w.heap.size w w') (how : w'.ownsRow w.heap.size 22 1 e vs.length vs) :
    Calls Tryd.prog 12 #[e] w' (fun e w'' => e = .returned (.bool true) ∧ Below B w' w'') := by
  obtain ⟨g, c, rfl, hg1, hg2, hgc⟩ := own_shapeX how hvs
  have hch : ∀ j, ∃ d : List UInt8, j < vs.length → w'.ownsRow B 5 1 (vs.getD j undef) d.length (Lib.byteCells d) ∧ d.length ≤ 100000 := fun j => by
    by_cases hj : j < vs.length
    · obtain ⟨d, h1, h2⟩ := hAll vs[j] (List.getElem_mem hj)
      refine ⟨d, fun _ => ?_⟩
      rw [List.getD_eq_getElem?_getD, List.getElem?_eq_getElem hj]
      exact ⟨h1, h2⟩
    · exact ⟨[], fun h => absurd h hj⟩
  have hget : ∀ j, j < vs.length → vs[j]? = some (vs.getD j undef) := fun j hj => by
    rw [List.getD_eq_getElem?_getD, List.getElem?_eq_getElem hj]; rfl
  refine ApartQ g vs.length c B (some ⟨g, 0, none⟩) (fun j => vs.getD j undef) (fun j => (hch j).choose.toArray) w' hcnt (fun _ => rfl) ⟨fun j hj => hgc j _ (hget j hj), fun _ => hg2, fun j hj he => ?_, fun j j' hj hj' hne g' hg' he => ?_, fun j hj g' hg' => ?_⟩ (fun j hj => ?_) (fun j hj => ?_) (Nat.le_trans hBw hbw.size)
  · have := hA.bnd _ (List.mem_of_getElem? (hget j hj)) g he
    omega
  · rcases Nat.lt_or_gt_of_ne hne with hlt | hlt
    · exact hA.inj j j' _ _ (hget j hj) (hget j' hj') hlt g' hg' he
    · exact hA.inj j' j _ _ (hget j' hj') (hget j hj) hlt g' he hg'
  · have := hA.bnd _ (List.mem_of_getElem? (hget j hj)) g' hg'
    exact ⟨this.1, by have := hbw.size; omega⟩
  · have := ((hch j).choose_spec hj).1
    rw [bc_bC]
    rw [show (hch j).choose.toArray.size = (hch j).choose.length by simp]
    exact this
  · have := ((hch j).choose_spec hj).2
    rw [show (hch j).choose.toArray.size = (hch j).choose.length by simp]
    exact this
set_option maxHeartbeats 2000000 in
set_option maxRecDepth 20000 in
theorem parses_any (hU : UV T u) (s : ByteArray) (w : World) (hT : T w) : Calls Tryd.prog 3 #[.string s] w (RetW (TuR w)) := by
  by_cases hs : (131072 : Int) < (s.size : Int)
  · clear hT
    go_enter Tryd.func3, Tryd.ntmps3
    go_wp2
    go_ret
    exact ⟨_, rfl, rfl, Below.refl _ _⟩
  have h2 := hU.2.1 w hT
  have HT : Hid (∀ X, Below w.heap.size w X → T X) := fun X hX => hU.1 w X hT (fun k hk => hX.block k (by omega))
  have hL := SP.LentJ s w (by omega)
  have hsl := fun X => slLentX w.heap.size s.size (by omega) X
  obtain ⟨i, er, hp⟩ : ∃ i er, Hid (prs u s.data.toList = (i, er)) := ⟨_, _, rfl⟩
  have hkn := hidW (prs_kn u s.data.toList)
  rw [hp.out] at hkn
  clear hT h2
  go_enter Tryd.func3, Tryd.ntmps3
  go_wp2_with fail
  refine hL.mono ?_
  rintro e w1 ⟨rfl, hb1, hH1⟩
  have hlt1 := SP.Holds.lt hH1 (by rw [SP.lent_size]; omega)
  have hc1 := Parse_any hU w1 (some ⟨w.heap.size, 0, none⟩) s.size (s.size + 160) s.data.toList (HT.out w1 hb1) (lent_pbq hH1)
  rw [hp.out] at hc1
  have K1 := hidW (And.intro hb1 (And.intro hH1 hlt1))
  clear hL hb1 hH1 hlt1
  go_wp2_with fail
  refine hc1.mono ?_
  rintro e w2 ⟨v2, rfl, hb2, qd, dl, cd, ql, ml, cl, rfl, hI2⟩
  unfold itv
  obtain ⟨wx, hwx⟩ : ∃ wx, Hid (w2.alloc (.cells #[.int .i64 i.k, .int .u64 (i.n : Int), .slice qd dl cd, .slice ql ml cl] 27) = wx) := ⟨_, rfl⟩
  have hbx : Below w2.heap.size w2 wx := by rw [← hwx.out]; exact alloc_below _ _
  have rx : RowS wx w2.heap.size [.int .i64 i.k, .int .u64 (i.n : Int), .slice qd dl cd, .slice ql ml cl] := by rw [← hwx.out]; exact arow w2 _ _ _ _ _
  have hHx : Holds SP.encB wx w.heap.size 0 (SP.lent s) := SP.Holds.below (SP.Holds.below K1.out.2.1 hb2 K1.out.2.2) hbx (Nat.lt_of_lt_of_le K1.out.2.2 hb2.size)
  have hS := SP.StillJ w.heap.size (SP.lent s) s wx (by omega) hHx rfl
  have K2 : Hid (Below w.heap.size w wx ∧ IMO w1.heap.size wx i (.slice qd dl cd) (.slice ql ml cl) ∧ RowS wx w2.heap.size [.int .i64 i.k, .int .u64 (i.n : Int), .slice qd dl cd, .slice ql ml cl] ∧ Holds SP.encB wx w.heap.size 0 (SP.lent s) ∧ w.heap.size < w1.heap.size ∧ w1.heap.size ≤ w2.heap.size) := ⟨(K1.out.1.trans (hb2.mono K1.out.1.size)).trans (hbx.mono (Nat.le_trans K1.out.1.size hb2.size)), hI2.up hbx, rx, hHx, K1.out.2.2, hb2.size⟩
  clear hc1 hb2 hI2 hbx rx hHx
  go_upto_region 5 with fail
  rw [hwx.out]
  go_wp2_with fail
  refine hS.mono ?_
  rintro e w3 ⟨rfl, hb3⟩
  have K3 : Hid (Below w.heap.size w w3 ∧ IMO w1.heap.size w3 i (.slice qd dl cd) (.slice ql ml cl) ∧ RowS w3 w2.heap.size [.int .i64 i.k, .int .u64 (i.n : Int), .slice qd dl cd, .slice ql ml cl] ∧ WpX w.heap.size (s.size + 160) w3 w3 ∧ w.heap.size < w1.heap.size ∧ w1.heap.size ≤ w2.heap.size) := by
    obtain ⟨h1, h2, h3, h4, h5, h6⟩ := K2.out
    exact ⟨h1.trans (hb3.mono h1.size), h2.up hb3, h3.below hb3, ⟨Below.refl _ _, rfl, fun _ _ => rfl, _, SP.lent_size s, SP.Holds.below h4 hb3 (SP.Holds.lt h4 (by rw [SP.lent_size]; omega))⟩, h5, h6⟩
  clear hS hb3 K2 K1
  go_wp2_with fail
  go_loopg [7] (s.size + 160) (fun gk s7 wr => ∃ i : Nat, i + gk = s.size + 160 ∧ s7 = .int .i64 (i : Int) ∧ Hid (WpX w.heap.size (s.size + 160) w3 wr))
  case atStart => exact ⟨0, by omega, rfl, K3.out.2.2.2.1⟩
  case round =>
    obtain ⟨j, hig, rfl, KM⟩ := hrel
    by_cases hi : j < s.size + 160
    · have hi' : (j : Int) < ((s.size + 160 : Nat) : Int) := by omega
      have hix := fun X => ixB w.heap.size 0 (s.size + 160) (s.size + 160) j hi X
      obtain ⟨bs, h1, h2⟩ := KM.out.hb
      have z1 : wr.frozen? ⟨w.heap.size, j, none⟩ = false := by have := (h2 j (by omega)).2; rw [Nat.zero_add] at this; exact this
      have z2 : wr.cell? ⟨w.heap.size, j, none⟩ = some (SP.encB bs[j]!) := by have := (h2 j (by omega)).1; rw [Nat.zero_add] at this; exact this
      have hlz := World.block_lt_of_cell? _ _ z2
      have KN : Hid (WpX w.heap.size (s.size + 160) w3 (wr.setCell ⟨w.heap.size, j, none⟩ (.int .u8 7))) := KM.out.set hi
      rw [show (0 : Nat) + j = j from Nat.zero_add j] at hix
      clear h2 KM
      go_wp2
      go_roundg (gk - 1)
      case measure => omega
      case rel => exact ⟨j + 1, by omega, rfl, KN⟩
    · have hi' : ¬ (j : Int) < ((s.size + 160 : Nat) : Int) := by omega
      have KR : Hid (Below w.heap.size w wr ∧ IMO w1.heap.size wr i (.slice qd dl cd) (.slice ql ml cl) ∧ RowS wr w2.heap.size [.int .i64 i.k, .int .u64 (i.n : Int), .slice qd dl cd, .slice ql ml cl] ∧ w.heap.size ≤ w1.heap.size) := by
        obtain ⟨h1, h2, h3, h4, h5, h6⟩ := K3.out
        have hsz := KM.out.sz
        exact ⟨h1.trans KM.out.bl, h2.at (by omega) (fun k k1 _ => KM.out.ot k (by omega)), h3.at (by omega) (KM.out.ot _ (by omega)), by omega⟩
      have hR := rParse_any hU wr s (HT.out wr KR.out.1)
      rw [hp.out] at hR
      clear K3 KM
      go_wp2_with fail
      refine hR.mono ?_
      rintro e w5 ⟨v5, rfl, hb5, qd', dl', cd', ql', ml', cl', rfl, hM5⟩
      unfold itv
      obtain ⟨wy, hwy⟩ : ∃ wy, Hid (w5.alloc (.cells #[.int .i64 i.k, .int .u64 (i.n : Int), .slice qd' dl' cd', .slice ql' ml' cl'] 27) = wy) := ⟨_, rfl⟩
      have hby : Below w5.heap.size w5 wy := by rw [← hwy.out]; exact alloc_below _ _
      have ry : RowS wy w5.heap.size [.int .i64 i.k, .int .u64 (i.n : Int), .slice qd' dl' cd', .slice ql' ml' cl'] := by rw [← hwy.out]; exact arow w5 _ _ _ _ _
      obtain ⟨r1, r2, r3, r4⟩ := KR.out
      have hrw : Below wr.heap.size wr wy := hb5.trans (hby.mono hb5.size)
      have ra := r3.below hrw
      have Iy := r2.up hrw
      have KY : Hid (Below w.heap.size w wy ∧ IMO w1.heap.size wy i (.slice qd dl cd) (.slice ql ml cl) ∧ RowS wy w2.heap.size [.int .i64 i.k, .int .u64 (i.n : Int), .slice qd dl cd, .slice ql ml cl] ∧ w.heap.size ≤ w1.heap.size) := ⟨r1.trans (hrw.mono r1.size), Iy, ra, r4⟩
      have hsm : Calls Tryd.prog 11 #[.agg #[.int .i64 i.k, .int .u64 (i.n : Int), .slice qd dl cd, .slice ql ml cl], .agg #[.int .i64 i.k, .int .u64 (i.n : Int), .slice qd' dl' cd', .slice ql' ml' cl']] wy (RetW (SaR wy)) := same_c _ i (Nat.le_refl _) wy qd dl cd ql ml cl qd' dl' cd' ql' ml' cl' Iy.in (hM5.up hby)
      have a0 := ra.cell 0 _ rfl
      have a1 := ra.cell 1 _ rfl
      have a2 := ra.cell 2 _ rfl
      have a3 := ra.cell 3 _ rfl
      have hla := ra.1
      have b0 := ry.cell 0 _ rfl
      have b1 := ry.cell 1 _ rfl
      have b2 := ry.cell 2 _ rfl
      have b3 := ry.cell 3 _ rfl
      have hlb := ry.1
      clear KR r1 r2 r3 r4 hrw ra Iy hR hb5 hM5 hby ry
      go_upto_region 11 with fail
      rw [hwy.out]
      go_wp2_with fail
      refine hsm.mono ?_
      rintro e w6 ⟨v6, rfl, hb6, rfl⟩
      obtain ⟨y1, y2, y3, y4⟩ := KY.out
      have I6 := y2.up hb6
      have r6 := y3.below hb6
      have B6 := hidW (y1.trans (hb6.mono y1.size))
      have hle6 : Hid (w1.heap.size ≤ w6.heap.size ∧ w.heap.size ≤ w1.heap.size) := by
        refine ⟨?_, y4⟩
        obtain ⟨vs, h1, -⟩ := I6
        exact h1.le
      have hin6 := I6.in
      obtain ⟨vs, hA, hD⟩ := I6
      have hD6 := (hD w6 fun _ _ _ => rfl).2
      have hlen := DsM.len _ _ _ _ hD6
      have hml : ml ≤ 1000000 := by
        have h1 := hkn.out.1
        obtain ⟨ki, ni, di, li⟩ := i
        have h2 := len_m hin6
        have h3 := len_cnts li
        rw [cnt] at h1
        omega
      have hvl : vs.length ≤ 5000 := by have h1 := hkn.out.1; omega
      have hls : Calls Tryd.prog 13 #[.agg #[.int .i64 i.k, .int .u64 (i.n : Int), .slice qd dl cd, .slice ql ml cl]] w6 (RetW (LsR w6 vs)) := wlists_c _ i (Nat.le_refl _) w6 w1.heap.size qd dl cd ql ml cl vs hml hin6 hD6 hvl
      have c0 := r6.cell 0 _ rfl
      have c1 := r6.cell 1 _ rfl
      have c2 := r6.cell 2 _ rfl
      have c3 := r6.cell 3 _ rfl
      have hlc := r6.1
      have K6 := hidW (And.intro hA (And.intro hD6 (And.intro hlen hvl)))
      clear y1 y2 y3 y4 hsm hb6 r6 hin6 hA hD hD6 hlen hml hvl KY a0 a1 a2 a3 b0 b1 b2 b3
      go_wp2_with fail
      refine hls.mono ?_
      rintro e w7 ⟨v7, rfl, hb7, how7⟩
      have hap : Calls Tryd.prog 12 #[v7] w7 (fun e w'' => e = .returned (.bool true) ∧ Below w1.heap.size w7 w'') := by
        obtain ⟨hA, hD6, hlen, hvl⟩ := K6.out
        obtain ⟨hshp, hbyt⟩ : shp u i = true ∧ (byt i).length ≤ 65536 := by
          rcases hkn.out.2.2 with h | h
          · rw [h]
            refine ⟨by simp [shp, own, shps], ?_⟩
            rw [byt]
            simp [hd]
          · exact h
        refine apart_in (w := w6) (i := i) (vd := .slice qd dl cd) (vl := .slice ql ml cl) hvl hA (fun v hv => ?_) (by rw [hlen]; exact cnt_pos i) (Nat.le_refl _) hle6.out.1 hb7 how7
        obtain ⟨d, h1, h2⟩ := DsM.all i _ _ _ hshp (DsM.below hb7 _ _ _ _ hD6) v hv
        exact ⟨d, h1, by omega⟩
      have B7 := hidW (B6.out.trans (hb7.mono B6.out.size))
      obtain ⟨q7, c7, hv7⟩ : ∃ q7 c7, v7 = .slice q7 vs.length c7 := by
        obtain ⟨g, c, h, -⟩ := own_shapeX how7 (by have := K6.out.2.2.1; rw [this]; exact cnt_pos i)
        exact ⟨_, _, h⟩
      subst hv7
      have hee : (er == er) = true := by simp
      clear hls hb7 how7 K6 c0 c1 c2 c3
      go_wp2_with fail
      refine hap.mono ?_
      rintro e w8 ⟨rfl, hb8⟩
      have B8 := hidW (B7.out.trans (hb8.mono hle6.out.2))
      clear hap hb8
      go_wp2
      go_ret
      exact ⟨_, rfl, rfl, B8.out⟩
end WI
end Go.Proofs.YtfkgfcggcfkkiaaDoor
namespace Go.Proofs.YtfkgfcggcfkkiaaDoor
open Go.RowKit Go.Sort Go.Deep
namespace WI
/-- A token. -/
structure Tk where
  a : Nat
  ks : List UInt8
  sc : List UInt8
  sg : List UInt8
/-- The item of a token; of tokens. -/
def tkC (t : Tk) : List Itm := [.mk 0 0 [] [], .mk 0 t.a [] [], .mk 0 1 [] [], .mk 2 0 t.ks [], .mk 0 2 [] [], .mk 2 0 t.sc [], .mk 0 3 [] [], .mk 2 0 t.sg []]
def tkI (t : Tk) : Itm := .mk 5 0 [] (tkC t)
def toI (L : List Tk) : Itm := .mk 4 0 [] (L.map tkI)
def tkOk (t : Tk) : Bool := t.ks.length == 8 && (0 < t.sc.length && (t.sc.length ≤ 64 && t.sg.length == 33))
/-- A token in memory, in blocks below B. -/
def TkM (w : World) (B : Nat) (t : Tk) (vk vs vg : Value) : Prop := t.a < 18446744073709551616 ∧ PBb w B vk t.ks ∧ PBb w B vs t.sc ∧ PBb w B vg t.sg ∧ t.ks.length ≤ 4611686018427387904 ∧ t.sc.length ≤ 4611686018427387904 ∧ t.sg.length ≤ 4611686018427387904
theorem TkM.at {w w' : World} {B : Nat} {t : Tk} {vk vs vg : Value} (h : TkM w B t vk vs vg) (hb : ∀ k, k < B → w'.heap[k]? = w.heap[k]?) : TkM w' B t vk vs vg := ⟨h.1, h.2.1.at hb, h.2.2.1.at hb, h.2.2.2.1.at hb, h.2.2.2.2⟩
theorem PBb.form {w : World} {B : Nat} {v : Value} {x : List UInt8} (h : PBb w B v x) : ∃ q c, v = .slice q x.length c ∧ x.length ≤ c := by
  obtain ⟨q, c, h1, h2, -⟩ := h
  exact ⟨q, c, h1, h2⟩
/-- Items' cells, as long as the blocks of P (but the row's own) are as they are. -/
def ICZ (P : Nat → Prop) (w : World) (v : Value) (l : List Itm) (cs : List Value) : Prop := ∀ W : World, (∀ k, P k → k < w.heap.size → v.ownBlock ≠ some k → W.heap[k]? = w.heap[k]?) → IC W w.heap.size l cs
theorem ICZ.at {P : Nat → Prop} {w w' : World} {v : Value} {l : List Itm} {cs : List Value} (h : ICZ P w v l cs) (hs : w.heap.size ≤ w'.heap.size) (hb : ∀ k, P k → k < w.heap.size → w'.heap[k]? = w.heap[k]?) : ICZ P w' v l cs := fun W hW => IC.mono hs (h W fun k h1 h2 h3 => (hW k h1 (by omega) h3).trans (hb k h1 h2))
/-- Some items more. -/
theorem icz_add {P : Nat → Prop} {base j m : Nat} {w1 wx wa : World} {v : Value} {l : List Itm} {cs : List Value} {its : List Itm} {news : List Value} (hown1 : w1.ownsRow base 27 4 v j cs) (hic : ICZ P w1 v l cs) (hP : ∀ k, base ≤ k → P k) (hb : Below w1.heap.size w1 wx) (hI : ∀ W : World, (∀ k, P k → k < wx.heap.size → v.ownBlock ≠ some k → W.heap[k]? = wx.heap[k]?) → IC W wx.heap.size its news) (hm : its.length = m) (hm0 : 0 < m) (hwa : wx.alloc (.cells news.toArray 27) = wa) (hj : j + m ≤ 100000) (hbase : base ≤ w1.heap.size) :
    ∃ q' n' c' W', (Builtin.append_ #[25, 25] 25 #[v, .slice (some ⟨wx.heap.size, 0, none⟩) m m]).run Tryd.prog wa = .ok (.slice q' n' c') W' ∧ W'.ownsRow base 27 4 (.slice q' n' c') (j + m) (cs ++ news) ∧ ICZ P W' (.slice q' n' c') (l ++ its) (cs ++ news) ∧ wx.heap.size ≤ W'.heap.size ∧ Below base wx W' ∧ ∀ k, k < wx.heap.size → v.ownBlock ≠ some k → W'.heap[k]? = wx.heap[k]? := by
  obtain ⟨ii, hi, he⟩ := Option.map_eq_some_iff.1 infoI
  simp only [Prod.mk.injEq] at he
  obtain ⟨g2, g3, g4⟩ := he
  obtain ⟨z, hz, hz2⟩ := Option.map_eq_some_iff.1 g4
  have hsa : wa.heap.size = wx.heap.size + 1 := by rw [← hwa]; exact World.size_alloc _ _
  have hba : Below wx.heap.size wx wa := by rw [← hwa]; exact alloc_below _ _
  have hca : ∀ j u, news[j]? = some u → wa.cell? ⟨wx.heap.size, 0 + j, none⟩ = some u := fun j u hj => by
    rw [← hwa]; exact al_r wx _ _ _ rfl j u hj
  have hIC := hI wx (fun _ _ _ _ => rfl)
  have hnl : news.length = m * 4 := by rw [hIC.len, hm]
  have hone := hIC.one
  have hvw : ∀ g, v.ownBlock = some g → base ≤ g ∧ g < w1.heap.size := fun g hg => ⟨(hown1.lt g hg).1, (hown1.lt g hg).2⟩
  have hs1 := hb.size
  have hown : wa.ownsRow base 27 4 v j cs := own_at hown1 (fun k hk => by
    have := hvw k hk
    rw [hba.block k (by omega), hb.block k this.2])
  obtain ⟨v', W', a1, a2, a3⟩ := it_app (base := base) (W := wa) (v := v) (n := j) (m := m) (c := m) (q := some ⟨wx.heap.size, 0, none⟩) hown hnl (Or.inr ⟨_, _, rfl, hca⟩) hone (by omega) (by omega)
  have hsrc : Src Tryd.prog 4 25 (.slice (some ⟨wx.heap.size, 0, none⟩) m m) m news wa := Src.ofSlice (e' := 27) _ undI ⟨wx.heap.size, 0, none⟩ m m _ hnl (fun j u hj => by rw [addS0]; exact hca j u hj) hone
  have hwh := own_block undI hi hz g2 (by rw [g3]; decide) hown hsrc (by omega) a1
  have hsW : wa.heap.size ≤ W'.heap.size := a3.size
  have hk : ∀ k, k < wx.heap.size → v.ownBlock ≠ some k → W'.heap[k]? = wx.heap[k]? ∧ v'.ownBlock ≠ some k := fun k h2 h3 => by
    refine ⟨?_, ?_⟩
    · rw [a3.block k (by omega) (fun e => h3 e.symm), hba.block k h2]
    · rcases hwh with e | ⟨e, -⟩
      · rw [e]; exact h3
      · rw [e]; intro h'; have := Option.some.inj h'; omega
  obtain ⟨q', n', c', rfl⟩ : ∃ q' n' c', v' = .slice q' n' c' := by
    rcases own_cells a2 with ⟨-, h, -⟩ | ⟨g, cap, h, -⟩
    · exact ⟨_, _, _, h⟩
    · exact ⟨_, _, _, h⟩
  refine ⟨q', n', c', W', a1, a2, fun W hW => ?_, by omega, below_grown (hba.mono (by omega)) a3 (by omega) (fun k hk => (hvw k hk).1), fun k h1 h2 => (hk k h1 h2).1⟩
  refine IC.app (l := l) (m := its) ?_ ?_
  · exact IC.mono (by omega) (hI W fun k h1 h2 h3 => by
      obtain ⟨e1, e2⟩ := hk k h2 h3
      rw [hW k h1 (by omega) e2, e1])
  · exact IC.mono (by omega) (hic W fun k h1 h2 h3 => by
      obtain ⟨e1, e2⟩ := hk k (by omega) h3
      rw [hW k h1 (by omega) e2, e1, hb.block k h2])
/-- What a loop over items keeps, its item in block ob. -/
structure LzI (P : Nat → Prop) (w1 : World) (ob : Nat) (kk : Int) (j : Nat) (l : List Itm) (v : Value) (cs : List Value) (wr : World) : Prop where
  bl : Below ob w1 wr
  row : RowS wr ob [.int .i64 kk, .int .u64 0, .slice none 0 0, v]
  own : wr.ownsRow (ob + 1) 27 4 v j cs
  ic : ICZ P wr v l cs
theorem LzI.start {P : Nat → Prop} {w1 : World} {ob : Nat} {kk : Int} (h : RowS w1 ob [.int .i64 kk, .int .u64 0, .slice none 0 0, .slice none 0 0]) : LzI P w1 ob kk 0 [] (.slice none 0 0) [] w1 := ⟨Below.refl _ _, h, World.ownsRow_nil _ _ _ _, fun W hW => by rw [IC]⟩
theorem LzI.add {P : Nat → Prop} {w1 wr wx wa : World} {ob : Nat} {kk : Int} {j m : Nat} {l : List Itm} {v : Value} {cs : List Value} {its : List Itm} {news : List Value} (L : LzI P w1 ob kk j l v cs wr) (hP : ∀ k, ob + 1 ≤ k → P k) (hPo : ¬ P ob) (hbx : Below wr.heap.size wr wx) (hI : ∀ W : World, (∀ k, P k → k < wx.heap.size → v.ownBlock ≠ some k → W.heap[k]? = wx.heap[k]?) → IC W wx.heap.size its news) (hm : its.length = m) (hm0 : 0 < m) (hwa : wx.alloc (.cells news.toArray 27) = wa) (hj : j + m ≤ 100000) :
    ∃ q' n' c' W', (Builtin.append_ #[25, 25] 25 #[v, .slice (some ⟨wx.heap.size, 0, none⟩) m m]).run Tryd.prog wa = .ok (.slice q' n' c') W' ∧ W'.cell? ⟨ob, 3, none⟩ = some v ∧ W'.frozen? ⟨ob, 3, none⟩ = false ∧ ob < W'.heap.size ∧ ∃ cs', LzI P w1 ob kk (j + m) (l ++ its) (.slice q' n' c') cs' (W'.setCell ⟨ob, 3, none⟩ (.slice q' n' c')) := by
  have hs := L.row.1
  obtain ⟨q', n', c', W', a1, a2, a3, a4, a5, -⟩ := icz_add (wa := wa) L.own L.ic hP hbx hI hm hm0 hwa hj (by omega)
  have hoW : W'.heap[ob]? = wr.heap[ob]? := by rw [a5.block ob (by omega), hbx.block ob hs]
  have hsW : wr.heap.size ≤ W'.heap.size := Nat.le_trans hbx.size a4
  have rW : RowS W' ob [.int .i64 kk, .int .u64 0, .slice none 0 0, v] := L.row.at hsW hoW
  refine ⟨q', n', c', W', a1, rW.cell 3 _ rfl, rW.free 3 (by show 3 < 4; omega), rW.1, cs ++ news, ?_, ?_, ?_, ?_⟩
  · refine Below.setCell (p := ⟨ob, 3, none⟩) ?_ (Nat.le_refl _) _
    exact (L.bl.trans (hbx.mono (by omega))).trans (a5.mono (by omega))
  · exact rW.set 3 (.slice q' n' c') (by show 3 < 4; omega)
  · exact own_at a2 (fun g hg => blk_other _ _ _ _ (by have := (a2.lt g hg).1; show g ≠ ob; omega))
  · exact a3.at (by rw [World.size_setCell]; exact Nat.le_refl _) (fun g h1 h2 => blk_other _ _ _ _ (by show g ≠ ob; intro e; subst e; exact hPo h1))
theorem LzI.sh {P : Nat → Prop} {w1 wr : World} {ob : Nat} {kk : Int} {j : Nat} {l : List Itm} {v : Value} {cs : List Value} (L : LzI P w1 ob kk j l v cs wr) : ∃ q m c, v = .slice q m c := by
  rcases own_cells L.own with ⟨-, h, -⟩ | ⟨g, cap, h, -⟩
  · exact ⟨_, _, _, h⟩
  · exact ⟨_, _, _, h⟩
/-- The item, in any world where P's blocks are as they are (the row's own too). -/
theorem LzI.inm {P : Nat → Prop} {w1 wr : World} {ob : Nat} {kk : Int} {j : Nat} {l : List Itm} {q : Option Addr} {m c : Nat} {cs : List Value} (L : LzI P w1 ob kk j l (.slice q m c) cs wr) (hP : ∀ k, ob + 1 ≤ k → P k) (hl : l.length = j) (hj : j ≤ 100000) (W : World) (hW : ∀ k, P k → k < wr.heap.size → W.heap[k]? = wr.heap[k]?) : m = l.length ∧ ∀ k, InM W wr.heap.size (.mk k 0 [] l) (.slice none 0 0) (.slice q m c) := by
  rcases own_cells L.own with ⟨h0, hv, hc⟩ | ⟨g, cap, hv, h2, h3, h4, h5, h6⟩
  · injection hv with e1 e2 e3
    subst e1 e2 e3
    refine ⟨by omega, fun k => ?_⟩
    rw [InM]
    exact ⟨by decide, by simp, by omega, ⟨none, 0, rfl, Nat.le_refl _, Or.inl rfl⟩, none, 0, by rw [hl, h0], Or.inl (List.length_eq_zero_iff.1 (by omega))⟩
  · injection hv with e1 e2 e3
    subst e1 e2 e3
    refine ⟨hl.symm, fun k => ?_⟩
    rw [InM]
    refine ⟨by decide, by simp, by omega, ⟨none, 0, rfl, Nat.le_refl _, Or.inl rfl⟩, _, c, by rw [hl], Or.inr ⟨g, 0, rfl, h3, IC.inl 0 (L.ic W fun k h1 h2 _ => hW k h1 h2) fun t y ht => ?_⟩⟩
    rw [Nat.zero_add, World.cell?_of_block (a := ⟨g, t, none⟩) (hW g (hP g h2) h3)]
    exact h6 t y ht
end WI
end Go.Proofs.YtfkgfcggcfkkiaaDoor
