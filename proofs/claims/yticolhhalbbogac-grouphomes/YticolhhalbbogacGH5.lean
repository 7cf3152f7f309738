import Derived.Deep.AppendSrc
import Derived.Lib.AppendZeros
import Derived.Deep.LoopGhost
import Derived.Deep.RegionHeld3
import Derived.Lib.LazyBuf
import Derived.RangeFuncNested
import Derived.RangeFuncBound
import Derived.RangeFuncCalls
import Derived.RangeFuncLeaves
import Derived.Shelf.Abstract
import Derived.Shelf.RegionOpen
import Derived.WalkKit
import Derived.OwnWalkIn
import Derived.TacticsInMore
import Derived.LoopNIn
import Derived.LoopIn
import Derived.Sort.Row
import Derived.Deep.Draws
import Derived.Below
import Derived.Deep.OwnRows
import Derived.Test.YticolhhalbbogacRows
import Derived.Deep.QuietTactic
import Derived.StillTailTactics
import Derived.BigRegion
import Derived.BigQuiet
import Derived.WalkSpells
import Derived.WalkLawsBesides
import Derived.Deep.RegionWith
import Derived.KernelRfl
import Derived.Test.YticolhhalbbogacGH4
set_option linter.unusedVariables false
set_option linter.unusedSimpArgs false
namespace Go.Proofs.Yticolhhalbbogac
open Go.RowKit Go.Sort Go.Deep
variable {P : Nat} [NeZero P]
/-- A number's 32 bytes. -/
def bx (n : Nat) : Bs := be32 (n % 18446744073709551616) (n / 18446744073709551616 % 18446744073709551616) (n / 340282366920938463463374607431768211456 % 18446744073709551616) (n / 6277101735386680763835789423207666416102355444464034512896 % 18446744073709551616)
theorem bx_size (n : Nat) : (bx n).size = 32 := by unfold bx; exact be32_size _ _ _ _
def mark (n : Nat) : UInt8 := if n % 2 = 1 then 3 else 2
/-- A point's 33 bytes. -/
def by33 (x y : Fin P) : Bs := if x = 0 ∧ y = 0 then Array.replicate 33 0 else #[mark y.val] ++ bx x.val
theorem Bytes_c (C : Fld P) (x : Fin P) (w : World) : Calls Try.prog 28 #[fv x] w (Ret fun e w' => Below w.heap.size w w' ∧ ∃ g, e = .slice (some ⟨g, 0, none⟩) 32 32 ∧ w.heap.size ≤ g ∧ Holds encB w' g 0 (bx x.val)) :=
  (Bytes_any _ _ w (C.four x)).mono (by
    rintro e w' ⟨v, rfl, hb, g, a, b, c, d, rfl, hg, he, hH⟩
    refine ⟨_, rfl, hb, g, rfl, hg, ?_⟩
    have h2 : fv x = .agg #[.int .u64 ((x.val % 18446744073709551616 : Nat) : Int), .int .u64 ((x.val / 18446744073709551616 % 18446744073709551616 : Nat) : Int), .int .u64 ((x.val / 340282366920938463463374607431768211456 % 18446744073709551616 : Nat) : Int), .int .u64 ((x.val / 6277101735386680763835789423207666416102355444464034512896 % 18446744073709551616 : Nat) : Int)] := rfl
    rw [h2] at he
    simp only [Value.agg.injEq, Array.mk.injEq, List.cons.injEq, Value.int.injEq, true_and, and_true, Int.ofNat_inj] at he
    obtain ⟨rfl, rfl, rfl, rfl⟩ := he
    exact hH)
theorem Odd_c (C : Fld P) (y : Fin P) : Gives 27 #[fv y] (.bool (decide (y.val % 2 = 1))) := fun w =>
  (Odd_any _ _ (C.four y) w).mono (by rintro e w' ⟨v, rfl, hb, rfl⟩; exact ⟨_, rfl, hb, rfl⟩)
theorem info5b : (Try.prog.info? 5).map (fun i => (i.zero, i.size, i.bytes)) = some (some (.int .u8 0), 1, 1) := by kernel_rfl
theorem und23 : Try.prog.underlying 22 = some (.slice 5) := by kernel_rfl
/-- What bytes answers. -/
def BytesR (w : World) (T : Bs) (e : Value) (w' : World) : Prop := ∃ g cap, e = .slice (some ⟨g, 0, none⟩) 33 cap ∧ 33 ≤ cap ∧ w.heap.size ≤ g ∧ g < w'.heap.size ∧ Holds encB w' g 0 T
theorem mk33 (w : World) : (Instr.makeSlice 22 (.int .i64 33) (.int .i64 33)).run Try.prog w = .ok (.slice (some ⟨w.heap.size, 0, none⟩) 33 33) (w.alloc (.cells (madeCells #[.int .u8 0] 33) 5)) :=
  run_make_row' (P := Try.prog) 22 5 (.int .u8 0) 1 und23 info5b rfl .i64 .i64 33 (by decide) (by decide) w
theorem made33 (w : World) (o : Obj) : Holds encB ((w.alloc o).alloc (.cells (madeCells #[.int .u8 0] 33) 5)) (w.heap.size + 1) 0 (Array.replicate 33 0) := by
  have h := Holds.made (enc := encB) (w.alloc o) 5 33 (0 : UInt8)
  rw [World.size_alloc] at h
  exact h
omit [NeZero P] in
theorem pv_words (x y : Fin P) : pv x y = .agg #[.int .u64 ((x.val % 18446744073709551616 : Nat) : Int), .int .u64 ((x.val / 18446744073709551616 % 18446744073709551616 : Nat) : Int), .int .u64 ((x.val / 340282366920938463463374607431768211456 % 18446744073709551616 : Nat) : Int), .int .u64 ((x.val / 6277101735386680763835789423207666416102355444464034512896 % 18446744073709551616 : Nat) : Int), .int .u64 ((y.val % 18446744073709551616 : Nat) : Int), .int .u64 ((y.val / 18446744073709551616 % 18446744073709551616 : Nat) : Int), .int .u64 ((y.val / 340282366920938463463374607431768211456 % 18446744073709551616 : Nat) : Int), .int .u64 ((y.val / 6277101735386680763835789423207666416102355444464034512896 % 18446744073709551616 : Nat) : Int)] := rfl
set_option maxHeartbeats 2000000 in
set_option maxRecDepth 100000 in
theorem bytes_zero (C : Fld P) (x y : Fin P) (hz : x = 0 ∧ y = 0) (w : World) : Calls Try.prog 16 #[pv x y] w (Ret fun e w' => Below w.heap.size w w' ∧ BytesR w (Array.replicate 33 0) e w') := by
  have heq := eqPt_t C (x := x) (y := y) (z := 0) (t := 0) hz
  rw [← zero_pv, pv_words] at heq
  rw [pv_words]
  generalize ((x.val % 18446744073709551616 : Nat) : Int) = a at heq ⊢
  generalize ((x.val / 18446744073709551616 % 18446744073709551616 : Nat) : Int) = b at heq ⊢
  generalize ((x.val / 340282366920938463463374607431768211456 % 18446744073709551616 : Nat) : Int) = c at heq ⊢
  generalize ((x.val / 6277101735386680763835789423207666416102355444464034512896 % 18446744073709551616 : Nat) : Int) = d at heq ⊢
  generalize ((y.val % 18446744073709551616 : Nat) : Int) = p at heq ⊢
  generalize ((y.val / 18446744073709551616 % 18446744073709551616 : Nat) : Int) = q at heq ⊢
  generalize ((y.val / 340282366920938463463374607431768211456 % 18446744073709551616 : Nat) : Int) = r at heq ⊢
  generalize ((y.val / 6277101735386680763835789423207666416102355444464034512896 % 18446744073709551616 : Nat) : Int) = s at heq ⊢
  have hmk := mk33
  generalize hT : (Array.replicate 33 0 : Bs) = T
  go_enter Try.func16, Try.ntmps16
  go_wp2
  go_ret
  have hM := made33 w (.cells #[.int .u64 a, .int .u64 b, .int .u64 c, .int .u64 d, .int .u64 p, .int .u64 q, .int .u64 r, .int .u64 s] 40)
  rw [hT] at hM
  exact ⟨_, rfl, below2 _ _ _, _, 33, rfl, by omega, by omega, by simp, hM⟩
theorem grow33 (w : World) (k g m : Nat) (B : Bs) (hB : B.size = 32) (hc : w.cell? ⟨k, 0, none⟩ = some (.int .u8 (m : Int))) (hH : Holds encB w g 0 B) (hm : m < 256 := by decide) :
    ∃ (w' : World) (cap : Nat), (Builtin.append_ #[22, 22] 22 #[.slice (some ⟨k, 0, none⟩) 1 1, .slice (some ⟨g, 0, none⟩) 32 32]).run Try.prog w = .ok (.slice (some ⟨w.heap.size, 0, none⟩) 33 cap) w' ∧ Below w.heap.size w w' ∧ 33 ≤ cap ∧ w.heap.size < w'.heap.size ∧ Holds encB w' w.heap.size 0 (#[UInt8.ofNat m] ++ B) := by
  obtain ⟨i, hi, hzz⟩ := Option.map_eq_some_iff.1 info5b
  simp only [Prod.mk.injEq] at hzz
  obtain ⟨hz, hs, hb⟩ := hzz
  have hap := run_append_grow (P := Try.prog) w 22 22 5 i (.int .u8 0) und23 hi hz ⟨k, 0, none⟩ 1 1 [.int .u8 (m : Int)] (by rw [hs]; rfl) (fun j v hj => by
      cases j with
      | zero =>
        obtain rfl : Value.int .u8 (m : Int) = v := by simpa using hj
        rw [Addr.add_mid]
        exact hc
      | succ j => simp at hj) ⟨g, 0, none⟩ 32 32 (B.toList.map encB) (by rw [hs, List.length_map, Array.length_toList, hB]) (fun j v hj => by
      have hj' : j < B.size := by
        have := (List.getElem?_eq_some_iff.1 hj).1
        rwa [List.length_map, Array.length_toList] at this
      rw [Addr.add_mid, (hH j hj').1]
      rw [List.getElem?_map, Array.getElem?_toList, Array.getElem?_eq_getElem hj'] at hj
      rw [getElem!_pos B j hj']
      exact hj) (by decide) (by decide) (by rw [hb]; decide)
  refine ⟨_, _, hap, ?_, ?_, ?_, ?_⟩
  · exact (Below.refl _ w).drew.trans (below1 w.drew _)
  · exact grownCap_ge w (1 + 32) 1 5
  · show w.drew.heap.size < (w.drew.alloc _).heap.size
    rw [World.size_alloc]
    exact Nat.lt_succ_self _
  · intro j hj
    have hsz : (#[UInt8.ofNat m] ++ B).size = 33 := by rw [Array.size_append, hB]; rfl
    have hj' : j < 33 := by rw [← hsz]; exact hj
    refine ⟨?_, World.frozen?_alloc_new w.drew _ _ _⟩
    show (w.drew.alloc _).cell? ⟨w.drew.heap.size, 0 + j, none⟩ = _
    rw [Nat.zero_add, World.cell?_alloc_new, getElem!_pos _ j hj, Array.getElem?_append_left (by
      rw [Array.size_append, List.size_toArray, List.size_toArray, List.length_map, Array.length_toList]
      show j < 1 + B.size
      omega)]
    cases j with
    | zero =>
      rw [Array.getElem?_append_left (by simp), Array.getElem_append_left (by simp)]
      show some (Value.int .u8 (m : Int)) = some (encB (UInt8.ofNat m))
      unfold encB
      rw [ub_ofNat, Nat.mod_eq_of_lt hm]
    | succ i =>
      rw [Array.getElem?_append_right (by simp), Array.getElem_append_right (by simp), List.getElem?_toArray, List.getElem?_map, Array.getElem?_toList]
      show Option.map encB B[i]? = some (encB B[i])
      rw [Array.getElem?_eq_getElem (by omega)]
      rfl
theorem keptP (w : World) (a b c d p q r s : Nat) : Kept w w.heap.size [⟨w.heap.size, 0, a, b, c, d⟩, ⟨w.heap.size, 4, p, q, r, s⟩] (w.alloc (.cells #[.int .u64 (a : Int), .int .u64 (b : Int), .int .u64 (c : Int), .int .u64 (d : Int), .int .u64 (p : Int), .int .u64 (q : Int), .int .u64 (r : Int), .int .u64 (s : Int)] 40)) := by
  have F := At8.made w 40 a b c d p q r s rfl
  refine ((Kept.mk1 (below1 w _) (below1 w _).size).cons ?_).cons ?_
  · exact ⟨F.c4, F.c5, F.c6, F.c7, F.fz⟩
  · exact ⟨F.c0, F.c1, F.c2, F.c3, F.fz⟩
set_option maxHeartbeats 4000000 in
set_option maxRecDepth 100000 in
theorem bytes_odd (C : Fld P) (x y : Fin P) (hz : ¬ (x = 0 ∧ y = 0)) (ho : y.val % 2 = 1) (w : World) : Calls Try.prog 16 #[pv x y] w (Ret fun e w' => Below w.heap.size w w' ∧ BytesR w (#[3] ++ bx x.val) e w') := by
  have heq := eqPt_f C (x := x) (y := y) (z := 0) (t := 0) hz
  rw [← zero_pv, pv_words] at heq
  rw [pv_words]
  have hO : ∀ w, Calls Try.prog 27 #[.agg #[.int .u64 ((y.val % 18446744073709551616 : Nat) : Int), .int .u64 ((y.val / 18446744073709551616 % 18446744073709551616 : Nat) : Int), .int .u64 ((y.val / 340282366920938463463374607431768211456 % 18446744073709551616 : Nat) : Int), .int .u64 ((y.val / 6277101735386680763835789423207666416102355444464034512896 % 18446744073709551616 : Nat) : Int)]] w (Ret fun e w' => Below w.heap.size w w' ∧ e = .bool true) := fun w => by
    have h := Odd_c C y w
    rw [decide_eq_true ho] at h
    exact h
  have hBy : ∀ w, Calls Try.prog 28 #[.agg #[.int .u64 ((x.val % 18446744073709551616 : Nat) : Int), .int .u64 ((x.val / 18446744073709551616 % 18446744073709551616 : Nat) : Int), .int .u64 ((x.val / 340282366920938463463374607431768211456 % 18446744073709551616 : Nat) : Int), .int .u64 ((x.val / 6277101735386680763835789423207666416102355444464034512896 % 18446744073709551616 : Nat) : Int)]] w (Ret fun e w' => Below w.heap.size w w' ∧ ∃ g, e = .slice (some ⟨g, 0, none⟩) 32 32 ∧ w.heap.size ≤ g ∧ Holds encB w' g 0 (bx x.val)) := Bytes_c C x
  have hbs := bx_size x.val
  generalize bx x.val = B at hBy hbs ⊢
  generalize x.val % 18446744073709551616 = a at heq hO hBy ⊢
  generalize x.val / 18446744073709551616 % 18446744073709551616 = b at heq hO hBy ⊢
  generalize x.val / 340282366920938463463374607431768211456 % 18446744073709551616 = c at heq hO hBy ⊢
  generalize x.val / 6277101735386680763835789423207666416102355444464034512896 % 18446744073709551616 = d at heq hO hBy ⊢
  generalize y.val % 18446744073709551616 = p at heq hO hBy ⊢
  generalize y.val / 18446744073709551616 % 18446744073709551616 = q at heq hO hBy ⊢
  generalize y.val / 340282366920938463463374607431768211456 % 18446744073709551616 = r at heq hO hBy ⊢
  generalize y.val / 6277101735386680763835789423207666416102355444464034512896 % 18446744073709551616 = s at heq hO hBy ⊢
  have HQ : Hid (∀ w, (binOp .eql 40 _ _).run Try.prog w = _) := heq
  go_enter Try.func16, Try.ntmps16
  go_wp2_with fail
  have KP := keptP w a b c d p q r s
  clear heq
  generalize World.alloc _ _ = W0 at KP ⊢
  generalize hk : w.heap.size = k0 at KP ⊢
  refine (hO _).mono ?_
  rintro e w1 ⟨v, rfl, hb1, rfl⟩
  replace KP := KP.call hb1
  clear hb1 HQ hO
  obtain ⟨xc0, xc1, xc2, xc3, xf⟩ := KP.head
  have zx := KP.head.lt
  go_wp2_with fail
  refine (hBy _).mono ?_
  rintro e w2 ⟨v, rfl, hb2, g, rfl, hg, hH⟩
  have hc : w2.cell? ⟨w1.heap.size, 0, none⟩ = some (.int .u8 3) := by
    rw [hb2.cell (p := ⟨w1.heap.size, 0, none⟩) (by show w1.heap.size < _; rw [World.size_alloc]; omega), World.cell?_alloc_new]
    rfl
  have hle : k0 ≤ w2.heap.size := Nat.le_trans KP.le (Nat.le_trans (by rw [World.size_alloc]; omega) hb2.size)
  have hbl : Hid (Below k0 w w2) := ((KP.alloc _).call hb2).bl
  clear KP hb2 xc0 xc1 xc2 xc3 xf zx hg
  obtain ⟨W3, cp, hap, hb3, hcp, hsz3, hH3⟩ := grow33 w2 w1.heap.size g 3 B hbs hc hH
  generalize w1.heap.size = km at hap ⊢
  go_wp2_with (at_builtin; refine Lib.wpList_append_run _ rfl _ _ 22 22 rfl _ _ rfl rfl _ _ hap ?_)
  go_ret
  refine ⟨_, rfl, ?_, _, cp, rfl, hcp, ?_, hsz3, hH3⟩
  · rw [hk]; exact hbl.out.trans (hb3.mono hle)
  · rw [hk]; exact hle
set_option maxHeartbeats 4000000 in
set_option maxRecDepth 100000 in
theorem bytes_even (C : Fld P) (x y : Fin P) (hz : ¬ (x = 0 ∧ y = 0)) (ho : ¬ y.val % 2 = 1) (w : World) : Calls Try.prog 16 #[pv x y] w (Ret fun e w' => Below w.heap.size w w' ∧ BytesR w (#[2] ++ bx x.val) e w') := by
  have heq := eqPt_f C (x := x) (y := y) (z := 0) (t := 0) hz
  rw [← zero_pv, pv_words] at heq
  rw [pv_words]
  have hO : ∀ w, Calls Try.prog 27 #[.agg #[.int .u64 ((y.val % 18446744073709551616 : Nat) : Int), .int .u64 ((y.val / 18446744073709551616 % 18446744073709551616 : Nat) : Int), .int .u64 ((y.val / 340282366920938463463374607431768211456 % 18446744073709551616 : Nat) : Int), .int .u64 ((y.val / 6277101735386680763835789423207666416102355444464034512896 % 18446744073709551616 : Nat) : Int)]] w (Ret fun e w' => Below w.heap.size w w' ∧ e = .bool false) := fun w => by
    have h := Odd_c C y w
    rw [decide_eq_false ho] at h
    exact h
  have hBy : ∀ w, Calls Try.prog 28 #[.agg #[.int .u64 ((x.val % 18446744073709551616 : Nat) : Int), .int .u64 ((x.val / 18446744073709551616 % 18446744073709551616 : Nat) : Int), .int .u64 ((x.val / 340282366920938463463374607431768211456 % 18446744073709551616 : Nat) : Int), .int .u64 ((x.val / 6277101735386680763835789423207666416102355444464034512896 % 18446744073709551616 : Nat) : Int)]] w (Ret fun e w' => Below w.heap.size w w' ∧ ∃ g, e = .slice (some ⟨g, 0, none⟩) 32 32 ∧ w.heap.size ≤ g ∧ Holds encB w' g 0 (bx x.val)) := Bytes_c C x
  have hbs := bx_size x.val
  generalize bx x.val = B at hBy hbs ⊢
  generalize x.val % 18446744073709551616 = a at heq hO hBy ⊢
  generalize x.val / 18446744073709551616 % 18446744073709551616 = b at heq hO hBy ⊢
  generalize x.val / 340282366920938463463374607431768211456 % 18446744073709551616 = c at heq hO hBy ⊢
  generalize x.val / 6277101735386680763835789423207666416102355444464034512896 % 18446744073709551616 = d at heq hO hBy ⊢
  generalize y.val % 18446744073709551616 = p at heq hO hBy ⊢
  generalize y.val / 18446744073709551616 % 18446744073709551616 = q at heq hO hBy ⊢
  generalize y.val / 340282366920938463463374607431768211456 % 18446744073709551616 = r at heq hO hBy ⊢
  generalize y.val / 6277101735386680763835789423207666416102355444464034512896 % 18446744073709551616 = s at heq hO hBy ⊢
  have HQ : Hid (∀ w, (binOp .eql 40 _ _).run Try.prog w = _) := heq
  go_enter Try.func16, Try.ntmps16
  go_wp2_with fail
  have KP := keptP w a b c d p q r s
  clear heq
  generalize World.alloc _ _ = W0 at KP ⊢
  generalize hk : w.heap.size = k0 at KP ⊢
  refine (hO _).mono ?_
  rintro e w1 ⟨v, rfl, hb1, rfl⟩
  replace KP := KP.call hb1
  clear hb1 HQ hO
  obtain ⟨xc0, xc1, xc2, xc3, xf⟩ := KP.head
  have zx := KP.head.lt
  go_wp2_with fail
  refine (hBy _).mono ?_
  rintro e w2 ⟨v, rfl, hb2, g, rfl, hg, hH⟩
  have hc : w2.cell? ⟨w1.heap.size, 0, none⟩ = some (.int .u8 2) := by
    rw [hb2.cell (p := ⟨w1.heap.size, 0, none⟩) (by show w1.heap.size < _; rw [World.size_alloc]; omega), World.cell?_alloc_new]
    rfl
  have hle : k0 ≤ w2.heap.size := Nat.le_trans KP.le (Nat.le_trans (by rw [World.size_alloc]; omega) hb2.size)
  have hbl : Hid (Below k0 w w2) := ((KP.alloc _).call hb2).bl
  clear KP hb2 xc0 xc1 xc2 xc3 xf zx hg
  obtain ⟨W3, cp, hap, hb3, hcp, hsz3, hH3⟩ := grow33 w2 w1.heap.size g 2 B hbs hc hH
  generalize w1.heap.size = km at hap ⊢
  go_wp2_with (at_builtin; refine Lib.wpList_append_run _ rfl _ _ 22 22 rfl _ _ rfl rfl _ _ hap ?_)
  go_ret
  refine ⟨_, rfl, ?_, _, cp, rfl, hcp, ?_, hsz3, hH3⟩
  · rw [hk]; exact hbl.out.trans (hb3.mono hle)
  · rw [hk]; exact hle
theorem bytes_c (C : Fld P) (x y : Fin P) (w : World) : Calls Try.prog 16 #[pv x y] w (Ret fun e w' => Below w.heap.size w w' ∧ BytesR w (by33 x y) e w') := by
  unfold by33 mark
  by_cases hz : x = 0 ∧ y = 0
  · rw [if_pos hz]
    exact bytes_zero C x y hz w
  · rw [if_neg hz]
    by_cases ho : y.val % 2 = 1
    · rw [if_pos ho]
      exact bytes_odd C x y hz ho w
    · rw [if_neg ho]
      exact bytes_even C x y hz ho w
end Go.Proofs.Yticolhhalbbogac
namespace Go.Proofs.Yticolhhalbbogac
open Go.RowKit Go.Sort Go.Deep
theorem u23 : (Try.prog.underlying 22).map (·.isRow) = some false := by kernel_rfl
theorem at46 (k o n c i : Nat) (hi : i < n) (w : World) : (Instr.indexAt 34 (.slice (some ⟨k, o, none⟩) n c) (.int .i64 (i : Int))).run Try.prog w = .ok (.pointer (some ⟨k, o + i, none⟩)) w := by
  have h1 : ¬ (i : Int) < 0 := by omega
  have h2 : (i : Int) < n := by omega
  go_simp
theorem mk112 (N : Nat) (hN : N ≤ 512) : ∃ C0 : List Value, C0.length = 8 * N ∧ ∀ w : World, (Instr.makeSlice 44 (.int .i64 (N : Int)) (.int .i64 (N : Int))).run Try.prog w = .ok (.slice (some ⟨w.heap.size, 0, none⟩) N N) (w.alloc (.cells C0.toArray 40)) := by
  have hu : Try.prog.underlying 44 = some (.slice 40) := by kernel_rfl
  have hi : (Try.prog.info? 40).map (fun i => (i.size, decide (i.bytes ≤ 4000), i.zero.isSome)) = some (8, true, true) := by kernel_rfl
  obtain ⟨i, hi1, hi2⟩ := Option.map_eq_some_iff.1 hi
  simp only [Prod.mk.injEq, decide_eq_true_eq] at hi2
  obtain ⟨h1, h2, h3⟩ := hi2
  obtain ⟨z, hz⟩ := Option.isSome_iff_exists.1 h3
  refine ⟨(madeCells z.cells (N * 8)).toList, by rw [Array.length_toList, size_madeCells, Nat.mul_comm], fun w => ?_⟩
  have hb : (i.bytes : Int) * (N : Int) ≤ 281474976710656 := by
    have : i.bytes * N ≤ 4000 * 512 := Nat.mul_le_mul h2 hN
    have h5 : ((i.bytes * N : Nat) : Int) ≤ 281474976710656 := by omega
    rwa [Int.natCast_mul] at h5
  have := run_make (P := Try.prog) w 44 40 i z hu hi1 hz .i64 .i64 (N : Int) (N : Int) (by omega) (by omega) hb (by omega)
  rw [Int.toNat_natCast, h1] at this
  rw [Array.toArray_toList]
  exact this
theorem mk82 (N : Nat) (hN : N ≤ 512) : ∃ C0 : List Value, C0.length = 4 * N ∧ ∀ w : World, (Instr.makeSlice 53 (.int .i64 (N : Int)) (.int .i64 (N : Int))).run Try.prog w = .ok (.slice (some ⟨w.heap.size, 0, none⟩) N N) (w.alloc (.cells C0.toArray 38)) := by
  have hu : Try.prog.underlying 53 = some (.slice 38) := by kernel_rfl
  have hi : (Try.prog.info? 38).map (fun i => (i.size, decide (i.bytes ≤ 4000), i.zero.isSome)) = some (4, true, true) := by kernel_rfl
  obtain ⟨i, hi1, hi2⟩ := Option.map_eq_some_iff.1 hi
  simp only [Prod.mk.injEq, decide_eq_true_eq] at hi2
  obtain ⟨h1, h2, h3⟩ := hi2
  obtain ⟨z, hz⟩ := Option.isSome_iff_exists.1 h3
  refine ⟨(madeCells z.cells (N * 4)).toList, by rw [Array.length_toList, size_madeCells, Nat.mul_comm], fun w => ?_⟩
  have hb : (i.bytes : Int) * (N : Int) ≤ 281474976710656 := by
    have : i.bytes * N ≤ 4000 * 512 := Nat.mul_le_mul h2 hN
    have h5 : ((i.bytes * N : Nat) : Int) ≤ 281474976710656 := by omega
    rwa [Int.natCast_mul] at h5
  have := run_make (P := Try.prog) w 53 38 i z hu hi1 hz .i64 .i64 (N : Int) (N : Int) (by omega) (by omega) hb (by omega)
  rw [Int.toNat_natCast, h1] at this
  rw [Array.toArray_toList]
  exact this
/-- Rows of sz cells: m of them are there. -/
structure Rows (sz N : Nat) (cell : Nat → List Value) (m : Nat) (C : List Value) : Prop where
  len : C.length = sz * N
  row : ∀ j r, j < m → r < sz → C[sz * j + r]? = (cell j)[r]?
theorem Rows.next {sz N m : Nat} {cell : Nat → List Value} {C : List Value} (h : Rows sz N cell m C) (hm : m < N) (hc : (cell m).length = sz) : Rows sz N cell (m + 1) (RG.rep C (0 + sz * m) (cell m)) := by
  have hlen := h.len
  have hb : sz * m + sz ≤ sz * N := by rw [← Nat.mul_succ]; exact Nat.mul_le_mul_left _ hm
  have hl : 0 + sz * m + (cell m).length ≤ C.length := by rw [hc]; omega
  refine ⟨by rw [RG.rep_length hl]; exact hlen, fun j r hj hr => ?_⟩
  rw [RG.rep_at hl]
  by_cases hjm : j = m
  · subst hjm
    rw [if_pos (by rw [hc]; omega), show sz * j + r - (0 + sz * j) = r by omega]
  · have h2 : sz * j + sz ≤ sz * m := by rw [← Nat.mul_succ]; exact Nat.mul_le_mul_left _ (by omega)
    rw [if_neg (by rw [hc]; omega)]
    exact h.row j r (by omega) hr
/-- Bytes as a number of the order. -/
def rq (N : Nat) (bs : Bs) : Option Nat := if bs.size = 32 ∧ beV bs.toList < N then some (beV bs.toList) else none
def rqV : Option Nat → Value
  | none => .tuple #[nv 0, .bool false]
  | some n => .tuple #[nv n, .bool true]
theorem Scalars_c : Gives 41 #[] gv1 := fun w => (Scalars_any w).mono (by rintro e w' ⟨rfl, rfl⟩; exact ⟨_, rfl, below1 _ _, rfl⟩)
theorem readQ_c {N : Nat} (hG : Gap 4624529908474429119 4994812053365940164 1 N) (v : Value) (bs : Bs) (w : World) (hv : Arg w v bs) : Calls Try.prog 30 #[gv1, v] w (Ret fun e w' => Below w.heap.size w w' ∧ e = rqV (rq N bs)) := by
  obtain ⟨p, n, cap, rfl, hs, h1⟩ := hv
  unfold rq
  by_cases hn : n = 32
  · subst hn
    obtain ⟨g, o, rfl, h4, h6, h7⟩ := h1 rfl
    refine (Read_any _ _ _ N g o cap bs hG w hs h4 h6 h7).mono ?_
    rintro e w' ⟨v, rfl, hb, ⟨hl, v', rfl, h8⟩ | ⟨hl, rfl⟩⟩
    · rw [if_pos ⟨hs, hl⟩]
      exact ⟨_, rfl, hb, by rw [h8.nv]; rfl⟩
    · rw [if_neg (fun h => by omega)]
      exact ⟨_, rfl, hb, rfl⟩
  · refine (Read_len _ p n cap w _ _ _ rfl hn).mono ?_
    rintro e w' ⟨v, rfl, hb, rfl⟩
    rw [if_neg (fun h => hn (hs.symm.trans h.1))]
    exact ⟨_, rfl, hb, rfl⟩
end Go.Proofs.Yticolhhalbbogac
namespace Go.Proofs.Yticolhhalbbogac
open Go.RowKit Go.Sort
variable {P : Nat} [NeZero P]
def F72a_0 (x : Fin P) : List RG.It := [.x 2 [] (.slice none 0 0), .x 3 [] (.int .i64 0)]
def F72a_1 (q : Option Addr) (n cap : Nat) (x : Fin P) : List RG.It := [.x 9 [] (.slice q n cap), .x 10 [(9, 0)] (.int .i64 (n : Int)), ⟨some 11, [(10, 1)], (.s 0 n n), .make 0⟩, .s 4 [(11, 2)] (.s 0 n n)]
def F72a_2 (q : Option Addr) (n cap : Nat) (x : Fin P) : List RG.It := [.x 12 [] (.slice q n cap), .x 13 [(12, 0)] (.int .i64 (n : Int)), .x 14 [] (.int .i64 0)]
def F72b_3 (x : Fin P) : List RG.It := [.x 15 [] (.bool true)]
def F72b_4 (gg i : Nat) (v : Value) (x : Fin P) : List RG.It := [.x 16 [] (.int .i64 (i : Int)), .x 17 [] (.pointer (some ⟨gg, (0 + i), none⟩)), .x 18 [(17, 1)] v, .x 5 [(16, 0)] (.int .i64 (i : Int)), .x 6 [(18, 2)] v]
def F72b_5 (m : Nat) (v : Value) (x y : Fin P) : List RG.It := [.x 20 [] v, .c 21 [(20, 0)] (.tuple #[(pv x y), (.bool true)]), .x 19 [(21, 1)] (.tuple #[(pv x y), (.bool true)]), .x 22 [(19, 2)] (pv x y), .x 23 [(19, 2)] (.bool true), .m 7 [] 1, .u [(7, 5), (22, 3)] 1, .x 8 [(23, 4)] (.bool true)]
def F72b_6 (x : Fin P) : List RG.It := [.x 24 [] (.bool true), .x 25 [(24, 0)] (.bool false)]
def F72b_8 (n i : Nat) (x y : Fin P) : List RG.It := [.s 26 [] (.s 0 n n), .x 27 [] (.int .i64 (i : Int)), .x 28 [] (pv x y), .s 29 [(26, 0), (27, 1)] (.p 0 (0 + 8 * i)), .u [(29, 3), (28, 2)] 0]
def F72b_9 (i : Nat) (x : Fin P) : List RG.It := [.x 30 [] (.int .i64 ((i + 1 : Nat) : Int)), .x 14 [(30, 0)] (.int .i64 ((i + 1 : Nat) : Int))]
def F72f_3 (x : Fin P) : List RG.It := [.x 15 [] (.bool true)]
def F72f_4 (gg i : Nat) (v : Value) (x : Fin P) : List RG.It := [.x 16 [] (.int .i64 (i : Int)), .x 17 [] (.pointer (some ⟨gg, (0 + i), none⟩)), .x 18 [(17, 1)] v, .x 5 [(16, 0)] (.int .i64 (i : Int)), .x 6 [(18, 2)] v]
def F72f_5 (m : Nat) (v : Value) (x : Fin P) : List RG.It := [.x 20 [] v, .c 21 [(20, 0)] (.tuple #[(pv (0 : Fin P) (0 : Fin P)), (.bool false)]), .x 19 [(21, 1)] (.tuple #[(pv (0 : Fin P) (0 : Fin P)), (.bool false)]), .x 22 [(19, 2)] (pv (0 : Fin P) (0 : Fin P)), .x 23 [(19, 2)] (.bool false), .m 7 [] 1, .u [(7, 5), (22, 3)] 1, .x 8 [(23, 4)] (.bool false)]
def F72f_6 (x : Fin P) : List RG.It := [.x 24 [] (.bool false), .x 25 [(24, 0)] (.bool true)]
def F72f_7 (x : Fin P) : List RG.It := [.x 2 [] (.slice none 0 0), .x 3 [] (.int .i64 4)]
def F72e_3 (x : Fin P) : List RG.It := [.x 15 [] (.bool false)]
def F72e_10 (n : Nat) (x : Fin P) : List RG.It := [.s 31 [] (.s 0 n n), .s 2 [(31, 0)] (.s 0 n n), .x 3 [] (.int .i64 0)]
/-- A list of arguments in a block. -/
def ArgsPts (w : World) (q : Option Addr) (n : Nat) (L : Nat → Bs) : Prop := 0 < n → ∃ gg, q = some ⟨gg, 0, none⟩ ∧ gg < w.heap.size ∧ ∀ j, j < n → ∃ v, w.cell? ⟨gg, j, none⟩ = some v ∧ Arg33 w v (L j)
def PtsR (P : Nat) [NeZero P] (w : World) (n : Nat) (L : Nat → Bs) (e : Value) (w' : World) : Prop :=
  (∃ k, w.heap.size ≤ k ∧ k < w'.heap.size ∧ e = .tuple #[.slice (some ⟨k, 0, none⟩) n n, .int .i64 0] ∧ ∀ j, j < n → ∃ p, rd P (L j) = some p ∧ w'.rangeAt k (8 * j) (ws p.1 ++ ws p.2)) ∨
  ((∃ j, j < n ∧ rd P (L j) = none) ∧ e = .tuple #[.slice none 0 0, .int .i64 4])
set_option maxHeartbeats 4000000 in
set_option maxRecDepth 100000 in
theorem Pts_c (F : Fld P) (n cap : Nat) (hn : n ≤ 512) (q : Option Addr) (L : Nat → Bs) (w : World) (hA : ArgsPts w q n L) : Calls Try.prog 18 #[.slice q n cap] w (Ret fun e w' => Below w.heap.size w w' ∧ PtsR P w n L e w') := by
  obtain ⟨C, hCl, hmk⟩ := mk112 n hn
  obtain ⟨i, -⟩ : ∃ i : Nat, i = 0 := ⟨_, rfl⟩
  obtain ⟨gg, -⟩ : ∃ i : Nat, i = 0 := ⟨_, rfl⟩
  obtain ⟨m, -⟩ : ∃ i : Nat, i = 0 := ⟨_, rfl⟩
  obtain ⟨v, -⟩ : ∃ v : Value, v = .bool true := ⟨_, rfl⟩
  obtain ⟨x, -⟩ : ∃ x : Fin P, x = 0 := ⟨_, rfl⟩
  obtain ⟨y, -⟩ : ∃ x : Fin P, x = 0 := ⟨_, rfl⟩
  obtain ⟨C2, -⟩ : ∃ c : List Value, c = C := ⟨_, rfl⟩
  go_enter Try.func18, Try.ntmps18
  refine RG.var1 (v0 := .slice q n cap) (n := 32) (by kernel_rfl) (by kernel_rfl) (by kernel_rfl) ?_
  intro a0 sl0 f0
  have hS0 := RG.St.begin w
  have M0 : RG.M w w.heap.size [] 32 [] [] [(0, (.v (.slice q n cap)))] a0 _ := ⟨hS0, sl0, ⟨f0, trivial⟩⟩
  repeat refine wp_seq ?_
  refine M0.tx0 (F72a_0 x) [(0, (.v (.slice q n cap))), (2, (.v (.slice none 0 0))), (3, (.v (.int .i64 0)))] (by kernel_rfl) ⟨RG.st fun _ _ => by kernel_rfl, RG.st fun _ _ => by kernel_rfl, trivial⟩ ?_
  intro a1 w1 M1
  repeat refine wp_seq ?_
  refine M1.tx (F72a_1 q n cap x) [(2, C)] [] [C] [(0, (.v (.slice q n cap))), (2, (.v (.slice none 0 0))), (3, (.v (.int .i64 0))), (4, (.s 0 n n))] (by kernel_rfl) (by kernel_rfl) ⟨RG.st fun _ _ => by kernel_rfl, RG.cert_one rfl 9 (.v (.slice q n cap)) (.int .i64 (n : Int)) rfl (RG.sx fun _ => by kernel_rfl) (fun a w => by kernel_rfl) (fun μ w => by kernel_rfl), RG.cert_makes 0 rfl _ rfl 44 40 10 10 n rfl rfl (RG.sx fun _ => by kernel_rfl) (RG.sx fun _ => by kernel_rfl) (hmk), RG.st fun _ _ => by kernel_rfl, trivial⟩ ?_
  intro j2 a2 w2 M2
  repeat refine wp_seq ?_
  refine M2.tx0 (F72a_2 q n cap x) [(2, (.v (.slice none 0 0))), (3, (.v (.int .i64 0))), (4, (.s 0 n n)), (12, (.v (.slice q n cap))), (13, (.v (.int .i64 (n : Int)))), (14, (.v (.int .i64 0)))] (by kernel_rfl) ⟨RG.st fun _ _ => by kernel_rfl, RG.cert_one rfl 12 (.v (.slice q n cap)) (.int .i64 (n : Int)) rfl (RG.sx fun _ => by kernel_rfl) (fun a w => by kernel_rfl) (fun μ w => by kernel_rfl), RG.st fun _ _ => by kernel_rfl, trivial⟩ ?_
  intro a3 w3 M3
  have hS3 : RG.St w w.heap.size [] [C] [j2] _ := M3.st
  have sl3 := M3.sl
  have f2_3 : a3.tmps[2]? = some (.slice none 0 0) := M3.at (s := (.v (.slice none 0 0))) (by kernel_rfl)
  have f3_3 : a3.tmps[3]? = some (.int .i64 0) := M3.at (s := (.v (.int .i64 0))) (by kernel_rfl)
  have f4_3 : a3.tmps[4]? = some (.slice (some ⟨j2, 0, none⟩) n n) := M3.at (s := (.s 0 n n)) (by kernel_rfl)
  have f12_3 : a3.tmps[12]? = some (.slice q n cap) := M3.at (s := (.v (.slice q n cap))) (by kernel_rfl)
  have f13_3 : a3.tmps[13]? = some (.int .i64 (n : Int)) := M3.at (s := (.v (.int .i64 (n : Int)))) (by kernel_rfl)
  have f14_3 : a3.tmps[14]? = some (.int .i64 0) := M3.at (s := (.v (.int .i64 0))) (by kernel_rfl)
  repeat refine wp_seq ?_
  refine wp_block ?_
  refine wp_loop_ghost (fun m a wr => ∃ (i : Nat) (C : List Value), i + m = n ∧ (∀ j, j < i → (rd P (L j)).isSome = true) ∧ Rows 8 n (fun j => match rd P (L j) with | some p => ws p.1 ++ ws p.2 | none => []) i C ∧ RG.Sl a 32 ∧ a.tmps[4]? = some (.slice (some ⟨j2, 0, none⟩) n n) ∧ a.tmps[12]? = some (.slice q n cap) ∧ a.tmps[13]? = some (.int .i64 (n : Int)) ∧ a.tmps[14]? = some (.int .i64 (i : Int)) ∧ RG.St w w.heap.size [] [C] [j2] wr) n ⟨0, C, by omega, fun j hj => by omega, ⟨hCl, fun j r hj => by omega⟩, sl3, f4_3, f12_3, f13_3, f14_3, hS3⟩ ?_
  intro m' a wr
  rintro ⟨i, C, him, hall, hR, sl, p4, p12, p13, p14, hSp⟩
  generalize j2 = kt at p4 hSp
  by_cases hi : i < n
  · obtain ⟨gg, hqe, hgg, hc⟩ := hA (by omega)
    rw [hqe] at p12
    obtain ⟨v, hv, harg⟩ := hc i hi
    have hcell : w.cell? ⟨gg, 0 + i, none⟩ = some v := by rw [Nat.zero_add]; exact hv
    cases hrdv : rd P (L i) with
    | some pp =>
      obtain ⟨x, y⟩ := pp
      have hrd : ∀ w', RG.BelX w.heap.size [] w w' → Calls Try.prog 17 #[v] w' (Ret fun e w'' => Below w'.heap.size w' w'' ∧ e = .tuple #[pv x y, .bool true]) := fun w' hb => by
        have := readPoint_c F v (L i) w' (harg.below hb.below)
        rw [hrdv] at this
        exact this
      have hlen := hR.len
      have hoff : 0 + 8 * i + (ws x ++ ws y).length ≤ C.length := by rw [hlen]; show 0 + 8 * i + 8 ≤ 8 * n; omega
      obtain ⟨C2, hC2e⟩ : ∃ c, RG.rep C (0 + 8 * i) (ws x ++ ws y) = c := ⟨_, rfl⟩
      have hC2 := hC2e ▸ RG.rep_at hoff
      have hcl : C2.length = C.length := hC2e ▸ RG.rep_length hoff
      have hR2 : Rows 8 n (fun j => match rd P (L j) with | some p => ws p.1 ++ ws p.2 | none => []) (i + 1) C2 := by
        have := hR.next hi (by show List.length (match rd P (L i) with | some p => _ | none => _) = _; rw [hrdv]; rfl)
        rw [← hC2e]
        have e : (fun j => match rd P (L j) with | some p => ws p.1 ++ ws p.2 | none => []) i = (ws x ++ ws y) := by show (match rd P (L i) with | some p => _ | none => _) = _; rw [hrdv]
        rw [← e]
        exact this
      have M10 : RG.M w w.heap.size [] 32 [C] [kt] [(4, (.s 0 n n)), (12, (.v (.slice (some ⟨gg, 0, none⟩) n cap))), (13, (.v (.int .i64 (n : Int)))), (14, (.v (.int .i64 (i : Int))))] a _ := ⟨hSp, sl, ⟨p4, p12, p13, p14, trivial⟩⟩
      repeat refine wp_seq ?_
      refine M10.tx0 (F72b_3 x) [(4, (.s 0 n n)), (12, (.v (.slice (some ⟨gg, 0, none⟩) n cap))), (13, (.v (.int .i64 (n : Int)))), (14, (.v (.int .i64 (i : Int)))), (15, (.v (.bool true)))] (by kernel_rfl) ⟨RG.cert_bin rfl .lss 3 3 14 13 (.int .i64 (i : Int)) (.int .i64 (n : Int)) (.bool true) rfl rfl (RG.sx fun _ => by kernel_rfl) (RG.sx fun _ => by kernel_rfl) (fun w => by kernel_rfl) (lssn_t hi), trivial⟩ ?_
      intro a11 w11 M11
      repeat refine wp_seq ?_
      refine wp_cond_true (M11.ev (by kernel_rfl)) ?_
      refine wp_skip ?_
      refine wp_seq ?_
      refine wp_block ?_
      repeat refine wp_seq ?_
      refine M11.tx0 (F72b_4 gg i v x) [(4, (.s 0 n n)), (5, (.v (.int .i64 (i : Int)))), (6, (.v v)), (12, (.v (.slice (some ⟨gg, 0, none⟩) n cap))), (13, (.v (.int .i64 (n : Int)))), (14, (.v (.int .i64 (i : Int))))] (by kernel_rfl) ⟨RG.st fun _ _ => by kernel_rfl, RG.cert_idx rfl 34 12 14 rfl (.v (.slice (some ⟨gg, 0, none⟩) n cap)) (.int .i64 (i : Int)) (RG.sx fun _ => by kernel_rfl) (RG.sx fun _ => by kernel_rfl) (fun μ w => at46 _ 0 _ _ i hi w), RG.cert_load1B rfl gg (0 + i) hgg List.not_mem_nil 22 17 rfl v rfl (RG.sx fun _ => by kernel_rfl) hcell u23, RG.st fun _ _ => by kernel_rfl, RG.st fun _ _ => by kernel_rfl, trivial⟩ ?_
      intro a12 w12 M12
      repeat refine wp_seq ?_
      refine M12.tx (F72b_5 m v x y) [(5, (RG.z 8))] [(1, 6, (ws x ++ (ws y)))] [C, (ws x ++ (ws y))] [(4, (.s 0 n n)), (5, (.v (.int .i64 (i : Int)))), (7, (.p 1 0)), (8, (.v (.bool true))), (12, (.v (.slice (some ⟨gg, 0, none⟩) n cap))), (13, (.v (.int .i64 (n : Int)))), (14, (.v (.int .i64 (i : Int))))] (by kernel_rfl) (by kernel_rfl) ⟨RG.st fun _ _ => by kernel_rfl, RG.cert_callB1 rfl 17 20 v (.tuple #[(pv x y), (.bool true)]) rfl (fun a w => by kernel_rfl) (RG.sx fun _ => by kernel_rfl) hrd, RG.st fun _ _ => by kernel_rfl, RG.st fun _ _ => by kernel_rfl, RG.st fun _ _ => by kernel_rfl, RG.mk 1 40 fun _ _ => by kernel_rfl, RG.pt i109 (by kernel_rfl), RG.st fun _ _ => by kernel_rfl, trivial⟩ ?_
      intro j13 a13 w13 M13
      repeat refine wp_seq ?_
      refine M13.tx0 (F72b_6 x) [(4, (.s 0 n n)), (5, (.v (.int .i64 (i : Int)))), (7, (.p 1 0)), (12, (.v (.slice (some ⟨gg, 0, none⟩) n cap))), (13, (.v (.int .i64 (n : Int)))), (14, (.v (.int .i64 (i : Int)))), (25, (.v (.bool false)))] (by kernel_rfl) ⟨RG.st fun _ _ => by kernel_rfl, RG.st fun _ _ => by kernel_rfl, trivial⟩ ?_
      intro a14 w14 M14
      repeat refine wp_seq ?_
      refine wp_cond_false (M14.ev (by kernel_rfl)) ?_
      refine wp_skip ?_
      repeat refine wp_seq ?_
      refine M14.tx (F72b_8 n i x y) [] [(0, 4, C2)] [C2, (ws x ++ (ws y))] [(4, (.s 0 n n)), (12, (.v (.slice (some ⟨gg, 0, none⟩) n cap))), (13, (.v (.int .i64 (n : Int)))), (14, (.v (.int .i64 (i : Int))))] (by kernel_rfl) (congrArg (fun n => [n]) hcl) ⟨RG.st fun _ _ => by kernel_rfl, RG.st fun _ _ => by kernel_rfl, RG.ld u109 i109 (by kernel_rfl), RG.cert_idx rfl 44 26 27 rfl (.s 0 n n) (.int .i64 (i : Int)) (RG.sx fun _ => by kernel_rfl) (RG.sx fun _ => by kernel_rfl) (fun μ w => at112 _ 0 _ _ i hi w), RG.cert_putAt 0 (0 + 8 * i) rfl _ rfl 40 (.tmp 29) (.tmp 28) (ws x ++ ws y) rfl rfl (RG.sx fun _ => by kernel_rfl) (RG.sx fun _ => by kernel_rfl) hoff hC2 i109 rfl, trivial⟩ ?_
      intro a15 w15 M15
      repeat refine wp_seq ?_
      refine M15.tx0 (F72b_9 i x) [(4, (.s 0 n n)), (12, (.v (.slice (some ⟨gg, 0, none⟩) n cap))), (13, (.v (.int .i64 (n : Int)))), (14, (.v (.int .i64 ((i + 1 : Nat) : Int))))] (by kernel_rfl) ⟨RG.cert_binc rfl .add 3 3 14 (.int .i64 (i : Int)) (.int .i64 1) (.int .i64 ((i + 1 : Nat) : Int)) rfl rfl (RG.sx fun _ => by kernel_rfl) (fun w => by kernel_rfl) (addn i 1 (by omega) (by omega)), RG.st fun _ _ => by kernel_rfl, trivial⟩ ?_
      intro a16 w16 M16
      have hS16 : RG.St w w.heap.size [] [C2, (ws x ++ (ws y))] [kt, j13] _ := M16.st
      have sl16 := M16.sl
      have f4_16 : a16.tmps[4]? = some (.slice (some ⟨kt, 0, none⟩) n n) := M16.at (s := (.s 0 n n)) (by kernel_rfl)
      have f12_16 : a16.tmps[12]? = some (.slice (some ⟨gg, 0, none⟩) n cap) := M16.at (s := (.v (.slice (some ⟨gg, 0, none⟩) n cap))) (by kernel_rfl)
      have f13_16 : a16.tmps[13]? = some (.int .i64 (n : Int)) := M16.at (s := (.v (.int .i64 (n : Int)))) (by kernel_rfl)
      have f14_16 : a16.tmps[14]? = some (.int .i64 ((i + 1 : Nat) : Int)) := M16.at (s := (.v (.int .i64 ((i + 1 : Nat) : Int)))) (by kernel_rfl)
      show ∃ n', _
      exact ⟨m' - 1, by omega, i + 1, C2, by omega, fun j hj => (by
        by_cases hji : j = i
        · rw [hji, hrdv]; rfl
        · exact hall j (by omega)), hR2, sl16, f4_16, (by rw [hqe]; exact f12_16), f13_16, f14_16, RG.St.init (cs := [C2]) (ks := [kt]) hS16⟩
    | none =>
      have hrd : ∀ w', RG.BelX w.heap.size [] w w' → Calls Try.prog 17 #[v] w' (Ret fun e w'' => Below w'.heap.size w' w'' ∧ e = .tuple #[pv (0 : Fin P) 0, .bool false]) := fun w' hb => by
        have := readPoint_c F v (L i) w' (harg.below hb.below)
        rw [hrdv] at this
        exact this
      have M20 : RG.M w w.heap.size [] 32 [C] [kt] [(4, (.s 0 n n)), (12, (.v (.slice (some ⟨gg, 0, none⟩) n cap))), (13, (.v (.int .i64 (n : Int)))), (14, (.v (.int .i64 (i : Int))))] a _ := ⟨hSp, sl, ⟨p4, p12, p13, p14, trivial⟩⟩
      repeat refine wp_seq ?_
      refine M20.tx0 (F72f_3 x) [(12, (.v (.slice (some ⟨gg, 0, none⟩) n cap))), (14, (.v (.int .i64 (i : Int)))), (15, (.v (.bool true)))] (by kernel_rfl) ⟨RG.cert_bin rfl .lss 3 3 14 13 (.int .i64 (i : Int)) (.int .i64 (n : Int)) (.bool true) rfl rfl (RG.sx fun _ => by kernel_rfl) (RG.sx fun _ => by kernel_rfl) (fun w => by kernel_rfl) (lssn_t hi), trivial⟩ ?_
      intro a21 w21 M21
      repeat refine wp_seq ?_
      refine wp_cond_true (M21.ev (by kernel_rfl)) ?_
      refine wp_skip ?_
      refine wp_seq ?_
      refine wp_block ?_
      repeat refine wp_seq ?_
      refine M21.tx0 (F72f_4 gg i v x) [(6, (.v v))] (by kernel_rfl) ⟨RG.st fun _ _ => by kernel_rfl, RG.cert_idx rfl 34 12 14 rfl (.v (.slice (some ⟨gg, 0, none⟩) n cap)) (.int .i64 (i : Int)) (RG.sx fun _ => by kernel_rfl) (RG.sx fun _ => by kernel_rfl) (fun μ w => at46 _ 0 _ _ i hi w), RG.cert_load1B rfl gg (0 + i) hgg List.not_mem_nil 22 17 rfl v rfl (RG.sx fun _ => by kernel_rfl) hcell u23, RG.st fun _ _ => by kernel_rfl, RG.st fun _ _ => by kernel_rfl, trivial⟩ ?_
      intro a22 w22 M22
      repeat refine wp_seq ?_
      refine M22.tx (F72f_5 m v x) [(5, (RG.z 8))] [(1, 6, (ws (0 : Fin P) ++ (ws (0 : Fin P))))] [C, (ws (0 : Fin P) ++ (ws (0 : Fin P)))] [(8, (.v (.bool false)))] (by kernel_rfl) (by kernel_rfl) ⟨RG.st fun _ _ => by kernel_rfl, RG.cert_callB1 rfl 17 20 v (.tuple #[(pv (0 : Fin P) (0 : Fin P)), (.bool false)]) rfl (fun a w => by kernel_rfl) (RG.sx fun _ => by kernel_rfl) hrd, RG.st fun _ _ => by kernel_rfl, RG.st fun _ _ => by kernel_rfl, RG.st fun _ _ => by kernel_rfl, RG.mk 1 40 fun _ _ => by kernel_rfl, RG.pt i109 (by kernel_rfl), RG.st fun _ _ => by kernel_rfl, trivial⟩ ?_
      intro j23 a23 w23 M23
      repeat refine wp_seq ?_
      refine M23.tx0 (F72f_6 x) [(25, (.v (.bool true)))] (by kernel_rfl) ⟨RG.st fun _ _ => by kernel_rfl, RG.st fun _ _ => by kernel_rfl, trivial⟩ ?_
      intro a24 w24 M24
      repeat refine wp_seq ?_
      refine wp_cond_true (M24.ev (by kernel_rfl)) ?_
      repeat refine wp_seq ?_
      refine M24.tx0 (F72f_7 x) [(2, (.v (.slice none 0 0))), (3, (.v (.int .i64 4)))] (by kernel_rfl) ⟨RG.st fun _ _ => by kernel_rfl, RG.st fun _ _ => by kernel_rfl, trivial⟩ ?_
      intro a25 w25 M25
      have hS25 : RG.St w w.heap.size [] [C, (ws (0 : Fin P) ++ (ws (0 : Fin P)))] [kt, j23] _ := M25.st
      have sl25 := M25.sl
      have f2_25 : a25.tmps[2]? = some (.slice none 0 0) := M25.at (s := (.v (.slice none 0 0))) (by kernel_rfl)
      have f3_25 : a25.tmps[3]? = some (.int .i64 4) := M25.at (s := (.v (.int .i64 4))) (by kernel_rfl)
      refine wp_ret ?_
      refine bodyPost_ret (v := .tuple #[.slice none 0 0, .int .i64 4]) (RG.results_tt 2 3 rfl _ _ f2_25 f3_25) sl25.defers ?_
      exact ⟨_, rfl, hS25.bel.below, Or.inr ⟨⟨i, hi, hrdv⟩, rfl⟩⟩
  · have hiN : i = n := by omega
    have M30 : RG.M w w.heap.size [] 32 [C] [kt] [(4, (.s 0 n n)), (12, (.v (.slice q n cap))), (13, (.v (.int .i64 (n : Int)))), (14, (.v (.int .i64 (i : Int))))] a _ := ⟨hSp, sl, ⟨p4, p12, p13, p14, trivial⟩⟩
    repeat refine wp_seq ?_
    refine M30.tx0 (F72e_3 x) [(4, (.s 0 n n)), (15, (.v (.bool false)))] (by kernel_rfl) ⟨RG.cert_bin rfl .lss 3 3 14 13 (.int .i64 (i : Int)) (.int .i64 (n : Int)) (.bool false) rfl rfl (RG.sx fun _ => by kernel_rfl) (RG.sx fun _ => by kernel_rfl) (fun w => by kernel_rfl) (lssn_f hi), trivial⟩ ?_
    intro a31 w31 M31
    repeat refine wp_seq ?_
    refine wp_cond_false (M31.ev (by kernel_rfl)) ?_
    refine wp_exit ?_
    dsimp only [Exit.then, Exit.inBlock]
    rw [if_pos rfl]
    repeat refine wp_seq ?_
    refine M31.tx0 (F72e_10 n x) [(2, (.s 0 n n)), (3, (.v (.int .i64 0)))] (by kernel_rfl) ⟨RG.st fun _ _ => by kernel_rfl, RG.st fun _ _ => by kernel_rfl, RG.st fun _ _ => by kernel_rfl, trivial⟩ ?_
    intro a32 w32 M32
    have hS32 : RG.St w w.heap.size [] [C] [kt] _ := M32.st
    have sl32 := M32.sl
    have f2_32 : a32.tmps[2]? = some (.slice (some ⟨kt, 0, none⟩) n n) := M32.at (s := (.s 0 n n)) (by kernel_rfl)
    have f3_32 : a32.tmps[3]? = some (.int .i64 0) := M32.at (s := (.v (.int .i64 0))) (by kernel_rfl)
    refine wp_ret ?_
    refine bodyPost_ret (v := .tuple #[.slice (some ⟨kt, 0, none⟩) n n, .int .i64 0]) (RG.results_tt 2 3 rfl _ _ f2_32 f3_32) sl32.defers ?_
    refine ⟨_, rfl, hS32.bel.below, Or.inl ⟨kt, ?_, ?_, rfl, fun j hj => ?_⟩⟩
    · exact (hS32.has 0 C rfl).2.2.2.elim id (fun h => absurd h List.not_mem_nil)
    · exact (hS32.has 0 C rfl).2.2.1
    · obtain ⟨pp, hpp⟩ := Option.isSome_iff_exists.1 (hall j (by omega))
      refine ⟨pp, hpp, RG.range_sub (hS32.has 0 C rfl).1 (fun r hr => ?_)⟩
      have h5 := hR.row j r (by omega) hr
      rw [h5]
      show (match rd P (L j) with | some p => _ | none => _)[r]? = _
      rw [hpp]
def F81a_0 : List RG.It := [.x 2 [] (.slice none 0 0), .x 3 [] (.int .i64 0)]
def F81a_1 (q : Option Addr) (n cap : Nat) : List RG.It := [.x 9 [] (.slice q n cap), .x 10 [(9, 0)] (.int .i64 (n : Int)), ⟨some 11, [(10, 1)], (.s 0 n n), .make 0⟩, .s 4 [(11, 2)] (.s 0 n n)]
def F81a_2 (q : Option Addr) (n cap : Nat) : List RG.It := [.x 12 [] (.slice q n cap), .x 13 [(12, 0)] (.int .i64 (n : Int)), .x 14 [] (.int .i64 0)]
def F81b_3 : List RG.It := [.x 15 [] (.bool true)]
def F81b_4 (gg i : Nat) (v : Value) : List RG.It := [.x 16 [] (.int .i64 (i : Int)), .x 17 [] (.pointer (some ⟨gg, (0 + i), none⟩)), .x 18 [(17, 1)] v, .x 5 [(16, 0)] (.int .i64 (i : Int)), .x 6 [(18, 2)] v]
def F81b_5 (m : Nat) (v : Value) : List RG.It := [.c 20 [] gv1, .x 21 [] v, .c 22 [(20, 0), (21, 1)] (.tuple #[(nv m), (.bool true)]), .x 19 [(22, 2)] (.tuple #[(nv m), (.bool true)]), .x 23 [(19, 3)] (nv m), .x 24 [(19, 3)] (.bool true), .m 7 [] 1, .u [(7, 6), (23, 4)] 1, .x 8 [(24, 5)] (.bool true)]
def F81b_6 : List RG.It := [.x 25 [] (.bool true), .x 26 [(25, 0)] (.bool false)]
def F81b_8 (n i m : Nat) : List RG.It := [.s 27 [] (.s 0 n n), .x 28 [] (.int .i64 (i : Int)), .x 29 [] (nv m), .s 30 [(27, 0), (28, 1)] (.p 0 (0 + 4 * i)), .u [(30, 3), (29, 2)] 0]
def F81b_9 (i : Nat) : List RG.It := [.x 31 [] (.int .i64 ((i + 1 : Nat) : Int)), .x 14 [(31, 0)] (.int .i64 ((i + 1 : Nat) : Int))]
def F81f_3 : List RG.It := [.x 15 [] (.bool true)]
def F81f_4 (gg i : Nat) (v : Value) : List RG.It := [.x 16 [] (.int .i64 (i : Int)), .x 17 [] (.pointer (some ⟨gg, (0 + i), none⟩)), .x 18 [(17, 1)] v, .x 5 [(16, 0)] (.int .i64 (i : Int)), .x 6 [(18, 2)] v]
def F81f_5 (m : Nat) (v : Value) : List RG.It := [.c 20 [] gv1, .x 21 [] v, .c 22 [(20, 0), (21, 1)] (.tuple #[(nv 0), (.bool false)]), .x 19 [(22, 2)] (.tuple #[(nv 0), (.bool false)]), .x 23 [(19, 3)] (nv 0), .x 24 [(19, 3)] (.bool false), .m 7 [] 1, .u [(7, 6), (23, 4)] 1, .x 8 [(24, 5)] (.bool false)]
def F81f_6 : List RG.It := [.x 25 [] (.bool false), .x 26 [(25, 0)] (.bool true)]
def F81f_7 : List RG.It := [.x 2 [] (.slice none 0 0), .x 3 [] (.int .i64 3)]
def F81e_3 : List RG.It := [.x 15 [] (.bool false)]
def F81e_10 (n : Nat) : List RG.It := [.s 32 [] (.s 0 n n), .s 2 [(32, 0)] (.s 0 n n), .x 3 [] (.int .i64 0)]
/-- A list of arguments in a block. -/
def ArgsScs (w : World) (q : Option Addr) (n : Nat) (L : Nat → Bs) : Prop := 0 < n → ∃ gg, q = some ⟨gg, 0, none⟩ ∧ gg < w.heap.size ∧ ∀ j, j < n → ∃ v, w.cell? ⟨gg, j, none⟩ = some v ∧ Arg w v (L j)
def ScsR (N : Nat) (w : World) (n : Nat) (L : Nat → Bs) (e : Value) (w' : World) : Prop :=
  (∃ k, w.heap.size ≤ k ∧ k < w'.heap.size ∧ e = .tuple #[.slice (some ⟨k, 0, none⟩) n n, .int .i64 0] ∧ ∀ j, j < n → ∃ p, rq N (L j) = some p ∧ w'.rangeAt k (4 * j) (wn p)) ∨
  ((∃ j, j < n ∧ rq N (L j) = none) ∧ e = .tuple #[.slice none 0 0, .int .i64 3])
set_option maxHeartbeats 4000000 in
set_option maxRecDepth 100000 in
theorem Scs_c {N : Nat} (hG : Gap 4624529908474429119 4994812053365940164 1 N) (n cap : Nat) (hn : n ≤ 512) (q : Option Addr) (L : Nat → Bs) (w : World) (hA : ArgsScs w q n L) : Calls Try.prog 23 #[.slice q n cap] w (Ret fun e w' => Below w.heap.size w w' ∧ ScsR N w n L e w') := by
  obtain ⟨C, hCl, hmk⟩ := mk82 n hn
  obtain ⟨i, -⟩ : ∃ i : Nat, i = 0 := ⟨_, rfl⟩
  obtain ⟨gg, -⟩ : ∃ i : Nat, i = 0 := ⟨_, rfl⟩
  obtain ⟨m, -⟩ : ∃ i : Nat, i = 0 := ⟨_, rfl⟩
  obtain ⟨v, -⟩ : ∃ v : Value, v = .bool true := ⟨_, rfl⟩
  obtain ⟨C2, -⟩ : ∃ c : List Value, c = C := ⟨_, rfl⟩
  go_enter Try.func23, Try.ntmps23
  refine RG.var1 (v0 := .slice q n cap) (n := 33) (by kernel_rfl) (by kernel_rfl) (by kernel_rfl) ?_
  intro a0 sl0 f0
  have hS0 := RG.St.begin w
  have M0 : RG.M w w.heap.size [] 33 [] [] [(0, (.v (.slice q n cap)))] a0 _ := ⟨hS0, sl0, ⟨f0, trivial⟩⟩
  repeat refine wp_seq ?_
  refine M0.tx0 F81a_0 [(0, (.v (.slice q n cap))), (2, (.v (.slice none 0 0))), (3, (.v (.int .i64 0)))] (by kernel_rfl) ⟨RG.st fun _ _ => by kernel_rfl, RG.st fun _ _ => by kernel_rfl, trivial⟩ ?_
  intro a1 w1 M1
  repeat refine wp_seq ?_
  refine M1.tx (F81a_1 q n cap) [(2, C)] [] [C] [(0, (.v (.slice q n cap))), (2, (.v (.slice none 0 0))), (3, (.v (.int .i64 0))), (4, (.s 0 n n))] (by kernel_rfl) (by kernel_rfl) ⟨RG.st fun _ _ => by kernel_rfl, RG.cert_one rfl 9 (.v (.slice q n cap)) (.int .i64 (n : Int)) rfl (RG.sx fun _ => by kernel_rfl) (fun a w => by kernel_rfl) (fun μ w => by kernel_rfl), RG.cert_makes 0 rfl _ rfl 53 38 10 10 n rfl rfl (RG.sx fun _ => by kernel_rfl) (RG.sx fun _ => by kernel_rfl) (hmk), RG.st fun _ _ => by kernel_rfl, trivial⟩ ?_
  intro j2 a2 w2 M2
  repeat refine wp_seq ?_
  refine M2.tx0 (F81a_2 q n cap) [(2, (.v (.slice none 0 0))), (3, (.v (.int .i64 0))), (4, (.s 0 n n)), (12, (.v (.slice q n cap))), (13, (.v (.int .i64 (n : Int)))), (14, (.v (.int .i64 0)))] (by kernel_rfl) ⟨RG.st fun _ _ => by kernel_rfl, RG.cert_one rfl 12 (.v (.slice q n cap)) (.int .i64 (n : Int)) rfl (RG.sx fun _ => by kernel_rfl) (fun a w => by kernel_rfl) (fun μ w => by kernel_rfl), RG.st fun _ _ => by kernel_rfl, trivial⟩ ?_
  intro a3 w3 M3
  have hS3 : RG.St w w.heap.size [] [C] [j2] _ := M3.st
  have sl3 := M3.sl
  have f2_3 : a3.tmps[2]? = some (.slice none 0 0) := M3.at (s := (.v (.slice none 0 0))) (by kernel_rfl)
  have f3_3 : a3.tmps[3]? = some (.int .i64 0) := M3.at (s := (.v (.int .i64 0))) (by kernel_rfl)
  have f4_3 : a3.tmps[4]? = some (.slice (some ⟨j2, 0, none⟩) n n) := M3.at (s := (.s 0 n n)) (by kernel_rfl)
  have f12_3 : a3.tmps[12]? = some (.slice q n cap) := M3.at (s := (.v (.slice q n cap))) (by kernel_rfl)
  have f13_3 : a3.tmps[13]? = some (.int .i64 (n : Int)) := M3.at (s := (.v (.int .i64 (n : Int)))) (by kernel_rfl)
  have f14_3 : a3.tmps[14]? = some (.int .i64 0) := M3.at (s := (.v (.int .i64 0))) (by kernel_rfl)
  repeat refine wp_seq ?_
  refine wp_block ?_
  refine wp_loop_ghost (fun m a wr => ∃ (i : Nat) (C : List Value), i + m = n ∧ (∀ j, j < i → (rq N (L j)).isSome = true) ∧ Rows 4 n (fun j => match rq N (L j) with | some k => wn k | none => []) i C ∧ RG.Sl a 33 ∧ a.tmps[4]? = some (.slice (some ⟨j2, 0, none⟩) n n) ∧ a.tmps[12]? = some (.slice q n cap) ∧ a.tmps[13]? = some (.int .i64 (n : Int)) ∧ a.tmps[14]? = some (.int .i64 (i : Int)) ∧ RG.St w w.heap.size [] [C] [j2] wr) n ⟨0, C, by omega, fun j hj => by omega, ⟨hCl, fun j r hj => by omega⟩, sl3, f4_3, f12_3, f13_3, f14_3, hS3⟩ ?_
  intro m' a wr
  rintro ⟨i, C, him, hall, hR, sl, p4, p12, p13, p14, hSp⟩
  generalize j2 = kt at p4 hSp
  by_cases hi : i < n
  · obtain ⟨gg, hqe, hgg, hc⟩ := hA (by omega)
    rw [hqe] at p12
    obtain ⟨v, hv, harg⟩ := hc i hi
    have hcell : w.cell? ⟨gg, 0 + i, none⟩ = some v := by rw [Nat.zero_add]; exact hv
    cases hrdv : rq N (L i) with
    | some pp =>
      obtain ⟨m, rfl⟩ : ∃ m, m = pp := ⟨_, rfl⟩
      have hrd : ∀ w', RG.BelX w.heap.size [] w w' → Calls Try.prog 30 #[gv1, v] w' (Ret fun e w'' => Below w'.heap.size w' w'' ∧ e = .tuple #[nv m, .bool true]) := fun w' hb => by
        have := readQ_c hG v (L i) w' (harg.below hb.below)
        rw [hrdv] at this
        exact this
      have hlen := hR.len
      have hoff : 0 + 4 * i + (wn m).length ≤ C.length := by rw [hlen]; show 0 + 4 * i + 4 ≤ 4 * n; omega
      obtain ⟨C2, hC2e⟩ : ∃ c, RG.rep C (0 + 4 * i) (wn m) = c := ⟨_, rfl⟩
      have hC2 := hC2e ▸ RG.rep_at hoff
      have hcl : C2.length = C.length := hC2e ▸ RG.rep_length hoff
      have hR2 : Rows 4 n (fun j => match rq N (L j) with | some k => wn k | none => []) (i + 1) C2 := by
        have := hR.next hi (by show List.length (match rq N (L i) with | some p => _ | none => _) = _; rw [hrdv]; rfl)
        rw [← hC2e]
        have e : (fun j => match rq N (L j) with | some k => wn k | none => []) i = (wn m) := by show (match rq N (L i) with | some p => _ | none => _) = _; rw [hrdv]
        rw [← e]
        exact this
      have M10 : RG.M w w.heap.size [] 33 [C] [kt] [(4, (.s 0 n n)), (12, (.v (.slice (some ⟨gg, 0, none⟩) n cap))), (13, (.v (.int .i64 (n : Int)))), (14, (.v (.int .i64 (i : Int))))] a _ := ⟨hSp, sl, ⟨p4, p12, p13, p14, trivial⟩⟩
      repeat refine wp_seq ?_
      refine M10.tx0 F81b_3 [(4, (.s 0 n n)), (12, (.v (.slice (some ⟨gg, 0, none⟩) n cap))), (13, (.v (.int .i64 (n : Int)))), (14, (.v (.int .i64 (i : Int)))), (15, (.v (.bool true)))] (by kernel_rfl) ⟨RG.cert_bin rfl .lss 3 3 14 13 (.int .i64 (i : Int)) (.int .i64 (n : Int)) (.bool true) rfl rfl (RG.sx fun _ => by kernel_rfl) (RG.sx fun _ => by kernel_rfl) (fun w => by kernel_rfl) (lssn_t hi), trivial⟩ ?_
      intro a11 w11 M11
      repeat refine wp_seq ?_
      refine wp_cond_true (M11.ev (by kernel_rfl)) ?_
      refine wp_skip ?_
      refine wp_seq ?_
      refine wp_block ?_
      repeat refine wp_seq ?_
      refine M11.tx0 (F81b_4 gg i v) [(4, (.s 0 n n)), (5, (.v (.int .i64 (i : Int)))), (6, (.v v)), (12, (.v (.slice (some ⟨gg, 0, none⟩) n cap))), (13, (.v (.int .i64 (n : Int)))), (14, (.v (.int .i64 (i : Int))))] (by kernel_rfl) ⟨RG.st fun _ _ => by kernel_rfl, RG.cert_idx rfl 34 12 14 rfl (.v (.slice (some ⟨gg, 0, none⟩) n cap)) (.int .i64 (i : Int)) (RG.sx fun _ => by kernel_rfl) (RG.sx fun _ => by kernel_rfl) (fun μ w => at46 _ 0 _ _ i hi w), RG.cert_load1B rfl gg (0 + i) hgg List.not_mem_nil 22 17 rfl v rfl (RG.sx fun _ => by kernel_rfl) hcell u23, RG.st fun _ _ => by kernel_rfl, RG.st fun _ _ => by kernel_rfl, trivial⟩ ?_
      intro a12 w12 M12
      repeat refine wp_seq ?_
      refine M12.tx (F81b_5 m v) [(6, (RG.z 4))] [(1, 7, (wn m))] [C, (wn m)] [(4, (.s 0 n n)), (5, (.v (.int .i64 (i : Int)))), (7, (.p 1 0)), (8, (.v (.bool true))), (12, (.v (.slice (some ⟨gg, 0, none⟩) n cap))), (13, (.v (.int .i64 (n : Int)))), (14, (.v (.int .i64 (i : Int))))] (by kernel_rfl) (by kernel_rfl) ⟨RG.cl (Scalars_c) fun _ _ => by kernel_rfl, RG.st fun _ _ => by kernel_rfl, RG.cert_callB2 rfl 30 20 21 gv1 v (.tuple #[(nv m), (.bool true)]) rfl (fun a w => by kernel_rfl) (RG.sx fun _ => by kernel_rfl) (RG.sx fun _ => by kernel_rfl) hrd, RG.st fun _ _ => by kernel_rfl, RG.st fun _ _ => by kernel_rfl, RG.st fun _ _ => by kernel_rfl, RG.mk 1 38 fun _ _ => by kernel_rfl, RG.pt i85 (by kernel_rfl), RG.st fun _ _ => by kernel_rfl, trivial⟩ ?_
      intro j13 a13 w13 M13
      repeat refine wp_seq ?_
      refine M13.tx0 F81b_6 [(4, (.s 0 n n)), (5, (.v (.int .i64 (i : Int)))), (7, (.p 1 0)), (12, (.v (.slice (some ⟨gg, 0, none⟩) n cap))), (13, (.v (.int .i64 (n : Int)))), (14, (.v (.int .i64 (i : Int)))), (26, (.v (.bool false)))] (by kernel_rfl) ⟨RG.st fun _ _ => by kernel_rfl, RG.st fun _ _ => by kernel_rfl, trivial⟩ ?_
      intro a14 w14 M14
      repeat refine wp_seq ?_
      refine wp_cond_false (M14.ev (by kernel_rfl)) ?_
      refine wp_skip ?_
      repeat refine wp_seq ?_
      refine M14.tx (F81b_8 n i m) [] [(0, 4, C2)] [C2, (wn m)] [(4, (.s 0 n n)), (12, (.v (.slice (some ⟨gg, 0, none⟩) n cap))), (13, (.v (.int .i64 (n : Int)))), (14, (.v (.int .i64 (i : Int))))] (by kernel_rfl) (congrArg (fun n => [n]) hcl) ⟨RG.st fun _ _ => by kernel_rfl, RG.st fun _ _ => by kernel_rfl, RG.ld u85 i85 (by kernel_rfl), RG.cert_idx rfl 53 27 28 rfl (.s 0 n n) (.int .i64 (i : Int)) (RG.sx fun _ => by kernel_rfl) (RG.sx fun _ => by kernel_rfl) (fun μ w => at82 _ 0 _ _ i hi w), RG.cert_putAt 0 (0 + 4 * i) rfl _ rfl 38 (.tmp 30) (.tmp 29) (wn m) rfl rfl (RG.sx fun _ => by kernel_rfl) (RG.sx fun _ => by kernel_rfl) hoff hC2 i85 rfl, trivial⟩ ?_
      intro a15 w15 M15
      repeat refine wp_seq ?_
      refine M15.tx0 (F81b_9 i) [(4, (.s 0 n n)), (12, (.v (.slice (some ⟨gg, 0, none⟩) n cap))), (13, (.v (.int .i64 (n : Int)))), (14, (.v (.int .i64 ((i + 1 : Nat) : Int))))] (by kernel_rfl) ⟨RG.cert_binc rfl .add 3 3 14 (.int .i64 (i : Int)) (.int .i64 1) (.int .i64 ((i + 1 : Nat) : Int)) rfl rfl (RG.sx fun _ => by kernel_rfl) (fun w => by kernel_rfl) (addn i 1 (by omega) (by omega)), RG.st fun _ _ => by kernel_rfl, trivial⟩ ?_
      intro a16 w16 M16
      have hS16 : RG.St w w.heap.size [] [C2, (wn m)] [kt, j13] _ := M16.st
      have sl16 := M16.sl
      have f4_16 : a16.tmps[4]? = some (.slice (some ⟨kt, 0, none⟩) n n) := M16.at (s := (.s 0 n n)) (by kernel_rfl)
      have f12_16 : a16.tmps[12]? = some (.slice (some ⟨gg, 0, none⟩) n cap) := M16.at (s := (.v (.slice (some ⟨gg, 0, none⟩) n cap))) (by kernel_rfl)
      have f13_16 : a16.tmps[13]? = some (.int .i64 (n : Int)) := M16.at (s := (.v (.int .i64 (n : Int)))) (by kernel_rfl)
      have f14_16 : a16.tmps[14]? = some (.int .i64 ((i + 1 : Nat) : Int)) := M16.at (s := (.v (.int .i64 ((i + 1 : Nat) : Int)))) (by kernel_rfl)
      show ∃ n', _
      exact ⟨m' - 1, by omega, i + 1, C2, by omega, fun j hj => (by
        by_cases hji : j = i
        · rw [hji, hrdv]; rfl
        · exact hall j (by omega)), hR2, sl16, f4_16, (by rw [hqe]; exact f12_16), f13_16, f14_16, RG.St.init (cs := [C2]) (ks := [kt]) hS16⟩
    | none =>
      have hrd : ∀ w', RG.BelX w.heap.size [] w w' → Calls Try.prog 30 #[gv1, v] w' (Ret fun e w'' => Below w'.heap.size w' w'' ∧ e = .tuple #[nv 0, .bool false]) := fun w' hb => by
        have := readQ_c hG v (L i) w' (harg.below hb.below)
        rw [hrdv] at this
        exact this
      have M20 : RG.M w w.heap.size [] 33 [C] [kt] [(4, (.s 0 n n)), (12, (.v (.slice (some ⟨gg, 0, none⟩) n cap))), (13, (.v (.int .i64 (n : Int)))), (14, (.v (.int .i64 (i : Int))))] a _ := ⟨hSp, sl, ⟨p4, p12, p13, p14, trivial⟩⟩
      repeat refine wp_seq ?_
      refine M20.tx0 F81f_3 [(12, (.v (.slice (some ⟨gg, 0, none⟩) n cap))), (14, (.v (.int .i64 (i : Int)))), (15, (.v (.bool true)))] (by kernel_rfl) ⟨RG.cert_bin rfl .lss 3 3 14 13 (.int .i64 (i : Int)) (.int .i64 (n : Int)) (.bool true) rfl rfl (RG.sx fun _ => by kernel_rfl) (RG.sx fun _ => by kernel_rfl) (fun w => by kernel_rfl) (lssn_t hi), trivial⟩ ?_
      intro a21 w21 M21
      repeat refine wp_seq ?_
      refine wp_cond_true (M21.ev (by kernel_rfl)) ?_
      refine wp_skip ?_
      refine wp_seq ?_
      refine wp_block ?_
      repeat refine wp_seq ?_
      refine M21.tx0 (F81f_4 gg i v) [(6, (.v v))] (by kernel_rfl) ⟨RG.st fun _ _ => by kernel_rfl, RG.cert_idx rfl 34 12 14 rfl (.v (.slice (some ⟨gg, 0, none⟩) n cap)) (.int .i64 (i : Int)) (RG.sx fun _ => by kernel_rfl) (RG.sx fun _ => by kernel_rfl) (fun μ w => at46 _ 0 _ _ i hi w), RG.cert_load1B rfl gg (0 + i) hgg List.not_mem_nil 22 17 rfl v rfl (RG.sx fun _ => by kernel_rfl) hcell u23, RG.st fun _ _ => by kernel_rfl, RG.st fun _ _ => by kernel_rfl, trivial⟩ ?_
      intro a22 w22 M22
      repeat refine wp_seq ?_
      refine M22.tx (F81f_5 m v) [(6, (RG.z 4))] [(1, 7, (wn 0))] [C, (wn 0)] [(8, (.v (.bool false)))] (by kernel_rfl) (by kernel_rfl) ⟨RG.cl (Scalars_c) fun _ _ => by kernel_rfl, RG.st fun _ _ => by kernel_rfl, RG.cert_callB2 rfl 30 20 21 gv1 v (.tuple #[(nv 0), (.bool false)]) rfl (fun a w => by kernel_rfl) (RG.sx fun _ => by kernel_rfl) (RG.sx fun _ => by kernel_rfl) hrd, RG.st fun _ _ => by kernel_rfl, RG.st fun _ _ => by kernel_rfl, RG.st fun _ _ => by kernel_rfl, RG.mk 1 38 fun _ _ => by kernel_rfl, RG.pt i85 (by kernel_rfl), RG.st fun _ _ => by kernel_rfl, trivial⟩ ?_
      intro j23 a23 w23 M23
      repeat refine wp_seq ?_
      refine M23.tx0 F81f_6 [(26, (.v (.bool true)))] (by kernel_rfl) ⟨RG.st fun _ _ => by kernel_rfl, RG.st fun _ _ => by kernel_rfl, trivial⟩ ?_
      intro a24 w24 M24
      repeat refine wp_seq ?_
      refine wp_cond_true (M24.ev (by kernel_rfl)) ?_
      repeat refine wp_seq ?_
      refine M24.tx0 F81f_7 [(2, (.v (.slice none 0 0))), (3, (.v (.int .i64 3)))] (by kernel_rfl) ⟨RG.st fun _ _ => by kernel_rfl, RG.st fun _ _ => by kernel_rfl, trivial⟩ ?_
      intro a25 w25 M25
      have hS25 : RG.St w w.heap.size [] [C, (wn 0)] [kt, j23] _ := M25.st
      have sl25 := M25.sl
      have f2_25 : a25.tmps[2]? = some (.slice none 0 0) := M25.at (s := (.v (.slice none 0 0))) (by kernel_rfl)
      have f3_25 : a25.tmps[3]? = some (.int .i64 3) := M25.at (s := (.v (.int .i64 3))) (by kernel_rfl)
      refine wp_ret ?_
      refine bodyPost_ret (v := .tuple #[.slice none 0 0, .int .i64 3]) (RG.results_tt 2 3 rfl _ _ f2_25 f3_25) sl25.defers ?_
      exact ⟨_, rfl, hS25.bel.below, Or.inr ⟨⟨i, hi, hrdv⟩, rfl⟩⟩
  · have hiN : i = n := by omega
    have M30 : RG.M w w.heap.size [] 33 [C] [kt] [(4, (.s 0 n n)), (12, (.v (.slice q n cap))), (13, (.v (.int .i64 (n : Int)))), (14, (.v (.int .i64 (i : Int))))] a _ := ⟨hSp, sl, ⟨p4, p12, p13, p14, trivial⟩⟩
    repeat refine wp_seq ?_
    refine M30.tx0 F81e_3 [(4, (.s 0 n n)), (15, (.v (.bool false)))] (by kernel_rfl) ⟨RG.cert_bin rfl .lss 3 3 14 13 (.int .i64 (i : Int)) (.int .i64 (n : Int)) (.bool false) rfl rfl (RG.sx fun _ => by kernel_rfl) (RG.sx fun _ => by kernel_rfl) (fun w => by kernel_rfl) (lssn_f hi), trivial⟩ ?_
    intro a31 w31 M31
    repeat refine wp_seq ?_
    refine wp_cond_false (M31.ev (by kernel_rfl)) ?_
    refine wp_exit ?_
    dsimp only [Exit.then, Exit.inBlock]
    rw [if_pos rfl]
    repeat refine wp_seq ?_
    refine M31.tx0 (F81e_10 n) [(2, (.s 0 n n)), (3, (.v (.int .i64 0)))] (by kernel_rfl) ⟨RG.st fun _ _ => by kernel_rfl, RG.st fun _ _ => by kernel_rfl, RG.st fun _ _ => by kernel_rfl, trivial⟩ ?_
    intro a32 w32 M32
    have hS32 : RG.St w w.heap.size [] [C] [kt] _ := M32.st
    have sl32 := M32.sl
    have f2_32 : a32.tmps[2]? = some (.slice (some ⟨kt, 0, none⟩) n n) := M32.at (s := (.s 0 n n)) (by kernel_rfl)
    have f3_32 : a32.tmps[3]? = some (.int .i64 0) := M32.at (s := (.v (.int .i64 0))) (by kernel_rfl)
    refine wp_ret ?_
    refine bodyPost_ret (v := .tuple #[.slice (some ⟨kt, 0, none⟩) n n, .int .i64 0]) (RG.results_tt 2 3 rfl _ _ f2_32 f3_32) sl32.defers ?_
    refine ⟨_, rfl, hS32.bel.below, Or.inl ⟨kt, ?_, ?_, rfl, fun j hj => ?_⟩⟩
    · exact (hS32.has 0 C rfl).2.2.2.elim id (fun h => absurd h List.not_mem_nil)
    · exact (hS32.has 0 C rfl).2.2.1
    · obtain ⟨pp, hpp⟩ := Option.isSome_iff_exists.1 (hall j (by omega))
      refine ⟨pp, hpp, RG.range_sub (hS32.has 0 C rfl).1 (fun r hr => ?_)⟩
      have h5 := hR.row j r (by omega) hr
      rw [h5]
      show (match rq N (L j) with | some p => _ | none => _)[r]? = _
      rw [hpp]
end Go.Proofs.Yticolhhalbbogac
set_option linter.unusedVariables false
set_option linter.unusedSimpArgs false
namespace Go.Proofs.Yticolhhalbbogac
open Go.RowKit Go.Sort Go.Deep
variable {P : Nat} [NeZero P]
omit [NeZero P] in
theorem words2 (x y : Fin P) : ∃ a b c d p q r s : Nat, pv x y = .agg #[.int .u64 (a : Int), .int .u64 (b : Int), .int .u64 (c : Int), .int .u64 (d : Int), .int .u64 (p : Int), .int .u64 (q : Int), .int .u64 (r : Int), .int .u64 (s : Int)] ∧ ws x ++ ws y = [.int .u64 (a : Int), .int .u64 (b : Int), .int .u64 (c : Int), .int .u64 (d : Int), .int .u64 (p : Int), .int .u64 (q : Int), .int .u64 (r : Int), .int .u64 (s : Int)] :=
  ⟨_, _, _, _, _, _, _, _, rfl, rfl⟩
theorem cells8 {w : World} {k o : Nat} {a b c d p q r s : Nat} (h : w.rangeAt k o [.int .u64 (a : Int), .int .u64 (b : Int), .int .u64 (c : Int), .int .u64 (d : Int), .int .u64 (p : Int), .int .u64 (q : Int), .int .u64 (r : Int), .int .u64 (s : Int)]) :
    w.cell? ⟨k, o, none⟩ = some (.int .u64 (a : Int)) ∧ w.cell? ⟨k, o + 1, none⟩ = some (.int .u64 (b : Int)) ∧ w.cell? ⟨k, o + 2, none⟩ = some (.int .u64 (c : Int)) ∧ w.cell? ⟨k, o + 3, none⟩ = some (.int .u64 (d : Int)) ∧
    w.cell? ⟨k, o + 4, none⟩ = some (.int .u64 (p : Int)) ∧ w.cell? ⟨k, o + 5, none⟩ = some (.int .u64 (q : Int)) ∧ w.cell? ⟨k, o + 6, none⟩ = some (.int .u64 (r : Int)) ∧ w.cell? ⟨k, o + 7, none⟩ = some (.int .u64 (s : Int)) :=
  ⟨h 0 _ rfl, h 1 _ rfl, h 2 _ rfl, h 3 _ rfl, h 4 _ rfl, h 5 _ rfl, h 6 _ rfl, h 7 _ rfl⟩
/-- What a call of the face answers: an errno, or a point's bytes in new memory. -/
def OutE (c : Int) (e : Value) : Prop := e = .tuple #[.slice none 0 0, .int .i64 c]
def OutP (w : World) (T : Bs) (e : Value) (w' : World) : Prop := ∃ g cap, e = .tuple #[.slice (some ⟨g, 0, none⟩) 33 cap, .int .i64 0] ∧ 33 ≤ cap ∧ w.heap.size ≤ g ∧ g < w'.heap.size ∧ Holds encB w' g 0 T
def MinusR (P : Nat) [NeZero P] (w : World) (bs : Bs) (e : Value) (w' : World) : Prop := match rd P bs with
  | none => OutE 4 e
  | some p => OutP w (by33 p.1 (0 - p.2)) e w'
theorem one_args {w : World} {v : Value} {bs : Bs} (T : TypeId) (h : Arg33 w v bs) : ArgsPts (w.alloc (.cells #[v] T)) (some ⟨w.heap.size, 0, none⟩) 1 (fun _ => bs) := fun _ =>
  ⟨w.heap.size, rfl, by rw [World.size_alloc]; omega, fun j hj => by
    obtain rfl : j = 0 := by omega
    exact ⟨v, by rw [World.cell?_alloc_new]; rfl, h.below (below1 w _)⟩⟩
set_option maxHeartbeats 4000000 in
set_option maxRecDepth 100000 in
theorem gMinus_c (C : Fld P) (v : Value) (bs : Bs) (w : World) (hv : Arg33 w v bs) (T : TypeId) : Calls Try.prog 10 #[v] w (Ret fun e w' => Below w.heap.size w w' ∧ MinusR P w bs e w') := by
  have HV : Hid (Arg33 w v bs) := hv
  obtain ⟨q, n, cap, rfl, -⟩ := hv
  go_enter Try.func10, Try.ntmps10
  go_wp2_with fail
  refine (Pts_c C 1 1 (by decide) _ (fun _ => bs) _ (one_args _ HV.out)).mono ?_
  rintro e w1 ⟨v, rfl, hb1, ⟨k, hk1, hk2, rfl, hrow⟩ | ⟨⟨j, -, hno⟩, rfl⟩⟩
  · obtain ⟨⟨x, y⟩, hp, hr⟩ := hrow 0 (by decide)
    obtain ⟨a1, b1, c1, d1, p1, q1, r1, s1, e1, e2⟩ := words2 x y
    obtain ⟨a2, b2, c2, d2, p2, q2, r2, s2, f1, -⟩ := words2 x (0 - y)
    have hO : ∀ w, Calls Try.prog 22 #[.agg #[.int .u64 (a1 : Int), .int .u64 (b1 : Int), .int .u64 (c1 : Int), .int .u64 (d1 : Int), .int .u64 (p1 : Int), .int .u64 (q1 : Int), .int .u64 (r1 : Int), .int .u64 (s1 : Int)]] w (Ret fun e w' => Below w.heap.size w w' ∧ e = .agg #[.int .u64 (a2 : Int), .int .u64 (b2 : Int), .int .u64 (c2 : Int), .int .u64 (d2 : Int), .int .u64 (p2 : Int), .int .u64 (q2 : Int), .int .u64 (r2 : Int), .int .u64 (s2 : Int)]) := by
      have := popp_c C x y
      rw [e1, f1] at this
      exact this
    have hBt : ∀ w, Calls Try.prog 16 #[.agg #[.int .u64 (a2 : Int), .int .u64 (b2 : Int), .int .u64 (c2 : Int), .int .u64 (d2 : Int), .int .u64 (p2 : Int), .int .u64 (q2 : Int), .int .u64 (r2 : Int), .int .u64 (s2 : Int)]] w (Ret fun e w' => Below w.heap.size w w' ∧ BytesR w (by33 x (0 - y)) e w') := by
      have := bytes_c C x (0 - y)
      rw [f1] at this
      exact this
    rw [e2] at hr
    obtain ⟨g0, g1, g2, g3, g4, g5, g6, g7⟩ := cells8 (o := 0) hr
    have HB : Hid (Below w.heap.size w w1) := (below1 w _).trans (hb1.mono (by simp))
    have HN : Hid (rd P bs = some (x, y)) := hp
    clear hb1 hp hr hrow e1 e2 f1 hk1
    go_wp2_with fail
    refine (hO _).mono ?_
    rintro e w2 ⟨v, rfl, hb2, rfl⟩
    have HB2 : Hid (Below w.heap.size w w2) := HB.out.trans (hb2.mono HB.out.size)
    clear hb2 g0 g1 g2 g3 g4 g5 g6 g7 hk2
    go_wp2_with fail
    refine (hBt _).mono ?_
    rintro e w3 ⟨v, rfl, hb3, g, cap3, rfl, hc3, hg3, hlt3, hH3⟩
    have HB3 : Hid (Below w.heap.size w w3) := HB2.out.trans (hb3.mono HB2.out.size)
    have HO : Hid (OutP w (by33 x (0 - y)) (.tuple #[.slice (some ⟨g, 0, none⟩) 33 cap3, .int .i64 0]) w3) := ⟨g, cap3, rfl, hc3, Nat.le_trans HB2.out.size hg3, hlt3, hH3⟩
    clear hb3 hH3
    go_wp2
    go_ret2
    refine ⟨_, rfl, HB3.out, ?_⟩
    unfold MinusR
    rw [HN.out]
    exact HO.out
  · have HB : Hid (Below w.heap.size w w1) := (below1 w _).trans (hb1.mono (by simp))
    have HN : Hid (rd P bs = none) := hno
    clear hb1 hno
    go_wp2
    go_ret2
    refine ⟨_, rfl, HB.out, ?_⟩
    unfold MinusR
    rw [HN.out]
    exact rfl
set_option maxHeartbeats 2000000 in
theorem gPoint_c (C : Fld P) (v : Value) (bs : Bs) (w : World) (hv : Arg33 w v bs) : Calls Try.prog 6 #[v] w (Ret fun e w' => Below w.heap.size w w' ∧ e = .bool (rd P bs).isSome) := by
  have hc : ∃ (a1 b1 c1 d1 p1 q1 r1 s1 : Nat), Calls Try.prog 17 #[v] w (Ret fun e w' => Below w.heap.size w w' ∧ e = .tuple #[.agg #[.int .u64 (a1 : Int), .int .u64 (b1 : Int), .int .u64 (c1 : Int), .int .u64 (d1 : Int), .int .u64 (p1 : Int), .int .u64 (q1 : Int), .int .u64 (r1 : Int), .int .u64 (s1 : Int)], .bool (rd P bs).isSome]) := by
    have h := readPoint_c C v bs w hv
    cases hrd : rd P bs with
    | none =>
      obtain ⟨a1, b1, c1, d1, p1, q1, r1, s1, e1, -⟩ := words2 (0 : Fin P) 0
      refine ⟨a1, b1, c1, d1, p1, q1, r1, s1, ?_⟩
      rw [hrd] at h
      rw [← e1]
      exact h
    | some p =>
      obtain ⟨a1, b1, c1, d1, p1, q1, r1, s1, e1, -⟩ := words2 p.1 p.2
      refine ⟨a1, b1, c1, d1, p1, q1, r1, s1, ?_⟩
      rw [hrd] at h
      rw [← e1]
      exact h
  obtain ⟨a1, b1, c1, d1, p1, q1, r1, s1, hc⟩ := hc
  generalize (rd P bs).isSome = bb at hc ⊢
  obtain ⟨q, n, cap, rfl, -⟩ := hv
  go_enter Try.func6, Try.ntmps6
  go_wp2_with fail
  refine hc.mono ?_
  rintro e w1 ⟨v, rfl, hb1, rfl⟩
  have HB : Hid (Below w.heap.size w w1) := hb1
  clear hb1 hc
  go_wp2
  go_ret
  exact ⟨_, rfl, HB.out.alloc HB.out.size _, rfl⟩
/-- Two points in a block. -/
structure PS (w : World) (k : Nat) (a1 b1 c1 d1 p1 q1 r1 s1 a2 b2 c2 d2 p2 q2 r2 s2 : Nat) (W : World) : Prop where
  r1 : W.rangeAt k 0 [.int .u64 (a1 : Int), .int .u64 (b1 : Int), .int .u64 (c1 : Int), .int .u64 (d1 : Int), .int .u64 (p1 : Int), .int .u64 (q1 : Int), .int .u64 (r1 : Int), .int .u64 (s1 : Int)]
  r2 : W.rangeAt k 8 [.int .u64 (a2 : Int), .int .u64 (b2 : Int), .int .u64 (c2 : Int), .int .u64 (d2 : Int), .int .u64 (p2 : Int), .int .u64 (q2 : Int), .int .u64 (r2 : Int), .int .u64 (s2 : Int)]
  lt : k < W.heap.size
  bl : Below w.heap.size w W
theorem PS.call {w W W' : World} {k a1 b1 c1 d1 p1 q1 r1 s1 a2 b2 c2 d2 p2 q2 r2 s2 : Nat} (h : PS w k a1 b1 c1 d1 p1 q1 r1 s1 a2 b2 c2 d2 p2 q2 r2 s2 W) (hb : Below W.heap.size W W') : PS w k a1 b1 c1 d1 p1 q1 r1 s1 a2 b2 c2 d2 p2 q2 r2 s2 W' :=
  ⟨RG.range_below h.r1 hb h.lt, RG.range_below h.r2 hb h.lt, Nat.lt_of_lt_of_le h.lt hb.size, h.bl.trans (hb.mono h.bl.size)⟩
theorem PS.drew {w W : World} {k a1 b1 c1 d1 p1 q1 r1 s1 a2 b2 c2 d2 p2 q2 r2 s2 : Nat} (h : PS w k a1 b1 c1 d1 p1 q1 r1 s1 a2 b2 c2 d2 p2 q2 r2 s2 W) : PS w k a1 b1 c1 d1 p1 q1 r1 s1 a2 b2 c2 d2 p2 q2 r2 s2 W.drew := ⟨h.r1, h.r2, h.lt, h.bl.drew⟩
theorem psS {w W : World} {k a1 b1 c1 d1 p1 q1 r1 s1 a2 b2 c2 d2 p2 q2 r2 s2 : Nat} (h : PS w k a1 b1 c1 d1 p1 q1 r1 s1 a2 b2 c2 d2 p2 q2 r2 s2 W) : W.cell? ⟨k, 0, none⟩ = some (.int .u64 (a1 : Int)) ∧ W.cell? ⟨k, 1, none⟩ = some (.int .u64 (b1 : Int)) ∧ W.cell? ⟨k, 2, none⟩ = some (.int .u64 (c1 : Int)) ∧ W.cell? ⟨k, 3, none⟩ = some (.int .u64 (d1 : Int)) ∧ W.cell? ⟨k, 4, none⟩ = some (.int .u64 (p1 : Int)) ∧ W.cell? ⟨k, 5, none⟩ = some (.int .u64 (q1 : Int)) ∧ W.cell? ⟨k, 6, none⟩ = some (.int .u64 (r1 : Int)) ∧ W.cell? ⟨k, 7, none⟩ = some (.int .u64 (s1 : Int)) ∧ W.cell? ⟨k, 8, none⟩ = some (.int .u64 (a2 : Int)) ∧ W.cell? ⟨k, 9, none⟩ = some (.int .u64 (b2 : Int)) ∧ W.cell? ⟨k, 10, none⟩ = some (.int .u64 (c2 : Int)) ∧ W.cell? ⟨k, 11, none⟩ = some (.int .u64 (d2 : Int)) ∧ W.cell? ⟨k, 12, none⟩ = some (.int .u64 (p2 : Int)) ∧ W.cell? ⟨k, 13, none⟩ = some (.int .u64 (q2 : Int)) ∧ W.cell? ⟨k, 14, none⟩ = some (.int .u64 (r2 : Int)) ∧ W.cell? ⟨k, 15, none⟩ = some (.int .u64 (s2 : Int)) ∧ PS w k a1 b1 c1 d1 p1 q1 r1 s1 a2 b2 c2 d2 p2 q2 r2 s2 W :=
  let ⟨x0, x1, x2, x3, x4, x5, x6, x7⟩ := cells8 h.r1
  let ⟨y0, y1, y2, y3, y4, y5, y6, y7⟩ := cells8 h.r2
  ⟨x0, x1, x2, x3, x4, x5, x6, x7, y0, y1, y2, y3, y4, y5, y6, y7, h⟩
theorem two_args {w : World} {v u : Value} {az bs : Bs} (T : TypeId) (h : Arg33 w v az) (h' : Arg33 w u bs) : ArgsPts (w.alloc (.cells #[v, u] T)) (some ⟨w.heap.size, 0, none⟩) 2 (fun j => if j = 0 then az else bs) := fun _ =>
  ⟨w.heap.size, rfl, by rw [World.size_alloc]; omega, fun j hj => by
    by_cases h0 : j = 0
    · subst h0
      exact ⟨v, by rw [World.cell?_alloc_new]; rfl, h.below (below1 w _)⟩
    · obtain rfl : j = 1 := by omega
      exact ⟨u, by rw [World.cell?_alloc_new]; rfl, h'.below (below1 w _)⟩⟩
/-- The point that Plus answers. -/
def plP (p q : Fin P × Fin P) : T3 P := plJ (raJ p.1 p.2) (raJ q.1 q.2)
def ptP (s : T3 P) : Fin P × Fin P := (s.1 * (EC.inv s.2.2 * EC.inv s.2.2), s.2.1 * (EC.inv s.2.2 * EC.inv s.2.2) * EC.inv s.2.2)
def PlusR (P : Nat) [NeZero P] (w : World) (az bs : Bs) (e : Value) (w' : World) : Prop := match rd P az, rd P bs with
  | some p, some q => OutP w (by33 (ptP (plP p q)).1 (ptP (plP p q)).2) e w'
  | _, _ => OutE 4 e
set_option maxHeartbeats 4000000 in
set_option maxRecDepth 100000 in
theorem gPlus_c (C : Fld P) (v u : Value) (az bs : Bs) (w : World) (hv : Arg33 w v az) (hu : Arg33 w u bs) : Calls Try.prog 9 #[v, u] w (Ret fun e w' => Below w.heap.size w w' ∧ PlusR P w az bs e w') := by
  have HV : Hid (Arg33 w v az ∧ Arg33 w u bs) := ⟨hv, hu⟩
  obtain ⟨q, n, cap, rfl, -⟩ := hv
  obtain ⟨q', n', cap', rfl, -⟩ := hu
  go_enter Try.func9, Try.ntmps9
  go_wp2_with fail
  refine (Pts_c C 2 2 (by decide) _ (fun j => if j = 0 then az else bs) _ (two_args _ HV.out.1 HV.out.2)).mono ?_
  rintro e w1 ⟨v, rfl, hb1, ⟨k, hk1, hk2, rfl, hrow⟩ | ⟨⟨j, hj, hno⟩, rfl⟩⟩
  · obtain ⟨⟨x, y⟩, hp, hr⟩ := hrow 0 (by decide)
    obtain ⟨⟨x', y'⟩, hp', hr'⟩ := hrow 1 (by decide)
    obtain ⟨a1, b1, c1, d1, p1, q1, r1, s1, e1, e2⟩ := words2 x y
    obtain ⟨a2, b2, c2, d2, p2, q2, r2, s2, f1, f2⟩ := words2 x' y'
    rw [e2] at hr
    rw [f2] at hr'
    have KP : PS w k a1 b1 c1 d1 p1 q1 r1 s1 a2 b2 c2 d2 p2 q2 r2 s2 w1 := ⟨hr, hr', hk2, (below1 w _).trans (hb1.mono (by simp))⟩
    have hR1 : ∀ w, Calls Try.prog 19 #[.agg #[.int .u64 (a1 : Int), .int .u64 (b1 : Int), .int .u64 (c1 : Int), .int .u64 (d1 : Int), .int .u64 (p1 : Int), .int .u64 (q1 : Int), .int .u64 (r1 : Int), .int .u64 (s1 : Int)]] w (Ret fun e w' => Below w.heap.size w w' ∧ e = tv (raJ x y)) := by
      have := raJ_c C x y
      rw [e1] at this
      exact this
    have hR2 : ∀ w, Calls Try.prog 19 #[.agg #[.int .u64 (a2 : Int), .int .u64 (b2 : Int), .int .u64 (c2 : Int), .int .u64 (d2 : Int), .int .u64 (p2 : Int), .int .u64 (q2 : Int), .int .u64 (r2 : Int), .int .u64 (s2 : Int)]] w (Ret fun e w' => Below w.heap.size w w' ∧ e = tv (raJ x' y')) := by
      have := raJ_c C x' y'
      rw [f1] at this
      exact this
    have hP : ∀ w, Calls Try.prog 20 #[tv (raJ x y), tv (raJ x' y')] w (Ret fun e w' => Below w.heap.size w w' ∧ e = tv (plP (x, y) (x', y'))) := plJ_c C _ _
    have hT : ∀ w, Calls Try.prog 21 #[tv (plP (x, y) (x', y'))] w (Ret fun e w' => Below w.heap.size w w' ∧ e = pv (ptP (plP (x, y) (x', y'))).1 (ptP (plP (x, y) (x', y'))).2) := ptJ_c C _
    have hBt : ∀ w, Calls Try.prog 16 #[pv (ptP (plP (x, y) (x', y'))).1 (ptP (plP (x, y) (x', y'))).2] w (Ret fun e w' => Below w.heap.size w w' ∧ BytesR w (by33 (ptP (plP (x, y) (x', y'))).1 (ptP (plP (x, y) (x', y'))).2) e w') := bytes_c C _ _
    have HN : Hid (rd P az = some (x, y) ∧ rd P bs = some (x', y')) := ⟨hp, hp'⟩
    clear hp hp' hr hr' hrow e1 e2 f1 f2 hb1 hk1 hk2
    generalize hz : ptP (plP (x, y) (x', y')) = z at hT hBt
    have HZ : Hid (ptP (plP (x, y) (x', y')) = z) := hz
    clear hz
    generalize tv (plP (x, y) (x', y')) = v3 at hP hT
    generalize tv (raJ x y) = v1 at hR1 hP
    generalize tv (raJ x' y') = v2 at hR2 hP
    generalize pv z.1 z.2 = v4 at hT hBt
    go_wp2_with fail
    go_region_held3 (fun W => W.cell? ⟨k, 0, none⟩ = some (.int .u64 (a1 : Int)) ∧ W.cell? ⟨k, 1, none⟩ = some (.int .u64 (b1 : Int)) ∧ W.cell? ⟨k, 2, none⟩ = some (.int .u64 (c1 : Int)) ∧ W.cell? ⟨k, 3, none⟩ = some (.int .u64 (d1 : Int)) ∧ W.cell? ⟨k, 4, none⟩ = some (.int .u64 (p1 : Int)) ∧ W.cell? ⟨k, 5, none⟩ = some (.int .u64 (q1 : Int)) ∧ W.cell? ⟨k, 6, none⟩ = some (.int .u64 (r1 : Int)) ∧ W.cell? ⟨k, 7, none⟩ = some (.int .u64 (s1 : Int)) ∧ W.cell? ⟨k, 8, none⟩ = some (.int .u64 (a2 : Int)) ∧ W.cell? ⟨k, 9, none⟩ = some (.int .u64 (b2 : Int)) ∧ W.cell? ⟨k, 10, none⟩ = some (.int .u64 (c2 : Int)) ∧ W.cell? ⟨k, 11, none⟩ = some (.int .u64 (d2 : Int)) ∧ W.cell? ⟨k, 12, none⟩ = some (.int .u64 (p2 : Int)) ∧ W.cell? ⟨k, 13, none⟩ = some (.int .u64 (q2 : Int)) ∧ W.cell? ⟨k, 14, none⟩ = some (.int .u64 (r2 : Int)) ∧ W.cell? ⟨k, 15, none⟩ = some (.int .u64 (s2 : Int)) ∧ PS w k a1 b1 c1 d1 p1 q1 r1 s1 a2 b2 c2 d2 p2 q2 r2 s2 W) (first | (with_reducible exact psS KP) | (with_reducible exact psS KP.drew) | fail) (first | (go_at_call_of 19 (Value.agg #[.int .u64 (a1 : Int), .int .u64 (b1 : Int), .int .u64 (c1 : Int), .int .u64 (d1 : Int), .int .u64 (p1 : Int), .int .u64 (q1 : Int), .int .u64 (r1 : Int), .int .u64 (s1 : Int)]); refine (hR1 _).mono ?_; rintro e w2 ⟨v, rfl, hb2, rfl⟩; (first | (with_reducible (have KP1 := KP.drew.call hb2)) | (with_reducible (have KP1 := KP.call hb2)) | fail); clear KP hb2; have KP := KP1; clear KP1) | (go_at_call_of 19 (Value.agg #[.int .u64 (a2 : Int), .int .u64 (b2 : Int), .int .u64 (c2 : Int), .int .u64 (d2 : Int), .int .u64 (p2 : Int), .int .u64 (q2 : Int), .int .u64 (r2 : Int), .int .u64 (s2 : Int)]); refine (hR2 _).mono ?_; rintro e w2 ⟨v, rfl, hb2, rfl⟩; (first | (with_reducible (have KP1 := KP.drew.call hb2)) | (with_reducible (have KP1 := KP.call hb2)) | fail); clear KP hb2; have KP := KP1; clear KP1) | (go_at_call 20; refine (hP _).mono ?_; rintro e w2 ⟨v, rfl, hb2, rfl⟩; (first | (with_reducible (have KP1 := KP.drew.call hb2)) | (with_reducible (have KP1 := KP.call hb2)) | fail); clear KP hb2; have KP := KP1; clear KP1) | (go_at_call 21; refine (hT _).mono ?_; rintro e w2 ⟨v, rfl, hb2, rfl⟩; (first | (with_reducible (have KP1 := KP.drew.call hb2)) | (with_reducible (have KP1 := KP.call hb2)) | fail); clear KP hb2; have KP := KP1; clear KP1) | (go_at_call 16; refine (hBt _).mono ?_; rintro e w2 ⟨v, rfl, hb2, g, cap3, rfl, hc3, hg3, hlt3, hH3⟩; (first | (with_reducible (have KP1 := KP.drew.call hb2)) | (with_reducible (have KP1 := KP.call hb2)) | fail); have HO : Hid (OutP w (by33 z.1 z.2) (.tuple #[.slice (some ⟨g, 0, none⟩) 33 cap3, .int .i64 0]) w2) := ⟨g, cap3, rfl, hc3, Nat.le_trans KP.bl.size hg3, hlt3, hH3⟩; clear KP hb2 hH3 hg3 hlt3 hc3; have KP := KP1; clear KP1))
    go_wp2
    go_ret2
    refine ⟨_, rfl, KP.bl, ?_⟩
    unfold PlusR
    rw [HN.out.1, HN.out.2]
    dsimp only
    rw [HZ.out]
    exact HO.out
  · have HB : Hid (Below w.heap.size w w1) := (below1 w _).trans (hb1.mono (by simp))
    have HN : Hid (rd P az = none ∨ rd P bs = none) := by
      dsimp only at hno
      by_cases h0 : j = 0
      · rw [if_pos h0] at hno
        exact Or.inl hno
      · rw [if_neg h0] at hno
        exact Or.inr hno
    clear hb1 hno
    go_wp2
    go_ret2
    refine ⟨_, rfl, HB.out, ?_⟩
    unfold PlusR
    rcases HN.out with h | h
    · rw [h]
      cases rd P bs <;> exact rfl
    · rw [h]
      cases rd P az <;> exact rfl
end Go.Proofs.Yticolhhalbbogac
namespace Go.Proofs.Yticolhhalbbogac
open Go.RowKit Go.Sort Go.Deep
variable {P : Nat} [NeZero P]
theorem cell_below {w w1 : World} {k j : Nat} {v : Value} (h : w.cell? ⟨k, j, none⟩ = some v) (hb : Below w.heap.size w w1) (hk : k < w.heap.size) : w1.cell? ⟨k, j, none⟩ = some v := by
  have h1 : w.rangeAt k j [v] := fun i u hu => by
    cases i with
    | zero =>
      obtain rfl : v = u := Option.some.inj hu
      exact h
    | succ i => exact absurd hu (by simp)
  exact RG.range_below h1 hb hk 0 v rfl
theorem ArgsPts.below {w w1 : World} {q : Option Addr} {n : Nat} {L : Nat → Bs} (h : ArgsPts w q n L) (hb : Below w.heap.size w w1) : ArgsPts w1 q n L := fun hn => by
  obtain ⟨gg, hq, hlt, hc⟩ := h hn
  refine ⟨gg, hq, Nat.lt_of_lt_of_le hlt hb.size, fun j hj => ?_⟩
  obtain ⟨v, hv, ha⟩ := hc j hj
  exact ⟨v, cell_below hv hb hlt, ha.below hb⟩
theorem ArgsScs.below {w w1 : World} {q : Option Addr} {n : Nat} {L : Nat → Bs} (h : ArgsScs w q n L) (hb : Below w.heap.size w w1) : ArgsScs w1 q n L := fun hn => by
  obtain ⟨gg, hq, hlt, hc⟩ := h hn
  refine ⟨gg, hq, Nat.lt_of_lt_of_le hlt hb.size, fun j hj => ?_⟩
  obtain ⟨v, hv, ha⟩ := hc j hj
  exact ⟨v, cell_below hv hb hlt, ha.below hb⟩
/-- What Sum answers. -/
def SumR (P : Nat) [NeZero P] (N : Nat) (w : World) (n a : Nat) (L M : Nat → Bs) (e : Value) (w' : World) : Prop :=
  (n ≠ a ∧ OutE 2 e) ∨ (n = a ∧ 512 < n ∧ OutE 1 e) ∨ (n = a ∧ n ≤ 512 ∧ (((∃ j, j < n ∧ rq N (L j) = none) ∧ OutE 3 e) ∨
    ∃ ns : Nat → Nat, (∀ j, j < n → rq N (L j) = some (ns j)) ∧ (((∃ j, j < n ∧ rd P (M j) = none) ∧ OutE 4 e) ∨
      ∃ xs ys : Nat → Fin P, (∀ j, j < n → rd P (M j) = some (xs j, ys j)) ∧ OutP w (by33 (ptP (sumJ ns xs ys n 257)).1 (ptP (sumJ ns xs ys n 257)).2) e w')))
theorem choose_nat {A : Type} [Inhabited A] {n : Nat} {p : Nat → A → Prop} (h : ∀ j, j < n → ∃ a, p j a) : ∃ f : Nat → A, ∀ j, j < n → p j (f j) :=
  ⟨fun j => if hj : j < n then (h j hj).choose else default, fun j hj => by
    show p j (if hj : j < n then (h j hj).choose else default)
    rw [dif_pos hj]
    exact (h j hj).choose_spec⟩
theorem rq_top {N : Nat} (hN : N ≤ top) {bs : Bs} {m : Nat} (h : rq N bs = some m) : m < top := by
  unfold rq at h
  split at h
  · rename_i h1
    obtain rfl : beV bs.toList = m := Option.some.inj h
    exact Nat.lt_of_lt_of_le h1.2 hN
  · exact absurd h (by simp)
set_option maxHeartbeats 4000000 in
set_option maxRecDepth 100000 in
theorem gSum_c {N : Nat} (C : Fld P) (hG : Gap 4624529908474429119 4994812053365940164 1 N) (hN : N ≤ top) (q q' : Option Addr) (n cap a cap' : Nat) (L M : Nat → Bs) (w : World) (hL : ArgsScs w q n L) (hM : ArgsPts w q' a M) :
    Calls Try.prog 14 #[.slice q n cap, .slice q' a cap'] w (Ret fun e w' => Below w.heap.size w w' ∧ SumR P N w n a L M e w') := by
  have HL : Hid (ArgsScs w q n L) := hL
  have HM : Hid (ArgsPts w q' a M) := hM
  clear hL hM
  by_cases hna : n = a
  · subst hna
    by_cases h512 : 512 < n
    · go_enter Try.func14, Try.ntmps14
      go_wp2
      go_ret2
      exact ⟨_, rfl, RowKit.Below.refl _ _, Or.inr (Or.inl ⟨rfl, h512, rfl⟩)⟩
    · have H5 : n ≤ 512 := by omega
      go_enter Try.func14, Try.ntmps14
      go_wp2_with fail
      refine (Scs_c hG n cap H5 q L w HL.out).mono ?_
      rintro e w1 ⟨v, rfl, hb1, ⟨k, hk1, hk2, rfl, hrow⟩ | ⟨hno, rfl⟩⟩
      · obtain ⟨ns, hns⟩ := choose_nat hrow
        have HB : Hid (Below w.heap.size w w1) := hb1
        have HS : Hid (k < w1.heap.size ∧ ∀ j, j < n → w1.rangeAt k (4 * j) (wn (ns j))) := ⟨hk2, fun j hj => (hns j hj).2⟩
        have HN : Hid (∀ j, j < n → rq N (L j) = some (ns j)) := fun j hj => (hns j hj).1
        clear hrow hns hk1 hk2 hb1
        go_wp2_with fail
        refine (Pts_c C n cap' H5 q' M w1 (HM.out.below HB.out)).mono ?_
        rintro e w2 ⟨v, rfl, hb2, ⟨k', hk1, hk2, rfl, hrow⟩ | ⟨hno, rfl⟩⟩
        · obtain ⟨ps, hps⟩ := choose_nat hrow
          have HB2 : Hid (Below w.heap.size w w2) := HB.out.trans (hb2.mono HB.out.size)
          have HS2 : Hid (k < w2.heap.size ∧ ∀ j, j < n → w2.rangeAt k (4 * j) (wn (ns j))) := ⟨Nat.lt_of_lt_of_le HS.out.1 hb2.size, fun j hj => RG.range_below (HS.out.2 j hj) hb2 HS.out.1⟩
          have HP : Hid (k' < w2.heap.size ∧ ∀ j, j < n → w2.rangeAt k' (8 * j) (ws (ps j).1 ++ ws (ps j).2)) := ⟨hk2, fun j hj => (hps j hj).2⟩
          have HM2 : Hid (∀ j, j < n → rd P (M j) = some ((ps j).1, (ps j).2)) := fun j hj => (hps j hj).1
          clear hrow hps hk1 hk2 hb2
          have hBt : ∀ w, Calls Try.prog 16 #[pv (ptP (sumJ ns (fun j => (ps j).1) (fun j => (ps j).2) n 257)).1 (ptP (sumJ ns (fun j => (ps j).1) (fun j => (ps j).2) n 257)).2] w (Ret fun e w' => Below w.heap.size w w' ∧ BytesR w (by33 (ptP (sumJ ns (fun j => (ps j).1) (fun j => (ps j).2) n 257)).1 (ptP (sumJ ns (fun j => (ps j).1) (fun j => (ps j).2) n 257)).2) e w') := bytes_c C _ _
          have hS : Calls Try.prog 24 #[.slice (some ⟨k, 0, none⟩) n n, .slice (some ⟨k', 0, none⟩) n n] w2 (Ret fun e w' => Below w2.heap.size w2 w' ∧ e = pv (ptP (sumJ ns (fun j => (ps j).1) (fun j => (ps j).2) n 257)).1 (ptP (sumJ ns (fun j => (ps j).1) (fun j => (ps j).2) n 257)).2) := by
            refine (sums_c C n H5 ns (fun j => (ps j).1) (fun j => (ps j).2) (fun i hi => rq_top hN (HN.out i hi)) k k' w2 HS2.out.1 HP.out.1 HS2.out.2 HP.out.2).mono ?_
            rintro e w' ⟨v, rfl, hb, s, rfl, rfl⟩
            exact ⟨_, rfl, hb, rfl⟩
          generalize hz : ptP (sumJ ns (fun j => (ps j).1) (fun j => (ps j).2) n 257) = z at hS hBt
          have HZ : Hid (ptP (sumJ ns (fun j => (ps j).1) (fun j => (ps j).2) n 257) = z) := hz
          clear hz
          generalize pv z.1 z.2 = v4 at hS hBt
          go_wp2_with fail
          refine hS.mono ?_
          rintro e w3 ⟨v, rfl, hb3, rfl⟩
          have HB3 : Hid (Below w.heap.size w w3) := HB2.out.trans (hb3.mono HB2.out.size)
          clear hb3
          go_wp2_with fail
          refine (hBt _).mono ?_
          rintro e w4 ⟨v, rfl, hb4, g, cap3, rfl, hc3, hg3, hlt3, hH3⟩
          have HB4 : Hid (Below w.heap.size w w4) := HB3.out.trans (hb4.mono HB3.out.size)
          have HO : Hid (OutP w (by33 z.1 z.2) (.tuple #[.slice (some ⟨g, 0, none⟩) 33 cap3, .int .i64 0]) w4) := ⟨g, cap3, rfl, hc3, Nat.le_trans HB3.out.size hg3, hlt3, hH3⟩
          clear hb4 hH3
          go_wp2
          go_ret2
          refine ⟨_, rfl, HB4.out, Or.inr (Or.inr ⟨rfl, H5, Or.inr ⟨ns, HN.out, Or.inr ⟨_, _, HM2.out, ?_⟩⟩⟩)⟩
          rw [HZ.out]
          exact HO.out
        · have HB2 : Hid (Below w.heap.size w w2) := HB.out.trans (hb2.mono HB.out.size)
          have HO : Hid (∃ j, j < n ∧ rd P (M j) = none) := hno
          clear hb2 hno
          go_wp2
          go_ret2
          exact ⟨_, rfl, HB2.out, Or.inr (Or.inr ⟨rfl, H5, Or.inr ⟨ns, HN.out, Or.inl ⟨HO.out, rfl⟩⟩⟩)⟩
      · have HB : Hid (Below w.heap.size w w1) := hb1
        have HO : Hid (∃ j, j < n ∧ rq N (L j) = none) := hno
        clear hb1 hno
        go_wp2
        go_ret2
        exact ⟨_, rfl, HB.out, Or.inr (Or.inr ⟨rfl, H5, Or.inl ⟨HO.out, rfl⟩⟩)⟩
  · go_enter Try.func14, Try.ntmps14
    go_wp2
    go_ret2
    exact ⟨_, rfl, RowKit.Below.refl _ _, Or.inl ⟨hna, rfl⟩⟩
theorem one_scs {w : World} {v : Value} {bs : Bs} (T : TypeId) (h : Arg w v bs) : ArgsScs (w.alloc (.cells #[v] T)) (some ⟨w.heap.size, 0, none⟩) 1 (fun _ => bs) := fun _ =>
  ⟨w.heap.size, rfl, by rw [World.size_alloc]; omega, fun j hj => by
    obtain rfl : j = 0 := by omega
    exact ⟨v, by rw [World.cell?_alloc_new]; rfl, h.below (below1 w _)⟩⟩
theorem inn_one (ns : Nat → Nat) (xs ys : Nat → Fin P) (st : T3 P) (p : Nat) : inn ns xs ys st p 1 = inn (fun _ => ns 0) (fun _ => xs 0) (fun _ => ys 0) st p 1 := rfl
theorem sumJ_one (ns : Nat → Nat) (xs ys : Nat → Fin P) : ∀ m, sumJ ns xs ys 1 m = sumJ (fun _ => ns 0) (fun _ => xs 0) (fun _ => ys 0) 1 m
  | 0 => rfl
  | m + 1 => by
    unfold sumJ
    rw [sumJ_one ns xs ys m, inn_one]
/-- What Times answers. -/
def TimesR (P : Nat) [NeZero P] (N : Nat) (w : World) (az bs : Bs) (e : Value) (w' : World) : Prop := match rq N az, rd P bs with
  | none, _ => OutE 3 e
  | some _, none => OutE 4 e
  | some n, some p => OutP w (by33 (ptP (sumJ (fun _ => n) (fun _ => p.1) (fun _ => p.2) 1 257)).1 (ptP (sumJ (fun _ => n) (fun _ => p.1) (fun _ => p.2) 1 257)).2) e w'
set_option maxHeartbeats 4000000 in
theorem gTimes_c {N : Nat} (C : Fld P) (hG : Gap 4624529908474429119 4994812053365940164 1 N) (hN : N ≤ top) (v u : Value) (az bs : Bs) (w : World) (hv : Arg w v az) (hu : Arg33 w u bs) :
    Calls Try.prog 7 #[v, u] w (Ret fun e w' => Below w.heap.size w w' ∧ TimesR P N w az bs e w') := by
  have HV : Hid (Arg w v az ∧ Arg33 w u bs) := ⟨hv, hu⟩
  obtain ⟨q, n, cap, rfl, -⟩ := hv
  obtain ⟨q', n', cap', rfl, -⟩ := hu
  have HA : Hid (ArgsScs ((w.alloc (.cells #[.slice q n cap] 22)).alloc (.cells #[.slice q' n' cap'] 22)) (some ⟨w.heap.size, 0, none⟩) 1 (fun _ => az)) := (one_scs _ HV.out.1).below (below1 _ _)
  have HA' : Hid (ArgsPts ((w.alloc (.cells #[.slice q n cap] 22)).alloc (.cells #[.slice q' n' cap'] 22)) (some ⟨w.heap.size + 1, 0, none⟩) 1 (fun _ => bs)) := by
    have h := one_args 22 (HV.out.2.below (below1 w (.cells #[.slice q n cap] 22)))
    rw [World.size_alloc] at h
    exact h
  have HW : Hid (Below w.heap.size w ((w.alloc (.cells #[.slice q n cap] 22)).alloc (.cells #[.slice q' n' cap'] 22))) := (below1 w _).trans ((below1 _ _).mono (by simp))
  go_enter Try.func7, Try.ntmps7
  go_wp2_with fail
  refine (gSum_c C hG hN _ _ 1 1 1 1 (fun _ => az) (fun _ => bs) _ HA.out HA'.out).mono ?_
  have hone : ∀ m (ns : Nat → Nat) (xs ys : Nat → Fin P) W k z, m = 257 → Holds encB W k 0 (by33 (ptP (sumJ ns xs ys 1 m)).1 (ptP (sumJ ns xs ys 1 m)).2) → z = sumJ (fun _ => ns 0) (fun _ => xs 0) (fun _ => ys 0) 1 m → Holds encB W k 0 (by33 (ptP z).1 (ptP z).2) := by
    intro m ns xs ys W k z _ h hz
    rw [sumJ_one ns xs ys m] at h
    rw [hz]
    exact h
  rintro e w1 ⟨v, rfl, hb1, hs⟩
  have HB : Hid (Below w.heap.size w w1) := HW.out.trans (hb1.mono HW.out.size)
  have HT : Hid (TimesR P N w az bs v w1) := by
    unfold TimesR
    rcases hs with ⟨h, -⟩ | ⟨-, h, -⟩ | ⟨-, -, ⟨⟨j, -, h⟩, ho⟩ | ⟨ns, hns, ⟨⟨j, -, h⟩, ho⟩ | ⟨xs, ys, hp, g, cp, ho, hc, hg1, hg2, hH⟩⟩⟩
    · exact absurd rfl h
    · omega
    · rw [show rq N az = none from h]
      exact ho
    · rw [show rq N az = some (ns 0) from hns 0 (by decide), show rd P bs = none from h]
      exact ho
    · rw [show rq N az = some (ns 0) from hns 0 (by decide), show rd P bs = some (xs 0, ys 0) from hp 0 (by decide)]
      refine ⟨g, cp, ho, hc, ?_, hg2, ?_⟩
      · exact Nat.le_trans HW.out.size hg1
      · exact hone 257 ns xs ys _ _ _ rfl hH rfl
  clear hb1 hs
  have hv2 : ∃ a b, v = .tuple #[a, b] := by
    have := HT.out
    unfold TimesR at this
    split at this
    · exact ⟨_, _, this⟩
    · exact ⟨_, _, this⟩
    · obtain ⟨g, cp, ho, -⟩ := this
      exact ⟨_, _, ho⟩
  obtain ⟨a, b, rfl⟩ := hv2
  go_wp2
  go_ret2
  exact ⟨_, rfl, HB.out, HT.out⟩
end Go.Proofs.Yticolhhalbbogac
namespace Go.Proofs.Yticolhhalbbogac
open Go.RowKit Go.Sort Go.Deep
variable {P : Nat} [NeZero P]
/-- 33 zeros. -/
def zs33 : Bs := Array.replicate 33 0
theorem sq_mod (r d : Nat) : d * d % (r + d) = r * r % (r + d) := by
  have h : d * d + (r + d) * r = r * r + (r + d) * d := by
    rw [Nat.add_mul, Nat.add_mul, Nat.mul_comm d r]
    omega
  have h1 := congrArg (· % (r + d)) h
  simp only [Nat.add_mul_mod_self_left] at h1
  exact h1
theorem rt_sq {m y : Fin P} (h : rt m = some y) : y * y = m := by
  have h0 := rt_yes h
  unfold rt at h
  rw [if_pos h0] at h
  obtain rfl := Option.some.inj h
  have hP := Nat.pos_of_neZero P
  have hr : m.val ^ (P / 4 + 1) % P < P := Nat.mod_lt _ hP
  generalize m.val ^ (P / 4 + 1) % P = r at h0 hr
  apply Fin.ext
  rw [Fin.val_mul]
  show (even P r % P) * (even P r % P) % P = m.val
  rw [Nat.mod_eq_of_lt (even_lt hP hr), ← h0]
  unfold even
  split
  · have h2 := sq_mod r (P - r)
    rw [show r + (P - r) = P by omega] at h2
    exact h2
  · rfl
theorem zero33_iff {bs : Bs} (hs : bs.size = 33) : Zero33 bs ↔ bs = zs33 := by
  constructor
  · intro h
    apply Array.ext
    · rw [hs]; rfl
    · intro i h1 h2
      have := h i (List.mem_range.2 (by omega))
      rw [getElem!_pos bs i h1] at this
      have h3 : bs[i].toNat = 0 := by
        have h4 : ub bs[i] = (bs[i].toNat : Int) := rfl
        rw [h4] at this
        omega
      have h5 : (zs33)[i] = 0 := by
        have h6 : (Array.replicate 33 (0 : UInt8))[i]'h2 = 0 := Array.getElem_replicate _
        exact h6
      rw [h5]
      exact UInt8.toNat_inj.1 h3
  · rintro rfl i hi
    have hi := List.mem_range.1 hi
    unfold zs33
    rw [getElem!_pos _ i (by rw [Array.size_replicate]; exact hi), Array.getElem_replicate]
    rfl
theorem on_of {x y : Fin P} (h : y * y = x * x * x + 7) : EC.On (.some (x, y) : EC.Pt P) := by
  show y ^ 2 = x ^ 3 + 7
  grobner
theorem on_neg {x y : Fin P} (h : y * y = x * x * x + 7) : EC.On (.some (x, 0 - y) : EC.Pt P) := by
  show (0 - y) ^ 2 = x ^ 3 + 7
  grobner
/-- A point's bytes. -/
def wr : EC.Pt P → Bs
  | none => zs33
  | some (x, y) => #[mark y.val] ++ bx x.val
theorem by33_wr (C : Fld P) {x y : Fin P} {p : EC.Pt P} (h : EC.Pair x y p) (ho : EC.On p) : by33 x y = wr p := by
  unfold by33
  match p, h, ho with
  | none, h, _ => rw [if_pos (show x = 0 ∧ y = 0 from h)]; rfl
  | some (a, b), h, ho =>
    obtain ⟨rfl, rfl⟩ := h
    rw [if_neg (fun e => C.cur.y_ne ho e.2)]
    rfl
/-- The point that a pair is. -/
def pt (p : Fin P × Fin P) : EC.Pt P := if p.1 = 0 ∧ p.2 = 0 then none else some p
theorem pair_pt (C : Fld P) {x y : Fin P} {q : EC.Pt P} (h : EC.Pair x y q) (ho : EC.On q) : q = pt (x, y) := by
  unfold pt
  match q, h, ho with
  | none, h, _ => rw [if_pos (show x = 0 ∧ y = 0 from h)]
  | some (a, b), h, ho =>
    obtain ⟨rfl, rfl⟩ := h
    rw [if_neg (fun e => C.cur.y_ne ho e.2)]
theorem rd_on (C : Fld P) {bs : Bs} {p : Fin P × Fin P} (h : rd P bs = some p) : EC.Pair p.1 p.2 (pt p) ∧ EC.On (pt p) := by
  have key : ∃ q : EC.Pt P, EC.Pair p.1 p.2 q ∧ EC.On q := by
    unfold rd at h
    split at h
    · split at h
      · obtain rfl := Option.some.inj h
        exact ⟨none, ⟨rfl, rfl⟩, EC.none_on⟩
      · split at h
        · split at h
          · obtain ⟨y, hr, rfl⟩ := Option.map_eq_some_iff.1 h
            have hsq := rt_sq hr
            refine ⟨some (rdx P bs, if ub bs[0]! = 3 then 0 - y else y), ⟨rfl, rfl⟩, ?_⟩
            split
            · exact on_neg hsq
            · exact on_of hsq
          · cases h
        · cases h
    · cases h
  obtain ⟨q, h1, h2⟩ := key
  have := pair_pt C h1 h2
  rw [show pt p = q from this.symm]
  exact ⟨h1, h2⟩
/-- What Plus answers, by the points. -/
def PlusQ (P : Nat) [NeZero P] (w : World) (az bs : Bs) (e : Value) (w' : World) : Prop := match rd P az, rd P bs with
  | some p, some q => OutP w (wr (EC.add (pt p) (pt q))) e w'
  | _, _ => OutE 4 e
theorem PlusR.q (C : Fld P) {w w' : World} {az bs : Bs} {e : Value} (h : PlusR P w az bs e w') : PlusQ P w az bs e w' := by
  unfold PlusR at h
  unfold PlusQ
  cases h1 : rd P az with
  | none => rw [h1] at h; exact h
  | some p =>
    cases h2 : rd P bs with
    | none => rw [h1, h2] at h; exact h
    | some q =>
      rw [h1, h2] at h
      have hp := rd_on C h1
      have hq := rd_on C h2
      have hJ := (raJ_J C hp.1 hp.2).plus C (raJ_J C hq.1 hq.2)
      have e1 := by33_wr C (hJ.pair C) hJ.2
      dsimp only at h ⊢
      rw [← e1]
      exact h
def MinusQ (P : Nat) [NeZero P] (w : World) (bs : Bs) (e : Value) (w' : World) : Prop := match rd P bs with
  | some p => OutP w (wr (EC.neg (pt p))) e w'
  | none => OutE 4 e
theorem MinusR.q (C : Fld P) {w w' : World} {bs : Bs} {e : Value} (h : MinusR P w bs e w') : MinusQ P w bs e w' := by
  unfold MinusR at h
  unfold MinusQ
  cases h1 : rd P bs with
  | none => rw [h1] at h; exact h
  | some p =>
    rw [h1] at h
    have hp := rd_on C h1
    have hn : EC.Pair p.1 (0 - p.2) (EC.neg (pt p)) := by
      generalize pt p = q at hp
      match q, hp.1 with
      | none, h => exact ⟨h.1, by rw [show p.2 = 0 from h.2]; grobner⟩
      | some (a, b), h => exact ⟨h.1, by rw [show p.2 = b from h.2]; grobner⟩
    have e1 := by33_wr C hn (EC.neg_on hp.2)
    dsimp only at h ⊢
    rw [← e1]
    exact h
def TimesQ (P : Nat) [NeZero P] (N : Nat) (w : World) (az bs : Bs) (e : Value) (w' : World) : Prop := match rq N az, rd P bs with
  | none, _ => OutE 3 e
  | some _, none => OutE 4 e
  | some n, some p => OutP w (wr (EC.mul n (pt p))) e w'
theorem TimesR.q (C : Fld P) {N : Nat} (hN : N ≤ top) {w w' : World} {az bs : Bs} {e : Value} (h : TimesR P N w az bs e w') : TimesQ P N w az bs e w' := by
  unfold TimesR at h
  unfold TimesQ
  cases h1 : rq N az with
  | none => rw [h1] at h; exact h
  | some n =>
    cases h2 : rd P bs with
    | none => rw [h1, h2] at h; exact h
    | some p =>
      rw [h1, h2] at h
      have hp := rd_on C h2
      have hJ := sumJ_all C (N := 1) (ns := fun _ => n) (xs := fun _ => p.1) (ys := fun _ => p.2) (p := fun _ => pt p) (fun _ _ => rq_top hN h1) (fun _ _ => hp.1) (fun _ _ => hp.2)
      have e1 := by33_wr C (hJ.pair C) hJ.2
      have e2 : EC.tot (fun _ => pt p) 1 (fun _ => (n : Int)) = EC.mul n (pt p) := by
        rfl
      rw [e2] at e1
      dsimp only at h ⊢
      rw [← e1]
      exact h
omit [NeZero P] in
theorem wr_size (p : EC.Pt P) : (wr p).size = 33 := by
  match p with
  | none => rfl
  | some (x, y) =>
    show (#[mark y.val] ++ bx x.val).size = 33
    rw [Array.size_append, bx_size]
    rfl
end Go.Proofs.Yticolhhalbbogac
namespace Go.Proofs.Yticolhhalbbogac
theorem add_assoc_mod (a b c P : Nat) : ((a + b) % P + c) % P = (a + (b + c) % P) % P := by
  rw [Nat.add_mod ((a + b) % P), Nat.mod_mod, ← Nat.add_mod, Nat.add_mod a ((b + c) % P), Nat.mod_mod, ← Nat.add_mod, Nat.add_assoc]
theorem mul_assoc_mod (a b c P : Nat) : a * b % P * c % P = a * (b * c % P) % P := by
  rw [Nat.mul_mod (a * b % P), Nat.mod_mod, ← Nat.mul_mod, Nat.mul_mod a (b * c % P), Nat.mod_mod, ← Nat.mul_mod, Nat.mul_assoc]
theorem distrib_mod (a b c P : Nat) : a * ((b + c) % P) % P = (a * b % P + a * c % P) % P := by
  rw [Nat.mul_mod, Nat.mod_mod, ← Nat.mul_mod, Nat.mul_add, ← Nat.add_mod]
theorem add_sub_mod {a b P : Nat} (ha : a < P) (hb : b < P) : ((a + b) % P + P - b) % P = a := by
  by_cases h : a + b < P
  · rw [Nat.mod_eq_of_lt h, show a + b + P - b = a + P by omega, Nat.add_mod_right, Nat.mod_eq_of_lt ha]
  · have e : (a + b) % P = a + b - P := by rw [Nat.mod_eq_sub_mod (by omega), Nat.mod_eq_of_lt (by omega)]
    rw [e, show a + b - P + P - b = a by omega, Nat.mod_eq_of_lt ha]
theorem sub_self_mod {a P : Nat} (ha : a < P) : (a + P - a) % P = 0 := by
  rw [show a + P - a = P by omega, Nat.mod_self]
theorem inv_mod {a P : Nat} (h : NT.IsP P) (ha : a < P) (h0 : ¬ a = 0) : a * (a ^ (P - 2) % P) % P = 1 := by
  have h2 := h.1
  rw [Nat.mul_mod, Nat.mod_mod, ← Nat.mul_mod, Nat.mul_comm, ← Nat.pow_succ, show (P - 2).succ = P - 1 by omega]
  exact h.fermat1 a (fun hd => h0 (Nat.eq_zero_of_dvd_of_lt hd ha))
theorem inv_zero_mod {P : Nat} (h : 2 < P) : 0 ^ (P - 2) % P = 0 := by
  rw [Nat.zero_pow (by omega), Nat.zero_mod]
theorem root_mod {a P : Nat} (h : NT.IsP P) (h4 : P % 4 = 3) : (a * a % P) ^ (P / 4 + 1) % P * ((a * a % P) ^ (P / 4 + 1) % P) % P = a * a % P := by
  rw [← Nat.mul_mod, ← Nat.pow_add, ← Nat.pow_mod, ← Nat.pow_two, ← Nat.pow_mul, show 2 * (P / 4 + 1 + (P / 4 + 1)) = P + 1 by omega, Nat.pow_succ, Nat.mul_mod, h.fermat a, ← Nat.mul_mod, Nat.pow_two]
theorem root_is {a R P : Nat} (h : NT.IsP P) (ha : a < P) (hR : R < P) (he : R * R % P = a * a % P) : R = a ∨ R + a = P := by
  have key : ∀ x y : Nat, x < P → y < P → y ≤ x → x * x % P = y * y % P → x = y ∨ x + y = P := by
    intro x y hx hy hxy hxe
    have hd : P ∣ x * x - y * y := by
      refine Nat.dvd_of_mod_eq_zero ?_
      exact Nat.sub_mod_eq_zero_of_mod_eq hxe
    have hf : x * x - y * y = (x - y) * (x + y) := by
      rw [Nat.mul_comm (x - y), Nat.mul_self_sub_mul_self_eq]
    rw [hf] at hd
    rcases h.euclid hd with h1 | h1
    · left
      have := Nat.eq_zero_of_dvd_of_lt h1 (by omega)
      omega
    · obtain ⟨k, hk⟩ := h1
      have : k = 0 ∨ k = 1 ∨ 2 ≤ k := by omega
      rcases this with rfl | rfl | h2
      · left; omega
      · right; omega
      · have := Nat.mul_le_mul_left P h2
        omega
  rcases Nat.le_total a R with h1 | h1
  · exact key R a hR ha h1 he
  · rcases key a R ha hR h1 he.symm with h2 | h2
    · left; exact h2.symm
    · right; omega
end Go.Proofs.Yticolhhalbbogac
namespace Go.Proofs.Yticolhhalbbogac
open Go.RowKit Go.Sort Go.Deep
theorem w8_be8 (x : Nat) (hx : x < 18446744073709551616) :
    w8 (UInt8.ofNat (x / 72057594037927936)) (UInt8.ofNat (x / 281474976710656)) (UInt8.ofNat (x / 1099511627776)) (UInt8.ofNat (x / 4294967296)) (UInt8.ofNat (x / 16777216)) (UInt8.ofNat (x / 65536)) (UInt8.ofNat (x / 256)) (UInt8.ofNat x) = x := by
  unfold w8
  simp only [UInt8.toNat_ofNat']
  omega
theorem be32_list (a b c d : Nat) : (be32 a b c d).toList = [UInt8.ofNat (d / 72057594037927936), UInt8.ofNat (d / 281474976710656), UInt8.ofNat (d / 1099511627776), UInt8.ofNat (d / 4294967296), UInt8.ofNat (d / 16777216), UInt8.ofNat (d / 65536), UInt8.ofNat (d / 256), UInt8.ofNat d, UInt8.ofNat (c / 72057594037927936), UInt8.ofNat (c / 281474976710656), UInt8.ofNat (c / 1099511627776), UInt8.ofNat (c / 4294967296), UInt8.ofNat (c / 16777216), UInt8.ofNat (c / 65536), UInt8.ofNat (c / 256), UInt8.ofNat c, UInt8.ofNat (b / 72057594037927936), UInt8.ofNat (b / 281474976710656), UInt8.ofNat (b / 1099511627776), UInt8.ofNat (b / 4294967296), UInt8.ofNat (b / 16777216), UInt8.ofNat (b / 65536), UInt8.ofNat (b / 256), UInt8.ofNat b, UInt8.ofNat (a / 72057594037927936), UInt8.ofNat (a / 281474976710656), UInt8.ofNat (a / 1099511627776), UInt8.ofNat (a / 4294967296), UInt8.ofNat (a / 16777216), UInt8.ofNat (a / 65536), UInt8.ofNat (a / 256), UInt8.ofNat a] := by
  simp only [be32, be8, Array.toList_append, List.cons_append, List.nil_append]
theorem val_congr {a b c d p q r s : Nat} (h1 : a = p) (h2 : b = q) (h3 : c = r) (h4 : d = s) : val a b c d = val p q r s := by subst h1 h2 h3 h4; rfl
theorem beV_be32 (a b c d : Nat) (ha : a < 18446744073709551616) (hb : b < 18446744073709551616) (hc : c < 18446744073709551616) (hd : d < 18446744073709551616) : beV (be32 a b c d).toList = val a b c d :=
  (congrArg beV (be32_list a b c d)).trans ((beV_32 _ _ _ _ _ _ _ _ _ _ _ _ _ _ _ _ _ _ _ _ _ _ _ _ _ _ _ _ _ _ _ _).trans (val_congr (w8_be8 a ha) (w8_be8 b hb) (w8_be8 c hc) (w8_be8 d hd)))
theorem bx_val {n : Nat} (hn : n < top) : beV (bx n).toList = n := by
  unfold bx
  rw [beV_be32 _ _ _ _ (by omega) (by omega) (by omega) (by omega)]
  unfold val
  unfold top at hn
  omega
variable {P : Nat} [NeZero P]
theorem rt_of (C : Fld P) {y m : Fin P} (h : y * y = m) : rt m = some (if y.val % 2 = 1 then 0 - y else y) := by
  have hm : y.val * y.val % P = m.val := by rw [← h, Fin.val_mul]
  have h1 := root_mod (a := y.val) C.cur.pr C.p3
  rw [hm] at h1
  unfold rt
  rw [if_pos h1]
  have hP := Nat.pos_of_neZero P
  have hr : m.val ^ (P / 4 + 1) % P < P := Nat.mod_lt _ hP
  generalize m.val ^ (P / 4 + 1) % P = r at h1 hr
  have hy := y.isLt
  have h3 := C.p3
  have hor := root_is C.cur.pr hy hr (h1.trans hm.symm)
  congr 1
  apply Fin.ext
  show even P r % P = _
  unfold even
  have h0 : (0 - y : Fin P).val = (P - y.val) % P := by rw [← sub_fin, EC.val_zero, Nat.zero_add]
  by_cases ho : y.val % 2 = 1
  · rw [if_pos ho, h0]
    rcases hor with e | e
    · rw [e, if_pos ho]
    · rw [if_neg (by omega), show P - y.val = r by omega]
  · rw [if_neg ho]
    rcases hor with e | e
    · rw [e, if_neg ho, Nat.mod_eq_of_lt hy]
    · by_cases hz : y.val = 0
      · omega
      · rw [if_pos (by omega), show P - r = y.val by omega, Nat.mod_eq_of_lt hy]
theorem ub_mark (n : Nat) : ub (mark n) = if n % 2 = 1 then 3 else 2 := by
  unfold mark
  split <;> rfl
theorem tl_mark {m : UInt8} {b : Bs} (h : b.size = 32) : tl33 (#[m] ++ b) = b := by
  unfold tl33
  rw [Array.extract_append]
  have h1 : (#[m] : Bs).extract 1 33 = #[] := by rfl
  rw [h1]
  simp [h]
theorem mark_0 (m : UInt8) (b : Bs) : (#[m] ++ b)[0]! = m := by
  rw [getElem!_pos _ 0 (by rw [Array.size_append]; simp; omega), Array.getElem_append_left (by simp)]
  rfl
theorem rd_of (C : Fld P) {b : Bs} (hs : b.size = 33) {x y : Fin P} (hm : ub b[0]! = if y.val % 2 = 1 then 3 else 2) (hv : beV (tl33 b).toList = x.val) (h : EC.On (some (x, y) : EC.Pt P)) : rd P b = some (x, y) := by
  have hz : ¬ Zero33 b := fun hz => by
    have := hz 0 (List.mem_range.2 (by decide))
    rw [hm] at this
    split at this <;> omega
  have hx : rdx P b = x := by
    unfold rdx
    rw [hv]
    exact Fin.ext (Nat.mod_eq_of_lt x.isLt)
  have hy : y * y = x * x * x + 7 := by
    have : y ^ 2 = x ^ 3 + 7 := h
    grobner
  unfold rd
  rw [if_pos hs, if_neg hz, hm, hv, if_pos x.isLt, hx, rt_of C hy]
  by_cases ho : y.val % 2 = 1
  · rw [if_pos ho, if_pos (Or.inr rfl), if_pos ho, Option.map_some, if_pos rfl]
    have e : 0 - (0 - y) = y := by grobner
    rw [e]
  · rw [if_neg ho, if_pos (Or.inl rfl), if_neg ho, Option.map_some, if_neg (by decide)]
/-- What was written is read. -/
theorem rd_wr (C : Fld P) {X : EC.Pt P} (h : EC.On X) : ∃ p, rd P (wr X) = some p ∧ pt p = X := by
  match X, h with
  | none, _ =>
    refine ⟨(0, 0), ?_, by unfold pt; rw [if_pos ⟨rfl, rfl⟩]⟩
    have h1 : (wr (none : EC.Pt P)).size = 33 := wr_size _
    have h2 : Zero33 (wr (none : EC.Pt P)) := (zero33_iff h1).2 rfl
    generalize wr (none : EC.Pt P) = b at h1 h2
    unfold rd
    rw [if_pos h1, if_pos h2]
  | some (x, y), h =>
    have hs := wr_size (P := P) (some (x, y))
    have hb0 : (wr (some (x, y) : EC.Pt P))[0]! = mark y.val := mark_0 _ _
    have ht : tl33 (wr (some (x, y) : EC.Pt P)) = bx x.val := tl_mark (bx_size _)
    refine ⟨(x, y), rd_of C hs (by rw [hb0, ub_mark]) (by rw [ht, bx_val (C.top x)]) h, by unfold pt; rw [if_neg (fun e => C.cur.y_ne h e.2)]⟩
end Go.Proofs.Yticolhhalbbogac
namespace Go.Proofs.Yticolhhalbbogac
open Go.RowKit Go.Sort Go.Deep
variable {P : Nat} [NeZero P]
/-- The base. -/
def gxl : List Value := [.int .u64 6481385041966929816, .int .u64 188021827762530521, .int .u64 6170039885052185351, .int .u64 8772561819708210092]
def gyl : List Value := [.int .u64 11261198710074299576, .int .u64 18237243440184513561, .int .u64 6747795201694173352, .int .u64 5204712524664259685]
def gX (P : Nat) [NeZero P] : Fin P := Fin.ofNat P 55066263022277343669578718895168534326250603453777594175500187360389116729240
def gY (P : Nat) [NeZero P] : Fin P := Fin.ofNat P 32670510020758816978083085130507043184471273380659243275938904335757337482424
def gG (P : Nat) [NeZero P] : EC.Pt P := some (gX P, gY P)
theorem Fld.eq (C : Fld P) : P = 115792089237316195423570985008687907853269984665640564039457584007908834671663 := by
  have h := C.gap.hP
  have e : val 4294968273 0 0 0 = 4294968273 := by decide
  rw [e] at h
  unfold Go.Proofs.Yticolhhalbbogac.top at h
  omega
theorem gX_val (C : Fld P) : (gX P).val = 55066263022277343669578718895168534326250603453777594175500187360389116729240 := by
  have h := C.eq
  exact Nat.mod_eq_of_lt (by omega)
theorem gY_val (C : Fld P) : (gY P).val = 32670510020758816978083085130507043184471273380659243275938904335757337482424 := by
  have h := C.eq
  exact Nat.mod_eq_of_lt (by omega)
theorem gxl_ws (C : Fld P) : gxl = ws (gX P) := by
  show _ = wn (gX P).val
  rw [gX_val C]
  kernel_rfl
theorem gyl_ws (C : Fld P) : gyl = ws (gY P) := by
  show _ = wn (gY P).val
  rw [gY_val C]
  kernel_rfl
theorem g_eq : 32670510020758816978083085130507043184471273380659243275938904335757337482424 * 32670510020758816978083085130507043184471273380659243275938904335757337482424 % 115792089237316195423570985008687907853269984665640564039457584007908834671663 = (55066263022277343669578718895168534326250603453777594175500187360389116729240 * 55066263022277343669578718895168534326250603453777594175500187360389116729240 * 55066263022277343669578718895168534326250603453777594175500187360389116729240 + 7) % 115792089237316195423570985008687907853269984665640564039457584007908834671663 := by decide +kernel
theorem gG_on (C : Fld P) : EC.On (gG P) := by
  refine on_of (Fin.ext ?_)
  have h7 : (7 : Fin P).val = 7 := Nat.mod_eq_of_lt C.p7
  rw [Fin.val_mul, Fin.val_add, Fin.val_mul, Fin.val_mul, gX_val C, gY_val C, h7]
  have h := C.eq
  rw [h]
set_option maxHeartbeats 2000000 in
set_option maxRecDepth 100000 in
theorem base_v : Gives 15 #[] (.agg (gxl ++ gyl).toArray) := by
  intro w
  go_enter Try.func15, Try.ntmps15
  refine RG.M.enter [] 4 (by kernel_rfl) ?_
  intro a0 M0
  repeat refine wp_seq ?_
  refine M0.tx [.m 0 [] 0] [(0, RG.z 8)] [] [RG.z 8] [(0, .p 0 0)] (by kernel_rfl) (by kernel_rfl) ⟨RG.mk 0 40 fun _ _ => by kernel_rfl, trivial⟩ ?_
  intro j1 a1 w1 M1
  repeat refine wp_seq ?_
  refine M1.tx [.x 1 [] (.agg gxl.toArray), .x 2 [] (.agg gyl.toArray), .x 3 [(1, 0), (2, 1)] (.agg (gxl ++ gyl).toArray), .u [(3, 2)] 0] [] [(0, 3, gxl ++ gyl)] [gxl ++ gyl] [(0, .p 0 0)] (by kernel_rfl) (by kernel_rfl) ⟨RG.st fun _ _ => by kernel_rfl, RG.st fun _ _ => by kernel_rfl, RG.st fun _ _ => by kernel_rfl, RG.pt i109 (by kernel_rfl), trivial⟩ ?_
  intro a2 w2 M2
  refine wp_ret ?_
  refine bodyPost_ret (v := .agg (gxl ++ gyl).toArray) (RG.results_row M2.st 0 40 rfl 0 _ rfl (M2.at (s := .p 0 0) (by kernel_rfl)) u109 i109) M2.sl.defers ?_
  exact ⟨_, rfl, M2.st.bel.below, rfl⟩
theorem base_c (C : Fld P) : Gives 15 #[] (pv (gX P) (gY P)) := by
  unfold pv
  rw [← gxl_ws C, ← gyl_ws C]
  exact base_v
theorem gG_wr (C : Fld P) : by33 (gX P) (gY P) = wr (gG P) := by33_wr C ⟨rfl, rfl⟩ (gG_on C)
set_option maxHeartbeats 1000000 in
theorem Base_c (C : Fld P) (w : World) : Calls Try.prog 5 #[] w (Ret fun e w' => Below w.heap.size w w' ∧ BytesR w (wr (gG P)) e w') := by
  have HC : Hid (Fld P) := C
  clear C
  go_enter Try.func5, Try.ntmps5
  go_wp2_with fail
  refine (base_c HC.out _).mono ?_
  rintro e w1 ⟨v, rfl, hb1, rfl⟩
  go_wp2_with fail
  refine (bytes_c HC.out (gX P) (gY P) _).mono ?_
  rintro e w2 ⟨v, rfl, hb2, g, cap, rfl, h1, h2, h3, h4⟩
  rw [gG_wr HC.out] at h4
  have HB : Hid (Below w.heap.size w w2 ∧ BytesR w (wr (gG P)) (.slice (some ⟨g, 0, none⟩) 33 cap) w2) := ⟨hb1.trans (hb2.mono hb1.size), g, cap, rfl, h1, Nat.le_trans hb1.size h2, h3, h4⟩
  clear hb1 hb2 h1 h2 h3 h4
  go_wp2
  go_ret
  exact ⟨_, rfl, HB.out⟩
end Go.Proofs.Yticolhhalbbogac
namespace Go.Proofs.Yticolhhalbbogac
open Go.RowKit Go.Sort Go.Deep Go.Shelf
attribute [local go_sem] Oper.semAt_some
section
variable {F : Fence} {n : Nat} {P : Program} {ops : Array Oper} {rest : List Oper} {op : Oper} {a : Act} {w : World} {Q : Exit → Act → World → Prop}
theorem wpListIn_load_mid (hgd : op.guard = none) (ty : TypeId) (x : Operand) (ho : op.op = .load ty x) (b o : Nat) (hx : a.eval x = .pointer (some ⟨b, o, none⟩)) (cs : List Value) (d : TypeDesc) (hc : w.rangeAt b o cs)
    (hu : P.underlying ty = some d) (hd : d.isRow = true) (hi : (P.info? ty).map (·.size) = some cs.length) (h : wpListIn F n P ops Q rest (a.put op.dst (.agg cs.toArray)) w) : wpListIn F n P ops Q (op :: rest) a w :=
  wpListIn_plain hgd fun K hK => by
    refine ⟨fun f hf => (by unfold Oper.about at hf; rw [ho] at hf; cases hf), ?_⟩
    rw [Oper.semAt_eq _ _ _ (fun c => by rw [ho]; intro e; cases e)]
    unfold execOp
    simp only [ho, hx, Instr.loadAt, Instr.sureAddr, Sem.run_bind, Sem.run_pure, Result.andThen_ok, run_loadVar_mid w b o ty cs d hc hu hd hi]
    exact hK _ _ h
theorem wpListIn_store_mid (hgd : op.guard = none) (ty : TypeId) (x y : Operand) (ho : op.op = .store ty x y) (b o : Nat) (cells : Array Value) (hx : a.eval x = .pointer (some ⟨b, o, none⟩)) (hy : a.eval y = .agg cells)
    (ht : w.there b o cells.size) (hi : (P.info? ty).map (·.size) = some cells.size) (h1 : cells.all (·.oneCell') = true)
    (h : wpListIn F n P ops Q rest (a.put op.dst undef) (w.setCells b o cells.toList)) : wpListIn F n P ops Q (op :: rest) a w :=
  wpListIn_plain hgd fun K hK => by
    refine ⟨fun f hf => (by unfold Oper.about at hf; rw [ho] at hf; cases hf), ?_⟩
    rw [Oper.semAt_eq _ _ _ (fun c => by rw [ho]; intro e; cases e)]
    unfold execOp
    simp only [ho, hx, hy, Instr.storeAt, Instr.sureAddr, Sem.run_bind, Sem.run_pure, Result.andThen_ok, run_storeVar_mid w b o ty cells ht hi h1]
    exact hK _ _ h
end
/-- A row in a block of its own. -/
def Row (W : World) (k : Nat) (vs : List Value) : Prop := k < W.heap.size ∧ W.rangeAt k 0 vs ∧ W.there k 0 vs.length
theorem Row.cell {W : World} {k : Nat} {vs : List Value} (h : Row W k vs) {j : Nat} (hj : j < vs.length) : W.cell? ⟨k, j, none⟩ = some vs[j] := by
  have := h.2.1 j vs[j] (List.getElem?_eq_getElem hj)
  rwa [Nat.zero_add] at this
theorem row_own (k : Nat) (vs : List Value) : Own (fun (_ : Unit) W => Row W k vs) := fun s A B row hs hg hr => by
  refine ⟨Nat.lt_of_lt_of_le hs.1 hg.size, fun j v hj => ?_, fun j hj => ?_⟩
  · exact cell_kept (hs.2.1 j v hj) hg hr
  · have h1 := hs.2.1 j vs[j] (List.getElem?_eq_getElem hj)
    have h2 := cell_kept h1 hg hr
    exact ⟨by rw [h2]; rfl, (frozen_kept h1 hg hr).trans (hs.2.2 j hj).2⟩
theorem ko_setCells (k : Nat) : ∀ (vs : List Value) (o : Nat) (W : World), KeepsOthers W (W.setCells k o vs)
  | [], _, W => KeepsOthers.refl W
  | v :: vs, o, W => (KeepsOthers.setCell W ⟨k, o, none⟩ v).trans (ko_setCells k vs (o + 1) _)
theorem Row.alloc {W : World} {k : Nat} {vs : List Value} (h : Row W k vs) (o : Obj) : Row (W.alloc o) k vs :=
  row_own k vs () W (W.alloc o) none h (World.grownBy_alloc W o none) (fun _ e => by cases e)
theorem Row.putObj {W : World} {k D : Nat} {vs : List Value} (h : Row W k vs) {o : Obj} (hD : W.heap[D]? = some o) (ho : o.isCells = false) (o' : Obj) : Row (W.putObj D o') k vs :=
  row_own k vs () W (W.putObj D o') (some D) h (grownBy_putObj' W D o') (fun r e => by cases e; exact ⟨_, hD, ho⟩)
theorem Row.below {W W' : World} {k : Nat} {vs : List Value} (h : Row W k vs) (hb : Below W.heap.size W W') : Row W' k vs := by
  have e := hb.block k h.1
  refine ⟨Nat.lt_of_lt_of_le h.1 hb.size, fun j v hj => ?_, fun j hj => ?_⟩
  · exact (World.cell?_of_block e).trans (h.2.1 j v hj)
  · have h1 := h.2.2 j hj
    exact ⟨by rw [World.cell?_of_block e]; exact h1.1, (World.frozen?_of_block e).trans h1.2⟩
theorem results_cell {P : Program} {fn : Func} {tmps : Array Value} {W : World} {k : Nat} {vs : List Value} (t : Tmp) (T : TypeId) (hr : fn.results = #[.cell t T]) (h : Row W k vs) (ht : tmps[t]? = some (.pointer (some ⟨k, 0, none⟩)))
    (hu : (P.underlying T).map (·.isRow) = some true) (hi : (P.info? T).map (·.size) = some vs.length) : (results fn tmps).run P W = .ok (.agg vs.toArray) W := by
  obtain ⟨d, hu, hd⟩ := Option.map_eq_some_iff.1 hu
  have h1 := run_loadVar_mid (P := P) W k 0 T vs d h.2.1 hu hd hi
  have h2 : tmps.getD t undef = .pointer (some ⟨k, 0, none⟩) := by rw [Array.getD_eq_getD_getElem?, ht]; rfl
  unfold results
  rw [hr]
  simp only [Array.mapM_eq_mapM_toList, List.mapM_cons, List.mapM_nil, h2, asAddr]
  simp [Sem.run_bind, h1]
theorem Row.put {W : World} {k : Nat} {vs us : List Value} (h : Row W k vs) (hl : us.length = vs.length) : Row (W.setCells k 0 us) k us :=
  ⟨by rw [RG.setCells_size]; exact h.1, World.rangeAt_setCells_same W k 0 us (by rw [hl]; exact h.2.2), by rw [hl]; exact World.there_setCells h.2.2 _ _ _⟩
theorem Row.other {W : World} {k j : Nat} {vs us : List Value} (h : Row W k vs) (hne : k ≠ j) : Row (W.setCells j 0 us) k vs :=
  ⟨by rw [RG.setCells_size]; exact h.1, World.rangeAt_setCells_apart h.2.1 j 0 us (Or.inl hne), World.there_setCells h.2.2 _ _ _⟩
variable {P : Nat} [NeZero P]
set_option maxHeartbeats 4000000 in
set_option maxRecDepth 100000 in
theorem first_c (C : Fld P) (lb : Array Value) (L : List (Fin P × Fin P)) (N : Nat) (w : World)
    (hseq : ∀ n, SeqStopsK Fence.wide n Try.prog 44 lb (fun x : Fin P × Fin P => #[pv x.1 x.2]) (Below w.heap.size) (fun xs => xs = L) (fun pre => pre <+: L) N w) :
    Calls Try.prog 25 #[.func (.func 44) #[] lb] w (Ret fun e w' => Below w.heap.size w w' ∧ e = pv (L.headD (gX P, gY P)).1 (L.headD (gX P, gY P)).2) := by
  refine (callsIn_wide (n := 5)).1 ?_
  refine callsIn_of_wp_marks Try.func25 rfl trivial ?_ rfl
  simp only [Try.ntmps25, List.size_toArray, List.length_cons, List.length_nil, Nat.reduceAdd, Nat.reduceSub, Array.replicate_succ, Array.replicate_zero, List.push_toArray, List.append_toArray, List.nil_append, List.cons_append]
  gi_wp2
  have hM := RG.Made.alloc w [.int .u64 0, .int .u64 0, .int .u64 0, .int .u64 0, .int .u64 0, .int .u64 0, .int .u64 0, .int .u64 0] 40
  have hR0 : Row (w.alloc (.cells #[.int .u64 0, .int .u64 0, .int .u64 0, .int .u64 0, .int .u64 0, .int .u64 0, .int .u64 0, .int .u64 0] 40)) w.heap.size [.int .u64 0, .int .u64 0, .int .u64 0, .int .u64 0, .int .u64 0, .int .u64 0, .int .u64 0, .int .u64 0] := ⟨hM.lt, hM.range, hM.there⟩
  have hB0 : Below w.heap.size w (w.alloc (.cells #[.int .u64 0, .int .u64 0, .int .u64 0, .int .u64 0, .int .u64 0, .int .u64 0, .int .u64 0, .int .u64 0] 40)) := hM.bel
  clear hM
  obtain ⟨W0, hW0⟩ : ∃ W0, W0 = w.alloc (.cells #[.int .u64 0, .int .u64 0, .int .u64 0, .int .u64 0, .int .u64 0, .int .u64 0, .int .u64 0, .int .u64 0] 40) := ⟨_, rfl⟩
  have hsz : W0.heap.size = w.heap.size + 1 := by rw [hW0, World.size_alloc]
  rw [← hW0] at hR0 hB0 ⊢
  clear hW0
  refine wpIn_rangeFunc_ownH (α := Fin P × Fin P) rfl (by decide) (gf := 44) (lb := lb) rfl trivial (enters_of Try.func44 (by kernel_rfl) rfl) (hseq 4) belowK_t (belowK_b (by omega)) hB0 (fun _ => rfl)
    (fun pre W => (pre = [] ∧ Row W w.heap.size [.int .u64 0, .int .u64 0, .int .u64 0, .int .u64 0, .int .u64 0, .int .u64 0, .int .u64 0, .int .u64 0]) ∧ Below w.heap.size w W)
    (fun c pre W => (c = .ret ∧ ∃ x : Fin P × Fin P, pre = [x] ∧ Row W w.heap.size (ws x.1 ++ ws x.2)) ∧ Below w.heap.size w W)
    (OwnFrom.and (Own.from (fun s A B row hs hg hr => ⟨hs.1, row_own _ _ () A B row hs.2 hg hr⟩) _) (ownFrom_below (Nat.le_refl _) (by omega)))
    (fun c => OwnFrom.and (Own.from (fun s A B row hs hg hr => ⟨hs.1, hs.2.imp fun x hx => ⟨hx.1, row_own _ _ () A B row hx.2 hg hr⟩⟩) _) (ownFrom_below (Nat.le_refl _) (by omega)))
    ⟨⟨rfl, hR0⟩, hB0⟩
    (fun x a' W => ∃ Bx, w.heap.size < Bx ∧ Row W Bx (ws x.1 ++ ws x.2) ∧ a' = { tmps := #[.func (.func 44) #[] lb, undef, .pointer (some ⟨w.heap.size, 0, none⟩), .pointer (some ⟨Bx, 0, none⟩), .func (.func 44) #[] lb, pv x.1 x.2, undef, undef], defers := [] })
    (fun x a' => Own.from (fun s A B row hs hg hr => hs.imp fun Bx hx => ⟨hx.1, row_own _ _ () A B row hx.2.1 hg hr, hx.2.2⟩) _) ?assign ?body ?done ?stop
  case assign =>
    intro l pre x W K hI hK
    have hMx := RG.Made.alloc W [.int .u64 0, .int .u64 0, .int .u64 0, .int .u64 0, .int .u64 0, .int .u64 0, .int .u64 0, .int .u64 0] 40
    have hth := hMx.there
    gi_wp2_with (refine wpListIn_store_mid rfl 40 _ _ rfl W.heap.size 0 (ws x.1 ++ ws x.2).toArray rfl rfl hth i109 (by kernel_rfl) ?_)
    have hle := hI.1.2.1
    have hbl : Below w.heap.size W ((W.alloc (.cells #[.int .u64 0, .int .u64 0, .int .u64 0, .int .u64 0, .int .u64 0, .int .u64 0, .int .u64 0, .int .u64 0] 40)).setCells W.heap.size 0 (ws x.1 ++ ws x.2)) :=
      RG.below_setCells (Nat.le_of_lt hle) _ _ _ ((Below.refl _ W).alloc (Nat.le_of_lt hle) _)
    exact hK _ _ (((KeepsOthers.alloc W _).trans (ko_setCells _ _ _ _)).from _) hbl ⟨⟨hI.1.1, (hI.1.2.alloc _).other (Nat.ne_of_lt hle)⟩, hI.2.trans hbl⟩
      ⟨W.heap.size, hle, Row.put (vs := [.int .u64 0, .int .u64 0, .int .u64 0, .int .u64 0, .int .u64 0, .int .u64 0, .int .u64 0, .int .u64 0]) ⟨hMx.lt, hMx.range, hMx.there⟩ rfl, rfl⟩
  case body =>
    rintro l pre x a' W hl ⟨r, hr⟩ ⟨⟨rfl, hRow⟩, hB⟩ ⟨Bx, hBx, hX, rfl⟩ hlt
    obtain ⟨d, hd1, hd2⟩ := Option.map_eq_some_iff.1 u109
    have hXr := hX.2.1
    have hth := hRow.2.2
    gi_wp2_with (first | refine wpListIn_load_mid rfl 40 _ rfl Bx 0 rfl (ws x.1 ++ ws x.2) d hXr hd1 hd2 i109 ?_ | refine wpListIn_store_mid rfl 40 _ _ rfl w.heap.size 0 (ws x.1 ++ ws x.2).toArray rfl rfl hth i109 (by kernel_rfl) ?_)
    exact ⟨(ko_setCells _ _ _ _).from _, ⟨rfl, x, rfl, hRow.put rfl⟩, RG.below_setCells (Nat.le_refl _) _ _ _ hB⟩
  case done =>
    rintro D ys W hD rfl ⟨⟨rfl, hRow⟩, hB⟩ hK
    have hth := hRow.2.2
    gi_wp2_with fail
    refine ⟨trivial, (callsIn_wide.2 (base_c C _)).mono ?_⟩
    rintro e w2 ⟨v, rfl, hb2, rfl⟩
    have hRow2 : Row w2 w.heap.size [.int .u64 0, .int .u64 0, .int .u64 0, .int .u64 0, .int .u64 0, .int .u64 0, .int .u64 0, .int .u64 0] := hRow.below hb2
    have hth2 := hRow2.2.2
    gi_wp2_with (refine wpListIn_store_mid rfl 40 _ _ rfl w.heap.size 0 (ws (gX P) ++ ws (gY P)).toArray rfl rfl hth2 i109 (by kernel_rfl) ?_)
    have hK2 : (w2.setCells w.heap.size 0 (ws (gX P) ++ ws (gY P))).heap[D]? = some (.deferred (some [])) := by
      rw [RG.setCells_other _ _ _ _ _ (by omega), hb2.block D (Array.getElem?_eq_some_iff.1 hK).1]
      exact hK
    have hB2 : Below w.heap.size w (w2.setCells w.heap.size 0 (ws (gX P) ++ ws (gY P))) := RG.below_setCells (Nat.le_refl _) _ _ _ (hB.trans (hb2.mono hB.size))
    have hRow3 : Row (w2.setCells w.heap.size 0 (ws (gX P) ++ ws (gY P))) w.heap.size (ws (gX P) ++ ws (gY P)) := hRow2.put rfl
    refine ⟨by simp, .inl ⟨_, _, rfl, run_takeDeferred hK2, ?_⟩⟩
    exact ⟨_, results_cell 2 40 rfl (hRow3.putObj hK2 rfl _) rfl u109 i109, _, rfl, hB2.trans (belowK_b (w := W0) (by omega) _ D _ _ hD hK2 rfl rfl), rfl⟩
  case stop =>
    rintro D c pre W hD hpre ⟨⟨rfl, x, rfl, hRow⟩, hB⟩ hK
    gi_wp2
    obtain ⟨L', hL⟩ := hpre
    have hL2 : L = x :: L' := hL.symm
    rw [hL2]
    refine ⟨by simp, .inl ⟨_, _, rfl, run_takeDeferred hK, ?_⟩⟩
    exact ⟨_, results_cell 2 40 rfl (hRow.putObj hK rfl _) rfl u109 i109, _, rfl, hB.trans (belowK_b (w := W0) (by omega) _ D _ _ hD hK rfl rfl), rfl⟩
end Go.Proofs.Yticolhhalbbogac
namespace Go.Proofs.Yticolhhalbbogac.SP
open Go.RowKit
theorem lt64 (x : BitVec 64) : (x.toNat : Int) < 18446744073709551616 := by
  have := x.isLt
  omega
theorem ofInt_toNat64 (x : BitVec 64) : BitVec.ofInt 64 (x.toNat : Int) = x := by
  apply BitVec.eq_of_toNat_eq
  rw [BitVec.ofInt_natCast, BitVec.toNat_ofNat]
  exact Nat.mod_eq_of_lt x.isLt
theorem wrap_u64_toNat (x : BitVec 64) : IntKind.u64.wrap (x.toNat : Int) = x.toNat := by
  rw [IntKind.wrap_u64]
  have := lt64 x
  exact Int.emod_eq_of_lt (by omega) this
/-- A word's number. -/
def u (v : BitVec 64) : Int := (v.toNat : Int)
theorem u_lt (v : BitVec 64) : u v < 18446744073709551616 := lt64 v
theorem u_nonneg (v : BitVec 64) : 0 ≤ u v := Int.natCast_nonneg _
theorem bits_xor64 (a b : BitVec 64) : bits .xor .u64 (u a) (u b) = u (a ^^^ b) := by
  show IntKind.u64.wrap ((BitVec.ofInt 64 (a.toNat : Int) ^^^ BitVec.ofInt 64 (b.toNat : Int)).toNat : Int) = _
  rw [ofInt_toNat64, ofInt_toNat64, wrap_u64_toNat]
  rfl
theorem bits_and64 (a b : BitVec 64) : bits .and .u64 (u a) (u b) = u (a &&& b) := by
  show IntKind.u64.wrap ((BitVec.ofInt 64 (a.toNat : Int) &&& BitVec.ofInt 64 (b.toNat : Int)).toNat : Int) = _
  rw [ofInt_toNat64, ofInt_toNat64, wrap_u64_toNat]
  rfl
theorem bits_or64 (a b : BitVec 64) : bits .or .u64 (u a) (u b) = u (a ||| b) := by
  show IntKind.u64.wrap ((BitVec.ofInt 64 (a.toNat : Int) ||| BitVec.ofInt 64 (b.toNat : Int)).toNat : Int) = _
  rw [ofInt_toNat64, ofInt_toNat64, wrap_u64_toNat]
  rfl
theorem bits_not64 (a : BitVec 64) : bits .xor .u64 IntKind.u64.max (u a) = u (~~~a) := by
  have e : IntKind.u64.max = u (BitVec.allOnes 64) := by decide +kernel
  rw [e, bits_xor64, BitVec.allOnes_xor]
theorem and63 (k : Nat) (hk : k < 64) : bits .and .u64 (k : Int) 63 = k := by
  have h : ∀ j : Fin 64, bits .and .u64 ((j.val : Nat) : Int) 63 = (j.val : Int) := by decide +kernel
  exact h ⟨k, hk⟩
theorem shl64 (x : BitVec 64) (k : Nat) : IntKind.u64.wrap (u x * 2 ^ k) = u (x <<< k) := by
  unfold u
  rw [IntKind.wrap_u64, BitVec.toNat_shiftLeft, Nat.shiftLeft_eq, Int.natCast_emod, Int.natCast_mul, Int.natCast_pow]
  rfl
theorem shr64 (x : BitVec 64) (k : Nat) : u x / 2 ^ k = u (x >>> k) := by
  unfold u
  rw [BitVec.toNat_ushiftRight, Nat.shiftRight_eq_div_pow, Int.natCast_ediv, Int.natCast_pow]
  rfl
def rol (w : BitVec 64) (n : Nat) : BitVec 64 := w <<< n ||| w >>> (64 - n)
abbrev St := Array (BitVec 64)
/-- A word as the model holds it. -/
def enc (v : BitVec 64) : Value := .int .u64 (u v)
def colsum (d : St) (x : Nat) : BitVec 64 := d[x]! ^^^ d[x + 5]! ^^^ d[x + 10]! ^^^ d[x + 15]! ^^^ d[x + 20]!
def sumsTo (d : St) : Nat → St
  | 0 => #[0, 0, 0, 0, 0]
  | k + 1 => (sumsTo d k).setIfInBounds k (colsum d k)
def xorAt (d : St) (i : Nat) (v : BitVec 64) : St := d.setIfInBounds i (d[i]! ^^^ v)
def innerTo (v : BitVec 64) (x : Nat) (d : St) : Nat → St
  | 0 => d
  | m + 1 => xorAt (innerTo v x d m) (x + 5 * m) v
def dcol (s : St) (x : Nat) : BitVec 64 := s[(x + 4) % 5]! ^^^ rol s[(x + 1) % 5]! 1
def thetaTo (s d : St) : Nat → St
  | 0 => d
  | k + 1 => innerTo (dcol s k) k (thetaTo s d k) 5
def theta (d : St) : St := thetaTo (sumsTo d 5) d 5
theorem xorAt_size (d : St) (i : Nat) (v : BitVec 64) : (xorAt d i v).size = d.size := by simp [xorAt]
theorem sumsTo_size (d : St) (k : Nat) : (sumsTo d k).size = 5 := by
  induction k with
  | zero => rfl
  | succ k ih => simp [sumsTo, ih]
theorem innerTo_size (v : BitVec 64) (x : Nat) (d : St) (m : Nat) : (innerTo v x d m).size = d.size := by
  induction m with
  | zero => rfl
  | succ k ih => simp [innerTo, xorAt_size, ih]
theorem thetaTo_size (s d : St) (m : Nat) : (thetaTo s d m).size = d.size := by
  induction m with
  | zero => rfl
  | succ k ih => simp [thetaTo, innerTo_size, ih]
/-- turnAndMove behind t rounds: x, y, what moves, the words. -/
structure Tm where
  x : Nat
  y : Nat
  m : BitVec 64
  d : St
def offs (t : Nat) : Nat := (t + 1) * (t + 2) / 2 % 64
def tmStep (t : Nat) (s : Tm) : Tm :=
  { x := s.y, y := (2 * s.x + 3 * s.y) % 5, m := s.d[s.y + 5 * ((2 * s.x + 3 * s.y) % 5)]!, d := s.d.setIfInBounds (s.y + 5 * ((2 * s.x + 3 * s.y) % 5)) (rol s.m (offs t)) }
def tmTo (d : St) : Nat → Tm
  | 0 => { x := 1, y := 0, m := d[1]!, d := d }
  | t + 1 => tmStep t (tmTo d t)
def rhopi (d : St) : St := (tmTo d 24).d
theorem tmTo_ok (d : St) (hd : d.size = 25) (t : Nat) : (tmTo d t).x < 5 ∧ (tmTo d t).y < 5 ∧ (tmTo d t).d.size = 25 := by
  induction t with
  | zero => exact ⟨show 1 < 5 by decide, show 0 < 5 by decide, hd⟩
  | succ t ih =>
    obtain ⟨h1, h2, h3⟩ := ih
    refine ⟨h2, ?_, ?_⟩
    · show (2 * (tmTo d t).x + 3 * (tmTo d t).y) % 5 < 5
      omega
    · show ((tmTo d t).d.setIfInBounds _ _).size = 25
      rw [Array.size_setIfInBounds, h3]
/-- mixRows: one row, then all of them. -/
def rowAt (d : St) (i : Nat) : St :=
  xorAt (xorAt (xorAt (xorAt (xorAt d i (~~~d[i + 1]! &&& d[i + 2]!)) (i + 1) (~~~d[i + 2]! &&& d[i + 3]!)) (i + 2) (~~~d[i + 3]! &&& d[i + 4]!)) (i + 3) (~~~d[i + 4]! &&& d[i]!)) (i + 4) (~~~d[i]! &&& d[i + 1]!)
def chiTo (d : St) : Nat → St
  | 0 => d
  | k + 1 => rowAt (chiTo d k) (5 * k)
def chi (d : St) : St := chiTo d 5
theorem rowAt_size (d : St) (i : Nat) : (rowAt d i).size = d.size := by simp [rowAt, xorAt_size]
theorem chiTo_size (d : St) (k : Nat) : (chiTo d k).size = d.size := by
  induction k with
  | zero => rfl
  | succ k ih => simp [chiTo, rowAt_size, ih]
end Go.Proofs.Yticolhhalbbogac.SP
namespace Go.Proofs.Yticolhhalbbogac.SP
open Go.RowKit
/-- The register of the rounds' constants, one step on. -/
def rcReg (r : Nat) : Nat := if 255 < 2 * r then (2 * r) ^^^ 369 else 2 * r
def rcTo (r : Nat) : Nat → BitVec 64 × Nat
  | 0 => (0, r)
  | j + 1 => ((rcTo r j).1 ||| BitVec.ofNat 64 ((rcTo r j).2 % 2) <<< (2 ^ j - 1), rcReg (rcTo r j).2)
theorem rcReg_lt (r : Nat) (h : r < 256) : rcReg r < 256 := by
  have H : ∀ j : Fin 256, rcReg j.val < 256 := by decide +kernel
  exact H ⟨r, h⟩
theorem rcTo_lt (r : Nat) (h : r < 256) (j : Nat) : (rcTo r j).2 < 256 := by
  induction j with
  | zero => exact h
  | succ j ih => exact rcReg_lt _ ih
theorem rc_xor (r : Nat) (h : r < 256) : bits .xor .i64 ((r : Int) * 2) 369 = (((2 * r) ^^^ 369 : Nat) : Int) := by
  have H : ∀ j : Fin 256, bits .xor .i64 ((j.val : Int) * 2) 369 = (((2 * j.val) ^^^ 369 : Nat) : Int) := by decide +kernel
  exact H ⟨r, h⟩
theorem rc_and (r : Nat) (h : r < 256) : bits .and .i64 (r : Int) 1 = u (BitVec.ofNat 64 (r % 2)) := by
  have H : ∀ j : Fin 256, bits .and .i64 (j.val : Int) 1 = u (BitVec.ofNat 64 (j.val % 2)) := by decide +kernel
  exact H ⟨r, h⟩
theorem wrap_u (x : BitVec 64) : IntKind.u64.wrap (u x) = u x := wrap_u64_toNat x
def kround (d : St) (c : BitVec 64) : St := xorAt (chi (rhopi (theta d))) 0 c
/-- A round's constant, and the register as the next round needs it. -/
def rcC (r : Nat) : BitVec 64 := (rcTo r 7).1
def rcN (r : Nat) : Nat := (rcTo r 7).2
theorem rcN_lt (r : Nat) (h : r < 256) : rcN r < 256 := by
  unfold rcN
  exact rcTo_lt r h 7
def rcAt : Nat → Nat
  | 0 => 1
  | k + 1 => rcN (rcAt k)
theorem rcAt_lt (k : Nat) : rcAt k < 256 := by
  induction k with
  | zero => decide
  | succ k ih => exact rcN_lt _ ih
/-- The words behind k rounds. -/
def permTo (d : St) : Nat → St
  | 0 => d
  | k + 1 => kround (permTo d k) (rcC (rcAt k))
def perm (d : St) : St := permTo d 24
theorem theta_size (d : St) : (theta d).size = d.size := thetaTo_size _ _ _
theorem rhopi_size (d : St) (hd : d.size = 25) : (rhopi d).size = 25 := (tmTo_ok d hd 24).2.2
theorem chi_size (d : St) : (chi d).size = d.size := chiTo_size _ _
theorem kround_size (d : St) (c : BitVec 64) (hd : d.size = 25) : (kround d c).size = 25 := by
  unfold kround
  rw [xorAt_size, chi_size, rhopi_size]
  rw [theta_size, hd]
theorem permTo_size (d : St) (hd : d.size = 25) (k : Nat) : (permTo d k).size = 25 := by
  induction k with
  | zero => exact hd
  | succ k ih => exact kround_size _ _ ih
theorem perm_size (d : St) (hd : d.size = 25) : (perm d).size = 25 := permTo_size d hd 24
abbrev Bs := Array UInt8
/-- A byte's number; a byte as the model holds it. -/
def ub (x : UInt8) : Int := (x.toNat : Int)
def encB (x : UInt8) : Value := .int .u8 (ub x)
/-- A byte as a word; a word's lowest byte. -/
def wide (x : UInt8) : BitVec 64 := BitVec.ofNat 64 x.toNat
def low (v : BitVec 64) : UInt8 := UInt8.ofNat v.toNat
theorem ub_lt (x : UInt8) : ub x < 256 := by
  have := x.toNat_lt
  unfold ub
  omega
theorem ub_nonneg (x : UInt8) : 0 ≤ ub x := Int.natCast_nonneg _
theorem wide_ub (x : UInt8) : ub x = u (wide x) := by
  unfold ub u wide
  rw [BitVec.toNat_ofNat, Nat.mod_eq_of_lt]
  have := x.toNat_lt
  omega
theorem wrap_ub (x : UInt8) : IntKind.u64.wrap (ub x) = u (wide x) := by rw [wide_ub, wrap_u]
theorem low_u (v : BitVec 64) : IntKind.u8.wrap (u v) = ub (low v) := by
  have e : IntKind.u8.wrap (u v) = u v % 256 := by simp [IntKind.wrap, IntKind.bits, IntKind.signed]
  rw [e]
  unfold u ub low
  rw [UInt8.toNat_ofNat']
  omega
/-- The word that begins at place o, its first k bytes. -/
def wordTo (bs : Bs) (o : Nat) : Nat → BitVec 64
  | 0 => 0
  | i + 1 => wordTo bs o i ||| wide bs[o + i]! <<< (8 * i)
def wordOf (bs : Bs) (o : Nat) : BitVec 64 := wordTo bs o 8
def mixTo (bs : Bs) (d : St) : Nat → St
  | 0 => d
  | i + 1 => xorAt (mixTo bs d i) i (wordOf bs (8 * i))
theorem mixTo_size (bs : Bs) (d : St) (k : Nat) : (mixTo bs d k).size = d.size := by
  induction k with
  | zero => rfl
  | succ k ih => simp [mixTo, xorAt_size, ih]
def byteOf (d : St) (k : Nat) : UInt8 := low (d[k / 8]! >>> (8 * (k % 8)))
def frontTo (d : St) (n : Nat) : Nat → Bs
  | 0 => Array.replicate n 0
  | k + 1 => (frontTo d n k).setIfInBounds k (byteOf d k)
def front (d : St) (n : Nat) : Bs := frontTo d n n
theorem frontTo_size (d : St) (n k : Nat) : (frontTo d n k).size = n := by
  induction k with
  | zero => simp [frontTo]
  | succ k ih => simp [frontTo, ih]
theorem front_size (d : St) (n : Nat) : (front d n).size = n := frontTo_size d n n
end Go.Proofs.Yticolhhalbbogac.SP
namespace Go.Proofs.Yticolhhalbbogac.SP
open Go.RowKit Go.Sort
/-- Of all that was there, only the cells off .. off + n - 1 of block b may have turned; no block has gone. -/
structure Only (b off n : Nat) (w w' : World) : Prop where
  os : w'.os = w.os
  tape : w'.tape = w.tape
  output : w'.output = w.output
  size : w.heap.size ≤ w'.heap.size
  block : ∀ k, k < w.heap.size → k ≠ b → w'.heap[k]? = w.heap[k]?
  cell : ∀ o, (o < off ∨ off + n ≤ o) → w'.cell? ⟨b, o, none⟩ = w.cell? ⟨b, o, none⟩
  froz : ∀ o, w'.frozen? ⟨b, o, none⟩ = w.frozen? ⟨b, o, none⟩
variable {b off n : Nat} {w w1 w2 : World}
theorem Only.refl (b off n : Nat) (w : World) : Only b off n w w := ⟨rfl, rfl, rfl, Nat.le_refl _, fun _ _ _ => rfl, fun _ _ => rfl, fun _ => rfl⟩
theorem Only.trans (h : Only b off n w w1) (k : Only b off n w1 w2) : Only b off n w w2 :=
  ⟨k.os.trans h.os, k.tape.trans h.tape, k.output.trans h.output, Nat.le_trans h.size k.size,
    fun i hi hn => (k.block i (Nat.lt_of_lt_of_le hi h.size) hn).trans (h.block i hi hn),
    fun o ho => (k.cell o ho).trans (h.cell o ho), fun o => (k.froz o).trans (h.froz o)⟩
theorem Only.drewN (h : Only b off n w w1) (q : Nat) : Only b off n w (w1.drewN q) := ⟨h.os, h.tape, h.output, h.size, h.block, h.cell, h.froz⟩
theorem Only.drew (h : Only b off n w w1) : Only b off n w w1.drew := ⟨h.os, h.tape, h.output, h.size, h.block, h.cell, h.froz⟩
theorem Only.setCell (h : Only b off n w w1) {o : Nat} (h1 : off ≤ o) (h2 : o < off + n) (v : Value) : Only b off n w (w1.setCell ⟨b, o, none⟩ v) := by
  refine h.trans ⟨rfl, rfl, rfl, by simp, fun k _ hn => Below.heap_setCell _ _ _ _ hn, fun o' ho => ?_, fun o' => by simp⟩
  exact World.cell?_setCell_other _ _ _ _ (by intro e; simp only [Addr.mk.injEq, and_true, true_and] at e; omega)
theorem Only.alloc (h : Only b off n w w1) (hb : b < w1.heap.size) (o : Obj) : Only b off n w (w1.alloc o) := by
  refine h.trans ⟨rfl, rfl, rfl, by simp, fun k hk _ => Below.heap_alloc _ _ _ hk, fun o' _ => ?_, fun o' => ?_⟩
  · exact World.cell?_alloc_lt _ _ _ hb
  · exact World.frozen?_alloc_old _ _ _ (by show b ≠ _; omega)
theorem Only.below (h : Only b off n w w1) {B : Nat} (hB : B ≤ w.heap.size) (hb : B ≤ b) : Below B w w1 :=
  ⟨h.os, h.tape, h.output, h.size, fun k hk => h.block k (by omega) (by omega)⟩
/-- What only makes memory turns nothing of the row. -/
theorem Only.of_below {B : Nat} (h : Below B w w1) (hB : B = w.heap.size) (hb : b < B) : Only b off n w w1 :=
  ⟨h.os, h.tape, h.output, h.size, fun k hk _ => h.block k (by omega), fun o _ => h.cell (p := ⟨b, o, none⟩) hb, fun o => h.frozen (p := ⟨b, o, none⟩) hb⟩
theorem Only.other (h : Only b off n w w1) {c o : Nat} (hc : c ≠ b) (hs : c < w.heap.size) : w1.cell? ⟨c, o, none⟩ = w.cell? ⟨c, o, none⟩ ∧ w1.frozen? ⟨c, o, none⟩ = w.frozen? ⟨c, o, none⟩ :=
  ⟨World.cell?_of_block (w := w) (h.block c hs hc), World.frozen?_of_block (w := w) (h.block c hs hc)⟩
/-- What was done to a block of one's own, just made, turned nothing that was there. -/
theorem Only.fresh {o m : Nat} {x : Obj} (h : Only w.heap.size o m (w.alloc x) w1) : Below w.heap.size w w1 :=
  ((Below.refl _ _).alloc (Nat.le_refl _) x).trans (h.below (by simp) (Nat.le_refl _))
section
variable {α : Type} [Inhabited α] {enc : α → Value} {d : Array α}
theorem Holds.lt (h : Holds enc w b off d) (hd : 0 < d.size) : b < w.heap.size := World.block_lt_of_cell? _ _ (h 0 hd).1
theorem Holds.other {c o : Nat} (h : Holds enc w c o d) (k : Only b off n w w1) (hc : c ≠ b) (hd : 0 < d.size) : Holds enc w1 c o d := by
  intro j hj
  have := h j hj
  have := k.other (o := o + j) hc (Holds.lt h hd)
  rw [this.1, this.2]
  exact h j hj
theorem Holds.same {o : Nat} (h : Holds enc w b o d) (k : Only b off n w w1) (hd : o + d.size ≤ off ∨ off + n ≤ o) : Holds enc w1 b o d := by
  intro j hj
  rw [k.cell _ (by omega), k.froz]
  exact h j hj
theorem Holds.below {B : Nat} (h : Holds enc w b off d) (k : Below B w w1) (hb : b < B) : Holds enc w1 b off d := by
  intro j hj
  rw [k.cell (p := ⟨b, off + j, none⟩) hb, k.frozen (p := ⟨b, off + j, none⟩) hb]
  exact h j hj
theorem Holds.drewN (h : Holds enc w b off d) (q : Nat) : Holds enc (w.drewN q) b off d := h
theorem Holds.drew (h : Holds enc w b off d) : Holds enc w.drew b off d := h
theorem Holds.set (h : Holds enc w b off d) {i : Nat} (hi : i < d.size) (x : α) : Holds enc (w.setCell ⟨b, off + i, none⟩ (enc x)) b off (d.setIfInBounds i x) := by
  intro j hj
  rw [Array.size_setIfInBounds] at hj
  rw [World.frozen?_setCell]
  by_cases e : j = i
  · subst e
    rw [getElem!_set_same d j x hi]
    exact ⟨World.cell?_setCell_same _ _ _ (h j hj).1, (h j hj).2⟩
  · rw [getElem!_set_other d i j x e, World.cell?_setCell_other _ _ _ _ (by intro e'; simp only [Addr.mk.injEq, and_true, true_and] at e'; omega)]
    exact h j hj
/-- A block of one's own, just made. -/
theorem Holds.new (w : World) (t : TypeId) (d : Array α) : Holds enc (w.alloc (.cells (d.map enc) t)) w.heap.size 0 d := by
  intro j hj
  rw [World.cell?_alloc_new, World.frozen?_alloc_new]
  refine ⟨?_, rfl⟩
  simp only [Nat.zero_add, Array.getElem?_map, Array.getElem?_eq_getElem hj, Option.map_some, getElem!_pos d j hj]
/-- A block of one's own, made by 'make'. -/
theorem Holds.made (w : World) (t : TypeId) (n : Nat) (x : α) : Holds enc (w.alloc (.cells (madeCells #[enc x] n) t)) w.heap.size 0 (Array.replicate n x) := by
  intro j hj
  rw [Array.size_replicate] at hj
  rw [World.cell?_alloc_new, World.frozen?_alloc_new]
  refine ⟨?_, rfl⟩
  rw [getElem!_pos _ j (by simpa using hj), Array.getElem_replicate]
  simp [madeCells, hj, Nat.mod_one]
end
theorem Holds.xor {d : St} (h : Holds enc w b off d) {i : Nat} (hi : i < d.size) {x : BitVec 64} (hx : d[i]! = x) (v : BitVec 64) : Holds enc (w.setCell ⟨b, off + i, none⟩ (.int .u64 (u (x ^^^ v)))) b off (xorAt d i v) := by
  unfold xorAt
  rw [hx]
  exact Holds.set h hi (x ^^^ v)
theorem xorAt_other (d : St) (i j : Nat) (v : BitVec 64) (h : j ≠ i) : (xorAt d i v)[j]! = d[j]! := getElem!_set_other d i j _ h
end Go.Proofs.Yticolhhalbbogac.SP
namespace Go.Proofs.Yticolhhalbbogac.SP
open Go.RowKit Go.Sort
theorem mixed : Try.prog.follows .mixedOrders = true := by kernel_rfl
theorem at_word {w : World} {b off : Nat} {d : St} (h : Holds enc w b off d) (i : Nat) (hi : i < d.size) {x : BitVec 64} (hx : d[i]! = x) :
    w.cell? ⟨b, off + i, none⟩ = some (.int .u64 (u x)) ∧ w.frozen? ⟨b, off + i, none⟩ = false := by
  rw [← hx]; exact h i hi
theorem ret_int {k : IntKind} {a b : Int} (h : a = b) : Ending.returned (.int k a) = .returned (.int k b) := by rw [h]
set_option maxHeartbeats 400000 in
theorem rotl_any (x : BitVec 64) (k : Nat) (w : World) (hk : k < 64) :
    Calls Try.prog 84 #[.int .u64 (u x), .int .i64 (k : Int)] w fun e w' => e = .returned (.int .u64 (u (rol x k))) ∧ w' = w := by
  have h63 := and63 k hk
  have h1 : (0 : Int) ≤ 64 - (k : Int) := by omega
  go_enter Try.func84, Try.ntmps84
  go_wp2
  go_ret
  refine ⟨ret_int ?_, rfl⟩
  rw [shl64, shr64, bits_or64]
  rfl
end Go.Proofs.Yticolhhalbbogac.SP
namespace Go.Proofs.Yticolhhalbbogac.SP
open Go.RowKit Go.Sort
theorem holds_zero5 (w : World) (t : TypeId) : Holds enc (w.alloc (.cells #[.int .u64 0, .int .u64 0, .int .u64 0, .int .u64 0, .int .u64 0] t)) w.heap.size 0 (#[0, 0, 0, 0, 0] : St) := by
  have h := Holds.new (enc := enc) w t (#[0, 0, 0, 0, 0] : St)
  have e : Array.map enc (#[0, 0, 0, 0, 0] : St) = #[.int .u64 0, .int .u64 0, .int .u64 0, .int .u64 0, .int .u64 0] := by simp [enc, u]
  rw [e] at h
  exact h
attribute [local go_sem] bits_xor64 bits_and64 bits_or64
set_option maxHeartbeats 1000000 in
set_option maxRecDepth 100000 in
theorem mixColumns_any (b off : Nat) (d : St) (w : World) (hd : d.size = 25) (hH : Holds enc w b off d) :
    Calls Try.prog 80 #[.pointer (some ⟨b, off, none⟩)] w fun e w' => e = .returned (.tuple #[]) ∧ Only b off 25 w w' ∧ Holds enc w' b off (theta d) := by
  have hb := Holds.lt hH (by omega)
  go_enter Try.func80, Try.ntmps80
  go_wp2
  generalize hW1 : (w.alloc _) = W1
  go_loopg [7] 5 (fun g s7 wr => ∃ k sk, k + g = 5 ∧ s7 = .int .i64 (k : Nat) ∧ Holds enc wr w.heap.size 0 sk ∧ Only w.heap.size 0 5 W1 wr ∧ Hid (sk = sumsTo d k))
  case atStart =>
    refine ⟨0, #[0, 0, 0, 0, 0], rfl, rfl, ?_, Only.refl _ _ _ _, rfl⟩
    rw [← hW1]
    exact holds_zero5 w 117
  case round =>
    obtain ⟨k, sk, hk, rfl, hS, hO, HE⟩ := hrel
    have hHw : Holds enc wr b off d := Holds.other (by rw [← hW1]; exact Holds.below hH ((Below.refl _ _).alloc (Nat.le_refl _) _) hb) hO (by omega) (by omega)
    by_cases hlt : k < 5
    · obtain ⟨x0, hx0⟩ : ∃ x, d[k]! = x := ⟨_, rfl⟩
      obtain ⟨x1, hx1⟩ : ∃ x, d[k + 5]! = x := ⟨_, rfl⟩
      obtain ⟨x2, hx2⟩ : ∃ x, d[k + 10]! = x := ⟨_, rfl⟩
      obtain ⟨x3, hx3⟩ : ∃ x, d[k + 15]! = x := ⟨_, rfl⟩
      obtain ⟨x4, hx4⟩ : ∃ x, d[k + 20]! = x := ⟨_, rfl⟩
      obtain ⟨x5, hx5⟩ : ∃ x, sk[k]! = x := ⟨_, rfl⟩
      have hss : sk.size = 5 := by rw [HE.out, sumsTo_size]
      obtain ⟨c0, f0⟩ := at_word hHw k (by omega) hx0
      obtain ⟨c1, f1⟩ := at_word hHw (k + 5) (by omega) hx1
      obtain ⟨c2, f2⟩ := at_word hHw (k + 10) (by omega) hx2
      obtain ⟨c3, f3⟩ := at_word hHw (k + 15) (by omega) hx3
      obtain ⟨c4, f4⟩ := at_word hHw (k + 20) (by omega) hx4
      obtain ⟨c5, f5⟩ := at_word hS k (by omega) hx5
      rw [Nat.zero_add] at c5 f5
      have HX : Hid (colsum d k = x0 ^^^ x1 ^^^ x2 ^^^ x3 ^^^ x4) := by rw [← hx0, ← hx1, ← hx2, ← hx3, ← hx4]; rfl
      clear hx0 hx1 hx2 hx3 hx4 hx5 hHw
      have k5 : (k : Int) < 5 := by omega
      have b0 : (k : Int) < 25 := by omega
      have b1 : (k : Int) + 5 < 25 := by omega
      have b2 : (k : Int) + 10 < 25 := by omega
      have b3 : (k : Int) + 15 < 25 := by omega
      have b4 : (k : Int) + 20 < 25 := by omega
      have p1 : 0 ≤ (k : Int) + 5 := by omega
      have p2 : 0 ≤ (k : Int) + 10 := by omega
      have p3 : 0 ≤ (k : Int) + 15 := by omega
      have p4 : 0 ≤ (k : Int) + 20 := by omega
      have e1 : ((k : Int) + 5).toNat = k + 5 := by omega
      have e2 : ((k : Int) + 10).toNat = k + 10 := by omega
      have e3 : ((k : Int) + 15).toNat = k + 15 := by omega
      have e4 : ((k : Int) + 20).toNat = k + 20 := by omega
      have v1 : IntKind.i64.wrap ((k : Int) + 5) = (k : Int) + 5 := IntWalk.i64_in _ (by omega)
      have v2 : IntKind.i64.wrap ((k : Int) + 10) = (k : Int) + 10 := IntWalk.i64_in _ (by omega)
      have v3 : IntKind.i64.wrap ((k : Int) + 15) = (k : Int) + 15 := IntWalk.i64_in _ (by omega)
      have v4 : IntKind.i64.wrap ((k : Int) + 20) = (k : Int) + 20 := IntWalk.i64_in _ (by omega)
      go_wp2_with fail
      go_still_tail 35, mixed
      go_wp2
      go_roundg (gk - 1)
      case measure => omega
      case rel =>
        refine ⟨k + 1, sk.setIfInBounds k (x0 ^^^ x1 ^^^ x2 ^^^ x3 ^^^ x4), by omega, by go_num, ?_, ?_, ?_⟩
        · have := Holds.set hS (i := k) (by omega) (x0 ^^^ x1 ^^^ x2 ^^^ x3 ^^^ x4)
          rw [Nat.zero_add] at this
          exact Holds.drew this
        · exact (hO.setCell (Nat.zero_le _) (by omega) _).drew
        · show _ = (sumsTo d k).setIfInBounds k (colsum d k)
          rw [HX.out, HE.out]
    · have hk5 : k = 5 := by omega
      subst hk5
      have HS : Hid (sk = sumsTo d 5) := HE
      have hO2 : Only b off 25 w wr := by
        rw [← hW1] at hO
        exact Only.of_below hO.fresh rfl hb
      clear hk hlt HE hO hW1
      go_wp2
      go_loopg [46] 5 (fun g s46 wq => ∃ k dk, k + g = 5 ∧ s46 = .int .i64 (k : Nat) ∧ Holds enc wq b off dk ∧ Only b off 25 wr wq ∧ Hid (dk = thetaTo sk d k))
      case atStart => exact ⟨0, d, rfl, rfl, hHw, Only.refl _ _ _ _, rfl⟩
      case round =>
        obtain ⟨k, dk, hk, rfl, hD, hO, HE⟩ := hrel
        by_cases hlt : k < 5
        · have hss : sk.size = 5 := by rw [HS.out, sumsTo_size]
          have hSw := Holds.other hS hO (by omega) (by omega)
          obtain ⟨y0, hy0⟩ : ∃ x, sk[(k + 4) % 5]! = x := ⟨_, rfl⟩
          obtain ⟨y1, hy1⟩ : ∃ x, sk[(k + 1) % 5]! = x := ⟨_, rfl⟩
          obtain ⟨c0, f0⟩ := at_word hSw ((k + 4) % 5) (by omega) hy0
          obtain ⟨c1, f1⟩ := at_word hSw ((k + 1) % 5) (by omega) hy1
          rw [Nat.zero_add] at c0 c1
          have HD : Hid (dcol sk k = y0 ^^^ rol y1 1) := by rw [← hy0, ← hy1]; rfl
          clear hy0 hy1 f0 f1
          have k5 : (k : Int) < 5 := by omega
          go_wp2_with fail
          go_quiet ((go_at_call 84; exact Calls.quiet_of_same (rotl_any _ 1 _ (by decide))))
          clear c0 c1
          go_wp2
          have hO1 := hO.drewN nq
          have hD1 := Holds.drewN hD nq
          have hds : dk.size = 25 := by rw [HE.out, thetaTo_size, hd]
          go_loopg [6] 5 (fun g s6 wq => ∃ m dm, m + g = 5 ∧ s6 = .int .i64 ((k + 5 * m : Nat) : Int) ∧ Holds enc wq b off dm ∧ Only b off 25 wr wq ∧ Hid (dm = innerTo (y0 ^^^ rol y1 1) k dk m))
          case atStart => exact ⟨0, dk, rfl, rfl, hD1, (Only.refl _ _ _ _).drewN _, rfl⟩
          case round =>
            obtain ⟨m, dm, hm, rfl, hM, hOm, HM⟩ := hrel
            by_cases hlt2 : m < 5
            · have hms : dm.size = 25 := by rw [HM.out, innerTo_size, hds]
              obtain ⟨z, hz⟩ : ∃ x, dm[k + 5 * m]! = x := ⟨_, rfl⟩
              obtain ⟨c, f⟩ := at_word hM (k + 5 * m) (by omega) hz
              have HZ : Hid (dm[k + 5 * m]! = z) := hz
              clear hz
              have r1 : ((k + 5 * m : Nat) : Int) < 25 := by omega
              generalize hi : k + 5 * m = i at *
              have Hi : Hid (k + 5 * m = i) := hi
              clear hi
              go_wp2_with fail
              go_still_tail 9, mixed
              go_wp2
              go_roundg (gk - 1)
              case measure => omega
              case rel =>
                refine ⟨m + 1, dm.setIfInBounds i (z ^^^ (y0 ^^^ rol y1 1)), by omega, ?_, ?_, ?_, ?_⟩
                · rw [← Hi.out]; go_num
                · exact Holds.drew (Holds.set hM (by omega) _)
                · exact (hOm.setCell (Nat.le_add_right _ _) (by omega) _).drew
                · show _ = xorAt (innerTo (y0 ^^^ rol y1 1) k dk m) (k + 5 * m) (y0 ^^^ rol y1 1)
                  rw [← HM.out, Hi.out, ← HZ.out]
                  rfl
            · have hm5 : m = 5 := by omega
              subst hm5
              have r1 : (25 : Int) ≤ ((k + 5 * 5 : Nat) : Int) := by omega
              generalize hi : k + 5 * 5 = i at *
              go_wp2
              go_roundg (4 - k)
              case measure => omega
              case rel =>
                refine ⟨k + 1, dm, by omega, by go_num, hM, hO.trans hOm, ?_⟩
                show _ = innerTo (dcol sk k) k (thetaTo sk d k) 5
                rw [← HE.out, HD.out]
                exact HM.out
        · have hk5 : k = 5 := by omega
          subst hk5
          go_wp2
          go_end0
          refine ⟨rfl, hO2.trans hO, ?_⟩
          have : theta d = dk := by rw [HE.out, HS.out]; rfl
          rw [this]
          exact hD
end Go.Proofs.Yticolhhalbbogac.SP
namespace Go.Proofs.Yticolhhalbbogac.SP
open Go.RowKit Go.Sort
attribute [local go_sem] bits_xor64 bits_and64 bits_or64
theorem offs_int (t : Nat) (h : t < 24) : (wrap64 ((wrap64 (((t : Int) + 1) * ((t : Int) + 2))).tdiv 2)).tmod 64 = (offs t : Int) := by
  have H : ∀ j : Fin 24, (wrap64 ((wrap64 (((j.val : Int) + 1) * ((j.val : Int) + 2))).tdiv 2)).tmod 64 = (offs j.val : Int) := by decide +kernel
  exact H ⟨t, h⟩
set_option maxHeartbeats 1000000 in
set_option maxRecDepth 100000 in
theorem turnAndMove_any (b off : Nat) (d : St) (w : World) (hd : d.size = 25) (hH : Holds enc w b off d) :
    Calls Try.prog 81 #[.pointer (some ⟨b, off, none⟩)] w fun e w' => e = .returned (.tuple #[]) ∧ Only b off 25 w w' ∧ Holds enc w' b off (rhopi d) := by
  obtain ⟨x1, hx1⟩ : ∃ x, d[1]! = x := ⟨_, rfl⟩
  obtain ⟨c1, f1⟩ := at_word hH 1 (by omega) hx1
  go_enter Try.func81, Try.ntmps81
  go_wp2
  go_loopg [2, 3, 4, 12] 24 (fun g sx sy sm st wr => ∃ t T, t + g = 24 ∧ st = .int .i64 (t : Nat) ∧ sx = .int .i64 (T.x : Nat) ∧ sy = .int .i64 (T.y : Nat) ∧ sm = .int .u64 (u T.m) ∧ Holds enc wr b off T.d ∧ Only b off 25 w wr ∧ Hid (T = tmTo d t))
  case atStart => exact ⟨0, tmTo d 0, rfl, rfl, rfl, rfl, by rw [← hx1]; rfl, hH, Only.refl _ _ _ _, rfl⟩
  case round =>
    obtain ⟨t, ⟨x, y, m, dk⟩, ht, rfl, rfl, rfl, rfl, hD, hO, HE⟩ := hrel
    have hok := tmTo_ok d hd t
    rw [← HE.out] at hok
    obtain ⟨hx, hy, hs⟩ := hok
    dsimp only at hx hy hs hD
    clear c1 f1 hx1
    by_cases hlt : t < 24
    · obtain ⟨i, hi⟩ : ∃ i, y + 5 * ((2 * x + 3 * y) % 5) = i := ⟨_, rfl⟩
      obtain ⟨z, hz⟩ : ∃ z, dk[i]! = z := ⟨_, rfl⟩
      have hib : i < 25 := by omega
      obtain ⟨c, f⟩ := at_word hD i (by omega) hz
      have Hz : Hid (dk[i]! = z) := hz
      have Hi : Hid (y + 5 * ((2 * x + 3 * y) % 5) = i) := hi
      have l24 : (t : Int) < 24 := by omega
      clear hz hi
      go_wp2_with fail
      rw [offs_int t hlt]
      refine (rotl_any m (offs t) _ (Nat.mod_lt _ (by decide))).mono ?_
      rintro e w' ⟨rfl, rfl⟩
      go_wp2_with fail
      obtain ⟨y2, hy2⟩ : ∃ n, (2 * x + 3 * y) % 5 = n := ⟨_, rfl⟩
      have hy2' : (2 * (x : Int) + 3 * (y : Int)) % 5 = (y2 : Int) := by omega
      rw [hy2']
      have Hy2 : Hid ((2 * x + 3 * y) % 5 = y2) := hy2
      have r0 : y2 < 5 := by omega
      clear hy2 hy2'
      have r1 : (0 : Int) ≤ (y : Int) + 5 * (y2 : Int) := by omega
      have r2 : (y : Int) + 5 * (y2 : Int) < 25 := by omega
      have r3 : ((y : Int) + 5 * (y2 : Int)).toNat = i := by have := Hi.out; have := Hy2.out; omega
      have s1 : IntKind.i64.wrap (5 * (y2 : Int)) = 5 * (y2 : Int) := IntWalk.i64_in _ (by omega)
      have s2 : IntKind.i64.wrap ((y : Int) + 5 * (y2 : Int)) = (y : Int) + 5 * (y2 : Int) := IntWalk.i64_in _ (by omega)
      go_region
      go_wp2
      go_roundg (gk - 1)
      case measure => omega
      case rel =>
        refine ⟨t + 1, ⟨y, y2, z, dk.setIfInBounds i (rol m (offs t))⟩, by omega, by go_num, rfl, rfl, rfl, ?_, ?_, ?_⟩
        · exact Holds.drew (Holds.set hD (by omega) _)
        · exact (hO.setCell (Nat.le_add_right _ _) (by omega) _).drew
        · show _ = tmStep t (tmTo d t)
          rw [← HE.out]
          simp only [tmStep, Hy2.out]
          have e : y + 5 * y2 = i := by have := Hi.out; have := Hy2.out; omega
          rw [e, Hz.out]
    · have ht24 : t = 24 := by omega
      subst ht24
      go_wp2
      go_end0
      refine ⟨rfl, hO, ?_⟩
      show Holds enc _ b off (tmTo d 24).d
      rw [← HE.out]
      exact hD
end Go.Proofs.Yticolhhalbbogac.SP
namespace Go.Proofs.Yticolhhalbbogac.SP
open Go.RowKit Go.Sort
attribute [local go_sem] bits_xor64 bits_and64 bits_or64 bits_not64
set_option maxHeartbeats 1000000 in
set_option maxRecDepth 100000 in
theorem mixRows_any (b off : Nat) (d : St) (w : World) (hd : d.size = 25) (hH : Holds enc w b off d) :
    Calls Try.prog 82 #[.pointer (some ⟨b, off, none⟩)] w fun e w' => e = .returned (.tuple #[]) ∧ Only b off 25 w w' ∧ Holds enc w' b off (chi d) := by
  go_enter Try.func82, Try.ntmps82
  go_wp2
  go_loopg [2] 5 (fun g si wr => ∃ k dk, k + g = 5 ∧ si = .int .i64 ((5 * k : Nat) : Int) ∧ Holds enc wr b off dk ∧ Only b off 25 w wr ∧ Hid (dk = chiTo d k))
  case atStart => exact ⟨0, d, rfl, rfl, hH, Only.refl _ _ _ _, rfl⟩
  case round =>
    obtain ⟨k, dk, hk, rfl, hD, hO, HE⟩ := hrel
    have hs : dk.size = 25 := by rw [HE.out, chiTo_size, hd]
    by_cases hlt : k < 5
    · obtain ⟨i, hi⟩ : ∃ i, 5 * k = i := ⟨_, rfl⟩
      rw [hi]
      have Hi : Hid (5 * k = i) := hi
      obtain ⟨x0, hx0⟩ : ∃ x, dk[i]! = x := ⟨_, rfl⟩
      obtain ⟨x1, hx1⟩ : ∃ x, dk[i + 1]! = x := ⟨_, rfl⟩
      obtain ⟨x2, hx2⟩ : ∃ x, dk[i + 2]! = x := ⟨_, rfl⟩
      obtain ⟨x3, hx3⟩ : ∃ x, dk[i + 3]! = x := ⟨_, rfl⟩
      obtain ⟨x4, hx4⟩ : ∃ x, dk[i + 4]! = x := ⟨_, rfl⟩
      obtain ⟨c0, f0⟩ := at_word hD i (by omega) hx0
      obtain ⟨c1, f1⟩ := at_word hD (i + 1) (by omega) hx1
      obtain ⟨c2, f2⟩ := at_word hD (i + 2) (by omega) hx2
      obtain ⟨c3, f3⟩ := at_word hD (i + 3) (by omega) hx3
      obtain ⟨c4, f4⟩ := at_word hD (i + 4) (by omega) hx4
      have HX0 : Hid (dk[i]! = x0) := hx0
      have HX1 : Hid (dk[i + 1]! = x1) := hx1
      have HX2 : Hid (dk[i + 2]! = x2) := hx2
      have HX3 : Hid (dk[i + 3]! = x3) := hx3
      have HX4 : Hid (dk[i + 4]! = x4) := hx4
      have Q0 := HX0
      have Q1 := HX1
      have Q2 := HX2
      have Q3 := HX3
      have Q4 := HX4
      have i20 : i ≤ 20 := by omega
      clear hx0 hx1 hx2 hx3 hx4 hi
      have b0 : (i : Int) < 25 := by omega
      have b1 : (i : Int) + 1 < 25 := by omega
      have p1 : 0 ≤ (i : Int) + 1 := by omega
      have e1 : ((i : Int) + 1).toNat = i + 1 := by omega
      have v1 : IntKind.i64.wrap ((i : Int) + 1) = (i : Int) + 1 := IntWalk.i64_in _ (by omega)
      have b2 : (i : Int) + 2 < 25 := by omega
      have p2 : 0 ≤ (i : Int) + 2 := by omega
      have e2 : ((i : Int) + 2).toNat = i + 2 := by omega
      have v2 : IntKind.i64.wrap ((i : Int) + 2) = (i : Int) + 2 := IntWalk.i64_in _ (by omega)
      have b3 : (i : Int) + 3 < 25 := by omega
      have p3 : 0 ≤ (i : Int) + 3 := by omega
      have e3 : ((i : Int) + 3).toNat = i + 3 := by omega
      have v3 : IntKind.i64.wrap ((i : Int) + 3) = (i : Int) + 3 := IntWalk.i64_in _ (by omega)
      have b4 : (i : Int) + 4 < 25 := by omega
      have p4 : 0 ≤ (i : Int) + 4 := by omega
      have e4 : ((i : Int) + 4).toNat = i + 4 := by omega
      have v4 : IntKind.i64.wrap ((i : Int) + 4) = (i : Int) + 4 := IntWalk.i64_in _ (by omega)
      go_wp2_with fail
      go_quiet (fail)
      clear c1 c2 c3 c4 f1 f2 f3 f4 b1 p1 e1 v1 b2 p2 e2 v2 b3 p3 e3 v3 b4 p4 e4 v4
      go_wp2_with fail
      go_region
      go_wp2_with fail
      generalize hW0 : World.setCell _ _ _ = W0
      have hs0 : (xorAt dk i (~~~x1 &&& x2)).size = 25 := by rw [xorAt_size]; omega
      have hD0 : Holds enc W0 b off (xorAt dk i (~~~x1 &&& x2)) := by rw [← hW0]; exact Holds.xor (Holds.drewN hD _) (by omega) HX0.out _
      have hO0 : Only b off 25 w W0 := by rw [← hW0]; exact (hO.drewN _).setCell (o := off + i) (by omega) (by omega) _
      generalize hd0 : xorAt dk i (~~~x1 &&& x2) = d0 at *
      have Hd0 : Hid (xorAt dk i (~~~x1 &&& x2) = d0) := hd0
      have HX1 : Hid (d0[i + 1]! = x1) := by show _ = _; rw [← hd0, xorAt_other _ _ _ _ (by omega)]; exact HX1.out
      have HX2 : Hid (d0[i + 2]! = x2) := by show _ = _; rw [← hd0, xorAt_other _ _ _ _ (by omega)]; exact HX2.out
      have HX3 : Hid (d0[i + 3]! = x3) := by show _ = _; rw [← hd0, xorAt_other _ _ _ _ (by omega)]; exact HX3.out
      have HX4 : Hid (d0[i + 4]! = x4) := by show _ = _; rw [← hd0, xorAt_other _ _ _ _ (by omega)]; exact HX4.out
      obtain ⟨c1, f1⟩ := at_word hD0 (i + 1) (by omega) HX1.out
      clear hd0 hW0 c0 f0
      have b1 : (i : Int) + 1 < 25 := by omega
      have p1 : 0 ≤ (i : Int) + 1 := by omega
      have e1 : ((i : Int) + 1).toNat = i + 1 := by omega
      have v1 : IntKind.i64.wrap ((i : Int) + 1) = (i : Int) + 1 := IntWalk.i64_in _ (by omega)
      go_region
      go_wp2_with fail
      generalize hW1 : World.setCell _ _ _ = W1
      have hs1 : (xorAt d0 (i + 1) (~~~x2 &&& x3)).size = 25 := by rw [xorAt_size]; omega
      have hD1 : Holds enc W1 b off (xorAt d0 (i + 1) (~~~x2 &&& x3)) := by rw [← hW1]; exact Holds.xor hD0 (by omega) HX1.out _
      have hO1 : Only b off 25 w W1 := by rw [← hW1]; exact (hO0).setCell (o := off + (i + 1)) (by omega) (by omega) _
      generalize hd1 : xorAt d0 (i + 1) (~~~x2 &&& x3) = d1 at *
      have Hd1 : Hid (xorAt d0 (i + 1) (~~~x2 &&& x3) = d1) := hd1
      have HX2 : Hid (d1[i + 2]! = x2) := by show _ = _; rw [← hd1, xorAt_other _ _ _ _ (by omega)]; exact HX2.out
      have HX3 : Hid (d1[i + 3]! = x3) := by show _ = _; rw [← hd1, xorAt_other _ _ _ _ (by omega)]; exact HX3.out
      have HX4 : Hid (d1[i + 4]! = x4) := by show _ = _; rw [← hd1, xorAt_other _ _ _ _ (by omega)]; exact HX4.out
      obtain ⟨c2, f2⟩ := at_word hD1 (i + 2) (by omega) HX2.out
      clear hd1 hW1 c1 f1
      clear b1 p1 e1 v1
      have b2 : (i : Int) + 2 < 25 := by omega
      have p2 : 0 ≤ (i : Int) + 2 := by omega
      have e2 : ((i : Int) + 2).toNat = i + 2 := by omega
      have v2 : IntKind.i64.wrap ((i : Int) + 2) = (i : Int) + 2 := IntWalk.i64_in _ (by omega)
      go_region
      go_wp2_with fail
      generalize hW2 : World.setCell _ _ _ = W2
      have hs2 : (xorAt d1 (i + 2) (~~~x3 &&& x4)).size = 25 := by rw [xorAt_size]; omega
      have hD2 : Holds enc W2 b off (xorAt d1 (i + 2) (~~~x3 &&& x4)) := by rw [← hW2]; exact Holds.xor hD1 (by omega) HX2.out _
      have hO2 : Only b off 25 w W2 := by rw [← hW2]; exact (hO1).setCell (o := off + (i + 2)) (by omega) (by omega) _
      generalize hd2 : xorAt d1 (i + 2) (~~~x3 &&& x4) = d2 at *
      have Hd2 : Hid (xorAt d1 (i + 2) (~~~x3 &&& x4) = d2) := hd2
      have HX3 : Hid (d2[i + 3]! = x3) := by show _ = _; rw [← hd2, xorAt_other _ _ _ _ (by omega)]; exact HX3.out
      have HX4 : Hid (d2[i + 4]! = x4) := by show _ = _; rw [← hd2, xorAt_other _ _ _ _ (by omega)]; exact HX4.out
      obtain ⟨c3, f3⟩ := at_word hD2 (i + 3) (by omega) HX3.out
      clear hd2 hW2 c2 f2
      clear b2 p2 e2 v2
      have b3 : (i : Int) + 3 < 25 := by omega
      have p3 : 0 ≤ (i : Int) + 3 := by omega
      have e3 : ((i : Int) + 3).toNat = i + 3 := by omega
      have v3 : IntKind.i64.wrap ((i : Int) + 3) = (i : Int) + 3 := IntWalk.i64_in _ (by omega)
      go_region
      go_wp2_with fail
      generalize hW3 : World.setCell _ _ _ = W3
      have hs3 : (xorAt d2 (i + 3) (~~~x4 &&& x0)).size = 25 := by rw [xorAt_size]; omega
      have hD3 : Holds enc W3 b off (xorAt d2 (i + 3) (~~~x4 &&& x0)) := by rw [← hW3]; exact Holds.xor hD2 (by omega) HX3.out _
      have hO3 : Only b off 25 w W3 := by rw [← hW3]; exact (hO2).setCell (o := off + (i + 3)) (by omega) (by omega) _
      generalize hd3 : xorAt d2 (i + 3) (~~~x4 &&& x0) = d3 at *
      have Hd3 : Hid (xorAt d2 (i + 3) (~~~x4 &&& x0) = d3) := hd3
      have HX4 : Hid (d3[i + 4]! = x4) := by show _ = _; rw [← hd3, xorAt_other _ _ _ _ (by omega)]; exact HX4.out
      obtain ⟨c4, f4⟩ := at_word hD3 (i + 4) (by omega) HX4.out
      clear hd3 hW3 c3 f3
      clear b3 p3 e3 v3
      have b4 : (i : Int) + 4 < 25 := by omega
      have p4 : 0 ≤ (i : Int) + 4 := by omega
      have e4 : ((i : Int) + 4).toNat = i + 4 := by omega
      have v4 : IntKind.i64.wrap ((i : Int) + 4) = (i : Int) + 4 := IntWalk.i64_in _ (by omega)
      go_region
      go_wp2
      generalize hW4 : World.setCell _ _ _ = W4
      have hs4 : (xorAt d3 (i + 4) (~~~x0 &&& x1)).size = 25 := by rw [xorAt_size]; omega
      have hD4 : Holds enc W4 b off (xorAt d3 (i + 4) (~~~x0 &&& x1)) := by rw [← hW4]; exact Holds.xor hD3 (by omega) HX4.out _
      have hO4 : Only b off 25 w W4 := by rw [← hW4]; exact (hO3).setCell (o := off + (i + 4)) (by omega) (by omega) _
      generalize hd4 : xorAt d3 (i + 4) (~~~x0 &&& x1) = d4 at *
      have Hd4 : Hid (xorAt d3 (i + 4) (~~~x0 &&& x1) = d4) := hd4
      clear hd4 hW4 c4 f4
      clear b4 p4 e4 v4
      go_roundg (gk - 1)
      case measure => omega
      case rel =>
        refine ⟨k + 1, d4, by omega, ?_, ?_, ?_, ?_⟩
        · rw [← Hi.out]; go_num
        · exact hD4
        · exact hO4.drewN 4
        · show d4 = rowAt (chiTo d k) (5 * k)
          rw [← HE.out, Hi.out]
          unfold rowAt
          rw [Q0.out, Q1.out, Q2.out, Q3.out, Q4.out, Hd0.out, Hd1.out, Hd2.out, Hd3.out, Hd4.out]
    · have hk5 : k = 5 := by omega
      subst hk5
      go_wp2
      go_end0
      refine ⟨rfl, hO, ?_⟩
      show Holds enc _ b off (chiTo d 5)
      rw [← HE.out]
      exact hD
end Go.Proofs.Yticolhhalbbogac.SP
namespace Go.Proofs.Yticolhhalbbogac.SP
open Go.RowKit Go.Sort
attribute [local go_sem] bits_xor64 bits_and64 bits_or64 wrap_u
theorem place_int (j : Nat) (hj : j < 7) : ∃ p : Nat, wrap64 (wrap64 ((2 : Int) ^ j) - 1) = (p : Int) ∧ p ≤ 63 ∧ Hid (2 ^ j - 1 = p) := by
  have H : ∀ j : Fin 7, wrap64 (wrap64 ((2 : Int) ^ j.val) - 1) = ((2 ^ j.val - 1 : Nat) : Int) ∧ 2 ^ j.val - 1 ≤ 63 := by decide +kernel
  exact ⟨_, (H ⟨j, hj⟩).1, (H ⟨j, hj⟩).2, rfl⟩
set_option maxHeartbeats 1000000 in
set_option maxRecDepth 100000 in
theorem roundConstant_any (r : Nat) (w : World) (hr : r < 256) :
    Calls Try.prog 83 #[.int .i64 (r : Int)] w fun e w' => e = .returned (.tuple #[.int .u64 (u (rcC r)), .int .i64 (rcN r : Int)]) ∧ w' = w := by
  go_enter Try.func83, Try.ntmps83
  go_wp2
  go_loop [0, 2, 6] (fun s0 s2 s6 => ∃ j : Nat, j ≤ 7 ∧ ∃ (c : BitVec 64) (q : Nat), s6 = .int .i64 j ∧ s2 = .int .u64 (u c) ∧ s0 = .int .i64 q ∧ q < 256 ∧ Hid (rcTo r j = (c, q))) (fun _ _ s6 => 7 - (intOf s6).toNat)
  case atStart => exact ⟨0, by decide, 0, r, rfl, rfl, rfl, hr, rfl⟩
  case round =>
    obtain ⟨j, hj, c, q, rfl, rfl, rfl, hq, HE⟩ := hrel
    by_cases hlt : j < 7
    · have a1 := rc_and q hq
      have a2 := rc_xor q hq
      obtain ⟨p, a3, hp, HP⟩ := place_int j hlt
      have HC : Hid (rcTo r (j + 1) = (c ||| BitVec.ofNat 64 (q % 2) <<< p, rcReg q)) := by
        show ((rcTo r j).1 ||| BitVec.ofNat 64 ((rcTo r j).2 % 2) <<< (2 ^ j - 1), rcReg (rcTo r j).2) = _
        rw [HE.out, HP.out]
      have hs := shl64 (BitVec.ofNat 64 (q % 2)) p
      have hlt2 := rcReg_lt q hq
      by_cases h255 : 255 < 2 * q
      · have HR : Hid (rcReg q = 2 * q ^^^ 369) := if_pos h255
        rw [HR.out] at hlt2
        generalize 2 * q ^^^ 369 = q2 at *
        go_wp2
        go_round
        case rel => exact ⟨j + 1, by omega, _, q2, by go_num, rfl, rfl, hlt2, by rw [HC.out, HR.out]; rfl⟩
        case measure => simp [intOf]; omega
      · have HR : Hid (rcReg q = 2 * q) := if_neg h255
        go_wp2
        go_round
        case rel => exact ⟨j + 1, by omega, _, 2 * q, by go_num, rfl, by go_num, by omega, by rw [HC.out, HR.out]; rfl⟩
        case measure => simp [intOf]; omega
    · have hj7 : j = 7 := by omega
      subst hj7
      go_wp2
      go_ret2
      unfold rcC rcN
      rw [HE.out]
      exact ⟨rfl, rfl⟩
set_option maxHeartbeats 1000000 in
set_option maxRecDepth 100000 in
theorem permute_any (b off : Nat) (d : St) (w : World) (hd : d.size = 25) (hH : Holds enc w b off d) :
    Calls Try.prog 77 #[.pointer (some ⟨b, off, none⟩)] w fun e w' => e = .returned (.tuple #[]) ∧ Only b off 25 w w' ∧ Holds enc w' b off (perm d) := by
  go_enter Try.func77, Try.ntmps77
  go_wp2
  go_loopg [2, 3, 4] 24 (fun g sc sr sk wr => ∃ (k : Nat) (c : BitVec 64) (dk : St), k + g = 24 ∧ sk = .int .i64 k ∧ sc = .int .u64 (u c) ∧ sr = .int .i64 (rcAt k : Nat) ∧ Holds enc wr b off dk ∧ Only b off 25 w wr ∧ Hid (dk = permTo d k))
  case atStart => exact ⟨0, 0, d, rfl, rfl, rfl, rfl, hH, Only.refl _ _ _ _, rfl⟩
  case round =>
    obtain ⟨k, c, dk, hk, rfl, rfl, rfl, hD, hO, HE⟩ := hrel
    have hs : dk.size = 25 := by rw [HE.out, permTo_size d hd]
    by_cases hlt : k < 24
    · have k24 : (k : Int) < 24 := by omega
      go_wp2_with fail
      refine (mixColumns_any b off dk _ hs hD).mono ?_
      rintro e w1 ⟨rfl, hO1, hD1⟩
      go_wp2_with fail
      refine (turnAndMove_any b off _ _ (by rw [theta_size, hs]) hD1).mono ?_
      rintro e w2 ⟨rfl, hO2, hD2⟩
      go_wp2_with fail
      refine (mixRows_any b off _ _ (rhopi_size _ (by rw [theta_size, hs])) hD2).mono ?_
      rintro e w3 ⟨rfl, hO3, hD3⟩
      have HN : Hid (rcAt (k + 1) = rcN (rcAt k)) := rfl
      have HK : Hid (permTo d (k + 1) = kround (permTo d k) (rcC (rcAt k))) := rfl
      have hrl := rcAt_lt k
      generalize rcAt k = r at *
      go_wp2_with fail
      refine (roundConstant_any r _ hrl).mono ?_
      rintro e w4 ⟨rfl, rfl⟩
      have hs3 : (chi (rhopi (theta dk))).size = 25 := by rw [chi_size, rhopi_size _ (by rw [theta_size, hs])]
      obtain ⟨x, hx⟩ : ∃ x, (chi (rhopi (theta dk)))[0]! = x := ⟨_, rfl⟩
      obtain ⟨c0, f0⟩ := at_word hD3 0 (by omega) hx
      rw [Nat.add_zero] at c0 f0
      have HX : Hid ((chi (rhopi (theta dk)))[0]! = x) := hx
      clear hx
      go_wp2_with fail
      go_region
      go_wp2
      go_roundg (gk - 1)
      case measure => omega
      case rel =>
        refine ⟨k + 1, rcC r, kround dk (rcC r), by omega, by go_num, rfl, by rw [HN.out], ?_, ?_, ?_⟩
        · exact Holds.drew (Holds.xor (i := 0) hD3 (by omega) HX.out (rcC r))
        · exact ((((hO.trans hO1).trans hO2).trans hO3).setCell (o := off) (by omega) (by omega) _).drew
        · rw [HK.out, HE.out]; rfl
    · have hk24 : k = 24 := by omega
      subst hk24
      go_wp2
      go_end0
      refine ⟨rfl, hO, ?_⟩
      unfold perm
      rw [← HE.out]
      exact hD
end Go.Proofs.Yticolhhalbbogac.SP
namespace Go.Proofs.Yticolhhalbbogac.SP
open Go.RowKit Go.Sort Go.Deep
attribute [local go_sem] bits_xor64 bits_and64 bits_or64 wrap_u wrap_ub
theorem at_byte {w : World} {b off : Nat} {d : Bs} (h : Holds encB w b off d) (i : Nat) (hi : i < d.size) {x : UInt8} (hx : d[i]! = x) :
    w.cell? ⟨b, off + i, none⟩ = some (.int .u8 (ub x)) ∧ w.frozen? ⟨b, off + i, none⟩ = false := by
  rw [← hx]; exact h i hi
set_option maxHeartbeats 1000000 in
set_option maxRecDepth 100000 in
theorem word_any (sb so o len cap : Nat) (bs : Bs) (w : World) (hB : Holds encB w sb so bs) (h8 : 8 ≤ len) (ho : o + 8 ≤ bs.size) (hl : len ≤ 4611686018427387904) :
    Calls Try.prog 79 #[.slice (some ⟨sb, so + o, none⟩) len cap] w fun e w' => e = .returned (.int .u64 (u (wordOf bs o))) ∧ w' = w := by
  go_enter Try.func79, Try.ntmps79
  go_wp2
  go_loop [3, 5] (fun s3 s5 => ∃ (k : Nat) (c : BitVec 64), k ≤ 8 ∧ s5 = .int .i64 k ∧ s3 = .int .u64 (u c) ∧ Hid (wordTo bs o k = c)) (fun _ s5 => 8 - (intOf s5).toNat)
  case atStart => exact ⟨0, 0, by decide, rfl, rfl, rfl⟩
  case round =>
    obtain ⟨k, c, hk, rfl, rfl, HE⟩ := hrel
    by_cases hlt : k < 8
    · obtain ⟨x, hx⟩ : ∃ x, bs[o + k]! = x := ⟨_, rfl⟩
      obtain ⟨c0, f0⟩ := at_byte hB (o + k) (by omega) hx
      rw [← Nat.add_assoc] at c0
      have HC : Hid (wordTo bs o (k + 1) = c ||| wide x <<< (8 * k)) := by
        show wordTo bs o k ||| wide bs[o + k]! <<< (8 * k) = _
        rw [HE.out, hx]
      clear hx f0
      have hs := shl64 (wide x) (8 * k)
      have k8 : (k : Int) < (len : Int) := by omega
      go_wp2
      go_round
      case rel => exact ⟨k + 1, _, by omega, by go_num, rfl, HC⟩
      case measure => simp [intOf]; omega
    · have hk8 : k = 8 := by omega
      subst hk8
      go_wp2
      go_ret
      unfold wordOf
      rw [HE.out]
      exact ⟨rfl, rfl⟩
set_option maxHeartbeats 1000000 in
set_option maxRecDepth 100000 in
theorem mix_any (b off sb so len cap : Nat) (bs : Bs) (d : St) (w : World) (hd : d.size = 25) (hH : Holds enc w b off d) (hB : Holds encB w sb so bs) (hl : bs.size = len) (hlen : len ≤ 200) (hcap : len ≤ cap)
    (hdis : sb ≠ b ∨ so + len ≤ off ∨ off + 25 ≤ so) :
    Calls Try.prog 76 #[.pointer (some ⟨b, off, none⟩), .slice (some ⟨sb, so, none⟩) len cap] w fun e w' => e = .returned (.tuple #[]) ∧ Only b off 25 w w' ∧ Holds enc w' b off (mixTo bs d (len / 8)) := by
  go_enter Try.func76, Try.ntmps76
  go_wp2
  go_loopg [8] (len / 8) (fun g s8 wr => ∃ (k : Nat) (dk : St), k + g = len / 8 ∧ s8 = .int .i64 k ∧ Holds enc wr b off dk ∧ Only b off 25 w wr ∧ Hid (dk = mixTo bs d k))
  case atStart => exact ⟨0, d, by omega, rfl, hH, Only.refl _ _ _ _, rfl⟩
  case round =>
    obtain ⟨k, dk, hk, rfl, hD, hO, HE⟩ := hrel
    have hs : dk.size = 25 := by rw [HE.out, mixTo_size, hd]
    by_cases hlt : k < len / 8
    · have hBr : Holds encB wr sb so bs := by
        by_cases hsb : sb = b
        · subst hsb
          exact Holds.same hB hO (by omega)
        · exact Holds.other hB hO hsb (by omega)
      obtain ⟨x, hx⟩ : ∃ x, dk[k]! = x := ⟨_, rfl⟩
      obtain ⟨c0, f0⟩ := at_word hD k (by omega) hx
      have HX : Hid (dk[k]! = x) := hx
      clear hx
      have r0 : (k : Int) < 25 := by omega
      have r1 : (0 : Int) ≤ (k : Int) * 8 := by omega
      have r2 : (k : Int) * 8 ≤ (len : Int) := by omega
      have r3 : ((k : Int) * 8).toNat = 8 * k := by omega
      have s1 : IntKind.i64.wrap ((k : Int) * 8) = (k : Int) * 8 := IntWalk.i64_in _ (by omega)
      have lt : (k : Int) < (len : Int) / 8 := by omega
      go_wp2_with fail
      have hne : (cap = 8 * k) = False := eq_false (by omega)
      have HB : Hid (Holds encB wr.drew sb so bs) := Holds.drew hBr
      have Q4 : Hid (8 * k + 8 ≤ bs.size) := by show _ ≤ _; omega
      clear hBr
      go_region_with (go_at_call 79; refine (word_any sb so (8 * k) (len - 8 * k) (cap - 8 * k) bs _ HB.out (by omega) Q4.out (by omega)).mono ?_; rintro e w2 ⟨rfl, rfl⟩)
      all_goals
        go_wp2
        go_roundg (gk - 1)
        case measure => omega
        case rel =>
          refine ⟨k + 1, xorAt dk k (wordOf bs (8 * k)), by omega, by go_num, ?_, ?_, ?_⟩
          · exact Holds.drew (Holds.xor hD (by omega) HX.out _)
          · exact (hO.setCell (o := off + k) (by omega) (by omega) _).drew
          · rw [HE.out]; rfl
    · have hk8 : k = len / 8 := by omega
      have lt : (len : Int) / 8 ≤ (k : Int) := by omega
      go_wp2
      go_end0
      refine ⟨rfl, hO, ?_⟩
      rw [← hk8, ← HE.out]
      exact hD
theorem slice22 : Try.prog.underlying 22 = some (.slice 5) := by kernel_rfl
theorem info5 : (Try.prog.info? 5).map (fun i => (i.zero, i.size, i.bytes)) = some (some (.int .u8 0), 1, 1) := by kernel_rfl
theorem encB_zero : encB 0 = .int .u8 0 := rfl
attribute [local go_sem] low_u
set_option maxHeartbeats 1000000 in
set_option maxRecDepth 100000 in
theorem front_any (b off n : Nat) (d : St) (w : World) (hd : d.size = 25) (hH : Holds enc w b off d) (hn : n ≤ 200) :
    Calls Try.prog 63 #[.pointer (some ⟨b, off, none⟩), .int .i64 (n : Int)] w fun e w' => e = .returned (.slice (some ⟨w.heap.size, 0, none⟩) n n) ∧ Below w.heap.size w w' ∧ Holds encB w' w.heap.size 0 (front d n) := by
  have hb := Holds.lt hH (by omega)
  have hmk := run_make_row' (P := Try.prog) 22 5 (.int .u8 0) 1 slice22 info5 rfl .i64 .i64 n (by omega) (by omega)
  go_enter Try.func63, Try.ntmps63
  go_wp2
  generalize hW1 : (w.alloc _) = W1
  go_loopg [11] n (fun g s11 wr => ∃ (k : Nat) (bs : Bs), k + g = n ∧ s11 = .int .i64 k ∧ Holds encB wr w.heap.size 0 bs ∧ Only w.heap.size 0 n W1 wr ∧ Hid (bs = frontTo d n k))
  case atStart =>
    refine ⟨0, _, by omega, rfl, ?_, Only.refl _ _ _ _, rfl⟩
    rw [← hW1]
    exact Holds.made (enc := encB) w 5 n 0
  case round =>
    obtain ⟨k, bs, hk, rfl, hB, hO, HE⟩ := hrel
    have hs : bs.size = n := by rw [HE.out, frontTo_size]
    have hD : Holds enc wr b off d := Holds.other (by rw [← hW1]; exact Holds.below hH ((Below.refl _ _).alloc (Nat.le_refl _) _) hb) hO (by omega) (by omega)
    by_cases hlt : k < n
    · obtain ⟨x, hx⟩ : ∃ x, d[k / 8]! = x := ⟨_, rfl⟩
      obtain ⟨c0, f0⟩ := at_word hD (k / 8) (by omega) hx
      obtain ⟨c1, f1⟩ := hB k (by omega)
      rw [Nat.zero_add] at c1 f1
      have HX : Hid (byteOf d k = low (x >>> (8 * (k % 8)))) := by show low _ = _; rw [hx]
      clear hx f0
      have r0 : (k : Int) / 8 < 25 := by omega
      have r1 : (k : Int) < (n : Int) := by omega
      have hsr := shr64 x (8 * (k % 8))
      go_wp2
      go_roundg (gk - 1)
      case measure => omega
      case rel =>
        refine ⟨k + 1, bs.setIfInBounds k (low (x >>> (8 * (k % 8)))), by omega, by go_num, ?_, ?_, ?_⟩
        · have := Holds.set hB (i := k) (by omega) (low (x >>> (8 * (k % 8))))
          rw [Nat.zero_add] at this
          exact this
        · exact hO.setCell (o := k) (by omega) (by omega) _
        · show _ = (frontTo d n k).setIfInBounds k (byteOf d k)
          rw [HX.out, HE.out]
    · have hkn : k = n := by omega
      have lt : (n : Int) ≤ (k : Int) := by omega
      go_wp2
      go_ret
      refine ⟨rfl, ?_, ?_⟩
      · rw [← hW1] at hO
        exact hO.fresh
      · unfold front
        rw [HE.out, hkn] at hB
        exact hB
end Go.Proofs.Yticolhhalbbogac.SP
namespace Go.Proofs.Yticolhhalbbogac.SP
open Go.RowKit
/-- A count as the model holds it. -/
def encI (n : Nat) : Value := .int .i64 (n : Int)
/-- The reference's round, step by step, as its loops have it. -/
def colIn (a : St) (x : Nat) (c : St) : Nat → St
  | 0 => c
  | y + 1 => xorAt (colIn a x c y) x a[x + 5 * y]!
def colTo (a : St) : Nat → St
  | 0 => Array.replicate 5 0
  | x + 1 => colIn a x (colTo a x) 5
def movIn (a : St) (tn : Array Nat) (x : Nat) (v : BitVec 64) (m : St) : Nat → St
  | 0 => m
  | y + 1 => (movIn a tn x v m y).setIfInBounds (y % 5 + 5 * ((2 * x + 3 * y) % 5)) (rol (a[x + 5 * y]! ^^^ v) tn[x + 5 * y]!)
def movTo (a : St) (tn : Array Nat) (c : St) : Nat → St
  | 0 => Array.replicate 25 0
  | x + 1 => movIn a tn x (dcol c x) (movTo a tn c x) 5
def outIn (m : St) (x : Nat) (o : St) : Nat → St
  | 0 => o
  | y + 1 => (outIn m x o y).setIfInBounds (x + 5 * y) (m[x + 5 * y]! ^^^ (~~~m[(x + 1) % 5 + 5 * y]! &&& m[(x + 2) % 5 + 5 * y]!))
def outTo (m : St) : Nat → St
  | 0 => Array.replicate 25 0
  | x + 1 => outIn m x (outTo m x) 5
def refRound (a : St) (tn : Array Nat) (c : BitVec 64) : St := xorAt (outTo (movTo a tn (colTo a 5) 5) 5) 0 c
theorem colIn_size (a : St) (x : Nat) (c : St) (y : Nat) : (colIn a x c y).size = c.size := by
  induction y with
  | zero => rfl
  | succ y ih => simp [colIn, xorAt_size, ih]
theorem colTo_size (a : St) (x : Nat) : (colTo a x).size = 5 := by
  induction x with
  | zero => simp [colTo]
  | succ x ih => simp [colTo, colIn_size, ih]
theorem movIn_size (a : St) (tn : Array Nat) (x : Nat) (v : BitVec 64) (m : St) (y : Nat) : (movIn a tn x v m y).size = m.size := by
  induction y with
  | zero => rfl
  | succ y ih => simp [movIn, ih]
theorem movTo_size (a : St) (tn : Array Nat) (c : St) (x : Nat) : (movTo a tn c x).size = 25 := by
  induction x with
  | zero => simp [movTo]
  | succ x ih => simp [movTo, movIn_size, ih]
theorem outIn_size (m : St) (x : Nat) (o : St) (y : Nat) : (outIn m x o y).size = o.size := by
  induction y with
  | zero => rfl
  | succ y ih => simp [outIn, ih]
theorem outTo_size (m : St) (x : Nat) : (outTo m x).size = 25 := by
  induction x with
  | zero => simp [outTo]
  | succ x ih => simp [outTo, outIn_size, ih]
theorem refRound_size (a : St) (tn : Array Nat) (c : BitVec 64) : (refRound a tn c).size = 25 := by simp [refRound, xorAt_size, outTo_size]
/-- The offsets, as the reference lays them. -/
structure Of where
  x : Nat
  y : Nat
  o : Array Nat
def ofTo : Nat → Of
  | 0 => { x := 1, y := 0, o := Array.replicate 25 0 }
  | t + 1 => { x := (ofTo t).y, y := (2 * (ofTo t).x + 3 * (ofTo t).y) % 5, o := (ofTo t).o.setIfInBounds ((ofTo t).x % 5 + 5 * ((ofTo t).y % 5)) (offs t) }
def offsetsL : Array Nat := (ofTo 24).o
theorem ofTo_ok (t : Nat) : (ofTo t).x < 5 ∧ (ofTo t).y < 5 ∧ (ofTo t).o.size = 25 := by
  induction t with
  | zero => exact ⟨show 1 < 5 by decide, show 0 < 5 by decide, show (Array.replicate 25 0).size = 25 by simp⟩
  | succ t ih =>
    obtain ⟨h1, h2, h3⟩ := ih
    refine ⟨h2, ?_, ?_⟩
    · show (2 * (ofTo t).x + 3 * (ofTo t).y) % 5 < 5
      omega
    · show ((ofTo t).o.setIfInBounds _ _).size = 25
      rw [Array.size_setIfInBounds, h3]
/-- BIT and CONSTANT of the reference. -/
def regTo : Nat → Nat
  | 0 => 1
  | i + 1 => rcReg (regTo i)
theorem regTo_lt (i : Nat) : regTo i < 256 := by
  induction i with
  | zero => decide
  | succ i ih => exact rcReg_lt _ ih
def bitL (t : Nat) : BitVec 64 := BitVec.ofNat 64 (regTo t % 2)
def conTo (r : Nat) : Nat → BitVec 64
  | 0 => 0
  | j + 1 => conTo r j ||| bitL (j + 7 * r) <<< (2 ^ j - 1)
def conL (r : Nat) : BitVec 64 := conTo r 7
def refTo (d : St) : Nat → St
  | 0 => d
  | k + 1 => refRound (refTo d k) offsetsL (conL k)
end Go.Proofs.Yticolhhalbbogac.SP
namespace Go.Proofs.Yticolhhalbbogac.SP
theorem con_eq : ∀ k : Fin 24, conL k.val = rcC (rcAt k.val) := by decide +kernel
theorem offsets_eq : offsetsL = #[0, 1, 62, 28, 27, 36, 44, 6, 55, 20, 3, 10, 43, 25, 39, 41, 45, 15, 21, 8, 18, 2, 61, 56, 14] := by decide +kernel
theorem rol_zero (x : BitVec 64) : rol x 0 = x := by
  unfold rol
  rw [BitVec.shiftLeft_zero, Nat.sub_zero, BitVec.ushiftRight_eq_zero (Nat.le_refl 64), BitVec.or_zero]
theorem zx (x : BitVec 64) : 0 ^^^ x = x := BitVec.zero_xor
theorem col_one (a0 a1 a2 a3 a4 a5 a6 a7 a8 a9 a10 a11 a12 a13 a14 a15 a16 a17 a18 a19 a20 a21 a22 a23 a24 : BitVec 64) : colTo #[a0, a1, a2, a3, a4, a5, a6, a7, a8, a9, a10, a11, a12, a13, a14, a15, a16, a17, a18, a19, a20, a21, a22, a23, a24] 5 = #[0 ^^^ a0 ^^^ a5 ^^^ a10 ^^^ a15 ^^^ a20, 0 ^^^ a1 ^^^ a6 ^^^ a11 ^^^ a16 ^^^ a21, 0 ^^^ a2 ^^^ a7 ^^^ a12 ^^^ a17 ^^^ a22, 0 ^^^ a3 ^^^ a8 ^^^ a13 ^^^ a18 ^^^ a23, 0 ^^^ a4 ^^^ a9 ^^^ a14 ^^^ a19 ^^^ a24] := by kernel_rfl
theorem sums_one (a0 a1 a2 a3 a4 a5 a6 a7 a8 a9 a10 a11 a12 a13 a14 a15 a16 a17 a18 a19 a20 a21 a22 a23 a24 : BitVec 64) : sumsTo #[a0, a1, a2, a3, a4, a5, a6, a7, a8, a9, a10, a11, a12, a13, a14, a15, a16, a17, a18, a19, a20, a21, a22, a23, a24] 5 = #[a0 ^^^ a5 ^^^ a10 ^^^ a15 ^^^ a20, a1 ^^^ a6 ^^^ a11 ^^^ a16 ^^^ a21, a2 ^^^ a7 ^^^ a12 ^^^ a17 ^^^ a22, a3 ^^^ a8 ^^^ a13 ^^^ a18 ^^^ a23, a4 ^^^ a9 ^^^ a14 ^^^ a19 ^^^ a24] := by kernel_rfl
theorem col_eq (a0 a1 a2 a3 a4 a5 a6 a7 a8 a9 a10 a11 a12 a13 a14 a15 a16 a17 a18 a19 a20 a21 a22 a23 a24 : BitVec 64) : colTo #[a0, a1, a2, a3, a4, a5, a6, a7, a8, a9, a10, a11, a12, a13, a14, a15, a16, a17, a18, a19, a20, a21, a22, a23, a24] 5 = sumsTo #[a0, a1, a2, a3, a4, a5, a6, a7, a8, a9, a10, a11, a12, a13, a14, a15, a16, a17, a18, a19, a20, a21, a22, a23, a24] 5 := by
  rw [col_one, sums_one]
  simp only [zx]
theorem mov_one (S : St) (a0 a1 a2 a3 a4 a5 a6 a7 a8 a9 a10 a11 a12 a13 a14 a15 a16 a17 a18 a19 a20 a21 a22 a23 a24 : BitVec 64) : movTo #[a0, a1, a2, a3, a4, a5, a6, a7, a8, a9, a10, a11, a12, a13, a14, a15, a16, a17, a18, a19, a20, a21, a22, a23, a24] #[0, 1, 62, 28, 27, 36, 44, 6, 55, 20, 3, 10, 43, 25, 39, 41, 45, 15, 21, 8, 18, 2, 61, 56, 14] S 5 = #[rol (a0 ^^^ dcol S 0) 0, rol (a6 ^^^ dcol S 1) 44, rol (a12 ^^^ dcol S 2) 43, rol (a18 ^^^ dcol S 3) 21, rol (a24 ^^^ dcol S 4) 14, rol (a3 ^^^ dcol S 3) 28, rol (a9 ^^^ dcol S 4) 20, rol (a10 ^^^ dcol S 0) 3, rol (a16 ^^^ dcol S 1) 45, rol (a22 ^^^ dcol S 2) 61, rol (a1 ^^^ dcol S 1) 1, rol (a7 ^^^ dcol S 2) 6, rol (a13 ^^^ dcol S 3) 25, rol (a19 ^^^ dcol S 4) 8, rol (a20 ^^^ dcol S 0) 18, rol (a4 ^^^ dcol S 4) 27, rol (a5 ^^^ dcol S 0) 36, rol (a11 ^^^ dcol S 1) 10, rol (a17 ^^^ dcol S 2) 15, rol (a23 ^^^ dcol S 3) 56, rol (a2 ^^^ dcol S 2) 62, rol (a8 ^^^ dcol S 3) 55, rol (a14 ^^^ dcol S 4) 39, rol (a15 ^^^ dcol S 0) 41, rol (a21 ^^^ dcol S 1) 2] := by kernel_rfl
theorem rho_one (S : St) (a0 a1 a2 a3 a4 a5 a6 a7 a8 a9 a10 a11 a12 a13 a14 a15 a16 a17 a18 a19 a20 a21 a22 a23 a24 : BitVec 64) : rhopi (thetaTo S #[a0, a1, a2, a3, a4, a5, a6, a7, a8, a9, a10, a11, a12, a13, a14, a15, a16, a17, a18, a19, a20, a21, a22, a23, a24] 5) = #[a0 ^^^ dcol S 0, rol (a6 ^^^ dcol S 1) 44, rol (a12 ^^^ dcol S 2) 43, rol (a18 ^^^ dcol S 3) 21, rol (a24 ^^^ dcol S 4) 14, rol (a3 ^^^ dcol S 3) 28, rol (a9 ^^^ dcol S 4) 20, rol (a10 ^^^ dcol S 0) 3, rol (a16 ^^^ dcol S 1) 45, rol (a22 ^^^ dcol S 2) 61, rol (a1 ^^^ dcol S 1) 1, rol (a7 ^^^ dcol S 2) 6, rol (a13 ^^^ dcol S 3) 25, rol (a19 ^^^ dcol S 4) 8, rol (a20 ^^^ dcol S 0) 18, rol (a4 ^^^ dcol S 4) 27, rol (a5 ^^^ dcol S 0) 36, rol (a11 ^^^ dcol S 1) 10, rol (a17 ^^^ dcol S 2) 15, rol (a23 ^^^ dcol S 3) 56, rol (a2 ^^^ dcol S 2) 62, rol (a8 ^^^ dcol S 3) 55, rol (a14 ^^^ dcol S 4) 39, rol (a15 ^^^ dcol S 0) 41, rol (a21 ^^^ dcol S 1) 2] := by kernel_rfl
theorem mov_eq (S : St) (a0 a1 a2 a3 a4 a5 a6 a7 a8 a9 a10 a11 a12 a13 a14 a15 a16 a17 a18 a19 a20 a21 a22 a23 a24 : BitVec 64) : movTo #[a0, a1, a2, a3, a4, a5, a6, a7, a8, a9, a10, a11, a12, a13, a14, a15, a16, a17, a18, a19, a20, a21, a22, a23, a24] offsetsL S 5 = rhopi (thetaTo S #[a0, a1, a2, a3, a4, a5, a6, a7, a8, a9, a10, a11, a12, a13, a14, a15, a16, a17, a18, a19, a20, a21, a22, a23, a24] 5) := by
  rw [offsets_eq, mov_one, rho_one, rol_zero]
theorem out_eq (a0 a1 a2 a3 a4 a5 a6 a7 a8 a9 a10 a11 a12 a13 a14 a15 a16 a17 a18 a19 a20 a21 a22 a23 a24 : BitVec 64) : outTo #[a0, a1, a2, a3, a4, a5, a6, a7, a8, a9, a10, a11, a12, a13, a14, a15, a16, a17, a18, a19, a20, a21, a22, a23, a24] 5 = chi #[a0, a1, a2, a3, a4, a5, a6, a7, a8, a9, a10, a11, a12, a13, a14, a15, a16, a17, a18, a19, a20, a21, a22, a23, a24] := by kernel_rfl
theorem list25 {α : Type} (l : List α) (h : l.length = 25) : ∃ a0 a1 a2 a3 a4 a5 a6 a7 a8 a9 a10 a11 a12 a13 a14 a15 a16 a17 a18 a19 a20 a21 a22 a23 a24, l = [a0, a1, a2, a3, a4, a5, a6, a7, a8, a9, a10, a11, a12, a13, a14, a15, a16, a17, a18, a19, a20, a21, a22, a23, a24] := by
  match l, h with
  | [a0, a1, a2, a3, a4, a5, a6, a7, a8, a9, a10, a11, a12, a13, a14, a15, a16, a17, a18, a19, a20, a21, a22, a23, a24], _ => exact ⟨_, _, _, _, _, _, _, _, _, _, _, _, _, _, _, _, _, _, _, _, _, _, _, _, _, rfl⟩
theorem arr25 {α : Type} (d : Array α) (h : d.size = 25) : ∃ a0 a1 a2 a3 a4 a5 a6 a7 a8 a9 a10 a11 a12 a13 a14 a15 a16 a17 a18 a19 a20 a21 a22 a23 a24, d = #[a0, a1, a2, a3, a4, a5, a6, a7, a8, a9, a10, a11, a12, a13, a14, a15, a16, a17, a18, a19, a20, a21, a22, a23, a24] := by
  obtain ⟨l⟩ := d
  obtain ⟨a0, a1, a2, a3, a4, a5, a6, a7, a8, a9, a10, a11, a12, a13, a14, a15, a16, a17, a18, a19, a20, a21, a22, a23, a24, rfl⟩ := list25 l h
  exact ⟨_, _, _, _, _, _, _, _, _, _, _, _, _, _, _, _, _, _, _, _, _, _, _, _, _, rfl⟩
theorem out_chi (m : St) (h : m.size = 25) : outTo m 5 = chi m := by
  obtain ⟨a0, a1, a2, a3, a4, a5, a6, a7, a8, a9, a10, a11, a12, a13, a14, a15, a16, a17, a18, a19, a20, a21, a22, a23, a24, rfl⟩ := arr25 m h
  exact out_eq _ _ _ _ _ _ _ _ _ _ _ _ _ _ _ _ _ _ _ _ _ _ _ _ _
theorem round_eq (d : St) (h : d.size = 25) (c : BitVec 64) : refRound d offsetsL c = kround d c := by
  have hm : movTo d offsetsL (colTo d 5) 5 = rhopi (theta d) := by
    obtain ⟨a0, a1, a2, a3, a4, a5, a6, a7, a8, a9, a10, a11, a12, a13, a14, a15, a16, a17, a18, a19, a20, a21, a22, a23, a24, rfl⟩ := arr25 d h
    rw [col_eq, mov_eq]
    rfl
  unfold refRound kround
  rw [hm, out_chi _ (rhopi_size _ (by rw [theta_size, h]))]
theorem refTo_eq (d : St) (h : d.size = 25) (k : Nat) (hk : k ≤ 24) : refTo d k = permTo d k := by
  induction k with
  | zero => rfl
  | succ k ih =>
    show refRound (refTo d k) offsetsL (conL k) = kround (permTo d k) (rcC (rcAt k))
    rw [ih (by omega), con_eq ⟨k, by omega⟩, round_eq _ (permTo_size d h k)]
theorem offsets_lt : ∀ i, i < 25 → offsetsL[i]! < 64 := by
  intro i hi
  have H : ∀ j : Fin 25, offsetsL[j.val]! < 64 := by decide +kernel
  exact H ⟨i, hi⟩
theorem offsets_size : offsetsL.size = 25 := by rw [offsets_eq]; rfl
end Go.Proofs.Yticolhhalbbogac.SP
namespace Go.Proofs.Yticolhhalbbogac.SP
open Go.Sort
def zero25 : St := Array.replicate 25 0
/-- S1: the state of 200 bytes, permuted. -/
def permB (bs : Bs) : Bs := front (perm (mixTo bs zero25 25)) 200
/-- The reference's words out of bytes, behind i rounds. -/
def orTo (bs : Bs) : Nat → St
  | 0 => zero25
  | i + 1 => (orTo bs i).setIfInBounds (i / 8) ((orTo bs i)[i / 8]! ||| wide bs[i]! <<< (8 * (i % 8)))
theorem orTo_size (bs : Bs) (i : Nat) : (orTo bs i).size = 25 := by
  induction i with
  | zero => simp [orTo, zero25]
  | succ i ih => simp [orTo, ih]
theorem zero25_at (j : Nat) (h : j < 25) : zero25[j]! = 0 := by
  have h' : j < (Array.replicate 25 (0 : BitVec 64)).size := by rw [Array.size_replicate]; exact h
  unfold zero25
  rw [getElem!_pos (Array.replicate 25 (0 : BitVec 64)) j h', Array.getElem_replicate]
theorem orTo_at (bs : Bs) (n j : Nat) (hn : n ≤ 200) (hj : j < 25) :
    (orTo bs n)[j]! = if j < n / 8 then wordOf bs (8 * j) else if j = n / 8 then wordTo bs (8 * j) (n % 8) else 0 := by
  induction n with
  | zero =>
    rw [orTo, zero25_at j hj]
    by_cases h : j = 0
    · subst h; rfl
    · simp [h]
  | succ n ih =>
    have ih := ih (by omega)
    rw [orTo]
    by_cases hjn : j = n / 8
    · rw [← hjn, getElem!_set_same _ _ _ (by rw [orTo_size]; omega), ih, if_neg (by omega), if_pos hjn]
      have hb : bs[n]! = bs[8 * j + n % 8]! := by
        have : n = 8 * j + n % 8 := by omega
        rw [← this]
      rw [hb]
      show wordTo bs (8 * j) (n % 8 + 1) = _
      by_cases h8 : n % 8 = 7
      · rw [if_pos (by omega), h8]
        rfl
      · rw [if_neg (by omega), if_pos (by omega), show (n + 1) % 8 = n % 8 + 1 by omega]
    · rw [getElem!_set_other _ _ _ _ hjn, ih]
      by_cases h1 : j < n / 8
      · rw [if_pos h1, if_pos (by omega)]
      · rw [if_neg h1, if_neg hjn, if_neg (by omega)]
        by_cases h2 : j = (n + 1) / 8
        · rw [if_pos h2, show (n + 1) % 8 = 0 by omega]
          rfl
        · rw [if_neg h2]
theorem mixTo_at (bs : Bs) (d : St) (hd : d.size = 25) (n j : Nat) (hn : n ≤ 25) (hj : j < 25) : (mixTo bs d n)[j]! = if j < n then d[j]! ^^^ wordOf bs (8 * j) else d[j]! := by
  induction n with
  | zero => rfl
  | succ n ih =>
    have ih := ih (by omega)
    rw [mixTo]
    unfold xorAt
    by_cases hjn : j = n
    · rw [← hjn, getElem!_set_same _ _ _ (by rw [mixTo_size, hd]; exact hj), if_pos (by omega)]
      rw [← hjn] at ih
      rw [ih, if_neg (by omega)]
    · rw [getElem!_set_other _ _ _ _ hjn, ih]
      by_cases h1 : j < n
      · rw [if_pos h1, if_pos (by omega)]
      · rw [if_neg h1, if_neg (by omega)]
theorem st_ext (a b : St) (ha : a.size = 25) (hb : b.size = 25) (h : ∀ j, j < 25 → a[j]! = b[j]!) : a = b := by
  apply Array.ext (by omega)
  intro i h1 h2
  have := h i (by omega)
  rwa [getElem!_pos a i h1, getElem!_pos b i h2] at this
theorem or_mix (bs : Bs) : orTo bs 200 = mixTo bs zero25 25 := by
  have hz : zero25.size = 25 := by simp [zero25]
  refine st_ext _ _ (orTo_size _ _) (by rw [mixTo_size, hz]) (fun j hj => ?_)
  rw [orTo_at bs 200 j (Nat.le_refl _) hj, mixTo_at bs zero25 hz 25 j (Nat.le_refl _) hj, if_pos (by omega), if_pos hj, zero25_at j hj, zx]
theorem ref_permB (bs : Bs) : front (refTo (orTo bs 200) 24) 200 = permB bs := by
  have hz : zero25.size = 25 := by simp [zero25]
  rw [refTo_eq _ (orTo_size _ _) 24 (Nat.le_refl _), or_mix]
  rfl
end Go.Proofs.Yticolhhalbbogac.SP
namespace Go.Proofs.Yticolhhalbbogac.SP
open Go.RowKit Go.Sort
theorem holds_zero25 (w : World) (t : TypeId) : Holds enc (w.alloc (.cells #[.int .u64 0, .int .u64 0, .int .u64 0, .int .u64 0, .int .u64 0, .int .u64 0, .int .u64 0, .int .u64 0, .int .u64 0, .int .u64 0, .int .u64 0, .int .u64 0, .int .u64 0, .int .u64 0, .int .u64 0, .int .u64 0, .int .u64 0, .int .u64 0, .int .u64 0, .int .u64 0, .int .u64 0, .int .u64 0, .int .u64 0, .int .u64 0, .int .u64 0] t)) w.heap.size 0 zero25 := by
  have h := Holds.new (enc := enc) w t zero25
  have e : Array.map enc zero25 = #[.int .u64 0, .int .u64 0, .int .u64 0, .int .u64 0, .int .u64 0, .int .u64 0, .int .u64 0, .int .u64 0, .int .u64 0, .int .u64 0, .int .u64 0, .int .u64 0, .int .u64 0, .int .u64 0, .int .u64 0, .int .u64 0, .int .u64 0, .int .u64 0, .int .u64 0, .int .u64 0, .int .u64 0, .int .u64 0, .int .u64 0, .int .u64 0, .int .u64 0] := by
    simp [zero25, Array.replicate, List.replicate]
    rfl
  rw [e] at h
  exact h
end Go.Proofs.Yticolhhalbbogac.SP
namespace Go.Proofs.Yticolhhalbbogac.SP
open Go.RowKit Go.Sort
/-- What Lent lays at place i behind the text. -/
def fill (i : Nat) : UInt8 := UInt8.ofNat (i % 251) ^^^ 165
theorem fill_int (i : Nat) : bits .xor .u8 ((i : Int) % 251) 165 = ub (fill i) := by
  have H : ∀ j : Fin 251, bits .xor .u8 (j.val : Int) 165 = ub (UInt8.ofNat j.val ^^^ 165) := by decide +kernel
  have := H ⟨i % 251, Nat.mod_lt _ (by decide)⟩
  simpa [fill] using this
def lentTo (s : ByteArray) : Nat → Bs
  | 0 => s.data ++ Array.replicate 160 0
  | k + 1 => (lentTo s k).setIfInBounds (s.size + k) (fill (s.size + k))
def lent (s : ByteArray) : Bs := lentTo s 160
theorem lentTo_size (s : ByteArray) (k : Nat) : (lentTo s k).size = s.size + 160 := by
  induction k with
  | zero => simp [lentTo]
  | succ k ih => simp [lentTo, ih]
theorem lent_size (s : ByteArray) : (lent s).size = s.size + 160 := lentTo_size s 160
variable {w w1 : World} {b o n : Nat}
theorem heap_setCells (b : Nat) {k : Nat} (hk : k ≠ b) : ∀ (vs : List Value) (p : Nat) (w : World), (w.setCells b p vs).heap[k]? = w.heap[k]?
  | [], _, _ => rfl
  | v :: r, p, w => by rw [World.setCells, heap_setCells b hk r (p + 1) _, Below.heap_setCell _ _ _ _ hk]
theorem Only.setCells (h : Only b o n w w1) (vs : List Value) (p : Nat) (hp : o ≤ p) (hn : p + vs.length ≤ o + n) : Only b o n w (w1.setCells b p vs) := by
  have h0 := below_setCells (B := 0) (b := b) (Nat.zero_le _) vs p w1 (Below.refl 0 w1)
  exact h.trans ⟨h0.os, h0.tape, h0.output, h0.size, fun k _ hk => heap_setCells b hk vs p w1,
    fun q hq => World.cell?_setCells_out b vs p w1 ⟨b, q, none⟩ (fun _ _ => by simp only; omega), fun q => World.frozen?_setCells b vs p w1 _⟩
/-- A row behind 'copy': what was copied stands at its place, all else as it stood. -/
theorem Holds.setCells {bs r : Bs} (h : Holds encB w b o bs) (vs : List Value) (p : Nat) (hr : r.size = bs.size) (hp : p + vs.length ≤ bs.size)
    (h1 : ∀ j (hj : j < vs.length), vs[j] = encB r[p + j]!) (h2 : ∀ j, j < bs.size → j < p ∨ p + vs.length ≤ j → r[j]! = bs[j]!) : Holds encB (w.setCells b (o + p) vs) b o r := by
  intro j hj
  rw [hr] at hj
  rw [World.frozen?_setCells]
  refine ⟨?_, (h j hj).2⟩
  by_cases hin : j < p ∨ p + vs.length ≤ j
  · rw [World.cell?_setCells_out b vs (o + p) w ⟨b, o + j, none⟩ (fun _ _ => by simp only; omega), h2 j hj hin]
    exact (h j hj).1
  · have hj2 : j - p < vs.length := by omega
    have := World.cell?_setCells_in b vs (o + p) w (fun i hi => by
      have := (h (p + i) (by omega)).1
      rw [← Nat.add_assoc] at this
      rw [this]; rfl) (j - p) hj2
    rw [show o + p + (j - p) = o + j by omega] at this
    rw [this, h1 (j - p) hj2, show p + (j - p) = j by omega]
theorem app_front (a r : Bs) (j : Nat) (hj : j < a.size) : (a ++ r)[j]! = a[j] := by
  have h : j < (a ++ r).size := by rw [Array.size_append]; omega
  rw [getElem!_pos (a ++ r) j h, Array.getElem_append_left hj]
theorem app_back (a r : Bs) (j : Nat) (h1 : a.size ≤ j) (h2 : j < a.size + r.size) : (a ++ r)[j]! = r[j - a.size]! := by
  have h : j < (a ++ r).size := by rw [Array.size_append]; omega
  have h3 : j - a.size < r.size := by omega
  rw [getElem!_pos (a ++ r) j h, Array.getElem_append_right h1, getElem!_pos r (j - a.size) h3]
theorem rep_at (n j : Nat) (h : j < n) : (Array.replicate n (0 : UInt8))[j]! = 0 := by
  have h' : j < (Array.replicate n (0 : UInt8)).size := by rw [Array.size_replicate]; exact h
  rw [getElem!_pos (Array.replicate n (0 : UInt8)) j h', Array.getElem_replicate]
theorem lent_front (s : ByteArray) (j : Nat) (hj : j < s.data.size) : (lentTo s 0)[j]! = s.data[j] := app_front _ _ j hj
theorem lent_back (s : ByteArray) (j : Nat) (h1 : s.data.size ≤ j) (h2 : j < s.data.size + 160) : (lentTo s 0)[j]! = 0 := by
  rw [lentTo, app_back _ _ j h1 (by rw [Array.size_replicate]; exact h2), rep_at _ _ (by omega)]
theorem holds_lent0 (s : ByteArray) (n : Nat) (hn : s.size + 160 = n) (h : Holds encB w b 0 (Array.replicate n (0 : UInt8))) :
    Holds encB (w.setCells b 0 (s.data.toList.map fun x => Value.int .u8 (x.toNat : Int))) b 0 (lentTo s 0) := by
  have hl : s.data.size = s.size := rfl
  refine Holds.setCells (o := 0) (p := 0) h _ (by rw [lentTo_size, Array.size_replicate, hn]) (by rw [List.length_map, Array.length_toList, Array.size_replicate]; omega) (fun j hj => ?_) (fun j hj hout => ?_)
  · rw [List.length_map, Array.length_toList] at hj
    rw [Nat.zero_add, lent_front s j hj, List.getElem_map, Array.getElem_toList]
    rfl
  · rw [Array.size_replicate] at hj
    rw [List.length_map, Array.length_toList] at hout
    rw [lent_back s j (by omega) (by omega), rep_at n j hj]
theorem size_of5 (P : Program) (e : TypeId) (h : (P.info? e).map (·.size) = some 1) : ∀ w, (Go.sizeOf e).run P w = .ok 1 w := by
  intro w
  cases hq : P.info? e with
  | none => simp [hq] at h
  | some i =>
    simp [hq] at h
    simp [Go.sizeOf, typeInfo, hq, h]
theorem conv_str (P : Program) (src dst e : TypeId) (hs : P.underlying src = some (.slice e)) (he : P.underlying e = some (.int .u8)) (hd : P.underlying dst = some .string)
    (w : World) (b o n cap : Nat) (bs : Bs) (hB : Holds encB w b o bs) (hn : bs.size = n) : (convert src dst (.slice (some ⟨b, o, none⟩) n cap)).run P w = .ok (.string ⟨bs⟩) w := by
  have h := run_convert_bytes_back (P := P) w src dst e ⟨b, o, none⟩ cap bs.toList hs he hd (fun j hj => by
    have hj' : j < bs.size := by simpa using hj
    have hc := (hB j hj').1
    rw [getElem!_pos bs j hj'] at hc
    have e1 : (⟨b, o, none⟩ : Addr).add j = ⟨b, o + j, none⟩ := by
      unfold Addr.add
      by_cases h0 : j = 0
      · subst h0; rfl
      · rw [if_neg h0]
    rw [e1, hc]
    simp [encB, ub])
  simpa [hn] using h
end Go.Proofs.Yticolhhalbbogac.SP
namespace Go.Proofs.Yticolhhalbbogac.SP
open Go.RowKit Go.Sort Go.Deep
theorem int5 : Try.prog.underlying 5 = some (.int .u8) := by kernel_rfl
theorem str9 : Try.prog.underlying 9 = some .string := by kernel_rfl
theorem size5 : ∀ w, (Go.sizeOf 5).run Try.prog w = .ok 1 w := size_of5 Try.prog 5 (by kernel_rfl)
theorem lent_step (s : ByteArray) (k : Nat) : lentTo s (k + 1) = (lentTo s k).setIfInBounds (s.size + k) (fill (s.size + k)) := rfl
end Go.Proofs.Yticolhhalbbogac.SP
