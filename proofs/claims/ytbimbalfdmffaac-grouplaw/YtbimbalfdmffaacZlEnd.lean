import Derived.Deep.AppendSrc
import Derived.Lib.AppendZeros
import Derived.Deep.LoopGhost
import Derived.Deep.RegionHeld3
import Derived.Lib.LazyBuf
import Derived.ChangeOld
import Derived.Below
import Derived.WalkKit
import Derived.ProofKit
import Derived.OpenShut
import Derived.ShutString
import Derived.Test.YtbimbalfdmffaacZl4
set_option linter.unusedVariables false
set_option linter.unusedSimpArgs false
namespace Go.Proofs.Ytbimbalfdmffaac
open Go.RowKit Go.Sort Go.Deep
variable {P : Nat} [NeZero P]
/-- A number's 32 bytes. -/
def bx (n : Nat) : Bs := be32 (n % 18446744073709551616) (n / 18446744073709551616 % 18446744073709551616) (n / 340282366920938463463374607431768211456 % 18446744073709551616) (n / 6277101735386680763835789423207666416102355444464034512896 % 18446744073709551616)
theorem bx_size (n : Nat) : (bx n).size = 32 := by unfold bx; exact be32_size _ _ _ _
def mark (n : Nat) : UInt8 := if n % 2 = 1 then 3 else 2
/-- A point's 33 bytes. -/
def by33 (x y : Fin P) : Bs := if x = 0 ∧ y = 0 then Array.replicate 33 0 else #[mark y.val] ++ bx x.val
theorem Bytes_c (C : Fld P) (x : Fin P) (w : World) : Calls Try.prog 28 #[fv x] w (Ret fun e w' => Below w.heap.size w w' ∧ ∃ g, e = .slice (some ⟨g, 0, none⟩) 32 32 ∧ w.heap.size ≤ g ∧ Holds encB w' g 0 (bx x.val)) :=
  (Bytes_any _ _ w (C.four x)).mono (by
    rintro e w' ⟨v, rfl, hb, g, a, b, c, d, rfl, hg, he, hH⟩
    refine ⟨_, rfl, hb, g, rfl, hg, ?_⟩
    have h2 : fv x = .agg #[.int .u64 ((x.val % 18446744073709551616 : Nat) : Int), .int .u64 ((x.val / 18446744073709551616 % 18446744073709551616 : Nat) : Int), .int .u64 ((x.val / 340282366920938463463374607431768211456 % 18446744073709551616 : Nat) : Int), .int .u64 ((x.val / 6277101735386680763835789423207666416102355444464034512896 % 18446744073709551616 : Nat) : Int)] := rfl
    rw [h2] at he
    simp only [Value.agg.injEq, Array.mk.injEq, List.cons.injEq, Value.int.injEq, true_and, and_true, Int.ofNat_inj] at he
    obtain ⟨rfl, rfl, rfl, rfl⟩ := he
    exact hH)
theorem Odd_c (C : Fld P) (y : Fin P) : Gives 27 #[fv y] (.bool (decide (y.val % 2 = 1))) := fun w =>
  (Odd_any _ _ (C.four y) w).mono (by rintro e w' ⟨v, rfl, hb, rfl⟩; exact ⟨_, rfl, hb, rfl⟩)
theorem info5b : (Try.prog.info? 5).map (fun i => (i.zero, i.size, i.bytes)) = some (some (.int .u8 0), 1, 1) := by kernel_rfl
theorem und23 : Try.prog.underlying 22 = some (.slice 5) := by kernel_rfl
/-- What bytes answers. -/
def BytesR (w : World) (T : Bs) (e : Value) (w' : World) : Prop := ∃ g cap, e = .slice (some ⟨g, 0, none⟩) 33 cap ∧ 33 ≤ cap ∧ w.heap.size ≤ g ∧ g < w'.heap.size ∧ Holds encB w' g 0 T
theorem mk33 (w : World) : (Instr.makeSlice 22 (.int .i64 33) (.int .i64 33)).run Try.prog w = .ok (.slice (some ⟨w.heap.size, 0, none⟩) 33 33) (w.alloc (.cells (madeCells #[.int .u8 0] 33) 5)) :=
  run_make_row' (P := Try.prog) 22 5 (.int .u8 0) 1 und23 info5b rfl .i64 .i64 33 (by decide) (by decide) w
theorem made33 (w : World) (o : Obj) : Holds encB ((w.alloc o).alloc (.cells (madeCells #[.int .u8 0] 33) 5)) (w.heap.size + 1) 0 (Array.replicate 33 0) := by
  have h := Holds.made (enc := encB) (w.alloc o) 5 33 (0 : UInt8)
  rw [World.size_alloc] at h
  exact h
omit [NeZero P] in
theorem pv_words (x y : Fin P) : pv x y = .agg #[.int .u64 ((x.val % 18446744073709551616 : Nat) : Int), .int .u64 ((x.val / 18446744073709551616 % 18446744073709551616 : Nat) : Int), .int .u64 ((x.val / 340282366920938463463374607431768211456 % 18446744073709551616 : Nat) : Int), .int .u64 ((x.val / 6277101735386680763835789423207666416102355444464034512896 % 18446744073709551616 : Nat) : Int), .int .u64 ((y.val % 18446744073709551616 : Nat) : Int), .int .u64 ((y.val / 18446744073709551616 % 18446744073709551616 : Nat) : Int), .int .u64 ((y.val / 340282366920938463463374607431768211456 % 18446744073709551616 : Nat) : Int), .int .u64 ((y.val / 6277101735386680763835789423207666416102355444464034512896 % 18446744073709551616 : Nat) : Int)] := rfl
set_option maxHeartbeats 2000000 in
set_option maxRecDepth 100000 in
theorem bytes_zero (C : Fld P) (x y : Fin P) (hz : x = 0 ∧ y = 0) (w : World) : Calls Try.prog 16 #[pv x y] w (Ret fun e w' => Below w.heap.size w w' ∧ BytesR w (Array.replicate 33 0) e w') := by
  have heq := eqPt_t C (x := x) (y := y) (z := 0) (t := 0) hz
  rw [← zero_pv, pv_words] at heq
  rw [pv_words]
  generalize ((x.val % 18446744073709551616 : Nat) : Int) = a at heq ⊢
  generalize ((x.val / 18446744073709551616 % 18446744073709551616 : Nat) : Int) = b at heq ⊢
  generalize ((x.val / 340282366920938463463374607431768211456 % 18446744073709551616 : Nat) : Int) = c at heq ⊢
  generalize ((x.val / 6277101735386680763835789423207666416102355444464034512896 % 18446744073709551616 : Nat) : Int) = d at heq ⊢
  generalize ((y.val % 18446744073709551616 : Nat) : Int) = p at heq ⊢
  generalize ((y.val / 18446744073709551616 % 18446744073709551616 : Nat) : Int) = q at heq ⊢
  generalize ((y.val / 340282366920938463463374607431768211456 % 18446744073709551616 : Nat) : Int) = r at heq ⊢
  generalize ((y.val / 6277101735386680763835789423207666416102355444464034512896 % 18446744073709551616 : Nat) : Int) = s at heq ⊢
  have hmk := mk33
  generalize hT : (Array.replicate 33 0 : Bs) = T
  go_enter Try.func16, Try.ntmps16
  go_wp2
  go_ret
  have hM := made33 w (.cells #[.int .u64 a, .int .u64 b, .int .u64 c, .int .u64 d, .int .u64 p, .int .u64 q, .int .u64 r, .int .u64 s] 40)
  rw [hT] at hM
  exact ⟨_, rfl, below2 _ _ _, _, 33, rfl, by omega, by omega, by simp, hM⟩
theorem grow33 (w : World) (k g m : Nat) (B : Bs) (hB : B.size = 32) (hc : w.cell? ⟨k, 0, none⟩ = some (.int .u8 (m : Int))) (hH : Holds encB w g 0 B) (hm : m < 256 := by decide) :
    ∃ (w' : World) (cap : Nat), (Builtin.append_ #[22, 22] 22 #[.slice (some ⟨k, 0, none⟩) 1 1, .slice (some ⟨g, 0, none⟩) 32 32]).run Try.prog w = .ok (.slice (some ⟨w.heap.size, 0, none⟩) 33 cap) w' ∧ Below w.heap.size w w' ∧ 33 ≤ cap ∧ w.heap.size < w'.heap.size ∧ Holds encB w' w.heap.size 0 (#[UInt8.ofNat m] ++ B) := by
  obtain ⟨i, hi, hzz⟩ := Option.map_eq_some_iff.1 info5b
  simp only [Prod.mk.injEq] at hzz
  obtain ⟨hz, hs, hb⟩ := hzz
  have hap := run_append_grow (P := Try.prog) w 22 22 5 i (.int .u8 0) und23 hi hz ⟨k, 0, none⟩ 1 1 [.int .u8 (m : Int)] (by rw [hs]; rfl) (fun j v hj => by
      cases j with
      | zero =>
        obtain rfl : Value.int .u8 (m : Int) = v := by simpa using hj
        rw [Addr.add_mid]
        exact hc
      | succ j => simp at hj) ⟨g, 0, none⟩ 32 32 (B.toList.map encB) (by rw [hs, List.length_map, Array.length_toList, hB]) (fun j v hj => by
      have hj' : j < B.size := by
        have := (List.getElem?_eq_some_iff.1 hj).1
        rwa [List.length_map, Array.length_toList] at this
      rw [Addr.add_mid, (hH j hj').1]
      rw [List.getElem?_map, Array.getElem?_toList, Array.getElem?_eq_getElem hj'] at hj
      rw [getElem!_pos B j hj']
      exact hj) (by decide) (by decide) (by rw [hb]; decide)
  refine ⟨_, _, hap, ?_, ?_, ?_, ?_⟩
  · exact (Below.refl _ w).drew.trans (below1 w.drew _)
  · exact grownCap_ge w (1 + 32) 1 5
  · show w.drew.heap.size < (w.drew.alloc _).heap.size
    rw [World.size_alloc]
    exact Nat.lt_succ_self _
  · intro j hj
    have hsz : (#[UInt8.ofNat m] ++ B).size = 33 := by rw [Array.size_append, hB]; rfl
    have hj' : j < 33 := by rw [← hsz]; exact hj
    refine ⟨?_, World.frozen?_alloc_new w.drew _ _ _⟩
    show (w.drew.alloc _).cell? ⟨w.drew.heap.size, 0 + j, none⟩ = _
    rw [Nat.zero_add, World.cell?_alloc_new, getElem!_pos _ j hj, Array.getElem?_append_left (by
      rw [Array.size_append, List.size_toArray, List.size_toArray, List.length_map, Array.length_toList]
      show j < 1 + B.size
      omega)]
    cases j with
    | zero =>
      rw [Array.getElem?_append_left (by simp), Array.getElem_append_left (by simp)]
      show some (Value.int .u8 (m : Int)) = some (encB (UInt8.ofNat m))
      unfold encB
      rw [ub_ofNat, Nat.mod_eq_of_lt hm]
    | succ i =>
      rw [Array.getElem?_append_right (by simp), Array.getElem_append_right (by simp), List.getElem?_toArray, List.getElem?_map, Array.getElem?_toList]
      show Option.map encB B[i]? = some (encB B[i])
      rw [Array.getElem?_eq_getElem (by omega)]
      rfl
theorem keptP (w : World) (a b c d p q r s : Nat) : Kept w w.heap.size [⟨w.heap.size, 0, a, b, c, d⟩, ⟨w.heap.size, 4, p, q, r, s⟩] (w.alloc (.cells #[.int .u64 (a : Int), .int .u64 (b : Int), .int .u64 (c : Int), .int .u64 (d : Int), .int .u64 (p : Int), .int .u64 (q : Int), .int .u64 (r : Int), .int .u64 (s : Int)] 40)) := by
  have F := At8.made w 40 a b c d p q r s rfl
  refine ((Kept.mk1 (below1 w _) (below1 w _).size).cons ?_).cons ?_
  · exact ⟨F.c4, F.c5, F.c6, F.c7, F.fz⟩
  · exact ⟨F.c0, F.c1, F.c2, F.c3, F.fz⟩
set_option maxHeartbeats 4000000 in
set_option maxRecDepth 100000 in
theorem bytes_odd (C : Fld P) (x y : Fin P) (hz : ¬ (x = 0 ∧ y = 0)) (ho : y.val % 2 = 1) (w : World) : Calls Try.prog 16 #[pv x y] w (Ret fun e w' => Below w.heap.size w w' ∧ BytesR w (#[3] ++ bx x.val) e w') := by
  have heq := eqPt_f C (x := x) (y := y) (z := 0) (t := 0) hz
  rw [← zero_pv, pv_words] at heq
  rw [pv_words]
  have hO : ∀ w, Calls Try.prog 27 #[.agg #[.int .u64 ((y.val % 18446744073709551616 : Nat) : Int), .int .u64 ((y.val / 18446744073709551616 % 18446744073709551616 : Nat) : Int), .int .u64 ((y.val / 340282366920938463463374607431768211456 % 18446744073709551616 : Nat) : Int), .int .u64 ((y.val / 6277101735386680763835789423207666416102355444464034512896 % 18446744073709551616 : Nat) : Int)]] w (Ret fun e w' => Below w.heap.size w w' ∧ e = .bool true) := fun w => by
    have h := Odd_c C y w
    rw [decide_eq_true ho] at h
    exact h
  have hBy : ∀ w, Calls Try.prog 28 #[.agg #[.int .u64 ((x.val % 18446744073709551616 : Nat) : Int), .int .u64 ((x.val / 18446744073709551616 % 18446744073709551616 : Nat) : Int), .int .u64 ((x.val / 340282366920938463463374607431768211456 % 18446744073709551616 : Nat) : Int), .int .u64 ((x.val / 6277101735386680763835789423207666416102355444464034512896 % 18446744073709551616 : Nat) : Int)]] w (Ret fun e w' => Below w.heap.size w w' ∧ ∃ g, e = .slice (some ⟨g, 0, none⟩) 32 32 ∧ w.heap.size ≤ g ∧ Holds encB w' g 0 (bx x.val)) := Bytes_c C x
  have hbs := bx_size x.val
  generalize bx x.val = B at hBy hbs ⊢
  generalize x.val % 18446744073709551616 = a at heq hO hBy ⊢
  generalize x.val / 18446744073709551616 % 18446744073709551616 = b at heq hO hBy ⊢
  generalize x.val / 340282366920938463463374607431768211456 % 18446744073709551616 = c at heq hO hBy ⊢
  generalize x.val / 6277101735386680763835789423207666416102355444464034512896 % 18446744073709551616 = d at heq hO hBy ⊢
  generalize y.val % 18446744073709551616 = p at heq hO hBy ⊢
  generalize y.val / 18446744073709551616 % 18446744073709551616 = q at heq hO hBy ⊢
  generalize y.val / 340282366920938463463374607431768211456 % 18446744073709551616 = r at heq hO hBy ⊢
  generalize y.val / 6277101735386680763835789423207666416102355444464034512896 % 18446744073709551616 = s at heq hO hBy ⊢
  have HQ : Hid (∀ w, (binOp .eql 40 _ _).run Try.prog w = _) := heq
  go_enter Try.func16, Try.ntmps16
  go_wp2_with fail
  have KP := keptP w a b c d p q r s
  clear heq
  generalize World.alloc _ _ = W0 at KP ⊢
  generalize hk : w.heap.size = k0 at KP ⊢
  refine (hO _).mono ?_
  rintro e w1 ⟨v, rfl, hb1, rfl⟩
  replace KP := KP.call hb1
  clear hb1 HQ hO
  obtain ⟨xc0, xc1, xc2, xc3, xf⟩ := KP.head
  have zx := KP.head.lt
  go_wp2_with fail
  refine (hBy _).mono ?_
  rintro e w2 ⟨v, rfl, hb2, g, rfl, hg, hH⟩
  have hc : w2.cell? ⟨w1.heap.size, 0, none⟩ = some (.int .u8 3) := by
    rw [hb2.cell (p := ⟨w1.heap.size, 0, none⟩) (by show w1.heap.size < _; rw [World.size_alloc]; omega), World.cell?_alloc_new]
    rfl
  have hle : k0 ≤ w2.heap.size := Nat.le_trans KP.le (Nat.le_trans (by rw [World.size_alloc]; omega) hb2.size)
  have hbl : Hid (Below k0 w w2) := ((KP.alloc _).call hb2).bl
  clear KP hb2 xc0 xc1 xc2 xc3 xf zx hg
  obtain ⟨W3, cp, hap, hb3, hcp, hsz3, hH3⟩ := grow33 w2 w1.heap.size g 3 B hbs hc hH
  generalize w1.heap.size = km at hap ⊢
  go_wp2_with (at_builtin; refine Lib.wpList_append_run _ rfl _ _ 22 22 rfl _ _ rfl rfl _ _ hap ?_)
  go_ret
  refine ⟨_, rfl, ?_, _, cp, rfl, hcp, ?_, hsz3, hH3⟩
  · rw [hk]; exact hbl.out.trans (hb3.mono hle)
  · rw [hk]; exact hle
set_option maxHeartbeats 4000000 in
set_option maxRecDepth 100000 in
theorem bytes_even (C : Fld P) (x y : Fin P) (hz : ¬ (x = 0 ∧ y = 0)) (ho : ¬ y.val % 2 = 1) (w : World) : Calls Try.prog 16 #[pv x y] w (Ret fun e w' => Below w.heap.size w w' ∧ BytesR w (#[2] ++ bx x.val) e w') := by
  have heq := eqPt_f C (x := x) (y := y) (z := 0) (t := 0) hz
  rw [← zero_pv, pv_words] at heq
  rw [pv_words]
  have hO : ∀ w, Calls Try.prog 27 #[.agg #[.int .u64 ((y.val % 18446744073709551616 : Nat) : Int), .int .u64 ((y.val / 18446744073709551616 % 18446744073709551616 : Nat) : Int), .int .u64 ((y.val / 340282366920938463463374607431768211456 % 18446744073709551616 : Nat) : Int), .int .u64 ((y.val / 6277101735386680763835789423207666416102355444464034512896 % 18446744073709551616 : Nat) : Int)]] w (Ret fun e w' => Below w.heap.size w w' ∧ e = .bool false) := fun w => by
    have h := Odd_c C y w
    rw [decide_eq_false ho] at h
    exact h
  have hBy : ∀ w, Calls Try.prog 28 #[.agg #[.int .u64 ((x.val % 18446744073709551616 : Nat) : Int), .int .u64 ((x.val / 18446744073709551616 % 18446744073709551616 : Nat) : Int), .int .u64 ((x.val / 340282366920938463463374607431768211456 % 18446744073709551616 : Nat) : Int), .int .u64 ((x.val / 6277101735386680763835789423207666416102355444464034512896 % 18446744073709551616 : Nat) : Int)]] w (Ret fun e w' => Below w.heap.size w w' ∧ ∃ g, e = .slice (some ⟨g, 0, none⟩) 32 32 ∧ w.heap.size ≤ g ∧ Holds encB w' g 0 (bx x.val)) := Bytes_c C x
  have hbs := bx_size x.val
  generalize bx x.val = B at hBy hbs ⊢
  generalize x.val % 18446744073709551616 = a at heq hO hBy ⊢
  generalize x.val / 18446744073709551616 % 18446744073709551616 = b at heq hO hBy ⊢
  generalize x.val / 340282366920938463463374607431768211456 % 18446744073709551616 = c at heq hO hBy ⊢
  generalize x.val / 6277101735386680763835789423207666416102355444464034512896 % 18446744073709551616 = d at heq hO hBy ⊢
  generalize y.val % 18446744073709551616 = p at heq hO hBy ⊢
  generalize y.val / 18446744073709551616 % 18446744073709551616 = q at heq hO hBy ⊢
  generalize y.val / 340282366920938463463374607431768211456 % 18446744073709551616 = r at heq hO hBy ⊢
  generalize y.val / 6277101735386680763835789423207666416102355444464034512896 % 18446744073709551616 = s at heq hO hBy ⊢
  have HQ : Hid (∀ w, (binOp .eql 40 _ _).run Try.prog w = _) := heq
  go_enter Try.func16, Try.ntmps16
  go_wp2_with fail
  have KP := keptP w a b c d p q r s
  clear heq
  generalize World.alloc _ _ = W0 at KP ⊢
  generalize hk : w.heap.size = k0 at KP ⊢
  refine (hO _).mono ?_
  rintro e w1 ⟨v, rfl, hb1, rfl⟩
  replace KP := KP.call hb1
  clear hb1 HQ hO
  obtain ⟨xc0, xc1, xc2, xc3, xf⟩ := KP.head
  have zx := KP.head.lt
  go_wp2_with fail
  refine (hBy _).mono ?_
  rintro e w2 ⟨v, rfl, hb2, g, rfl, hg, hH⟩
  have hc : w2.cell? ⟨w1.heap.size, 0, none⟩ = some (.int .u8 2) := by
    rw [hb2.cell (p := ⟨w1.heap.size, 0, none⟩) (by show w1.heap.size < _; rw [World.size_alloc]; omega), World.cell?_alloc_new]
    rfl
  have hle : k0 ≤ w2.heap.size := Nat.le_trans KP.le (Nat.le_trans (by rw [World.size_alloc]; omega) hb2.size)
  have hbl : Hid (Below k0 w w2) := ((KP.alloc _).call hb2).bl
  clear KP hb2 xc0 xc1 xc2 xc3 xf zx hg
  obtain ⟨W3, cp, hap, hb3, hcp, hsz3, hH3⟩ := grow33 w2 w1.heap.size g 2 B hbs hc hH
  generalize w1.heap.size = km at hap ⊢
  go_wp2_with (at_builtin; refine Lib.wpList_append_run _ rfl _ _ 22 22 rfl _ _ rfl rfl _ _ hap ?_)
  go_ret
  refine ⟨_, rfl, ?_, _, cp, rfl, hcp, ?_, hsz3, hH3⟩
  · rw [hk]; exact hbl.out.trans (hb3.mono hle)
  · rw [hk]; exact hle
theorem bytes_c (C : Fld P) (x y : Fin P) (w : World) : Calls Try.prog 16 #[pv x y] w (Ret fun e w' => Below w.heap.size w w' ∧ BytesR w (by33 x y) e w') := by
  unfold by33 mark
  by_cases hz : x = 0 ∧ y = 0
  · rw [if_pos hz]
    exact bytes_zero C x y hz w
  · rw [if_neg hz]
    by_cases ho : y.val % 2 = 1
    · rw [if_pos ho]
      exact bytes_odd C x y hz ho w
    · rw [if_neg ho]
      exact bytes_even C x y hz ho w
end Go.Proofs.Ytbimbalfdmffaac
namespace Go.Proofs.Ytbimbalfdmffaac
open Go.RowKit Go.Sort Go.Deep
theorem u23 : (Try.prog.underlying 22).map (·.isRow) = some false := by kernel_rfl
theorem at46 (k o n c i : Nat) (hi : i < n) (w : World) : (Instr.indexAt 34 (.slice (some ⟨k, o, none⟩) n c) (.int .i64 (i : Int))).run Try.prog w = .ok (.pointer (some ⟨k, o + i, none⟩)) w := by
  have h1 : ¬ (i : Int) < 0 := by omega
  have h2 : (i : Int) < n := by omega
  go_simp
theorem mk112 (N : Nat) (hN : N ≤ 512) : ∃ C0 : List Value, C0.length = 8 * N ∧ ∀ w : World, (Instr.makeSlice 44 (.int .i64 (N : Int)) (.int .i64 (N : Int))).run Try.prog w = .ok (.slice (some ⟨w.heap.size, 0, none⟩) N N) (w.alloc (.cells C0.toArray 40)) := by
  have hu : Try.prog.underlying 44 = some (.slice 40) := by kernel_rfl
  have hi : (Try.prog.info? 40).map (fun i => (i.size, decide (i.bytes ≤ 4000), i.zero.isSome)) = some (8, true, true) := by kernel_rfl
  obtain ⟨i, hi1, hi2⟩ := Option.map_eq_some_iff.1 hi
  simp only [Prod.mk.injEq, decide_eq_true_eq] at hi2
  obtain ⟨h1, h2, h3⟩ := hi2
  obtain ⟨z, hz⟩ := Option.isSome_iff_exists.1 h3
  refine ⟨(madeCells z.cells (N * 8)).toList, by rw [Array.length_toList, size_madeCells, Nat.mul_comm], fun w => ?_⟩
  have hb : (i.bytes : Int) * (N : Int) ≤ 281474976710656 := by
    have : i.bytes * N ≤ 4000 * 512 := Nat.mul_le_mul h2 hN
    have h5 : ((i.bytes * N : Nat) : Int) ≤ 281474976710656 := by omega
    rwa [Int.natCast_mul] at h5
  have := run_make (P := Try.prog) w 44 40 i z hu hi1 hz .i64 .i64 (N : Int) (N : Int) (by omega) (by omega) hb (by omega)
  rw [Int.toNat_natCast, h1] at this
  rw [Array.toArray_toList]
  exact this
theorem mk82 (N : Nat) (hN : N ≤ 512) : ∃ C0 : List Value, C0.length = 4 * N ∧ ∀ w : World, (Instr.makeSlice 53 (.int .i64 (N : Int)) (.int .i64 (N : Int))).run Try.prog w = .ok (.slice (some ⟨w.heap.size, 0, none⟩) N N) (w.alloc (.cells C0.toArray 38)) := by
  have hu : Try.prog.underlying 53 = some (.slice 38) := by kernel_rfl
  have hi : (Try.prog.info? 38).map (fun i => (i.size, decide (i.bytes ≤ 4000), i.zero.isSome)) = some (4, true, true) := by kernel_rfl
  obtain ⟨i, hi1, hi2⟩ := Option.map_eq_some_iff.1 hi
  simp only [Prod.mk.injEq, decide_eq_true_eq] at hi2
  obtain ⟨h1, h2, h3⟩ := hi2
  obtain ⟨z, hz⟩ := Option.isSome_iff_exists.1 h3
  refine ⟨(madeCells z.cells (N * 4)).toList, by rw [Array.length_toList, size_madeCells, Nat.mul_comm], fun w => ?_⟩
  have hb : (i.bytes : Int) * (N : Int) ≤ 281474976710656 := by
    have : i.bytes * N ≤ 4000 * 512 := Nat.mul_le_mul h2 hN
    have h5 : ((i.bytes * N : Nat) : Int) ≤ 281474976710656 := by omega
    rwa [Int.natCast_mul] at h5
  have := run_make (P := Try.prog) w 53 38 i z hu hi1 hz .i64 .i64 (N : Int) (N : Int) (by omega) (by omega) hb (by omega)
  rw [Int.toNat_natCast, h1] at this
  rw [Array.toArray_toList]
  exact this
/-- Rows of sz cells: m of them are there. -/
structure Rows (sz N : Nat) (cell : Nat → List Value) (m : Nat) (C : List Value) : Prop where
  len : C.length = sz * N
  row : ∀ j r, j < m → r < sz → C[sz * j + r]? = (cell j)[r]?
theorem Rows.next {sz N m : Nat} {cell : Nat → List Value} {C : List Value} (h : Rows sz N cell m C) (hm : m < N) (hc : (cell m).length = sz) : Rows sz N cell (m + 1) (RG.rep C (0 + sz * m) (cell m)) := by
  have hlen := h.len
  have hb : sz * m + sz ≤ sz * N := by rw [← Nat.mul_succ]; exact Nat.mul_le_mul_left _ hm
  have hl : 0 + sz * m + (cell m).length ≤ C.length := by rw [hc]; omega
  refine ⟨by rw [RG.rep_length hl]; exact hlen, fun j r hj hr => ?_⟩
  rw [RG.rep_at hl]
  by_cases hjm : j = m
  · subst hjm
    rw [if_pos (by rw [hc]; omega), show sz * j + r - (0 + sz * j) = r by omega]
  · have h2 : sz * j + sz ≤ sz * m := by rw [← Nat.mul_succ]; exact Nat.mul_le_mul_left _ (by omega)
    rw [if_neg (by rw [hc]; omega)]
    exact h.row j r (by omega) hr
/-- Bytes as a number of the order. -/
def rq (N : Nat) (bs : Bs) : Option Nat := if bs.size = 32 ∧ beV bs.toList < N then some (beV bs.toList) else none
def rqV : Option Nat → Value
  | none => .tuple #[nv 0, .bool false]
  | some n => .tuple #[nv n, .bool true]
theorem Scalars_c : Gives 41 #[] gv1 := fun w => (Scalars_any w).mono (by rintro e w' ⟨rfl, rfl⟩; exact ⟨_, rfl, below1 _ _, rfl⟩)
theorem readQ_c {N : Nat} (hG : Gap 4624529908474429119 4994812053365940164 1 N) (v : Value) (bs : Bs) (w : World) (hv : Arg w v bs) : Calls Try.prog 30 #[gv1, v] w (Ret fun e w' => Below w.heap.size w w' ∧ e = rqV (rq N bs)) := by
  obtain ⟨p, n, cap, rfl, hs, h1⟩ := hv
  unfold rq
  by_cases hn : n = 32
  · subst hn
    obtain ⟨g, o, rfl, h4, h6, h7⟩ := h1 rfl
    refine (Read_any _ _ _ N g o cap bs hG w hs h4 h6 h7).mono ?_
    rintro e w' ⟨v, rfl, hb, ⟨hl, v', rfl, h8⟩ | ⟨hl, rfl⟩⟩
    · rw [if_pos ⟨hs, hl⟩]
      exact ⟨_, rfl, hb, by rw [h8.nv]; rfl⟩
    · rw [if_neg (fun h => by omega)]
      exact ⟨_, rfl, hb, rfl⟩
  · refine (Read_len _ p n cap w _ _ _ rfl hn).mono ?_
    rintro e w' ⟨v, rfl, hb, rfl⟩
    rw [if_neg (fun h => hn (hs.symm.trans h.1))]
    exact ⟨_, rfl, hb, rfl⟩
end Go.Proofs.Ytbimbalfdmffaac
namespace Go.Proofs.Ytbimbalfdmffaac
open Go.RowKit Go.Sort
variable {P : Nat} [NeZero P]
def F72a_0 (x : Fin P) : List RG.It := [.x 2 [] (.slice none 0 0), .x 3 [] (.int .i64 0)]
def F72a_1 (q : Option Addr) (n cap : Nat) (x : Fin P) : List RG.It := [.x 9 [] (.slice q n cap), .x 10 [(9, 0)] (.int .i64 (n : Int)), ⟨some 11, [(10, 1)], (.s 0 n n), .make 0⟩, .s 4 [(11, 2)] (.s 0 n n)]
def F72a_2 (q : Option Addr) (n cap : Nat) (x : Fin P) : List RG.It := [.x 12 [] (.slice q n cap), .x 13 [(12, 0)] (.int .i64 (n : Int)), .x 14 [] (.int .i64 0)]
def F72b_3 (x : Fin P) : List RG.It := [.x 15 [] (.bool true)]
def F72b_4 (gg i : Nat) (v : Value) (x : Fin P) : List RG.It := [.x 16 [] (.int .i64 (i : Int)), .x 17 [] (.pointer (some ⟨gg, (0 + i), none⟩)), .x 18 [(17, 1)] v, .x 5 [(16, 0)] (.int .i64 (i : Int)), .x 6 [(18, 2)] v]
def F72b_5 (m : Nat) (v : Value) (x y : Fin P) : List RG.It := [.x 20 [] v, .c 21 [(20, 0)] (.tuple #[(pv x y), (.bool true)]), .x 19 [(21, 1)] (.tuple #[(pv x y), (.bool true)]), .x 22 [(19, 2)] (pv x y), .x 23 [(19, 2)] (.bool true), .m 7 [] 1, .u [(7, 5), (22, 3)] 1, .x 8 [(23, 4)] (.bool true)]
def F72b_6 (x : Fin P) : List RG.It := [.x 24 [] (.bool true), .x 25 [(24, 0)] (.bool false)]
def F72b_8 (n i : Nat) (x y : Fin P) : List RG.It := [.s 26 [] (.s 0 n n), .x 27 [] (.int .i64 (i : Int)), .x 28 [] (pv x y), .s 29 [(26, 0), (27, 1)] (.p 0 (0 + 8 * i)), .u [(29, 3), (28, 2)] 0]
def F72b_9 (i : Nat) (x : Fin P) : List RG.It := [.x 30 [] (.int .i64 ((i + 1 : Nat) : Int)), .x 14 [(30, 0)] (.int .i64 ((i + 1 : Nat) : Int))]
def F72f_3 (x : Fin P) : List RG.It := [.x 15 [] (.bool true)]
def F72f_4 (gg i : Nat) (v : Value) (x : Fin P) : List RG.It := [.x 16 [] (.int .i64 (i : Int)), .x 17 [] (.pointer (some ⟨gg, (0 + i), none⟩)), .x 18 [(17, 1)] v, .x 5 [(16, 0)] (.int .i64 (i : Int)), .x 6 [(18, 2)] v]
def F72f_5 (m : Nat) (v : Value) (x : Fin P) : List RG.It := [.x 20 [] v, .c 21 [(20, 0)] (.tuple #[(pv (0 : Fin P) (0 : Fin P)), (.bool false)]), .x 19 [(21, 1)] (.tuple #[(pv (0 : Fin P) (0 : Fin P)), (.bool false)]), .x 22 [(19, 2)] (pv (0 : Fin P) (0 : Fin P)), .x 23 [(19, 2)] (.bool false), .m 7 [] 1, .u [(7, 5), (22, 3)] 1, .x 8 [(23, 4)] (.bool false)]
def F72f_6 (x : Fin P) : List RG.It := [.x 24 [] (.bool false), .x 25 [(24, 0)] (.bool true)]
def F72f_7 (x : Fin P) : List RG.It := [.x 2 [] (.slice none 0 0), .x 3 [] (.int .i64 4)]
def F72e_3 (x : Fin P) : List RG.It := [.x 15 [] (.bool false)]
def F72e_10 (n : Nat) (x : Fin P) : List RG.It := [.s 31 [] (.s 0 n n), .s 2 [(31, 0)] (.s 0 n n), .x 3 [] (.int .i64 0)]
/-- A list of arguments in a block. -/
def ArgsPts (w : World) (q : Option Addr) (n : Nat) (L : Nat → Bs) : Prop := 0 < n → ∃ gg, q = some ⟨gg, 0, none⟩ ∧ gg < w.heap.size ∧ ∀ j, j < n → ∃ v, w.cell? ⟨gg, j, none⟩ = some v ∧ Arg33 w v (L j)
def PtsR (P : Nat) [NeZero P] (w : World) (n : Nat) (L : Nat → Bs) (e : Value) (w' : World) : Prop :=
  (∃ k, w.heap.size ≤ k ∧ k < w'.heap.size ∧ e = .tuple #[.slice (some ⟨k, 0, none⟩) n n, .int .i64 0] ∧ ∀ j, j < n → ∃ p, rd P (L j) = some p ∧ w'.rangeAt k (8 * j) (ws p.1 ++ ws p.2)) ∨
  ((∃ j, j < n ∧ rd P (L j) = none) ∧ e = .tuple #[.slice none 0 0, .int .i64 4])
set_option maxHeartbeats 4000000 in
set_option maxRecDepth 100000 in
theorem Pts_c (F : Fld P) (n cap : Nat) (hn : n ≤ 512) (q : Option Addr) (L : Nat → Bs) (w : World) (hA : ArgsPts w q n L) : Calls Try.prog 18 #[.slice q n cap] w (Ret fun e w' => Below w.heap.size w w' ∧ PtsR P w n L e w') := by
  obtain ⟨C, hCl, hmk⟩ := mk112 n hn
  obtain ⟨i, -⟩ : ∃ i : Nat, i = 0 := ⟨_, rfl⟩
  obtain ⟨gg, -⟩ : ∃ i : Nat, i = 0 := ⟨_, rfl⟩
  obtain ⟨m, -⟩ : ∃ i : Nat, i = 0 := ⟨_, rfl⟩
  obtain ⟨v, -⟩ : ∃ v : Value, v = .bool true := ⟨_, rfl⟩
  obtain ⟨x, -⟩ : ∃ x : Fin P, x = 0 := ⟨_, rfl⟩
  obtain ⟨y, -⟩ : ∃ x : Fin P, x = 0 := ⟨_, rfl⟩
  obtain ⟨C2, -⟩ : ∃ c : List Value, c = C := ⟨_, rfl⟩
  go_enter Try.func18, Try.ntmps18
  refine RG.var1 (v0 := .slice q n cap) (n := 32) (by kernel_rfl) (by kernel_rfl) (by kernel_rfl) ?_
  intro a0 sl0 f0
  have hS0 := RG.St.begin w
  have M0 : RG.M w w.heap.size [] 32 [] [] [(0, (.v (.slice q n cap)))] a0 _ := ⟨hS0, sl0, ⟨f0, trivial⟩⟩
  repeat refine wp_seq ?_
  refine M0.tx0 (F72a_0 x) [(0, (.v (.slice q n cap))), (2, (.v (.slice none 0 0))), (3, (.v (.int .i64 0)))] (by kernel_rfl) ⟨RG.st fun _ _ => by kernel_rfl, RG.st fun _ _ => by kernel_rfl, trivial⟩ ?_
  intro a1 w1 M1
  repeat refine wp_seq ?_
  refine M1.tx (F72a_1 q n cap x) [(2, C)] [] [C] [(0, (.v (.slice q n cap))), (2, (.v (.slice none 0 0))), (3, (.v (.int .i64 0))), (4, (.s 0 n n))] (by kernel_rfl) (by kernel_rfl) ⟨RG.st fun _ _ => by kernel_rfl, RG.cert_one rfl 9 (.v (.slice q n cap)) (.int .i64 (n : Int)) rfl (RG.sx fun _ => by kernel_rfl) (fun a w => by kernel_rfl) (fun μ w => by kernel_rfl), RG.cert_makes 0 rfl _ rfl 44 40 10 10 n rfl rfl (RG.sx fun _ => by kernel_rfl) (RG.sx fun _ => by kernel_rfl) (hmk), RG.st fun _ _ => by kernel_rfl, trivial⟩ ?_
  intro j2 a2 w2 M2
  repeat refine wp_seq ?_
  refine M2.tx0 (F72a_2 q n cap x) [(2, (.v (.slice none 0 0))), (3, (.v (.int .i64 0))), (4, (.s 0 n n)), (12, (.v (.slice q n cap))), (13, (.v (.int .i64 (n : Int)))), (14, (.v (.int .i64 0)))] (by kernel_rfl) ⟨RG.st fun _ _ => by kernel_rfl, RG.cert_one rfl 12 (.v (.slice q n cap)) (.int .i64 (n : Int)) rfl (RG.sx fun _ => by kernel_rfl) (fun a w => by kernel_rfl) (fun μ w => by kernel_rfl), RG.st fun _ _ => by kernel_rfl, trivial⟩ ?_
  intro a3 w3 M3
  have hS3 : RG.St w w.heap.size [] [C] [j2] _ := M3.st
  have sl3 := M3.sl
  have f2_3 : a3.tmps[2]? = some (.slice none 0 0) := M3.at (s := (.v (.slice none 0 0))) (by kernel_rfl)
  have f3_3 : a3.tmps[3]? = some (.int .i64 0) := M3.at (s := (.v (.int .i64 0))) (by kernel_rfl)
  have f4_3 : a3.tmps[4]? = some (.slice (some ⟨j2, 0, none⟩) n n) := M3.at (s := (.s 0 n n)) (by kernel_rfl)
  have f12_3 : a3.tmps[12]? = some (.slice q n cap) := M3.at (s := (.v (.slice q n cap))) (by kernel_rfl)
  have f13_3 : a3.tmps[13]? = some (.int .i64 (n : Int)) := M3.at (s := (.v (.int .i64 (n : Int)))) (by kernel_rfl)
  have f14_3 : a3.tmps[14]? = some (.int .i64 0) := M3.at (s := (.v (.int .i64 0))) (by kernel_rfl)
  repeat refine wp_seq ?_
  refine wp_block ?_
  refine wp_loop_ghost (fun m a wr => ∃ (i : Nat) (C : List Value), i + m = n ∧ (∀ j, j < i → (rd P (L j)).isSome = true) ∧ Rows 8 n (fun j => match rd P (L j) with | some p => ws p.1 ++ ws p.2 | none => []) i C ∧ RG.Sl a 32 ∧ a.tmps[4]? = some (.slice (some ⟨j2, 0, none⟩) n n) ∧ a.tmps[12]? = some (.slice q n cap) ∧ a.tmps[13]? = some (.int .i64 (n : Int)) ∧ a.tmps[14]? = some (.int .i64 (i : Int)) ∧ RG.St w w.heap.size [] [C] [j2] wr) n ⟨0, C, by omega, fun j hj => by omega, ⟨hCl, fun j r hj => by omega⟩, sl3, f4_3, f12_3, f13_3, f14_3, hS3⟩ ?_
  intro m' a wr
  rintro ⟨i, C, him, hall, hR, sl, p4, p12, p13, p14, hSp⟩
  generalize j2 = kt at p4 hSp
  by_cases hi : i < n
  · obtain ⟨gg, hqe, hgg, hc⟩ := hA (by omega)
    rw [hqe] at p12
    obtain ⟨v, hv, harg⟩ := hc i hi
    have hcell : w.cell? ⟨gg, 0 + i, none⟩ = some v := by rw [Nat.zero_add]; exact hv
    cases hrdv : rd P (L i) with
    | some pp =>
      obtain ⟨x, y⟩ := pp
      have hrd : ∀ w', RG.BelX w.heap.size [] w w' → Calls Try.prog 17 #[v] w' (Ret fun e w'' => Below w'.heap.size w' w'' ∧ e = .tuple #[pv x y, .bool true]) := fun w' hb => by
        have := readPoint_c F v (L i) w' (harg.below hb.below)
        rw [hrdv] at this
        exact this
      have hlen := hR.len
      have hoff : 0 + 8 * i + (ws x ++ ws y).length ≤ C.length := by rw [hlen]; show 0 + 8 * i + 8 ≤ 8 * n; omega
      obtain ⟨C2, hC2e⟩ : ∃ c, RG.rep C (0 + 8 * i) (ws x ++ ws y) = c := ⟨_, rfl⟩
      have hC2 := hC2e ▸ RG.rep_at hoff
      have hcl : C2.length = C.length := hC2e ▸ RG.rep_length hoff
      have hR2 : Rows 8 n (fun j => match rd P (L j) with | some p => ws p.1 ++ ws p.2 | none => []) (i + 1) C2 := by
        have := hR.next hi (by show List.length (match rd P (L i) with | some p => _ | none => _) = _; rw [hrdv]; rfl)
        rw [← hC2e]
        have e : (fun j => match rd P (L j) with | some p => ws p.1 ++ ws p.2 | none => []) i = (ws x ++ ws y) := by show (match rd P (L i) with | some p => _ | none => _) = _; rw [hrdv]
        rw [← e]
        exact this
      have M10 : RG.M w w.heap.size [] 32 [C] [kt] [(4, (.s 0 n n)), (12, (.v (.slice (some ⟨gg, 0, none⟩) n cap))), (13, (.v (.int .i64 (n : Int)))), (14, (.v (.int .i64 (i : Int))))] a _ := ⟨hSp, sl, ⟨p4, p12, p13, p14, trivial⟩⟩
      repeat refine wp_seq ?_
      refine M10.tx0 (F72b_3 x) [(4, (.s 0 n n)), (12, (.v (.slice (some ⟨gg, 0, none⟩) n cap))), (13, (.v (.int .i64 (n : Int)))), (14, (.v (.int .i64 (i : Int)))), (15, (.v (.bool true)))] (by kernel_rfl) ⟨RG.cert_bin rfl .lss 3 3 14 13 (.int .i64 (i : Int)) (.int .i64 (n : Int)) (.bool true) rfl rfl (RG.sx fun _ => by kernel_rfl) (RG.sx fun _ => by kernel_rfl) (fun w => by kernel_rfl) (lssn_t hi), trivial⟩ ?_
      intro a11 w11 M11
      repeat refine wp_seq ?_
      refine wp_cond_true (M11.ev (by kernel_rfl)) ?_
      refine wp_skip ?_
      refine wp_seq ?_
      refine wp_block ?_
      repeat refine wp_seq ?_
      refine M11.tx0 (F72b_4 gg i v x) [(4, (.s 0 n n)), (5, (.v (.int .i64 (i : Int)))), (6, (.v v)), (12, (.v (.slice (some ⟨gg, 0, none⟩) n cap))), (13, (.v (.int .i64 (n : Int)))), (14, (.v (.int .i64 (i : Int))))] (by kernel_rfl) ⟨RG.st fun _ _ => by kernel_rfl, RG.cert_idx rfl 34 12 14 rfl (.v (.slice (some ⟨gg, 0, none⟩) n cap)) (.int .i64 (i : Int)) (RG.sx fun _ => by kernel_rfl) (RG.sx fun _ => by kernel_rfl) (fun μ w => at46 _ 0 _ _ i hi w), RG.cert_load1B rfl gg (0 + i) hgg List.not_mem_nil 22 17 rfl v rfl (RG.sx fun _ => by kernel_rfl) hcell u23, RG.st fun _ _ => by kernel_rfl, RG.st fun _ _ => by kernel_rfl, trivial⟩ ?_
      intro a12 w12 M12
      repeat refine wp_seq ?_
      refine M12.tx (F72b_5 m v x y) [(5, (RG.z 8))] [(1, 6, (ws x ++ (ws y)))] [C, (ws x ++ (ws y))] [(4, (.s 0 n n)), (5, (.v (.int .i64 (i : Int)))), (7, (.p 1 0)), (8, (.v (.bool true))), (12, (.v (.slice (some ⟨gg, 0, none⟩) n cap))), (13, (.v (.int .i64 (n : Int)))), (14, (.v (.int .i64 (i : Int))))] (by kernel_rfl) (by kernel_rfl) ⟨RG.st fun _ _ => by kernel_rfl, RG.cert_callB1 rfl 17 20 v (.tuple #[(pv x y), (.bool true)]) rfl (fun a w => by kernel_rfl) (RG.sx fun _ => by kernel_rfl) hrd, RG.st fun _ _ => by kernel_rfl, RG.st fun _ _ => by kernel_rfl, RG.st fun _ _ => by kernel_rfl, RG.mk 1 40 fun _ _ => by kernel_rfl, RG.pt i109 (by kernel_rfl), RG.st fun _ _ => by kernel_rfl, trivial⟩ ?_
      intro j13 a13 w13 M13
      repeat refine wp_seq ?_
      refine M13.tx0 (F72b_6 x) [(4, (.s 0 n n)), (5, (.v (.int .i64 (i : Int)))), (7, (.p 1 0)), (12, (.v (.slice (some ⟨gg, 0, none⟩) n cap))), (13, (.v (.int .i64 (n : Int)))), (14, (.v (.int .i64 (i : Int)))), (25, (.v (.bool false)))] (by kernel_rfl) ⟨RG.st fun _ _ => by kernel_rfl, RG.st fun _ _ => by kernel_rfl, trivial⟩ ?_
      intro a14 w14 M14
      repeat refine wp_seq ?_
      refine wp_cond_false (M14.ev (by kernel_rfl)) ?_
      refine wp_skip ?_
      repeat refine wp_seq ?_
      refine M14.tx (F72b_8 n i x y) [] [(0, 4, C2)] [C2, (ws x ++ (ws y))] [(4, (.s 0 n n)), (12, (.v (.slice (some ⟨gg, 0, none⟩) n cap))), (13, (.v (.int .i64 (n : Int)))), (14, (.v (.int .i64 (i : Int))))] (by kernel_rfl) (congrArg (fun n => [n]) hcl) ⟨RG.st fun _ _ => by kernel_rfl, RG.st fun _ _ => by kernel_rfl, RG.ld u109 i109 (by kernel_rfl), RG.cert_idx rfl 44 26 27 rfl (.s 0 n n) (.int .i64 (i : Int)) (RG.sx fun _ => by kernel_rfl) (RG.sx fun _ => by kernel_rfl) (fun μ w => at112 _ 0 _ _ i hi w), RG.cert_putAt 0 (0 + 8 * i) rfl _ rfl 40 (.tmp 29) (.tmp 28) (ws x ++ ws y) rfl rfl (RG.sx fun _ => by kernel_rfl) (RG.sx fun _ => by kernel_rfl) hoff hC2 i109 rfl, trivial⟩ ?_
      intro a15 w15 M15
      repeat refine wp_seq ?_
      refine M15.tx0 (F72b_9 i x) [(4, (.s 0 n n)), (12, (.v (.slice (some ⟨gg, 0, none⟩) n cap))), (13, (.v (.int .i64 (n : Int)))), (14, (.v (.int .i64 ((i + 1 : Nat) : Int))))] (by kernel_rfl) ⟨RG.cert_binc rfl .add 3 3 14 (.int .i64 (i : Int)) (.int .i64 1) (.int .i64 ((i + 1 : Nat) : Int)) rfl rfl (RG.sx fun _ => by kernel_rfl) (fun w => by kernel_rfl) (addn i 1 (by omega) (by omega)), RG.st fun _ _ => by kernel_rfl, trivial⟩ ?_
      intro a16 w16 M16
      have hS16 : RG.St w w.heap.size [] [C2, (ws x ++ (ws y))] [kt, j13] _ := M16.st
      have sl16 := M16.sl
      have f4_16 : a16.tmps[4]? = some (.slice (some ⟨kt, 0, none⟩) n n) := M16.at (s := (.s 0 n n)) (by kernel_rfl)
      have f12_16 : a16.tmps[12]? = some (.slice (some ⟨gg, 0, none⟩) n cap) := M16.at (s := (.v (.slice (some ⟨gg, 0, none⟩) n cap))) (by kernel_rfl)
      have f13_16 : a16.tmps[13]? = some (.int .i64 (n : Int)) := M16.at (s := (.v (.int .i64 (n : Int)))) (by kernel_rfl)
      have f14_16 : a16.tmps[14]? = some (.int .i64 ((i + 1 : Nat) : Int)) := M16.at (s := (.v (.int .i64 ((i + 1 : Nat) : Int)))) (by kernel_rfl)
      show ∃ n', _
      exact ⟨m' - 1, by omega, i + 1, C2, by omega, fun j hj => (by
        by_cases hji : j = i
        · rw [hji, hrdv]; rfl
        · exact hall j (by omega)), hR2, sl16, f4_16, (by rw [hqe]; exact f12_16), f13_16, f14_16, RG.St.init (cs := [C2]) (ks := [kt]) hS16⟩
    | none =>
      have hrd : ∀ w', RG.BelX w.heap.size [] w w' → Calls Try.prog 17 #[v] w' (Ret fun e w'' => Below w'.heap.size w' w'' ∧ e = .tuple #[pv (0 : Fin P) 0, .bool false]) := fun w' hb => by
        have := readPoint_c F v (L i) w' (harg.below hb.below)
        rw [hrdv] at this
        exact this
      have M20 : RG.M w w.heap.size [] 32 [C] [kt] [(4, (.s 0 n n)), (12, (.v (.slice (some ⟨gg, 0, none⟩) n cap))), (13, (.v (.int .i64 (n : Int)))), (14, (.v (.int .i64 (i : Int))))] a _ := ⟨hSp, sl, ⟨p4, p12, p13, p14, trivial⟩⟩
      repeat refine wp_seq ?_
      refine M20.tx0 (F72f_3 x) [(12, (.v (.slice (some ⟨gg, 0, none⟩) n cap))), (14, (.v (.int .i64 (i : Int)))), (15, (.v (.bool true)))] (by kernel_rfl) ⟨RG.cert_bin rfl .lss 3 3 14 13 (.int .i64 (i : Int)) (.int .i64 (n : Int)) (.bool true) rfl rfl (RG.sx fun _ => by kernel_rfl) (RG.sx fun _ => by kernel_rfl) (fun w => by kernel_rfl) (lssn_t hi), trivial⟩ ?_
      intro a21 w21 M21
      repeat refine wp_seq ?_
      refine wp_cond_true (M21.ev (by kernel_rfl)) ?_
      refine wp_skip ?_
      refine wp_seq ?_
      refine wp_block ?_
      repeat refine wp_seq ?_
      refine M21.tx0 (F72f_4 gg i v x) [(6, (.v v))] (by kernel_rfl) ⟨RG.st fun _ _ => by kernel_rfl, RG.cert_idx rfl 34 12 14 rfl (.v (.slice (some ⟨gg, 0, none⟩) n cap)) (.int .i64 (i : Int)) (RG.sx fun _ => by kernel_rfl) (RG.sx fun _ => by kernel_rfl) (fun μ w => at46 _ 0 _ _ i hi w), RG.cert_load1B rfl gg (0 + i) hgg List.not_mem_nil 22 17 rfl v rfl (RG.sx fun _ => by kernel_rfl) hcell u23, RG.st fun _ _ => by kernel_rfl, RG.st fun _ _ => by kernel_rfl, trivial⟩ ?_
      intro a22 w22 M22
      repeat refine wp_seq ?_
      refine M22.tx (F72f_5 m v x) [(5, (RG.z 8))] [(1, 6, (ws (0 : Fin P) ++ (ws (0 : Fin P))))] [C, (ws (0 : Fin P) ++ (ws (0 : Fin P)))] [(8, (.v (.bool false)))] (by kernel_rfl) (by kernel_rfl) ⟨RG.st fun _ _ => by kernel_rfl, RG.cert_callB1 rfl 17 20 v (.tuple #[(pv (0 : Fin P) (0 : Fin P)), (.bool false)]) rfl (fun a w => by kernel_rfl) (RG.sx fun _ => by kernel_rfl) hrd, RG.st fun _ _ => by kernel_rfl, RG.st fun _ _ => by kernel_rfl, RG.st fun _ _ => by kernel_rfl, RG.mk 1 40 fun _ _ => by kernel_rfl, RG.pt i109 (by kernel_rfl), RG.st fun _ _ => by kernel_rfl, trivial⟩ ?_
      intro j23 a23 w23 M23
      repeat refine wp_seq ?_
      refine M23.tx0 (F72f_6 x) [(25, (.v (.bool true)))] (by kernel_rfl) ⟨RG.st fun _ _ => by kernel_rfl, RG.st fun _ _ => by kernel_rfl, trivial⟩ ?_
      intro a24 w24 M24
      repeat refine wp_seq ?_
      refine wp_cond_true (M24.ev (by kernel_rfl)) ?_
      repeat refine wp_seq ?_
      refine M24.tx0 (F72f_7 x) [(2, (.v (.slice none 0 0))), (3, (.v (.int .i64 4)))] (by kernel_rfl) ⟨RG.st fun _ _ => by kernel_rfl, RG.st fun _ _ => by kernel_rfl, trivial⟩ ?_
      intro a25 w25 M25
      have hS25 : RG.St w w.heap.size [] [C, (ws (0 : Fin P) ++ (ws (0 : Fin P)))] [kt, j23] _ := M25.st
      have sl25 := M25.sl
      have f2_25 : a25.tmps[2]? = some (.slice none 0 0) := M25.at (s := (.v (.slice none 0 0))) (by kernel_rfl)
      have f3_25 : a25.tmps[3]? = some (.int .i64 4) := M25.at (s := (.v (.int .i64 4))) (by kernel_rfl)
      refine wp_ret ?_
      refine bodyPost_ret (v := .tuple #[.slice none 0 0, .int .i64 4]) (RG.results_tt 2 3 rfl _ _ f2_25 f3_25) sl25.defers ?_
      exact ⟨_, rfl, hS25.bel.below, Or.inr ⟨⟨i, hi, hrdv⟩, rfl⟩⟩
  · have hiN : i = n := by omega
    have M30 : RG.M w w.heap.size [] 32 [C] [kt] [(4, (.s 0 n n)), (12, (.v (.slice q n cap))), (13, (.v (.int .i64 (n : Int)))), (14, (.v (.int .i64 (i : Int))))] a _ := ⟨hSp, sl, ⟨p4, p12, p13, p14, trivial⟩⟩
    repeat refine wp_seq ?_
    refine M30.tx0 (F72e_3 x) [(4, (.s 0 n n)), (15, (.v (.bool false)))] (by kernel_rfl) ⟨RG.cert_bin rfl .lss 3 3 14 13 (.int .i64 (i : Int)) (.int .i64 (n : Int)) (.bool false) rfl rfl (RG.sx fun _ => by kernel_rfl) (RG.sx fun _ => by kernel_rfl) (fun w => by kernel_rfl) (lssn_f hi), trivial⟩ ?_
    intro a31 w31 M31
    repeat refine wp_seq ?_
    refine wp_cond_false (M31.ev (by kernel_rfl)) ?_
    refine wp_exit ?_
    dsimp only [Exit.then, Exit.inBlock]
    rw [if_pos rfl]
    repeat refine wp_seq ?_
    refine M31.tx0 (F72e_10 n x) [(2, (.s 0 n n)), (3, (.v (.int .i64 0)))] (by kernel_rfl) ⟨RG.st fun _ _ => by kernel_rfl, RG.st fun _ _ => by kernel_rfl, RG.st fun _ _ => by kernel_rfl, trivial⟩ ?_
    intro a32 w32 M32
    have hS32 : RG.St w w.heap.size [] [C] [kt] _ := M32.st
    have sl32 := M32.sl
    have f2_32 : a32.tmps[2]? = some (.slice (some ⟨kt, 0, none⟩) n n) := M32.at (s := (.s 0 n n)) (by kernel_rfl)
    have f3_32 : a32.tmps[3]? = some (.int .i64 0) := M32.at (s := (.v (.int .i64 0))) (by kernel_rfl)
    refine wp_ret ?_
    refine bodyPost_ret (v := .tuple #[.slice (some ⟨kt, 0, none⟩) n n, .int .i64 0]) (RG.results_tt 2 3 rfl _ _ f2_32 f3_32) sl32.defers ?_
    refine ⟨_, rfl, hS32.bel.below, Or.inl ⟨kt, ?_, ?_, rfl, fun j hj => ?_⟩⟩
    · exact (hS32.has 0 C rfl).2.2.2.elim id (fun h => absurd h List.not_mem_nil)
    · exact (hS32.has 0 C rfl).2.2.1
    · obtain ⟨pp, hpp⟩ := Option.isSome_iff_exists.1 (hall j (by omega))
      refine ⟨pp, hpp, RG.range_sub (hS32.has 0 C rfl).1 (fun r hr => ?_)⟩
      have h5 := hR.row j r (by omega) hr
      rw [h5]
      show (match rd P (L j) with | some p => _ | none => _)[r]? = _
      rw [hpp]
def F81a_0 : List RG.It := [.x 2 [] (.slice none 0 0), .x 3 [] (.int .i64 0)]
def F81a_1 (q : Option Addr) (n cap : Nat) : List RG.It := [.x 9 [] (.slice q n cap), .x 10 [(9, 0)] (.int .i64 (n : Int)), ⟨some 11, [(10, 1)], (.s 0 n n), .make 0⟩, .s 4 [(11, 2)] (.s 0 n n)]
def F81a_2 (q : Option Addr) (n cap : Nat) : List RG.It := [.x 12 [] (.slice q n cap), .x 13 [(12, 0)] (.int .i64 (n : Int)), .x 14 [] (.int .i64 0)]
def F81b_3 : List RG.It := [.x 15 [] (.bool true)]
def F81b_4 (gg i : Nat) (v : Value) : List RG.It := [.x 16 [] (.int .i64 (i : Int)), .x 17 [] (.pointer (some ⟨gg, (0 + i), none⟩)), .x 18 [(17, 1)] v, .x 5 [(16, 0)] (.int .i64 (i : Int)), .x 6 [(18, 2)] v]
def F81b_5 (m : Nat) (v : Value) : List RG.It := [.c 20 [] gv1, .x 21 [] v, .c 22 [(20, 0), (21, 1)] (.tuple #[(nv m), (.bool true)]), .x 19 [(22, 2)] (.tuple #[(nv m), (.bool true)]), .x 23 [(19, 3)] (nv m), .x 24 [(19, 3)] (.bool true), .m 7 [] 1, .u [(7, 6), (23, 4)] 1, .x 8 [(24, 5)] (.bool true)]
def F81b_6 : List RG.It := [.x 25 [] (.bool true), .x 26 [(25, 0)] (.bool false)]
def F81b_8 (n i m : Nat) : List RG.It := [.s 27 [] (.s 0 n n), .x 28 [] (.int .i64 (i : Int)), .x 29 [] (nv m), .s 30 [(27, 0), (28, 1)] (.p 0 (0 + 4 * i)), .u [(30, 3), (29, 2)] 0]
def F81b_9 (i : Nat) : List RG.It := [.x 31 [] (.int .i64 ((i + 1 : Nat) : Int)), .x 14 [(31, 0)] (.int .i64 ((i + 1 : Nat) : Int))]
def F81f_3 : List RG.It := [.x 15 [] (.bool true)]
def F81f_4 (gg i : Nat) (v : Value) : List RG.It := [.x 16 [] (.int .i64 (i : Int)), .x 17 [] (.pointer (some ⟨gg, (0 + i), none⟩)), .x 18 [(17, 1)] v, .x 5 [(16, 0)] (.int .i64 (i : Int)), .x 6 [(18, 2)] v]
def F81f_5 (m : Nat) (v : Value) : List RG.It := [.c 20 [] gv1, .x 21 [] v, .c 22 [(20, 0), (21, 1)] (.tuple #[(nv 0), (.bool false)]), .x 19 [(22, 2)] (.tuple #[(nv 0), (.bool false)]), .x 23 [(19, 3)] (nv 0), .x 24 [(19, 3)] (.bool false), .m 7 [] 1, .u [(7, 6), (23, 4)] 1, .x 8 [(24, 5)] (.bool false)]
def F81f_6 : List RG.It := [.x 25 [] (.bool false), .x 26 [(25, 0)] (.bool true)]
def F81f_7 : List RG.It := [.x 2 [] (.slice none 0 0), .x 3 [] (.int .i64 3)]
def F81e_3 : List RG.It := [.x 15 [] (.bool false)]
def F81e_10 (n : Nat) : List RG.It := [.s 32 [] (.s 0 n n), .s 2 [(32, 0)] (.s 0 n n), .x 3 [] (.int .i64 0)]
/-- A list of arguments in a block. -/
def ArgsScs (w : World) (q : Option Addr) (n : Nat) (L : Nat → Bs) : Prop := 0 < n → ∃ gg, q = some ⟨gg, 0, none⟩ ∧ gg < w.heap.size ∧ ∀ j, j < n → ∃ v, w.cell? ⟨gg, j, none⟩ = some v ∧ Arg w v (L j)
def ScsR (N : Nat) (w : World) (n : Nat) (L : Nat → Bs) (e : Value) (w' : World) : Prop :=
  (∃ k, w.heap.size ≤ k ∧ k < w'.heap.size ∧ e = .tuple #[.slice (some ⟨k, 0, none⟩) n n, .int .i64 0] ∧ ∀ j, j < n → ∃ p, rq N (L j) = some p ∧ w'.rangeAt k (4 * j) (wn p)) ∨
  ((∃ j, j < n ∧ rq N (L j) = none) ∧ e = .tuple #[.slice none 0 0, .int .i64 3])
set_option maxHeartbeats 4000000 in
set_option maxRecDepth 100000 in
theorem Scs_c {N : Nat} (hG : Gap 4624529908474429119 4994812053365940164 1 N) (n cap : Nat) (hn : n ≤ 512) (q : Option Addr) (L : Nat → Bs) (w : World) (hA : ArgsScs w q n L) : Calls Try.prog 23 #[.slice q n cap] w (Ret fun e w' => Below w.heap.size w w' ∧ ScsR N w n L e w') := by
  obtain ⟨C, hCl, hmk⟩ := mk82 n hn
  obtain ⟨i, -⟩ : ∃ i : Nat, i = 0 := ⟨_, rfl⟩
  obtain ⟨gg, -⟩ : ∃ i : Nat, i = 0 := ⟨_, rfl⟩
  obtain ⟨m, -⟩ : ∃ i : Nat, i = 0 := ⟨_, rfl⟩
  obtain ⟨v, -⟩ : ∃ v : Value, v = .bool true := ⟨_, rfl⟩
  obtain ⟨C2, -⟩ : ∃ c : List Value, c = C := ⟨_, rfl⟩
  go_enter Try.func23, Try.ntmps23
  refine RG.var1 (v0 := .slice q n cap) (n := 33) (by kernel_rfl) (by kernel_rfl) (by kernel_rfl) ?_
  intro a0 sl0 f0
  have hS0 := RG.St.begin w
  have M0 : RG.M w w.heap.size [] 33 [] [] [(0, (.v (.slice q n cap)))] a0 _ := ⟨hS0, sl0, ⟨f0, trivial⟩⟩
  repeat refine wp_seq ?_
  refine M0.tx0 F81a_0 [(0, (.v (.slice q n cap))), (2, (.v (.slice none 0 0))), (3, (.v (.int .i64 0)))] (by kernel_rfl) ⟨RG.st fun _ _ => by kernel_rfl, RG.st fun _ _ => by kernel_rfl, trivial⟩ ?_
  intro a1 w1 M1
  repeat refine wp_seq ?_
  refine M1.tx (F81a_1 q n cap) [(2, C)] [] [C] [(0, (.v (.slice q n cap))), (2, (.v (.slice none 0 0))), (3, (.v (.int .i64 0))), (4, (.s 0 n n))] (by kernel_rfl) (by kernel_rfl) ⟨RG.st fun _ _ => by kernel_rfl, RG.cert_one rfl 9 (.v (.slice q n cap)) (.int .i64 (n : Int)) rfl (RG.sx fun _ => by kernel_rfl) (fun a w => by kernel_rfl) (fun μ w => by kernel_rfl), RG.cert_makes 0 rfl _ rfl 53 38 10 10 n rfl rfl (RG.sx fun _ => by kernel_rfl) (RG.sx fun _ => by kernel_rfl) (hmk), RG.st fun _ _ => by kernel_rfl, trivial⟩ ?_
  intro j2 a2 w2 M2
  repeat refine wp_seq ?_
  refine M2.tx0 (F81a_2 q n cap) [(2, (.v (.slice none 0 0))), (3, (.v (.int .i64 0))), (4, (.s 0 n n)), (12, (.v (.slice q n cap))), (13, (.v (.int .i64 (n : Int)))), (14, (.v (.int .i64 0)))] (by kernel_rfl) ⟨RG.st fun _ _ => by kernel_rfl, RG.cert_one rfl 12 (.v (.slice q n cap)) (.int .i64 (n : Int)) rfl (RG.sx fun _ => by kernel_rfl) (fun a w => by kernel_rfl) (fun μ w => by kernel_rfl), RG.st fun _ _ => by kernel_rfl, trivial⟩ ?_
  intro a3 w3 M3
  have hS3 : RG.St w w.heap.size [] [C] [j2] _ := M3.st
  have sl3 := M3.sl
  have f2_3 : a3.tmps[2]? = some (.slice none 0 0) := M3.at (s := (.v (.slice none 0 0))) (by kernel_rfl)
  have f3_3 : a3.tmps[3]? = some (.int .i64 0) := M3.at (s := (.v (.int .i64 0))) (by kernel_rfl)
  have f4_3 : a3.tmps[4]? = some (.slice (some ⟨j2, 0, none⟩) n n) := M3.at (s := (.s 0 n n)) (by kernel_rfl)
  have f12_3 : a3.tmps[12]? = some (.slice q n cap) := M3.at (s := (.v (.slice q n cap))) (by kernel_rfl)
  have f13_3 : a3.tmps[13]? = some (.int .i64 (n : Int)) := M3.at (s := (.v (.int .i64 (n : Int)))) (by kernel_rfl)
  have f14_3 : a3.tmps[14]? = some (.int .i64 0) := M3.at (s := (.v (.int .i64 0))) (by kernel_rfl)
  repeat refine wp_seq ?_
  refine wp_block ?_
  refine wp_loop_ghost (fun m a wr => ∃ (i : Nat) (C : List Value), i + m = n ∧ (∀ j, j < i → (rq N (L j)).isSome = true) ∧ Rows 4 n (fun j => match rq N (L j) with | some k => wn k | none => []) i C ∧ RG.Sl a 33 ∧ a.tmps[4]? = some (.slice (some ⟨j2, 0, none⟩) n n) ∧ a.tmps[12]? = some (.slice q n cap) ∧ a.tmps[13]? = some (.int .i64 (n : Int)) ∧ a.tmps[14]? = some (.int .i64 (i : Int)) ∧ RG.St w w.heap.size [] [C] [j2] wr) n ⟨0, C, by omega, fun j hj => by omega, ⟨hCl, fun j r hj => by omega⟩, sl3, f4_3, f12_3, f13_3, f14_3, hS3⟩ ?_
  intro m' a wr
  rintro ⟨i, C, him, hall, hR, sl, p4, p12, p13, p14, hSp⟩
  generalize j2 = kt at p4 hSp
  by_cases hi : i < n
  · obtain ⟨gg, hqe, hgg, hc⟩ := hA (by omega)
    rw [hqe] at p12
    obtain ⟨v, hv, harg⟩ := hc i hi
    have hcell : w.cell? ⟨gg, 0 + i, none⟩ = some v := by rw [Nat.zero_add]; exact hv
    cases hrdv : rq N (L i) with
    | some pp =>
      obtain ⟨m, rfl⟩ : ∃ m, m = pp := ⟨_, rfl⟩
      have hrd : ∀ w', RG.BelX w.heap.size [] w w' → Calls Try.prog 30 #[gv1, v] w' (Ret fun e w'' => Below w'.heap.size w' w'' ∧ e = .tuple #[nv m, .bool true]) := fun w' hb => by
        have := readQ_c hG v (L i) w' (harg.below hb.below)
        rw [hrdv] at this
        exact this
      have hlen := hR.len
      have hoff : 0 + 4 * i + (wn m).length ≤ C.length := by rw [hlen]; show 0 + 4 * i + 4 ≤ 4 * n; omega
      obtain ⟨C2, hC2e⟩ : ∃ c, RG.rep C (0 + 4 * i) (wn m) = c := ⟨_, rfl⟩
      have hC2 := hC2e ▸ RG.rep_at hoff
      have hcl : C2.length = C.length := hC2e ▸ RG.rep_length hoff
      have hR2 : Rows 4 n (fun j => match rq N (L j) with | some k => wn k | none => []) (i + 1) C2 := by
        have := hR.next hi (by show List.length (match rq N (L i) with | some p => _ | none => _) = _; rw [hrdv]; rfl)
        rw [← hC2e]
        have e : (fun j => match rq N (L j) with | some k => wn k | none => []) i = (wn m) := by show (match rq N (L i) with | some p => _ | none => _) = _; rw [hrdv]
        rw [← e]
        exact this
      have M10 : RG.M w w.heap.size [] 33 [C] [kt] [(4, (.s 0 n n)), (12, (.v (.slice (some ⟨gg, 0, none⟩) n cap))), (13, (.v (.int .i64 (n : Int)))), (14, (.v (.int .i64 (i : Int))))] a _ := ⟨hSp, sl, ⟨p4, p12, p13, p14, trivial⟩⟩
      repeat refine wp_seq ?_
      refine M10.tx0 F81b_3 [(4, (.s 0 n n)), (12, (.v (.slice (some ⟨gg, 0, none⟩) n cap))), (13, (.v (.int .i64 (n : Int)))), (14, (.v (.int .i64 (i : Int)))), (15, (.v (.bool true)))] (by kernel_rfl) ⟨RG.cert_bin rfl .lss 3 3 14 13 (.int .i64 (i : Int)) (.int .i64 (n : Int)) (.bool true) rfl rfl (RG.sx fun _ => by kernel_rfl) (RG.sx fun _ => by kernel_rfl) (fun w => by kernel_rfl) (lssn_t hi), trivial⟩ ?_
      intro a11 w11 M11
      repeat refine wp_seq ?_
      refine wp_cond_true (M11.ev (by kernel_rfl)) ?_
      refine wp_skip ?_
      refine wp_seq ?_
      refine wp_block ?_
      repeat refine wp_seq ?_
      refine M11.tx0 (F81b_4 gg i v) [(4, (.s 0 n n)), (5, (.v (.int .i64 (i : Int)))), (6, (.v v)), (12, (.v (.slice (some ⟨gg, 0, none⟩) n cap))), (13, (.v (.int .i64 (n : Int)))), (14, (.v (.int .i64 (i : Int))))] (by kernel_rfl) ⟨RG.st fun _ _ => by kernel_rfl, RG.cert_idx rfl 34 12 14 rfl (.v (.slice (some ⟨gg, 0, none⟩) n cap)) (.int .i64 (i : Int)) (RG.sx fun _ => by kernel_rfl) (RG.sx fun _ => by kernel_rfl) (fun μ w => at46 _ 0 _ _ i hi w), RG.cert_load1B rfl gg (0 + i) hgg List.not_mem_nil 22 17 rfl v rfl (RG.sx fun _ => by kernel_rfl) hcell u23, RG.st fun _ _ => by kernel_rfl, RG.st fun _ _ => by kernel_rfl, trivial⟩ ?_
      intro a12 w12 M12
      repeat refine wp_seq ?_
      refine M12.tx (F81b_5 m v) [(6, (RG.z 4))] [(1, 7, (wn m))] [C, (wn m)] [(4, (.s 0 n n)), (5, (.v (.int .i64 (i : Int)))), (7, (.p 1 0)), (8, (.v (.bool true))), (12, (.v (.slice (some ⟨gg, 0, none⟩) n cap))), (13, (.v (.int .i64 (n : Int)))), (14, (.v (.int .i64 (i : Int))))] (by kernel_rfl) (by kernel_rfl) ⟨RG.cl (Scalars_c) fun _ _ => by kernel_rfl, RG.st fun _ _ => by kernel_rfl, RG.cert_callB2 rfl 30 20 21 gv1 v (.tuple #[(nv m), (.bool true)]) rfl (fun a w => by kernel_rfl) (RG.sx fun _ => by kernel_rfl) (RG.sx fun _ => by kernel_rfl) hrd, RG.st fun _ _ => by kernel_rfl, RG.st fun _ _ => by kernel_rfl, RG.st fun _ _ => by kernel_rfl, RG.mk 1 38 fun _ _ => by kernel_rfl, RG.pt i85 (by kernel_rfl), RG.st fun _ _ => by kernel_rfl, trivial⟩ ?_
      intro j13 a13 w13 M13
      repeat refine wp_seq ?_
      refine M13.tx0 F81b_6 [(4, (.s 0 n n)), (5, (.v (.int .i64 (i : Int)))), (7, (.p 1 0)), (12, (.v (.slice (some ⟨gg, 0, none⟩) n cap))), (13, (.v (.int .i64 (n : Int)))), (14, (.v (.int .i64 (i : Int)))), (26, (.v (.bool false)))] (by kernel_rfl) ⟨RG.st fun _ _ => by kernel_rfl, RG.st fun _ _ => by kernel_rfl, trivial⟩ ?_
      intro a14 w14 M14
      repeat refine wp_seq ?_
      refine wp_cond_false (M14.ev (by kernel_rfl)) ?_
      refine wp_skip ?_
      repeat refine wp_seq ?_
      refine M14.tx (F81b_8 n i m) [] [(0, 4, C2)] [C2, (wn m)] [(4, (.s 0 n n)), (12, (.v (.slice (some ⟨gg, 0, none⟩) n cap))), (13, (.v (.int .i64 (n : Int)))), (14, (.v (.int .i64 (i : Int))))] (by kernel_rfl) (congrArg (fun n => [n]) hcl) ⟨RG.st fun _ _ => by kernel_rfl, RG.st fun _ _ => by kernel_rfl, RG.ld u85 i85 (by kernel_rfl), RG.cert_idx rfl 53 27 28 rfl (.s 0 n n) (.int .i64 (i : Int)) (RG.sx fun _ => by kernel_rfl) (RG.sx fun _ => by kernel_rfl) (fun μ w => at82 _ 0 _ _ i hi w), RG.cert_putAt 0 (0 + 4 * i) rfl _ rfl 38 (.tmp 30) (.tmp 29) (wn m) rfl rfl (RG.sx fun _ => by kernel_rfl) (RG.sx fun _ => by kernel_rfl) hoff hC2 i85 rfl, trivial⟩ ?_
      intro a15 w15 M15
      repeat refine wp_seq ?_
      refine M15.tx0 (F81b_9 i) [(4, (.s 0 n n)), (12, (.v (.slice (some ⟨gg, 0, none⟩) n cap))), (13, (.v (.int .i64 (n : Int)))), (14, (.v (.int .i64 ((i + 1 : Nat) : Int))))] (by kernel_rfl) ⟨RG.cert_binc rfl .add 3 3 14 (.int .i64 (i : Int)) (.int .i64 1) (.int .i64 ((i + 1 : Nat) : Int)) rfl rfl (RG.sx fun _ => by kernel_rfl) (fun w => by kernel_rfl) (addn i 1 (by omega) (by omega)), RG.st fun _ _ => by kernel_rfl, trivial⟩ ?_
      intro a16 w16 M16
      have hS16 : RG.St w w.heap.size [] [C2, (wn m)] [kt, j13] _ := M16.st
      have sl16 := M16.sl
      have f4_16 : a16.tmps[4]? = some (.slice (some ⟨kt, 0, none⟩) n n) := M16.at (s := (.s 0 n n)) (by kernel_rfl)
      have f12_16 : a16.tmps[12]? = some (.slice (some ⟨gg, 0, none⟩) n cap) := M16.at (s := (.v (.slice (some ⟨gg, 0, none⟩) n cap))) (by kernel_rfl)
      have f13_16 : a16.tmps[13]? = some (.int .i64 (n : Int)) := M16.at (s := (.v (.int .i64 (n : Int)))) (by kernel_rfl)
      have f14_16 : a16.tmps[14]? = some (.int .i64 ((i + 1 : Nat) : Int)) := M16.at (s := (.v (.int .i64 ((i + 1 : Nat) : Int)))) (by kernel_rfl)
      show ∃ n', _
      exact ⟨m' - 1, by omega, i + 1, C2, by omega, fun j hj => (by
        by_cases hji : j = i
        · rw [hji, hrdv]; rfl
        · exact hall j (by omega)), hR2, sl16, f4_16, (by rw [hqe]; exact f12_16), f13_16, f14_16, RG.St.init (cs := [C2]) (ks := [kt]) hS16⟩
    | none =>
      have hrd : ∀ w', RG.BelX w.heap.size [] w w' → Calls Try.prog 30 #[gv1, v] w' (Ret fun e w'' => Below w'.heap.size w' w'' ∧ e = .tuple #[nv 0, .bool false]) := fun w' hb => by
        have := readQ_c hG v (L i) w' (harg.below hb.below)
        rw [hrdv] at this
        exact this
      have M20 : RG.M w w.heap.size [] 33 [C] [kt] [(4, (.s 0 n n)), (12, (.v (.slice (some ⟨gg, 0, none⟩) n cap))), (13, (.v (.int .i64 (n : Int)))), (14, (.v (.int .i64 (i : Int))))] a _ := ⟨hSp, sl, ⟨p4, p12, p13, p14, trivial⟩⟩
      repeat refine wp_seq ?_
      refine M20.tx0 F81f_3 [(12, (.v (.slice (some ⟨gg, 0, none⟩) n cap))), (14, (.v (.int .i64 (i : Int)))), (15, (.v (.bool true)))] (by kernel_rfl) ⟨RG.cert_bin rfl .lss 3 3 14 13 (.int .i64 (i : Int)) (.int .i64 (n : Int)) (.bool true) rfl rfl (RG.sx fun _ => by kernel_rfl) (RG.sx fun _ => by kernel_rfl) (fun w => by kernel_rfl) (lssn_t hi), trivial⟩ ?_
      intro a21 w21 M21
      repeat refine wp_seq ?_
      refine wp_cond_true (M21.ev (by kernel_rfl)) ?_
      refine wp_skip ?_
      refine wp_seq ?_
      refine wp_block ?_
      repeat refine wp_seq ?_
      refine M21.tx0 (F81f_4 gg i v) [(6, (.v v))] (by kernel_rfl) ⟨RG.st fun _ _ => by kernel_rfl, RG.cert_idx rfl 34 12 14 rfl (.v (.slice (some ⟨gg, 0, none⟩) n cap)) (.int .i64 (i : Int)) (RG.sx fun _ => by kernel_rfl) (RG.sx fun _ => by kernel_rfl) (fun μ w => at46 _ 0 _ _ i hi w), RG.cert_load1B rfl gg (0 + i) hgg List.not_mem_nil 22 17 rfl v rfl (RG.sx fun _ => by kernel_rfl) hcell u23, RG.st fun _ _ => by kernel_rfl, RG.st fun _ _ => by kernel_rfl, trivial⟩ ?_
      intro a22 w22 M22
      repeat refine wp_seq ?_
      refine M22.tx (F81f_5 m v) [(6, (RG.z 4))] [(1, 7, (wn 0))] [C, (wn 0)] [(8, (.v (.bool false)))] (by kernel_rfl) (by kernel_rfl) ⟨RG.cl (Scalars_c) fun _ _ => by kernel_rfl, RG.st fun _ _ => by kernel_rfl, RG.cert_callB2 rfl 30 20 21 gv1 v (.tuple #[(nv 0), (.bool false)]) rfl (fun a w => by kernel_rfl) (RG.sx fun _ => by kernel_rfl) (RG.sx fun _ => by kernel_rfl) hrd, RG.st fun _ _ => by kernel_rfl, RG.st fun _ _ => by kernel_rfl, RG.st fun _ _ => by kernel_rfl, RG.mk 1 38 fun _ _ => by kernel_rfl, RG.pt i85 (by kernel_rfl), RG.st fun _ _ => by kernel_rfl, trivial⟩ ?_
      intro j23 a23 w23 M23
      repeat refine wp_seq ?_
      refine M23.tx0 F81f_6 [(26, (.v (.bool true)))] (by kernel_rfl) ⟨RG.st fun _ _ => by kernel_rfl, RG.st fun _ _ => by kernel_rfl, trivial⟩ ?_
      intro a24 w24 M24
      repeat refine wp_seq ?_
      refine wp_cond_true (M24.ev (by kernel_rfl)) ?_
      repeat refine wp_seq ?_
      refine M24.tx0 F81f_7 [(2, (.v (.slice none 0 0))), (3, (.v (.int .i64 3)))] (by kernel_rfl) ⟨RG.st fun _ _ => by kernel_rfl, RG.st fun _ _ => by kernel_rfl, trivial⟩ ?_
      intro a25 w25 M25
      have hS25 : RG.St w w.heap.size [] [C, (wn 0)] [kt, j23] _ := M25.st
      have sl25 := M25.sl
      have f2_25 : a25.tmps[2]? = some (.slice none 0 0) := M25.at (s := (.v (.slice none 0 0))) (by kernel_rfl)
      have f3_25 : a25.tmps[3]? = some (.int .i64 3) := M25.at (s := (.v (.int .i64 3))) (by kernel_rfl)
      refine wp_ret ?_
      refine bodyPost_ret (v := .tuple #[.slice none 0 0, .int .i64 3]) (RG.results_tt 2 3 rfl _ _ f2_25 f3_25) sl25.defers ?_
      exact ⟨_, rfl, hS25.bel.below, Or.inr ⟨⟨i, hi, hrdv⟩, rfl⟩⟩
  · have hiN : i = n := by omega
    have M30 : RG.M w w.heap.size [] 33 [C] [kt] [(4, (.s 0 n n)), (12, (.v (.slice q n cap))), (13, (.v (.int .i64 (n : Int)))), (14, (.v (.int .i64 (i : Int))))] a _ := ⟨hSp, sl, ⟨p4, p12, p13, p14, trivial⟩⟩
    repeat refine wp_seq ?_
    refine M30.tx0 F81e_3 [(4, (.s 0 n n)), (15, (.v (.bool false)))] (by kernel_rfl) ⟨RG.cert_bin rfl .lss 3 3 14 13 (.int .i64 (i : Int)) (.int .i64 (n : Int)) (.bool false) rfl rfl (RG.sx fun _ => by kernel_rfl) (RG.sx fun _ => by kernel_rfl) (fun w => by kernel_rfl) (lssn_f hi), trivial⟩ ?_
    intro a31 w31 M31
    repeat refine wp_seq ?_
    refine wp_cond_false (M31.ev (by kernel_rfl)) ?_
    refine wp_exit ?_
    dsimp only [Exit.then, Exit.inBlock]
    rw [if_pos rfl]
    repeat refine wp_seq ?_
    refine M31.tx0 (F81e_10 n) [(2, (.s 0 n n)), (3, (.v (.int .i64 0)))] (by kernel_rfl) ⟨RG.st fun _ _ => by kernel_rfl, RG.st fun _ _ => by kernel_rfl, RG.st fun _ _ => by kernel_rfl, trivial⟩ ?_
    intro a32 w32 M32
    have hS32 : RG.St w w.heap.size [] [C] [kt] _ := M32.st
    have sl32 := M32.sl
    have f2_32 : a32.tmps[2]? = some (.slice (some ⟨kt, 0, none⟩) n n) := M32.at (s := (.s 0 n n)) (by kernel_rfl)
    have f3_32 : a32.tmps[3]? = some (.int .i64 0) := M32.at (s := (.v (.int .i64 0))) (by kernel_rfl)
    refine wp_ret ?_
    refine bodyPost_ret (v := .tuple #[.slice (some ⟨kt, 0, none⟩) n n, .int .i64 0]) (RG.results_tt 2 3 rfl _ _ f2_32 f3_32) sl32.defers ?_
    refine ⟨_, rfl, hS32.bel.below, Or.inl ⟨kt, ?_, ?_, rfl, fun j hj => ?_⟩⟩
    · exact (hS32.has 0 C rfl).2.2.2.elim id (fun h => absurd h List.not_mem_nil)
    · exact (hS32.has 0 C rfl).2.2.1
    · obtain ⟨pp, hpp⟩ := Option.isSome_iff_exists.1 (hall j (by omega))
      refine ⟨pp, hpp, RG.range_sub (hS32.has 0 C rfl).1 (fun r hr => ?_)⟩
      have h5 := hR.row j r (by omega) hr
      rw [h5]
      show (match rq N (L j) with | some p => _ | none => _)[r]? = _
      rw [hpp]
end Go.Proofs.Ytbimbalfdmffaac
set_option linter.unusedVariables false
set_option linter.unusedSimpArgs false
namespace Go.Proofs.Ytbimbalfdmffaac
open Go.RowKit Go.Sort Go.Deep
variable {P : Nat} [NeZero P]
omit [NeZero P] in
theorem words2 (x y : Fin P) : ∃ a b c d p q r s : Nat, pv x y = .agg #[.int .u64 (a : Int), .int .u64 (b : Int), .int .u64 (c : Int), .int .u64 (d : Int), .int .u64 (p : Int), .int .u64 (q : Int), .int .u64 (r : Int), .int .u64 (s : Int)] ∧ ws x ++ ws y = [.int .u64 (a : Int), .int .u64 (b : Int), .int .u64 (c : Int), .int .u64 (d : Int), .int .u64 (p : Int), .int .u64 (q : Int), .int .u64 (r : Int), .int .u64 (s : Int)] :=
  ⟨_, _, _, _, _, _, _, _, rfl, rfl⟩
theorem cells8 {w : World} {k o : Nat} {a b c d p q r s : Nat} (h : w.rangeAt k o [.int .u64 (a : Int), .int .u64 (b : Int), .int .u64 (c : Int), .int .u64 (d : Int), .int .u64 (p : Int), .int .u64 (q : Int), .int .u64 (r : Int), .int .u64 (s : Int)]) :
    w.cell? ⟨k, o, none⟩ = some (.int .u64 (a : Int)) ∧ w.cell? ⟨k, o + 1, none⟩ = some (.int .u64 (b : Int)) ∧ w.cell? ⟨k, o + 2, none⟩ = some (.int .u64 (c : Int)) ∧ w.cell? ⟨k, o + 3, none⟩ = some (.int .u64 (d : Int)) ∧
    w.cell? ⟨k, o + 4, none⟩ = some (.int .u64 (p : Int)) ∧ w.cell? ⟨k, o + 5, none⟩ = some (.int .u64 (q : Int)) ∧ w.cell? ⟨k, o + 6, none⟩ = some (.int .u64 (r : Int)) ∧ w.cell? ⟨k, o + 7, none⟩ = some (.int .u64 (s : Int)) :=
  ⟨h 0 _ rfl, h 1 _ rfl, h 2 _ rfl, h 3 _ rfl, h 4 _ rfl, h 5 _ rfl, h 6 _ rfl, h 7 _ rfl⟩
/-- What a call of the face answers: an errno, or a point's bytes in new memory. -/
def OutE (c : Int) (e : Value) : Prop := e = .tuple #[.slice none 0 0, .int .i64 c]
def OutP (w : World) (T : Bs) (e : Value) (w' : World) : Prop := ∃ g cap, e = .tuple #[.slice (some ⟨g, 0, none⟩) 33 cap, .int .i64 0] ∧ 33 ≤ cap ∧ w.heap.size ≤ g ∧ g < w'.heap.size ∧ Holds encB w' g 0 T
def MinusR (P : Nat) [NeZero P] (w : World) (bs : Bs) (e : Value) (w' : World) : Prop := match rd P bs with
  | none => OutE 4 e
  | some p => OutP w (by33 p.1 (0 - p.2)) e w'
theorem one_args {w : World} {v : Value} {bs : Bs} (T : TypeId) (h : Arg33 w v bs) : ArgsPts (w.alloc (.cells #[v] T)) (some ⟨w.heap.size, 0, none⟩) 1 (fun _ => bs) := fun _ =>
  ⟨w.heap.size, rfl, by rw [World.size_alloc]; omega, fun j hj => by
    obtain rfl : j = 0 := by omega
    exact ⟨v, by rw [World.cell?_alloc_new]; rfl, h.below (below1 w _)⟩⟩
set_option maxHeartbeats 4000000 in
set_option maxRecDepth 100000 in
theorem gMinus_c (C : Fld P) (v : Value) (bs : Bs) (w : World) (hv : Arg33 w v bs) (T : TypeId) : Calls Try.prog 10 #[v] w (Ret fun e w' => Below w.heap.size w w' ∧ MinusR P w bs e w') := by
  have HV : Hid (Arg33 w v bs) := hv
  obtain ⟨q, n, cap, rfl, -⟩ := hv
  go_enter Try.func10, Try.ntmps10
  go_wp2_with fail
  refine (Pts_c C 1 1 (by decide) _ (fun _ => bs) _ (one_args _ HV.out)).mono ?_
  rintro e w1 ⟨v, rfl, hb1, ⟨k, hk1, hk2, rfl, hrow⟩ | ⟨⟨j, -, hno⟩, rfl⟩⟩
  · obtain ⟨⟨x, y⟩, hp, hr⟩ := hrow 0 (by decide)
    obtain ⟨a1, b1, c1, d1, p1, q1, r1, s1, e1, e2⟩ := words2 x y
    obtain ⟨a2, b2, c2, d2, p2, q2, r2, s2, f1, -⟩ := words2 x (0 - y)
    have hO : ∀ w, Calls Try.prog 22 #[.agg #[.int .u64 (a1 : Int), .int .u64 (b1 : Int), .int .u64 (c1 : Int), .int .u64 (d1 : Int), .int .u64 (p1 : Int), .int .u64 (q1 : Int), .int .u64 (r1 : Int), .int .u64 (s1 : Int)]] w (Ret fun e w' => Below w.heap.size w w' ∧ e = .agg #[.int .u64 (a2 : Int), .int .u64 (b2 : Int), .int .u64 (c2 : Int), .int .u64 (d2 : Int), .int .u64 (p2 : Int), .int .u64 (q2 : Int), .int .u64 (r2 : Int), .int .u64 (s2 : Int)]) := by
      have := popp_c C x y
      rw [e1, f1] at this
      exact this
    have hBt : ∀ w, Calls Try.prog 16 #[.agg #[.int .u64 (a2 : Int), .int .u64 (b2 : Int), .int .u64 (c2 : Int), .int .u64 (d2 : Int), .int .u64 (p2 : Int), .int .u64 (q2 : Int), .int .u64 (r2 : Int), .int .u64 (s2 : Int)]] w (Ret fun e w' => Below w.heap.size w w' ∧ BytesR w (by33 x (0 - y)) e w') := by
      have := bytes_c C x (0 - y)
      rw [f1] at this
      exact this
    rw [e2] at hr
    obtain ⟨g0, g1, g2, g3, g4, g5, g6, g7⟩ := cells8 (o := 0) hr
    have HB : Hid (Below w.heap.size w w1) := (below1 w _).trans (hb1.mono (by simp))
    have HN : Hid (rd P bs = some (x, y)) := hp
    clear hb1 hp hr hrow e1 e2 f1 hk1
    go_wp2_with fail
    refine (hO _).mono ?_
    rintro e w2 ⟨v, rfl, hb2, rfl⟩
    have HB2 : Hid (Below w.heap.size w w2) := HB.out.trans (hb2.mono HB.out.size)
    clear hb2 g0 g1 g2 g3 g4 g5 g6 g7 hk2
    go_wp2_with fail
    refine (hBt _).mono ?_
    rintro e w3 ⟨v, rfl, hb3, g, cap3, rfl, hc3, hg3, hlt3, hH3⟩
    have HB3 : Hid (Below w.heap.size w w3) := HB2.out.trans (hb3.mono HB2.out.size)
    have HO : Hid (OutP w (by33 x (0 - y)) (.tuple #[.slice (some ⟨g, 0, none⟩) 33 cap3, .int .i64 0]) w3) := ⟨g, cap3, rfl, hc3, Nat.le_trans HB2.out.size hg3, hlt3, hH3⟩
    clear hb3 hH3
    go_wp2
    go_ret2
    refine ⟨_, rfl, HB3.out, ?_⟩
    unfold MinusR
    rw [HN.out]
    exact HO.out
  · have HB : Hid (Below w.heap.size w w1) := (below1 w _).trans (hb1.mono (by simp))
    have HN : Hid (rd P bs = none) := hno
    clear hb1 hno
    go_wp2
    go_ret2
    refine ⟨_, rfl, HB.out, ?_⟩
    unfold MinusR
    rw [HN.out]
    exact rfl
set_option maxHeartbeats 2000000 in
theorem gPoint_c (C : Fld P) (v : Value) (bs : Bs) (w : World) (hv : Arg33 w v bs) : Calls Try.prog 6 #[v] w (Ret fun e w' => Below w.heap.size w w' ∧ e = .bool (rd P bs).isSome) := by
  have hc : ∃ (a1 b1 c1 d1 p1 q1 r1 s1 : Nat), Calls Try.prog 17 #[v] w (Ret fun e w' => Below w.heap.size w w' ∧ e = .tuple #[.agg #[.int .u64 (a1 : Int), .int .u64 (b1 : Int), .int .u64 (c1 : Int), .int .u64 (d1 : Int), .int .u64 (p1 : Int), .int .u64 (q1 : Int), .int .u64 (r1 : Int), .int .u64 (s1 : Int)], .bool (rd P bs).isSome]) := by
    have h := readPoint_c C v bs w hv
    cases hrd : rd P bs with
    | none =>
      obtain ⟨a1, b1, c1, d1, p1, q1, r1, s1, e1, -⟩ := words2 (0 : Fin P) 0
      refine ⟨a1, b1, c1, d1, p1, q1, r1, s1, ?_⟩
      rw [hrd] at h
      rw [← e1]
      exact h
    | some p =>
      obtain ⟨a1, b1, c1, d1, p1, q1, r1, s1, e1, -⟩ := words2 p.1 p.2
      refine ⟨a1, b1, c1, d1, p1, q1, r1, s1, ?_⟩
      rw [hrd] at h
      rw [← e1]
      exact h
  obtain ⟨a1, b1, c1, d1, p1, q1, r1, s1, hc⟩ := hc
  generalize (rd P bs).isSome = bb at hc ⊢
  obtain ⟨q, n, cap, rfl, -⟩ := hv
  go_enter Try.func6, Try.ntmps6
  go_wp2_with fail
  refine hc.mono ?_
  rintro e w1 ⟨v, rfl, hb1, rfl⟩
  have HB : Hid (Below w.heap.size w w1) := hb1
  clear hb1 hc
  go_wp2
  go_ret
  exact ⟨_, rfl, HB.out.alloc HB.out.size _, rfl⟩
/-- Two points in a block. -/
structure PS (w : World) (k : Nat) (a1 b1 c1 d1 p1 q1 r1 s1 a2 b2 c2 d2 p2 q2 r2 s2 : Nat) (W : World) : Prop where
  r1 : W.rangeAt k 0 [.int .u64 (a1 : Int), .int .u64 (b1 : Int), .int .u64 (c1 : Int), .int .u64 (d1 : Int), .int .u64 (p1 : Int), .int .u64 (q1 : Int), .int .u64 (r1 : Int), .int .u64 (s1 : Int)]
  r2 : W.rangeAt k 8 [.int .u64 (a2 : Int), .int .u64 (b2 : Int), .int .u64 (c2 : Int), .int .u64 (d2 : Int), .int .u64 (p2 : Int), .int .u64 (q2 : Int), .int .u64 (r2 : Int), .int .u64 (s2 : Int)]
  lt : k < W.heap.size
  bl : Below w.heap.size w W
theorem PS.call {w W W' : World} {k a1 b1 c1 d1 p1 q1 r1 s1 a2 b2 c2 d2 p2 q2 r2 s2 : Nat} (h : PS w k a1 b1 c1 d1 p1 q1 r1 s1 a2 b2 c2 d2 p2 q2 r2 s2 W) (hb : Below W.heap.size W W') : PS w k a1 b1 c1 d1 p1 q1 r1 s1 a2 b2 c2 d2 p2 q2 r2 s2 W' :=
  ⟨RG.range_below h.r1 hb h.lt, RG.range_below h.r2 hb h.lt, Nat.lt_of_lt_of_le h.lt hb.size, h.bl.trans (hb.mono h.bl.size)⟩
theorem PS.drew {w W : World} {k a1 b1 c1 d1 p1 q1 r1 s1 a2 b2 c2 d2 p2 q2 r2 s2 : Nat} (h : PS w k a1 b1 c1 d1 p1 q1 r1 s1 a2 b2 c2 d2 p2 q2 r2 s2 W) : PS w k a1 b1 c1 d1 p1 q1 r1 s1 a2 b2 c2 d2 p2 q2 r2 s2 W.drew := ⟨h.r1, h.r2, h.lt, h.bl.drew⟩
theorem psS {w W : World} {k a1 b1 c1 d1 p1 q1 r1 s1 a2 b2 c2 d2 p2 q2 r2 s2 : Nat} (h : PS w k a1 b1 c1 d1 p1 q1 r1 s1 a2 b2 c2 d2 p2 q2 r2 s2 W) : W.cell? ⟨k, 0, none⟩ = some (.int .u64 (a1 : Int)) ∧ W.cell? ⟨k, 1, none⟩ = some (.int .u64 (b1 : Int)) ∧ W.cell? ⟨k, 2, none⟩ = some (.int .u64 (c1 : Int)) ∧ W.cell? ⟨k, 3, none⟩ = some (.int .u64 (d1 : Int)) ∧ W.cell? ⟨k, 4, none⟩ = some (.int .u64 (p1 : Int)) ∧ W.cell? ⟨k, 5, none⟩ = some (.int .u64 (q1 : Int)) ∧ W.cell? ⟨k, 6, none⟩ = some (.int .u64 (r1 : Int)) ∧ W.cell? ⟨k, 7, none⟩ = some (.int .u64 (s1 : Int)) ∧ W.cell? ⟨k, 8, none⟩ = some (.int .u64 (a2 : Int)) ∧ W.cell? ⟨k, 9, none⟩ = some (.int .u64 (b2 : Int)) ∧ W.cell? ⟨k, 10, none⟩ = some (.int .u64 (c2 : Int)) ∧ W.cell? ⟨k, 11, none⟩ = some (.int .u64 (d2 : Int)) ∧ W.cell? ⟨k, 12, none⟩ = some (.int .u64 (p2 : Int)) ∧ W.cell? ⟨k, 13, none⟩ = some (.int .u64 (q2 : Int)) ∧ W.cell? ⟨k, 14, none⟩ = some (.int .u64 (r2 : Int)) ∧ W.cell? ⟨k, 15, none⟩ = some (.int .u64 (s2 : Int)) ∧ PS w k a1 b1 c1 d1 p1 q1 r1 s1 a2 b2 c2 d2 p2 q2 r2 s2 W :=
  let ⟨x0, x1, x2, x3, x4, x5, x6, x7⟩ := cells8 h.r1
  let ⟨y0, y1, y2, y3, y4, y5, y6, y7⟩ := cells8 h.r2
  ⟨x0, x1, x2, x3, x4, x5, x6, x7, y0, y1, y2, y3, y4, y5, y6, y7, h⟩
theorem two_args {w : World} {v u : Value} {az bs : Bs} (T : TypeId) (h : Arg33 w v az) (h' : Arg33 w u bs) : ArgsPts (w.alloc (.cells #[v, u] T)) (some ⟨w.heap.size, 0, none⟩) 2 (fun j => if j = 0 then az else bs) := fun _ =>
  ⟨w.heap.size, rfl, by rw [World.size_alloc]; omega, fun j hj => by
    by_cases h0 : j = 0
    · subst h0
      exact ⟨v, by rw [World.cell?_alloc_new]; rfl, h.below (below1 w _)⟩
    · obtain rfl : j = 1 := by omega
      exact ⟨u, by rw [World.cell?_alloc_new]; rfl, h'.below (below1 w _)⟩⟩
/-- The point that Plus answers. -/
def plP (p q : Fin P × Fin P) : T3 P := plJ (raJ p.1 p.2) (raJ q.1 q.2)
def ptP (s : T3 P) : Fin P × Fin P := (s.1 * (EC.inv s.2.2 * EC.inv s.2.2), s.2.1 * (EC.inv s.2.2 * EC.inv s.2.2) * EC.inv s.2.2)
def PlusR (P : Nat) [NeZero P] (w : World) (az bs : Bs) (e : Value) (w' : World) : Prop := match rd P az, rd P bs with
  | some p, some q => OutP w (by33 (ptP (plP p q)).1 (ptP (plP p q)).2) e w'
  | _, _ => OutE 4 e
set_option maxHeartbeats 4000000 in
set_option maxRecDepth 100000 in
theorem gPlus_c (C : Fld P) (v u : Value) (az bs : Bs) (w : World) (hv : Arg33 w v az) (hu : Arg33 w u bs) : Calls Try.prog 9 #[v, u] w (Ret fun e w' => Below w.heap.size w w' ∧ PlusR P w az bs e w') := by
  have HV : Hid (Arg33 w v az ∧ Arg33 w u bs) := ⟨hv, hu⟩
  obtain ⟨q, n, cap, rfl, -⟩ := hv
  obtain ⟨q', n', cap', rfl, -⟩ := hu
  go_enter Try.func9, Try.ntmps9
  go_wp2_with fail
  refine (Pts_c C 2 2 (by decide) _ (fun j => if j = 0 then az else bs) _ (two_args _ HV.out.1 HV.out.2)).mono ?_
  rintro e w1 ⟨v, rfl, hb1, ⟨k, hk1, hk2, rfl, hrow⟩ | ⟨⟨j, hj, hno⟩, rfl⟩⟩
  · obtain ⟨⟨x, y⟩, hp, hr⟩ := hrow 0 (by decide)
    obtain ⟨⟨x', y'⟩, hp', hr'⟩ := hrow 1 (by decide)
    obtain ⟨a1, b1, c1, d1, p1, q1, r1, s1, e1, e2⟩ := words2 x y
    obtain ⟨a2, b2, c2, d2, p2, q2, r2, s2, f1, f2⟩ := words2 x' y'
    rw [e2] at hr
    rw [f2] at hr'
    have KP : PS w k a1 b1 c1 d1 p1 q1 r1 s1 a2 b2 c2 d2 p2 q2 r2 s2 w1 := ⟨hr, hr', hk2, (below1 w _).trans (hb1.mono (by simp))⟩
    have hR1 : ∀ w, Calls Try.prog 19 #[.agg #[.int .u64 (a1 : Int), .int .u64 (b1 : Int), .int .u64 (c1 : Int), .int .u64 (d1 : Int), .int .u64 (p1 : Int), .int .u64 (q1 : Int), .int .u64 (r1 : Int), .int .u64 (s1 : Int)]] w (Ret fun e w' => Below w.heap.size w w' ∧ e = tv (raJ x y)) := by
      have := raJ_c C x y
      rw [e1] at this
      exact this
    have hR2 : ∀ w, Calls Try.prog 19 #[.agg #[.int .u64 (a2 : Int), .int .u64 (b2 : Int), .int .u64 (c2 : Int), .int .u64 (d2 : Int), .int .u64 (p2 : Int), .int .u64 (q2 : Int), .int .u64 (r2 : Int), .int .u64 (s2 : Int)]] w (Ret fun e w' => Below w.heap.size w w' ∧ e = tv (raJ x' y')) := by
      have := raJ_c C x' y'
      rw [f1] at this
      exact this
    have hP : ∀ w, Calls Try.prog 20 #[tv (raJ x y), tv (raJ x' y')] w (Ret fun e w' => Below w.heap.size w w' ∧ e = tv (plP (x, y) (x', y'))) := plJ_c C _ _
    have hT : ∀ w, Calls Try.prog 21 #[tv (plP (x, y) (x', y'))] w (Ret fun e w' => Below w.heap.size w w' ∧ e = pv (ptP (plP (x, y) (x', y'))).1 (ptP (plP (x, y) (x', y'))).2) := ptJ_c C _
    have hBt : ∀ w, Calls Try.prog 16 #[pv (ptP (plP (x, y) (x', y'))).1 (ptP (plP (x, y) (x', y'))).2] w (Ret fun e w' => Below w.heap.size w w' ∧ BytesR w (by33 (ptP (plP (x, y) (x', y'))).1 (ptP (plP (x, y) (x', y'))).2) e w') := bytes_c C _ _
    have HN : Hid (rd P az = some (x, y) ∧ rd P bs = some (x', y')) := ⟨hp, hp'⟩
    clear hp hp' hr hr' hrow e1 e2 f1 f2 hb1 hk1 hk2
    generalize hz : ptP (plP (x, y) (x', y')) = z at hT hBt
    have HZ : Hid (ptP (plP (x, y) (x', y')) = z) := hz
    clear hz
    generalize tv (plP (x, y) (x', y')) = v3 at hP hT
    generalize tv (raJ x y) = v1 at hR1 hP
    generalize tv (raJ x' y') = v2 at hR2 hP
    generalize pv z.1 z.2 = v4 at hT hBt
    go_wp2_with fail
    go_region_held3 (fun W => W.cell? ⟨k, 0, none⟩ = some (.int .u64 (a1 : Int)) ∧ W.cell? ⟨k, 1, none⟩ = some (.int .u64 (b1 : Int)) ∧ W.cell? ⟨k, 2, none⟩ = some (.int .u64 (c1 : Int)) ∧ W.cell? ⟨k, 3, none⟩ = some (.int .u64 (d1 : Int)) ∧ W.cell? ⟨k, 4, none⟩ = some (.int .u64 (p1 : Int)) ∧ W.cell? ⟨k, 5, none⟩ = some (.int .u64 (q1 : Int)) ∧ W.cell? ⟨k, 6, none⟩ = some (.int .u64 (r1 : Int)) ∧ W.cell? ⟨k, 7, none⟩ = some (.int .u64 (s1 : Int)) ∧ W.cell? ⟨k, 8, none⟩ = some (.int .u64 (a2 : Int)) ∧ W.cell? ⟨k, 9, none⟩ = some (.int .u64 (b2 : Int)) ∧ W.cell? ⟨k, 10, none⟩ = some (.int .u64 (c2 : Int)) ∧ W.cell? ⟨k, 11, none⟩ = some (.int .u64 (d2 : Int)) ∧ W.cell? ⟨k, 12, none⟩ = some (.int .u64 (p2 : Int)) ∧ W.cell? ⟨k, 13, none⟩ = some (.int .u64 (q2 : Int)) ∧ W.cell? ⟨k, 14, none⟩ = some (.int .u64 (r2 : Int)) ∧ W.cell? ⟨k, 15, none⟩ = some (.int .u64 (s2 : Int)) ∧ PS w k a1 b1 c1 d1 p1 q1 r1 s1 a2 b2 c2 d2 p2 q2 r2 s2 W) (first | (with_reducible exact psS KP) | (with_reducible exact psS KP.drew) | fail) (first | (go_at_call_of 19 (Value.agg #[.int .u64 (a1 : Int), .int .u64 (b1 : Int), .int .u64 (c1 : Int), .int .u64 (d1 : Int), .int .u64 (p1 : Int), .int .u64 (q1 : Int), .int .u64 (r1 : Int), .int .u64 (s1 : Int)]); refine (hR1 _).mono ?_; rintro e w2 ⟨v, rfl, hb2, rfl⟩; (first | (with_reducible (have KP1 := KP.drew.call hb2)) | (with_reducible (have KP1 := KP.call hb2)) | fail); clear KP hb2; have KP := KP1; clear KP1) | (go_at_call_of 19 (Value.agg #[.int .u64 (a2 : Int), .int .u64 (b2 : Int), .int .u64 (c2 : Int), .int .u64 (d2 : Int), .int .u64 (p2 : Int), .int .u64 (q2 : Int), .int .u64 (r2 : Int), .int .u64 (s2 : Int)]); refine (hR2 _).mono ?_; rintro e w2 ⟨v, rfl, hb2, rfl⟩; (first | (with_reducible (have KP1 := KP.drew.call hb2)) | (with_reducible (have KP1 := KP.call hb2)) | fail); clear KP hb2; have KP := KP1; clear KP1) | (go_at_call 20; refine (hP _).mono ?_; rintro e w2 ⟨v, rfl, hb2, rfl⟩; (first | (with_reducible (have KP1 := KP.drew.call hb2)) | (with_reducible (have KP1 := KP.call hb2)) | fail); clear KP hb2; have KP := KP1; clear KP1) | (go_at_call 21; refine (hT _).mono ?_; rintro e w2 ⟨v, rfl, hb2, rfl⟩; (first | (with_reducible (have KP1 := KP.drew.call hb2)) | (with_reducible (have KP1 := KP.call hb2)) | fail); clear KP hb2; have KP := KP1; clear KP1) | (go_at_call 16; refine (hBt _).mono ?_; rintro e w2 ⟨v, rfl, hb2, g, cap3, rfl, hc3, hg3, hlt3, hH3⟩; (first | (with_reducible (have KP1 := KP.drew.call hb2)) | (with_reducible (have KP1 := KP.call hb2)) | fail); have HO : Hid (OutP w (by33 z.1 z.2) (.tuple #[.slice (some ⟨g, 0, none⟩) 33 cap3, .int .i64 0]) w2) := ⟨g, cap3, rfl, hc3, Nat.le_trans KP.bl.size hg3, hlt3, hH3⟩; clear KP hb2 hH3 hg3 hlt3 hc3; have KP := KP1; clear KP1))
    go_wp2
    go_ret2
    refine ⟨_, rfl, KP.bl, ?_⟩
    unfold PlusR
    rw [HN.out.1, HN.out.2]
    dsimp only
    rw [HZ.out]
    exact HO.out
  · have HB : Hid (Below w.heap.size w w1) := (below1 w _).trans (hb1.mono (by simp))
    have HN : Hid (rd P az = none ∨ rd P bs = none) := by
      dsimp only at hno
      by_cases h0 : j = 0
      · rw [if_pos h0] at hno
        exact Or.inl hno
      · rw [if_neg h0] at hno
        exact Or.inr hno
    clear hb1 hno
    go_wp2
    go_ret2
    refine ⟨_, rfl, HB.out, ?_⟩
    unfold PlusR
    rcases HN.out with h | h
    · rw [h]
      cases rd P bs <;> exact rfl
    · rw [h]
      cases rd P az <;> exact rfl
end Go.Proofs.Ytbimbalfdmffaac
namespace Go.Proofs.Ytbimbalfdmffaac
open Go.RowKit Go.Sort Go.Deep
variable {P : Nat} [NeZero P]
theorem cell_below {w w1 : World} {k j : Nat} {v : Value} (h : w.cell? ⟨k, j, none⟩ = some v) (hb : Below w.heap.size w w1) (hk : k < w.heap.size) : w1.cell? ⟨k, j, none⟩ = some v := by
  have h1 : w.rangeAt k j [v] := fun i u hu => by
    cases i with
    | zero =>
      obtain rfl : v = u := Option.some.inj hu
      exact h
    | succ i => exact absurd hu (by simp)
  exact RG.range_below h1 hb hk 0 v rfl
theorem ArgsPts.below {w w1 : World} {q : Option Addr} {n : Nat} {L : Nat → Bs} (h : ArgsPts w q n L) (hb : Below w.heap.size w w1) : ArgsPts w1 q n L := fun hn => by
  obtain ⟨gg, hq, hlt, hc⟩ := h hn
  refine ⟨gg, hq, Nat.lt_of_lt_of_le hlt hb.size, fun j hj => ?_⟩
  obtain ⟨v, hv, ha⟩ := hc j hj
  exact ⟨v, cell_below hv hb hlt, ha.below hb⟩
theorem ArgsScs.below {w w1 : World} {q : Option Addr} {n : Nat} {L : Nat → Bs} (h : ArgsScs w q n L) (hb : Below w.heap.size w w1) : ArgsScs w1 q n L := fun hn => by
  obtain ⟨gg, hq, hlt, hc⟩ := h hn
  refine ⟨gg, hq, Nat.lt_of_lt_of_le hlt hb.size, fun j hj => ?_⟩
  obtain ⟨v, hv, ha⟩ := hc j hj
  exact ⟨v, cell_below hv hb hlt, ha.below hb⟩
/-- What Sum answers. -/
def SumR (P : Nat) [NeZero P] (N : Nat) (w : World) (n a : Nat) (L M : Nat → Bs) (e : Value) (w' : World) : Prop :=
  (n ≠ a ∧ OutE 2 e) ∨ (n = a ∧ 512 < n ∧ OutE 1 e) ∨ (n = a ∧ n ≤ 512 ∧ (((∃ j, j < n ∧ rq N (L j) = none) ∧ OutE 3 e) ∨
    ∃ ns : Nat → Nat, (∀ j, j < n → rq N (L j) = some (ns j)) ∧ (((∃ j, j < n ∧ rd P (M j) = none) ∧ OutE 4 e) ∨
      ∃ xs ys : Nat → Fin P, (∀ j, j < n → rd P (M j) = some (xs j, ys j)) ∧ OutP w (by33 (ptP (sumJ ns xs ys n 257)).1 (ptP (sumJ ns xs ys n 257)).2) e w')))
theorem choose_nat {A : Type} [Inhabited A] {n : Nat} {p : Nat → A → Prop} (h : ∀ j, j < n → ∃ a, p j a) : ∃ f : Nat → A, ∀ j, j < n → p j (f j) :=
  ⟨fun j => if hj : j < n then (h j hj).choose else default, fun j hj => by
    show p j (if hj : j < n then (h j hj).choose else default)
    rw [dif_pos hj]
    exact (h j hj).choose_spec⟩
theorem rq_top {N : Nat} (hN : N ≤ top) {bs : Bs} {m : Nat} (h : rq N bs = some m) : m < top := by
  unfold rq at h
  split at h
  · rename_i h1
    obtain rfl : beV bs.toList = m := Option.some.inj h
    exact Nat.lt_of_lt_of_le h1.2 hN
  · exact absurd h (by simp)
set_option maxHeartbeats 4000000 in
set_option maxRecDepth 100000 in
theorem gSum_c {N : Nat} (C : Fld P) (hG : Gap 4624529908474429119 4994812053365940164 1 N) (hN : N ≤ top) (q q' : Option Addr) (n cap a cap' : Nat) (L M : Nat → Bs) (w : World) (hL : ArgsScs w q n L) (hM : ArgsPts w q' a M) :
    Calls Try.prog 14 #[.slice q n cap, .slice q' a cap'] w (Ret fun e w' => Below w.heap.size w w' ∧ SumR P N w n a L M e w') := by
  have HL : Hid (ArgsScs w q n L) := hL
  have HM : Hid (ArgsPts w q' a M) := hM
  clear hL hM
  by_cases hna : n = a
  · subst hna
    by_cases h512 : 512 < n
    · go_enter Try.func14, Try.ntmps14
      go_wp2
      go_ret2
      exact ⟨_, rfl, RowKit.Below.refl _ _, Or.inr (Or.inl ⟨rfl, h512, rfl⟩)⟩
    · have H5 : n ≤ 512 := by omega
      go_enter Try.func14, Try.ntmps14
      go_wp2_with fail
      refine (Scs_c hG n cap H5 q L w HL.out).mono ?_
      rintro e w1 ⟨v, rfl, hb1, ⟨k, hk1, hk2, rfl, hrow⟩ | ⟨hno, rfl⟩⟩
      · obtain ⟨ns, hns⟩ := choose_nat hrow
        have HB : Hid (Below w.heap.size w w1) := hb1
        have HS : Hid (k < w1.heap.size ∧ ∀ j, j < n → w1.rangeAt k (4 * j) (wn (ns j))) := ⟨hk2, fun j hj => (hns j hj).2⟩
        have HN : Hid (∀ j, j < n → rq N (L j) = some (ns j)) := fun j hj => (hns j hj).1
        clear hrow hns hk1 hk2 hb1
        go_wp2_with fail
        refine (Pts_c C n cap' H5 q' M w1 (HM.out.below HB.out)).mono ?_
        rintro e w2 ⟨v, rfl, hb2, ⟨k', hk1, hk2, rfl, hrow⟩ | ⟨hno, rfl⟩⟩
        · obtain ⟨ps, hps⟩ := choose_nat hrow
          have HB2 : Hid (Below w.heap.size w w2) := HB.out.trans (hb2.mono HB.out.size)
          have HS2 : Hid (k < w2.heap.size ∧ ∀ j, j < n → w2.rangeAt k (4 * j) (wn (ns j))) := ⟨Nat.lt_of_lt_of_le HS.out.1 hb2.size, fun j hj => RG.range_below (HS.out.2 j hj) hb2 HS.out.1⟩
          have HP : Hid (k' < w2.heap.size ∧ ∀ j, j < n → w2.rangeAt k' (8 * j) (ws (ps j).1 ++ ws (ps j).2)) := ⟨hk2, fun j hj => (hps j hj).2⟩
          have HM2 : Hid (∀ j, j < n → rd P (M j) = some ((ps j).1, (ps j).2)) := fun j hj => (hps j hj).1
          clear hrow hps hk1 hk2 hb2
          have hBt : ∀ w, Calls Try.prog 16 #[pv (ptP (sumJ ns (fun j => (ps j).1) (fun j => (ps j).2) n 257)).1 (ptP (sumJ ns (fun j => (ps j).1) (fun j => (ps j).2) n 257)).2] w (Ret fun e w' => Below w.heap.size w w' ∧ BytesR w (by33 (ptP (sumJ ns (fun j => (ps j).1) (fun j => (ps j).2) n 257)).1 (ptP (sumJ ns (fun j => (ps j).1) (fun j => (ps j).2) n 257)).2) e w') := bytes_c C _ _
          have hS : Calls Try.prog 24 #[.slice (some ⟨k, 0, none⟩) n n, .slice (some ⟨k', 0, none⟩) n n] w2 (Ret fun e w' => Below w2.heap.size w2 w' ∧ e = pv (ptP (sumJ ns (fun j => (ps j).1) (fun j => (ps j).2) n 257)).1 (ptP (sumJ ns (fun j => (ps j).1) (fun j => (ps j).2) n 257)).2) := by
            refine (sums_c C n H5 ns (fun j => (ps j).1) (fun j => (ps j).2) (fun i hi => rq_top hN (HN.out i hi)) k k' w2 HS2.out.1 HP.out.1 HS2.out.2 HP.out.2).mono ?_
            rintro e w' ⟨v, rfl, hb, s, rfl, rfl⟩
            exact ⟨_, rfl, hb, rfl⟩
          generalize hz : ptP (sumJ ns (fun j => (ps j).1) (fun j => (ps j).2) n 257) = z at hS hBt
          have HZ : Hid (ptP (sumJ ns (fun j => (ps j).1) (fun j => (ps j).2) n 257) = z) := hz
          clear hz
          generalize pv z.1 z.2 = v4 at hS hBt
          go_wp2_with fail
          refine hS.mono ?_
          rintro e w3 ⟨v, rfl, hb3, rfl⟩
          have HB3 : Hid (Below w.heap.size w w3) := HB2.out.trans (hb3.mono HB2.out.size)
          clear hb3
          go_wp2_with fail
          refine (hBt _).mono ?_
          rintro e w4 ⟨v, rfl, hb4, g, cap3, rfl, hc3, hg3, hlt3, hH3⟩
          have HB4 : Hid (Below w.heap.size w w4) := HB3.out.trans (hb4.mono HB3.out.size)
          have HO : Hid (OutP w (by33 z.1 z.2) (.tuple #[.slice (some ⟨g, 0, none⟩) 33 cap3, .int .i64 0]) w4) := ⟨g, cap3, rfl, hc3, Nat.le_trans HB3.out.size hg3, hlt3, hH3⟩
          clear hb4 hH3
          go_wp2
          go_ret2
          refine ⟨_, rfl, HB4.out, Or.inr (Or.inr ⟨rfl, H5, Or.inr ⟨ns, HN.out, Or.inr ⟨_, _, HM2.out, ?_⟩⟩⟩)⟩
          rw [HZ.out]
          exact HO.out
        · have HB2 : Hid (Below w.heap.size w w2) := HB.out.trans (hb2.mono HB.out.size)
          have HO : Hid (∃ j, j < n ∧ rd P (M j) = none) := hno
          clear hb2 hno
          go_wp2
          go_ret2
          exact ⟨_, rfl, HB2.out, Or.inr (Or.inr ⟨rfl, H5, Or.inr ⟨ns, HN.out, Or.inl ⟨HO.out, rfl⟩⟩⟩)⟩
      · have HB : Hid (Below w.heap.size w w1) := hb1
        have HO : Hid (∃ j, j < n ∧ rq N (L j) = none) := hno
        clear hb1 hno
        go_wp2
        go_ret2
        exact ⟨_, rfl, HB.out, Or.inr (Or.inr ⟨rfl, H5, Or.inl ⟨HO.out, rfl⟩⟩)⟩
  · go_enter Try.func14, Try.ntmps14
    go_wp2
    go_ret2
    exact ⟨_, rfl, RowKit.Below.refl _ _, Or.inl ⟨hna, rfl⟩⟩
theorem one_scs {w : World} {v : Value} {bs : Bs} (T : TypeId) (h : Arg w v bs) : ArgsScs (w.alloc (.cells #[v] T)) (some ⟨w.heap.size, 0, none⟩) 1 (fun _ => bs) := fun _ =>
  ⟨w.heap.size, rfl, by rw [World.size_alloc]; omega, fun j hj => by
    obtain rfl : j = 0 := by omega
    exact ⟨v, by rw [World.cell?_alloc_new]; rfl, h.below (below1 w _)⟩⟩
theorem inn_one (ns : Nat → Nat) (xs ys : Nat → Fin P) (st : T3 P) (p : Nat) : inn ns xs ys st p 1 = inn (fun _ => ns 0) (fun _ => xs 0) (fun _ => ys 0) st p 1 := rfl
theorem sumJ_one (ns : Nat → Nat) (xs ys : Nat → Fin P) : ∀ m, sumJ ns xs ys 1 m = sumJ (fun _ => ns 0) (fun _ => xs 0) (fun _ => ys 0) 1 m
  | 0 => rfl
  | m + 1 => by
    unfold sumJ
    rw [sumJ_one ns xs ys m, inn_one]
/-- What Times answers. -/
def TimesR (P : Nat) [NeZero P] (N : Nat) (w : World) (az bs : Bs) (e : Value) (w' : World) : Prop := match rq N az, rd P bs with
  | none, _ => OutE 3 e
  | some _, none => OutE 4 e
  | some n, some p => OutP w (by33 (ptP (sumJ (fun _ => n) (fun _ => p.1) (fun _ => p.2) 1 257)).1 (ptP (sumJ (fun _ => n) (fun _ => p.1) (fun _ => p.2) 1 257)).2) e w'
set_option maxHeartbeats 4000000 in
theorem gTimes_c {N : Nat} (C : Fld P) (hG : Gap 4624529908474429119 4994812053365940164 1 N) (hN : N ≤ top) (v u : Value) (az bs : Bs) (w : World) (hv : Arg w v az) (hu : Arg33 w u bs) :
    Calls Try.prog 7 #[v, u] w (Ret fun e w' => Below w.heap.size w w' ∧ TimesR P N w az bs e w') := by
  have HV : Hid (Arg w v az ∧ Arg33 w u bs) := ⟨hv, hu⟩
  obtain ⟨q, n, cap, rfl, -⟩ := hv
  obtain ⟨q', n', cap', rfl, -⟩ := hu
  have HA : Hid (ArgsScs ((w.alloc (.cells #[.slice q n cap] 22)).alloc (.cells #[.slice q' n' cap'] 22)) (some ⟨w.heap.size, 0, none⟩) 1 (fun _ => az)) := (one_scs _ HV.out.1).below (below1 _ _)
  have HA' : Hid (ArgsPts ((w.alloc (.cells #[.slice q n cap] 22)).alloc (.cells #[.slice q' n' cap'] 22)) (some ⟨w.heap.size + 1, 0, none⟩) 1 (fun _ => bs)) := by
    have h := one_args 22 (HV.out.2.below (below1 w (.cells #[.slice q n cap] 22)))
    rw [World.size_alloc] at h
    exact h
  have HW : Hid (Below w.heap.size w ((w.alloc (.cells #[.slice q n cap] 22)).alloc (.cells #[.slice q' n' cap'] 22))) := (below1 w _).trans ((below1 _ _).mono (by simp))
  go_enter Try.func7, Try.ntmps7
  go_wp2_with fail
  refine (gSum_c C hG hN _ _ 1 1 1 1 (fun _ => az) (fun _ => bs) _ HA.out HA'.out).mono ?_
  have hone : ∀ m (ns : Nat → Nat) (xs ys : Nat → Fin P) W k z, m = 257 → Holds encB W k 0 (by33 (ptP (sumJ ns xs ys 1 m)).1 (ptP (sumJ ns xs ys 1 m)).2) → z = sumJ (fun _ => ns 0) (fun _ => xs 0) (fun _ => ys 0) 1 m → Holds encB W k 0 (by33 (ptP z).1 (ptP z).2) := by
    intro m ns xs ys W k z _ h hz
    rw [sumJ_one ns xs ys m] at h
    rw [hz]
    exact h
  rintro e w1 ⟨v, rfl, hb1, hs⟩
  have HB : Hid (Below w.heap.size w w1) := HW.out.trans (hb1.mono HW.out.size)
  have HT : Hid (TimesR P N w az bs v w1) := by
    unfold TimesR
    rcases hs with ⟨h, -⟩ | ⟨-, h, -⟩ | ⟨-, -, ⟨⟨j, -, h⟩, ho⟩ | ⟨ns, hns, ⟨⟨j, -, h⟩, ho⟩ | ⟨xs, ys, hp, g, cp, ho, hc, hg1, hg2, hH⟩⟩⟩
    · exact absurd rfl h
    · omega
    · rw [show rq N az = none from h]
      exact ho
    · rw [show rq N az = some (ns 0) from hns 0 (by decide), show rd P bs = none from h]
      exact ho
    · rw [show rq N az = some (ns 0) from hns 0 (by decide), show rd P bs = some (xs 0, ys 0) from hp 0 (by decide)]
      refine ⟨g, cp, ho, hc, ?_, hg2, ?_⟩
      · exact Nat.le_trans HW.out.size hg1
      · exact hone 257 ns xs ys _ _ _ rfl hH rfl
  clear hb1 hs
  have hv2 : ∃ a b, v = .tuple #[a, b] := by
    have := HT.out
    unfold TimesR at this
    split at this
    · exact ⟨_, _, this⟩
    · exact ⟨_, _, this⟩
    · obtain ⟨g, cp, ho, -⟩ := this
      exact ⟨_, _, ho⟩
  obtain ⟨a, b, rfl⟩ := hv2
  go_wp2
  go_ret2
  exact ⟨_, rfl, HB.out, HT.out⟩
end Go.Proofs.Ytbimbalfdmffaac
namespace Go.Proofs.Ytbimbalfdmffaac
open Go.RowKit Go.Sort Go.Deep
variable {P : Nat} [NeZero P]
/-- 33 zeros. -/
def zs33 : Bs := Array.replicate 33 0
theorem sq_mod (r d : Nat) : d * d % (r + d) = r * r % (r + d) := by
  have h : d * d + (r + d) * r = r * r + (r + d) * d := by
    rw [Nat.add_mul, Nat.add_mul, Nat.mul_comm d r]
    omega
  have h1 := congrArg (· % (r + d)) h
  simp only [Nat.add_mul_mod_self_left] at h1
  exact h1
theorem rt_sq {m y : Fin P} (h : rt m = some y) : y * y = m := by
  have h0 := rt_yes h
  unfold rt at h
  rw [if_pos h0] at h
  obtain rfl := Option.some.inj h
  have hP := Nat.pos_of_neZero P
  have hr : m.val ^ (P / 4 + 1) % P < P := Nat.mod_lt _ hP
  generalize m.val ^ (P / 4 + 1) % P = r at h0 hr
  apply Fin.ext
  rw [Fin.val_mul]
  show (even P r % P) * (even P r % P) % P = m.val
  rw [Nat.mod_eq_of_lt (even_lt hP hr), ← h0]
  unfold even
  split
  · have h2 := sq_mod r (P - r)
    rw [show r + (P - r) = P by omega] at h2
    exact h2
  · rfl
theorem zero33_iff {bs : Bs} (hs : bs.size = 33) : Zero33 bs ↔ bs = zs33 := by
  constructor
  · intro h
    apply Array.ext
    · rw [hs]; rfl
    · intro i h1 h2
      have := h i (List.mem_range.2 (by omega))
      rw [getElem!_pos bs i h1] at this
      have h3 : bs[i].toNat = 0 := by
        have h4 : ub bs[i] = (bs[i].toNat : Int) := rfl
        rw [h4] at this
        omega
      have h5 : (zs33)[i] = 0 := by
        have h6 : (Array.replicate 33 (0 : UInt8))[i]'h2 = 0 := Array.getElem_replicate _
        exact h6
      rw [h5]
      exact UInt8.toNat_inj.1 h3
  · rintro rfl i hi
    have hi := List.mem_range.1 hi
    unfold zs33
    rw [getElem!_pos _ i (by rw [Array.size_replicate]; exact hi), Array.getElem_replicate]
    rfl
theorem on_of {x y : Fin P} (h : y * y = x * x * x + 7) : EC.On (.some (x, y) : EC.Pt P) := by
  show y ^ 2 = x ^ 3 + 7
  grobner
theorem on_neg {x y : Fin P} (h : y * y = x * x * x + 7) : EC.On (.some (x, 0 - y) : EC.Pt P) := by
  show (0 - y) ^ 2 = x ^ 3 + 7
  grobner
/-- A point's bytes. -/
def wr : EC.Pt P → Bs
  | none => zs33
  | some (x, y) => #[mark y.val] ++ bx x.val
theorem by33_wr (C : Fld P) {x y : Fin P} {p : EC.Pt P} (h : EC.Pair x y p) (ho : EC.On p) : by33 x y = wr p := by
  unfold by33
  match p, h, ho with
  | none, h, _ => rw [if_pos (show x = 0 ∧ y = 0 from h)]; rfl
  | some (a, b), h, ho =>
    obtain ⟨rfl, rfl⟩ := h
    rw [if_neg (fun e => C.cur.y_ne ho e.2)]
    rfl
/-- The point that a pair is. -/
def pt (p : Fin P × Fin P) : EC.Pt P := if p.1 = 0 ∧ p.2 = 0 then none else some p
theorem pair_pt (C : Fld P) {x y : Fin P} {q : EC.Pt P} (h : EC.Pair x y q) (ho : EC.On q) : q = pt (x, y) := by
  unfold pt
  match q, h, ho with
  | none, h, _ => rw [if_pos (show x = 0 ∧ y = 0 from h)]
  | some (a, b), h, ho =>
    obtain ⟨rfl, rfl⟩ := h
    rw [if_neg (fun e => C.cur.y_ne ho e.2)]
theorem rd_on (C : Fld P) {bs : Bs} {p : Fin P × Fin P} (h : rd P bs = some p) : EC.Pair p.1 p.2 (pt p) ∧ EC.On (pt p) := by
  have key : ∃ q : EC.Pt P, EC.Pair p.1 p.2 q ∧ EC.On q := by
    unfold rd at h
    split at h
    · split at h
      · obtain rfl := Option.some.inj h
        exact ⟨none, ⟨rfl, rfl⟩, EC.none_on⟩
      · split at h
        · split at h
          · obtain ⟨y, hr, rfl⟩ := Option.map_eq_some_iff.1 h
            have hsq := rt_sq hr
            refine ⟨some (rdx P bs, if ub bs[0]! = 3 then 0 - y else y), ⟨rfl, rfl⟩, ?_⟩
            split
            · exact on_neg hsq
            · exact on_of hsq
          · cases h
        · cases h
    · cases h
  obtain ⟨q, h1, h2⟩ := key
  have := pair_pt C h1 h2
  rw [show pt p = q from this.symm]
  exact ⟨h1, h2⟩
/-- What Plus answers, by the points. -/
def PlusQ (P : Nat) [NeZero P] (w : World) (az bs : Bs) (e : Value) (w' : World) : Prop := match rd P az, rd P bs with
  | some p, some q => OutP w (wr (EC.add (pt p) (pt q))) e w'
  | _, _ => OutE 4 e
theorem PlusR.q (C : Fld P) {w w' : World} {az bs : Bs} {e : Value} (h : PlusR P w az bs e w') : PlusQ P w az bs e w' := by
  unfold PlusR at h
  unfold PlusQ
  cases h1 : rd P az with
  | none => rw [h1] at h; exact h
  | some p =>
    cases h2 : rd P bs with
    | none => rw [h1, h2] at h; exact h
    | some q =>
      rw [h1, h2] at h
      have hp := rd_on C h1
      have hq := rd_on C h2
      have hJ := (raJ_J C hp.1 hp.2).plus C (raJ_J C hq.1 hq.2)
      have e1 := by33_wr C (hJ.pair C) hJ.2
      dsimp only at h ⊢
      rw [← e1]
      exact h
def MinusQ (P : Nat) [NeZero P] (w : World) (bs : Bs) (e : Value) (w' : World) : Prop := match rd P bs with
  | some p => OutP w (wr (EC.neg (pt p))) e w'
  | none => OutE 4 e
theorem MinusR.q (C : Fld P) {w w' : World} {bs : Bs} {e : Value} (h : MinusR P w bs e w') : MinusQ P w bs e w' := by
  unfold MinusR at h
  unfold MinusQ
  cases h1 : rd P bs with
  | none => rw [h1] at h; exact h
  | some p =>
    rw [h1] at h
    have hp := rd_on C h1
    have hn : EC.Pair p.1 (0 - p.2) (EC.neg (pt p)) := by
      generalize pt p = q at hp
      match q, hp.1 with
      | none, h => exact ⟨h.1, by rw [show p.2 = 0 from h.2]; grobner⟩
      | some (a, b), h => exact ⟨h.1, by rw [show p.2 = b from h.2]; grobner⟩
    have e1 := by33_wr C hn (EC.neg_on hp.2)
    dsimp only at h ⊢
    rw [← e1]
    exact h
def TimesQ (P : Nat) [NeZero P] (N : Nat) (w : World) (az bs : Bs) (e : Value) (w' : World) : Prop := match rq N az, rd P bs with
  | none, _ => OutE 3 e
  | some _, none => OutE 4 e
  | some n, some p => OutP w (wr (EC.mul n (pt p))) e w'
theorem TimesR.q (C : Fld P) {N : Nat} (hN : N ≤ top) {w w' : World} {az bs : Bs} {e : Value} (h : TimesR P N w az bs e w') : TimesQ P N w az bs e w' := by
  unfold TimesR at h
  unfold TimesQ
  cases h1 : rq N az with
  | none => rw [h1] at h; exact h
  | some n =>
    cases h2 : rd P bs with
    | none => rw [h1, h2] at h; exact h
    | some p =>
      rw [h1, h2] at h
      have hp := rd_on C h2
      have hJ := sumJ_all C (N := 1) (ns := fun _ => n) (xs := fun _ => p.1) (ys := fun _ => p.2) (p := fun _ => pt p) (fun _ _ => rq_top hN h1) (fun _ _ => hp.1) (fun _ _ => hp.2)
      have e1 := by33_wr C (hJ.pair C) hJ.2
      have e2 : EC.tot (fun _ => pt p) 1 (fun _ => (n : Int)) = EC.mul n (pt p) := by
        rfl
      rw [e2] at e1
      dsimp only at h ⊢
      rw [← e1]
      exact h
omit [NeZero P] in
theorem wr_size (p : EC.Pt P) : (wr p).size = 33 := by
  match p with
  | none => rfl
  | some (x, y) =>
    show (#[mark y.val] ++ bx x.val).size = 33
    rw [Array.size_append, bx_size]
    rfl
end Go.Proofs.Ytbimbalfdmffaac
namespace Go.Proofs.Ytbimbalfdmffaac
theorem add_assoc_mod (a b c P : Nat) : ((a + b) % P + c) % P = (a + (b + c) % P) % P := by
  rw [Nat.add_mod ((a + b) % P), Nat.mod_mod, ← Nat.add_mod, Nat.add_mod a ((b + c) % P), Nat.mod_mod, ← Nat.add_mod, Nat.add_assoc]
theorem mul_assoc_mod (a b c P : Nat) : a * b % P * c % P = a * (b * c % P) % P := by
  rw [Nat.mul_mod (a * b % P), Nat.mod_mod, ← Nat.mul_mod, Nat.mul_mod a (b * c % P), Nat.mod_mod, ← Nat.mul_mod, Nat.mul_assoc]
theorem distrib_mod (a b c P : Nat) : a * ((b + c) % P) % P = (a * b % P + a * c % P) % P := by
  rw [Nat.mul_mod, Nat.mod_mod, ← Nat.mul_mod, Nat.mul_add, ← Nat.add_mod]
theorem add_sub_mod {a b P : Nat} (ha : a < P) (hb : b < P) : ((a + b) % P + P - b) % P = a := by
  by_cases h : a + b < P
  · rw [Nat.mod_eq_of_lt h, show a + b + P - b = a + P by omega, Nat.add_mod_right, Nat.mod_eq_of_lt ha]
  · have e : (a + b) % P = a + b - P := by rw [Nat.mod_eq_sub_mod (by omega), Nat.mod_eq_of_lt (by omega)]
    rw [e, show a + b - P + P - b = a by omega, Nat.mod_eq_of_lt ha]
theorem sub_self_mod {a P : Nat} (ha : a < P) : (a + P - a) % P = 0 := by
  rw [show a + P - a = P by omega, Nat.mod_self]
theorem inv_mod {a P : Nat} (h : NT.IsP P) (ha : a < P) (h0 : ¬ a = 0) : a * (a ^ (P - 2) % P) % P = 1 := by
  have h2 := h.1
  rw [Nat.mul_mod, Nat.mod_mod, ← Nat.mul_mod, Nat.mul_comm, ← Nat.pow_succ, show (P - 2).succ = P - 1 by omega]
  exact h.fermat1 a (fun hd => h0 (Nat.eq_zero_of_dvd_of_lt hd ha))
theorem inv_zero_mod {P : Nat} (h : 2 < P) : 0 ^ (P - 2) % P = 0 := by
  rw [Nat.zero_pow (by omega), Nat.zero_mod]
theorem root_mod {a P : Nat} (h : NT.IsP P) (h4 : P % 4 = 3) : (a * a % P) ^ (P / 4 + 1) % P * ((a * a % P) ^ (P / 4 + 1) % P) % P = a * a % P := by
  rw [← Nat.mul_mod, ← Nat.pow_add, ← Nat.pow_mod, ← Nat.pow_two, ← Nat.pow_mul, show 2 * (P / 4 + 1 + (P / 4 + 1)) = P + 1 by omega, Nat.pow_succ, Nat.mul_mod, h.fermat a, ← Nat.mul_mod, Nat.pow_two]
theorem root_is {a R P : Nat} (h : NT.IsP P) (ha : a < P) (hR : R < P) (he : R * R % P = a * a % P) : R = a ∨ R + a = P := by
  have key : ∀ x y : Nat, x < P → y < P → y ≤ x → x * x % P = y * y % P → x = y ∨ x + y = P := by
    intro x y hx hy hxy hxe
    have hd : P ∣ x * x - y * y := by
      refine Nat.dvd_of_mod_eq_zero ?_
      exact Nat.sub_mod_eq_zero_of_mod_eq hxe
    have hf : x * x - y * y = (x - y) * (x + y) := by
      rw [Nat.mul_comm (x - y), Nat.mul_self_sub_mul_self_eq]
    rw [hf] at hd
    rcases h.euclid hd with h1 | h1
    · left
      have := Nat.eq_zero_of_dvd_of_lt h1 (by omega)
      omega
    · obtain ⟨k, hk⟩ := h1
      have : k = 0 ∨ k = 1 ∨ 2 ≤ k := by omega
      rcases this with rfl | rfl | h2
      · left; omega
      · right; omega
      · have := Nat.mul_le_mul_left P h2
        omega
  rcases Nat.le_total a R with h1 | h1
  · exact key R a hR ha h1 he
  · rcases key a R ha hR h1 he.symm with h2 | h2
    · left; exact h2.symm
    · right; omega
end Go.Proofs.Ytbimbalfdmffaac
namespace Go.Proofs.Ytbimbalfdmffaac
open Go.RowKit Go.Sort Go.Deep
theorem w8_be8 (x : Nat) (hx : x < 18446744073709551616) :
    w8 (UInt8.ofNat (x / 72057594037927936)) (UInt8.ofNat (x / 281474976710656)) (UInt8.ofNat (x / 1099511627776)) (UInt8.ofNat (x / 4294967296)) (UInt8.ofNat (x / 16777216)) (UInt8.ofNat (x / 65536)) (UInt8.ofNat (x / 256)) (UInt8.ofNat x) = x := by
  unfold w8
  simp only [UInt8.toNat_ofNat']
  omega
theorem be32_list (a b c d : Nat) : (be32 a b c d).toList = [UInt8.ofNat (d / 72057594037927936), UInt8.ofNat (d / 281474976710656), UInt8.ofNat (d / 1099511627776), UInt8.ofNat (d / 4294967296), UInt8.ofNat (d / 16777216), UInt8.ofNat (d / 65536), UInt8.ofNat (d / 256), UInt8.ofNat d, UInt8.ofNat (c / 72057594037927936), UInt8.ofNat (c / 281474976710656), UInt8.ofNat (c / 1099511627776), UInt8.ofNat (c / 4294967296), UInt8.ofNat (c / 16777216), UInt8.ofNat (c / 65536), UInt8.ofNat (c / 256), UInt8.ofNat c, UInt8.ofNat (b / 72057594037927936), UInt8.ofNat (b / 281474976710656), UInt8.ofNat (b / 1099511627776), UInt8.ofNat (b / 4294967296), UInt8.ofNat (b / 16777216), UInt8.ofNat (b / 65536), UInt8.ofNat (b / 256), UInt8.ofNat b, UInt8.ofNat (a / 72057594037927936), UInt8.ofNat (a / 281474976710656), UInt8.ofNat (a / 1099511627776), UInt8.ofNat (a / 4294967296), UInt8.ofNat (a / 16777216), UInt8.ofNat (a / 65536), UInt8.ofNat (a / 256), UInt8.ofNat a] := by
  simp only [be32, be8, Array.toList_append, List.cons_append, List.nil_append]
theorem val_congr {a b c d p q r s : Nat} (h1 : a = p) (h2 : b = q) (h3 : c = r) (h4 : d = s) : val a b c d = val p q r s := by subst h1 h2 h3 h4; rfl
theorem beV_be32 (a b c d : Nat) (ha : a < 18446744073709551616) (hb : b < 18446744073709551616) (hc : c < 18446744073709551616) (hd : d < 18446744073709551616) : beV (be32 a b c d).toList = val a b c d :=
  (congrArg beV (be32_list a b c d)).trans ((beV_32 _ _ _ _ _ _ _ _ _ _ _ _ _ _ _ _ _ _ _ _ _ _ _ _ _ _ _ _ _ _ _ _).trans (val_congr (w8_be8 a ha) (w8_be8 b hb) (w8_be8 c hc) (w8_be8 d hd)))
theorem bx_val {n : Nat} (hn : n < top) : beV (bx n).toList = n := by
  unfold bx
  rw [beV_be32 _ _ _ _ (by omega) (by omega) (by omega) (by omega)]
  unfold val
  unfold top at hn
  omega
variable {P : Nat} [NeZero P]
theorem rt_of (C : Fld P) {y m : Fin P} (h : y * y = m) : rt m = some (if y.val % 2 = 1 then 0 - y else y) := by
  have hm : y.val * y.val % P = m.val := by rw [← h, Fin.val_mul]
  have h1 := root_mod (a := y.val) C.cur.pr C.p3
  rw [hm] at h1
  unfold rt
  rw [if_pos h1]
  have hP := Nat.pos_of_neZero P
  have hr : m.val ^ (P / 4 + 1) % P < P := Nat.mod_lt _ hP
  generalize m.val ^ (P / 4 + 1) % P = r at h1 hr
  have hy := y.isLt
  have h3 := C.p3
  have hor := root_is C.cur.pr hy hr (h1.trans hm.symm)
  congr 1
  apply Fin.ext
  show even P r % P = _
  unfold even
  have h0 : (0 - y : Fin P).val = (P - y.val) % P := by rw [← sub_fin, EC.val_zero, Nat.zero_add]
  by_cases ho : y.val % 2 = 1
  · rw [if_pos ho, h0]
    rcases hor with e | e
    · rw [e, if_pos ho]
    · rw [if_neg (by omega), show P - y.val = r by omega]
  · rw [if_neg ho]
    rcases hor with e | e
    · rw [e, if_neg ho, Nat.mod_eq_of_lt hy]
    · by_cases hz : y.val = 0
      · omega
      · rw [if_pos (by omega), show P - r = y.val by omega, Nat.mod_eq_of_lt hy]
theorem ub_mark (n : Nat) : ub (mark n) = if n % 2 = 1 then 3 else 2 := by
  unfold mark
  split <;> rfl
theorem tl_mark {m : UInt8} {b : Bs} (h : b.size = 32) : tl33 (#[m] ++ b) = b := by
  unfold tl33
  rw [Array.extract_append]
  have h1 : (#[m] : Bs).extract 1 33 = #[] := by rfl
  rw [h1]
  simp [h]
theorem mark_0 (m : UInt8) (b : Bs) : (#[m] ++ b)[0]! = m := by
  rw [getElem!_pos _ 0 (by rw [Array.size_append]; simp; omega), Array.getElem_append_left (by simp)]
  rfl
theorem rd_of (C : Fld P) {b : Bs} (hs : b.size = 33) {x y : Fin P} (hm : ub b[0]! = if y.val % 2 = 1 then 3 else 2) (hv : beV (tl33 b).toList = x.val) (h : EC.On (some (x, y) : EC.Pt P)) : rd P b = some (x, y) := by
  have hz : ¬ Zero33 b := fun hz => by
    have := hz 0 (List.mem_range.2 (by decide))
    rw [hm] at this
    split at this <;> omega
  have hx : rdx P b = x := by
    unfold rdx
    rw [hv]
    exact Fin.ext (Nat.mod_eq_of_lt x.isLt)
  have hy : y * y = x * x * x + 7 := by
    have : y ^ 2 = x ^ 3 + 7 := h
    grobner
  unfold rd
  rw [if_pos hs, if_neg hz, hm, hv, if_pos x.isLt, hx, rt_of C hy]
  by_cases ho : y.val % 2 = 1
  · rw [if_pos ho, if_pos (Or.inr rfl), if_pos ho, Option.map_some, if_pos rfl]
    have e : 0 - (0 - y) = y := by grobner
    rw [e]
  · rw [if_neg ho, if_pos (Or.inl rfl), if_neg ho, Option.map_some, if_neg (by decide)]
/-- What was written is read. -/
theorem rd_wr (C : Fld P) {X : EC.Pt P} (h : EC.On X) : ∃ p, rd P (wr X) = some p ∧ pt p = X := by
  match X, h with
  | none, _ =>
    refine ⟨(0, 0), ?_, by unfold pt; rw [if_pos ⟨rfl, rfl⟩]⟩
    have h1 : (wr (none : EC.Pt P)).size = 33 := wr_size _
    have h2 : Zero33 (wr (none : EC.Pt P)) := (zero33_iff h1).2 rfl
    generalize wr (none : EC.Pt P) = b at h1 h2
    unfold rd
    rw [if_pos h1, if_pos h2]
  | some (x, y), h =>
    have hs := wr_size (P := P) (some (x, y))
    have hb0 : (wr (some (x, y) : EC.Pt P))[0]! = mark y.val := mark_0 _ _
    have ht : tl33 (wr (some (x, y) : EC.Pt P)) = bx x.val := tl_mark (bx_size _)
    refine ⟨(x, y), rd_of C hs (by rw [hb0, ub_mark]) (by rw [ht, bx_val (C.top x)]) h, by unfold pt; rw [if_neg (fun e => C.cur.y_ne h e.2)]⟩
end Go.Proofs.Ytbimbalfdmffaac
namespace Go.Proofs.Ytbimbalfdmffaac
open Go.RowKit Go.Sort Go.Deep
variable {P : Nat} [NeZero P]
/-- The base. -/
def gxl : List Value := [.int .u64 6481385041966929816, .int .u64 188021827762530521, .int .u64 6170039885052185351, .int .u64 8772561819708210092]
def gyl : List Value := [.int .u64 11261198710074299576, .int .u64 18237243440184513561, .int .u64 6747795201694173352, .int .u64 5204712524664259685]
def gX (P : Nat) [NeZero P] : Fin P := Fin.ofNat P 55066263022277343669578718895168534326250603453777594175500187360389116729240
def gY (P : Nat) [NeZero P] : Fin P := Fin.ofNat P 32670510020758816978083085130507043184471273380659243275938904335757337482424
def gG (P : Nat) [NeZero P] : EC.Pt P := some (gX P, gY P)
theorem Fld.eq (C : Fld P) : P = 115792089237316195423570985008687907853269984665640564039457584007908834671663 := by
  have h := C.gap.hP
  have e : val 4294968273 0 0 0 = 4294968273 := by decide
  rw [e] at h
  unfold Go.Proofs.Ytbimbalfdmffaac.top at h
  omega
theorem gX_val (C : Fld P) : (gX P).val = 55066263022277343669578718895168534326250603453777594175500187360389116729240 := by
  have h := C.eq
  exact Nat.mod_eq_of_lt (by omega)
theorem gY_val (C : Fld P) : (gY P).val = 32670510020758816978083085130507043184471273380659243275938904335757337482424 := by
  have h := C.eq
  exact Nat.mod_eq_of_lt (by omega)
theorem gxl_ws (C : Fld P) : gxl = ws (gX P) := by
  show _ = wn (gX P).val
  rw [gX_val C]
  kernel_rfl
theorem gyl_ws (C : Fld P) : gyl = ws (gY P) := by
  show _ = wn (gY P).val
  rw [gY_val C]
  kernel_rfl
theorem g_eq : 32670510020758816978083085130507043184471273380659243275938904335757337482424 * 32670510020758816978083085130507043184471273380659243275938904335757337482424 % 115792089237316195423570985008687907853269984665640564039457584007908834671663 = (55066263022277343669578718895168534326250603453777594175500187360389116729240 * 55066263022277343669578718895168534326250603453777594175500187360389116729240 * 55066263022277343669578718895168534326250603453777594175500187360389116729240 + 7) % 115792089237316195423570985008687907853269984665640564039457584007908834671663 := by decide +kernel
theorem gG_on (C : Fld P) : EC.On (gG P) := by
  refine on_of (Fin.ext ?_)
  have h7 : (7 : Fin P).val = 7 := Nat.mod_eq_of_lt C.p7
  rw [Fin.val_mul, Fin.val_add, Fin.val_mul, Fin.val_mul, gX_val C, gY_val C, h7]
  have h := C.eq
  rw [h]
set_option maxHeartbeats 2000000 in
set_option maxRecDepth 100000 in
theorem base_v : Gives 15 #[] (.agg (gxl ++ gyl).toArray) := by
  intro w
  go_enter Try.func15, Try.ntmps15
  refine RG.M.enter [] 4 (by kernel_rfl) ?_
  intro a0 M0
  repeat refine wp_seq ?_
  refine M0.tx [.m 0 [] 0] [(0, RG.z 8)] [] [RG.z 8] [(0, .p 0 0)] (by kernel_rfl) (by kernel_rfl) ⟨RG.mk 0 40 fun _ _ => by kernel_rfl, trivial⟩ ?_
  intro j1 a1 w1 M1
  repeat refine wp_seq ?_
  refine M1.tx [.x 1 [] (.agg gxl.toArray), .x 2 [] (.agg gyl.toArray), .x 3 [(1, 0), (2, 1)] (.agg (gxl ++ gyl).toArray), .u [(3, 2)] 0] [] [(0, 3, gxl ++ gyl)] [gxl ++ gyl] [(0, .p 0 0)] (by kernel_rfl) (by kernel_rfl) ⟨RG.st fun _ _ => by kernel_rfl, RG.st fun _ _ => by kernel_rfl, RG.st fun _ _ => by kernel_rfl, RG.pt i109 (by kernel_rfl), trivial⟩ ?_
  intro a2 w2 M2
  refine wp_ret ?_
  refine bodyPost_ret (v := .agg (gxl ++ gyl).toArray) (RG.results_row M2.st 0 40 rfl 0 _ rfl (M2.at (s := .p 0 0) (by kernel_rfl)) u109 i109) M2.sl.defers ?_
  exact ⟨_, rfl, M2.st.bel.below, rfl⟩
theorem base_c (C : Fld P) : Gives 15 #[] (pv (gX P) (gY P)) := by
  unfold pv
  rw [← gxl_ws C, ← gyl_ws C]
  exact base_v
theorem gG_wr (C : Fld P) : by33 (gX P) (gY P) = wr (gG P) := by33_wr C ⟨rfl, rfl⟩ (gG_on C)
set_option maxHeartbeats 1000000 in
theorem Base_c (C : Fld P) (w : World) : Calls Try.prog 5 #[] w (Ret fun e w' => Below w.heap.size w w' ∧ BytesR w (wr (gG P)) e w') := by
  have HC : Hid (Fld P) := C
  clear C
  go_enter Try.func5, Try.ntmps5
  go_wp2_with fail
  refine (base_c HC.out _).mono ?_
  rintro e w1 ⟨v, rfl, hb1, rfl⟩
  go_wp2_with fail
  refine (bytes_c HC.out (gX P) (gY P) _).mono ?_
  rintro e w2 ⟨v, rfl, hb2, g, cap, rfl, h1, h2, h3, h4⟩
  rw [gG_wr HC.out] at h4
  have HB : Hid (Below w.heap.size w w2 ∧ BytesR w (wr (gG P)) (.slice (some ⟨g, 0, none⟩) 33 cap) w2) := ⟨hb1.trans (hb2.mono hb1.size), g, cap, rfl, h1, Nat.le_trans hb1.size h2, h3, h4⟩
  clear hb1 hb2 h1 h2 h3 h4
  go_wp2
  go_ret
  exact ⟨_, rfl, HB.out⟩
end Go.Proofs.Ytbimbalfdmffaac
namespace Go.Proofs.Ytbimbalfdmffaac
open Go.RowKit Go.Sort Go.Deep
theorem run_copy_text {P : Program} (w : World) (dT sT ty elem : TypeId) (b o dLen dCap : Nat) (t : ByteArray)
    (hu : P.underlying dT = some (.slice elem)) (hz : ∀ w, (Go.sizeOf elem).run P w = .ok 1 w)
    (hc : ∀ j, j < dLen → (w.cell? ⟨b, o + j, none⟩).isSome = true) (hf : ∀ j, j < dLen → w.frozen? ⟨b, o + j, none⟩ = false) :
    (Builtin.copy_ #[dT, sT] ty #[.slice (some ⟨b, o, none⟩) dLen dCap, .string t]).run P w = .ok (goInt (Nat.min t.size dLen)) (w.setCells b o ((t.data.toList.map fun x => Value.int .u8 (x.toNat : Int)).take (Nat.min t.size dLen))) := by
  have hl : (t.data.toList.map fun x => Value.int .u8 (x.toNat : Int)).length = t.size := by rw [List.length_map, ← Lib.size_eq]
  have hm : Nat.min t.size dLen ≤ dLen := Nat.min_le_right _ _
  have hst := run_storeCells_cells (P := P) b o ((t.data.toList.map fun x => Value.int .u8 (x.toNat : Int)).take (Nat.min t.size dLen)) 0 w (by
      rw [List.length_take, hl]; intro j hj; simpa using hc j (by omega)) (by
      rw [List.length_take, hl]; intro j hj; simpa using hf j (by omega)) (by
    intro v hv
    obtain ⟨x, _, rfl⟩ := List.mem_map.1 (List.mem_of_mem_take hv)
    rfl)
  simp [Builtin.copy_, run_underlying hu, Builtin.lenOf, Builtin.firstCells, hz]
  rw [hst]
  rfl
/-- A number out of a text, far below the order. -/
def scB (s : ByteArray) : Bs := #[0] ++ s.data.extract 0 31 ++ Array.replicate (31 - s.size) 0
theorem scB_size (s : ByteArray) : (scB s).size = 32 := by
  unfold scB
  have hl : s.data.size = s.size := rfl
  simp only [Array.size_append, Array.size_extract, Array.size_replicate, hl, List.size_toArray, List.length_cons, List.length_nil]
  omega
theorem scB_0 (s : ByteArray) : (scB s)[0]! = 0 := by
  unfold scB
  rw [getElem!_pos _ 0 (by simp; omega), Array.getElem_append_left (by simp; omega), Array.getElem_append_left (by simp)]
  rfl
theorem scB_at (s : ByteArray) (j : Nat) (h1 : j < s.size) (h2 : j < 31) : (scB s)[1 + j]! = s.data[j]'h1 := by
  have hl : s.data.size = s.size := rfl
  unfold scB
  rw [getElem!_pos _ (1 + j) (by simp; omega), Array.getElem_append_left (by simp; omega), Array.getElem_append_right (by simp)]
  simp
theorem scB_end (s : ByteArray) (j : Nat) (h1 : s.size ≤ j) (h2 : j < 31) : (scB s)[1 + j]! = 0 := by
  have hl : s.data.size = s.size := rfl
  unfold scB
  rw [getElem!_pos _ (1 + j) (by simp; omega), Array.getElem_append_right (by simp; omega)]
  simp
theorem beV_lt (l : List UInt8) : beV l < 256 ^ l.length := by
  induction l with
  | nil => decide
  | cons x r ih =>
    have h := beV_append [x] r
    rw [show [x] ++ r = x :: r from rfl] at h
    have hx : beV [x] = x.toNat := by simp [beV]
    have hx2 := x.toNat_lt
    rw [h, hx, List.length_cons, Nat.pow_succ, Nat.mul_comm (256 ^ r.length)]
    have := Nat.mul_le_mul_right (256 ^ r.length) (show x.toNat + 1 ≤ 256 by omega)
    rw [Nat.add_mul, Nat.one_mul] at this
    omega
theorem scB_lt (s : ByteArray) : beV (scB s).toList < 2 ^ 248 := by
  have e : (scB s).toList = [0] ++ (s.data.extract 0 31 ++ Array.replicate (31 - s.size) 0).toList := by
    unfold scB
    simp
  have hl : (s.data.extract 0 31 ++ Array.replicate (31 - s.size) 0).toList.length = 31 := by
    have := scB_size s
    unfold scB at this
    simp only [Array.size_append, List.size_toArray, List.length_cons, List.length_nil] at this
    rw [Array.length_toList, Array.size_append]
    omega
  have h := beV_lt (s.data.extract 0 31 ++ Array.replicate (31 - s.size) 0).toList
  rw [e, beV_append, show beV [0] = 0 from rfl, Nat.zero_mul, Nat.zero_add]
  rw [hl] at h
  exact h
theorem mk32 (w : World) : (Instr.makeSlice 22 (.int .i64 32) (.int .i64 32)).run Try.prog w = .ok (.slice (some ⟨w.heap.size, 0, none⟩) 32 32) (w.alloc (.cells (madeCells #[.int .u8 0] 32) 5)) :=
  run_make_row' (P := Try.prog) 22 5 (.int .u8 0) 1 und23 info5b rfl .i64 .i64 32 (by decide) (by decide) w
set_option maxHeartbeats 1000000 in
theorem scal_c (s : ByteArray) (w : World) : Calls Try.prog 8 #[.string s] w (Ret fun e w' => Below w.heap.size w w' ∧ ∃ g, e = .slice (some ⟨g, 0, none⟩) 32 32 ∧ w.heap.size ≤ g ∧ g < w'.heap.size ∧ Holds encB w' g 0 (scB s)) := by
  have hmk := mk32 w
  have hH0 : Holds encB (w.alloc (.cells (madeCells #[.int .u8 0] 32) 5)) w.heap.size 0 (Array.replicate 32 0) := Holds.made (enc := encB) w 5 32 0
  have hcp := run_copy_text (P := Try.prog) (w.alloc (.cells (madeCells #[.int .u8 0] 32) 5)) 22 9 3 5 w.heap.size 1 31 31 s slice22 size5
    (fun j hj => by have := (hH0 (1 + j) (by rw [Array.size_replicate]; omega)).1; rw [Nat.zero_add] at this; rw [this]; rfl) (fun j hj => by have := (hH0 (1 + j) (by rw [Array.size_replicate]; omega)).2; rwa [Nat.zero_add] at this)
  obtain ⟨vs, hvs⟩ : ∃ vs, vs = (s.data.toList.map fun x => Value.int .u8 (x.toNat : Int)).take (Nat.min s.size 31) := ⟨_, rfl⟩
  have hl : s.data.size = s.size := rfl
  have hlen : vs.length = Nat.min s.size 31 := by rw [hvs, List.length_take, List.length_map, Array.length_toList, hl]; exact Nat.min_eq_left (Nat.min_le_left _ _)
  have hm1 : Nat.min s.size 31 ≤ 31 := Nat.min_le_right _ _
  have hH1 : Holds encB ((w.alloc (.cells (madeCells #[.int .u8 0] 32) 5)).setCells w.heap.size (0 + 1) vs) w.heap.size 0 (scB s) := by
    refine Holds.setCells (o := 0) hH0 vs 1 (by rw [scB_size, Array.size_replicate]) (by rw [Array.size_replicate, hlen]; omega) (fun j hj => ?_) (fun j hj hout => ?_)
    · have hj2 := hj
      rw [hlen] at hj2
      have ha : j < s.size := Nat.lt_of_lt_of_le hj2 (Nat.min_le_left _ _)
      have hb : j < 31 := Nat.lt_of_lt_of_le hj2 hm1
      rw [scB_at s j ha hb]
      subst hvs
      rw [List.getElem_take, List.getElem_map, Array.getElem_toList]
      rfl
    · rw [Array.size_replicate] at hj
      rw [hlen] at hout
      have hr : (Array.replicate 32 (0 : UInt8))[j]! = 0 := by rw [getElem!_pos _ j (by rw [Array.size_replicate]; exact hj), Array.getElem_replicate]
      rw [hr]
      rcases hout with h | h
      · rw [show j = 0 by omega]; exact scB_0 s
      · have e := scB_end s (j - 1) (by
          have : s.size ≤ j - 1 := by
            rcases Nat.le_total s.size 31 with h3 | h3
            · rw [show Nat.min s.size 31 = s.size from Nat.min_eq_left h3] at h; omega
            · rw [show Nat.min s.size 31 = 31 from Nat.min_eq_right h3] at h; omega
          exact this) (by omega)
        rwa [show 1 + (j - 1) = j by omega] at e
  rw [← hvs] at hcp
  rw [Nat.zero_add] at hH1
  have hb1 : Below w.heap.size w ((w.alloc (.cells (madeCells #[.int .u8 0] 32) 5)).setCells w.heap.size 1 vs) := below_setCells (Nat.le_refl _) _ _ _ ((Below.refl _ _).alloc (Nat.le_refl _) _)
  have hsz : w.heap.size < ((w.alloc (.cells (madeCells #[.int .u8 0] 32) 5)).setCells w.heap.size 1 vs).heap.size := by
    have := (below_setCells (B := 0) (b := w.heap.size) (Nat.zero_le _) vs 1 (w.alloc (.cells (madeCells #[.int .u8 0] 32) 5)) (Below.refl 0 _)).size
    rw [World.size_alloc] at this
    omega
  clear hvs hlen hm1
  have HH : Hid (Below w.heap.size w ((w.alloc (.cells (madeCells #[.int .u8 0] 32) 5)).setCells w.heap.size 1 vs) ∧ w.heap.size < ((w.alloc (.cells (madeCells #[.int .u8 0] 32) 5)).setCells w.heap.size 1 vs).heap.size ∧ Holds encB ((w.alloc (.cells (madeCells #[.int .u8 0] 32) 5)).setCells w.heap.size 1 vs) w.heap.size 0 (scB s)) := ⟨hb1, hsz, hH1⟩
  clear hb1 hsz hH1 hH0
  go_enter Try.func8, Try.ntmps8
  go_wp2
  go_ret
  exact ⟨_, rfl, HH.out.1, _, rfl, Nat.le_refl _, HH.out.2.1, HH.out.2.2⟩
end Go.Proofs.Ytbimbalfdmffaac
namespace Go.Proofs.Ytbimbalfdmffaac
open Go.RowKit Go.Sort Go.Deep
variable {P : Nat} [NeZero P]
/-- Points that lie in memory: their blocks, their caps. -/
def Pk (W : World) (l : List (Nat × Nat × EC.Pt P)) : Prop := ∀ x ∈ l, 33 ≤ x.2.1 ∧ x.1 < W.heap.size ∧ EC.On x.2.2 ∧ Holds encB W x.1 0 (wr x.2.2)
theorem Pk.call {W W' : World} {l : List (Nat × Nat × EC.Pt P)} (h : Pk W l) (hb : Below W.heap.size W W') : Pk W' l := fun x hx =>
  ⟨(h x hx).1, Nat.lt_of_lt_of_le (h x hx).2.1 hb.size, (h x hx).2.2.1, Holds.below (h x hx).2.2.2 hb (h x hx).2.1⟩
theorem Pk.only {W W' : World} {l : List (Nat × Nat × EC.Pt P)} {b o n : Nat} (h : Pk W l) (hO : Only b o n W W') (hne : ∀ x ∈ l, x.1 ≠ b) : Pk W' l := fun x hx =>
  ⟨(h x hx).1, Nat.lt_of_lt_of_le (h x hx).2.1 hO.size, (h x hx).2.2.1, Holds.other (h x hx).2.2.2 hO (hne x hx) (by rw [wr_size]; decide)⟩
theorem Pk.cons {W : World} {l : List (Nat × Nat × EC.Pt P)} {g c : Nat} {X : EC.Pt P} (h : Pk W l) (h1 : 33 ≤ c) (h2 : g < W.heap.size) (h3 : EC.On X) (h4 : Holds encB W g 0 (wr X)) : Pk W ((g, c, X) :: l) := fun x hx => by
  rcases List.mem_cons.1 hx with e | e
  · subst e; exact ⟨h1, h2, h3, h4⟩
  · exact h x e
theorem Pk.at {W : World} {l : List (Nat × Nat × EC.Pt P)} (h : Pk W l) (j : Nat) {g c : Nat} {X : EC.Pt P} (hj : l[j]? = some (g, c, X)) : 33 ≤ c ∧ g < W.heap.size ∧ EC.On X ∧ Holds encB W g 0 (wr X) := h _ (List.mem_of_getElem? hj)
theorem arg33_k {W : World} {g c : Nat} {X : EC.Pt P} (h : 33 ≤ c ∧ g < W.heap.size ∧ EC.On X ∧ Holds encB W g 0 (wr X)) : Arg33 W (.slice (some ⟨g, 0, none⟩) 33 c) (wr X) :=
  ⟨_, _, _, rfl, wr_size _, fun _ => ⟨g, 0, rfl, h.1, h.2.1, h.2.2.2⟩⟩
theorem point_k (C : Fld P) {W : World} {g c : Nat} {X : EC.Pt P} (h : 33 ≤ c ∧ g < W.heap.size ∧ EC.On X ∧ Holds encB W g 0 (wr X)) :
    Calls Try.prog 6 #[.slice (some ⟨g, 0, none⟩) 33 c] W (Ret fun e w' => Below W.heap.size W w' ∧ e = .bool true) := by
  obtain ⟨p, hp, -⟩ := rd_wr C h.2.2.1
  have := gPoint_c C _ _ W (arg33_k h)
  rw [hp] at this
  exact this
theorem plus_k (C : Fld P) {W : World} {g c g' c' : Nat} {X Y : EC.Pt P} (h : 33 ≤ c ∧ g < W.heap.size ∧ EC.On X ∧ Holds encB W g 0 (wr X)) (h' : 33 ≤ c' ∧ g' < W.heap.size ∧ EC.On Y ∧ Holds encB W g' 0 (wr Y)) :
    Calls Try.prog 9 #[.slice (some ⟨g, 0, none⟩) 33 c, .slice (some ⟨g', 0, none⟩) 33 c'] W (Ret fun e w' => Below W.heap.size W w' ∧ OutP W (wr (EC.add X Y)) e w') := by
  obtain ⟨p, hp, rfl⟩ := rd_wr C h.2.2.1
  obtain ⟨q, hq, rfl⟩ := rd_wr C h'.2.2.1
  refine (gPlus_c C _ _ _ _ W (arg33_k h) (arg33_k h')).mono ?_
  rintro e w' ⟨v, rfl, hb, hR⟩
  have := hR.q C
  unfold PlusQ at this
  rw [hp, hq] at this
  exact ⟨_, rfl, hb, this⟩
theorem minus_k (C : Fld P) {W : World} {g c : Nat} {X : EC.Pt P} (h : 33 ≤ c ∧ g < W.heap.size ∧ EC.On X ∧ Holds encB W g 0 (wr X)) :
    Calls Try.prog 10 #[.slice (some ⟨g, 0, none⟩) 33 c] W (Ret fun e w' => Below W.heap.size W w' ∧ OutP W (wr (EC.neg X)) e w') := by
  obtain ⟨p, hp, rfl⟩ := rd_wr C h.2.2.1
  refine (gMinus_c C _ _ W (arg33_k h) 0).mono ?_
  rintro e w' ⟨v, rfl, hb, hR⟩
  have := hR.q C
  unfold MinusQ at this
  rw [hp] at this
  exact ⟨_, rfl, hb, this⟩
theorem times_k {N : Nat} (C : Fld P) (hG : Gap 4624529908474429119 4994812053365940164 1 N) (hN : N ≤ top) {W : World} {g c gs : Nat} {X : EC.Pt P} {K : Bs} (hs : K.size = 32) (hk : beV K.toList < N) (hgs : gs < W.heap.size) (hK : Holds encB W gs 0 K) (h : 33 ≤ c ∧ g < W.heap.size ∧ EC.On X ∧ Holds encB W g 0 (wr X)) :
    Calls Try.prog 7 #[.slice (some ⟨gs, 0, none⟩) 32 32, .slice (some ⟨g, 0, none⟩) 33 c] W (Ret fun e w' => Below W.heap.size W w' ∧ OutP W (wr (EC.mul (beV K.toList) X)) e w') := by
  obtain ⟨p, hp, rfl⟩ := rd_wr C h.2.2.1
  refine (gTimes_c C hG hN _ _ K _ W ⟨_, _, _, rfl, hs, fun _ => ⟨gs, 0, rfl, by omega, hgs, hK⟩⟩ (arg33_k h)).mono ?_
  rintro e w' ⟨v, rfl, hb, hR⟩
  have := hR.q C hN
  unfold TimesQ rq at this
  rw [if_pos ⟨hs, hk⟩, hp] at this
  exact ⟨_, rfl, hb, this⟩
theorem order_big {N : Nat} (hG : Gap 4624529908474429119 4994812053365940164 1 N) : 2 ^ 248 < N := by
  have := hG.hP2
  unfold top at this
  omega
theorem beV_cons (x : UInt8) (r : List UInt8) : beV (x :: r) = x.toNat * 256 ^ r.length + beV r := by
  have h := beV_append [x] r
  rw [show [x] ++ r = x :: r from rfl] at h
  rw [h]
  simp [beV]
theorem beV_set : ∀ (l : List UInt8) (i : Nat) (h : i < l.length) (v : UInt8), beV (l.set i v) + (l[i]'h).toNat * 256 ^ (l.length - 1 - i) = beV l + v.toNat * 256 ^ (l.length - 1 - i)
  | x :: r, 0, h, v => by
    rw [List.set_cons_zero, beV_cons, beV_cons, List.getElem_cons_zero, List.length_cons, Nat.add_sub_cancel, Nat.sub_zero]
    omega
  | x :: r, i + 1, h, v => by
    have ih := beV_set r i (by simpa using h) v
    rw [List.set_cons_succ, beV_cons, beV_cons, List.getElem_cons_succ, List.length_set, List.length_cons, show r.length + 1 - 1 - (i + 1) = r.length - 1 - i by omega]
    omega
theorem str_eqL (a : Bs) : ((⟨a⟩ : ByteArray).toList == (⟨a⟩ : ByteArray).toList) = true := by simp
end Go.Proofs.Ytbimbalfdmffaac
namespace Go.Proofs.Ytbimbalfdmffaac
open Go.RowKit Go.Sort Go.Deep
variable {P : Nat} [NeZero P]
theorem g_bytes (C : Fld P) : ub (wr (gG P))[0]! = 2 ∧ ub (wr (gG P))[1]! = 121 := by
  constructor
  · rw [show (wr (gG P))[0]! = mark (gY P).val from mark_0 _ _, ub_mark, gY_val C]
    rfl
  · have e : (wr (gG P))[1]! = (bx (gX P).val)[0]! := by
      show (#[mark (gY P).val] ++ bx (gX P).val)[1]! = _
      have hs := bx_size (gX P).val
      generalize bx (gX P).val = b at hs
      rw [getElem!_pos _ 1 (by rw [Array.size_append, hs]; simp), Array.getElem_append_right (by simp), getElem!_pos b 0 (by rw [hs]; decide)]
      rfl
    rw [e, gX_val C]
    exact (by kernel_rfl : ub (bx 55066263022277343669578718895168534326250603453777594175500187360389116729240)[0]! = 121)
theorem u8_add1 (x : UInt8) : IntKind.u8.wrap (ub x + 1) = ub (x + 1) := by
  have h : ∀ x : Fin 256, IntKind.u8.wrap (((x.val : Nat) : Int) + 1) = (((x.val + 1) % 256 : Nat) : Int) := by decide +kernel
  have h1 := h ⟨x.toNat, x.toNat_lt⟩
  have h2 : (x + 1).toNat = (x.toNat + 1) % 256 := by rw [UInt8.toNat_add]; rfl
  show IntKind.u8.wrap (((x.toNat : Nat) : Int) + 1) = (((x + 1).toNat : Nat) : Int)
  rw [h2]
  exact h1
theorem u8_nat0 {x : UInt8} (h : x.toNat = 255) : (x + 1).toNat = 0 := by rw [UInt8.toNat_add, h]; rfl
theorem u8_zero {x : UInt8} (h : x.toNat = 255) : ub (x + 1) = 0 := by
  show (((x + 1).toNat : Nat) : Int) = 0
  rw [u8_nat0 h]; rfl
theorem u8_succ {x : UInt8} (h : ¬ x.toNat = 255) : (x + 1).toNat = x.toNat + 1 := by
  have := x.toNat_lt
  rw [UInt8.toNat_add, show (1 : UInt8).toNat = 1 from rfl, Nat.mod_eq_of_lt (by omega)]
theorem u8_nonzero {x : UInt8} (h : ¬ x.toNat = 255) : ¬ ub (x + 1) = 0 := by
  show ¬ (((x + 1).toNat : Nat) : Int) = 0
  rw [u8_succ h]; omega
theorem beV_put {bs : Bs} {i : Nat} {x y : UInt8} (hs : bs.size = 32) (hi : i < 32) (hx : x = bs[i]!) : beV (bs.setIfInBounds i y).toList + x.toNat * 256 ^ (31 - i) = beV bs.toList + y.toNat * 256 ^ (31 - i) := by
  have hl : bs.toList.length = 32 := by rw [Array.length_toList]; exact hs
  have h := beV_set bs.toList i (by omega) y
  rw [show bs.toList.length - 1 - i = 31 - i by omega, Array.getElem_toList, ← getElem!_pos bs i (by omega), ← hx] at h
  rw [Array.toList_setIfInBounds]
  exact h
theorem Pk.conv {W : World} {l : List (Nat × Nat × EC.Pt P)} (h : Pk W l) (j : Nat) {g c : Nat} {X : EC.Pt P} (hj : l[j]? = some (g, c, X)) : (convert 22 9 (.slice (some ⟨g, 0, none⟩) 33 c)).run Try.prog W = .ok (.string ⟨wr X⟩) W :=
  conv_str Try.prog 22 9 5 slice22 int5 str9 W g 0 33 c (wr X) (h.at j hj).2.2.2 (wr_size _)
set_option maxHeartbeats 8000000 in
set_option maxRecDepth 100000 in
theorem law_all {N : Nat} (C : Fld P) (hG : Gap 4624529908474429119 4994812053365940164 1 N) (hN : N ≤ top) (a b c : ByteArray) (w0 : World) : Calls Try.prog 3 #[.string a, .string b, .string c] w0 fun e w' => e = .returned (.bool true) ∧ Below w0.heap.size w0 w' := by
  have HC : Hid (Fld P ∧ Gap 4624529908474429119 4994812053365940164 1 N ∧ N ≤ top) := ⟨C, hG, hN⟩
  clear C hG hN
  go_enter Try.func3, Try.ntmps3
  go_wp2_with fail
  refine (Base_c HC.out.1 _).mono ?_
  rintro e w1 ⟨v, rfl, hb, g1, c1, rfl, h1, h2, h3, h4⟩
  have HP : Hid (Pk w1 [(g1, c1, gG P)]) := Pk.cons (fun x hx => absurd hx List.not_mem_nil) h1 h3 (gG_on HC.out.1) h4
  have HB : Hid (Below w0.heap.size w0 w1) := hb
  clear hb h1 h2 h3 h4
  go_wp2_with fail
  refine (point_k HC.out.1 (HP.out.at 0 rfl)).mono ?_
  rintro e w2 ⟨v, rfl, hb, rfl⟩
  replace HP : Hid (Pk w2 [(g1, c1, gG P)]) := HP.out.call hb
  replace HB : Hid (Below w0.heap.size w0 w2) := HB.out.trans (hb.mono HB.out.size)
  clear hb
  have hc0 : w2.cell? ⟨g1, 0, none⟩ = some (.int .u8 2) := by
    rw [← (g_bytes HC.out.1).1]; exact ((HP.out.at 0 rfl).2.2.2 0 (by rw [wr_size]; decide)).1
  have hc1 : w2.cell? ⟨g1, 1, none⟩ = some (.int .u8 121) := by
    rw [← (g_bytes HC.out.1).2]; exact ((HP.out.at 0 rfl).2.2.2 1 (by rw [wr_size]; decide)).1
  have hmk := mk33 w2
  go_wp2_with fail
  clear hc0 hc1 hmk
  obtain ⟨gn, hgn⟩ : ∃ g, g = w2.heap.size := ⟨_, rfl⟩
  obtain ⟨W3, hW3⟩ : ∃ W, W = w2.alloc (.cells (madeCells #[.int .u8 0] 33) 5) := ⟨_, rfl⟩
  have hbw : Below w2.heap.size w2 W3 := by rw [hW3]; exact below1 _ _
  have hlt3 : gn < W3.heap.size := by rw [hW3, World.size_alloc, hgn]; omega
  have hH3 : Holds encB W3 gn 0 (wr (none : EC.Pt P)) := by rw [hW3, hgn]; exact Holds.made (enc := encB) w2 5 33 (0 : UInt8)
  replace HP : Hid (Pk W3 [(gn, 33, none), (g1, c1, gG P)]) := Pk.cons (HP.out.call hbw) (Nat.le_refl _) hlt3 EC.none_on hH3
  replace HB : Hid (Below w0.heap.size w0 W3) := HB.out.trans (hbw.mono HB.out.size)
  rw [← hW3, ← hgn]
  clear hbw hlt3 hH3 hW3 hgn
  go_wp2_with fail
  refine (scal_c a _).mono ?_
  rintro e w3 ⟨v, rfl, hb, gs, rfl, h1, h2, h3⟩
  replace HP : Hid (Pk w3 [(gn, 33, none), (g1, c1, gG P)]) := HP.out.call hb
  replace HB : Hid (Below w0.heap.size w0 w3) := HB.out.trans (hb.mono HB.out.size)
  have HS : Hid (gs < w3.heap.size ∧ Holds encB w3 gs 0 (scB a)) := ⟨h2, h3⟩
  clear hb h1 h2 h3
  go_wp2_with fail
  refine (times_k HC.out.1 HC.out.2.1 HC.out.2.2 (scB_size a) (Nat.lt_trans (scB_lt a) (order_big HC.out.2.1)) HS.out.1 HS.out.2 (HP.out.at 1 rfl)).mono ?_
  rintro e w4 ⟨v, rfl, hb, g4, c4, rfl, h1, h2, h3, h4⟩
  replace HP : Hid (Pk w4 [(g4, c4, EC.mul (beV (scB a).toList) (gG P)), (gn, 33, none), (g1, c1, gG P)]) := Pk.cons (HP.out.call hb) h1 h3 (EC.mul_on HC.out.1.cur (gG_on HC.out.1) _) h4
  replace HB : Hid (Below w0.heap.size w0 w4) := HB.out.trans (hb.mono HB.out.size)
  clear hb h1 h2 h3 h4
  clear HS
  obtain ⟨X, hX⟩ : ∃ p, p = EC.mul (beV (scB a).toList) (gG P) := ⟨_, rfl⟩
  rw [← hX] at HP
  have HX : Hid (X = EC.mul (beV (scB a).toList) (gG P)) := hX
  clear hX
  go_wp2_with fail
  refine (scal_c b _).mono ?_
  rintro e w5 ⟨v, rfl, hb, gs, rfl, h1, h2, h3⟩
  replace HP : Hid (Pk w5 [(g4, c4, X), (gn, 33, none), (g1, c1, gG P)]) := HP.out.call hb
  replace HB : Hid (Below w0.heap.size w0 w5) := HB.out.trans (hb.mono HB.out.size)
  have HS : Hid (gs < w5.heap.size ∧ Holds encB w5 gs 0 (scB b)) := ⟨h2, h3⟩
  clear hb h1 h2 h3
  go_wp2_with fail
  refine (times_k HC.out.1 HC.out.2.1 HC.out.2.2 (scB_size b) (Nat.lt_trans (scB_lt b) (order_big HC.out.2.1)) HS.out.1 HS.out.2 (HP.out.at 2 rfl)).mono ?_
  rintro e w6 ⟨v, rfl, hb, g6, c6, rfl, h1, h2, h3, h4⟩
  replace HP : Hid (Pk w6 [(g6, c6, EC.mul (beV (scB b).toList) (gG P)), (g4, c4, X), (gn, 33, none), (g1, c1, gG P)]) := Pk.cons (HP.out.call hb) h1 h3 (EC.mul_on HC.out.1.cur (gG_on HC.out.1) _) h4
  replace HB : Hid (Below w0.heap.size w0 w6) := HB.out.trans (hb.mono HB.out.size)
  clear hb h1 h2 h3 h4
  clear HS
  obtain ⟨Y, hY⟩ : ∃ p, p = EC.mul (beV (scB b).toList) (gG P) := ⟨_, rfl⟩
  rw [← hY] at HP
  clear hY
  go_wp2_with fail
  refine (scal_c c _).mono ?_
  rintro e w7 ⟨v, rfl, hb, gs, rfl, h1, h2, h3⟩
  replace HP : Hid (Pk w7 [(g6, c6, Y), (g4, c4, X), (gn, 33, none), (g1, c1, gG P)]) := HP.out.call hb
  replace HB : Hid (Below w0.heap.size w0 w7) := HB.out.trans (hb.mono HB.out.size)
  have HS : Hid (gs < w7.heap.size ∧ Holds encB w7 gs 0 (scB c)) := ⟨h2, h3⟩
  clear hb h1 h2 h3
  go_wp2_with fail
  refine (times_k HC.out.1 HC.out.2.1 HC.out.2.2 (scB_size c) (Nat.lt_trans (scB_lt c) (order_big HC.out.2.1)) HS.out.1 HS.out.2 (HP.out.at 3 rfl)).mono ?_
  rintro e w8 ⟨v, rfl, hb, g8, c8, rfl, h1, h2, h3, h4⟩
  replace HP : Hid (Pk w8 [(g8, c8, EC.mul (beV (scB c).toList) (gG P)), (g6, c6, Y), (g4, c4, X), (gn, 33, none), (g1, c1, gG P)]) := Pk.cons (HP.out.call hb) h1 h3 (EC.mul_on HC.out.1.cur (gG_on HC.out.1) _) h4
  replace HB : Hid (Below w0.heap.size w0 w8) := HB.out.trans (hb.mono HB.out.size)
  clear hb h1 h2 h3 h4
  clear HS
  obtain ⟨Z, hZ⟩ : ∃ p, p = EC.mul (beV (scB c).toList) (gG P) := ⟨_, rfl⟩
  rw [← hZ] at HP
  clear hZ
  go_wp2_with fail
  refine (plus_k HC.out.1 (HP.out.at 2 rfl) (HP.out.at 1 rfl)).mono ?_
  rintro e w9 ⟨v, rfl, hb, g9, c9, rfl, h1, h2, h3, h4⟩
  replace HP : Hid (Pk w9 [(g9, c9, EC.add X Y), (g8, c8, Z), (g6, c6, Y), (g4, c4, X), (gn, 33, none), (g1, c1, gG P)]) := Pk.cons (HP.out.call hb) h1 h3 (HC.out.1.cur.on (HP.out.at 2 rfl).2.2.1 (HP.out.at 1 rfl).2.2.1) h4
  replace HB : Hid (Below w0.heap.size w0 w9) := HB.out.trans (hb.mono HB.out.size)
  clear hb h1 h2 h3 h4
  go_wp2_with fail
  refine (plus_k HC.out.1 (HP.out.at 2 rfl) (HP.out.at 3 rfl)).mono ?_
  rintro e w10 ⟨v, rfl, hb, g10, c10, rfl, h1, h2, h3, h4⟩
  rw [HC.out.1.cur.comm (HP.out.at 2 rfl).2.2.1 (HP.out.at 3 rfl).2.2.1] at h4
  replace HP : Hid (Pk w10 [(g10, c10, EC.add X Y), (g9, c9, EC.add X Y), (g8, c8, Z), (g6, c6, Y), (g4, c4, X), (gn, 33, none), (g1, c1, gG P)]) := Pk.cons (HP.out.call hb) h1 h3 (HC.out.1.cur.on (HP.out.at 3 rfl).2.2.1 (HP.out.at 2 rfl).2.2.1) h4
  replace HB : Hid (Below w0.heap.size w0 w10) := HB.out.trans (hb.mono HB.out.size)
  clear hb h1 h2 h3 h4
  go_wp2_with fail
  refine (plus_k HC.out.1 (HP.out.at 3 rfl) (HP.out.at 2 rfl)).mono ?_
  rintro e w11 ⟨v, rfl, hb, g11, c11, rfl, h1, h2, h3, h4⟩
  replace HP : Hid (Pk w11 [(g11, c11, EC.add Y Z), (g10, c10, EC.add X Y), (g9, c9, EC.add X Y), (g8, c8, Z), (g6, c6, Y), (g4, c4, X), (gn, 33, none), (g1, c1, gG P)]) := Pk.cons (HP.out.call hb) h1 h3 (HC.out.1.cur.on (HP.out.at 3 rfl).2.2.1 (HP.out.at 2 rfl).2.2.1) h4
  replace HB : Hid (Below w0.heap.size w0 w11) := HB.out.trans (hb.mono HB.out.size)
  clear hb h1 h2 h3 h4
  go_wp2_with fail
  refine (plus_k HC.out.1 (HP.out.at 2 rfl) (HP.out.at 3 rfl)).mono ?_
  rintro e w12 ⟨v, rfl, hb, g12, c12, rfl, h1, h2, h3, h4⟩
  replace HP : Hid (Pk w12 [(g12, c12, EC.add (EC.add X Y) Z), (g11, c11, EC.add Y Z), (g10, c10, EC.add X Y), (g9, c9, EC.add X Y), (g8, c8, Z), (g6, c6, Y), (g4, c4, X), (gn, 33, none), (g1, c1, gG P)]) := Pk.cons (HP.out.call hb) h1 h3 (HC.out.1.cur.on (HP.out.at 2 rfl).2.2.1 (HP.out.at 3 rfl).2.2.1) h4
  replace HB : Hid (Below w0.heap.size w0 w12) := HB.out.trans (hb.mono HB.out.size)
  clear hb h1 h2 h3 h4
  go_wp2_with fail
  refine (plus_k HC.out.1 (HP.out.at 6 rfl) (HP.out.at 1 rfl)).mono ?_
  rintro e w13 ⟨v, rfl, hb, g13, c13, rfl, h1, h2, h3, h4⟩
  rw [← HC.out.1.cur.assoc (HP.out.at 6 rfl).2.2.1 (HP.out.at 5 rfl).2.2.1 (HP.out.at 4 rfl).2.2.1] at h4
  replace HP : Hid (Pk w13 [(g13, c13, EC.add (EC.add X Y) Z), (g12, c12, EC.add (EC.add X Y) Z), (g11, c11, EC.add Y Z), (g10, c10, EC.add X Y), (g9, c9, EC.add X Y), (g8, c8, Z), (g6, c6, Y), (g4, c4, X), (gn, 33, none), (g1, c1, gG P)]) := Pk.cons (HP.out.call hb) h1 h3 (HC.out.1.cur.on (HC.out.1.cur.on (HP.out.at 6 rfl).2.2.1 (HP.out.at 5 rfl).2.2.1) (HP.out.at 4 rfl).2.2.1) h4
  replace HB : Hid (Below w0.heap.size w0 w13) := HB.out.trans (hb.mono HB.out.size)
  clear hb h1 h2 h3 h4
  go_wp2_with fail
  refine (plus_k HC.out.1 (HP.out.at 7 rfl) (HP.out.at 8 rfl)).mono ?_
  rintro e w14 ⟨v, rfl, hb, g14, c14, rfl, h1, h2, h3, h4⟩
  rw [EC.add_none] at h4
  replace HP : Hid (Pk w14 [(g14, c14, X), (g13, c13, EC.add (EC.add X Y) Z), (g12, c12, EC.add (EC.add X Y) Z), (g11, c11, EC.add Y Z), (g10, c10, EC.add X Y), (g9, c9, EC.add X Y), (g8, c8, Z), (g6, c6, Y), (g4, c4, X), (gn, 33, none), (g1, c1, gG P)]) := Pk.cons (HP.out.call hb) h1 h3 ((HP.out.at 7 rfl).2.2.1) h4
  replace HB : Hid (Below w0.heap.size w0 w14) := HB.out.trans (hb.mono HB.out.size)
  clear hb h1 h2 h3 h4
  go_wp2_with fail
  refine (minus_k HC.out.1 (HP.out.at 8 rfl)).mono ?_
  rintro e w15 ⟨v, rfl, hb, g15, c15, rfl, h1, h2, h3, h4⟩
  replace HP : Hid (Pk w15 [(g15, c15, EC.neg X), (g14, c14, X), (g13, c13, EC.add (EC.add X Y) Z), (g12, c12, EC.add (EC.add X Y) Z), (g11, c11, EC.add Y Z), (g10, c10, EC.add X Y), (g9, c9, EC.add X Y), (g8, c8, Z), (g6, c6, Y), (g4, c4, X), (gn, 33, none), (g1, c1, gG P)]) := Pk.cons (HP.out.call hb) h1 h3 (EC.neg_on (HP.out.at 8 rfl).2.2.1) h4
  replace HB : Hid (Below w0.heap.size w0 w15) := HB.out.trans (hb.mono HB.out.size)
  clear hb h1 h2 h3 h4
  go_wp2_with fail
  refine (plus_k HC.out.1 (HP.out.at 9 rfl) (HP.out.at 0 rfl)).mono ?_
  rintro e w16 ⟨v, rfl, hb, g16, c16, rfl, h1, h2, h3, h4⟩
  rw [EC.add_neg] at h4
  replace HP : Hid (Pk w16 [(g16, c16, none), (g15, c15, EC.neg X), (g14, c14, X), (g13, c13, EC.add (EC.add X Y) Z), (g12, c12, EC.add (EC.add X Y) Z), (g11, c11, EC.add Y Z), (g10, c10, EC.add X Y), (g9, c9, EC.add X Y), (g8, c8, Z), (g6, c6, Y), (g4, c4, X), (gn, 33, none), (g1, c1, gG P)]) := Pk.cons (HP.out.call hb) h1 h3 (EC.none_on) h4
  replace HB : Hid (Below w0.heap.size w0 w16) := HB.out.trans (hb.mono HB.out.size)
  clear hb h1 h2 h3 h4
  have kxy := HP.out.conv 7 rfl
  have kyx := HP.out.conv 6 rfl
  have kl := HP.out.conv 4 rfl
  have kr := HP.out.conv 3 rfl
  have ko := HP.out.conv 2 rfl
  have kx := HP.out.conv 10 rfl
  have kn := HP.out.conv 0 rfl
  have kz := HP.out.conv 11 rfl
  obtain ⟨T1, hT1⟩ : ∃ t, t = wr (EC.add X Y) := ⟨_, rfl⟩
  obtain ⟨T2, hT2⟩ : ∃ t, t = wr (EC.add (EC.add X Y) Z) := ⟨_, rfl⟩
  obtain ⟨T3, hT3⟩ : ∃ t, t = wr X := ⟨_, rfl⟩
  obtain ⟨T4, hT4⟩ : ∃ t, t = wr (none : EC.Pt P) := ⟨_, rfl⟩
  rw [← hT1] at kxy kyx
  clear hT1
  rw [← hT2] at kl kr
  clear hT2
  rw [← hT3] at ko kx
  clear hT3
  rw [← hT4] at kn kz
  clear hT4
  have eT1 := str_eqL T1
  have eT2 := str_eqL T2
  have eT3 := str_eqL T3
  have eT4 := str_eqL T4
  go_wp2_with fail
  refine (scal_c a _).mono ?_
  rintro e w17 ⟨v, rfl, hb, gK, rfl, h1, h2, h3⟩
  have HLE : Hid (w0.heap.size ≤ gK) := Nat.le_trans HB.out.size h1
  have HNE : Hid (∀ x ∈ [(g16, c16, none), (g15, c15, EC.neg X), (g14, c14, X), (g13, c13, EC.add (EC.add X Y) Z), (g12, c12, EC.add (EC.add X Y) Z), (g11, c11, EC.add Y Z), (g10, c10, EC.add X Y), (g9, c9, EC.add X Y), (g8, c8, Z), (g6, c6, Y), (g4, c4, X), (gn, 33, none), (g1, c1, gG P)], x.1 ≠ gK) := fun x hx e => by have h5 := (HP.out x hx).2.1; rw [e] at h5; exact absurd h1 (by omega)
  replace HP : Hid (Pk w17 [(g16, c16, none), (g15, c15, EC.neg X), (g14, c14, X), (g13, c13, EC.add (EC.add X Y) Z), (g12, c12, EC.add (EC.add X Y) Z), (g11, c11, EC.add Y Z), (g10, c10, EC.add X Y), (g9, c9, EC.add X Y), (g8, c8, Z), (g6, c6, Y), (g4, c4, X), (gn, 33, none), (g1, c1, gG P)]) := HP.out.call hb
  replace HB : Hid (Below w0.heap.size w0 w17) := HB.out.trans (hb.mono HB.out.size)
  have HS : Hid (gK < w17.heap.size ∧ Holds encB w17 gK 0 (scB a)) := ⟨h2, h3⟩
  clear hb h1 h2 h3
  clear kxy kyx kl kr ko kx kn kz eT1 eT2 eT3 eT4
  obtain ⟨n, hn⟩ : ∃ n, n = beV (scB a).toList := ⟨_, rfl⟩
  have HN : Hid (n = beV (scB a).toList ∧ n < 2 ^ 248 ∧ gK < w17.heap.size) := ⟨hn, by rw [hn]; exact scB_lt a, HS.out.1⟩
  have hK0 : Holds encB w17 gK 0 (scB a) := HS.out.2
  clear HS hn
  go_wp2_with fail
  go_loopg [33] 32 (fun gk s33 wr => ∃ (i : Nat) (bs : Bs), i + 1 = gk ∧ s33 = .int .i64 (i : Int) ∧ Holds encB wr gK 0 bs ∧ Only gK 0 32 w17 wr ∧ Hid (i ≤ 31 ∧ bs.size = 32 ∧ bs[0]! = 0 ∧ beV bs.toList + 256 ^ (31 - i) = n + 1))
  case atStart => exact ⟨31, scB a, rfl, rfl, hK0, Only.refl _ _ _ _, Nat.le_refl _, scB_size a, scB_0 a, by rw [← HN.out.1]⟩
  case round =>
    obtain ⟨i, bs, hi, rfl, hB, hO, HI⟩ := hrel
    obtain ⟨hc, hf⟩ := hB i (by rw [HI.out.2.1]; have := HI.out.1; omega)
    rw [Nat.zero_add] at hc hf
    obtain ⟨x, hx⟩ : ∃ x, x = bs[i]! := ⟨_, rfl⟩
    have HX2 : Hid (x = bs[i]!) := hx
    have hc2 : wr.cell? ⟨gK, i, none⟩ = some (.int .u8 (ub x)) := by rw [hx]; exact hc
    have hi0 : ¬ (i : Int) < 0 := by omega
    have hi1 : (i : Int) < 32 := by have := HI.out.1; omega
    have hset := Holds.set hB (i := i) (by rw [HI.out.2.1]; have := HI.out.1; omega) (x + 1)
    rw [Nat.zero_add] at hset
    have hO2 := hO.setCell (o := i) (Nat.zero_le _) (by have := HI.out.1; omega) (.int .u8 (ub (x + 1)))
    have HH : Hid (Holds encB (wr.setCell ⟨gK, i, none⟩ (.int .u8 (ub (x + 1)))) gK 0 (bs.setIfInBounds i (x + 1)) ∧ Only gK 0 32 w17 (wr.setCell ⟨gK, i, none⟩ (.int .u8 (ub (x + 1))))) := ⟨hset, hO2⟩
    have hw : IntKind.u8.wrap (ub x + 1) = ub (x + 1) := u8_add1 x
    have HV : Hid (beV (bs.setIfInBounds i (x + 1)).toList + x.toNat * 256 ^ (31 - i) = beV bs.toList + (x + 1).toNat * 256 ^ (31 - i)) := beV_put HI.out.2.1 (by have := HI.out.1; omega) HX2.out
    clear hc hx hset hO2 hB hO
    by_cases h255 : x.toNat = 255
    · have hy : ub (x + 1) = 0 := u8_zero h255
      have hi2 : ¬ i = 0 := fun e => by
        have h5 := HX2.out
        rw [e, HI.out.2.2.1] at h5
        rw [h5] at h255
        exact absurd h255 (by decide)
      obtain ⟨i', rfl⟩ : ∃ i', i = i' + 1 := ⟨i - 1, by omega⟩
      have hsub : IntKind.i64.wrap (((i' + 1 : Nat) : Int) - 1) = (i' : Int) := by rw [show ((i' + 1 : Nat) : Int) - 1 = (i' : Int) by omega]; exact IntWalk.i64_in _ (by omega)
      rw [hy] at hw HH
      have hy2 := hy
      clear hy
      go_wp2
      go_roundg (gk - 1)
      case measure => omega
      case rel =>
        refine ⟨i', bs.setIfInBounds (i' + 1) (x + 1), by omega, rfl, HH.out.1, HH.out.2, by have := HI.out.1; omega, by rw [Array.size_setIfInBounds]; exact HI.out.2.1, ?_, ?_⟩
        · rw [getElem!_pos _ 0 (by rw [Array.size_setIfInBounds, HI.out.2.1]; decide), Array.getElem_setIfInBounds_ne (by rw [HI.out.2.1]; decide) (by omega), ← getElem!_pos bs 0 (by rw [HI.out.2.1]; decide)]
          exact HI.out.2.2.1
        · have h1 := HV.out
          have h2 := HI.out.2.2.2
          have h0 : (x + 1).toNat = 0 := u8_nat0 h255
          rw [h255, h0, Nat.zero_mul, Nat.add_zero] at h1
          rw [show 31 - i' = 31 - (i' + 1) + 1 by have := HI.out.1; omega, Nat.pow_succ]
          omega
    · have hy : ¬ ub (x + 1) = 0 := u8_nonzero h255
      have hK : beV (bs.setIfInBounds i (x + 1)).toList = n + 1 := by
        have h1 := HV.out
        have h2 := HI.out.2.2.2
        have h0 : (x + 1).toNat = x.toNat + 1 := u8_succ h255
        rw [h0, Nat.add_mul, Nat.one_mul] at h1
        omega
      have HK : Hid (beV (bs.setIfInBounds i (x + 1)).toList = n + 1 ∧ (bs.setIfInBounds i (x + 1)).size = 32) := ⟨hK, by rw [Array.size_setIfInBounds]; exact HI.out.2.1⟩
      clear hK
      obtain ⟨W5, hW5⟩ : ∃ W, W = wr.setCell ⟨gK, i, none⟩ (.int .u8 (ub (x + 1))) := ⟨_, rfl⟩
      go_wp2_with fail
      rw [← hW5]
      rw [← hW5] at HH
      obtain ⟨K, hKe⟩ : ∃ K, K = bs.setIfInBounds i (x + 1) := ⟨_, rfl⟩
      rw [← hKe] at HH HK
      have HP5 : Hid (Pk W5 [(g16, c16, none), (g15, c15, EC.neg X), (g14, c14, X), (g13, c13, EC.add (EC.add X Y) Z), (g12, c12, EC.add (EC.add X Y) Z), (g11, c11, EC.add Y Z), (g10, c10, EC.add X Y), (g9, c9, EC.add X Y), (g8, c8, Z), (g6, c6, Y), (g4, c4, X), (gn, 33, none), (g1, c1, gG P)]) := HP.out.only HH.out.2 HNE.out
      have HB5 : Hid (Below w0.heap.size w0 W5) := HB.out.trans (HH.out.2.below HB.out.size HLE.out)
      have HS5 : Hid (gK < W5.heap.size ∧ Holds encB W5 gK 0 K) := ⟨Nat.lt_of_lt_of_le HN.out.2.2 HH.out.2.size, HH.out.1⟩
      clear hW5 hKe HH HI HX2 HV hy hw h255 hc2 hi0 hi1 hf hi
      have HKN : Hid (beV K.toList < N) := by have h5 := order_big HC.out.2.1; have h6 := HK.out.1; have h7 := HN.out.2.1; show beV K.toList < N; omega
      refine (times_k HC.out.1 HC.out.2.1 HC.out.2.2 HK.out.2 HKN.out HS5.out.1 HS5.out.2 (HP5.out.at 12 rfl)).mono ?_
      rintro e w30 ⟨v, rfl, hb, g30, c30, rfl, h1, h2, h3, h4⟩
      have HP6 : Hid (Pk w30 [(g30, c30, EC.mul (beV K.toList) (gG P)), (g16, c16, none), (g15, c15, EC.neg X), (g14, c14, X), (g13, c13, EC.add (EC.add X Y) Z), (g12, c12, EC.add (EC.add X Y) Z), (g11, c11, EC.add Y Z), (g10, c10, EC.add X Y), (g9, c9, EC.add X Y), (g8, c8, Z), (g6, c6, Y), (g4, c4, X), (gn, 33, none), (g1, c1, gG P)]) := Pk.cons (HP5.out.call hb) h1 h3 (EC.mul_on HC.out.1.cur (gG_on HC.out.1) _) h4
      have HB6 : Hid (Below w0.heap.size w0 w30) := HB5.out.trans (hb.mono HB5.out.size)
      clear hb h1 h2 h3 h4
      go_wp2_with fail
      refine (plus_k HC.out.1 (HP6.out.at 11 rfl) (HP6.out.at 13 rfl)).mono ?_
      rintro e w31 ⟨v, rfl, hb, g31, c31, rfl, h1, h2, h3, h4⟩
      have HP7 : Hid (Pk w31 [(g31, c31, EC.add X (gG P)), (g30, c30, EC.mul (beV K.toList) (gG P)), (g16, c16, none), (g15, c15, EC.neg X), (g14, c14, X), (g13, c13, EC.add (EC.add X Y) Z), (g12, c12, EC.add (EC.add X Y) Z), (g11, c11, EC.add Y Z), (g10, c10, EC.add X Y), (g9, c9, EC.add X Y), (g8, c8, Z), (g6, c6, Y), (g4, c4, X), (gn, 33, none), (g1, c1, gG P)]) := Pk.cons (HP6.out.call hb) h1 h3 (HC.out.1.cur.on (HP6.out.at 11 rfl).2.2.1 (gG_on HC.out.1)) h4
      have HB7 : Hid (Below w0.heap.size w0 w31) := HB6.out.trans (hb.mono HB6.out.size)
      clear hb h1 h2 h3 h4
      have hEQ : EC.add X (gG P) = EC.mul (beV K.toList) (gG P) := by rw [HX.out, HK.out.1, HN.out.1]; rfl
      have kp := HP7.out.conv 1 rfl
      have kq := HP7.out.conv 0 rfl
      rw [hEQ] at kq
      obtain ⟨T5, hT5⟩ : ∃ t, t = Go.Proofs.Ytbimbalfdmffaac.wr (EC.mul (beV K.toList) (gG P)) := ⟨_, rfl⟩
      rw [← hT5] at kp kq
      clear hT5 hEQ
      have eT5 := str_eqL T5
      go_wp2
      go_ret
      exact ⟨by simp, HB7.out⟩
end Go.Proofs.Ytbimbalfdmffaac
namespace Go.Proofs.Ytbimbalfdmffaac
open Go.RowKit Go.Sort Go.Deep
theorem fld : ∃ (P : Nat) (_ : NeZero P), Fld P := by
  obtain ⟨P, hz, hP, hc⟩ := EC.cur
  have h0 : P = Go.Proofs.Ytbimbalfdmffaac.p0 := by rw [hP]; decide +kernel
  have hg := gap0
  have h2 : 2 ≤ Go.Proofs.Ytbimbalfdmffaac.p0 % 18446744073709551616 := by decide +kernel
  have h4 : Go.Proofs.Ytbimbalfdmffaac.p0 / 4 % 18446744073709551616 < 18446744073709551615 := by decide +kernel
  have h3 : Go.Proofs.Ytbimbalfdmffaac.p0 % 4 = 3 := by decide +kernel
  have h7 : 7 < Go.Proofs.Ytbimbalfdmffaac.p0 := by decide +kernel
  rw [← h0] at hg h2 h4 h3 h7
  exact ⟨P, hz, ⟨hg, hc, h2, h4, h3, h7⟩⟩
theorem p1_top : Go.Proofs.Ytbimbalfdmffaac.p1 ≤ top := by decide +kernel
end Go.Proofs.Ytbimbalfdmffaac
/-
  THE ROW OF 'GroupLaw' round its walk; the frame by the guide's program (howto/shells), the world behind the call told by 'Below'.
-/
namespace Go.Proofs.Ytbimbalfdmffaac.groupLaw
open Go.ChangeShapes Go.WideShapes Go.ChangeAt Go.RowKit
open Go.ChangeMaps (open_string shut_string)
theorem own : ownKnob Try.prog.godebug = none := by kernel_rfl
set_option maxRecDepth 100000 in
theorem lifted (os : Os) (started : os.Started) (H : Type) (enc : TypeId × Value → H) :
    ReturnsInHanded {} Try.checked os 3 .any (Rows.groupLawSpec.pre6 enc Try.prog Try.f3 Rows.groupLawRow.domain false) (Rows.groupLawSpec.post enc Try.prog Try.f3 false true false false) := by
  refine returnsInHanded_of_change (C := Try.checked) own started (by kernel_rfl) Try.func3
    (ChangeSpec.witness6 (enc := enc) (C := Try.checked) false ⟨#[], #[.string ByteArray.empty, .string ByteArray.empty, .string ByteArray.empty], []⟩ 8 (by kernel_rfl) (by kernel_rfl) (by kernel_rfl) (by kernel_rfl)) ?_
  intro W base args ds gs before hval0 hW hcnd _
  have hval : ∀ (j : Nat) t v, Try.f3.params[j]? = some t → args[j]? = some v → Value.okWide Try.prog W .any base t v := hval0
  have hW' := hW
  obtain ⟨p, q, hA0, hV, rfl, hfz, hnd⟩ := hW
  have hA : DataW.TrodAll enc Try.prog W 0 (fun _ => true) true Try.f3.params.toList args.toList ds p := hA0
  rw [Try.params3] at hA hval
  obtain ⟨v0, vs0, d0, ds0, p0, q0, hargs, rfl, rfl, h0, r0⟩ := trodAll_cons hA
  obtain ⟨v1, vs1, d1, ds1, p1, q1, rfl, rfl, rfl, h1, r1⟩ := trodAll_cons r0
  obtain ⟨v2, vs2, d2, ds2, p2, q2, rfl, rfl, rfl, h2, r2⟩ := trodAll_cons r1
  obtain ⟨rfl, rfl, rfl⟩ := trodAll_nil r2
  obtain rfl : args = #[v0, v1, v2] := by cases args; simp_all
  obtain ⟨rfl, rfl⟩ := trodVars_none hV
  obtain ⟨a0, rfl, rfl, rfl, w0⟩ := open_string Try.underlying9 (hval 0 9 v0 rfl rfl) h0
  obtain ⟨a1, rfl, rfl, rfl, w1⟩ := open_string Try.underlying9 (hval 1 9 v1 rfl rfl) h1
  obtain ⟨a2, rfl, rfl, rfl, w2⟩ := open_string Try.underlying9 (hval 2 9 v2 rfl rfl) h2
  clear hA0 hval0
  obtain ⟨P, hz, C⟩ := fld
  refine (law_all C gap1 p1_top a0 a1 a2 W).mono fun e W' ⟨he, bel⟩ => ?_
  subst he
  exact ⟨_, rfl, _, _, _, [], _, [], hW', (trodAll_cons_mk (shut_bool Try.underlying4 _) trodAll_mk0), (trodAll_cons_mk (shut_string Try.underlying9 w0) (trodAll_cons_mk (shut_string Try.underlying9 w1) (trodAll_cons_mk (shut_string Try.underlying9 w2) trodAll_mk0))), rfl, bel.frame _, fun h => by cases h⟩
theorem over : Rows.groupLawRow.holds Try.pinned (OpenSpec.ofChange Rows.groupLawSpec) :=
  OpenClaim.holds_of_wide 3 Try.f3 rfl rfl rfl rfl rfl rfl rfl ⟨rfl, rfl, rfl, rfl, rfl⟩ rfl rfl rfl rfl rfl (by kernel_rfl) Try.func3 (by kernel_rfl)
    (of_decide_eq_true (by kernel_rfl)) (by unfold Func.isWrapper; first | (rw [if_pos (by decide +kernel)]; kernel_rfl) | (rw [if_neg (by decide +kernel)]; exact ⟨rfl, rfl⟩))
    (fun os started H enc _ => lifted os started H enc)
theorem proved : Rows.GroupLawSaid :=
  over
end Go.Proofs.Ytbimbalfdmffaac.groupLaw
namespace Go.Proofs.Ytbimbalfdmffaac
/-- THE STATEMENT. -/
theorem groupLaw_holds : Rows.GroupLawSaid := groupLaw.proved
#print axioms groupLaw_holds
end Go.Proofs.Ytbimbalfdmffaac
