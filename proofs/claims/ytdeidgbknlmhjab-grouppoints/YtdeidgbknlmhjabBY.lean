import Derived.Test.YtdeidgbknlmhjabCW
import Derived.Test.YtdeidgbknlmhjabH1
import Derived.Deep.AppendSrc
import Derived.Lib.AppendZeros
namespace Go.Proofs.Ytdeidgbknlmhjab
open Go.RowKit Go.Sort Go.Deep
variable {P : Nat} [NeZero P]

/-- A number's 32 bytes. -/
def bx (n : Nat) : Bs := be32 (n % 18446744073709551616) (n / 18446744073709551616 % 18446744073709551616) (n / 340282366920938463463374607431768211456 % 18446744073709551616) (n / 6277101735386680763835789423207666416102355444464034512896 % 18446744073709551616)
theorem bx_size (n : Nat) : (bx n).size = 32 := by unfold bx; exact be32_size _ _ _ _
def mark (n : Nat) : UInt8 := if n % 2 = 1 then 3 else 2
/-- A point's 33 bytes. -/
def by33 (x y : Fin P) : Bs := if x = 0 ∧ y = 0 then Array.replicate 33 0 else #[mark y.val] ++ bx x.val
theorem Bytes_c (C : Fld P) (x : Fin P) (w : World) : Calls Try.prog 51 #[fv x] w (Ret fun e w' => Below w.heap.size w w' ∧ ∃ g, e = .slice (some ⟨g, 0, none⟩) 32 32 ∧ w.heap.size ≤ g ∧ Holds encB w' g 0 (bx x.val)) :=
  (Bytes_any _ _ w (C.four x)).mono (by
    rintro e w' ⟨v, rfl, hb, g, a, b, c, d, rfl, hg, he, hH⟩
    refine ⟨_, rfl, hb, g, rfl, hg, ?_⟩
    have h2 : fv x = .agg #[.int .u64 ((x.val % 18446744073709551616 : Nat) : Int), .int .u64 ((x.val / 18446744073709551616 % 18446744073709551616 : Nat) : Int), .int .u64 ((x.val / 340282366920938463463374607431768211456 % 18446744073709551616 : Nat) : Int), .int .u64 ((x.val / 6277101735386680763835789423207666416102355444464034512896 % 18446744073709551616 : Nat) : Int)] := rfl
    rw [h2] at he
    simp only [Value.agg.injEq, Array.mk.injEq, List.cons.injEq, Value.int.injEq, true_and, and_true, Int.ofNat_inj] at he
    obtain ⟨rfl, rfl, rfl, rfl⟩ := he
    exact hH)
theorem Odd_c (C : Fld P) (y : Fin P) : Gives 96 #[fv y] (.bool (decide (y.val % 2 = 1))) := fun w =>
  (Odd_any _ _ (C.four y) w).mono (by rintro e w' ⟨v, rfl, hb, rfl⟩; exact ⟨_, rfl, hb, rfl⟩)
theorem info5b : (Try.prog.info? 5).map (fun i => (i.zero, i.size, i.bytes)) = some (some (.int .u8 0), 1, 1) := by kernel_rfl
theorem und23 : Try.prog.underlying 23 = some (.slice 5) := by kernel_rfl

/-- What bytes answers. -/
def BytesR (w : World) (T : Bs) (e : Value) (w' : World) : Prop := ∃ g cap, e = .slice (some ⟨g, 0, none⟩) 33 cap ∧ 33 ≤ cap ∧ w.heap.size ≤ g ∧ g < w'.heap.size ∧ Holds encB w' g 0 T
theorem mk33 (w : World) : (Instr.makeSlice 23 (.int .i64 33) (.int .i64 33)).run Try.prog w = .ok (.slice (some ⟨w.heap.size, 0, none⟩) 33 33) (w.alloc (.cells (madeCells #[.int .u8 0] 33) 5)) :=
  run_make_row' (P := Try.prog) 23 5 (.int .u8 0) 1 und23 info5b rfl .i64 .i64 33 (by decide) (by decide) w
theorem made33 (w : World) (o : Obj) : Holds encB ((w.alloc o).alloc (.cells (madeCells #[.int .u8 0] 33) 5)) (w.heap.size + 1) 0 (Array.replicate 33 0) := by
  have h := Holds.made (enc := encB) (w.alloc o) 5 33 (0 : UInt8)
  rw [World.size_alloc] at h
  exact h
omit [NeZero P] in
theorem pv_words (x y : Fin P) : pv x y = .agg #[.int .u64 ((x.val % 18446744073709551616 : Nat) : Int), .int .u64 ((x.val / 18446744073709551616 % 18446744073709551616 : Nat) : Int), .int .u64 ((x.val / 340282366920938463463374607431768211456 % 18446744073709551616 : Nat) : Int), .int .u64 ((x.val / 6277101735386680763835789423207666416102355444464034512896 % 18446744073709551616 : Nat) : Int), .int .u64 ((y.val % 18446744073709551616 : Nat) : Int), .int .u64 ((y.val / 18446744073709551616 % 18446744073709551616 : Nat) : Int), .int .u64 ((y.val / 340282366920938463463374607431768211456 % 18446744073709551616 : Nat) : Int), .int .u64 ((y.val / 6277101735386680763835789423207666416102355444464034512896 % 18446744073709551616 : Nat) : Int)] := rfl

set_option maxHeartbeats 2000000 in
set_option maxRecDepth 100000 in
theorem bytes_zero (C : Fld P) (x y : Fin P) (hz : x = 0 ∧ y = 0) (w : World) : Calls Try.prog 76 #[pv x y] w (Ret fun e w' => Below w.heap.size w w' ∧ BytesR w (Array.replicate 33 0) e w') := by
  have heq := eqPt_t C (x := x) (y := y) (z := 0) (t := 0) hz
  rw [← zero_pv, pv_words] at heq
  rw [pv_words]
  generalize ((x.val % 18446744073709551616 : Nat) : Int) = a at heq ⊢
  generalize ((x.val / 18446744073709551616 % 18446744073709551616 : Nat) : Int) = b at heq ⊢
  generalize ((x.val / 340282366920938463463374607431768211456 % 18446744073709551616 : Nat) : Int) = c at heq ⊢
  generalize ((x.val / 6277101735386680763835789423207666416102355444464034512896 % 18446744073709551616 : Nat) : Int) = d at heq ⊢
  generalize ((y.val % 18446744073709551616 : Nat) : Int) = p at heq ⊢
  generalize ((y.val / 18446744073709551616 % 18446744073709551616 : Nat) : Int) = q at heq ⊢
  generalize ((y.val / 340282366920938463463374607431768211456 % 18446744073709551616 : Nat) : Int) = r at heq ⊢
  generalize ((y.val / 6277101735386680763835789423207666416102355444464034512896 % 18446744073709551616 : Nat) : Int) = s at heq ⊢
  have hmk := mk33
  generalize hT : (Array.replicate 33 0 : Bs) = T
  go_enter Try.func76, Try.ntmps76
  go_wp2
  go_ret
  have hM := made33 w (.cells #[.int .u64 a, .int .u64 b, .int .u64 c, .int .u64 d, .int .u64 p, .int .u64 q, .int .u64 r, .int .u64 s] 109)
  rw [hT] at hM
  exact ⟨_, rfl, below2 _ _ _, _, 33, rfl, by omega, by omega, by simp, hM⟩
theorem grow33 (w : World) (k g m : Nat) (B : Bs) (hB : B.size = 32) (hc : w.cell? ⟨k, 0, none⟩ = some (.int .u8 (m : Int))) (hH : Holds encB w g 0 B) (hm : m < 256 := by decide) :
    ∃ (w' : World) (cap : Nat), (Builtin.append_ #[23, 23] 23 #[.slice (some ⟨k, 0, none⟩) 1 1, .slice (some ⟨g, 0, none⟩) 32 32]).run Try.prog w = .ok (.slice (some ⟨w.heap.size, 0, none⟩) 33 cap) w' ∧ Below w.heap.size w w' ∧ 33 ≤ cap ∧ w.heap.size < w'.heap.size ∧ Holds encB w' w.heap.size 0 (#[UInt8.ofNat m] ++ B) := by
  obtain ⟨i, hi, hzz⟩ := Option.map_eq_some_iff.1 info5b
  simp only [Prod.mk.injEq] at hzz
  obtain ⟨hz, hs, hb⟩ := hzz
  have hap := run_append_grow (P := Try.prog) w 23 23 5 i (.int .u8 0) und23 hi hz ⟨k, 0, none⟩ 1 1 [.int .u8 (m : Int)] (by rw [hs]; rfl) (fun j v hj => by
      cases j with
      | zero =>
        obtain rfl : Value.int .u8 (m : Int) = v := by simpa using hj
        rw [Addr.add_mid]
        exact hc
      | succ j => simp at hj) ⟨g, 0, none⟩ 32 32 (B.toList.map encB) (by rw [hs, List.length_map, Array.length_toList, hB]) (fun j v hj => by
      have hj' : j < B.size := by
        have := (List.getElem?_eq_some_iff.1 hj).1
        rwa [List.length_map, Array.length_toList] at this
      rw [Addr.add_mid, (hH j hj').1]
      rw [List.getElem?_map, Array.getElem?_toList, Array.getElem?_eq_getElem hj'] at hj
      rw [getElem!_pos B j hj']
      exact hj) (by decide) (by decide) (by rw [hb]; decide)
  refine ⟨_, _, hap, ?_, ?_, ?_, ?_⟩
  · exact (Below.refl _ w).drew.trans (below1 w.drew _)
  · exact grownCap_ge w (1 + 32) 1 5
  · show w.drew.heap.size < (w.drew.alloc _).heap.size
    rw [World.size_alloc]
    exact Nat.lt_succ_self _
  · intro j hj
    have hsz : (#[UInt8.ofNat m] ++ B).size = 33 := by rw [Array.size_append, hB]; rfl
    have hj' : j < 33 := by rw [← hsz]; exact hj
    refine ⟨?_, World.frozen?_alloc_new w.drew _ _ _⟩
    show (w.drew.alloc _).cell? ⟨w.drew.heap.size, 0 + j, none⟩ = _
    rw [Nat.zero_add, World.cell?_alloc_new, getElem!_pos _ j hj, Array.getElem?_append_left (by
      rw [Array.size_append, List.size_toArray, List.size_toArray, List.length_map, Array.length_toList]
      show j < 1 + B.size
      omega)]
    cases j with
    | zero =>
      rw [Array.getElem?_append_left (by simp), Array.getElem_append_left (by simp)]
      show some (Value.int .u8 (m : Int)) = some (encB (UInt8.ofNat m))
      unfold encB
      rw [ub_ofNat, Nat.mod_eq_of_lt hm]
    | succ i =>
      rw [Array.getElem?_append_right (by simp), Array.getElem_append_right (by simp), List.getElem?_toArray, List.getElem?_map, Array.getElem?_toList]
      show Option.map encB B[i]? = some (encB B[i])
      rw [Array.getElem?_eq_getElem (by omega)]
      rfl
theorem keptP (w : World) (a b c d p q r s : Nat) : Kept w w.heap.size [⟨w.heap.size, 0, a, b, c, d⟩, ⟨w.heap.size, 4, p, q, r, s⟩] (w.alloc (.cells #[.int .u64 (a : Int), .int .u64 (b : Int), .int .u64 (c : Int), .int .u64 (d : Int), .int .u64 (p : Int), .int .u64 (q : Int), .int .u64 (r : Int), .int .u64 (s : Int)] 109)) := by
  have F := At8.made w 109 a b c d p q r s rfl
  refine ((Kept.mk1 (below1 w _) (below1 w _).size).cons ?_).cons ?_
  · exact ⟨F.c4, F.c5, F.c6, F.c7, F.fz⟩
  · exact ⟨F.c0, F.c1, F.c2, F.c3, F.fz⟩

set_option maxHeartbeats 4000000 in
set_option maxRecDepth 100000 in
theorem bytes_odd (C : Fld P) (x y : Fin P) (hz : ¬ (x = 0 ∧ y = 0)) (ho : y.val % 2 = 1) (w : World) : Calls Try.prog 76 #[pv x y] w (Ret fun e w' => Below w.heap.size w w' ∧ BytesR w (#[3] ++ bx x.val) e w') := by
  have heq := eqPt_f C (x := x) (y := y) (z := 0) (t := 0) hz
  rw [← zero_pv, pv_words] at heq
  rw [pv_words]
  have hO : ∀ w, Calls Try.prog 96 #[.agg #[.int .u64 ((y.val % 18446744073709551616 : Nat) : Int), .int .u64 ((y.val / 18446744073709551616 % 18446744073709551616 : Nat) : Int), .int .u64 ((y.val / 340282366920938463463374607431768211456 % 18446744073709551616 : Nat) : Int), .int .u64 ((y.val / 6277101735386680763835789423207666416102355444464034512896 % 18446744073709551616 : Nat) : Int)]] w (Ret fun e w' => Below w.heap.size w w' ∧ e = .bool true) := fun w => by
    have h := Odd_c C y w
    rw [decide_eq_true ho] at h
    exact h
  have hBy : ∀ w, Calls Try.prog 51 #[.agg #[.int .u64 ((x.val % 18446744073709551616 : Nat) : Int), .int .u64 ((x.val / 18446744073709551616 % 18446744073709551616 : Nat) : Int), .int .u64 ((x.val / 340282366920938463463374607431768211456 % 18446744073709551616 : Nat) : Int), .int .u64 ((x.val / 6277101735386680763835789423207666416102355444464034512896 % 18446744073709551616 : Nat) : Int)]] w (Ret fun e w' => Below w.heap.size w w' ∧ ∃ g, e = .slice (some ⟨g, 0, none⟩) 32 32 ∧ w.heap.size ≤ g ∧ Holds encB w' g 0 (bx x.val)) := Bytes_c C x
  have hbs := bx_size x.val
  generalize bx x.val = B at hBy hbs ⊢
  generalize x.val % 18446744073709551616 = a at heq hO hBy ⊢
  generalize x.val / 18446744073709551616 % 18446744073709551616 = b at heq hO hBy ⊢
  generalize x.val / 340282366920938463463374607431768211456 % 18446744073709551616 = c at heq hO hBy ⊢
  generalize x.val / 6277101735386680763835789423207666416102355444464034512896 % 18446744073709551616 = d at heq hO hBy ⊢
  generalize y.val % 18446744073709551616 = p at heq hO hBy ⊢
  generalize y.val / 18446744073709551616 % 18446744073709551616 = q at heq hO hBy ⊢
  generalize y.val / 340282366920938463463374607431768211456 % 18446744073709551616 = r at heq hO hBy ⊢
  generalize y.val / 6277101735386680763835789423207666416102355444464034512896 % 18446744073709551616 = s at heq hO hBy ⊢
  have HQ : Hid (∀ w, (binOp .eql 109 _ _).run Try.prog w = _) := heq
  go_enter Try.func76, Try.ntmps76
  go_wp2_with fail
  have KP := keptP w a b c d p q r s
  clear heq
  generalize World.alloc _ _ = W0 at KP ⊢
  generalize hk : w.heap.size = k0 at KP ⊢
  refine (hO _).mono ?_
  rintro e w1 ⟨v, rfl, hb1, rfl⟩
  replace KP := KP.call hb1
  clear hb1 HQ hO
  obtain ⟨xc0, xc1, xc2, xc3, xf⟩ := KP.head
  have zx := KP.head.lt
  go_wp2_with fail
  refine (hBy _).mono ?_
  rintro e w2 ⟨v, rfl, hb2, g, rfl, hg, hH⟩
  have hc : w2.cell? ⟨w1.heap.size, 0, none⟩ = some (.int .u8 3) := by
    rw [hb2.cell (p := ⟨w1.heap.size, 0, none⟩) (by show w1.heap.size < _; rw [World.size_alloc]; omega), World.cell?_alloc_new]
    rfl
  have hle : k0 ≤ w2.heap.size := Nat.le_trans KP.le (Nat.le_trans (by rw [World.size_alloc]; omega) hb2.size)
  have hbl : Hid (Below k0 w w2) := ((KP.alloc _).call hb2).bl
  clear KP hb2 xc0 xc1 xc2 xc3 xf zx hg
  obtain ⟨W3, cp, hap, hb3, hcp, hsz3, hH3⟩ := grow33 w2 w1.heap.size g 3 B hbs hc hH
  generalize w1.heap.size = km at hap ⊢
  go_wp2_with (at_builtin; refine Lib.wpList_append_run _ rfl _ _ 23 23 rfl _ _ rfl rfl _ _ hap ?_)
  go_ret
  refine ⟨_, rfl, ?_, _, cp, rfl, hcp, ?_, hsz3, hH3⟩
  · rw [hk]; exact hbl.out.trans (hb3.mono hle)
  · rw [hk]; exact hle

set_option maxHeartbeats 4000000 in
set_option maxRecDepth 100000 in
theorem bytes_even (C : Fld P) (x y : Fin P) (hz : ¬ (x = 0 ∧ y = 0)) (ho : ¬ y.val % 2 = 1) (w : World) : Calls Try.prog 76 #[pv x y] w (Ret fun e w' => Below w.heap.size w w' ∧ BytesR w (#[2] ++ bx x.val) e w') := by
  have heq := eqPt_f C (x := x) (y := y) (z := 0) (t := 0) hz
  rw [← zero_pv, pv_words] at heq
  rw [pv_words]
  have hO : ∀ w, Calls Try.prog 96 #[.agg #[.int .u64 ((y.val % 18446744073709551616 : Nat) : Int), .int .u64 ((y.val / 18446744073709551616 % 18446744073709551616 : Nat) : Int), .int .u64 ((y.val / 340282366920938463463374607431768211456 % 18446744073709551616 : Nat) : Int), .int .u64 ((y.val / 6277101735386680763835789423207666416102355444464034512896 % 18446744073709551616 : Nat) : Int)]] w (Ret fun e w' => Below w.heap.size w w' ∧ e = .bool false) := fun w => by
    have h := Odd_c C y w
    rw [decide_eq_false ho] at h
    exact h
  have hBy : ∀ w, Calls Try.prog 51 #[.agg #[.int .u64 ((x.val % 18446744073709551616 : Nat) : Int), .int .u64 ((x.val / 18446744073709551616 % 18446744073709551616 : Nat) : Int), .int .u64 ((x.val / 340282366920938463463374607431768211456 % 18446744073709551616 : Nat) : Int), .int .u64 ((x.val / 6277101735386680763835789423207666416102355444464034512896 % 18446744073709551616 : Nat) : Int)]] w (Ret fun e w' => Below w.heap.size w w' ∧ ∃ g, e = .slice (some ⟨g, 0, none⟩) 32 32 ∧ w.heap.size ≤ g ∧ Holds encB w' g 0 (bx x.val)) := Bytes_c C x
  have hbs := bx_size x.val
  generalize bx x.val = B at hBy hbs ⊢
  generalize x.val % 18446744073709551616 = a at heq hO hBy ⊢
  generalize x.val / 18446744073709551616 % 18446744073709551616 = b at heq hO hBy ⊢
  generalize x.val / 340282366920938463463374607431768211456 % 18446744073709551616 = c at heq hO hBy ⊢
  generalize x.val / 6277101735386680763835789423207666416102355444464034512896 % 18446744073709551616 = d at heq hO hBy ⊢
  generalize y.val % 18446744073709551616 = p at heq hO hBy ⊢
  generalize y.val / 18446744073709551616 % 18446744073709551616 = q at heq hO hBy ⊢
  generalize y.val / 340282366920938463463374607431768211456 % 18446744073709551616 = r at heq hO hBy ⊢
  generalize y.val / 6277101735386680763835789423207666416102355444464034512896 % 18446744073709551616 = s at heq hO hBy ⊢
  have HQ : Hid (∀ w, (binOp .eql 109 _ _).run Try.prog w = _) := heq
  go_enter Try.func76, Try.ntmps76
  go_wp2_with fail
  have KP := keptP w a b c d p q r s
  clear heq
  generalize World.alloc _ _ = W0 at KP ⊢
  generalize hk : w.heap.size = k0 at KP ⊢
  refine (hO _).mono ?_
  rintro e w1 ⟨v, rfl, hb1, rfl⟩
  replace KP := KP.call hb1
  clear hb1 HQ hO
  obtain ⟨xc0, xc1, xc2, xc3, xf⟩ := KP.head
  have zx := KP.head.lt
  go_wp2_with fail
  refine (hBy _).mono ?_
  rintro e w2 ⟨v, rfl, hb2, g, rfl, hg, hH⟩
  have hc : w2.cell? ⟨w1.heap.size, 0, none⟩ = some (.int .u8 2) := by
    rw [hb2.cell (p := ⟨w1.heap.size, 0, none⟩) (by show w1.heap.size < _; rw [World.size_alloc]; omega), World.cell?_alloc_new]
    rfl
  have hle : k0 ≤ w2.heap.size := Nat.le_trans KP.le (Nat.le_trans (by rw [World.size_alloc]; omega) hb2.size)
  have hbl : Hid (Below k0 w w2) := ((KP.alloc _).call hb2).bl
  clear KP hb2 xc0 xc1 xc2 xc3 xf zx hg
  obtain ⟨W3, cp, hap, hb3, hcp, hsz3, hH3⟩ := grow33 w2 w1.heap.size g 2 B hbs hc hH
  generalize w1.heap.size = km at hap ⊢
  go_wp2_with (at_builtin; refine Lib.wpList_append_run _ rfl _ _ 23 23 rfl _ _ rfl rfl _ _ hap ?_)
  go_ret
  refine ⟨_, rfl, ?_, _, cp, rfl, hcp, ?_, hsz3, hH3⟩
  · rw [hk]; exact hbl.out.trans (hb3.mono hle)
  · rw [hk]; exact hle

theorem bytes_c (C : Fld P) (x y : Fin P) (w : World) : Calls Try.prog 76 #[pv x y] w (Ret fun e w' => Below w.heap.size w w' ∧ BytesR w (by33 x y) e w') := by
  unfold by33 mark
  by_cases hz : x = 0 ∧ y = 0
  · rw [if_pos hz]
    exact bytes_zero C x y hz w
  · rw [if_neg hz]
    by_cases ho : y.val % 2 = 1
    · rw [if_pos ho]
      exact bytes_odd C x y hz ho w
    · rw [if_neg ho]
      exact bytes_even C x y hz ho w
end Go.Proofs.Ytdeidgbknlmhjab
