import Derived.Test.YtfclmmkgmhlbbaaR1
namespace Go.Proofs.Ytfclmmkgmhlbbaa
open Go.RowKit Go.Sort Go.Deep
attribute [local go_sem] bits_xor64 bits_and64 bits_or64 wrap_u

theorem place_uint (j : Nat) (hj : j < 7) : min (IntKind.u64.wrap (IntKind.u64.wrap ((2 : Int) ^ j) - 1)).toNat 64 = 2 ^ j - 1 := by
  have H : ∀ j : Fin 7, min (IntKind.u64.wrap (IntKind.u64.wrap ((2 : Int) ^ j.val) - 1)).toNat 64 = 2 ^ j.val - 1 := by decide +kernel
  exact H ⟨j, hj⟩

set_option maxHeartbeats 1000000 in
theorem constant_any (r : Nat) (w : World) (hr : r < 24) :
    Calls Try.prog 30 #[.int .i64 (r : Int)] w fun e w' => e = .returned (.int .u64 (u (conL r))) ∧ w' = w := by
  go_enter Try.func30, Try.ntmps30
  go_wp2
  go_loop [3, 4] (fun s3 s4 => ∃ (j : Nat) (c : BitVec 64), j ≤ 7 ∧ s4 = .int .i64 j ∧ s3 = .int .u64 (u c) ∧ Hid (conTo r j = c)) (fun _ s4 => 7 - (intOf s4).toNat)
  case atStart => exact ⟨0, 0, by omega, rfl, rfl, rfl⟩
  case round =>
    obtain ⟨j, c, hj, rfl, rfl, HE⟩ := hrel
    by_cases hlt : j < 7
    · have hj6 : (j : Int) ≤ 6 := by omega
      go_wp2_with fail
      rw [show (j : Int) + 7 * (r : Int) = ((j + 7 * r : Nat) : Int) from by omega]
      refine (bit_any (j + 7 * r) _ (by omega)).mono ?_
      rintro e w' ⟨rfl, rfl⟩
      go_wp2
      go_round
      case rel =>
        refine ⟨j + 1, conTo r (j + 1), by omega, by go_num, ?_, rfl⟩
        rw [place_uint j hlt, shl64, bits_or64]
        show _ = Value.int .u64 (u (conTo r j ||| bitL (j + 7 * r) <<< (2 ^ j - 1)))
        rw [HE.out]
      case measure => simp [intOf]; omega
    · have hj6 : ¬ (j : Int) ≤ 6 := by omega
      have hj7 : j = 7 := by omega
      subst hj7
      go_wp2
      go_ret
      unfold conL
      rw [HE.out]
      exact ⟨rfl, rfl⟩

theorem slice62 : Try.prog.underlying 62 = some (.slice 3) := by kernel_rfl
theorem info3 : (Try.prog.info? 3).map (fun i => (i.zero, i.size, i.bytes)) = some (some (.int .i64 0), 1, 8) := by kernel_rfl

theorem at_int {w : World} {b off : Nat} {d : Array Nat} (h : Holds encI w b off d) (i : Nat) (hi : i < d.size) {x : Nat} (hx : d[i]! = x) :
    w.cell? ⟨b, off + i, none⟩ = some (.int .i64 (x : Int)) ∧ w.frozen? ⟨b, off + i, none⟩ = false := by
  rw [← hx]; exact h i hi

theorem offs_int' (t : Nat) (h : t < 24) : (wrap64 ((wrap64 (((t : Int) + 1) * ((t : Int) + 2))).tdiv 2)).tmod 64 = (offs t : Int) := by
  have H : ∀ j : Fin 24, (wrap64 ((wrap64 (((j.val : Int) + 1) * ((j.val : Int) + 2))).tdiv 2)).tmod 64 = (offs j.val : Int) := by decide +kernel
  exact H ⟨t, h⟩

set_option maxHeartbeats 1000000 in
set_option maxRecDepth 100000 in
theorem offsets_any (w : World) :
    Calls Try.prog 28 #[] w fun e w' => e = .returned (.slice (some ⟨w.heap.size, 0, none⟩) 25 25) ∧ Below w.heap.size w w' ∧ Holds encI w' w.heap.size 0 offsetsL := by
  have hmk : ∀ w : World, (Instr.makeSlice 62 (.int .i64 25) (.int .i64 25)).run Try.prog w = .ok (.slice (some ⟨w.heap.size, 0, none⟩) 25 25) (w.alloc (.cells (madeCells #[.int .i64 0] 25) 3)) :=
    run_make_row' (P := Try.prog) 62 3 (.int .i64 0) 8 slice62 info3 rfl .i64 .i64 25 (by omega) (by omega)
  go_enter Try.func28, Try.ntmps28
  go_wp2
  generalize hW1 : (w.alloc _) = W1
  go_loopg [2, 3, 4] 24 (fun g sx sy st wr => ∃ t T, t + g = 24 ∧ st = .int .i64 (t : Nat) ∧ sx = .int .i64 (T.x : Nat) ∧ sy = .int .i64 (T.y : Nat) ∧ Holds encI wr w.heap.size 0 T.o ∧ Only w.heap.size 0 25 W1 wr ∧ Hid (T = ofTo t))
  case atStart =>
    refine ⟨0, ofTo 0, rfl, rfl, rfl, rfl, ?_, Only.refl _ _ _ _, rfl⟩
    rw [← hW1]
    exact Holds.made (enc := encI) w 3 25 0
  case round =>
    obtain ⟨t, ⟨x, y, o⟩, ht, rfl, rfl, rfl, hD, hO, HE⟩ := hrel
    have hok := ofTo_ok t
    rw [← HE.out] at hok
    obtain ⟨hx, hy, hs⟩ := hok
    dsimp only at hx hy hs hD
    by_cases hlt : t < 24
    · obtain ⟨i, hi⟩ : ∃ i, x % 5 + 5 * (y % 5) = i := ⟨_, rfl⟩
      have hib : i < 25 := by omega
      obtain ⟨c, f⟩ := hD i (by omega)
      rw [Nat.zero_add] at c f
      have Hi : Hid (x % 5 + 5 * (y % 5) = i) := hi
      have l24 : (t : Int) < 24 := by omega
      clear hi
      go_wp2_with fail
      refine (place_any (x : Int) (y : Int) i _ (by omega) (by omega) (by have := Hi.out; omega)).mono ?_
      rintro e w' ⟨rfl, rfl⟩
      have hoff := offs_int' t hlt
      have i25 : (i : Int) < 25 := by omega
      go_wp2
      go_roundg (gk - 1)
      case measure => omega
      case rel =>
        refine ⟨t + 1, ⟨y, (2 * x + 3 * y) % 5, o.setIfInBounds i (offs t)⟩, by omega, by go_num, rfl, by go_num, ?_, ?_, ?_⟩
        · have := Holds.set hD (i := i) (by omega) (offs t)
          rw [Nat.zero_add] at this
          exact this
        · exact hO.setCell (o := i) (by omega) (by omega) _
        · show _ = (Of.mk (ofTo t).y ((2 * (ofTo t).x + 3 * (ofTo t).y) % 5) ((ofTo t).o.setIfInBounds ((ofTo t).x % 5 + 5 * ((ofTo t).y % 5)) (offs t)))
          rw [← HE.out]
          dsimp only
          rw [Hi.out]
    · have ht24 : t = 24 := by omega
      subst ht24
      go_wp2
      go_ret
      refine ⟨rfl, ?_, ?_⟩
      · rw [← hW1] at hO
        exact hO.fresh
      · unfold offsetsL
        rw [← HE.out]
        exact hD
end Go.Proofs.Ytfclmmkgmhlbbaa
