import Derived.Test.YtfclmmkgmhlbbaaW6
import Derived.Test.YtfclmmkgmhlbbaaL
namespace Go.Proofs.Ytfclmmkgmhlbbaa
open Go.RowKit Go.Sort Go.Deep

theorem int5 : Try.prog.underlying 5 = some (.int .u8) := by kernel_rfl
theorem str9 : Try.prog.underlying 9 = some .string := by kernel_rfl
theorem size5 : ∀ w, (Go.sizeOf 5).run Try.prog w = .ok 1 w := size_of5 Try.prog 5 (by kernel_rfl)

theorem lent_step (s : ByteArray) (k : Nat) : lentTo s (k + 1) = (lentTo s k).setIfInBounds (s.size + k) (fill (s.size + k)) := rfl

set_option maxHeartbeats 1000000 in
set_option maxRecDepth 100000 in
theorem Lent_any (s : ByteArray) (w : World) (hs : s.size ≤ 16384) :
    Calls Try.prog 8 #[.string s] w fun e w' => e = .returned (.slice (some ⟨w.heap.size, 0, none⟩) (s.size + 160) (s.size + 160)) ∧ Below w.heap.size w w' ∧ Holds encB w' w.heap.size 0 (lent s) := by
  obtain ⟨n, hn⟩ : ∃ n, s.size + 160 = n := ⟨_, rfl⟩
  have hmk := run_make_row' (P := Try.prog) 22 5 (.int .u8 0) 1 slice22 info5 rfl .i64 .i64 n (by omega) (by omega)
  rw [← hn, show ((s.size + 160 : Nat) : Int) = (s.size : Int) + 160 from by omega, hn] at hmk
  have hH0 : Holds encB (w.alloc (.cells (madeCells #[.int .u8 0] n) 5)) w.heap.size 0 (Array.replicate n 0) := Holds.made (enc := encB) w 5 n 0
  have hcp := run_copy_string (P := Try.prog) (w.alloc (.cells (madeCells #[.int .u8 0] n) 5)) 22 9 3 5 w.heap.size 0 n n s slice22 size5 (by omega)
    (fun j hj => by rw [(hH0 j (by rw [Array.size_replicate]; omega)).1]; rfl) (fun j hj => (hH0 j (by rw [Array.size_replicate]; omega)).2)
  have hH1 : Holds encB ((w.alloc (.cells (madeCells #[.int .u8 0] n) 5)).setCells w.heap.size 0 (s.data.toList.map fun x => Value.int .u8 (x.toNat : Int))) w.heap.size 0 (lentTo s 0) := by
    exact holds_lent0 s n hn hH0
  have hb1 : Below w.heap.size w ((w.alloc (.cells (madeCells #[.int .u8 0] n) 5)).setCells w.heap.size 0 (s.data.toList.map fun x => Value.int .u8 (x.toNat : Int))) :=
    below_setCells (Nat.le_refl _) _ _ _ ((Below.refl _ _).alloc (Nat.le_refl _) _)
  have hsz : w.heap.size < ((w.alloc (.cells (madeCells #[.int .u8 0] n) 5)).setCells w.heap.size 0 (s.data.toList.map fun x => Value.int .u8 (x.toNat : Int))).heap.size := by
    have := (below_setCells (B := 0) (b := w.heap.size) (Nat.zero_le _) (s.data.toList.map fun x => Value.int .u8 (x.toNat : Int)) 0 (w.alloc (.cells (madeCells #[.int .u8 0] n) 5)) (Below.refl 0 _)).size
    rw [World.size_alloc] at this
    omega
  go_enter Try.func8, Try.ntmps8
  go_wp2
  generalize World.setCells _ _ _ _ = W2 at hH1 hb1 hsz ⊢
  clear hmk hcp hH0
  have n160 : (n : Int) = (s.size : Int) + 160 := by omega
  have Hn : Hid (s.size + 160 = n) := hn
  have hnb : n ≤ 16544 := by omega
  have hsn : s.size ≤ n := by omega
  clear hn n160
  go_loopg [4] 160 (fun g s4 wr => ∃ (k : Nat) (bs : Bs), k + g = 160 ∧ s4 = .int .i64 ((s.size + k : Nat) : Int) ∧ Holds encB wr w.heap.size 0 bs ∧ Only w.heap.size 0 n W2 wr ∧ Hid (bs = lentTo s k))
  case atStart => exact ⟨0, _, rfl, rfl, hH1, Only.refl _ _ _ _, rfl⟩
  case round =>
    obtain ⟨k, bs, hk, rfl, hB, hO, HE⟩ := hrel
    have hbs : bs.size = n := by rw [HE.out, lentTo_size]; exact Hn.out
    obtain ⟨i, hi⟩ : ∃ i, s.size + k = i := ⟨_, rfl⟩
    have Hi : Hid (s.size + k = i) := hi
    rw [hi]
    clear hi
    by_cases hlt : k < 160
    · have hin : i < n := by have := Hi.out; have := Hn.out; omega
      obtain ⟨c0, f0⟩ := hB i (by omega)
      rw [Nat.zero_add] at c0 f0
      have hin' : (i : Int) < (n : Int) := by omega
      have hf := fill_int i
      go_wp2
      go_roundg (gk - 1)
      case measure => omega
      case rel =>
        refine ⟨k + 1, bs.setIfInBounds i (fill i), by omega, ?_, ?_, ?_, ?_⟩
        · rw [← Hi.out]; go_num
        · have := Holds.set hB (i := i) (by omega) (fill i)
          rw [Nat.zero_add] at this
          exact this
        · exact hO.setCell (o := i) (by omega) (by omega) _
        · show _ = lentTo s (k + 1)
          rw [lent_step, Hi.out, HE.out]
    · have hin : (n : Int) ≤ (i : Int) := by have := Hi.out; have := Hn.out; omega
      have hk0 : k = 160 := by omega
      go_wp2
      go_ret
      refine ⟨?_, hb1.trans (hO.below (by omega) (Nat.le_refl _)), ?_⟩
      · rw [Hn.out]; rfl
      · unfold lent
        rw [HE.out, hk0] at hB
        exact hB

set_option maxHeartbeats 1000000 in
set_option maxRecDepth 100000 in
theorem Still_any (b : Nat) (bs : Bs) (s : ByteArray) (w : World) (hs : s.size ≤ 16384) (hB : Holds encB w b 0 bs) (hbs : bs = lent s) :
    Calls Try.prog 10 #[.slice (some ⟨b, 0, none⟩) (s.size + 160) (s.size + 160), .string s] w fun e w' => e = .returned (.bool true) ∧ Below w.heap.size w w' := by
  have hb := Holds.lt hB (by rw [hbs, lent_size]; omega)
  go_enter Try.func10, Try.ntmps10
  go_wp2_with fail
  refine (Lent_any s _ hs).mono ?_
  rintro e w1 ⟨rfl, hb1, hL⟩
  have k1 := conv_str Try.prog 22 9 5 slice22 int5 str9 w1 b 0 (s.size + 160) (s.size + 160) _ (Holds.below hB hb1 hb) (by rw [hbs, lent_size])
  have k2 := conv_str Try.prog 22 9 5 slice22 int5 str9 w1 w.heap.size 0 (s.size + 160) (s.size + 160) _ hL (lent_size s)
  rw [hbs] at k1
  go_wp2
  go_ret
  exact ⟨rfl, hb1⟩
end Go.Proofs.Ytfclmmkgmhlbbaa
