import Derived.Test.YtfclmmkgmhlbbaaR6
import Derived.Test.YtfclmmkgmhlbbaaT1
namespace Go.Proofs.Ytfclmmkgmhlbbaa
open Go.RowKit Go.Sort Go.Deep

set_option maxHeartbeats 1000000 in
theorem refHash_any (s : ByteArray) (w : World) (hs : s.size ≤ 1048576) :
    Calls Try.prog 14 #[.string s] w fun r w' => r = .returned (.string ⟨hashL s.data.toList⟩) ∧ Below w.heap.size w w' := by
  go_enter Try.func14, Try.ntmps14
  go_wp2_with fail
  refine (refSponge_any s 6 32 _ hs (by decide)).mono ?_
  rintro r w1 ⟨rfl, hb⟩
  rw [← hash_stream]
  go_wp2
  go_ret
  exact ⟨rfl, hb⟩

set_option maxHeartbeats 1000000 in
theorem refStream_any (s : ByteArray) (n : Nat) (w : World) (hs : s.size ≤ 1048576) (hn : n ≤ 16384) :
    Calls Try.prog 15 #[.string s, .int .i64 (n : Int)] w fun r w' => r = .returned (.string ⟨strmL s.data.toList n⟩) ∧ Below w.heap.size w w' := by
  go_enter Try.func15, Try.ntmps15
  go_wp2_with fail
  refine (refSponge_any s 31 n _ hs hn).mono ?_
  rintro r w1 ⟨rfl, hb⟩
  go_wp2
  go_ret
  exact ⟨rfl, hb⟩

/-- What only makes memory turns no row that is there; of a row without a cell nothing is said. -/
theorem Holds.below' {α : Type} [Inhabited α] {f : α → Value} {w w1 : World} {b o : Nat} {d : Array α} (h : Holds f w b o d) (k : Below w.heap.size w w1) : Holds f w1 b o d := by
  intro j hj
  have hlt := Holds.lt h (by omega)
  exact Holds.below h k hlt j hj

theorem hashL_size (l : List UInt8) : (hashL l).size = 32 := by rw [hashL, front_size]
theorem strmL_size (l : List UInt8) (n : Nat) : (strmL l n).size = n := by rw [strmL, streamL_size]

set_option maxHeartbeats 2000000 in
set_option maxRecDepth 100000 in
theorem hashes_any (s : ByteArray) (n : Int) (w : World) (hm : s.size ≤ maxLen) :
    Calls Try.prog 4 #[.string s, .int .i64 n] w fun e w' => e = .returned (.bool true) ∧ Below w.heap.size w w' := by
  unfold maxLen at hm
  by_cases hbig : 16384 < s.size
  · have h1 : (16384 : Int) < (s.size : Int) := by omega
    go_enter Try.func4, Try.ntmps4
    go_wp2
    go_ret
    exact ⟨rfl, Below.refl _ _⟩
  · have hs : s.size ≤ 16384 := by omega
    have h1 : ¬ (16384 : Int) < (s.size : Int) := by omega
    have hds : s.data.size = s.size := rfl
    obtain ⟨HL, hHL⟩ : ∃ x, hashL s.data.toList = x := ⟨_, rfl⟩
    have hHs : HL.size = 32 := by rw [← hHL, hashL_size]
    have HHL : Hid (HL = hashL s.data.toList) := hHL.symm
    clear hHL
    by_cases hn0 : n < 0
    · have hn : n < 0 ∨ 16384 < n := Or.inl hn0
      have d1 : decide (n < 0) = true := decide_eq_true hn0
      go_enter Try.func4, Try.ntmps4
      go_wp2_with fail
      refine (Lent_any s _ hs).mono ?_
      rintro e w1 ⟨rfl, hb1, hL⟩
      have hL1 := Holds.lt hL (by rw [lent_size]; omega)
      go_wp2_with fail
      refine (Hash_any (some ⟨w.heap.size, 0, none⟩) w.heap.size 0 s.size (s.size + 160) s.data _ hds (by omega) (by omega) (Or.inr ⟨rfl, holds_text s hL⟩)).mono ?_
      rintro e w2 ⟨r2, rfl, hr2, hb2, hH2⟩
      rw [← HHL.out] at hH2
      have hL2 := Holds.below hL hb2 hL1
      have hbb2 := hb1.trans (hb2.mono hb1.size)
      go_wp2_with fail
      refine (Stream_no _ _ _ n _ hn).mono ?_
      rintro e w3 ⟨rfl, rfl⟩
      have hL3 := hL2
      have hH3 := hH2
      have hbb3 := hbb2
      go_wp2_with fail
      refine (Still_any w.heap.size _ s _ hs hL3 rfl).mono ?_
      rintro e w4 ⟨rfl, hb4⟩
      have hH4 := Holds.below hH3 hb4 (Holds.lt hH3 (by omega))
      have hbb4 := hbb3.trans (hb4.mono hbb3.size)
      go_wp2_with fail
      refine (refHash_any s _ (by omega)).mono ?_
      rintro e w5 ⟨rfl, hb5⟩
      rw [← HHL.out]
      have hH5 := Holds.below hH4 hb5 (Holds.lt hH4 (by omega))
      have kc := conv_str Try.prog 22 9 5 slice22 int5 str9 w5 r2 0 32 32 HL hH5 hHs
      go_wp2
      go_ret
      exact ⟨rfl, hbb4.trans (hb5.mono hbb4.size)⟩
    · by_cases hn1 : 16384 < n
      · have hn : n < 0 ∨ 16384 < n := Or.inr hn1
        have d1 : decide (n < 0) = false := decide_eq_false hn0
        go_enter Try.func4, Try.ntmps4
        go_wp2_with fail
        refine (Lent_any s _ hs).mono ?_
        rintro e w1 ⟨rfl, hb1, hL⟩
        have hL1 := Holds.lt hL (by rw [lent_size]; omega)
        go_wp2_with fail
        refine (Hash_any (some ⟨w.heap.size, 0, none⟩) w.heap.size 0 s.size (s.size + 160) s.data _ hds (by omega) (by omega) (Or.inr ⟨rfl, holds_text s hL⟩)).mono ?_
        rintro e w2 ⟨r2, rfl, hr2, hb2, hH2⟩
        rw [← HHL.out] at hH2
        have hL2 := Holds.below hL hb2 hL1
        have hbb2 := hb1.trans (hb2.mono hb1.size)
        go_wp2_with fail
        refine (Stream_no _ _ _ n _ hn).mono ?_
        rintro e w3 ⟨rfl, rfl⟩
        have hL3 := hL2
        have hH3 := hH2
        have hbb3 := hbb2
        go_wp2_with fail
        refine (Still_any w.heap.size _ s _ hs hL3 rfl).mono ?_
        rintro e w4 ⟨rfl, hb4⟩
        have hH4 := Holds.below hH3 hb4 (Holds.lt hH3 (by omega))
        have hbb4 := hbb3.trans (hb4.mono hbb3.size)
        go_wp2_with fail
        refine (refHash_any s _ (by omega)).mono ?_
        rintro e w5 ⟨rfl, hb5⟩
        rw [← HHL.out]
        have hH5 := Holds.below hH4 hb5 (Holds.lt hH4 (by omega))
        have kc := conv_str Try.prog 22 9 5 slice22 int5 str9 w5 r2 0 32 32 HL hH5 hHs
        go_wp2
        go_ret
        exact ⟨rfl, hbb4.trans (hb5.mono hbb4.size)⟩
      · obtain ⟨k, rfl⟩ := Int.eq_ofNat_of_zero_le (by omega : 0 ≤ n)
        have hk : k ≤ 16384 := by omega
        have d1 : decide ((k : Int) < 0) = false := decide_eq_false hn0
        obtain ⟨SL, hSL⟩ : ∃ x, strmL s.data.toList k = x := ⟨_, rfl⟩
        have hSs : SL.size = k := by rw [← hSL, strmL_size]
        have HSL : Hid (SL = strmL s.data.toList k) := hSL.symm
        clear hSL
        go_enter Try.func4, Try.ntmps4
        go_wp2_with fail
        refine (Lent_any s _ hs).mono ?_
        rintro e w1 ⟨rfl, hb1, hL⟩
        have hL1 := Holds.lt hL (by rw [lent_size]; omega)
        go_wp2_with fail
        refine (Hash_any (some ⟨w.heap.size, 0, none⟩) w.heap.size 0 s.size (s.size + 160) s.data _ hds (by omega) (by omega) (Or.inr ⟨rfl, holds_text s hL⟩)).mono ?_
        rintro e w2 ⟨r2, rfl, hr2, hb2, hH2⟩
        rw [← HHL.out] at hH2
        have hL2 := Holds.below hL hb2 hL1
        have hbb2 := hb1.trans (hb2.mono hb1.size)
        go_wp2_with fail
        refine (Stream_yes (some ⟨w.heap.size, 0, none⟩) w.heap.size 0 s.size (s.size + 160) k s.data _ hk hds (by omega) (by omega) (Or.inr ⟨rfl, holds_text s hL2⟩)).mono ?_
        rintro e w3 ⟨r3, rfl, hr3, hb3, hS3⟩
        rw [← HSL.out] at hS3
        have hL3 := Holds.below hL2 hb3 (Holds.lt hL2 (by rw [lent_size]; omega))
        have hH3 := Holds.below hH2 hb3 (Holds.lt hH2 (by omega))
        have hbb3 := hbb2.trans (hb3.mono hbb2.size)
        go_wp2_with fail
        refine (Still_any w.heap.size _ s _ hs hL3 rfl).mono ?_
        rintro e w4 ⟨rfl, hb4⟩
        have hH4 := Holds.below hH3 hb4 (Holds.lt hH3 (by omega))
        have hbb4 := hbb3.trans (hb4.mono hbb3.size)
        have hS4 := Holds.below' hS3 hb4
        go_wp2_with fail
        refine (refHash_any s _ (by omega)).mono ?_
        rintro e w5 ⟨rfl, hb5⟩
        rw [← HHL.out]
        have hH5 := Holds.below hH4 hb5 (Holds.lt hH4 (by omega))
        have hS5 := Holds.below' hS4 hb5
        have hbb5 := hbb4.trans (hb5.mono hbb4.size)
        have kc := conv_str Try.prog 22 9 5 slice22 int5 str9 w5 r2 0 32 32 HL hH5 hHs
        go_wp2_with fail
        refine (refStream_any s k _ (by omega) hk).mono ?_
        rintro e w6 ⟨rfl, hb6⟩
        rw [← HSL.out]
        have hS6 := Holds.below' hS5 hb6
        have kc2 := conv_str Try.prog 22 9 5 slice22 int5 str9 w6 r3 0 k k SL hS6 hSs
        go_wp2
        go_ret
        exact ⟨rfl, hbb5.trans (hb6.mono hbb5.size)⟩
end Go.Proofs.Ytfclmmkgmhlbbaa
