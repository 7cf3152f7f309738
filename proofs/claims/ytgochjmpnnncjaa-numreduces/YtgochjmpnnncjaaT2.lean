import Derived.Test.YtgochjmpnnncjaaT1
namespace Go.Proofs.Ytgochjmpnnncjaa
open Go.RowKit Go.Sort Go.Deep

theorem refP0 : RefP 18446744069414583343 18446744073709551615 18446744073709551615 18446744073709551615 4294968273 0 0 0 Go.Proofs.Ytgochjmpnnncjaa.p0 :=
  ⟨by decide, by decide, by decide, by decide, by decide, by decide, by decide, by decide, by decide +kernel, by decide +kernel, by decide +kernel⟩
theorem refP1 : RefP 13822214165235122497 13451932020343611451 18446744073709551614 18446744073709551615 4624529908474429119 4994812053365940164 1 0 Go.Proofs.Ytgochjmpnnncjaa.p1 :=
  ⟨by decide, by decide, by decide, by decide, by decide, by decide, by decide, by decide, by decide +kernel, by decide +kernel, by decide +kernel⟩

set_option maxHeartbeats 2000000 in
set_option maxRecDepth 100000 in
theorem reduces_none (k : Int) (hk : k < 0 ∨ 2 ≤ k) (s : ByteArray) (hs : s.size ≤ 16384) (w0 : World) :
    Calls Try.prog 8 #[.int .i64 k, .string s] w0 fun e w' => e = .returned (.bool true) ∧ Below w0.heap.size w0 w' := by
  have h1 : ¬ (16384 : Int) < (s.size : Int) := by omega
  have h3 : (s.size : Int) ≤ (s.size : Int) + 160 := by omega
  have HK : Hid (decide (k = 0 ∨ k = 1) = false) := decide_eq_false (by omega)
  go_enter Try.func8, Try.ntmps8
  go_wp2_with fail
  refine (Lent_any s _ hs).mono ?_
  rintro e w1 ⟨rfl, hb1, hL⟩
  go_wp2_with fail
  refine (Modulus_no k hk _).mono ?_
  rintro e w2 ⟨v, rfl, hb2, rfl⟩
  have hLl := Holds.lt hL (by rw [lent_size]; omega)
  have HL : Hid (Holds encB w2 w0.heap.size 0 (lent s)) := Holds.below hL hb2 hLl
  have hL2 : w0.heap.size < w2.heap.size := Nat.lt_of_lt_of_le hLl hb2.size
  have HB2 : Hid (Below w0.heap.size w0 w2) := hb1.trans (hb2.mono hb1.size)
  clear hL hLl hb1 hb2
  go_wp2_with fail
  refine (Reduce_no k hk _ _).mono ?_
  rintro e w3 ⟨v, rfl, hb3, rfl⟩
  have HL3 : Hid (Holds encB w3 w0.heap.size 0 (lent s)) := Holds.below HL.out hb3 hL2
  have HB3 : Hid (Below w0.heap.size w0 w3) := HB2.out.trans (hb3.mono HB2.out.size)
  clear HL HB2 hb3 hL2
  go_wp2_with fail
  refine (Still_any w0.heap.size _ s _ hs HL3.out rfl).mono ?_
  rintro e w4 ⟨rfl, hb4⟩
  have HB4 : Hid (Below w0.heap.size w0 w4) := HB3.out.trans (hb4.mono HB3.out.size)
  clear HB3 HL3 hb4
  go_wp2_with fail
  refine (Known_any k _).mono ?_
  rintro e w5 ⟨rfl, rfl⟩
  rw [HK.out]
  go_wp2
  go_ret
  exact ⟨rfl, HB4.out⟩

theorem reduces_any (k : Int) (s : ByteArray) (w : World) (_ : s.size ≤ maxLen) :
    Calls Try.prog 8 #[.int .i64 k, .string s] w fun e w' => e = .returned (.bool true) ∧ Below w.heap.size w w' := by
  by_cases hs : s.size ≤ 16384
  · by_cases h0 : k = 0
    · subst h0
      by_cases h : s.size ≤ 1024
      · exact reduces_short 0 _ _ _ _ _ _ _ _ _ _ _ _ gap0 refP0 s hs h rfl w primeOf_0 rMake0
      · exact reduces_long 0 _ _ _ _ _ _ _ _ _ _ _ _ gap0 refP0 s hs (by omega) rfl w primeOf_0 rMake0
    · by_cases h1 : k = 1
      · subst h1
        by_cases h : s.size ≤ 1024
        · exact reduces_short 1 _ _ _ _ _ _ _ _ _ _ _ _ gap1 refP1 s hs h rfl w primeOf_1 rMake1
        · exact reduces_long 1 _ _ _ _ _ _ _ _ _ _ _ _ gap1 refP1 s hs (by omega) rfl w primeOf_1 rMake1
      · exact reduces_none k (by omega) s hs w
  · have h1 : (16384 : Int) < (s.size : Int) := by omega
    go_enter Try.func8, Try.ntmps8
    go_wp2
    go_ret
    exact ⟨rfl, Below.refl _ _⟩
end Go.Proofs.Ytgochjmpnnncjaa
