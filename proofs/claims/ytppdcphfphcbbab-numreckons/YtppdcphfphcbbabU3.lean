import Derived.Test.YtppdcphfphcbbabU2
namespace Go.Proofs.Ytppdcphfphcbbab
open Go.RowKit Go.Sort Go.Deep

set_option maxHeartbeats 4000000 in
set_option maxRecDepth 100000 in
theorem reckons_none (k : Int) (hk : k < 0 ∨ 2 ≤ k) (s t : ByteArray) (hs : s.size ≤ 16384) (ht : t.size ≤ 16384) (w0 : World) :
    Calls Try.prog 3 #[.int .i64 k, .string s, .string t] w0 fun e w' => e = .returned (.bool true) ∧ Below w0.heap.size w0 w' := by
  have HK : Hid (decide (k = 0 ∨ k = 1) = false) := decide_eq_false (by omega)
  have h1 : ¬ (16384 : Int) < (s.size : Int) := by omega
  have h2 : ¬ (16384 : Int) < (t.size : Int) := by omega
  have h3 : (s.size : Int) ≤ (s.size : Int) + 160 := by omega
  have h4 : (t.size : Int) ≤ (t.size : Int) + 160 := by omega
  go_enter Try.func3, Try.ntmps3
  go_wp2_with fail
  refine (Lent_any s _ hs).mono ?_
  rintro e w1 ⟨rfl, hb1, hL⟩
  go_wp2_with fail
  refine (Lent_any t _ ht).mono ?_
  rintro e w2 ⟨rfl, hb2, hL2⟩
  have C : Ctx w0 w2 w0.heap.size w1.heap.size s t := ⟨hb1.trans (hb2.mono hb1.size), Holds.below hL hb2 (Holds.lt hL (by rw [lent_size]; omega)), hL2⟩
  clear hb1 hb2 hL hL2
  generalize w1.heap.size = kt at C ⊢
  have HC : Hid (Ctx w0 w2 w0.heap.size kt s t) := C
  clear C
  go_wp2_with fail
  refine (Add_no k hk _ _ _).mono ?_
  rintro e w3 ⟨v, rfl, hb, rfl⟩
  replace HC : Hid (Ctx w0 w3 w0.heap.size kt s t) := HC.out.call hb
  clear hb
  go_wp2_with fail
  refine (Sub_no k hk _ _ _).mono ?_
  rintro e w4 ⟨v, rfl, hb, rfl⟩
  replace HC : Hid (Ctx w0 w4 w0.heap.size kt s t) := HC.out.call hb
  clear hb
  go_wp2_with fail
  refine (Mul_no k hk _ _ _).mono ?_
  rintro e w5 ⟨v, rfl, hb, rfl⟩
  replace HC : Hid (Ctx w0 w5 w0.heap.size kt s t) := HC.out.call hb
  clear hb
  go_wp2_with fail
  refine (Inv_no k hk _ _).mono ?_
  rintro e w6 ⟨v, rfl, hb, rfl⟩
  replace HC : Hid (Ctx w0 w6 w0.heap.size kt s t) := HC.out.call hb
  clear hb
  go_wp2_with fail
  refine (Still_any w0.heap.size _ s _ hs HC.out.ls rfl).mono ?_
  rintro e w7 ⟨rfl, hb⟩
  replace HC : Hid (Ctx w0 w7 w0.heap.size kt s t) := HC.out.call hb
  clear hb
  go_wp2_with fail
  refine (Still_any kt _ t _ ht HC.out.lt rfl).mono ?_
  rintro e w8 ⟨rfl, hb⟩
  replace HC : Hid (Ctx w0 w8 w0.heap.size kt s t) := HC.out.call hb
  clear hb
  go_wp2_with fail
  refine (Known_law k _).mono ?_
  rintro e w9 ⟨rfl, rfl⟩
  rw [HK.out]
  have HB0 : Hid (Below w0.heap.size w0 w9) := HC.out.bl
  clear HC
  go_upto_region 19 with fail
  have K := kept4 w9 33 33 33 33 0 0 0 0 0 0 0 0 0 0 0 0 0 0 0 0
  simp only [Int.natCast_zero] at K
  generalize World.alloc _ _ = W9 at K ⊢
  generalize w9.heap.size + 1 + 1 + 1 = kD at K ⊢
  generalize w9.heap.size + 1 + 1 = kC at K ⊢
  generalize w9.heap.size + 1 = kB at K ⊢
  generalize hkA : w9.heap.size = kA at K ⊢
  have HKA : Hid (w9.heap.size = kA) := hkA
  clear hkA
  have ktA := K.at' ⟨kA, 0, 0, 0, 0, 0⟩ (by simp)
  have c0 : W9.cell? ⟨kA, 0, none⟩ = some (.int .u64 0) := ktA.c0
  have c1 : W9.cell? ⟨kA, 1, none⟩ = some (.int .u64 0) := ktA.c1
  have c2 : W9.cell? ⟨kA, 2, none⟩ = some (.int .u64 0) := ktA.c2
  have c3 : W9.cell? ⟨kA, 3, none⟩ = some (.int .u64 0) := ktA.c3
  have cz := ktA.lt
  clear ktA
  go_wp2_with fail
  clear c0 c1 c2 c3 cz
  refine (told_err none 0 0 2 _ 0 (Four.mk (a := 0) (b := 0) (c := 0) (d := 0) (by decide) (by decide) (by decide) (by decide) rfl) rfl (by decide) _).mono ?_
  rintro e wtA ⟨v, rfl, hb, rfl⟩
  replace K := K.call hb
  clear hb
  have ktB := K.at' ⟨kB, 0, 0, 0, 0, 0⟩ (by simp)
  have c0 : wtA.cell? ⟨kB, 0, none⟩ = some (.int .u64 0) := ktB.c0
  have c1 : wtA.cell? ⟨kB, 1, none⟩ = some (.int .u64 0) := ktB.c1
  have c2 : wtA.cell? ⟨kB, 2, none⟩ = some (.int .u64 0) := ktB.c2
  have c3 : wtA.cell? ⟨kB, 3, none⟩ = some (.int .u64 0) := ktB.c3
  have cz := ktB.lt
  clear ktB
  go_wp2_with fail
  clear c0 c1 c2 c3 cz
  refine (told_err none 0 0 2 _ 0 (Four.mk (a := 0) (b := 0) (c := 0) (d := 0) (by decide) (by decide) (by decide) (by decide) rfl) rfl (by decide) _).mono ?_
  rintro e wtB ⟨v, rfl, hb, rfl⟩
  replace K := K.call hb
  clear hb
  have ktC := K.at' ⟨kC, 0, 0, 0, 0, 0⟩ (by simp)
  have c0 : wtB.cell? ⟨kC, 0, none⟩ = some (.int .u64 0) := ktC.c0
  have c1 : wtB.cell? ⟨kC, 1, none⟩ = some (.int .u64 0) := ktC.c1
  have c2 : wtB.cell? ⟨kC, 2, none⟩ = some (.int .u64 0) := ktC.c2
  have c3 : wtB.cell? ⟨kC, 3, none⟩ = some (.int .u64 0) := ktC.c3
  have cz := ktC.lt
  clear ktC
  go_wp2_with fail
  clear c0 c1 c2 c3 cz
  refine (told_err none 0 0 2 _ 0 (Four.mk (a := 0) (b := 0) (c := 0) (d := 0) (by decide) (by decide) (by decide) (by decide) rfl) rfl (by decide) _).mono ?_
  rintro e wtC ⟨v, rfl, hb, rfl⟩
  replace K := K.call hb
  clear hb
  have ktD := K.at' ⟨kD, 0, 0, 0, 0, 0⟩ (by simp)
  have c0 : wtC.cell? ⟨kD, 0, none⟩ = some (.int .u64 0) := ktD.c0
  have c1 : wtC.cell? ⟨kD, 1, none⟩ = some (.int .u64 0) := ktD.c1
  have c2 : wtC.cell? ⟨kD, 2, none⟩ = some (.int .u64 0) := ktD.c2
  have c3 : wtC.cell? ⟨kD, 3, none⟩ = some (.int .u64 0) := ktD.c3
  have cz := ktD.lt
  clear ktD
  go_wp2_with fail
  clear c0 c1 c2 c3 cz
  refine (told_err none 0 0 2 _ 0 (Four.mk (a := 0) (b := 0) (c := 0) (d := 0) (by decide) (by decide) (by decide) (by decide) rfl) rfl (by decide) _).mono ?_
  rintro e wtD ⟨v, rfl, hb, rfl⟩
  replace K := K.call hb
  clear hb
  go_wp2
  go_ret
  exact ⟨by simp, HB0.out.trans (K.bl.mono (by rw [← HKA.out]; exact HB0.out.size))⟩

set_option maxHeartbeats 1000000 in
set_option maxRecDepth 100000 in
theorem reckons_any (k : Int) (s t : ByteArray) (w : World) :
    Calls Try.prog 3 #[.int .i64 k, .string s, .string t] w fun e w' => e = .returned (.bool true) ∧ Below w.heap.size w w' := by
  by_cases hs : s.size ≤ 16384
  · by_cases ht : t.size ≤ 16384
    · by_cases h0 : k = 0
      · subst h0
        exact reckons_known 0 _ _ _ _ _ _ _ _ _ _ _ _ gap0 low0 refP0 s t hs ht rfl w primeOf_0 rMake0
      · by_cases h1 : k = 1
        · subst h1
          exact reckons_known 1 _ _ _ _ _ _ _ _ _ _ _ _ gap1 low1 refP1 s t hs ht rfl w primeOf_1 rMake1
        · exact reckons_none k (by omega) s t hs ht w
    · have h1 : ¬ (16384 : Int) < (s.size : Int) := by omega
      have h2 : (16384 : Int) < (t.size : Int) := by omega
      go_enter Try.func3, Try.ntmps3
      go_wp2
      go_ret
      exact ⟨rfl, Below.refl _ _⟩
  · have h1 : (16384 : Int) < (s.size : Int) := by omega
    go_enter Try.func3, Try.ntmps3
    go_wp2
    go_ret
    exact ⟨rfl, Below.refl _ _⟩
end Go.Proofs.Ytppdcphfphcbbab
