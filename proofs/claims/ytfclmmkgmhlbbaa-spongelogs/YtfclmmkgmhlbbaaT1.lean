import Derived.Test.YtfclmmkgmhlbbaaW7
import Derived.Test.YtfclmmkgmhlbbaaR5
namespace Go.Proofs.Ytfclmmkgmhlbbaa
open Go.RowKit Go.Sort Go.Deep

/-- What is at the front is held. -/
theorem Holds.prefix {α : Type} [Inhabited α] {f : α → Value} {w : World} {b o : Nat} {d e : Array α} (h : Holds f w b o d) (hs : e.size ≤ d.size) (he : ∀ j, j < e.size → e[j]! = d[j]!) : Holds f w b o e := by
  intro j hj
  rw [he j hj]
  exact h j (by omega)

theorem lentTo_front (s : ByteArray) (k j : Nat) (hj : j < s.data.size) : (lentTo s k)[j]! = s.data[j]! := by
  induction k with
  | zero => rw [lent_front s j hj, getElem!_pos s.data j hj]
  | succ k ih =>
    show ((lentTo s k).setIfInBounds (s.size + k) (fill (s.size + k)))[j]! = _
    have : s.data.size = s.size := rfl
    rw [getElem!_set_other _ _ _ _ (by omega), ih]

theorem holds_text {w : World} {b : Nat} (s : ByteArray) (h : Holds encB w b 0 (lent s)) : Holds encB w b 0 s.data := by
  have : s.data.size = s.size := rfl
  exact Holds.prefix h (by rw [lent_size]; omega) (fun j hj => (lentTo_front s 160 j hj).symm)

theorem Permute_len (sb so len cap : Nat) (bs : Bs) (w : World) (hl : len = 200) (hs : bs.size = 200) (hB : Holds encB w sb so bs) (hc : 200 ≤ cap) :
    Calls Try.prog 9 #[.slice (some ⟨sb, so, none⟩) len cap] w fun e w' => ∃ r, e = .returned (.tuple #[.slice (some ⟨r, 0, none⟩) 200 200, .int .i64 0]) ∧ w.heap.size ≤ r ∧ Below w.heap.size w w' ∧ Holds encB w' r 0 (permB bs) := by
  rw [hl]
  exact Permute_yes sb so cap bs w hs hB hc

set_option maxHeartbeats 1000000 in
set_option maxRecDepth 100000 in
theorem turns_any (s : ByteArray) (w : World) (hm : s.size ≤ maxLen) :
    Calls Try.prog 3 #[.string s] w fun e w' => e = .returned (.bool true) ∧ Below w.heap.size w w' := by
  unfold maxLen at hm
  by_cases hbig : 16384 < s.size
  · have h1 : (16384 : Int) < (s.size : Int) := by omega
    go_enter Try.func3, Try.ntmps3
    go_wp2
    go_ret
    exact ⟨rfl, Below.refl _ _⟩
  · have hs : s.size ≤ 16384 := by omega
    have h1 : ¬ (16384 : Int) < (s.size : Int) := by omega
    by_cases h200 : s.size = 200
    · have e1 : ((s.size : Int) != 200) = false := by rw [h200]; rfl
      have H200 : Hid (s.size = 200) := h200
      have hdat : s.data.size = 200 := h200
      clear h200
      go_enter Try.func3, Try.ntmps3
      go_wp2_with fail
      refine (Lent_any s _ hs).mono ?_
      rintro e w1 ⟨rfl, hb1, hL⟩
      have hL1 := Holds.lt hL (by rw [lent_size]; omega)
      have hsz := hb1.size
      go_wp2_with fail
      refine (Permute_len w.heap.size 0 s.size (s.size + 160) s.data _ H200.out hdat (holds_text s hL) (by have := H200.out; omega)).mono ?_
      rintro e w2 ⟨r, rfl, hr, hb2, hP⟩
      have hL2 := Holds.below hL hb2 hL1
      go_wp2_with fail
      refine (Still_any w.heap.size _ s _ hs hL2 rfl).mono ?_
      rintro e w3 ⟨rfl, hb3⟩
      have hP3 := Holds.below hP hb3 (Holds.lt hP (by rw [permB, front_size]; omega))
      have hb4 := (hb1.trans (hb2.mono (by omega))).trans (hb3.mono (by have := hb2.size; omega))
      go_wp2_with fail
      refine (refPermute_any s _ H200.out).mono ?_
      rintro e w4 ⟨rfl, hb5⟩
      have hP4 := Holds.below hP3 hb5 (Holds.lt hP3 (by rw [permB, front_size]; omega))
      have kc := conv_str Try.prog 22 9 5 slice22 int5 str9 w4 r 0 200 200 _ hP4 (by rw [permB, front_size])
      go_wp2
      go_ret
      exact ⟨rfl, hb4.trans (hb5.mono hb4.size)⟩
    · have e1 : ((s.size : Int) != 200) = true := by rw [bne_iff_ne]; omega
      go_enter Try.func3, Try.ntmps3
      go_wp2_with fail
      refine (Lent_any s _ hs).mono ?_
      rintro e w1 ⟨rfl, hb1, hL⟩
      go_wp2_with fail
      refine (Permute_no _ s.size _ _ h200).mono ?_
      rintro e w2 ⟨rfl, rfl⟩
      go_wp2_with fail
      refine (Still_any w.heap.size _ s _ hs hL rfl).mono ?_
      rintro e w3 ⟨rfl, hb3⟩
      go_wp2
      go_ret
      exact ⟨rfl, hb1.trans (hb3.mono hb1.size)⟩
end Go.Proofs.Ytfclmmkgmhlbbaa
