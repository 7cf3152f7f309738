import Derived.Test.YtfclmmkgmhlbbaaG3
namespace Go.Proofs.Ytfclmmkgmhlbbaa
open Go.RowKit Go.Sort Go.Deep

set_option maxHeartbeats 2000000 in
set_option maxRecDepth 100000 in
theorem Say_any (b : Nat) (L : Bs) (label : ByteArray) (ta : Option Addr) (tl tc : Nat) (text : List UInt8) (w : World) (hlab : label.size ≤ 1048576) (hL : Holds encB w b 0 L) (hl : L.size = 32) (hT : PartOk w (.slice ta tl tc) text) :
    Calls Try.prog 20 #[.pointer (some ⟨b, 0, none⟩), .string label, .slice ta tl tc] w fun e w' => e = .returned (.tuple #[]) ∧ Only b 0 32 w w' ∧ Holds encB w' b 0 (sayL L label.data.toList text) := by
  have hb := Holds.lt hL (by omega)
  obtain ⟨c, W1, hcv, hc, hH1, hP1, hb1, hlt1⟩ := conv_part label w (by omega)
  have hL1 := Holds.below hL hb1 hb
  have hT1 := hT.below hb1
  have hPs := parts_new W1 #[.slice (some ⟨b, 0, none⟩) 32 32, .slice (some ⟨w.heap.size, 0, none⟩) label.size c, .slice ta tl tc] [L.toList, label.data.toList, text] 22 rfl (fun j hj => by
    have hj3 : j < 3 := hj
    match j, hj3 with
    | 0, _ => exact part_log hL1 hl
    | 1, _ => exact hP1
    | 2, _ => exact hT1)
  have hb2 : Below W1.heap.size W1 (W1.alloc (.cells #[.slice (some ⟨b, 0, none⟩) 32 32, .slice (some ⟨w.heap.size, 0, none⟩) label.size c, .slice ta tl tc] 22)) := (Below.refl _ _).alloc (Nat.le_refl _) _
  have hL2 := Holds.below' hL1 hb2
  have hO2 : Only b 0 32 w (W1.alloc (.cells #[.slice (some ⟨b, 0, none⟩) 32 32, .slice (some ⟨w.heap.size, 0, none⟩) label.size c, .slice ta tl tc] 22)) := (Only.of_below hb1 rfl hb).alloc (by omega) _
  clear hH1 hP1 hT1 hT hb2
  go_enter Try.func20, Try.ntmps20
  go_wp2_with fail
  refine (become_any b L ⟨#[115, 97, 121]⟩ (some ⟨W1.heap.size, 0, none⟩) 3 3 [L.toList, label.data.toList, text] _ (by decide) rfl (by decide) hPs hL2 hl).mono ?_
  rintro e w4 ⟨rfl, hO4, hH4⟩
  go_wp2
  go_end0
  exact ⟨rfl, hO2.trans hO4, hH4⟩

set_option maxHeartbeats 1000000 in
set_option maxRecDepth 100000 in
theorem Ask_no (p : Value) (label : ByteArray) (n : Int) (w : World) (hn : n < 0 ∨ 1024 < n) :
    Calls Try.prog 22 #[p, .string label, .int .i64 n] w fun e w' => e = .returned (.tuple #[.slice none 0 0, .int .i64 1]) ∧ w' = w := by
  by_cases h0 : n < 0
  · have d0 : decide (n < 0) = true := decide_eq_true h0
    go_enter Try.func22, Try.ntmps22
    go_wp2
    go_ret2
    exact ⟨rfl, rfl⟩
  · have d0 : decide (n < 0) = false := decide_eq_false h0
    have h1 : 1024 < n := by omega
    go_enter Try.func22, Try.ntmps22
    go_wp2
    go_ret2
    exact ⟨rfl, rfl⟩

set_option maxHeartbeats 2000000 in
set_option maxRecDepth 100000 in
theorem Ask_yes (b : Nat) (L : Bs) (label : ByteArray) (n : Nat) (w : World) (hlab : label.size ≤ 1048576) (hn : n ≤ 1024) (hL : Holds encB w b 0 L) (hl : L.size = 32) :
    Calls Try.prog 22 #[.pointer (some ⟨b, 0, none⟩), .string label, .int .i64 (n : Int)] w fun e w' => ∃ r, e = .returned (.tuple #[.slice (some ⟨r, 0, none⟩) n n, .int .i64 0]) ∧ w.heap.size ≤ r ∧ Only b 0 32 w w' ∧ Holds encB w' b 0 (askedL L label.data.toList) ∧ Holds encB w' r 0 (askL L label.data.toList n) := by
  have hb := Holds.lt hL (by omega)
  obtain ⟨c, W1, hcv, hc, hH1, hP1, hb1, hlt1⟩ := conv_part label w (by omega)
  have hL1 := Holds.below hL hb1 hb
  have hPs := parts_new W1 #[.slice (some ⟨b, 0, none⟩) 32 32, .slice (some ⟨w.heap.size, 0, none⟩) label.size c] [L.toList, label.data.toList] 22 rfl (fun j hj => by
    have hj3 : j < 2 := hj
    match j, hj3 with
    | 0, _ => exact part_log hL1 hl
    | 1, _ => exact hP1)
  have hb2 : Below W1.heap.size W1 (W1.alloc (.cells #[.slice (some ⟨b, 0, none⟩) 32 32, .slice (some ⟨w.heap.size, 0, none⟩) label.size c] 22)) := (Below.refl _ _).alloc (Nat.le_refl _) _
  have hL2 := Holds.below' hL1 hb2
  have hO2 : Only b 0 32 w (W1.alloc (.cells #[.slice (some ⟨b, 0, none⟩) 32 32, .slice (some ⟨w.heap.size, 0, none⟩) label.size c] 22)) := (Only.of_below hb1 rfl hb).alloc (by omega) _
  have d0 : decide ((n : Int) < 0) = false := decide_eq_false (by omega)
  have d1 : ¬ (1024 : Int) < (n : Int) := by omega
  clear hH1 hP1 hb2
  go_enter Try.func22, Try.ntmps22
  go_wp2_with fail
  refine (Tag_any ⟨#[97, 115, 107]⟩ (some ⟨W1.heap.size, 0, none⟩) 2 [L.toList, label.data.toList] _ (by decide) (by show 2 ≤ 1048576; omega) hPs).mono ?_
  rintro e w3 ⟨r3, rfl, hr3, hb3, hH3⟩
  have hL3 := Holds.below' hL2 hb3
  have hO3 := hO2.trans (Only.of_below hb3 rfl (Nat.lt_of_lt_of_le hb hO2.size))
  clear hPs hL2 hL1
  go_wp2_with fail
  refine (Stream_yes (some ⟨r3, 0, none⟩) r3 0 32 32 n _ _ (by omega) (tagL_size _ _) (by omega) (by omega) (Or.inr ⟨rfl, hH3⟩)).mono ?_
  rintro e w4 ⟨r4, rfl, hr4, hb4, hH4⟩
  have hL4 := Holds.below' hL3 hb4
  have hs3 := hO3.size
  have hO4 := hO3.trans (Only.of_below hb4 rfl (by omega))
  have hA4 : Holds encB w4 r4 0 (askL L label.data.toList n) := hH4
  have hs4 := hO4.size
  obtain ⟨c5, W5, hcv5, hc5, hH5, hP5, hb5, hlt5⟩ := conv_part label w4 (by omega)
  have hL5 := Holds.below' hL4 hb5
  have hA5 := Holds.below' hA4 hb5
  have hPs5 := parts_new W5 #[.slice (some ⟨b, 0, none⟩) 32 32, .slice (some ⟨w4.heap.size, 0, none⟩) label.size c5] [L.toList, label.data.toList] 22 rfl (fun j hj => by
    have hj3 : j < 2 := hj
    match j, hj3 with
    | 0, _ => exact part_log hL5 hl
    | 1, _ => exact hP5)
  have hb6 : Below W5.heap.size W5 (W5.alloc (.cells #[.slice (some ⟨b, 0, none⟩) 32 32, .slice (some ⟨w4.heap.size, 0, none⟩) label.size c5] 22)) := (Below.refl _ _).alloc (Nat.le_refl _) _
  have hL6 := Holds.below' hL5 hb6
  have hA6 := Holds.below' hA5 hb6
  have hO6 : Only b 0 32 w (W5.alloc (.cells #[.slice (some ⟨b, 0, none⟩) 32 32, .slice (some ⟨w4.heap.size, 0, none⟩) label.size c5] 22)) := hO4.trans ((Only.of_below hb5 rfl (by omega)).alloc (by omega) _)
  clear hH5 hP5 hH4 hA4 hA5 hL4 hL5 hH3 hcv hb6 hL3
  go_wp2_with fail
  refine (become_any b L ⟨#[97, 115, 107, 101, 100]⟩ (some ⟨W5.heap.size, 0, none⟩) 2 2 [L.toList, label.data.toList] _ (by decide) rfl (by decide) hPs5 hL6 hl).mono ?_
  rintro e w7 ⟨rfl, hO7, hH7⟩
  clear hPs5
  have hA7 : Holds encB w7 r4 0 (askL L label.data.toList n) := by
    intro j hj
    have h1 := hA6 j hj
    have h2 := World.block_lt_of_cell? _ _ h1.1
    have h3 := hO7.other (c := r4) (o := 0 + j) (by omega) h2
    rw [h3.1, h3.2]
    exact h1
  go_wp2
  go_ret2
  exact ⟨r4, rfl, by omega, hO6.trans hO7, hH7, hA7⟩
end Go.Proofs.Ytfclmmkgmhlbbaa
