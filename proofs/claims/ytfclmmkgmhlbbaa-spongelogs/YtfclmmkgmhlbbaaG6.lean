import Derived.Test.YtfclmmkgmhlbbaaO3
namespace Go.Proofs.Ytfclmmkgmhlbbaa
open Go.RowKit Go.Sort Go.Deep

/-- The reference's log: one cell, a string. -/
def RLog (w : World) (y : Nat) (L : Bs) : Prop := w.cell? ⟨y, 0, none⟩ = some (.string ⟨L⟩) ∧ w.frozen? ⟨y, 0, none⟩ = false

theorem strs_new (W : World) (vs : Array Value) (ps : List ByteArray) (t : TypeId) (hl : vs.size = ps.length) (h : ∀ j, j < ps.length → vs[j]! = .string ps[j]!) :
    ∀ j, j < ps.length → (W.alloc (.cells vs t)).cell? ⟨W.heap.size, 0 + j, none⟩ = some (.string ps[j]!) := by
  intro j hj
  have e0 : vs.map encV = vs := by
    have : encV = id := rfl
    rw [this, Array.map_id]
  have := (Holds.new (enc := encV) W t vs j (by omega)).1
  rw [e0, h j hj] at this
  exact this

theorem frames_small (label : List UInt8) (ps : List (List UInt8)) (M : Nat) (hl : label.length ≤ M) (hp : ∀ p ∈ ps, p.length ≤ M) : (framesL label ps).length ≤ (ps.length + 1) * (M + 4) := by
  unfold framesL
  rw [List.length_append, frameL_length]
  have : (ps.flatMap frameL).length ≤ ps.length * (M + 4) := by
    induction ps with
    | nil => simp
    | cons p ps ih =>
      rw [List.flatMap_cons, List.length_append, frameL_length, List.length_cons, Nat.succ_mul]
      have h1 := hp p (List.mem_cons_self ..)
      have h2 := ih (fun q hq => hp q (List.mem_cons_of_mem _ hq))
      omega
  rw [Nat.succ_mul]
  omega

theorem refTag_new (lab : ByteArray) (vs : Array Value) (ps : List ByteArray) (n : Nat) (W : World) (hn : ps.length = n) (hv : vs.size = ps.length) (h : ∀ j, j < ps.length → vs[j]! = .string ps[j]!) (hlab : lab.size ≤ 16384) (h64 : n ≤ 8) (hs : ∀ p ∈ ps, p.size ≤ 16384) :
    Calls Try.prog 17 #[.string lab, .slice (some ⟨W.heap.size, 0, none⟩) n n] (W.alloc (.cells vs 9)) fun e w' => e = .returned (.string ⟨tagL lab.data.toList (ps.map fun s => s.data.toList)⟩) ∧ Below (W.alloc (.cells vs 9)).heap.size (W.alloc (.cells vs 9)) w' := by
  subst hn
  refine refTag_any lab (some ⟨W.heap.size, 0, none⟩) ps.length ps (W.alloc (.cells vs 9)) (by omega) (by omega) (Or.inr ⟨W.heap.size, 0, rfl, strs_new W vs ps 9 hv h⟩) (fun j hj => ?_) ?_
  · rw [getElem!_pos ps j hj]
    have := hs _ (List.getElem_mem hj)
    omega
  · have := frames_small lab.data.toList (ps.map fun s => s.data.toList) 16384 (by rw [Array.length_toList]; exact hlab) (fun p hp => by
      obtain ⟨s, h1, rfl⟩ := List.mem_map.1 hp
      rw [Array.length_toList]
      exact hs s h1)
    rw [List.length_map] at this
    have h2 : (ps.length + 1) * (16384 + 4) ≤ 9 * (16384 + 4) := Nat.mul_le_mul_right _ (by omega)
    omega

theorem rlog_new (w : World) (t : TypeId) (N : Bs) : RLog (w.alloc (.cells #[.string ⟨N⟩] t)) w.heap.size N := by
  have := Holds.new (enc := encV) w t #[.string ⟨N⟩] 0 (by simp)
  have e0 : (#[Value.string ⟨N⟩]).map encV = #[Value.string ⟨N⟩] := by
    have : encV = id := rfl
    rw [this, Array.map_id]
  rw [e0] at this
  exact ⟨this.1, this.2⟩

set_option maxHeartbeats 2000000 in
set_option maxRecDepth 100000 in
theorem refNew_any (label : ByteArray) (w : World) (hlab : label.size ≤ 16384) :
    Calls Try.prog 19 #[.string label] w fun e w' => ∃ y, e = .returned (.pointer (some ⟨y, 0, none⟩)) ∧ w.heap.size ≤ y ∧ Below w.heap.size w w' ∧ RLog w' y (newL label.data.toList) := by
  have hT := refTag_new ⟨#[108, 111, 103]⟩ #[.string label] [label] 1 w rfl rfl (fun j hj => by
    have hj0 : j = 0 := by simpa using hj
    subst hj0
    rfl) (by decide) (by decide) (fun p hp => by
    have : p = label := by simpa using hp
    rw [this]; exact hlab)
  go_enter Try.func19, Try.ntmps19
  go_wp2_with fail
  refine hT.mono ?_
  rintro e w2 ⟨rfl, hb2⟩
  have hN : tagL (⟨#[108, 111, 103]⟩ : ByteArray).data.toList ([label].map fun s => s.data.toList) = newL label.data.toList := rfl
  rw [hN]
  obtain ⟨N, hNe⟩ : ∃ N, newL label.data.toList = N := ⟨_, rfl⟩
  rw [hNe]
  have HN : Hid (N = newL label.data.toList) := hNe.symm
  clear hNe hN hT
  have hb2' : Below w.heap.size w w2 := ((Below.refl _ _).alloc (Nat.le_refl _) _).trans (hb2.mono (by simp))
  have hs2 := hb2'.size
  go_wp2
  go_ret
  rw [← HN.out]
  exact ⟨w2.heap.size, rfl, by omega, hb2'.alloc (by omega) _, rlog_new _ _ _⟩

theorem RLog.lt {w : World} {y : Nat} {L : Bs} (h : RLog w y L) : y < w.heap.size := World.block_lt_of_cell? _ _ h.1
theorem RLog.below {w w1 : World} {y : Nat} {L : Bs} (h : RLog w y L) (k : Below w.heap.size w w1) : RLog w1 y L := by
  have h2 := (Only.of_below (b := w.heap.size) (off := 0) (n := 0) (B := w.heap.size) k rfl)
  have hy := h.lt
  have e := k.block y hy
  unfold RLog World.cell? World.frozen? at *
  simp only at *
  rw [e]
  exact h
theorem RLog.other {w w1 : World} {y b o n : Nat} {L : Bs} (h : RLog w y L) (k : Only b o n w w1) (hy : y ≠ b) : RLog w1 y L := by
  have := k.other (c := y) (o := 0) hy h.lt
  exact ⟨by rw [this.1]; exact h.1, by rw [this.2]; exact h.2⟩
theorem RLog.set {w : World} {y : Nat} {L : Bs} (h : RLog w y L) (M : Bs) : RLog (w.setCell ⟨y, 0, none⟩ (.string ⟨M⟩)) y M := by
  have h1 : Holds encV w y 0 #[.string ⟨L⟩] := by
    intro j hj
    have hj0 : j = 0 := by simpa using hj
    subst hj0
    exact ⟨h.1, h.2⟩
  have := Holds.set h1 (i := 0) (by simp) (.string ⟨M⟩)
  have h2 := this 0 (by simp)
  simp only [Nat.add_zero] at h2
  exact ⟨by simpa [encV] using h2.1, h2.2⟩

set_option maxHeartbeats 2000000 in
set_option maxRecDepth 100000 in
theorem refSay_any (y : Nat) (L : Bs) (label text : ByteArray) (w : World) (hlab : label.size ≤ 16384) (ht : text.size ≤ 16384) (hl : L.size = 32) (hL : RLog w y L) :
    Calls Try.prog 21 #[.pointer (some ⟨y, 0, none⟩), .string label, .string text] w fun e w' => e = .returned (.tuple #[]) ∧ Only y 0 1 w w' ∧ RLog w' y (sayL L label.data.toList text.data.toList) := by
  have hy := hL.lt
  have hT := refTag_new ⟨#[115, 97, 121]⟩ #[.string ⟨L⟩, .string label, .string text] [⟨L⟩, label, text] 3 w rfl rfl (fun j hj => by
    have hj3 : j < 3 := hj
    match j, hj3 with
    | 0, _ => rfl
    | 1, _ => rfl
    | 2, _ => rfl) (by decide) (by decide) (fun p hp => by
    simp only [List.mem_cons, List.not_mem_nil, or_false] at hp
    rcases hp with rfl | rfl | rfl
    · show L.size ≤ 16384; omega
    · exact hlab
    · exact ht)
  obtain ⟨N, hNe⟩ : ∃ N, sayL L label.data.toList text.data.toList = N := ⟨_, rfl⟩
  have hT' : Calls Try.prog 17 #[.string ⟨#[115, 97, 121]⟩, .slice (some ⟨w.heap.size, 0, none⟩) 3 3] (w.alloc (.cells #[.string ⟨L⟩, .string label, .string text] 9)) fun e w' => e = .returned (.string ⟨N⟩) ∧ Below (w.alloc (.cells #[.string ⟨L⟩, .string label, .string text] 9)).heap.size (w.alloc (.cells #[.string ⟨L⟩, .string label, .string text] 9)) w' := by
    rw [← hNe]; exact hT
  rw [hNe]
  have HT : Hid (Calls Try.prog 17 #[.string ⟨#[115, 97, 121]⟩, .slice (some ⟨w.heap.size, 0, none⟩) 3 3] (w.alloc (.cells #[.string ⟨L⟩, .string label, .string text] 9)) fun e w' => e = .returned (.string ⟨N⟩) ∧ Below (w.alloc (.cells #[.string ⟨L⟩, .string label, .string text] 9)).heap.size (w.alloc (.cells #[.string ⟨L⟩, .string label, .string text] 9)) w') := hT'
  have hb1 : Below w.heap.size w (w.alloc (.cells #[.string ⟨L⟩, .string label, .string text] 9)) := (Below.refl _ _).alloc (Nat.le_refl _) _
  obtain ⟨c0, f0⟩ := hL
  clear hT hT' hNe
  go_enter Try.func21, Try.ntmps21
  go_wp2_with fail
  refine (HT.out).mono ?_
  rintro e w2 ⟨rfl, hb2⟩
  have hb2' : Below w.heap.size w w2 := hb1.trans (hb2.mono hb1.size)
  have hL2 := RLog.below ⟨c0, f0⟩ hb2'
  have hO2 : Only y 0 1 w w2 := Only.of_below hb2' rfl hy
  obtain ⟨c2, f2⟩ := hL2
  clear HT hb1 hb2 c0 f0
  go_wp2
  go_end0
  exact ⟨rfl, hO2.setCell (by omega) (by omega) _, RLog.set ⟨c2, f2⟩ N⟩

/-- Two parts: the log and a label. -/
theorem refTag2 (lab : ByteArray) (hlab : lab.size ≤ 16384) (L : Bs) (hl : L.size = 32) (label : ByteArray) (hs : label.size ≤ 16384) (w : World) :
    Calls Try.prog 17 #[.string lab, .slice (some ⟨w.heap.size, 0, none⟩) 2 2] (w.alloc (.cells #[.string ⟨L⟩, .string label] 9)) fun e w' => e = .returned (.string ⟨tagL lab.data.toList [L.toList, label.data.toList]⟩) ∧ Below (w.alloc (.cells #[.string ⟨L⟩, .string label] 9)).heap.size (w.alloc (.cells #[.string ⟨L⟩, .string label] 9)) w' :=
  refTag_new lab #[.string ⟨L⟩, .string label] [⟨L⟩, label] 2 w rfl rfl (fun j hj => by
    have hj3 : j < 2 := hj
    match j, hj3 with
    | 0, _ => rfl
    | 1, _ => rfl) hlab (by decide) (fun p hp => by
    simp only [List.mem_cons, List.not_mem_nil, or_false] at hp
    rcases hp with rfl | rfl
    · show L.size ≤ 16384; omega
    · exact hs)

set_option maxHeartbeats 2000000 in
set_option maxRecDepth 100000 in
theorem refAsk_any (y : Nat) (L : Bs) (label : ByteArray) (n : Nat) (w : World) (hlab : label.size ≤ 16384) (hn : n ≤ 1024) (hl : L.size = 32) (hL : RLog w y L) :
    Calls Try.prog 23 #[.pointer (some ⟨y, 0, none⟩), .string label, .int .i64 (n : Int)] w fun e w' => e = .returned (.string ⟨askL L label.data.toList n⟩) ∧ Only y 0 1 w w' ∧ RLog w' y (askedL L label.data.toList) := by
  have hy := hL.lt
  have hT := refTag2 ⟨#[97, 115, 107]⟩ (by decide) L hl label hlab w
  obtain ⟨T, hTe⟩ : ∃ T, tagL [97, 115, 107] [L.toList, label.data.toList] = T := ⟨_, rfl⟩
  have hTs : T.size = 32 := by rw [← hTe, tagL_size]
  obtain ⟨N, hNe⟩ : ∃ N, askedL L label.data.toList = N := ⟨_, rfl⟩
  obtain ⟨A, hAe⟩ : ∃ A, askL L label.data.toList n = A := ⟨_, rfl⟩
  have HA : Hid (strmL T.toList n = A) := by
    show _ = _
    rw [← hAe, ← hTe]
    rfl
  have HN : Hid (tagL [97, 115, 107, 101, 100] [L.toList, label.data.toList] = N) := hNe
  have HT : Hid (Calls Try.prog 17 #[.string ⟨#[97, 115, 107]⟩, .slice (some ⟨w.heap.size, 0, none⟩) 2 2] (w.alloc (.cells #[.string ⟨L⟩, .string label] 9)) fun e w' => e = .returned (.string ⟨T⟩) ∧ Below (w.alloc (.cells #[.string ⟨L⟩, .string label] 9)).heap.size (w.alloc (.cells #[.string ⟨L⟩, .string label] 9)) w') := by
    show Calls _ _ _ _ _
    rw [← hTe]; exact hT
  rw [hNe, hAe]
  have hb1 : Below w.heap.size w (w.alloc (.cells #[.string ⟨L⟩, .string label] 9)) := (Below.refl _ _).alloc (Nat.le_refl _) _
  obtain ⟨c0, f0⟩ := hL
  clear hT hNe hAe hTe
  go_enter Try.func23, Try.ntmps23
  go_wp2_with fail
  refine (HT.out).mono ?_
  rintro e w2 ⟨rfl, hb2⟩
  have hb2' : Below w.heap.size w w2 := hb1.trans (hb2.mono hb1.size)
  clear HT hb1 hb2
  go_wp2_with fail
  refine (refStream_any ⟨T⟩ n _ (by show T.size ≤ 1048576; omega) (by omega)).mono ?_
  rintro e w3 ⟨rfl, hb3⟩
  have hAA : strmL (⟨T⟩ : ByteArray).data.toList n = A := HA.out
  rw [hAA]
  have hb3' : Below w.heap.size w w3 := hb2'.trans (hb3.mono hb2'.size)
  have hL3 := RLog.below ⟨c0, f0⟩ hb3'
  have hO3 : Only y 0 1 w w3 := Only.of_below hb3' rfl hy
  have hy3 := hL3.lt
  obtain ⟨c3, f3⟩ := hL3
  have hT4 := refTag2 ⟨#[97, 115, 107, 101, 100]⟩ (by decide) L hl label hlab w3
  have HT4 : Hid (Calls Try.prog 17 #[.string ⟨#[97, 115, 107, 101, 100]⟩, .slice (some ⟨w3.heap.size, 0, none⟩) 2 2] (w3.alloc (.cells #[.string ⟨L⟩, .string label] 9)) fun e w' => e = .returned (.string ⟨N⟩) ∧ Below (w3.alloc (.cells #[.string ⟨L⟩, .string label] 9)).heap.size (w3.alloc (.cells #[.string ⟨L⟩, .string label] 9)) w') := by
    show Calls _ _ _ _ _
    rw [← HN.out]; exact hT4
  have hb4 : Below w3.heap.size w3 (w3.alloc (.cells #[.string ⟨L⟩, .string label] 9)) := (Below.refl _ _).alloc (Nat.le_refl _) _
  clear c0 f0 hT4 hb2' hb3 hb3' hAA HA HN
  go_wp2_with fail
  refine (HT4.out).mono ?_
  rintro e w5 ⟨rfl, hb5⟩
  have hb5' : Below w3.heap.size w3 w5 := hb4.trans (hb5.mono hb4.size)
  have hL5 := RLog.below ⟨c3, f3⟩ hb5'
  have hO5 : Only y 0 1 w w5 := hO3.trans (Only.of_below hb5' rfl hy3)
  obtain ⟨c5, f5⟩ := hL5
  clear c3 f3 HT4 hb4 hb5 hb5' hO3
  go_wp2
  go_ret
  exact ⟨rfl, hO5.setCell (by omega) (by omega) _, RLog.set ⟨c5, f5⟩ N⟩
end Go.Proofs.Ytfclmmkgmhlbbaa
