import Derived.Test.YtfclmmkgmhlbbaaG2
namespace Go.Proofs.Ytfclmmkgmhlbbaa
open Go.RowKit Go.Sort Go.Deep

/-- S4: what a log bears. -/
def newL (label : List UInt8) : Bs := tagL [108, 111, 103] [label]
def sayL (L : Bs) (label text : List UInt8) : Bs := tagL [115, 97, 121] [L.toList, label, text]
def askL (L : Bs) (label : List UInt8) (n : Nat) : Bs := strmL (tagL [97, 115, 107] [L.toList, label]).toList n
def askedL (L : Bs) (label : List UInt8) : Bs := tagL [97, 115, 107, 101, 100] [L.toList, label]
theorem newL_size (l : List UInt8) : (newL l).size = 32 := tagL_size _ _
theorem sayL_size (L : Bs) (l t : List UInt8) : (sayL L l t).size = 32 := tagL_size _ _
theorem askedL_size (L : Bs) (l : List UInt8) : (askedL L l).size = 32 := tagL_size _ _
theorem askL_size (L : Bs) (l : List UInt8) (n : Nat) : (askL L l n).size = n := strmL_size _ _

/-- '[]byte(s)' as a part. -/
theorem conv_part (s : ByteArray) (w : World) (hs : s.size ≤ 1099511627776) :
    ∃ c w', (convert 9 22 (.string s)).run Try.prog w = .ok (.slice (some ⟨w.heap.size, 0, none⟩) s.size c) w' ∧ s.size ≤ c ∧ Holds encB w' w.heap.size 0 s.data ∧ PartOk w' (.slice (some ⟨w.heap.size, 0, none⟩) s.size c) s.data.toList ∧ Below w.heap.size w w' ∧ w.heap.size < w'.heap.size := by
  obtain ⟨v2, W2, hcv, own2, hb2, hv2⟩ := conv_bytes (w := w) (B := 0) s (Nat.zero_le _)
  rw [hv2] at hcv own2
  have hlt : w.heap.size < W2.heap.size := by
    obtain ⟨g, cap, cur, h1, _, h3, _⟩ := own2
    injection h1 with h1
    injection h1 with h1
    injection h1 with h1
    omega
  obtain ⟨hq0, hq1, hle2, hH2⟩ := own2.holds
  rw [← hq1] at hle2
  have hH2' : Holds encB W2 w.heap.size 0 s.data := by simpa using hH2
  have hle : s.size ≤ grownCap w s.size 0 5 := hle2
  exact ⟨_, W2, hcv, hle, hH2', ⟨_, w.heap.size, 0, _, s.data, rfl, rfl, hle, hs, Or.inr ⟨rfl, hH2'⟩⟩, hb2, hlt⟩

/-- A list of parts that has just been laid. -/
theorem parts_new (W : World) (vs : Array Value) (ps : List (List UInt8)) (t : TypeId) (hl : vs.size = ps.length) (h : ∀ j, j < ps.length → PartOk W vs[j]! ps[j]!) :
    PartsOk (W.alloc (.cells vs t)) (some ⟨W.heap.size, 0, none⟩) ps := by
  refine Or.inr ⟨W.heap.size, 0, rfl, fun j hj => ⟨vs[j]!, ?_, (h j hj).below ((Below.refl _ _).alloc (Nat.le_refl _) _)⟩⟩
  have e0 : vs.map encV = vs := by
    have : encV = id := rfl
    rw [this, Array.map_id]
  have := (Holds.new (enc := encV) W t vs j (by omega)).1
  rw [e0] at this
  exact this

theorem part_log {w : World} {b : Nat} {L : Bs} (hL : Holds encB w b 0 L) (hl : L.size = 32) : PartOk w (.slice (some ⟨b, 0, none⟩) 32 32) L.toList :=
  ⟨_, b, 0, 32, L, by rw [hl], rfl, by omega, by omega, Or.inr ⟨rfl, hL⟩⟩

theorem zero73 : ∀ w : World, (zeroValue 73).run Try.prog w = .ok (.agg (Array.replicate 32 (.int .u8 0))) w := fun _ => by kernel_rfl

set_option maxHeartbeats 2000000 in
set_option maxRecDepth 100000 in
theorem NewLog_any (label : ByteArray) (w : World) (hlab : label.size ≤ 1048576) :
    Calls Try.prog 18 #[.string label] w fun e w' => e = .returned (.pointer (some ⟨w.heap.size, 0, none⟩)) ∧ Below w.heap.size w w' ∧ Holds encB w' w.heap.size 0 (newL label.data.toList) := by
  have zv := zero73
  have hH0 : Holds encB (w.alloc (.cells (Array.replicate 32 (.int .u8 0)) 73)) w.heap.size 0 (Array.replicate 32 0) := by
    have := Holds.new (enc := encB) w 73 (Array.replicate 32 0)
    rw [Array.map_replicate] at this
    exact this
  have hb0 : Below w.heap.size w (w.alloc (.cells (Array.replicate 32 (.int .u8 0)) 73)) := (Below.refl _ _).alloc (Nat.le_refl _) _
  have hs0 : (w.alloc (.cells (Array.replicate 32 (.int .u8 0)) 73)).heap.size = w.heap.size + 1 := by simp
  obtain ⟨c, W1, hcv, hc, hH1, hP1, hb1, hlt1⟩ := conv_part label (w.alloc (.cells (Array.replicate 32 (.int .u8 0)) 73)) (by omega)
  have hH01 := Holds.below' hH0 hb1
  have hPs := parts_new W1 #[.slice (some ⟨(w.alloc (.cells (Array.replicate 32 (.int .u8 0)) 73)).heap.size, 0, none⟩) label.size c] [label.data.toList] 22 rfl (fun j hj => by
    have hj0 : j = 0 := by simpa using hj
    subst hj0
    exact hP1)
  have hb2 : Below W1.heap.size W1 (W1.alloc (.cells #[.slice (some ⟨(w.alloc (.cells (Array.replicate 32 (.int .u8 0)) 73)).heap.size, 0, none⟩) label.size c] 22)) := (Below.refl _ _).alloc (Nat.le_refl _) _
  have hH02 := Holds.below' hH01 hb2
  rw [hs0] at hcv hPs hb2 hH02 hlt1
  have hb3 : Below w.heap.size w (W1.alloc (.cells #[.slice (some ⟨w.heap.size + 1, 0, none⟩) label.size c] 22)) := (hb0.trans (hb1.mono (by omega))).trans (hb2.mono (by omega))
  clear hH0 hb0 hH1 hP1 hb1 hH01 hs0
  go_enter Try.func18, Try.ntmps18
  go_wp2_with fail
  refine (become_any w.heap.size (Array.replicate 32 0) ⟨#[108, 111, 103]⟩ (some ⟨W1.heap.size, 0, none⟩) 1 1 [label.data.toList] _ (by decide) rfl (by decide) hPs hH02 (by simp)).mono ?_
  rintro e w4 ⟨rfl, hO4, hH4⟩
  go_wp2
  go_ret
  exact ⟨rfl, hb3.trans (hO4.below hb3.size (Nat.le_refl _)), hH4⟩
end Go.Proofs.Ytfclmmkgmhlbbaa
