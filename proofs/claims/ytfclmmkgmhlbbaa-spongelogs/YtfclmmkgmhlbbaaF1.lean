import Derived.Test.YtfclmmkgmhlbbaaT2
namespace Go.Proofs.Ytfclmmkgmhlbbaa
open Go.RowKit Go.Sort Go.Deep

def lenB (n d : Nat) : UInt8 := UInt8.ofNat (n / d)
theorem lenB_int (n d : Nat) : (n : Int) / (d : Int) % 256 = ub (lenB n d) := by
  have e2 : ((n : Int) / (d : Int)) = ((n / d : Nat) : Int) := by rw [Int.natCast_ediv]
  rw [e2]
  unfold ub lenB
  rw [UInt8.toNat_ofNat']
  omega
theorem lenB_one (n : Nat) : (n : Int) % 256 = ub (lenB n 1) := by
  have := lenB_int n 1
  rw [show ((1 : Nat) : Int) = 1 from rfl, Int.ediv_one] at this
  exact this
/-- FRAME. -/
def frameL (l : List UInt8) : List UInt8 := [lenB l.length 16777216, lenB l.length 65536, lenB l.length 256, lenB l.length 1] ++ l
theorem frameL_length (l : List UInt8) : (frameL l).length = l.length + 4 := by
  unfold frameL
  rw [List.length_append]
  simp only [List.length_cons, List.length_nil]
  omega

theorem holds_four (w : World) (x y z t : UInt8) : Holds encB (w.alloc (.cells #[.int .u8 (ub x), .int .u8 (ub y), .int .u8 (ub z), .int .u8 (ub t)] 5)) w.heap.size 0 #[x, y, z, t] := by
  have h := Holds.new (enc := encB) w 5 #[x, y, z, t]
  have e : Array.map encB #[x, y, z, t] = #[.int .u8 (ub x), .int .u8 (ub y), .int .u8 (ub z), .int .u8 (ub t)] := by simp [encB]
  rw [e] at h
  exact h

theorem HSp.only {w w' : World} {b c o n : Nat} {S : Sp} (h : HSp w b S) (k : Only c o n w w') (hne : b ≠ c) : HSp w' b S := by
  have e := k.block b h.lt hne
  refine ⟨fun j hj => ?_, fun j hj => ?_, ?_, ?_⟩
  · rw [World.cell?_of_block (w := w) (a := ⟨b, 0 + j, none⟩) e, World.frozen?_of_block (w := w) (a := ⟨b, 0 + j, none⟩) e]; exact h.d j hj
  · rw [World.cell?_of_block (w := w) (a := ⟨b, 25 + j, none⟩) e, World.frozen?_of_block (w := w) (a := ⟨b, 25 + j, none⟩) e]; exact h.p j hj
  · rw [World.cell?_of_block (w := w) (a := ⟨b, 161, none⟩) e]; exact h.h
  · rw [World.frozen?_of_block (w := w) (a := ⟨b, 161, none⟩) e]; exact h.f

set_option maxHeartbeats 1000000 in
set_option maxRecDepth 100000 in
theorem takeFrame_any (b : Nat) (S : Sp) (a : Option Addr) (sb so len cap : Nat) (bs : Bs) (w : World) (hok : Ok S) (hS : HSp w b S) (hl : bs.size = len) (hcap : len ≤ cap) (hbig : len ≤ 1099511627776)
    (hsrc : len = 0 ∨ (a = some ⟨sb, so, none⟩ ∧ sb ≠ b ∧ Holds encB w sb so bs)) :
    Calls Try.prog 35 #[.pointer (some ⟨b, 0, none⟩), .slice a len cap] w fun e w' => e = .returned (.tuple #[]) ∧ Only b 0 162 w w' ∧ HSp w' b (takeL S (frameL bs.toList)) := by
  have hb := hS.lt
  have b0 : (len : Int) / 16777216 % 256 = ub (lenB len 16777216) := lenB_int len 16777216
  have b1 : (len : Int) / 65536 % 256 = ub (lenB len 65536) := lenB_int len 65536
  have b2 : (len : Int) / 256 % 256 = ub (lenB len 256) := lenB_int len 256
  have b3 : (len : Int) % 256 = ub (lenB len 1) := lenB_one len
  have hF : Hid (frameL bs.toList = (#[lenB len 16777216, lenB len 65536, lenB len 256, lenB len 1] : Bs).toList ++ bs.toList) := by
    unfold frameL
    rw [Array.length_toList, hl]
    rfl
  have h4 := holds_four w (lenB len 16777216) (lenB len 65536) (lenB len 256) (lenB len 1)
  generalize lenB len 16777216 = x0 at *
  generalize lenB len 65536 = x1 at *
  generalize lenB len 256 = x2 at *
  generalize lenB len 1 = x3 at *
  have hb0 : Below w.heap.size w (w.alloc (.cells #[.int .u8 (ub x0), .int .u8 (ub x1), .int .u8 (ub x2), .int .u8 (ub x3)] 5)) := (Below.refl _ _).alloc (Nat.le_refl _) _
  have hS1 := hS.below hb0 hb
  have hO0 : Only b 0 162 w (w.alloc (.cells #[.int .u8 (ub x0), .int .u8 (ub x1), .int .u8 (ub x2), .int .u8 (ub x3)] 5)) := Only.of_below hb0 rfl hb
  have hsrc1 : len = 0 ∨ (a = some ⟨sb, so, none⟩ ∧ sb ≠ b ∧ Holds encB (w.alloc (.cells #[.int .u8 (ub x0), .int .u8 (ub x1), .int .u8 (ub x2), .int .u8 (ub x3)] 5)) sb so bs) := by
    by_cases h0 : len = 0
    · exact Or.inl h0
    · rcases hsrc with h | ⟨h1, h2, h3⟩
      · exact Or.inl h
      · exact Or.inr ⟨h1, h2, Holds.below h3 hb0 (Holds.lt h3 (by omega))⟩
  clear hsrc
  go_enter Try.func35, Try.ntmps35
  go_wp2_with fail
  generalize w.alloc (.cells #[.int .u8 (ub x0), .int .u8 (ub x1), .int .u8 (ub x2), .int .u8 (ub x3)] 5) = W1 at h4 hb0 hS1 hO0 hsrc1 ⊢
  refine (take_any b S (some ⟨w.heap.size, 0, none⟩) w.heap.size 0 4 4 #[x0, x1, x2, x3] W1 hok hS1 rfl (Nat.le_refl _) (by decide) (Or.inr ⟨rfl, by omega, h4⟩)).mono ?_
  rintro e w2 ⟨rfl, hO2, hS2⟩
  have hsrc2 : len = 0 ∨ (a = some ⟨sb, so, none⟩ ∧ sb ≠ b ∧ Holds encB w2 sb so bs) := by
    by_cases h0 : len = 0
    · exact Or.inl h0
    · rcases hsrc1 with h | ⟨h1, h2, h3⟩
      · exact Or.inl h
      · exact Or.inr ⟨h1, h2, Holds.other h3 hO2 h2 (by omega)⟩
  go_wp2_with fail
  refine (take_any b _ a sb so len cap bs w2 (takeL_ok hok _) hS2 hl hcap hbig hsrc2).mono ?_
  rintro e w3 ⟨rfl, hO3, hS3⟩
  go_wp2
  go_end0
  refine ⟨rfl, (hO0.trans hO2).trans hO3, ?_⟩
  rw [hF.out, takeL_append]
  exact hS3

set_option maxHeartbeats 1000000 in
theorem Frame_any (s : ByteArray) (w : World) (hs : s.size ≤ 1048576) :
    Calls Try.prog 36 #[.string s] w fun e w' => ∃ o, e = .returned (.string o) ∧ o.data.toList = frameL s.data.toList ∧ Below w.heap.size w w' := by
  have b0 : (s.size : Int) / 16777216 % 256 = ub (lenB s.size 16777216) := lenB_int s.size 16777216
  have b1 : (s.size : Int) / 65536 % 256 = ub (lenB s.size 65536) := lenB_int s.size 65536
  have b2 : (s.size : Int) / 256 % 256 = ub (lenB s.size 256) := lenB_int s.size 256
  have b3 : (s.size : Int) % 256 = ub (lenB s.size 1) := lenB_one s.size
  have hF : Hid (frameL s.data.toList = (#[lenB s.size 16777216, lenB s.size 65536, lenB s.size 256, lenB s.size 1] : Bs).toList ++ s.data.toList) := by
    unfold frameL
    rw [Array.length_toList]
    rfl
  have h4 := holds_four w (lenB s.size 16777216) (lenB s.size 65536) (lenB s.size 256) (lenB s.size 1)
  generalize lenB s.size 16777216 = x0 at *
  generalize lenB s.size 65536 = x1 at *
  generalize lenB s.size 256 = x2 at *
  generalize lenB s.size 1 = x3 at *
  have kc := conv_str Try.prog 22 9 5 slice22 int5 str9 _ w.heap.size 0 4 4 #[x0, x1, x2, x3] h4 rfl
  have c0 : (s.size : Int) / 16777216 = ub x0 := by omega
  have c1 : (s.size : Int) / 65536 = ub x1 := by omega
  go_enter Try.func36, Try.ntmps36
  go_wp2
  go_ret
  refine ⟨_, rfl, ?_, (Below.refl _ _).alloc (Nat.le_refl _) _⟩
  rw [hF.out, ByteArray.data_append, Array.toList_append]
end Go.Proofs.Ytfclmmkgmhlbbaa
