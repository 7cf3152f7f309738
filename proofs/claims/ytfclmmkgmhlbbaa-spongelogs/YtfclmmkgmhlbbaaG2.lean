import Derived.Test.YtfclmmkgmhlbbaaG1
import Derived.BigQuiet
namespace Go.Proofs.Ytfclmmkgmhlbbaa
open Go.RowKit Go.Sort Go.Deep

theorem copy_log {w : World} {b r : Nat} {L T : Bs} (hL : Holds encB w b 0 L) (hl : L.size = 32) (hT : Holds encB w r 0 T) (ht : T.size = 32) :
    (Builtin.copy_ #[22, 22] 3 #[.slice (some ⟨b, 0, none⟩) 32 32, .slice (some ⟨r, 0, none⟩) 32 32]).run Try.prog w = .ok (goInt 32) (w.setCells b 0 (T.toList.map encB)) := by
  have hlen : (T.toList.map encB).length = 32 := by rw [List.length_map, Array.length_toList, ht]
  have := run_copy_cells (P := Try.prog) w 22 22 3 5 b 0 32 32 ⟨r, 0, none⟩ 32 32 (T.toList.map encB) slice22 ints5 (by rw [hlen]; rfl)
    (fun j u hj => by
      obtain ⟨h1, h2⟩ := List.getElem?_eq_some_iff.1 hj
      rw [hlen] at h1
      have hc := (hT j (by omega)).1
      rw [getElem!_pos T j (by omega)] at hc
      rw [List.getElem_map, Array.getElem_toList] at h2
      have e1 : (⟨r, 0, none⟩ : Addr).add j = ⟨r, 0 + j, none⟩ := by
        unfold Addr.add
        by_cases h0 : j = 0
        · subst h0; rw [if_pos rfl]
        · rw [if_neg h0]
      rw [e1, hc, h2])
    (fun j hj => by rw [(hL j (by omega)).1]; rfl) (fun j hj => (hL j (by omega)).2)
    (fun u hu => by obtain ⟨x, _, rfl⟩ := List.mem_map.1 hu; rfl)
  rw [hlen] at this
  exact this

theorem holds_copied {w : World} {b : Nat} {L T : Bs} (hL : Holds encB w b 0 L) (hl : L.size = 32) (ht : T.size = 32) : Holds encB (w.setCells b 0 (T.toList.map encB)) b 0 T := by
  have hlen : (T.toList.map encB).length = 32 := by rw [List.length_map, Array.length_toList, ht]
  refine Holds.setCells hL (T.toList.map encB) 0 (by omega) (by omega) (fun j hj => ?_) (fun j h1 h2 => by omega)
  rw [hlen] at hj
  rw [List.getElem_map, Array.getElem_toList, Nat.zero_add, getElem!_pos T j (by omega)]

theorem become_end {w w2 : World} {b : Nat} {L T : Bs} (hL : Holds encB w b 0 L) (hl : L.size = 32) (ht : T.size = 32) (hb : b < w.heap.size) (hb2 : Below w.drew.heap.size w.drew w2) :
    Only b 0 32 w (w2.setCells b 0 (T.toList.map encB)) ∧ Holds encB (w2.setCells b 0 (T.toList.map encB)) b 0 T := by
  have hlen : (T.toList.map encB).length = 32 := by rw [List.length_map, Array.length_toList, ht]
  refine ⟨?_, holds_copied (Holds.below (Holds.drew hL) hb2 hb) hl ht⟩
  exact Only.setCells (((Only.refl b 0 32 w).drew).trans (Only.of_below hb2 rfl hb)) _ 0 (Nat.le_refl _) (by omega)

set_option maxHeartbeats 2000000 in
set_option maxRecDepth 100000 in
theorem become_any (b : Nat) (L : Bs) (label : ByteArray) (pa : Option Addr) (pcap n : Nat) (ps : List (List UInt8)) (w : World) (hlab : label.size ≤ 1048576) (hpl : ps.length = n) (hn : n ≤ 1048576) (hP : PartsOk w pa ps) (hL : Holds encB w b 0 L) (hl : L.size = 32) :
    Calls Try.prog 37 #[.pointer (some ⟨b, 0, none⟩), .string label, .slice pa n pcap] w fun e w' => e = .returned (.tuple #[]) ∧ Only b 0 32 w w' ∧ Holds encB w' b 0 (tagL label.data.toList ps) := by
  subst hpl
  have hb := Holds.lt hL (by omega)
  have ht := Tag_any label pa pcap ps w.drew hlab hn (hP.below ((Below.refl _ _).drew))
  generalize hT : tagL label.data.toList ps = T at ht ⊢
  have hTs : T.size = 32 := by rw [← hT, tagL_size]
  have HT : Hid (Calls Try.prog 16 #[.string label, .slice pa ps.length pcap] w.drew fun e w' => ∃ r, e = .returned (.slice (some ⟨r, 0, none⟩) 32 32) ∧ w.drew.heap.size ≤ r ∧ Below w.drew.heap.size w.drew w' ∧ Holds encB w' r 0 T) := ht
  generalize ps.length = n at *
  clear hT ht hP
  go_enter Try.func37, Try.ntmps37
  go_wp2
  go_region_with (go_at_call 16; refine Calls.mono HT.out ?_; rintro e w2 ⟨r2, rfl, hr2, hb2, hH2⟩; have hcp := copy_log (Holds.below (Holds.drew hL) hb2 hb) hl hH2 hTs; have hfin := become_end hL hl hTs hb hb2)
  all_goals (try go_wp2)
  all_goals go_end0
  all_goals exact ⟨rfl, hfin⟩
end Go.Proofs.Ytfclmmkgmhlbbaa
