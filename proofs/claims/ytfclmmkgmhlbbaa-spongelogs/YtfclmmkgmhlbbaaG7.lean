import Derived.Test.YtfclmmkgmhlbbaaG6
import Derived.Deep.MidRow
import Derived.Deep.WholeRow
namespace Go.Proofs.Ytfclmmkgmhlbbaa
open Go.RowKit Go.Sort Go.Deep

theorem row_of {t : TypeId} (h : (Try.prog.underlying t).map TypeDesc.isRow = some true) : ∃ d, Try.prog.underlying t = some d ∧ TypeDesc.isRow d = true := by
  cases hu : Try.prog.underlying t with
  | none => rw [hu] at h; simp at h
  | some d => rw [hu] at h; exact ⟨d, rfl, by simpa using h⟩
theorem row73 : ∃ d, Try.prog.underlying 73 = some d ∧ TypeDesc.isRow d = true := row_of (by kernel_rfl)
theorem size73 : (Try.prog.info? 73).map (·.size) = some 32 := by kernel_rfl
theorem row47 : ∃ d, Try.prog.underlying 47 = some d ∧ TypeDesc.isRow d = true := row_of (by kernel_rfl)
theorem size47 : (Try.prog.info? 47).map (·.size) = some 4 := by kernel_rfl
theorem zero47 : ∀ w : World, (zeroValue 47).run Try.prog w = .ok (.agg #[.int .i64 0, .int .i64 0, .string ByteArray.empty, .string ByteArray.empty]) w := fun _ => by kernel_rfl

theorem range_of {w : World} {b : Nat} {L : Bs} (hL : Holds encB w b 0 L) : w.rangeAt b 0 (L.toList.map encB) := fun j v hj => by
  obtain ⟨h1, h2⟩ := List.getElem?_eq_some_iff.1 hj
  have h3 : j < L.size := by simpa using h1
  have := (hL j h3).1
  rw [this, ← h2, List.getElem_map, Array.getElem_toList, getElem!_pos L j h3]
theorem there_of {w : World} {b n : Nat} {L : Bs} (hL : Holds encB w b 0 L) (hn : n = L.size) : w.there b 0 n := fun j hj => by
  have := hL j (by omega)
  exact ⟨by rw [this.1]; rfl, this.2⟩
theorem map_encB_one (L : Bs) : (L.toList.map encB).toArray.all (·.oneCell') = true := by
  rw [Array.all_eq_true_iff_forall_mem]
  intro v hv
  obtain ⟨x, _, rfl⟩ : ∃ a, a ∈ L ∧ encB a = v := by simpa using hv
  rfl

set_option maxHeartbeats 2000000 in
set_option maxRecDepth 100000 in
theorem Clone_any (b : Nat) (L : Bs) (w : World) (hL : Holds encB w b 0 L) (hl : L.size = 32) :
    Calls Try.prog 24 #[.pointer (some ⟨b, 0, none⟩)] w fun e w' => e = .returned (.pointer (some ⟨w.heap.size, 0, none⟩)) ∧ Below w.heap.size w w' ∧ Holds encB w' w.heap.size 0 L := by
  obtain ⟨d, hd, hr⟩ := row73
  have zv := zero73
  have hrg := range_of hL
  have hlen : (L.toList.map encB).length = 32 := by rw [List.length_map, Array.length_toList, hl]
  have hsz : (Try.prog.info? 73).map (·.size) = some (L.toList.map encB).length := by rw [size73, hlen]
  have hsz2 : (Try.prog.info? 73).map (·.size) = some (L.toList.map encB).toArray.size := by rw [size73, List.size_toArray, hlen]
  have hone := map_encB_one L
  have hH0 : Holds encB (w.alloc (.cells (Array.replicate 32 (.int .u8 0)) 73)) w.heap.size 0 (Array.replicate 32 0) := by
    have := Holds.new (enc := encB) w 73 (Array.replicate 32 0)
    rw [Array.map_replicate] at this
    exact this
  have hth : (w.alloc (.cells (Array.replicate 32 (.int .u8 0)) 73)).there w.heap.size 0 (L.toList.map encB).toArray.size := there_of hH0 (by rw [List.size_toArray, hlen, Array.size_replicate])
  have hH := holds_copied (T := L) hH0 (by rw [Array.size_replicate]) hl
  have hb : Below w.heap.size w ((w.alloc (.cells (Array.replicate 32 (.int .u8 0)) 73)).setCells w.heap.size 0 (L.toList.map encB)) :=
    below_setCells (Nat.le_refl _) _ _ _ ((Below.refl _ _).alloc (Nat.le_refl _) _)
  have HD : Hid (Try.prog.underlying 73 = some d) := hd
  have HZ : Hid ((Try.prog.info? 73).map (·.size) = some (L.toList.map encB).length) := hsz
  have HZ2 : Hid ((Try.prog.info? 73).map (·.size) = some (L.toList.map encB).toArray.size) := hsz2
  have HO : Hid ((L.toList.map encB).toArray.all (·.oneCell') = true) := hone
  clear hd hsz hsz2 hone hlen hL hH0
  go_enter Try.func24, Try.ntmps24
  go_wp2_with (first | refine wpList_load_mid rfl 73 _ rfl b 0 rfl (L.toList.map encB) d hrg HD.out hr HZ.out ?_ | refine wpList_store_mid rfl 73 _ _ rfl w.heap.size 0 (L.toList.map encB).toArray rfl rfl hth HZ2.out HO.out ?_)
  go_ret
  exact ⟨rfl, hb, hH⟩
end Go.Proofs.Ytfclmmkgmhlbbaa
