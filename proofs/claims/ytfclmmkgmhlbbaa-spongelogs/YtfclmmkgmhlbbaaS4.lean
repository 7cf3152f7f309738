import Derived.Test.YtfclmmkgmhlbbaaS3
import Derived.Test.YtfclmmkgmhlbbaaH2
import Derived.Deep.AppendSrc
import Derived.Lib.AppendZeros
namespace Go.Proofs.Ytfclmmkgmhlbbaa
open Go.RowKit Go.Sort Go.Deep

/-- 'append(out, x...)' of bytes, with room for them. -/
theorem append_room {w : World} {g l cap r k n c : Nat} {cur bs : Bs} (hC : Holds encB w g 0 cur) (hs : cur.size = cap) (hB : Holds encB w r 0 bs) (hk : bs.size = n) (hk2 : k = n) (hroom : l + n ≤ cap) (ty : TypeId) :
    (Builtin.append_ #[22, 22] ty #[.slice (some ⟨g, 0, none⟩) l cap, .slice (some ⟨r, 0, none⟩) k c]).run Try.prog w = .ok (.slice (some ⟨g, 0, none⟩) (l + n) cap) (w.setCells g l (bs.toList.map encB)) := by
  subst hk2
  obtain ⟨i, hi, _, hsz, _⟩ := info_parts info5
  have hlen : (bs.toList.map encB).length = k := by rw [List.length_map, Array.length_toList, hk]
  have hsrc : Src Try.prog i.size 22 (.slice (some ⟨r, 0, none⟩) k c) k (bs.toList.map encB) w := by
    rw [hsz]
    refine Src.ofSlice w slice22 ⟨r, 0, none⟩ k c _ (by rw [hlen, Nat.mul_one]) (fun j v hj => ?_) (fun v hv => ?_)
    · obtain ⟨h1, h2⟩ := List.getElem?_eq_some_iff.1 hj
      rw [hlen] at h1
      have hc := (hB j (by omega)).1
      rw [getElem!_pos bs j (by omega)] at hc
      rw [List.getElem_map, Array.getElem_toList] at h2
      have e1 : (⟨r, 0, none⟩ : Addr).add j = ⟨r, 0 + j, none⟩ := by
        unfold Addr.add
        by_cases h0 : j = 0
        · subst h0; rw [if_pos rfl]
        · rw [if_neg h0]
      rw [e1, hc, h2]
    · obtain ⟨x, _, rfl⟩ := List.mem_map.1 hv
      rfl
  have h := run_append_room_src (P := Try.prog) w 22 22 ty 5 i slice22 hi g 0 l cap (.slice (some ⟨r, 0, none⟩) k c) k _ hsrc hroom
    (fun j hj => by
      rw [hlen] at hj
      rw [hsz, Nat.mul_one, Nat.add_assoc, (hC (l + j) (by omega)).1]; rfl)
    (fun j hj => by
      rw [hlen] at hj
      rw [hsz, Nat.mul_one, Nat.add_assoc]
      exact (hC (l + j) (by omega)).2)
  rw [hsz, Nat.mul_one, Nat.zero_add] at h
  exact h

theorem Only.with_new {b o n g m p : Nat} {w w1 w2 : World} (h : Only b o n w w1) (k : Only g p m w1 w2) (hg : w.heap.size ≤ g) (hb : b < w.heap.size) : Only b o n w w2 := by
  have hs := h.size
  have e := k.block b (by omega) (by omega)
  exact ⟨k.os.trans h.os, k.tape.trans h.tape, k.output.trans h.output, Nat.le_trans h.size k.size,
    fun j hj hn => (k.block j (by omega) (by omega)).trans (h.block j hj hn),
    fun q hq => (World.cell?_of_block (w := w1) (a := ⟨b, q, none⟩) e).trans (h.cell q hq), fun q => (World.frozen?_of_block (w := w1) (a := ⟨b, q, none⟩) e).trans (h.froz q)⟩

theorem permN_pred (d : St) (m : Nat) (h : ¬ m = 0) : perm (permN d (m - 1)) = permN d m := by
  obtain ⟨k, rfl⟩ : ∃ k, m = k + 1 := ⟨m - 1, by omega⟩
  rw [Nat.add_sub_cancel, permN]

theorem stream_next (d : St) (m : Nat) (cur : Bs) (hc : 136 * m + 136 ≤ cur.size) (h : ∀ j, j < 136 * m → cur[j]! = streamAt d j) : ∀ j, j < 136 * (m + 1) → (splice cur (136 * m) (front (permN d m) 136).toList)[j]! = streamAt d j := by
  intro j hj
  have hl : (front (permN d m) 136).toList.length = 136 := by rw [Array.length_toList, front_size]
  rw [splice_at _ _ _ _ (by rw [hl]; exact hc) (by omega), hl]
  by_cases h1 : j < 136 * m
  · rw [if_neg (by omega), h j h1]
  · rw [if_pos (by omega), getElem!_pos _ (j - 136 * m) (by rw [hl]; omega), Array.getElem_toList, ← getElem!_pos (front (permN d m) 136) (j - 136 * m) (by rw [front_size]; omega), front_at _ _ _ (by omega)]
    unfold streamAt
    rw [show j / 136 = m by omega, show j % 136 = j - 136 * m by omega]

set_option maxHeartbeats 2000000 in
set_option maxRecDepth 100000 in
theorem give_any (b : Nat) (d : St) (n : Nat) (w : World) (h25 : d.size = 25) (hD : Holds enc w b 0 d) (hn : n ≤ 16384) :
    Calls Try.prog 33 #[.pointer (some ⟨b, 0, none⟩), .int .i64 (n : Int)] w fun e w' => e = .returned (.slice (some ⟨w.heap.size, 0, none⟩) n n) ∧ Only b 0 25 w w' ∧ Holds encB w' w.heap.size 0 (streamL d n) := by
  have hb := Holds.lt hD (by omega)
  obtain ⟨i, hi, hz0, hsz, hby⟩ := info_parts info5
  obtain ⟨cp, hcp⟩ : ∃ c, n + 136 = c := ⟨_, rfl⟩
  have hmk : ∀ w : World, (Instr.makeSlice 22 (.int .i64 0) (.int .i64 ((n : Int) + 136))).run Try.prog w = .ok (.slice (some ⟨w.heap.size, 0, none⟩) 0 cp) (w.alloc (.cells (madeCells #[.int .u8 0] cp) 5)) := by
    intro w
    have h := run_make (P := Try.prog) w 22 5 i (.int .u8 0) slice22 hi hz0 .i64 .i64 0 ((n : Int) + 136) (by omega) (by omega) (by rw [hby]; omega) (by omega)
    rw [hsz, Nat.mul_one, show ((n : Int) + 136).toNat = cp by omega] at h
    exact h
  have hC0 : Holds encB (w.alloc (.cells (madeCells #[.int .u8 0] cp) 5)) w.heap.size 0 (Array.replicate cp 0) := Holds.made (enc := encB) w 5 cp 0
  have hO0 : Only b 0 25 w (w.alloc (.cells (madeCells #[.int .u8 0] cp) 5)) := (Only.refl _ _ _ _).alloc hb _
  have hD0 := Holds.below hD ((Below.refl w.heap.size w).alloc (Nat.le_refl _) (.cells (madeCells #[.int .u8 0] cp) 5)) hb
  have hs0 : w.heap.size < (w.alloc (.cells (madeCells #[.int .u8 0] cp) 5)).heap.size := by simp
  clear hi hz0 hsz hby
  have Hcp : Hid (n + 136 = cp) := hcp
  have hcl : n + 136 ≤ cp := by omega
  have hcg : cp ≤ n + 136 := by omega
  clear hcp
  go_enter Try.func33, Try.ntmps33
  go_wp2
  generalize w.alloc _ = W1 at hC0 hO0 hD0 hs0 ⊢
  clear hmk
  go_loopg [5] cp (fun g s5 wr => ∃ (m l : Nat) (cur : Bs), Hid (l = 136 * m) ∧ l + g = cp ∧ 1 ≤ g ∧ s5 = .slice (some ⟨w.heap.size, 0, none⟩) l cp ∧ Holds encB wr w.heap.size 0 cur ∧ cur.size = cp ∧ Holds enc wr b 0 (permN d (m - 1)) ∧ Only b 0 25 w wr ∧ w.heap.size < wr.heap.size ∧ Hid (∀ j, j < 136 * m → cur[j]! = streamAt d j))
  case atStart => exact ⟨0, 0, _, rfl, by omega, by have := Hcp.out; omega, rfl, hC0, by rw [Array.size_replicate], hD0, hO0, hs0, fun j hj => by omega⟩
  case round =>
    clear hC0 hO0 hD0 hs0
    obtain ⟨m, l, cur, Hl, hg, hg1, rfl, hC, hcs, hDm, hO, hs, HE⟩ := hrel
    have hps := permN_size d h25 (m - 1)
    by_cases hlt : l < n
    · have hlt' : (l : Int) < (n : Int) := by omega
      have HN : Hid (∀ j, j < 136 * (m + 1) → (splice cur l (front (permN d m) 136).toList)[j]! = streamAt d j) := by
        rw [Hl.out]
        exact stream_next d m cur (by rw [← Hl.out]; omega) HE
      by_cases hm0 : m = 0
      · have hz0 : ¬ (0 : Int) < (l : Int) := by have := Hl.out; omega
        have hDm0 : Holds enc wr b 0 (permN d m) := by rw [hm0] at hDm ⊢; exact hDm
        have Hm0 : Hid (m = 0) := hm0
        clear hm0 hDm HE
        go_wp2_with fail
        refine (front_any b 0 136 _ _ (permN_size d h25 m) hDm0 (by decide)).mono ?_
        rintro e w2 ⟨rfl, hb2, hF⟩
        have hC2 := Holds.below hC hb2 (Holds.lt hC (by omega))
        have hD2 := Holds.below hDm0 hb2 (Holds.lt hDm0 (by rw [permN_size d h25]; decide))
        have hap := append_room (l := l) (k := 136) (n := 136) (c := 136) hC2 hcs hF (front_size _ _) rfl (by omega) 22
        have hC3 := holds_splice hC2 l (front (permN d m) 136).toList (by rw [Array.length_toList, front_size]; omega)
        rw [Nat.zero_add] at hC3
        have hO2 : Only b 0 25 w w2 := hO.trans (Only.of_below hb2 rfl (Holds.lt hDm0 (by rw [permN_size d h25]; decide)))
        have hOn : Only w.heap.size 0 cp w2 (w2.setCells w.heap.size l ((front (permN d m) 136).toList.map encB)) := (Only.refl _ _ _ _).setCells _ _ (by omega) (by rw [List.length_map, Array.length_toList, front_size]; omega)
        have hO3 := hO2.with_new hOn (Nat.le_refl _) hb
        have hD3 := Holds.other hD2 hOn (by omega) (by rw [permN_size d h25]; decide)
        have hs3 : w.heap.size < (w2.setCells w.heap.size l ((front (permN d m) 136).toList.map encB)).heap.size := Nat.lt_of_lt_of_le (Holds.lt hC2 (by omega)) hOn.size
        generalize w2.setCells w.heap.size l ((front (permN d m) 136).toList.map encB) = W3 at hap hC3 hO3 hD3 hs3
        have HAP : Hid _ := hap
        clear hC2 hD2 hF hb2 hOn hO2 hap
        go_wp2_with (at_builtin; refine Lib.wpList_append_run _ rfl _ _ 22 22 rfl _ _ rfl rfl _ _ HAP.out ?_)
        go_roundg (gk - 136)
        case measure => omega
        case rel =>
          exact ⟨m + 1, l + 136, _, by have := Hl.out; show _ = _; omega, by omega, by omega, rfl, hC3, by rw [splice_size, hcs], hD3, hO3, hs3, HN⟩
      · have hpos : (0 : Int) < (l : Int) := by have := Hl.out; omega
        clear HE
        go_wp2_with fail
        refine (permute_any b 0 _ _ hps hDm).mono ?_
        rintro e w1 ⟨rfl, hO1, hD1⟩
        rw [permN_pred d m hm0] at hD1
        have hC1 := Holds.other hC hO1 (by omega) (by omega)
        have hO1' := hO.trans hO1
        go_wp2_with fail
        refine (front_any b 0 136 _ _ (permN_size d h25 m) hD1 (by decide)).mono ?_
        rintro e w2 ⟨rfl, hb2, hF⟩
        have hC2 := Holds.below hC1 hb2 (Holds.lt hC1 (by omega))
        have hD2 := Holds.below hD1 hb2 (Holds.lt hD1 (by rw [permN_size d h25]; decide))
        have hap := append_room (l := l) (k := 136) (n := 136) (c := 136) hC2 hcs hF (front_size _ _) rfl (by omega) 22
        have hC3 := holds_splice hC2 l (front (permN d m) 136).toList (by rw [Array.length_toList, front_size]; omega)
        rw [Nat.zero_add] at hC3
        have hO2 : Only b 0 25 w w2 := hO1'.trans (Only.of_below hb2 rfl (Holds.lt hD1 (by rw [permN_size d h25]; decide)))
        have hOn : Only w.heap.size 0 cp w2 (w2.setCells w.heap.size l ((front (permN d m) 136).toList.map encB)) := (Only.refl _ _ _ _).setCells _ _ (by omega) (by rw [List.length_map, Array.length_toList, front_size]; omega)
        have hO3 := hO2.with_new hOn (Nat.le_refl _) hb
        have hD3 := Holds.other hD2 hOn (by omega) (by rw [permN_size d h25]; decide)
        have hs3 : w.heap.size < (w2.setCells w.heap.size l ((front (permN d m) 136).toList.map encB)).heap.size := Nat.lt_of_lt_of_le (Holds.lt hC2 (by omega)) hOn.size
        generalize w2.setCells w.heap.size l ((front (permN d m) 136).toList.map encB) = W3 at hap hC3 hO3 hD3 hs3
        have HAP : Hid _ := hap
        clear hC2 hD2 hF hb2 hOn hO2 hap
        go_wp2_with (at_builtin; refine Lib.wpList_append_run _ rfl _ _ 22 22 rfl _ _ rfl rfl _ _ HAP.out ?_)
        go_roundg (gk - 136)
        case measure => omega
        case rel =>
          exact ⟨m + 1, l + 136, _, by have := Hl.out; show _ = _; omega, by omega, by omega, rfl, hC3, by rw [splice_size, hcs], hD3, hO3, hs3, HN⟩
    · have hge : (n : Int) ≤ (l : Int) := by omega
      have hle : n ≤ cp := by omega
      have hle' : (n : Int) ≤ (cp : Int) := by omega
      go_wp2
      go_ret
      refine ⟨rfl, hO, fun j hj => ?_⟩
      rw [streamL_size] at hj
      have := hC j (by omega)
      rw [HE.out j (by have := Hl.out; omega)] at this
      rw [streamL_at d n j hj]
      exact this
end Go.Proofs.Ytfclmmkgmhlbbaa
