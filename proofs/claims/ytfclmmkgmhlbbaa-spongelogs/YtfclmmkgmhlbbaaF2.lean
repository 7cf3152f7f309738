import Derived.Test.YtfclmmkgmhlbbaaF1
namespace Go.Proofs.Ytfclmmkgmhlbbaa
open Go.RowKit Go.Sort Go.Deep

/-- What a tag hashes. -/
def framesL (label : List UInt8) (ps : List (List UInt8)) : List UInt8 := frameL label ++ ps.flatMap frameL
/-- S3. -/
def tagL (label : List UInt8) (ps : List (List UInt8)) : Bs := hashL (framesL label ps)
theorem tagL_size (label : List UInt8) (ps : List (List UInt8)) : (tagL label ps).size = 32 := hashL_size _
theorem framesL_snoc (label : List UInt8) (ps : List (List UInt8)) (x : List UInt8) : framesL label (ps ++ [x]) = framesL label ps ++ frameL x := by
  unfold framesL
  rw [List.flatMap_append, ← List.append_assoc]
  simp

/-- A slice of bytes that is there. -/
def PartOk (w : World) (v : Value) (x : List UInt8) : Prop :=
  ∃ a sb so cap bs, v = .slice a (Array.size bs) cap ∧ bs.toList = x ∧ bs.size ≤ cap ∧ bs.size ≤ 1099511627776 ∧ (bs.size = 0 ∨ (a = some ⟨sb, so, none⟩ ∧ Holds encB w sb so bs))
theorem PartOk.below {w w1 : World} {v : Value} {x : List UInt8} (h : PartOk w v x) (k : Below w.heap.size w w1) : PartOk w1 v x := by
  obtain ⟨a, sb, so, cap, bs, h1, h2, h3, h4, h5⟩ := h
  refine ⟨a, sb, so, cap, bs, h1, h2, h3, h4, ?_⟩
  rcases h5 with h5 | ⟨h5, h6⟩
  · exact Or.inl h5
  · exact Or.inr ⟨h5, Holds.below' h6 k⟩
/-- A list of such. -/
def PartsOk (w : World) (pa : Option Addr) (ps : List (List UInt8)) : Prop :=
  ps.length = 0 ∨ ∃ pb po, pa = some ⟨pb, po, none⟩ ∧ ∀ j, j < ps.length → ∃ v, w.cell? ⟨pb, po + j, none⟩ = some v ∧ PartOk w v ps[j]!

theorem PartsOk.below {w w1 : World} {pa : Option Addr} {ps : List (List UInt8)} (h : PartsOk w pa ps) (k : Below w.heap.size w w1) : PartsOk w1 pa ps := by
  rcases h with h | ⟨pb, po, h1, h2⟩
  · exact Or.inl h
  · refine Or.inr ⟨pb, po, h1, fun j hj => ?_⟩
    obtain ⟨v, h3, h4⟩ := h2 j hj
    exact ⟨v, by rw [k.cell (p := ⟨pb, po + j, none⟩) (World.block_lt_of_cell? _ _ h3)]; exact h3, h4.below k⟩

theorem framesL_take (label : List UInt8) (ps : List (List UInt8)) (k : Nat) : (framesL label (ps.take k)).length ≤ (framesL label ps).length := by
  have e : framesL label ps = framesL label (ps.take k) ++ (ps.drop k).flatMap frameL := by
    unfold framesL
    rw [List.append_assoc, ← List.flatMap_append, List.take_append_drop]
  rw [e, List.length_append]
  omega

theorem take_snoc_getD {α : Type} [Inhabited α] (l : List α) (k : Nat) (h : k < l.length) : l.take (k + 1) = l.take k ++ [l[k]!] := by
  rw [List.take_succ_eq_append_getElem h, getElem!_pos l k h]

set_option maxHeartbeats 2000000 in
set_option maxRecDepth 100000 in
theorem Tag_any (label : ByteArray) (pa : Option Addr) (pcap : Nat) (ps : List (List UInt8)) (w : World) (hlab : label.size ≤ 1048576) (hpl : ps.length ≤ 1048576) (hP : PartsOk w pa ps) :
    Calls Try.prog 16 #[.string label, .slice pa ps.length pcap] w fun e w' => ∃ r, e = .returned (.slice (some ⟨r, 0, none⟩) 32 32) ∧ w.heap.size ≤ r ∧ Below w.heap.size w w' ∧ Holds encB w' r 0 (tagL label.data.toList ps) := by
  have hS0 := hsp_new w 68
  have hb0 : Below w.heap.size w (w.alloc (.cells spZero 68)) := (Below.refl _ _).alloc (Nat.le_refl _) _
  have hs0 : (w.alloc (.cells spZero 68)).heap.size = w.heap.size + 1 := by simp
  have zv := zero68
  generalize hW1 : w.alloc (.cells spZero 68) = W1 at hS0 hb0 hs0
  obtain ⟨v2, W2, hcv, own2, hb2, hv2⟩ := conv_bytes (w := W1) (B := 0) label (Nat.zero_le _)
  rw [hv2] at hcv own2
  obtain ⟨hq0, hq1, hle2, hH2⟩ := own2.holds
  rw [← hq1] at hle2
  clear hq0 hq1
  have hH2' : Holds encB W2 W1.heap.size 0 label.data := by simpa using hH2
  have hS2 := hS0.below hb2 hS0.lt
  have hsz2 := hb2.size
  obtain ⟨n, hn⟩ : ∃ n, ps.length = n := ⟨_, rfl⟩
  rw [hn]
  have Hn : Hid (ps.length = n) := hn
  have hn20 : n ≤ 1048576 := by omega
  rw [hs0] at hcv hH2'
  generalize hc2 : grownCap W1 label.size 0 5 = c2 at *
  clear own2 hv2 hH2 hn hc2
  have hcv' : (convert 9 22 (.string label)).run Try.prog (w.alloc (.cells spZero 68)) = .ok (.slice (some ⟨w.heap.size + 1, 0, none⟩) label.size c2) W2 := by rw [hW1]; exact hcv
  clear hW1 hcv
  go_enter Try.func16, Try.ntmps16
  go_wp2_with fail
  refine (takeFrame_any w.heap.size S0 (some ⟨w.heap.size + 1, 0, none⟩) (w.heap.size + 1) 0 label.size c2 label.data W2 S0_ok hS2 rfl (by omega) (by omega) (Or.inr ⟨rfl, by omega, hH2'⟩)).mono ?_
  rintro e w3 ⟨rfl, hO3, hS3⟩
  have hb3 : Below w.heap.size w w3 := (hb0.trans (hb2.mono (by omega))).trans (hO3.below (by omega) (Nat.le_refl _))
  have hz3 : w.heap.size < w3.heap.size := hS3.lt
  clear hcv' hH2' hO3 zv hS2
  go_wp2
  go_loopg [13] n (fun g s13 wr => ∃ (k : Nat) (Sk : Sp), k + g = n ∧ s13 = .int .i64 k ∧ HSp wr w.heap.size Sk ∧ Below w.heap.size w wr ∧ Ok Sk ∧ Hid (Sk = takeL S0 (framesL label.data.toList (ps.take k))))
  case atStart =>
    refine ⟨0, _, by omega, rfl, hS3, hb3, takeL_ok S0_ok _, ?_⟩
    rw [List.take_zero]
    unfold framesL
    rw [List.flatMap_nil, List.append_nil]
    rfl
  case round =>
    clear hS3 hb3 hz3
    obtain ⟨k, Sk, hk, rfl, hSk, hb, hok, HE⟩ := hrel
    by_cases hlt : k < n
    · obtain ⟨pb, po, rfl, hPj⟩ : ∃ pb po, pa = some ⟨pb, po, none⟩ ∧ ∀ j, j < ps.length → ∃ v, w.cell? ⟨pb, po + j, none⟩ = some v ∧ PartOk w v ps[j]! := by
        rcases hP with h | h
        · have := Hn.out; omega
        · exact h
      obtain ⟨v, hvc, hvp⟩ := hPj k (by have := Hn.out; omega)
      have hpb := World.block_lt_of_cell? _ _ hvc
      have hvc' : wr.cell? ⟨pb, po + k, none⟩ = some v := by rw [hb.cell (p := ⟨pb, po + k, none⟩) hpb]; exact hvc
      obtain ⟨a, sb, so, cap, bs, rfl, hbl, hbc, hbb, hsrc⟩ := hvp
      have hsrc' : bs.size = 0 ∨ (a = some ⟨sb, so, none⟩ ∧ sb ≠ w.heap.size ∧ Holds encB wr sb so bs) := by
        by_cases h0 : bs.size = 0
        · exact Or.inl h0
        · rcases hsrc with h | ⟨h1, h2⟩
          · exact Or.inl h
          · have := Holds.lt h2 (by omega)
            exact Or.inr ⟨h1, by omega, Holds.below h2 hb this⟩
      have HB : Hid (bs.toList = ps[k]!) := hbl
      have l1 : (k : Int) < (n : Int) := by omega
      generalize hbz : bs.size = bz at *
      clear hvc hsrc hPj hbl
      go_wp2_with fail
      refine (takeFrame_any w.heap.size Sk a sb so bz cap bs wr hok hSk hbz hbc hbb hsrc').mono ?_
      rintro e w4 ⟨rfl, hO4, hS4⟩
      go_wp2
      go_roundg (gk - 1)
      case measure => omega
      case rel =>
        refine ⟨k + 1, _, by omega, by go_num, hS4, hb.trans (hO4.below hb.size (Nat.le_refl _)), takeL_ok hok _, ?_⟩
        rw [take_snoc_getD ps k (by have := Hn.out; omega), framesL_snoc, takeL_append, ← HE.out, HB.out]
        rfl
    · have hkn : k = n := by omega
      have l1 : (n : Int) ≤ (k : Int) := by omega
      have HE2 : Hid (Sk = takeL S0 (framesL label.data.toList ps)) := by
        have e1 : ps.take k = ps := List.take_of_length_le (by have := Hn.out; omega)
        rw [e1] at HE
        exact HE
      clear HE
      go_wp2_with fail
      refine (end_any w.heap.size Sk 6 wr hok hSk).mono ?_
      rintro e w5 ⟨rfl, hO5, hS5⟩
      have hD5 : Holds enc w5 w.heap.size 0 (absorb (framesL label.data.toList ps) 6) := by
        have := hS5.d
        rw [HE2.out] at this
        exact this
      clear hS5
      go_wp2_with fail
      refine (front_any w.heap.size 0 32 _ _ (absorb_size _ _) hD5 (by decide)).mono ?_
      rintro e w6 ⟨rfl, hb6, hF6⟩
      have hs5 := hO5.size
      have hs4 := hb.size
      go_wp2
      go_ret
      exact ⟨w5.heap.size, rfl, by omega, (hb.trans (hO5.below hb.size (Nat.le_refl _))).trans (hb6.mono (by omega)), hF6⟩

set_option maxHeartbeats 2000000 in
set_option maxRecDepth 100000 in
theorem refTag_any (label : ByteArray) (pa : Option Addr) (pcap : Nat) (ps : List ByteArray) (w : World) (hlab : label.size ≤ 1048576) (hpl : ps.length ≤ 1048576)
    (hP : ps.length = 0 ∨ ∃ pb po, pa = some ⟨pb, po, none⟩ ∧ ∀ j, j < ps.length → w.cell? ⟨pb, po + j, none⟩ = some (.string ps[j]!)) (hsz : ∀ j, j < ps.length → (ps[j]!).size ≤ 1048576)
    (htot : (framesL label.data.toList (ps.map fun s => s.data.toList)).length ≤ 1048576) :
    Calls Try.prog 17 #[.string label, .slice pa ps.length pcap] w fun e w' => e = .returned (.string ⟨tagL label.data.toList (ps.map fun s => s.data.toList)⟩) ∧ Below w.heap.size w w' := by
  obtain ⟨n, hn⟩ : ∃ n, ps.length = n := ⟨_, rfl⟩
  rw [hn]
  have Hn : Hid (ps.length = n) := hn
  have hn20 : n ≤ 1048576 := by omega
  clear hn
  go_enter Try.func17, Try.ntmps17
  go_wp2_with fail
  refine (Frame_any label _ hlab).mono ?_
  rintro e w1 ⟨o1, rfl, ho1, hb1⟩
  go_wp2
  go_loopg [5, 6] n (fun g s5 s6 wr => ∃ (k : Nat) (o : ByteArray), k + g = n ∧ s6 = .int .i64 k ∧ s5 = .string o ∧ Below w.heap.size w wr ∧ Hid (o.data.toList = framesL label.data.toList ((ps.map fun s => s.data.toList).take k)))
  case atStart =>
    refine ⟨0, o1, by omega, rfl, rfl, hb1, ?_⟩
    rw [List.take_zero]
    unfold framesL
    rw [List.flatMap_nil, List.append_nil]
    exact ho1
  case round =>
    clear ho1 hb1
    obtain ⟨k, o, hk, rfl, rfl, hb, HE⟩ := hrel
    by_cases hlt : k < n
    · obtain ⟨pb, po, rfl, hPj⟩ : ∃ pb po, pa = some ⟨pb, po, none⟩ ∧ ∀ j, j < ps.length → w.cell? ⟨pb, po + j, none⟩ = some (.string ps[j]!) := by
        rcases hP with h | h
        · have := Hn.out; omega
        · exact h
      have hvc := hPj k (by have := Hn.out; omega)
      have hszk := hsz k (by have := Hn.out; omega)
      obtain ⟨s, hs⟩ : ∃ s, ps[k]! = s := ⟨_, rfl⟩
      rw [hs] at hvc hszk
      have HS : Hid (s = ps[k]!) := hs.symm
      have hvc' : wr.cell? ⟨pb, po + k, none⟩ = some (.string s) := by rw [hb.cell (p := ⟨pb, po + k, none⟩) (World.block_lt_of_cell? _ _ hvc)]; exact hvc
      have l1 : (k : Int) < (n : Int) := by omega
      clear hs hvc hPj
      go_wp2_with fail
      refine (Frame_any s _ hszk).mono ?_
      rintro e w2 ⟨o2, rfl, ho2, hb2⟩
      have HO2 : Hid (o2.data.toList = frameL s.data.toList) := ho2
      have hos : o.size ≤ 1048576 := by
        have h1 : o.data.toList.length = o.size := Array.length_toList
        rw [HE.out] at h1
        have := framesL_take label.data.toList (ps.map fun s => s.data.toList) k
        omega
      have ho2s : o2.size ≤ 1048580 := by
        have h1 : o2.data.toList.length = o2.size := Array.length_toList
        have h2 : s.data.toList.length = s.size := Array.length_toList
        rw [ho2, frameL_length] at h1
        omega
      clear ho2
      go_wp2
      go_roundg (gk - 1)
      case measure => omega
      case rel =>
        refine ⟨k + 1, o ++ o2, by omega, by go_num, rfl, hb.trans (hb2.mono hb.size), ?_⟩
        have hkl : k < (ps.map fun s => s.data.toList).length := by rw [List.length_map]; have := Hn.out; omega
        have hkl2 : k < ps.length := by have := Hn.out; omega
        rw [take_snoc_getD _ k hkl, framesL_snoc, ByteArray.data_append, Array.toList_append, HE.out, HO2.out, getElem!_pos (ps.map fun s => s.data.toList) k hkl, List.getElem_map, HS.out, getElem!_pos ps k hkl2]
        rfl
    · have l1 : (n : Int) ≤ (k : Int) := by omega
      have HE2 : Hid (o.data.toList = framesL label.data.toList (ps.map fun s => s.data.toList)) := by
        have e1 : (ps.map fun s => s.data.toList).take k = ps.map fun s => s.data.toList := List.take_of_length_le (by rw [List.length_map]; have := Hn.out; omega)
        rw [e1] at HE
        exact HE
      have hos : o.size ≤ 1048576 := by
        have h1 : o.data.toList.length = o.size := Array.length_toList
        rw [HE2.out] at h1
        omega
      clear HE
      go_wp2_with fail
      refine (refHash_any o _ hos).mono ?_
      rintro e w3 ⟨rfl, hb3⟩
      rw [HE2.out]
      go_wp2
      go_ret
      exact ⟨rfl, hb.trans (hb3.mono hb.size)⟩
end Go.Proofs.Ytfclmmkgmhlbbaa
