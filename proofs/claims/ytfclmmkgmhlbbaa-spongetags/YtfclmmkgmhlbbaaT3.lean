import Derived.Test.YtfclmmkgmhlbbaaG1
import Derived.BigQuiet
namespace Go.Proofs.Ytfclmmkgmhlbbaa
open Go.RowKit Go.Sort Go.Deep

set_option maxHeartbeats 2000000 in
set_option maxRecDepth 100000 in
theorem tags_many (label : ByteArray) (pb po n pcap : Nat) (ps : List ByteArray) (w : World) (hn64 : 64 < n) (hn47 : n ≤ 140737488355328)
    (hP : ∀ j, j < n → w.cell? ⟨pb, po + j, none⟩ = some (.string ps[j]!)) (hs : ∀ j, j < n → (ps[j]!).size ≤ 140737488355328) :
    Calls Try.prog 5 #[.string label, .slice (some ⟨pb, po, none⟩) n pcap] w fun e w' => e = .returned (.bool true) ∧ Below w.heap.size w w' := by
  go_enter Try.func5, Try.ntmps5
  go_wp2
  go_loopg [5, 6] n (fun g s5 s6 wr => ∃ (k : Nat) (x : Int), k + g = n ∧ s6 = .int .i64 k ∧ s5 = .int .i64 x ∧ wr = w)
  case atStart => exact ⟨0, _, by omega, rfl, rfl, rfl⟩
  case round =>
    obtain ⟨k, x, hk, rfl, rfl, rfl⟩ := hrel
    by_cases hlt : k < n
    · have hc := hP k hlt
      have hsk := hs k hlt
      obtain ⟨s, hs'⟩ : ∃ s, ps[k]! = s := ⟨_, rfl⟩
      rw [hs'] at hc hsk
      have l1 : (k : Int) < (n : Int) := by omega
      clear hs'
      go_wp2
      go_roundg (gk - 1)
      case measure => omega
      case rel => exact ⟨k + 1, _, by omega, by go_num, rfl, rfl⟩
    · have l1 : (n : Int) ≤ (k : Int) := by omega
      have l2 : (64 : Int) < (n : Int) := by omega
      by_cases hx : (16384 : Int) < x
      · go_wp2
        go_ret
        exact ⟨rfl, Below.refl _ _⟩
      · go_wp2
        go_ret
        exact ⟨rfl, Below.refl _ _⟩


theorem below_drewN {B : Nat} {w w1 : World} (h : Below B w w1) (q : Nat) : Below B w (w1.drewN q) := ⟨h.os, h.tape, h.output, h.size, h.block⟩

theorem cell_new (w : World) (x : Value) (t : TypeId) : (w.alloc (.cells #[x] t)).cell? ⟨w.heap.size, 0, none⟩ = some x := by
  simp

set_option maxHeartbeats 4000000 in
set_option maxRecDepth 100000 in
theorem tags_few (label : ByteArray) (pa : Option Addr) (n pcap : Nat) (ps : List ByteArray) (w : World) (hn : ps.length = n) (hn64 : n ≤ 64)
    (hP : n = 0 ∨ ∃ pb po, pa = some ⟨pb, po, none⟩ ∧ ∀ j, j < n → w.cell? ⟨pb, po + j, none⟩ = some (.string ps[j]!)) (hl : label.size ≤ 140737488355328) (hs : ∀ j, j < n → (ps[j]!).size ≤ 140737488355328) :
    Calls Try.prog 5 #[.string label, .slice pa n pcap] w fun e w' => e = .returned (.bool true) ∧ Below w.heap.size w w' := by
  have Hn : Hid (ps.length = n) := hn
  have Hsum : Hid (∀ k, k ≤ n → sumL label ps k ≤ (k + 1) * 140737488355328) := fun k hk => sumL_le label ps _ hl (fun j hj => hs j (by omega)) k (by omega)
  obtain ⟨TL, hTL⟩ : ∃ x, tagL label.data.toList (ps.map fun s => s.data.toList) = x := ⟨_, rfl⟩
  have hTs : TL.size = 32 := by rw [← hTL, tagL_size]
  have HTL : Hid (TL = tagL label.data.toList (ps.map fun s => s.data.toList)) := hTL.symm
  clear hTL hn
  go_enter Try.func5, Try.ntmps5
  go_wp2
  go_loopg [5, 6] n (fun g s5 s6 wr => ∃ (k x : Nat), k + g = n ∧ s6 = .int .i64 k ∧ s5 = .int .i64 x ∧ w = wr ∧ Hid (x = sumL label ps k))
  case atStart => exact ⟨0, _, by omega, rfl, rfl, rfl, rfl⟩
  case round =>
    obtain ⟨k, x, hk, rfl, rfl, rfl, HX⟩ := hrel
    by_cases hlt : k < n
    · obtain ⟨pb, po, rfl, hPj⟩ : ∃ pb po, pa = some ⟨pb, po, none⟩ ∧ ∀ j, j < n → w.cell? ⟨pb, po + j, none⟩ = some (.string ps[j]!) := by
        rcases hP with h | h
        · omega
        · exact h
      have hc := hPj k hlt
      have hsk := hs k hlt
      have hx1 : x ≤ 9147936743096320 := by have := Hsum.out k (by omega); rw [← HX.out] at this; omega
      obtain ⟨s, hs'⟩ : ∃ s, ps[k]! = s := ⟨_, rfl⟩
      rw [hs'] at hc hsk
      have HS : Hid (s = ps[k]!) := hs'.symm
      have l1 : (k : Int) < (n : Int) := by omega
      clear hs' hPj hP hs
      go_wp2
      go_roundg (gk - 1)
      case measure => omega
      case rel =>
        refine ⟨k + 1, x + s.size, by omega, by go_num, by go_num, rfl, ?_⟩
        show _ = sumL label ps k + (ps[k]!).size
        rw [HX.out, HS.out]
    · have hkn : k = n := by omega
      have l1 : (n : Int) ≤ (k : Int) := by omega
      have l2 : ¬ (64 : Int) < (n : Int) := by omega
      by_cases hx : (16384 : Int) < (x : Int)
      · go_wp2
        go_ret
        exact ⟨rfl, Below.refl _ _⟩
      · have hxn : x ≤ 16384 := by omega
        have hT : Hid (sumL label ps n ≤ 16384) := by rw [← hkn, ← HX.out]; exact hxn
        have hS : ∀ j, j < n → (ps[j]!).size ≤ 16384 := fun j hj => by
          have h1 : sumL label ps (j + 1) ≤ sumL label ps n := sumL_mono label ps (by omega)
          have h2 : sumL label ps (j + 1) = sumL label ps j + (ps[j]!).size := rfl
          have := hT.out
          omega
        have hlab : label.size ≤ 16384 := by
          have h1 : sumL label ps 0 ≤ sumL label ps n := sumL_mono label ps (by omega)
          have h2 : sumL label ps 0 = label.size := rfl
          have := hT.out
          omega
        clear HX hs Hsum hl
        clear hkn hk hxn
        go_wp2
        clear l1 hx
        go_loopg [7, 8] n (fun g s7 s8 wr => ∃ (k : Nat), k + g = n ∧ s8 = .int .i64 k ∧ Below w.heap.size w wr ∧ Lst wr w.heap.size k s7 ps)
        case atStart => exact ⟨0, by omega, rfl, Below.refl _ _, Or.inl ⟨rfl, rfl⟩⟩
        case round =>
          obtain ⟨k, hk, rfl, hbq, hLs⟩ := hrel
          by_cases hlt : k < n
          · obtain ⟨pb, po, rfl, hPj⟩ : ∃ pb po, pa = some ⟨pb, po, none⟩ ∧ ∀ j, j < n → w.cell? ⟨pb, po + j, none⟩ = some (.string ps[j]!) := by
              rcases hP with h | h
              · omega
              · exact h
            have hc0 := hPj k hlt
            have hpb := World.block_lt_of_cell? _ _ hc0
            have hsk := hS k hlt
            obtain ⟨s, hs'⟩ : ∃ s, ps[k]! = s := ⟨_, rfl⟩
            rw [hs'] at hc0 hsk
            have HS : Hid (s = ps[k]!) := hs'.symm
            have hc : wr.cell? ⟨pb, po + k, none⟩ = some (.string s) := by rw [hbq.cell (p := ⟨pb, po + k, none⟩) hpb]; exact hc0
            have hqs := hbq.size
            have l1 : (k : Int) < (n : Int) := by omega
            clear hs' hP hS hPj
            go_wp2_with fail
            refine (Lent_any s _ hsk).mono ?_
            rintro e w1 ⟨rfl, hb1, hL1⟩
            have hs1 := hb1.size
            have hc1 : w1.cell? ⟨pb, po + k, none⟩ = some (.string s) := by rw [hb1.cell (p := ⟨pb, po + k, none⟩) (show pb < _ by omega)]; exact hc
            have hb2 : Below wr.heap.size wr (w1.alloc (.cells #[.slice (some ⟨wr.heap.size, 0, none⟩) s.size (s.size + 160)] 22)) := hb1.alloc (by omega) _
            obtain ⟨v', w3, hap, hL3, hb3⟩ := Lst.push (r := w1.heap.size) (x := .slice (some ⟨wr.heap.size, 0, none⟩) s.size (s.size + 160)) hLs hb2 (by omega) (by omega)
              ⟨by rw [← HS.out], by rw [← HS.out]; exact Holds.below' hL1 ((Below.refl _ _).alloc (Nat.le_refl _) _)⟩ (cell_new _ _ _)
            go_wp2_with (at_builtin; refine Lib.wpList_append_run _ rfl _ _ 35 35 rfl _ _ rfl rfl _ _ hap ?_)
            go_roundg (gk - 1)
            case measure => omega
            case rel =>
              exact ⟨k + 1, by omega, by go_num, (hbq.trans (hb2.mono hqs)).trans hb3, hL3⟩
          · have hkn : k = n := by omega
            subst hkn
            have l1 : (k : Int) ≤ (k : Int) := Int.le_refl _
            have hqs := hbq.size
            rw [← Hn.out] at hLs
            obtain ⟨la, lc, rfl, hPs⟩ := Lst.parts hLs (fun j hj => hS j (by have := Hn.out; omega))
            have hTag := Tag_any label la lc (ps.map fun s => s.data.toList) wr (by omega) (by rw [List.length_map]; have := Hn.out; omega) hPs
            rw [List.length_map, ← HTL.out, Hn.out] at hTag
            rw [Hn.out] at hLs ⊢
            have HTag : Hid (Calls Try.prog 16 #[.string label, .slice la k lc] wr fun e w' => ∃ r, e = .returned (.slice (some ⟨r, 0, none⟩) 32 32) ∧ wr.heap.size ≤ r ∧ Below wr.heap.size wr w' ∧ Holds encB w' r 0 TL) := hTag
            clear hPs hTag
            go_wp2_with fail
            refine (HTag.out).mono ?_
            rintro e w2 ⟨r2, rfl, hr2, hb2, hH2⟩
            clear HTag
            have hLs2 := hLs.below hb2
            have hs2 := hb2.size
            have hbq2 : Below w.heap.size w w2 := hbq.trans (hb2.mono hqs)
            have hr2l := Holds.lt hH2 (by omega)
            go_wp2
            clear hLs hbq hb2
            go_loopg [11] k (fun g s11 wr => ∃ (i : Nat), i + g = k ∧ s11 = .int .i64 i ∧ Below w2.heap.size w2 wr)
            case atStart => exact ⟨0, by omega, rfl, Below.refl _ _⟩
            case round =>
              obtain ⟨i, hi, rfl, hb3⟩ := hrel
              have hs3 := hb3.size
              by_cases hlt : i < k
              · obtain ⟨pb, po, rfl, hPj⟩ : ∃ pb po, pa = some ⟨pb, po, none⟩ ∧ ∀ j, j < k → w.cell? ⟨pb, po + j, none⟩ = some (.string ps[j]!) := by
                  rcases hP with h | h
                  · omega
                  · exact h
                have hc0 := hPj i hlt
                have hpb := World.block_lt_of_cell? _ _ hc0
                have hsk := hS i hlt
                obtain ⟨g, cap, gx, hv, hcl, hHx⟩ := Lst.at hLs2 i hlt
                obtain ⟨s, hs'⟩ : ∃ s, ps[i]! = s := ⟨_, rfl⟩
                rw [hs'] at hc0 hsk hcl hHx
                have hs2' := hbq2.size
                have hc : wr.cell? ⟨pb, po + i, none⟩ = some (.string s) := by
                  rw [hb3.cell (p := ⟨pb, po + i, none⟩) (Nat.lt_of_lt_of_le hpb hs2'), hbq2.cell (p := ⟨pb, po + i, none⟩) hpb]; exact hc0
                have hg := World.block_lt_of_cell? _ _ hcl
                have hcl3 : wr.cell? ⟨g, i, none⟩ = some (.slice (some ⟨gx, 0, none⟩) s.size (s.size + 160)) := by
                  rw [hb3.cell (p := ⟨g, i, none⟩) hg]; exact hcl
                have hHx3 := Holds.below' hHx hb3
                obtain ⟨rfl, rfl⟩ : la = some ⟨g, 0, none⟩ ∧ lc = cap := by
                  injection hv with h1 _ h3
                  exact ⟨h1, h3⟩
                have l1 : (i : Int) < (k : Int) := by omega
                clear hs' hP hS hPj hv hcl hHx hLs2 hc0
                go_wp2
                go_quiet (fail)
                go_wp2_with fail
                refine (Still_any gx _ s _ hsk (Holds.drewN hHx3 _) rfl).mono ?_
                rintro e w4 ⟨rfl, hb4⟩
                go_wp2
                go_roundg (gk - 1)
                case measure => omega
                case rel => exact ⟨i + 1, by omega, by go_num, (below_drewN hb3 _).trans (hb4.mono hs3)⟩
              · have l1 : (k : Int) ≤ (i : Int) := by omega
                have hH3 := Holds.below' hH2 hb3
                have hbq3 := hbq2.trans (hb3.mono hbq2.size)
                have hfr := frames_len label ps ps.length (Nat.le_refl _)
                rw [show (ps.map fun s => s.data.toList).take ps.length = ps.map fun s => s.data.toList from List.take_of_length_le (by rw [List.length_map]; exact Nat.le_refl _)] at hfr
                have hRef := refTag_any label pa pcap ps wr (by omega) (by have := Hn.out; omega)
                  (by
                    rcases hP with h | ⟨pb, po, h1, h2⟩
                    · exact Or.inl (by have := Hn.out; omega)
                    · refine Or.inr ⟨pb, po, h1, fun j hj => ?_⟩
                      have hc0 := h2 j (by have := Hn.out; omega)
                      have hpb := World.block_lt_of_cell? _ _ hc0
                      rw [hbq3.cell (p := ⟨pb, po + j, none⟩) hpb]; exact hc0)
                  (fun j hj => by have := hS j (by have := Hn.out; omega); omega)
                  (by rw [hfr, Hn.out]; have := hT.out; omega)
                rw [Hn.out, ← HTL.out] at hRef
                have HRef : Hid (Calls Try.prog 17 #[.string label, .slice pa k pcap] wr fun e w' => e = .returned (.string ⟨TL⟩) ∧ Below wr.heap.size wr w') := hRef
                clear hRef hfr hLs2 hP hS
                go_wp2_with fail
                refine (HRef.out).mono ?_
                rintro e w5 ⟨rfl, hb5⟩
                have kc := conv_str Try.prog 22 9 5 slice22 int5 str9 w5 r2 0 32 32 TL (Holds.below' hH3 hb5) hTs
                clear HRef
                go_wp2
                go_ret
                exact ⟨rfl, hbq3.trans (hb5.mono hbq3.size)⟩
end Go.Proofs.Ytfclmmkgmhlbbaa
