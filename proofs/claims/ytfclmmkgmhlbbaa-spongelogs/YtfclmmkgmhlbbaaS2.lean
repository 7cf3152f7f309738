import Derived.Test.YtfclmmkgmhlbbaaS1
namespace Go.Proofs.Ytfclmmkgmhlbbaa
open Go.RowKit Go.Sort Go.Deep

theorem ints5 : (Try.prog.info? 5).map (·.size) = some 1 := by kernel_rfl

theorem holds_splice {w : World} {b o : Nat} {p : Bs} (h : Holds encB w b o p) (i : Nat) (l : List UInt8) (hi : i + l.length ≤ p.size) : Holds encB (w.setCells b (o + i) (l.map encB)) b o (splice p i l) := by
  refine Holds.setCells h _ i (splice_size p i l) (by rw [List.length_map]; exact hi) (fun j hj => ?_) (fun j hj hout => ?_)
  · rw [List.length_map] at hj
    rw [splice_at p i l (i + j) hi (by omega), if_pos (by omega), Nat.add_sub_cancel_left, getElem!_pos l j hj, List.getElem_map]
  · rw [List.length_map] at hout
    rw [splice_at p i l j hi hj, if_neg (by omega)]

/-- The bytes from place k on, n of them. -/
def piece (bs : Bs) (k n : Nat) : List UInt8 := (bs.toList.drop k).take n
theorem piece_length (bs : Bs) (k n : Nat) (h : k + n ≤ bs.size) : (piece bs k n).length = n := by
  unfold piece
  rw [List.length_take, List.length_drop, Array.length_toList]
  omega
theorem piece_at (bs : Bs) (k n j : Nat) (h : k + n ≤ bs.size) (hj : j < n) (hl : j < (piece bs k n).length) : (piece bs k n)[j] = bs[k + j]! := by
  have e : (piece bs k n)[j]? = some bs[k + j]! := by
    unfold piece
    rw [List.getElem?_take_of_lt hj, List.getElem?_drop, Array.getElem?_toList, Array.getElem?_eq_getElem (by omega), getElem!_pos bs (k + j) (by omega)]
  exact (List.getElem?_eq_some_iff.1 e).2
theorem take_piece (bs : Bs) (k n : Nat) : bs.toList.take (k + n) = bs.toList.take k ++ piece bs k n := List.take_add

theorem copy_piece {w : World} {b h sb o len cap n : Nat} {p bs : Bs} {k : Nat} (hP : Holds encB w b 25 p) (hp : p.size = 136) (hB : Holds encB w sb o bs) (hh : h < 136) (hk : k + len ≤ bs.size) (hn : Nat.min len (136 - h) = n) :
    (Builtin.copy_ #[22, 22] 3 #[.slice (some ⟨b, 25 + h, none⟩) (136 - h) (136 - h), .slice (some ⟨sb, o + k, none⟩) len cap]).run Try.prog w = .ok (goInt n) (w.setCells b (25 + h) ((piece bs k n).map encB)) := by
  have hnl : n ≤ len := by rw [← hn]; exact Nat.min_le_left _ _
  have hnh : n ≤ 136 - h := by rw [← hn]; exact Nat.min_le_right _ _
  have hlen : ((piece bs k n).map encB).length = n := by rw [List.length_map, piece_length bs k n (by omega)]
  have := run_copy_cells (P := Try.prog) w 22 22 3 5 b (25 + h) (136 - h) (136 - h) ⟨sb, o + k, none⟩ len cap ((piece bs k n).map encB) slice22 ints5 (by rw [hlen, hn])
    (fun j v hj => by
      obtain ⟨h1, h2⟩ := List.getElem?_eq_some_iff.1 hj
      rw [hlen] at h1
      have hc := (hB (k + j) (by omega)).1
      rw [List.getElem_map, piece_at bs k n j (by omega) h1] at h2
      have e1 : (⟨sb, o + k, none⟩ : Addr).add j = ⟨sb, o + (k + j), none⟩ := by
        unfold Addr.add
        by_cases h0 : j = 0
        · subst h0; rw [if_pos rfl]; rfl
        · rw [if_neg h0, Nat.add_assoc]
      rw [e1, hc, h2])
    (fun j hj => by
      rw [hlen] at hj
      have := (hP (h + j) (by omega)).1
      rw [← Nat.add_assoc] at this
      rw [this]; rfl)
    (fun j hj => by
      rw [hlen] at hj
      have := (hP (h + j) (by omega)).2
      rw [← Nat.add_assoc] at this
      exact this)
    (fun v hv => by
      obtain ⟨x, _, rfl⟩ := List.mem_map.1 hv
      rfl)
  rw [hlen] at this
  exact this

theorem held_set {w : World} {b : Nat} {d : St} {p : Bs} {v : Value} (hD : Holds enc w b 0 d) (h25 : d.size = 25) (hP : Holds encB w b 25 p) (h136 : p.size = 136) (hc : w.cell? ⟨b, 161, none⟩ = some v) (hf : w.frozen? ⟨b, 161, none⟩ = false) (m : Nat) :
    HSp (w.setCell ⟨b, 161, none⟩ (.int .i64 ((m : Nat) : Int))) b ⟨d, p, m⟩ := by
  have hO : Only b 161 1 w (w.setCell ⟨b, 161, none⟩ (.int .i64 ((m : Nat) : Int))) := (Only.refl b 161 1 w).setCell (by omega) (by omega) _
  have hD3 : Holds enc _ b 0 d := Holds.same hD hO (Or.inl (by omega))
  have hP3 : Holds encB _ b 25 p := Holds.same hP hO (Or.inl (by omega))
  exact ⟨hD3, hP3, World.cell?_setCell_same _ _ _ hc, by rw [World.frozen?_setCell]; exact hf⟩

set_option maxHeartbeats 2000000 in
set_option maxRecDepth 100000 in
theorem take_any (b : Nat) (S : Sp) (a : Option Addr) (sb so len cap : Nat) (bs : Bs) (w : World) (hok : Ok S) (hS : HSp w b S) (hl : bs.size = len) (hcap : len ≤ cap) (hbig : len ≤ 1099511627776)
    (hsrc : len = 0 ∨ (a = some ⟨sb, so, none⟩ ∧ sb ≠ b ∧ Holds encB w sb so bs)) :
    Calls Try.prog 31 #[.pointer (some ⟨b, 0, none⟩), .slice a len cap] w fun e w' => e = .returned (.tuple #[]) ∧ Only b 0 162 w w' ∧ HSp w' b (takeL S bs.toList) := by
  go_enter Try.func31, Try.ntmps31
  go_wp2
  go_loopg [1] len (fun g s1 wr => ∃ (k : Nat) (a' : Option Addr) (Sk : Sp), k + g = len ∧ s1 = .slice a' (len - k) (cap - k) ∧ (k < len → a' = some ⟨sb, so + k, none⟩) ∧ HSp wr b Sk ∧ Only b 0 162 w wr ∧ Hid (Sk = takeL S (bs.toList.take k)))
  case atStart =>
    refine ⟨0, a, S, by omega, rfl, fun h0 => ?_, hS, Only.refl _ _ _ _, rfl⟩
    rcases hsrc with h | ⟨h, _, _⟩
    · omega
    · exact h
  case round =>
    obtain ⟨k, a', Sk, hk, rfl, ha', hSk, hO, HE⟩ := hrel
    by_cases hlt : k < len
    · have e1 := ha' hlt
      subst e1
      obtain ⟨_, hne, hB⟩ : a = some ⟨sb, so, none⟩ ∧ sb ≠ b ∧ Holds encB w sb so bs := by
        rcases hsrc with h | h
        · omega
        · exact h
      have hBr := Holds.other hB hO hne (by omega)
      have hokk : Ok Sk := by rw [HE.out]; exact takeL_ok hok _
      obtain ⟨q, hh⟩ : ∃ q, Sk.h = q := ⟨_, rfl⟩
      have hlt136 := hokk.hlt
      have hsz := hokk.p136
      rw [hh] at hlt136
      have hc := hSk.h
      have hf := hSk.f
      rw [hh] at hc
      have hP := hSk.p
      obtain ⟨n, hn⟩ : ∃ n, Nat.min (len - k) (136 - q) = n := ⟨_, rfl⟩
      have l0 : (0 : Int) < ((len - k : Nat) : Int) := by omega
      have hh136 : (q : Int) ≤ 136 := by omega
      have Hh : Hid (Sk.h = q) := hh
      clear hh
      have hne136 : (136 = q) = False := eq_false (by omega)
      have hn1 : 1 ≤ n := by rw [← hn]; exact (Nat.le_min).2 ⟨by omega, by omega⟩
      have hnl : n ≤ len - k := by rw [← hn]; exact Nat.min_le_left _ _
      have hnh : n ≤ 136 - q := by rw [← hn]; exact Nat.min_le_right _ _
      have hcp := copy_piece (w := wr.drew) (cap := cap - k) (k := k) hP hsz hBr hlt136 (by omega) hn
      have hpl := piece_length bs k n (by omega)
      have hP1 := holds_splice (Holds.drew hP) q (piece bs k n) (by omega)
      have hO1 : Only b 0 162 w (wr.drew.setCells b (25 + q) ((piece bs k n).map encB)) := hO.drew.setCells _ _ (by omega) (by rw [List.length_map]; omega)
      have hOx : Only b 25 136 wr (wr.drew.setCells b (25 + q) ((piece bs k n).map encB)) := ((Only.refl b 25 136 wr).drew).setCells _ _ (by omega) (by rw [List.length_map]; omega)
      have hD1 := Holds.same hSk.d hOx (Or.inl (by rw [hokk.d25]; omega))
      have c1 : (wr.drew.setCells b (25 + q) ((piece bs k n).map encB)).cell? ⟨b, 161, none⟩ = some (.int .i64 (q : Int)) := by rw [hOx.cell 161 (by omega)]; exact hc
      have f1 : (wr.drew.setCells b (25 + q) ((piece bs k n).map encB)).frozen? ⟨b, 161, none⟩ = false := by rw [hOx.froz]; exact hf
      have HT : Hid (takeL S (bs.toList.take (k + n)) = takeL Sk (piece bs k n)) := by
        show _ = _
        rw [take_piece, takeL_append, ← HE.out]
      have HCH : Hid (takeL Sk (piece bs k n) = if q + n = 136 then soakL ⟨Sk.d, splice Sk.p q (piece bs k n), q⟩ else ⟨Sk.d, splice Sk.p q (piece bs k n), q + n⟩) := by
        show _ = _
        have := takeL_chunk Sk (piece bs k n) (by intro e; rw [e] at hpl; simp at hpl; omega) (by rw [hpl, Hh.out]; omega)
        rw [hpl, Hh.out] at this
        exact this
      have hss : (splice Sk.p q (piece bs k n)).size = 136 := by rw [splice_size, hsz]
      have hds := hokk.d25
      generalize hW1 : wr.drew.setCells b (25 + q) ((piece bs k n).map encB) = W1 at hcp hP1 hO1 hD1 c1 f1
      generalize splice Sk.p q (piece bs k n) = sp at hP1 hss HCH
      generalize Sk.d = sd at hD1 hds HCH
      clear hOx hW1 hP hBr hokk hpl hSk hsz hn
      have z1 : (n : Int) ≤ ((len - k : Nat) : Int) := by omega
      by_cases hcn : cap - k = n
      · have hcn' : (cap - k = n) = True := eq_true hcn
        have HCN : Hid (cap - k = n) := hcn
        clear hcn
        by_cases hfull : q + n = 136
        · have hb : ((q : Int) + (n : Int) == 136) = true := beq_iff_eq.2 (by omega)
          rw [if_pos hfull] at HCH
          go_wp2_with fail
          go_still_tail 9, mixed
          go_wp2_with fail
          refine (soak_any b ⟨sd, sp, q + n⟩ _ hds hss (held_set hD1 hds hP1 hss c1 f1 (q + n))).mono ?_
          rintro e w2 ⟨rfl, hO2, hS2⟩
          go_wp2
          go_roundg (gk - n)
          case measure => omega
          case rel =>
            refine ⟨k + n, some ⟨sb, so + k, none⟩, soakL ⟨sd, sp, q⟩, by omega, by rw [Nat.sub_sub, Nat.sub_sub], fun hx => by have := HCN.out; omega, ?_, ?_, ?_⟩
            · rw [soak_mk] at hS2 ⊢
              exact hS2
            · exact (hO1.setCell (o := 161) (by omega) (by omega) _).trans hO2
            · rw [HT.out, HCH.out]; rfl
        · have hb : ((q : Int) + (n : Int) == 136) = false := beq_eq_false_iff_ne.2 (by omega)
          rw [if_neg hfull] at HCH
          go_wp2_with fail
          go_still_tail 9, mixed
          go_wp2
          go_roundg (gk - n)
          case measure => omega
          case rel =>
            refine ⟨k + n, some ⟨sb, so + k, none⟩, ⟨sd, sp, q + n⟩, by omega, by rw [Nat.sub_sub, Nat.sub_sub], fun hx => by have := HCN.out; omega, ?_, ?_, ?_⟩
            · exact held_set hD1 hds hP1 hss c1 f1 (q + n)
            · exact hO1.setCell (o := 161) (by omega) (by omega) _
            · rw [HT.out, HCH.out]; rfl
      · have hcn' : (cap - k = n) = False := eq_false hcn
        by_cases hfull : q + n = 136
        · have hb : ((q : Int) + (n : Int) == 136) = true := beq_iff_eq.2 (by omega)
          rw [if_pos hfull] at HCH
          go_wp2_with fail
          go_still_tail 9, mixed
          go_wp2_with fail
          refine (soak_any b ⟨sd, sp, q + n⟩ _ hds hss (held_set hD1 hds hP1 hss c1 f1 (q + n))).mono ?_
          rintro e w2 ⟨rfl, hO2, hS2⟩
          go_wp2
          go_roundg (gk - n)
          case measure => omega
          case rel =>
            refine ⟨k + n, some ⟨sb, so + k + n, none⟩, soakL ⟨sd, sp, q⟩, by omega, by rw [Nat.sub_sub, Nat.sub_sub], fun _ => by rw [Nat.add_assoc], ?_, ?_, ?_⟩
            · rw [soak_mk] at hS2 ⊢
              exact hS2
            · exact (hO1.setCell (o := 161) (by omega) (by omega) _).trans hO2
            · rw [HT.out, HCH.out]; rfl
        · have hb : ((q : Int) + (n : Int) == 136) = false := beq_eq_false_iff_ne.2 (by omega)
          rw [if_neg hfull] at HCH
          go_wp2_with fail
          go_still_tail 9, mixed
          go_wp2
          go_roundg (gk - n)
          case measure => omega
          case rel =>
            refine ⟨k + n, some ⟨sb, so + k + n, none⟩, ⟨sd, sp, q + n⟩, by omega, by rw [Nat.sub_sub, Nat.sub_sub], fun _ => by rw [Nat.add_assoc], ?_, ?_, ?_⟩
            · exact held_set hD1 hds hP1 hss c1 f1 (q + n)
            · exact hO1.setCell (o := 161) (by omega) (by omega) _
            · rw [HT.out, HCH.out]; rfl
    · have hk0 : k = len := by omega
      have l0 : ¬ (0 : Int) < ((len - k : Nat) : Int) := by omega
      go_wp2
      go_end0
      refine ⟨rfl, hO, ?_⟩
      have e1 : bs.toList.take k = bs.toList := List.take_of_length_le (by rw [Array.length_toList]; omega)
      rw [HE.out, e1] at hSk
      exact hSk
end Go.Proofs.Ytfclmmkgmhlbbaa
