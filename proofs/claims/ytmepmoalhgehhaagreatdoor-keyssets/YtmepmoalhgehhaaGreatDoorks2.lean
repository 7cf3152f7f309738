import Derived.Deep.AppendSrc
import Derived.Lib.AppendZeros
import Derived.Lib.ConvBytes
import Derived.Deep.RegionWith
import Derived.Deep.OwnRows
import Derived.Test.YtmepmoalhgehhaaGreatDoorks1
set_option linter.unusedVariables false
set_option linter.unusedSimpArgs false
namespace Go.Proofs.YtmepmoalhgehhaaGreatDoor.SP
open Go.RowKit Go.Sort Go.Deep
theorem ints5 : (Tryz.prog.info? 5).map (·.size) = some 1 := by kernel_rfl
theorem holds_splice {w : World} {b o : Nat} {p : Bs} (h : Holds encB w b o p) (i : Nat) (l : List UInt8) (hi : i + l.length ≤ p.size) : Holds encB (w.setCells b (o + i) (l.map encB)) b o (splice p i l) := by
  refine Holds.setCells h _ i (splice_size p i l) (by rw [List.length_map]; exact hi) (fun j hj => ?_) (fun j hj hout => ?_)
  · rw [List.length_map] at hj
    rw [splice_at p i l (i + j) hi (by omega), if_pos (by omega), Nat.add_sub_cancel_left, getElem!_pos l j hj, List.getElem_map]
  · rw [List.length_map] at hout
    rw [splice_at p i l j hi hj, if_neg (by omega)]
/-- The bytes from place k on, n of them. -/
def piece (bs : Bs) (k n : Nat) : List UInt8 := (bs.toList.drop k).take n
theorem piece_length (bs : Bs) (k n : Nat) (h : k + n ≤ bs.size) : (piece bs k n).length = n := by
  unfold piece
  rw [List.length_take, List.length_drop, Array.length_toList]
  omega
theorem piece_at (bs : Bs) (k n j : Nat) (h : k + n ≤ bs.size) (hj : j < n) (hl : j < (piece bs k n).length) : (piece bs k n)[j] = bs[k + j]! := by
  have e : (piece bs k n)[j]? = some bs[k + j]! := by
    unfold piece
    rw [List.getElem?_take_of_lt hj, List.getElem?_drop, Array.getElem?_toList, Array.getElem?_eq_getElem (by omega), getElem!_pos bs (k + j) (by omega)]
  exact (List.getElem?_eq_some_iff.1 e).2
theorem take_piece (bs : Bs) (k n : Nat) : bs.toList.take (k + n) = bs.toList.take k ++ piece bs k n := List.take_add
theorem copy_piece {w : World} {b h sb o len cap n : Nat} {p bs : Bs} {k : Nat} (hP : Holds encB w b 25 p) (hp : p.size = 136) (hB : Holds encB w sb o bs) (hh : h < 136) (hk : k + len ≤ bs.size) (hn : Nat.min len (136 - h) = n) :
    (Builtin.copy_ #[24, 24] 3 #[.slice (some ⟨b, 25 + h, none⟩) (136 - h) (136 - h), .slice (some ⟨sb, o + k, none⟩) len cap]).run Tryz.prog w = .ok (goInt n) (w.setCells b (25 + h) ((piece bs k n).map encB)) := by
  have hnl : n ≤ len := by rw [← hn]; exact Nat.min_le_left _ _
  have hnh : n ≤ 136 - h := by rw [← hn]; exact Nat.min_le_right _ _
  have hlen : ((piece bs k n).map encB).length = n := by rw [List.length_map, piece_length bs k n (by omega)]
  have := run_copy_cells (P := Tryz.prog) w 24 24 3 5 b (25 + h) (136 - h) (136 - h) ⟨sb, o + k, none⟩ len cap ((piece bs k n).map encB) slice22 ints5 (by rw [hlen, hn])
    (fun j v hj => by
      obtain ⟨h1, h2⟩ := List.getElem?_eq_some_iff.1 hj
      rw [hlen] at h1
      have hc := (hB (k + j) (by omega)).1
      rw [List.getElem_map, piece_at bs k n j (by omega) h1] at h2
      have e1 : (⟨sb, o + k, none⟩ : Addr).add j = ⟨sb, o + (k + j), none⟩ := by
        unfold Addr.add
        by_cases h0 : j = 0
        · subst h0; rw [if_pos rfl]; rfl
        · rw [if_neg h0, Nat.add_assoc]
      rw [e1, hc, h2])
    (fun j hj => by
      rw [hlen] at hj
      have := (hP (h + j) (by omega)).1
      rw [← Nat.add_assoc] at this
      rw [this]; rfl)
    (fun j hj => by
      rw [hlen] at hj
      have := (hP (h + j) (by omega)).2
      rw [← Nat.add_assoc] at this
      exact this)
    (fun v hv => by
      obtain ⟨x, _, rfl⟩ := List.mem_map.1 hv
      rfl)
  rw [hlen] at this
  exact this
theorem held_set {w : World} {b : Nat} {d : St} {p : Bs} {v : Value} (hD : Holds enc w b 0 d) (h25 : d.size = 25) (hP : Holds encB w b 25 p) (h136 : p.size = 136) (hc : w.cell? ⟨b, 161, none⟩ = some v) (hf : w.frozen? ⟨b, 161, none⟩ = false) (m : Nat) :
    HSp (w.setCell ⟨b, 161, none⟩ (.int .i64 ((m : Nat) : Int))) b ⟨d, p, m⟩ := by
  have hO : Only b 161 1 w (w.setCell ⟨b, 161, none⟩ (.int .i64 ((m : Nat) : Int))) := (Only.refl b 161 1 w).setCell (by omega) (by omega) _
  have hD3 : Holds enc _ b 0 d := Holds.same hD hO (Or.inl (by omega))
  have hP3 : Holds encB _ b 25 p := Holds.same hP hO (Or.inl (by omega))
  exact ⟨hD3, hP3, World.cell?_setCell_same _ _ _ hc, by rw [World.frozen?_setCell]; exact hf⟩
set_option maxHeartbeats 2000000 in
set_option maxRecDepth 100000 in
theorem take_any (b : Nat) (S : Sp) (a : Option Addr) (sb so len cap : Nat) (bs : Bs) (w : World) (hok : Ok S) (hS : HSp w b S) (hl : bs.size = len) (hcap : len ≤ cap) (hbig : len ≤ 1099511627776)
    (hsrc : len = 0 ∨ (a = some ⟨sb, so, none⟩ ∧ sb ≠ b ∧ Holds encB w sb so bs)) :
    Calls Tryz.prog 68 #[.pointer (some ⟨b, 0, none⟩), .slice a len cap] w fun e w' => e = .returned (.tuple #[]) ∧ Only b 0 162 w w' ∧ HSp w' b (takeL S bs.toList) := by
  go_enter Tryz.func68, Tryz.ntmps68
  go_wp2
  go_loopg [1] len (fun g s1 wr => ∃ (k : Nat) (a' : Option Addr) (Sk : Sp), k + g = len ∧ s1 = .slice a' (len - k) (cap - k) ∧ (k < len → a' = some ⟨sb, so + k, none⟩) ∧ HSp wr b Sk ∧ Only b 0 162 w wr ∧ Hid (Sk = takeL S (bs.toList.take k)))
  case atStart =>
    refine ⟨0, a, S, by omega, rfl, fun h0 => ?_, hS, Only.refl _ _ _ _, rfl⟩
    rcases hsrc with h | ⟨h, _, _⟩
    · omega
    · exact h
  case round =>
    obtain ⟨k, a', Sk, hk, rfl, ha', hSk, hO, HE⟩ := hrel
    by_cases hlt : k < len
    · have e1 := ha' hlt
      subst e1
      obtain ⟨_, hne, hB⟩ : a = some ⟨sb, so, none⟩ ∧ sb ≠ b ∧ Holds encB w sb so bs := by
        rcases hsrc with h | h
        · omega
        · exact h
      have hBr := Holds.other hB hO hne (by omega)
      have hokk : Ok Sk := by rw [HE.out]; exact takeL_ok hok _
      obtain ⟨q, hh⟩ : ∃ q, Sk.h = q := ⟨_, rfl⟩
      have hlt136 := hokk.hlt
      have hsz := hokk.p136
      rw [hh] at hlt136
      have hc := hSk.h
      have hf := hSk.f
      rw [hh] at hc
      have hP := hSk.p
      obtain ⟨n, hn⟩ : ∃ n, Nat.min (len - k) (136 - q) = n := ⟨_, rfl⟩
      have l0 : (0 : Int) < ((len - k : Nat) : Int) := by omega
      have hh136 : (q : Int) ≤ 136 := by omega
      have Hh : Hid (Sk.h = q) := hh
      clear hh
      have hne136 : (136 = q) = False := eq_false (by omega)
      have hn1 : 1 ≤ n := by rw [← hn]; exact (Nat.le_min).2 ⟨by omega, by omega⟩
      have hnl : n ≤ len - k := by rw [← hn]; exact Nat.min_le_left _ _
      have hnh : n ≤ 136 - q := by rw [← hn]; exact Nat.min_le_right _ _
      have hcp := copy_piece (w := wr.drew) (cap := cap - k) (k := k) hP hsz hBr hlt136 (by omega) hn
      have hpl := piece_length bs k n (by omega)
      have hP1 := holds_splice (Holds.drew hP) q (piece bs k n) (by omega)
      have hO1 : Only b 0 162 w (wr.drew.setCells b (25 + q) ((piece bs k n).map encB)) := hO.drew.setCells _ _ (by omega) (by rw [List.length_map]; omega)
      have hOx : Only b 25 136 wr (wr.drew.setCells b (25 + q) ((piece bs k n).map encB)) := ((Only.refl b 25 136 wr).drew).setCells _ _ (by omega) (by rw [List.length_map]; omega)
      have hD1 := Holds.same hSk.d hOx (Or.inl (by rw [hokk.d25]; omega))
      have c1 : (wr.drew.setCells b (25 + q) ((piece bs k n).map encB)).cell? ⟨b, 161, none⟩ = some (.int .i64 (q : Int)) := by rw [hOx.cell 161 (by omega)]; exact hc
      have f1 : (wr.drew.setCells b (25 + q) ((piece bs k n).map encB)).frozen? ⟨b, 161, none⟩ = false := by rw [hOx.froz]; exact hf
      have HT : Hid (takeL S (bs.toList.take (k + n)) = takeL Sk (piece bs k n)) := by
        show _ = _
        rw [take_piece, takeL_append, ← HE.out]
      have HCH : Hid (takeL Sk (piece bs k n) = if q + n = 136 then soakL ⟨Sk.d, splice Sk.p q (piece bs k n), q⟩ else ⟨Sk.d, splice Sk.p q (piece bs k n), q + n⟩) := by
        show _ = _
        have := takeL_chunk Sk (piece bs k n) (by intro e; rw [e] at hpl; simp at hpl; omega) (by rw [hpl, Hh.out]; omega)
        rw [hpl, Hh.out] at this
        exact this
      have hss : (splice Sk.p q (piece bs k n)).size = 136 := by rw [splice_size, hsz]
      have hds := hokk.d25
      generalize hW1 : wr.drew.setCells b (25 + q) ((piece bs k n).map encB) = W1 at hcp hP1 hO1 hD1 c1 f1
      generalize splice Sk.p q (piece bs k n) = sp at hP1 hss HCH
      generalize Sk.d = sd at hD1 hds HCH
      clear hOx hW1 hP hBr hokk hpl hSk hsz hn
      have z1 : (n : Int) ≤ ((len - k : Nat) : Int) := by omega
      by_cases hcn : cap - k = n
      · have hcn' : (cap - k = n) = True := eq_true hcn
        have HCN : Hid (cap - k = n) := hcn
        clear hcn
        by_cases hfull : q + n = 136
        · have hb : ((q : Int) + (n : Int) == 136) = true := beq_iff_eq.2 (by omega)
          rw [if_pos hfull] at HCH
          go_wp2_with fail
          go_still_tail 9, mixed
          go_wp2_with fail
          refine (soak_any b ⟨sd, sp, q + n⟩ _ hds hss (held_set hD1 hds hP1 hss c1 f1 (q + n))).mono ?_
          rintro e w2 ⟨rfl, hO2, hS2⟩
          go_wp2
          go_roundg (gk - n)
          case measure => omega
          case rel =>
            refine ⟨k + n, some ⟨sb, so + k, none⟩, soakL ⟨sd, sp, q⟩, by omega, by rw [Nat.sub_sub, Nat.sub_sub], fun hx => by have := HCN.out; omega, ?_, ?_, ?_⟩
            · rw [soak_mk] at hS2 ⊢
              exact hS2
            · exact (hO1.setCell (o := 161) (by omega) (by omega) _).trans hO2
            · rw [HT.out, HCH.out]; rfl
        · have hb : ((q : Int) + (n : Int) == 136) = false := beq_eq_false_iff_ne.2 (by omega)
          rw [if_neg hfull] at HCH
          go_wp2_with fail
          go_still_tail 9, mixed
          go_wp2
          go_roundg (gk - n)
          case measure => omega
          case rel =>
            refine ⟨k + n, some ⟨sb, so + k, none⟩, ⟨sd, sp, q + n⟩, by omega, by rw [Nat.sub_sub, Nat.sub_sub], fun hx => by have := HCN.out; omega, ?_, ?_, ?_⟩
            · exact held_set hD1 hds hP1 hss c1 f1 (q + n)
            · exact hO1.setCell (o := 161) (by omega) (by omega) _
            · rw [HT.out, HCH.out]; rfl
      · have hcn' : (cap - k = n) = False := eq_false hcn
        by_cases hfull : q + n = 136
        · have hb : ((q : Int) + (n : Int) == 136) = true := beq_iff_eq.2 (by omega)
          rw [if_pos hfull] at HCH
          go_wp2_with fail
          go_still_tail 9, mixed
          go_wp2_with fail
          refine (soak_any b ⟨sd, sp, q + n⟩ _ hds hss (held_set hD1 hds hP1 hss c1 f1 (q + n))).mono ?_
          rintro e w2 ⟨rfl, hO2, hS2⟩
          go_wp2
          go_roundg (gk - n)
          case measure => omega
          case rel =>
            refine ⟨k + n, some ⟨sb, so + k + n, none⟩, soakL ⟨sd, sp, q⟩, by omega, by rw [Nat.sub_sub, Nat.sub_sub], fun _ => by rw [Nat.add_assoc], ?_, ?_, ?_⟩
            · rw [soak_mk] at hS2 ⊢
              exact hS2
            · exact (hO1.setCell (o := 161) (by omega) (by omega) _).trans hO2
            · rw [HT.out, HCH.out]; rfl
        · have hb : ((q : Int) + (n : Int) == 136) = false := beq_eq_false_iff_ne.2 (by omega)
          rw [if_neg hfull] at HCH
          go_wp2_with fail
          go_still_tail 9, mixed
          go_wp2
          go_roundg (gk - n)
          case measure => omega
          case rel =>
            refine ⟨k + n, some ⟨sb, so + k + n, none⟩, ⟨sd, sp, q + n⟩, by omega, by rw [Nat.sub_sub, Nat.sub_sub], fun _ => by rw [Nat.add_assoc], ?_, ?_, ?_⟩
            · exact held_set hD1 hds hP1 hss c1 f1 (q + n)
            · exact hO1.setCell (o := 161) (by omega) (by omega) _
            · rw [HT.out, HCH.out]; rfl
    · have hk0 : k = len := by omega
      have l0 : ¬ (0 : Int) < ((len - k : Nat) : Int) := by omega
      go_wp2
      go_end0
      refine ⟨rfl, hO, ?_⟩
      have e1 : bs.toList.take k = bs.toList := List.take_of_length_le (by rw [Array.length_toList]; omega)
      rw [HE.out, e1] at hSk
      exact hSk
end Go.Proofs.YtmepmoalhgehhaaGreatDoor.SP
namespace Go.Proofs.YtmepmoalhgehhaaGreatDoor.SP
open Go.RowKit Go.Sort Go.Deep
theorem ofInt_toNat8 (x : UInt8) : BitVec.ofInt 8 (x.toNat : Int) = x.toBitVec := by
  apply BitVec.eq_of_toNat_eq
  rw [BitVec.ofInt_natCast, BitVec.toNat_ofNat]
  exact Nat.mod_eq_of_lt x.toNat_lt
theorem bits_xor8 (x y : UInt8) : bits .xor .u8 (ub x) (ub y) = ub (x ^^^ y) := by
  show IntKind.u8.wrap ((BitVec.ofInt 8 (x.toNat : Int) ^^^ BitVec.ofInt 8 (y.toNat : Int)).toNat : Int) = _
  rw [ofInt_toNat8, ofInt_toNat8, ← UInt8.toBitVec_xor]
  have h : ((x ^^^ y).toNat : Int) < 256 := by have := (x ^^^ y).toNat_lt; omega
  have e : ∀ n : Int, IntKind.u8.wrap n = n % 256 := fun n => by simp [IntKind.wrap, IntKind.bits, IntKind.signed]
  rw [e]
  exact Int.emod_eq_of_lt (Int.natCast_nonneg _) h
theorem xor80 (x : UInt8) : bits .xor .u8 (ub x) 128 = ub (x ^^^ 128) := bits_xor8 x 128
theorem zero5 : ∀ w : World, (zeroValue 5).run Tryz.prog w = .ok (.int .u8 0) w := fun _ => by kernel_rfl
set_option maxRecDepth 100000 in
theorem clear_piece {w : World} {b q : Nat} {p : Bs} (hP : Holds encB w b 25 p) (hp : p.size = 136) (hq : q < 136) (ty : TypeId) :
    (Builtin.clear_ #[24] ty #[.slice (some ⟨b, 25 + q, none⟩) (136 - q) (136 - q)]).run Tryz.prog w = .ok (.tuple #[]) (w.setCells b (25 + q) ((List.replicate (136 - q) (0 : UInt8)).map encB)) := by
  have h := Lib.run_clear_slice (P := Tryz.prog) w 24 5 ty (.int .u8 0) slice22 zero5 rfl rfl b (25 + q) (136 - q) (136 - q) (by omega)
    (fun j hj => by
      have := (hP (q + j) (by omega)).1
      rw [← Nat.add_assoc] at this
      rw [this]; rfl)
    (fun j hj => by
      have := (hP (q + j) (by omega)).2
      rw [← Nat.add_assoc] at this
      exact this)
  rw [List.map_replicate]
  exact h
set_option maxHeartbeats 2000000 in
set_option maxRecDepth 100000 in
theorem end_any (b : Nat) (S : Sp) (e : UInt8) (w : World) (hok : Ok S) (hS : HSp w b S) :
    Calls Tryz.prog 39 #[.pointer (some ⟨b, 0, none⟩), .int .u8 (ub e)] w fun r w' => r = .returned (.tuple #[]) ∧ Only b 0 162 w w' ∧ HSp w' b (finalL S e) := by
  obtain ⟨d, p, q⟩ := S
  have h25 : d.size = 25 := hok.d25
  have h136 : p.size = 136 := hok.p136
  have hq : q < 136 := hok.hlt
  have hD : Holds enc w b 0 d := hS.d
  have hP : Holds encB w b 25 p := hS.p
  have hc : w.cell? ⟨b, 161, none⟩ = some (.int .i64 (q : Int)) := hS.h
  have hf := hS.f
  have hcl := clear_piece (Holds.drew hP) h136 hq 0
  have hOx : Only b 25 136 w (w.drew.setCells b (25 + q) ((List.replicate (136 - q) (0 : UInt8)).map encB)) := ((Only.refl b 25 136 w).drew).setCells _ _ (by omega) (by rw [List.length_map, List.length_replicate]; omega)
  have hP1 := holds_splice (Holds.drew hP) q (List.replicate (136 - q) (0 : UInt8)) (by rw [List.length_replicate]; omega)
  have hs1 : (splice p q (List.replicate (136 - q) 0)).size = 136 := by rw [splice_size, h136]
  have HF : Hid (finalL ⟨d, p, q⟩ e = soakL ⟨d, ((splice p q (List.replicate (136 - q) 0)).setIfInBounds q e).setIfInBounds 135 (((splice p q (List.replicate (136 - q) 0)).setIfInBounds q e)[135]! ^^^ 128), q⟩) := by
    show _ = _
    unfold finalL ended
    rfl
  generalize w.drew.setCells b (25 + q) ((List.replicate (136 - q) (0 : UInt8)).map encB) = W1 at hcl hOx hP1
  generalize splice p q (List.replicate (136 - q) 0) = sp at hP1 hs1 HF
  have hne136 : (136 = q) = False := eq_false (by omega)
  have hq136 : (q : Int) ≤ 136 := by omega
  have hq136' : (q : Int) < 136 := by omega
  have c1 : W1.cell? ⟨b, 161, none⟩ = some (.int .i64 (q : Int)) := by rw [hOx.cell 161 (by omega)]; exact hc
  obtain ⟨c2, f2⟩ := hP1 q (by omega)
  obtain ⟨sp2, hsp2⟩ : ∃ s, sp.setIfInBounds q e = s := ⟨_, rfl⟩
  rw [hsp2] at HF
  have hs2 : sp2.size = 136 := by rw [← hsp2, Array.size_setIfInBounds, hs1]
  obtain ⟨x, hx⟩ : ∃ x, sp2[135]! = x := ⟨_, rfl⟩
  rw [hx] at HF
  have hx80 := xor80 x
  have hP2 := Holds.set hP1 (i := q) (by omega) e
  rw [hsp2] at hP2
  have hO2 : Only b 25 136 w (W1.setCell ⟨b, 25 + q, none⟩ (.int .u8 (ub e))) := hOx.setCell (o := 25 + q) (by omega) (by omega) _
  have hP2' : Holds encB (W1.setCell ⟨b, 25 + q, none⟩ (.int .u8 (ub e))) b 25 sp2 := hP2
  have HX : Hid (sp2[135]! = x) := hx
  rw [HF.out]
  clear hS hok hP hsp2 hx hP2 HF
  have hs3 : (sp2.setIfInBounds 135 (x ^^^ 128)).size = 136 := by rw [Array.size_setIfInBounds, hs2]
  go_enter Tryz.func39, Tryz.ntmps39
  go_wp2
  go_still_tail 8, mixed
  go_wp2_with fail
  go_region
  go_wp2_with fail
  generalize W1.setCell ⟨b, 25 + q, none⟩ (.int .u8 (ub e)) = W2 at hP2' hO2 ⊢
  obtain ⟨c3, f3⟩ := at_byte hP2' 135 (by omega) HX.out
  clear c1 c2 f2 hcl hP1
  go_region
  go_wp2_with fail
  have hP3 := Holds.set hP2' (i := 135) (by omega) (x ^^^ 128)
  have hO3 : Only b 25 136 w (W2.setCell ⟨b, 160, none⟩ (.int .u8 (ub (x ^^^ 128)))) := hO2.setCell (o := 160) (by omega) (by omega) _
  have hP3' : Holds encB (W2.setCell ⟨b, 160, none⟩ (.int .u8 (ub (x ^^^ 128)))) b 25 (sp2.setIfInBounds 135 (x ^^^ 128)) := hP3
  generalize W2.setCell ⟨b, 160, none⟩ (.int .u8 (ub (x ^^^ 128))) = W3 at hP3' hO3 ⊢
  have hD3 : Holds enc W3 b 0 d := Holds.same hD hO3 (Or.inl (by omega))
  have hS3 : HSp W3 b ⟨d, sp2.setIfInBounds 135 (x ^^^ 128), q⟩ := ⟨hD3, hP3', by rw [hO3.cell 161 (by omega)]; exact hc, by rw [hO3.froz]; exact hf⟩
  refine (soak_any b ⟨d, sp2.setIfInBounds 135 (x ^^^ 128), q⟩ _ h25 hs3 hS3.drew.drew).mono ?_
  rintro r w4 ⟨rfl, hO4, hS4⟩
  go_wp2
  go_end0
  exact ⟨rfl, (hO3.drew.drew.widen (by omega) (by omega)).trans hO4, hS4⟩
end Go.Proofs.YtmepmoalhgehhaaGreatDoor.SP
namespace Go.Proofs.YtmepmoalhgehhaaGreatDoor.SP
open Go.Sort
def permN (d : St) : Nat → St
  | 0 => d
  | m + 1 => perm (permN d m)
theorem permN_size (d : St) (hd : d.size = 25) (m : Nat) : (permN d m).size = 25 := by
  induction m with
  | zero => exact hd
  | succ m ih => exact perm_size _ ih
/-- The byte that comes out at place j. -/
def streamAt (d : St) (j : Nat) : UInt8 := byteOf (permN d (j / 136)) (j % 136)
def streamL (d : St) (n : Nat) : Bs := Array.ofFn (fun i : Fin n => streamAt d i.val)
theorem streamL_size (d : St) (n : Nat) : (streamL d n).size = n := by simp [streamL]
theorem streamL_at (d : St) (n j : Nat) (hj : j < n) : (streamL d n)[j]! = streamAt d j := by
  rw [getElem!_pos (streamL d n) j (by rw [streamL_size]; exact hj)]
  simp [streamL]
/-- The state of noughts. -/
def S0 : Sp := ⟨zero25, Array.replicate 136 0, 0⟩
theorem S0_ok : Ok S0 := ⟨by simp [S0, zero25], by simp [S0], by decide⟩
/-- The state behind the bytes and the ending. -/
def absorb (l : List UInt8) (e : UInt8) : St := (finalL (takeL S0 l) e).d
theorem absorb_size (l : List UInt8) (e : UInt8) : (absorb l e).size = 25 := by
  unfold absorb
  have h := takeL_ok S0_ok l
  rw [finalL_eq h]
  exact (takeL_ok h _).d25
/-- S2: the hash, the stream. -/
def hashL (l : List UInt8) : Bs := front (absorb l 6) 32
def strmL (l : List UInt8) (n : Nat) : Bs := streamL (absorb l 31) n
theorem hash_stream (l : List UInt8) : hashL l = streamL (absorb l 6) 32 := by
  unfold hashL
  refine bs_ext _ _ 32 (front_size _ _) (streamL_size _ _) (fun j hj => ?_)
  rw [front_at _ _ _ hj, streamL_at _ _ _ hj]
  unfold streamAt
  rw [Nat.div_eq_of_lt (by omega), Nat.mod_eq_of_lt (by omega)]
  rfl
/-! ### The reference: all bytes with what stands behind them, piece by piece -/
def total (l : List UInt8) (e : UInt8) : List UInt8 := l ++ tailpad (l.length % 136) e
theorem total_length (l : List UInt8) (e : UInt8) : (total l e).length = 136 * (l.length / 136 + 1) := by
  unfold total
  rw [List.length_append, tailpad_length _ _ (Nat.mod_lt _ (by decide))]
  omega
theorem absorb_total (l : List UInt8) (e : UInt8) : absorb l e = (takeL S0 (total l e)).d := by
  unfold absorb total
  have h := takeL_ok S0_ok l
  have hh := takeL_h S0_ok l
  rw [takeL_append, finalL_eq h, hh]
  have : S0.h = 0 := rfl
  rw [this, Nat.zero_add]
/-- The reference's inner loop: k bytes of a piece are laid upon the state. -/
def xorB (st : Bs) (T : List UInt8) (o : Nat) : Nat → Bs
  | 0 => st
  | k + 1 => (xorB st T o k).setIfInBounds k ((xorB st T o k)[k]! ^^^ T[o + k]!)
theorem xorB_size (st : Bs) (T : List UInt8) (o k : Nat) : (xorB st T o k).size = st.size := by
  induction k with
  | zero => rfl
  | succ k ih => rw [xorB, Array.size_setIfInBounds, ih]
theorem xorB_at (st : Bs) (T : List UInt8) (o k j : Nat) (hk : k ≤ st.size) (hj : j < st.size) : (xorB st T o k)[j]! = if j < k then st[j]! ^^^ T[o + j]! else st[j]! := by
  induction k with
  | zero => rfl
  | succ k ih =>
    rw [xorB]
    by_cases h : j = k
    · subst h
      rw [getElem!_set_same _ _ _ (by rw [xorB_size]; exact hj), ih (by omega), if_neg (by omega), if_pos (by omega)]
    · rw [getElem!_set_other _ _ _ _ h, ih (by omega)]
      by_cases h1 : j < k
      · rw [if_pos h1, if_pos (by omega)]
      · rw [if_neg h1, if_neg (by omega)]
def refSt (T : List UInt8) : Nat → Bs
  | 0 => Array.replicate 200 0
  | i + 1 => permB (xorB (refSt T i) T (136 * i) 136)
theorem zero_front : front zero25 200 = Array.replicate 200 0 := by
  refine bs_ext _ _ 200 (front_size _ _) (by rw [Array.size_replicate]) (fun j hj => ?_)
  have h' : j < (Array.replicate 200 (0 : UInt8)).size := by rw [Array.size_replicate]; exact hj
  rw [front_at _ _ _ hj, getElem!_pos (Array.replicate 200 (0 : UInt8)) j h', Array.getElem_replicate]
  unfold byteOf
  rw [zero25_at _ (by omega)]
  unfold low
  simp
theorem xor_bit (x y : UInt8) (i : Nat) : (x ^^^ y).toNat.testBit i = (x.toNat.testBit i ^^ y.toNat.testBit i) := by
  rw [UInt8.toNat_xor, Nat.testBit_xor]
/-- A piece laid upon the state's bytes is the piece's words laid upon its words. -/
theorem mix_xor (d : St) (hd : d.size = 25) (p : Bs) (T : List UInt8) (o : Nat) (hp : ∀ j, j < 136 → p[j]! = T[o + j]!) :
    mixTo (xorB (front d 200) T o 136) zero25 25 = mixTo p d 17 := by
  have hz : zero25.size = 25 := by simp [zero25]
  refine st_ext _ _ (by rw [mixTo_size, hz]) (by rw [mixTo_size, hd]) (fun j hj => ?_)
  rw [mixTo_at _ zero25 hz 25 j (Nat.le_refl _) hj, if_pos hj, zero25_at j hj, zx, mixTo_at _ d hd 17 j (by decide) hj]
  apply BitVec.eq_of_getLsbD_eq
  intro k hk
  have hb : ∀ m, m < 200 → (xorB (front d 200) T o 136)[m]! = if m < 136 then (front d 200)[m]! ^^^ T[o + m]! else (front d 200)[m]! := fun m hm =>
    xorB_at _ _ _ _ _ (by rw [front_size]; decide) (by rw [front_size]; exact hm)
  have hw := congrArg (fun v => v.getLsbD k) (word_front d 200 j (by omega))
  simp only [wordOf] at hw ⊢
  rw [wordTo_bit _ _ 8 k (Nat.le_refl _) hk] at hw ⊢
  rw [hb _ (by omega)]
  by_cases h17 : j < 17
  · rw [if_pos (by omega), if_pos h17, BitVec.getLsbD_xor, ← hw, wordTo_bit _ _ 8 k (Nat.le_refl _) hk, xor_bit, hp _ (by omega)]
    simp [hk]
  · rw [if_neg (by omega), if_neg h17, ← hw]
theorem take_block (T : List UInt8) (i : Nat) : T.take (136 * (i + 1)) = T.take (136 * i) ++ (T.drop (136 * i)).take 136 := by
  rw [show 136 * (i + 1) = 136 * i + 136 by omega, List.take_add]
theorem refSt_eq (T : List UInt8) (i : Nat) (h : 136 * i ≤ T.length) : refSt T i = front (takeL S0 (T.take (136 * i))).d 200 := by
  induction i with
  | zero =>
    rw [Nat.mul_zero, List.take_zero]
    exact zero_front.symm
  | succ i ih =>
    rw [refSt, ih (by omega), take_block T i, takeL_append]
    have hok := takeL_ok S0_ok (T.take (136 * i))
    have hh : (takeL S0 (T.take (136 * i))).h = 0 := by
      rw [takeL_h S0_ok, List.length_take, Nat.min_eq_left (by omega)]
      have : S0.h = 0 := rfl
      omega
    generalize takeL S0 (T.take (136 * i)) = S at hok hh
    obtain ⟨d, p, q⟩ := S
    have hd : d.size = 25 := hok.d25
    have hp : p.size = 136 := hok.p136
    have hq : q = 0 := hh
    subst hq
    have hl : ((T.drop (136 * i)).take 136).length = 136 := by rw [List.length_take, List.length_drop]; omega
    rw [takeL_chunk _ _ (by intro e; rw [e] at hl; simp at hl) (by rw [hl]; exact Nat.le_refl _), hl, if_pos rfl, soak_mk]
    unfold permB
    rw [mix_xor d hd (splice p 0 ((T.drop (136 * i)).take 136)) T (136 * i)]
    intro j hj
    rw [splice_at _ _ _ _ (by rw [hl, hp]; decide) (by omega), if_pos (by omega), Nat.sub_zero, getElem!_pos _ j (by rw [hl]; exact hj), getElem!_pos T (136 * i + j) (by omega)]
    rw [List.getElem_take, List.getElem_drop]
theorem refSt_total (l : List UInt8) (e : UInt8) : refSt (total l e) (l.length / 136 + 1) = front (absorb l e) 200 := by
  have h := total_length l e
  rw [refSt_eq _ _ (by omega), absorb_total, List.take_of_length_le (by omega)]
end Go.Proofs.YtmepmoalhgehhaaGreatDoor.SP
namespace Go.Proofs.YtmepmoalhgehhaaGreatDoor.SP
open Go.RowKit Go.Sort Go.Deep
/-- 'append(out, x...)' of bytes, with room for them. -/
theorem append_room {w : World} {g l cap r k n c : Nat} {cur bs : Bs} (hC : Holds encB w g 0 cur) (hs : cur.size = cap) (hB : Holds encB w r 0 bs) (hk : bs.size = n) (hk2 : k = n) (hroom : l + n ≤ cap) (ty : TypeId) :
    (Builtin.append_ #[24, 24] ty #[.slice (some ⟨g, 0, none⟩) l cap, .slice (some ⟨r, 0, none⟩) k c]).run Tryz.prog w = .ok (.slice (some ⟨g, 0, none⟩) (l + n) cap) (w.setCells g l (bs.toList.map encB)) := by
  subst hk2
  obtain ⟨i, hi, _, hsz, _⟩ := info_parts info5
  have hlen : (bs.toList.map encB).length = k := by rw [List.length_map, Array.length_toList, hk]
  have hsrc : Src Tryz.prog i.size 24 (.slice (some ⟨r, 0, none⟩) k c) k (bs.toList.map encB) w := by
    rw [hsz]
    refine Src.ofSlice w slice22 ⟨r, 0, none⟩ k c _ (by rw [hlen, Nat.mul_one]) (fun j v hj => ?_) (fun v hv => ?_)
    · obtain ⟨h1, h2⟩ := List.getElem?_eq_some_iff.1 hj
      rw [hlen] at h1
      have hc := (hB j (by omega)).1
      rw [getElem!_pos bs j (by omega)] at hc
      rw [List.getElem_map, Array.getElem_toList] at h2
      have e1 : (⟨r, 0, none⟩ : Addr).add j = ⟨r, 0 + j, none⟩ := by
        unfold Addr.add
        by_cases h0 : j = 0
        · subst h0; rw [if_pos rfl]
        · rw [if_neg h0]
      rw [e1, hc, h2]
    · obtain ⟨x, _, rfl⟩ := List.mem_map.1 hv
      rfl
  have h := run_append_room_src (P := Tryz.prog) w 24 24 ty 5 i slice22 hi g 0 l cap (.slice (some ⟨r, 0, none⟩) k c) k _ hsrc hroom
    (fun j hj => by
      rw [hlen] at hj
      rw [hsz, Nat.mul_one, Nat.add_assoc, (hC (l + j) (by omega)).1]; rfl)
    (fun j hj => by
      rw [hlen] at hj
      rw [hsz, Nat.mul_one, Nat.add_assoc]
      exact (hC (l + j) (by omega)).2)
  rw [hsz, Nat.mul_one, Nat.zero_add] at h
  exact h
theorem Only.with_new {b o n g m p : Nat} {w w1 w2 : World} (h : Only b o n w w1) (k : Only g p m w1 w2) (hg : w.heap.size ≤ g) (hb : b < w.heap.size) : Only b o n w w2 := by
  have hs := h.size
  have e := k.block b (by omega) (by omega)
  exact ⟨k.os.trans h.os, k.tape.trans h.tape, k.output.trans h.output, Nat.le_trans h.size k.size,
    fun j hj hn => (k.block j (by omega) (by omega)).trans (h.block j hj hn),
    fun q hq => (World.cell?_of_block (w := w1) (a := ⟨b, q, none⟩) e).trans (h.cell q hq), fun q => (World.frozen?_of_block (w := w1) (a := ⟨b, q, none⟩) e).trans (h.froz q)⟩
theorem permN_pred (d : St) (m : Nat) (h : ¬ m = 0) : perm (permN d (m - 1)) = permN d m := by
  obtain ⟨k, rfl⟩ : ∃ k, m = k + 1 := ⟨m - 1, by omega⟩
  rw [Nat.add_sub_cancel, permN]
theorem stream_next (d : St) (m : Nat) (cur : Bs) (hc : 136 * m + 136 ≤ cur.size) (h : ∀ j, j < 136 * m → cur[j]! = streamAt d j) : ∀ j, j < 136 * (m + 1) → (splice cur (136 * m) (front (permN d m) 136).toList)[j]! = streamAt d j := by
  intro j hj
  have hl : (front (permN d m) 136).toList.length = 136 := by rw [Array.length_toList, front_size]
  rw [splice_at _ _ _ _ (by rw [hl]; exact hc) (by omega), hl]
  by_cases h1 : j < 136 * m
  · rw [if_neg (by omega), h j h1]
  · rw [if_pos (by omega), getElem!_pos _ (j - 136 * m) (by rw [hl]; omega), Array.getElem_toList, ← getElem!_pos (front (permN d m) 136) (j - 136 * m) (by rw [front_size]; omega), front_at _ _ _ (by omega)]
    unfold streamAt
    rw [show j / 136 = m by omega, show j % 136 = j - 136 * m by omega]
set_option maxHeartbeats 2000000 in
set_option maxRecDepth 100000 in
theorem give_any (b : Nat) (d : St) (n : Nat) (w : World) (h25 : d.size = 25) (hD : Holds enc w b 0 d) (hn : n ≤ 16384) :
    Calls Tryz.prog 103 #[.pointer (some ⟨b, 0, none⟩), .int .i64 (n : Int)] w fun e w' => e = .returned (.slice (some ⟨w.heap.size, 0, none⟩) n n) ∧ Only b 0 25 w w' ∧ Holds encB w' w.heap.size 0 (streamL d n) := by
  have hb := Holds.lt hD (by omega)
  obtain ⟨i, hi, hz0, hsz, hby⟩ := info_parts info5
  obtain ⟨cp, hcp⟩ : ∃ c, n + 136 = c := ⟨_, rfl⟩
  have hmk : ∀ w : World, (Instr.makeSlice 24 (.int .i64 0) (.int .i64 ((n : Int) + 136))).run Tryz.prog w = .ok (.slice (some ⟨w.heap.size, 0, none⟩) 0 cp) (w.alloc (.cells (madeCells #[.int .u8 0] cp) 5)) := by
    intro w
    have h := run_make (P := Tryz.prog) w 24 5 i (.int .u8 0) slice22 hi hz0 .i64 .i64 0 ((n : Int) + 136) (by omega) (by omega) (by rw [hby]; omega) (by omega)
    rw [hsz, Nat.mul_one, show ((n : Int) + 136).toNat = cp by omega] at h
    exact h
  have hC0 : Holds encB (w.alloc (.cells (madeCells #[.int .u8 0] cp) 5)) w.heap.size 0 (Array.replicate cp 0) := Holds.made (enc := encB) w 5 cp 0
  have hO0 : Only b 0 25 w (w.alloc (.cells (madeCells #[.int .u8 0] cp) 5)) := (Only.refl _ _ _ _).alloc hb _
  have hD0 := Holds.below hD ((Below.refl w.heap.size w).alloc (Nat.le_refl _) (.cells (madeCells #[.int .u8 0] cp) 5)) hb
  have hs0 : w.heap.size < (w.alloc (.cells (madeCells #[.int .u8 0] cp) 5)).heap.size := by simp
  clear hi hz0 hsz hby
  have Hcp : Hid (n + 136 = cp) := hcp
  have hcl : n + 136 ≤ cp := by omega
  have hcg : cp ≤ n + 136 := by omega
  clear hcp
  go_enter Tryz.func103, Tryz.ntmps103
  go_wp2
  generalize w.alloc _ = W1 at hC0 hO0 hD0 hs0 ⊢
  clear hmk
  go_loopg [5] cp (fun g s5 wr => ∃ (m l : Nat) (cur : Bs), Hid (l = 136 * m) ∧ l + g = cp ∧ 1 ≤ g ∧ s5 = .slice (some ⟨w.heap.size, 0, none⟩) l cp ∧ Holds encB wr w.heap.size 0 cur ∧ cur.size = cp ∧ Holds enc wr b 0 (permN d (m - 1)) ∧ Only b 0 25 w wr ∧ w.heap.size < wr.heap.size ∧ Hid (∀ j, j < 136 * m → cur[j]! = streamAt d j))
  case atStart => exact ⟨0, 0, _, rfl, by omega, by have := Hcp.out; omega, rfl, hC0, by rw [Array.size_replicate], hD0, hO0, hs0, fun j hj => by omega⟩
  case round =>
    clear hC0 hO0 hD0 hs0
    obtain ⟨m, l, cur, Hl, hg, hg1, rfl, hC, hcs, hDm, hO, hs, HE⟩ := hrel
    have hps := permN_size d h25 (m - 1)
    by_cases hlt : l < n
    · have hlt' : (l : Int) < (n : Int) := by omega
      have HN : Hid (∀ j, j < 136 * (m + 1) → (splice cur l (front (permN d m) 136).toList)[j]! = streamAt d j) := by
        rw [Hl.out]
        exact stream_next d m cur (by rw [← Hl.out]; omega) HE
      by_cases hm0 : m = 0
      · have hz0 : ¬ (0 : Int) < (l : Int) := by have := Hl.out; omega
        have hDm0 : Holds enc wr b 0 (permN d m) := by rw [hm0] at hDm ⊢; exact hDm
        have Hm0 : Hid (m = 0) := hm0
        clear hm0 hDm HE
        go_wp2_with fail
        refine (front_any b 0 136 _ _ (permN_size d h25 m) hDm0 (by decide)).mono ?_
        rintro e w2 ⟨rfl, hb2, hF⟩
        have hC2 := Holds.below hC hb2 (Holds.lt hC (by omega))
        have hD2 := Holds.below hDm0 hb2 (Holds.lt hDm0 (by rw [permN_size d h25]; decide))
        have hap := append_room (l := l) (k := 136) (n := 136) (c := 136) hC2 hcs hF (front_size _ _) rfl (by omega) 24
        have hC3 := holds_splice hC2 l (front (permN d m) 136).toList (by rw [Array.length_toList, front_size]; omega)
        rw [Nat.zero_add] at hC3
        have hO2 : Only b 0 25 w w2 := hO.trans (Only.of_below hb2 rfl (Holds.lt hDm0 (by rw [permN_size d h25]; decide)))
        have hOn : Only w.heap.size 0 cp w2 (w2.setCells w.heap.size l ((front (permN d m) 136).toList.map encB)) := (Only.refl _ _ _ _).setCells _ _ (by omega) (by rw [List.length_map, Array.length_toList, front_size]; omega)
        have hO3 := hO2.with_new hOn (Nat.le_refl _) hb
        have hD3 := Holds.other hD2 hOn (by omega) (by rw [permN_size d h25]; decide)
        have hs3 : w.heap.size < (w2.setCells w.heap.size l ((front (permN d m) 136).toList.map encB)).heap.size := Nat.lt_of_lt_of_le (Holds.lt hC2 (by omega)) hOn.size
        generalize w2.setCells w.heap.size l ((front (permN d m) 136).toList.map encB) = W3 at hap hC3 hO3 hD3 hs3
        have HAP : Hid _ := hap
        clear hC2 hD2 hF hb2 hOn hO2 hap
        go_wp2_with (at_builtin; refine Lib.wpList_append_run _ rfl _ _ 24 24 rfl _ _ rfl rfl _ _ HAP.out ?_)
        go_roundg (gk - 136)
        case measure => omega
        case rel =>
          exact ⟨m + 1, l + 136, _, by have := Hl.out; show _ = _; omega, by omega, by omega, rfl, hC3, by rw [splice_size, hcs], hD3, hO3, hs3, HN⟩
      · have hpos : (0 : Int) < (l : Int) := by have := Hl.out; omega
        clear HE
        go_wp2_with fail
        refine (permute_any b 0 _ _ hps hDm).mono ?_
        rintro e w1 ⟨rfl, hO1, hD1⟩
        rw [permN_pred d m hm0] at hD1
        have hC1 := Holds.other hC hO1 (by omega) (by omega)
        have hO1' := hO.trans hO1
        go_wp2_with fail
        refine (front_any b 0 136 _ _ (permN_size d h25 m) hD1 (by decide)).mono ?_
        rintro e w2 ⟨rfl, hb2, hF⟩
        have hC2 := Holds.below hC1 hb2 (Holds.lt hC1 (by omega))
        have hD2 := Holds.below hD1 hb2 (Holds.lt hD1 (by rw [permN_size d h25]; decide))
        have hap := append_room (l := l) (k := 136) (n := 136) (c := 136) hC2 hcs hF (front_size _ _) rfl (by omega) 24
        have hC3 := holds_splice hC2 l (front (permN d m) 136).toList (by rw [Array.length_toList, front_size]; omega)
        rw [Nat.zero_add] at hC3
        have hO2 : Only b 0 25 w w2 := hO1'.trans (Only.of_below hb2 rfl (Holds.lt hD1 (by rw [permN_size d h25]; decide)))
        have hOn : Only w.heap.size 0 cp w2 (w2.setCells w.heap.size l ((front (permN d m) 136).toList.map encB)) := (Only.refl _ _ _ _).setCells _ _ (by omega) (by rw [List.length_map, Array.length_toList, front_size]; omega)
        have hO3 := hO2.with_new hOn (Nat.le_refl _) hb
        have hD3 := Holds.other hD2 hOn (by omega) (by rw [permN_size d h25]; decide)
        have hs3 : w.heap.size < (w2.setCells w.heap.size l ((front (permN d m) 136).toList.map encB)).heap.size := Nat.lt_of_lt_of_le (Holds.lt hC2 (by omega)) hOn.size
        generalize w2.setCells w.heap.size l ((front (permN d m) 136).toList.map encB) = W3 at hap hC3 hO3 hD3 hs3
        have HAP : Hid _ := hap
        clear hC2 hD2 hF hb2 hOn hO2 hap
        go_wp2_with (at_builtin; refine Lib.wpList_append_run _ rfl _ _ 24 24 rfl _ _ rfl rfl _ _ HAP.out ?_)
        go_roundg (gk - 136)
        case measure => omega
        case rel =>
          exact ⟨m + 1, l + 136, _, by have := Hl.out; show _ = _; omega, by omega, by omega, rfl, hC3, by rw [splice_size, hcs], hD3, hO3, hs3, HN⟩
    · have hge : (n : Int) ≤ (l : Int) := by omega
      have hle : n ≤ cp := by omega
      have hle' : (n : Int) ≤ (cp : Int) := by omega
      go_wp2
      go_ret
      refine ⟨rfl, hO, fun j hj => ?_⟩
      rw [streamL_size] at hj
      have := hC j (by omega)
      rw [HE.out j (by have := Hl.out; omega)] at this
      rw [streamL_at d n j hj]
      exact this
end Go.Proofs.YtmepmoalhgehhaaGreatDoor.SP
namespace Go.Proofs.YtmepmoalhgehhaaGreatDoor.SP
open Go.RowKit Go.Sort Go.Deep
/-- A sponge's cells at its birth. -/
def spZero : Array Value := Array.replicate 25 (.int .u64 0) ++ Array.replicate 136 (.int .u8 0) ++ #[.int .i64 0]
theorem zero68 : ∀ w : World, (zeroValue 85).run Tryz.prog w = .ok (.agg spZero) w := fun _ => by kernel_rfl
theorem spZero_d (j : Nat) (hj : j < 25) : spZero[j]? = some (.int .u64 0) := by
  have h1 : j < (Array.replicate 25 (Value.int .u64 0)).size := by rw [Array.size_replicate]; exact hj
  unfold spZero
  rw [Array.append_assoc, Array.getElem?_append_left h1, Array.getElem?_eq_getElem h1, Array.getElem_replicate]
theorem spZero_p (j : Nat) (hj : j < 136) : spZero[25 + j]? = some (.int .u8 0) := by
  have h1 : j < (Array.replicate 136 (Value.int .u8 0)).size := by rw [Array.size_replicate]; exact hj
  unfold spZero
  rw [Array.append_assoc, Array.getElem?_append_right (by rw [Array.size_replicate]; omega), Array.size_replicate, Nat.add_sub_cancel_left, Array.getElem?_append_left h1, Array.getElem?_eq_getElem h1, Array.getElem_replicate]
theorem spZero_h : spZero[161]? = some (.int .i64 0) := by
  unfold spZero
  rw [Array.getElem?_append_right (by rw [Array.size_append, Array.size_replicate, Array.size_replicate]; decide), Array.size_append, Array.size_replicate, Array.size_replicate]
  rfl
theorem hsp_new (w : World) (t : TypeId) : HSp (w.alloc (.cells spZero t)) w.heap.size S0 := by
  refine ⟨fun j hj => ?_, fun j hj => ?_, ?_, ?_⟩
  · have hj' : j < 25 := by simpa [S0, zero25] using hj
    rw [World.cell?_alloc_new, World.frozen?_alloc_new, Nat.zero_add, spZero_d j hj']
    refine ⟨?_, rfl⟩
    have e : S0.d[j]! = 0 := zero25_at j hj'
    rw [e]
    rfl
  · have hj' : j < 136 := by simpa [S0] using hj
    rw [World.cell?_alloc_new, World.frozen?_alloc_new, spZero_p j hj']
    refine ⟨?_, rfl⟩
    have e : S0.p[j]! = 0 := rep_at 136 j hj'
    rw [e]
    rfl
  · rw [World.cell?_alloc_new, spZero_h]; rfl
  · rw [World.frozen?_alloc_new]
set_option maxHeartbeats 2000000 in
set_option maxRecDepth 100000 in
theorem Stream_no (a : Option Addr) (len cap : Nat) (n : Int) (w : World) (hn : n < 0 ∨ 16384 < n) :
    Calls Tryz.prog 78 #[.slice a len cap, .int .i64 n] w fun e w' => e = .returned (.tuple #[.slice none 0 0, .int .i64 1]) ∧ w' = w := by
  by_cases h0 : n < 0
  · have d0 : decide (n < 0) = true := decide_eq_true h0
    go_enter Tryz.func78, Tryz.ntmps78
    go_wp2
    go_ret2
    exact ⟨rfl, rfl⟩
  · have h1 : 16384 < n := by omega
    have d0 : decide (n < 0) = false := decide_eq_false h0
    go_enter Tryz.func78, Tryz.ntmps78
    go_wp2
    go_ret2
    exact ⟨rfl, rfl⟩
set_option maxHeartbeats 2000000 in
set_option maxRecDepth 100000 in
theorem Stream_yes (a : Option Addr) (sb so len cap n : Nat) (bs : Bs) (w : World) (hn : n ≤ 16384) (hl : bs.size = len) (hcap : len ≤ cap) (hbig : len ≤ 1099511627776) (hsrc : len = 0 ∨ (a = some ⟨sb, so, none⟩ ∧ Holds encB w sb so bs)) :
    Calls Tryz.prog 78 #[.slice a len cap, .int .i64 (n : Int)] w fun e w' => ∃ r, e = .returned (.tuple #[.slice (some ⟨r, 0, none⟩) n n, .int .i64 0]) ∧ w.heap.size ≤ r ∧ Below w.heap.size w w' ∧ Holds encB w' r 0 (strmL bs.toList n) := by
  have hS0 := hsp_new w 85
  have hb0 : Below w.heap.size w (w.alloc (.cells spZero 85)) := (Below.refl _ _).alloc (Nat.le_refl _) _
  have hs0 : w.heap.size < (w.alloc (.cells spZero 85)).heap.size := by simp
  have hsrc' : len = 0 ∨ (a = some ⟨sb, so, none⟩ ∧ sb ≠ w.heap.size ∧ Holds encB (w.alloc (.cells spZero 85)) sb so bs) := by
    by_cases h0 : len = 0
    · exact Or.inl h0
    · rcases hsrc with h | ⟨h1, h2⟩
      · exact Or.inl h
      · have hlt := Holds.lt h2 (by omega)
        exact Or.inr ⟨h1, by omega, Holds.below h2 hb0 hlt⟩
  have d0 : decide ((n : Int) < 0) = false := decide_eq_false (by omega)
  have d1 : ¬ (16384 : Int) < (n : Int) := by omega
  have zv := zero68
  go_enter Tryz.func78, Tryz.ntmps78
  go_wp2_with fail
  generalize w.alloc (.cells spZero 85) = W1 at hS0 hb0 hs0 hsrc' ⊢
  refine (take_any w.heap.size S0 a sb so len cap bs W1 S0_ok hS0 hl hcap hbig hsrc').mono ?_
  rintro e w1 ⟨rfl, hO1, hS1⟩
  go_wp2_with fail
  refine (end_any w.heap.size (takeL S0 bs.toList) 31 w1 (takeL_ok S0_ok _) hS1).mono ?_
  rintro e w2 ⟨rfl, hO2, hS2⟩
  have hD2 : Holds enc w2 w.heap.size 0 (absorb bs.toList 31) := hS2.d
  clear hS2
  go_wp2_with fail
  refine (give_any w.heap.size _ n _ (absorb_size _ _) hD2 hn).mono ?_
  rintro e w3 ⟨rfl, hO3, hF⟩
  go_wp2
  go_ret2
  have s1 := hO1.size
  have s2 := hO2.size
  exact ⟨w2.heap.size, rfl, by omega, (hb0.trans ((hO1.trans hO2).below (by omega) (Nat.le_refl _))).trans (hO3.below (by omega) (Nat.le_refl _)), hF⟩
end Go.Proofs.YtmepmoalhgehhaaGreatDoor.SP
namespace Go.Proofs.YtmepmoalhgehhaaGreatDoor.SP
open Go.RowKit Go.Sort Go.Deep
/-- v is a slice of bytes of one's own (from block B on), with the bytes T in it. -/
def Own (B : Nat) (w : World) (v : Value) (T : List UInt8) : Prop :=
  ∃ g cap cur, v = .slice (some ⟨g, 0, none⟩) T.length cap ∧ B ≤ g ∧ g < w.heap.size ∧ Array.size cur = cap ∧ T.length ≤ cap ∧ Holds encB w g 0 cur ∧ ∀ j, j < T.length → cur[j]! = T[j]!
theorem Holds.front {α : Type} [Inhabited α] {f : α → Value} {w : World} {b o : Nat} {d e : Array α} (h : Holds f w b o d) (hs : e.size ≤ d.size) (he : ∀ j, j < e.size → e[j]! = d[j]!) : Holds f w b o e := by
  intro j hj
  rw [he j hj]
  exact h j (by omega)
theorem list_arr_at (T : List UInt8) (j : Nat) : T.toArray[j]! = T[j]! := by
  by_cases h : j < T.length
  · rw [getElem!_pos T.toArray j (by simpa using h), getElem!_pos T j h]
    simp
  · rw [getElem!_neg T.toArray j (by simpa using h), getElem!_neg T j h]
theorem list_app_front (a b : List UInt8) (j : Nat) (h : j < a.length) : (a ++ b)[j]! = a[j]! := by
  rw [getElem!_pos (a ++ b) j (by rw [List.length_append]; omega), getElem!_pos a j h, List.getElem_append_left h]
theorem list_app_back (a b : List UInt8) (j : Nat) (h : a.length ≤ j) (h2 : j < a.length + b.length) : (a ++ b)[j]! = b[j - a.length]! := by
  rw [getElem!_pos (a ++ b) j (by rw [List.length_append]; omega), getElem!_pos b (j - a.length) (by omega), List.getElem_append_right h]
variable {B : Nat} {w w1 : World} {v : Value} {T : List UInt8}
theorem Own.holds {g cap n : Nat} (h : Own B w (.slice (some ⟨g, 0, none⟩) n cap) T) : B ≤ g ∧ n = T.length ∧ T.length ≤ cap ∧ Holds encB w g 0 T.toArray := by
  obtain ⟨g', cap', cur, hv, hg, _, hs, hl, hH, hT⟩ := h
  injection hv with e1 e2 e3
  injection e1 with e1
  injection e1 with e1 _ _
  subst e1 e3
  exact ⟨hg, e2, hl, Holds.front hH (by simp; omega) (fun j hj => by rw [list_arr_at]; exact (hT j (by simpa using hj)).symm)⟩
theorem Own.below (h : Own B w v T) (k : Below w.heap.size w w1) : Own B w1 v T := by
  obtain ⟨g, cap, cur, hv, hg, hgl, hs, hl, hH, hT⟩ := h
  exact ⟨g, cap, cur, hv, hg, Nat.lt_of_lt_of_le hgl k.size, hs, hl, Holds.below hH k hgl, hT⟩
theorem Own.drew (h : Own B w v T) : Own B w.drew v T := h
theorem Own.drewN (h : Own B w v T) (q : Nat) : Own B (w.drewN q) v T := h
/-- '[]byte(s)'. -/
theorem conv_bytes (s : ByteArray) (hB : B ≤ w.heap.size) :
    ∃ v' w', (convert 9 24 (.string s)).run Tryz.prog w = .ok v' w' ∧ Own B w' v' s.data.toList ∧ Below w.heap.size w w' ∧ v' = .slice (some ⟨w.heap.size, 0, none⟩) s.size (grownCap w s.size 0 5) := by
  have h := Lib.run_convert_string_bytes (P := Tryz.prog) w 9 24 5 s str9 slice22 int5
  have hcap : s.size ≤ grownCap w s.size 0 5 := by
    unfold grownCap Question.cut
    exact Nat.le_add_right _ _
  have hl : s.data.size = s.size := rfl
  refine ⟨_, _, h, ⟨w.heap.size, grownCap w s.size 0 5, s.data ++ Array.replicate (grownCap w s.size 0 5 - s.size) 0, ?_, hB, by rw [Lib.bytesWorld_size]; omega, ?_, ?_, ?_, ?_⟩, ?_, rfl⟩
  · rw [Array.length_toList]; rfl
  · rw [Array.size_append, Array.size_replicate]; omega
  · rw [Array.length_toList]; omega
  · intro j hj
    rw [Array.size_append, Array.size_replicate] at hj
    have hb := Lib.bytesWorld_at_new w 5 s
    have hsz : (Lib.bytesCells w 5 s).size = grownCap w s.size 0 5 := by
      unfold Lib.bytesCells
      rw [Array.size_append, Array.size_map, Array.size_replicate]
      omega
    have hc : (Lib.bytesCells w 5 s) = (s.data ++ Array.replicate (grownCap w s.size 0 5 - s.size) 0).map encB := by
      unfold Lib.bytesCells
      rw [Array.map_append, Array.map_replicate]
      rfl
    have hj2 : j < (s.data ++ Array.replicate (grownCap w s.size 0 5 - s.size) 0).size := by rw [Array.size_append, Array.size_replicate]; exact hj
    constructor
    · unfold World.cell?
      rw [hb]
      simp only [Nat.zero_add]
      rw [if_neg (by decide), hc, Array.getElem?_map, Array.getElem?_eq_getElem hj2, Option.map_some, getElem!_pos _ j hj2]
    · unfold World.frozen?
      rw [hb]
      simp only [Nat.zero_add, hsz]
      simp
      omega
  · intro j hj
    rw [Array.length_toList] at hj
    rw [app_front _ _ j hj, getElem!_pos s.data.toList j (by rw [Array.length_toList]; exact hj), Array.getElem_toList]
  · refine ⟨?_, ?_, ?_, ?_, fun k hk => Lib.bytesWorld_at_old w 5 s k hk⟩
    · unfold Lib.bytesWorld World.freeze
      rw [if_neg (by decide)]
      rfl
    · unfold Lib.bytesWorld World.freeze
      rw [if_neg (by decide)]
      rfl
    · unfold Lib.bytesWorld World.freeze
      rw [if_neg (by decide)]
      rfl
    · rw [Lib.bytesWorld_size]; omega
/-- What only makes memory turns no row that is there; of a row without a cell nothing is said. -/
theorem Holds.below' {α : Type} [Inhabited α] {f : α → Value} {w w1 : World} {b o : Nat} {d : Array α} (h : Holds f w b o d) (k : Below w.heap.size w w1) : Holds f w1 b o d := by
  intro j hj
  have hlt := Holds.lt h (by omega)
  exact Holds.below h k hlt j hj
theorem hashL_size (l : List UInt8) : (hashL l).size = 32 := by rw [hashL, front_size]
end Go.Proofs.YtmepmoalhgehhaaGreatDoor.SP
namespace Go.Proofs.YtmepmoalhgehhaaGreatDoor.SP
open Go.RowKit Go.Sort Go.Deep
def lenB (n d : Nat) : UInt8 := UInt8.ofNat (n / d)
theorem lenB_int (n d : Nat) : (n : Int) / (d : Int) % 256 = ub (lenB n d) := by
  have e2 : ((n : Int) / (d : Int)) = ((n / d : Nat) : Int) := by rw [Int.natCast_ediv]
  rw [e2]
  unfold ub lenB
  rw [UInt8.toNat_ofNat']
  omega
theorem lenB_one (n : Nat) : (n : Int) % 256 = ub (lenB n 1) := by
  have := lenB_int n 1
  rw [show ((1 : Nat) : Int) = 1 from rfl, Int.ediv_one] at this
  exact this
/-- FRAME. -/
def frameL (l : List UInt8) : List UInt8 := [lenB l.length 16777216, lenB l.length 65536, lenB l.length 256, lenB l.length 1] ++ l
theorem frameL_length (l : List UInt8) : (frameL l).length = l.length + 4 := by
  unfold frameL
  rw [List.length_append]
  simp only [List.length_cons, List.length_nil]
  omega
theorem holds_four (w : World) (x y z t : UInt8) : Holds encB (w.alloc (.cells #[.int .u8 (ub x), .int .u8 (ub y), .int .u8 (ub z), .int .u8 (ub t)] 5)) w.heap.size 0 #[x, y, z, t] := by
  have h := Holds.new (enc := encB) w 5 #[x, y, z, t]
  have e : Array.map encB #[x, y, z, t] = #[.int .u8 (ub x), .int .u8 (ub y), .int .u8 (ub z), .int .u8 (ub t)] := by simp [encB]
  rw [e] at h
  exact h
theorem HSp.only {w w' : World} {b c o n : Nat} {S : Sp} (h : HSp w b S) (k : Only c o n w w') (hne : b ≠ c) : HSp w' b S := by
  have e := k.block b h.lt hne
  refine ⟨fun j hj => ?_, fun j hj => ?_, ?_, ?_⟩
  · rw [World.cell?_of_block (w := w) (a := ⟨b, 0 + j, none⟩) e, World.frozen?_of_block (w := w) (a := ⟨b, 0 + j, none⟩) e]; exact h.d j hj
  · rw [World.cell?_of_block (w := w) (a := ⟨b, 25 + j, none⟩) e, World.frozen?_of_block (w := w) (a := ⟨b, 25 + j, none⟩) e]; exact h.p j hj
  · rw [World.cell?_of_block (w := w) (a := ⟨b, 161, none⟩) e]; exact h.h
  · rw [World.frozen?_of_block (w := w) (a := ⟨b, 161, none⟩) e]; exact h.f
set_option maxHeartbeats 1000000 in
set_option maxRecDepth 100000 in
theorem takeFrame_any (b : Nat) (S : Sp) (a : Option Addr) (sb so len cap : Nat) (bs : Bs) (w : World) (hok : Ok S) (hS : HSp w b S) (hl : bs.size = len) (hcap : len ≤ cap) (hbig : len ≤ 1099511627776)
    (hsrc : len = 0 ∨ (a = some ⟨sb, so, none⟩ ∧ sb ≠ b ∧ Holds encB w sb so bs)) :
    Calls Tryz.prog 38 #[.pointer (some ⟨b, 0, none⟩), .slice a len cap] w fun e w' => e = .returned (.tuple #[]) ∧ Only b 0 162 w w' ∧ HSp w' b (takeL S (frameL bs.toList)) := by
  have hb := hS.lt
  have b0 : (len : Int) / 16777216 % 256 = ub (lenB len 16777216) := lenB_int len 16777216
  have b1 : (len : Int) / 65536 % 256 = ub (lenB len 65536) := lenB_int len 65536
  have b2 : (len : Int) / 256 % 256 = ub (lenB len 256) := lenB_int len 256
  have b3 : (len : Int) % 256 = ub (lenB len 1) := lenB_one len
  have hF : Hid (frameL bs.toList = (#[lenB len 16777216, lenB len 65536, lenB len 256, lenB len 1] : Bs).toList ++ bs.toList) := by
    unfold frameL
    rw [Array.length_toList, hl]
    rfl
  have h4 := holds_four w (lenB len 16777216) (lenB len 65536) (lenB len 256) (lenB len 1)
  generalize lenB len 16777216 = x0 at *
  generalize lenB len 65536 = x1 at *
  generalize lenB len 256 = x2 at *
  generalize lenB len 1 = x3 at *
  have hb0 : Below w.heap.size w (w.alloc (.cells #[.int .u8 (ub x0), .int .u8 (ub x1), .int .u8 (ub x2), .int .u8 (ub x3)] 5)) := (Below.refl _ _).alloc (Nat.le_refl _) _
  have hS1 := hS.below hb0 hb
  have hO0 : Only b 0 162 w (w.alloc (.cells #[.int .u8 (ub x0), .int .u8 (ub x1), .int .u8 (ub x2), .int .u8 (ub x3)] 5)) := Only.of_below hb0 rfl hb
  have hsrc1 : len = 0 ∨ (a = some ⟨sb, so, none⟩ ∧ sb ≠ b ∧ Holds encB (w.alloc (.cells #[.int .u8 (ub x0), .int .u8 (ub x1), .int .u8 (ub x2), .int .u8 (ub x3)] 5)) sb so bs) := by
    by_cases h0 : len = 0
    · exact Or.inl h0
    · rcases hsrc with h | ⟨h1, h2, h3⟩
      · exact Or.inl h
      · exact Or.inr ⟨h1, h2, Holds.below h3 hb0 (Holds.lt h3 (by omega))⟩
  clear hsrc
  go_enter Tryz.func38, Tryz.ntmps38
  go_wp2_with fail
  generalize w.alloc (.cells #[.int .u8 (ub x0), .int .u8 (ub x1), .int .u8 (ub x2), .int .u8 (ub x3)] 5) = W1 at h4 hb0 hS1 hO0 hsrc1 ⊢
  refine (take_any b S (some ⟨w.heap.size, 0, none⟩) w.heap.size 0 4 4 #[x0, x1, x2, x3] W1 hok hS1 rfl (Nat.le_refl _) (by decide) (Or.inr ⟨rfl, by omega, h4⟩)).mono ?_
  rintro e w2 ⟨rfl, hO2, hS2⟩
  have hsrc2 : len = 0 ∨ (a = some ⟨sb, so, none⟩ ∧ sb ≠ b ∧ Holds encB w2 sb so bs) := by
    by_cases h0 : len = 0
    · exact Or.inl h0
    · rcases hsrc1 with h | ⟨h1, h2, h3⟩
      · exact Or.inl h
      · exact Or.inr ⟨h1, h2, Holds.other h3 hO2 h2 (by omega)⟩
  go_wp2_with fail
  refine (take_any b _ a sb so len cap bs w2 (takeL_ok hok _) hS2 hl hcap hbig hsrc2).mono ?_
  rintro e w3 ⟨rfl, hO3, hS3⟩
  go_wp2
  go_end0
  refine ⟨rfl, (hO0.trans hO2).trans hO3, ?_⟩
  rw [hF.out, takeL_append]
  exact hS3
set_option maxHeartbeats 1000000 in
theorem Frame_any (s : ByteArray) (w : World) (hs : s.size ≤ 1048576) :
    Calls Tryz.prog 48 #[.string s] w fun e w' => ∃ o, e = .returned (.string o) ∧ o.data.toList = frameL s.data.toList ∧ Below w.heap.size w w' := by
  have b0 : (s.size : Int) / 16777216 % 256 = ub (lenB s.size 16777216) := lenB_int s.size 16777216
  have b1 : (s.size : Int) / 65536 % 256 = ub (lenB s.size 65536) := lenB_int s.size 65536
  have b2 : (s.size : Int) / 256 % 256 = ub (lenB s.size 256) := lenB_int s.size 256
  have b3 : (s.size : Int) % 256 = ub (lenB s.size 1) := lenB_one s.size
  have hF : Hid (frameL s.data.toList = (#[lenB s.size 16777216, lenB s.size 65536, lenB s.size 256, lenB s.size 1] : Bs).toList ++ s.data.toList) := by
    unfold frameL
    rw [Array.length_toList]
    rfl
  have h4 := holds_four w (lenB s.size 16777216) (lenB s.size 65536) (lenB s.size 256) (lenB s.size 1)
  generalize lenB s.size 16777216 = x0 at *
  generalize lenB s.size 65536 = x1 at *
  generalize lenB s.size 256 = x2 at *
  generalize lenB s.size 1 = x3 at *
  have kc := conv_str Tryz.prog 24 9 5 slice22 int5 str9 _ w.heap.size 0 4 4 #[x0, x1, x2, x3] h4 rfl
  have c0 : (s.size : Int) / 16777216 = ub x0 := by omega
  have c1 : (s.size : Int) / 65536 = ub x1 := by omega
  go_enter Tryz.func48, Tryz.ntmps48
  go_wp2
  go_ret
  refine ⟨_, rfl, ?_, (Below.refl _ _).alloc (Nat.le_refl _) _⟩
  rw [hF.out, ByteArray.data_append, Array.toList_append]
end Go.Proofs.YtmepmoalhgehhaaGreatDoor.SP
namespace Go.Proofs.YtmepmoalhgehhaaGreatDoor.SP
open Go.RowKit Go.Sort Go.Deep
/-- What a tag hashes. -/
def framesL (label : List UInt8) (ps : List (List UInt8)) : List UInt8 := frameL label ++ ps.flatMap frameL
/-- S3. -/
def tagL (label : List UInt8) (ps : List (List UInt8)) : Bs := hashL (framesL label ps)
theorem tagL_size (label : List UInt8) (ps : List (List UInt8)) : (tagL label ps).size = 32 := hashL_size _
theorem framesL_snoc (label : List UInt8) (ps : List (List UInt8)) (x : List UInt8) : framesL label (ps ++ [x]) = framesL label ps ++ frameL x := by
  unfold framesL
  rw [List.flatMap_append, ← List.append_assoc]
  simp
/-- A slice of bytes that is there. -/
def PartOk (w : World) (v : Value) (x : List UInt8) : Prop :=
  ∃ a sb so cap bs, v = .slice a (Array.size bs) cap ∧ bs.toList = x ∧ bs.size ≤ cap ∧ bs.size ≤ 1099511627776 ∧ (bs.size = 0 ∨ (a = some ⟨sb, so, none⟩ ∧ Holds encB w sb so bs))
theorem PartOk.below {w w1 : World} {v : Value} {x : List UInt8} (h : PartOk w v x) (k : Below w.heap.size w w1) : PartOk w1 v x := by
  obtain ⟨a, sb, so, cap, bs, h1, h2, h3, h4, h5⟩ := h
  refine ⟨a, sb, so, cap, bs, h1, h2, h3, h4, ?_⟩
  rcases h5 with h5 | ⟨h5, h6⟩
  · exact Or.inl h5
  · exact Or.inr ⟨h5, Holds.below' h6 k⟩
/-- A list of such. -/
def PartsOk (w : World) (pa : Option Addr) (ps : List (List UInt8)) : Prop :=
  ps.length = 0 ∨ ∃ pb po, pa = some ⟨pb, po, none⟩ ∧ ∀ j, j < ps.length → ∃ v, w.cell? ⟨pb, po + j, none⟩ = some v ∧ PartOk w v ps[j]!
theorem PartsOk.below {w w1 : World} {pa : Option Addr} {ps : List (List UInt8)} (h : PartsOk w pa ps) (k : Below w.heap.size w w1) : PartsOk w1 pa ps := by
  rcases h with h | ⟨pb, po, h1, h2⟩
  · exact Or.inl h
  · refine Or.inr ⟨pb, po, h1, fun j hj => ?_⟩
    obtain ⟨v, h3, h4⟩ := h2 j hj
    exact ⟨v, by rw [k.cell (p := ⟨pb, po + j, none⟩) (World.block_lt_of_cell? _ _ h3)]; exact h3, h4.below k⟩
theorem framesL_take (label : List UInt8) (ps : List (List UInt8)) (k : Nat) : (framesL label (ps.take k)).length ≤ (framesL label ps).length := by
  have e : framesL label ps = framesL label (ps.take k) ++ (ps.drop k).flatMap frameL := by
    unfold framesL
    rw [List.append_assoc, ← List.flatMap_append, List.take_append_drop]
  rw [e, List.length_append]
  omega
theorem take_snoc_getD {α : Type} [Inhabited α] (l : List α) (k : Nat) (h : k < l.length) : l.take (k + 1) = l.take k ++ [l[k]!] := by
  rw [List.take_succ_eq_append_getElem h, getElem!_pos l k h]
set_option maxHeartbeats 2000000 in
set_option maxRecDepth 100000 in
theorem Tag_any (label : ByteArray) (pa : Option Addr) (pcap : Nat) (ps : List (List UInt8)) (w : World) (hlab : label.size ≤ 1048576) (hpl : ps.length ≤ 1048576) (hP : PartsOk w pa ps) :
    Calls Tryz.prog 21 #[.string label, .slice pa ps.length pcap] w fun e w' => ∃ r, e = .returned (.slice (some ⟨r, 0, none⟩) 32 32) ∧ w.heap.size ≤ r ∧ Below w.heap.size w w' ∧ Holds encB w' r 0 (tagL label.data.toList ps) := by
  have hS0 := hsp_new w 85
  have hb0 : Below w.heap.size w (w.alloc (.cells spZero 85)) := (Below.refl _ _).alloc (Nat.le_refl _) _
  have hs0 : (w.alloc (.cells spZero 85)).heap.size = w.heap.size + 1 := by simp
  have zv := zero68
  generalize hW1 : w.alloc (.cells spZero 85) = W1 at hS0 hb0 hs0
  obtain ⟨v2, W2, hcv, own2, hb2, hv2⟩ := conv_bytes (w := W1) (B := 0) label (Nat.zero_le _)
  rw [hv2] at hcv own2
  obtain ⟨hq0, hq1, hle2, hH2⟩ := own2.holds
  rw [← hq1] at hle2
  clear hq0 hq1
  have hH2' : Holds encB W2 W1.heap.size 0 label.data := by simpa using hH2
  have hS2 := hS0.below hb2 hS0.lt
  have hsz2 := hb2.size
  obtain ⟨n, hn⟩ : ∃ n, ps.length = n := ⟨_, rfl⟩
  rw [hn]
  have Hn : Hid (ps.length = n) := hn
  have hn20 : n ≤ 1048576 := by omega
  rw [hs0] at hcv hH2'
  generalize hc2 : grownCap W1 label.size 0 5 = c2 at *
  clear own2 hv2 hH2 hn hc2
  have hcv' : (convert 9 24 (.string label)).run Tryz.prog (w.alloc (.cells spZero 85)) = .ok (.slice (some ⟨w.heap.size + 1, 0, none⟩) label.size c2) W2 := by rw [hW1]; exact hcv
  clear hW1 hcv
  go_enter Tryz.func21, Tryz.ntmps21
  go_wp2_with fail
  refine (takeFrame_any w.heap.size S0 (some ⟨w.heap.size + 1, 0, none⟩) (w.heap.size + 1) 0 label.size c2 label.data W2 S0_ok hS2 rfl (by omega) (by omega) (Or.inr ⟨rfl, by omega, hH2'⟩)).mono ?_
  rintro e w3 ⟨rfl, hO3, hS3⟩
  have hb3 : Below w.heap.size w w3 := (hb0.trans (hb2.mono (by omega))).trans (hO3.below (by omega) (Nat.le_refl _))
  have hz3 : w.heap.size < w3.heap.size := hS3.lt
  clear hcv' hH2' hO3 zv hS2
  go_wp2
  go_loopg [13] n (fun g s13 wr => ∃ (k : Nat) (Sk : Sp), k + g = n ∧ s13 = .int .i64 k ∧ HSp wr w.heap.size Sk ∧ Below w.heap.size w wr ∧ Ok Sk ∧ Hid (Sk = takeL S0 (framesL label.data.toList (ps.take k))))
  case atStart =>
    refine ⟨0, _, by omega, rfl, hS3, hb3, takeL_ok S0_ok _, ?_⟩
    rw [List.take_zero]
    unfold framesL
    rw [List.flatMap_nil, List.append_nil]
    rfl
  case round =>
    clear hS3 hb3 hz3
    obtain ⟨k, Sk, hk, rfl, hSk, hb, hok, HE⟩ := hrel
    by_cases hlt : k < n
    · obtain ⟨pb, po, rfl, hPj⟩ : ∃ pb po, pa = some ⟨pb, po, none⟩ ∧ ∀ j, j < ps.length → ∃ v, w.cell? ⟨pb, po + j, none⟩ = some v ∧ PartOk w v ps[j]! := by
        rcases hP with h | h
        · have := Hn.out; omega
        · exact h
      obtain ⟨v, hvc, hvp⟩ := hPj k (by have := Hn.out; omega)
      have hpb := World.block_lt_of_cell? _ _ hvc
      have hvc' : wr.cell? ⟨pb, po + k, none⟩ = some v := by rw [hb.cell (p := ⟨pb, po + k, none⟩) hpb]; exact hvc
      obtain ⟨a, sb, so, cap, bs, rfl, hbl, hbc, hbb, hsrc⟩ := hvp
      have hsrc' : bs.size = 0 ∨ (a = some ⟨sb, so, none⟩ ∧ sb ≠ w.heap.size ∧ Holds encB wr sb so bs) := by
        by_cases h0 : bs.size = 0
        · exact Or.inl h0
        · rcases hsrc with h | ⟨h1, h2⟩
          · exact Or.inl h
          · have := Holds.lt h2 (by omega)
            exact Or.inr ⟨h1, by omega, Holds.below h2 hb this⟩
      have HB : Hid (bs.toList = ps[k]!) := hbl
      have l1 : (k : Int) < (n : Int) := by omega
      generalize hbz : bs.size = bz at *
      clear hvc hsrc hPj hbl
      go_wp2_with fail
      refine (takeFrame_any w.heap.size Sk a sb so bz cap bs wr hok hSk hbz hbc hbb hsrc').mono ?_
      rintro e w4 ⟨rfl, hO4, hS4⟩
      go_wp2
      go_roundg (gk - 1)
      case measure => omega
      case rel =>
        refine ⟨k + 1, _, by omega, by go_num, hS4, hb.trans (hO4.below hb.size (Nat.le_refl _)), takeL_ok hok _, ?_⟩
        rw [take_snoc_getD ps k (by have := Hn.out; omega), framesL_snoc, takeL_append, ← HE.out, HB.out]
        rfl
    · have hkn : k = n := by omega
      have l1 : (n : Int) ≤ (k : Int) := by omega
      have HE2 : Hid (Sk = takeL S0 (framesL label.data.toList ps)) := by
        have e1 : ps.take k = ps := List.take_of_length_le (by have := Hn.out; omega)
        rw [e1] at HE
        exact HE
      clear HE
      go_wp2_with fail
      refine (end_any w.heap.size Sk 6 wr hok hSk).mono ?_
      rintro e w5 ⟨rfl, hO5, hS5⟩
      have hD5 : Holds enc w5 w.heap.size 0 (absorb (framesL label.data.toList ps) 6) := by
        have := hS5.d
        rw [HE2.out] at this
        exact this
      clear hS5
      go_wp2_with fail
      refine (front_any w.heap.size 0 32 _ _ (absorb_size _ _) hD5 (by decide)).mono ?_
      rintro e w6 ⟨rfl, hb6, hF6⟩
      have hs5 := hO5.size
      have hs4 := hb.size
      go_wp2
      go_ret
      exact ⟨w5.heap.size, rfl, by omega, (hb.trans (hO5.below hb.size (Nat.le_refl _))).trans (hb6.mono (by omega)), hF6⟩
end Go.Proofs.YtmepmoalhgehhaaGreatDoor.SP
namespace Go.Proofs.YtmepmoalhgehhaaGreatDoor.SP
open Go.RowKit Go.Sort Go.Deep
variable {B : Nat} {w w1 : World} {v : Value} {T : List UInt8}
set_option maxRecDepth 4000
/-- 'append(b, x...)', x of n bytes: there may be room, or not. -/
theorem append_own {r c : Nat} {xs : Bs} (h : Own B w v T) (hX : Holds encB w r 0 xs) (hB : B ≤ w.heap.size) (hbig : T.length + xs.size ≤ 1099511627776) (k : Nat) (hk : k = xs.size) :
    ∃ v' w', (Builtin.append_ #[24, 24] 24 #[v, .slice (some ⟨r, 0, none⟩) k c]).run Tryz.prog w = .ok v' w' ∧ Own B w' v' (T ++ xs.toList) ∧ Below B w w' := by
  subst hk
  obtain ⟨g, cap, cur, rfl, hg, hgl, hs, hl, hH, hTc⟩ := h
  obtain ⟨i, hi, hz, hsz, hby⟩ := info_parts info5
  have hxl0 : xs.toList.length = xs.size := Array.length_toList
  have hlen : (T ++ xs.toList).length = T.length + xs.size := by rw [List.length_append, hxl0]
  by_cases hroom : T.length + xs.size ≤ cap
  · have hap := append_room (l := T.length) (k := xs.size) (n := xs.size) (c := c) hH hs hX rfl rfl hroom 24
    have hH3 := holds_splice hH T.length xs.toList (by rw [hxl0]; omega)
    rw [Nat.zero_add] at hH3
    refine ⟨_, _, hap, ⟨g, cap, splice cur T.length xs.toList, by rw [hlen], hg, Nat.lt_of_lt_of_le hgl (below_setCells (B := 0) (b := g) (Nat.zero_le _) _ _ _ (Below.refl 0 w)).size, by rw [splice_size, hs], by omega, hH3, fun j hj => ?_⟩, ?_⟩
    · rw [hlen] at hj
      rw [splice_at _ _ _ _ (by rw [hxl0]; omega) (by omega), hxl0]
      by_cases h1 : j < T.length
      · rw [if_neg (by omega), list_app_front _ _ _ h1, hTc j h1]
      · rw [if_pos (by omega), list_app_back _ _ _ (by omega) (by rw [hxl0]; omega)]
    · exact below_setCells hg _ _ _ (Below.refl _ _)
  · have hold : (Builtin.firstCells i.size T.length (.slice (some ⟨g, 0, none⟩) T.length cap)).run Tryz.prog w.drew = .ok (T.map encB).toArray w.drew := by
      rw [hsz]
      refine run_firstCells_some w.drew 1 T.length ⟨g, 0, none⟩ T.length cap (T.map encB) (by rw [List.length_map, Nat.mul_one]) (fun j u hj => ?_)
      obtain ⟨h1, h2⟩ := List.getElem?_eq_some_iff.1 hj
      rw [List.length_map] at h1
      have hc := (hH j (by omega)).1
      rw [hTc j h1, getElem!_pos T j h1] at hc
      rw [List.getElem_map] at h2
      have e1 : (⟨g, 0, none⟩ : Addr).add j = ⟨g, 0 + j, none⟩ := by
        unfold Addr.add
        by_cases h0 : j = 0
        · subst h0; rw [if_pos rfl]
        · rw [if_neg h0]
      rw [e1, World.cell?_drew, hc, h2]
    have hxl : (xs.toList.map encB).length = xs.size := by rw [List.length_map, hxl0]
    have hsrc : Src Tryz.prog i.size 24 (.slice (some ⟨r, 0, none⟩) xs.size c) xs.size (xs.toList.map encB) w := by
      rw [hsz]
      refine Src.ofSlice w slice22 ⟨r, 0, none⟩ xs.size c _ (by rw [hxl, Nat.mul_one]) (fun j u hj => ?_) (fun u hu => ?_)
      · obtain ⟨h1, h2⟩ := List.getElem?_eq_some_iff.1 hj
        rw [hxl] at h1
        have hc := (hX j (by omega)).1
        rw [getElem!_pos xs j (by omega)] at hc
        rw [List.getElem_map, Array.getElem_toList] at h2
        have e1 : (⟨r, 0, none⟩ : Addr).add j = ⟨r, 0 + j, none⟩ := by
          unfold Addr.add
          by_cases h0 : j = 0
          · subst h0; rw [if_pos rfl]
          · rw [if_neg h0]
        rw [e1, hc, h2]
      · obtain ⟨x, _, rfl⟩ := List.mem_map.1 hu
        rfl
    have hnc : Builtin.nextslicecap (T.length + xs.size) cap ≤ 2 * (T.length + xs.size) + 768 := by
      unfold Builtin.nextslicecap
      split
      · omega
      · split
        · omega
        · simp only [Builtin.growBy]
          repeat' split
          all_goals omega
    have hap := run_append_grow_src (P := Tryz.prog) w 24 24 24 5 i (.int .u8 0) slice22 hi hz (some ⟨g, 0, none⟩) T.length cap (T.map encB) hold _ xs.size (xs.toList.map encB) hsrc (by omega) (by omega) (by rw [hby]; omega)
    generalize hG : grownCap w (T.length + xs.size) cap 5 = G at hap
    have hGl : T.length + xs.size ≤ G := by
      rw [← hG]
      unfold grownCap Question.cut
      exact Nat.le_add_right _ _
    have hcells : (T.map encB ++ xs.toList.map encB).toArray ++ Builtin.zeroCells (Value.int .u8 0).cells (G - (T.length + xs.size)) = ((T ++ xs.toList).toArray ++ Array.replicate (G - (T.length + xs.size)) (0 : UInt8)).map encB := by
      rw [Array.map_append, Array.map_replicate, ← List.map_append]
      congr 1
      · simp
      · unfold Builtin.zeroCells
        have e : (Value.int .u8 0).cells = #[Value.int .u8 0] := rfl
        rw [e]
        apply Array.ext
        · simp
        · intro k h1 h2
          simp [Nat.mod_one]
          rfl
    rw [hcells] at hap
    refine ⟨_, _, hap, ⟨w.heap.size, G, (T ++ xs.toList).toArray ++ Array.replicate (G - (T.length + xs.size)) 0, by rw [hlen], hB, by simp, ?_, by omega, ?_, fun j hj => ?_⟩, ?_⟩
    · rw [Array.size_append, Array.size_replicate, List.size_toArray, hlen]; omega
    · exact Holds.new (enc := encB) w.drew 5 _
    · rw [app_front _ _ j (by simpa using hj)]
      rw [getElem!_pos (T ++ xs.toList) j hj]
      simp
    · exact ((Below.refl B w).drew).alloc (by exact hB) _
end Go.Proofs.YtmepmoalhgehhaaGreatDoor.SP
namespace Go.Proofs.YtmepmoalhgehhaaGreatDoor.SP
open Go.RowKit Go.Sort Go.Deep
attribute [local go_sem] bits_xor64 bits_and64 bits_or64 wrap_u
theorem place_any (a b : Int) (n : Nat) (w : World) (ha : 0 ≤ a ∧ a ≤ 1000) (hb : 0 ≤ b ∧ b ≤ 1000) (h : a % 5 + 5 * (b % 5) = (n : Int)) :
    Calls Tryz.prog 134 #[.int .i64 a, .int .i64 b] w fun e w' => e = .returned (.int .i64 (n : Int)) ∧ w' = w := by
  obtain ⟨a1, a2⟩ := ha
  obtain ⟨b1, b2⟩ := hb
  rw [← h]
  clear h
  go_enter Tryz.func134, Tryz.ntmps134
  go_wp2
  go_ret
  exact ⟨rfl, rfl⟩
theorem left_any (x : BitVec 64) (k : Nat) (w : World) (hk : k < 64) :
    Calls Tryz.prog 135 #[.int .u64 (u x), .int .i64 (k : Int)] w fun e w' => e = .returned (.int .u64 (u (rol x k))) ∧ ∃ n, w' = w.drewN n := by
  have h1 : (0 : Int) ≤ 64 - (k : Int) := by omega
  have h2 : (64 : Int) - (k : Int) ≤ 64 := by omega
  have h3 : (k : Int) ≤ 64 := by omega
  have h4 : IntKind.i64.wrap (64 - (k : Int)) = 64 - (k : Int) := IntWalk.i64_in _ (by omega)
  have h5 : ((64 : Int) - (k : Int)).toNat = 64 - k := by omega
  have s1 := shl64 x k
  have s2 := shr64 x (64 - k)
  go_enter Tryz.func135, Tryz.ntmps135
  go_wp2
  go_quiet (fail)
  go_wp2
  go_ret
  refine ⟨ret_int ?_, _, rfl⟩
  rfl
set_option maxHeartbeats 1000000 in
theorem bit_any (t : Nat) (w : World) (ht : t ≤ 1000) :
    Calls Tryz.prog 136 #[.int .i64 (t : Int)] w fun e w' => e = .returned (.int .u64 (u (bitL t))) ∧ w' = w := by
  go_enter Tryz.func136, Tryz.ntmps136
  go_wp2
  go_loop [3, 4] (fun s3 s4 => ∃ (i q : Nat), i ≤ t ∧ s4 = .int .i64 i ∧ s3 = .int .i64 q ∧ q < 256 ∧ Hid (regTo i = q)) (fun _ s4 => t - (intOf s4).toNat)
  case atStart => exact ⟨0, 1, by omega, rfl, rfl, by decide, rfl⟩
  case round =>
    obtain ⟨i, q, hi, rfl, rfl, hq, HE⟩ := hrel
    by_cases hlt : i < t
    · have a2 := rc_xor q hq
      rw [Int.mul_comm] at a2
      have hlt2 := rcReg_lt q hq
      have HC : Hid (regTo (i + 1) = rcReg q) := by show rcReg (regTo i) = _; rw [HE.out]
      by_cases h255 : 255 < 2 * q
      · have HR : Hid (rcReg q = 2 * q ^^^ 369) := if_pos h255
        rw [HR.out] at hlt2
        generalize 2 * q ^^^ 369 = q2 at *
        go_wp2
        go_round
        case rel => exact ⟨i + 1, q2, by omega, by go_num, rfl, hlt2, by rw [HC.out, HR.out]; rfl⟩
        case measure => simp [intOf]; omega
      · have HR : Hid (rcReg q = 2 * q) := if_neg h255
        go_wp2
        go_round
        case rel => exact ⟨i + 1, 2 * q, by omega, by go_num, by go_num, by omega, by rw [HC.out, HR.out]; rfl⟩
        case measure => simp [intOf]; omega
    · have a1 := rc_and q hq
      have hit : i = t := by omega
      subst hit
      go_wp2
      go_ret
      unfold bitL
      rw [HE.out]
      exact ⟨rfl, rfl⟩
end Go.Proofs.YtmepmoalhgehhaaGreatDoor.SP
namespace Go.Proofs.YtmepmoalhgehhaaGreatDoor.SP
open Go.RowKit Go.Sort Go.Deep
attribute [local go_sem] bits_xor64 bits_and64 bits_or64 wrap_u
theorem place_uint (j : Nat) (hj : j < 7) : min (IntKind.u64.wrap (IntKind.u64.wrap ((2 : Int) ^ j) - 1)).toNat 64 = 2 ^ j - 1 := by
  have H : ∀ j : Fin 7, min (IntKind.u64.wrap (IntKind.u64.wrap ((2 : Int) ^ j.val) - 1)).toNat 64 = 2 ^ j.val - 1 := by decide +kernel
  exact H ⟨j, hj⟩
set_option maxHeartbeats 1000000 in
theorem constant_any (r : Nat) (w : World) (hr : r < 24) :
    Calls Tryz.prog 107 #[.int .i64 (r : Int)] w fun e w' => e = .returned (.int .u64 (u (conL r))) ∧ w' = w := by
  go_enter Tryz.func107, Tryz.ntmps107
  go_wp2
  go_loop [3, 4] (fun s3 s4 => ∃ (j : Nat) (c : BitVec 64), j ≤ 7 ∧ s4 = .int .i64 j ∧ s3 = .int .u64 (u c) ∧ Hid (conTo r j = c)) (fun _ s4 => 7 - (intOf s4).toNat)
  case atStart => exact ⟨0, 0, by omega, rfl, rfl, rfl⟩
  case round =>
    obtain ⟨j, c, hj, rfl, rfl, HE⟩ := hrel
    by_cases hlt : j < 7
    · have hj6 : (j : Int) ≤ 6 := by omega
      go_wp2_with fail
      rw [show (j : Int) + 7 * (r : Int) = ((j + 7 * r : Nat) : Int) from by omega]
      refine (bit_any (j + 7 * r) _ (by omega)).mono ?_
      rintro e w' ⟨rfl, rfl⟩
      go_wp2
      go_round
      case rel =>
        refine ⟨j + 1, conTo r (j + 1), by omega, by go_num, ?_, rfl⟩
        rw [place_uint j hlt, shl64, bits_or64]
        show _ = Value.int .u64 (u (conTo r j ||| bitL (j + 7 * r) <<< (2 ^ j - 1)))
        rw [HE.out]
      case measure => simp [intOf]; omega
    · have hj6 : ¬ (j : Int) ≤ 6 := by omega
      have hj7 : j = 7 := by omega
      subst hj7
      go_wp2
      go_ret
      unfold conL
      rw [HE.out]
      exact ⟨rfl, rfl⟩
theorem slice62 : Tryz.prog.underlying 164 = some (.slice 3) := by kernel_rfl
theorem info3 : (Tryz.prog.info? 3).map (fun i => (i.zero, i.size, i.bytes)) = some (some (.int .i64 0), 1, 8) := by kernel_rfl
theorem at_int {w : World} {b off : Nat} {d : Array Nat} (h : Holds encI w b off d) (i : Nat) (hi : i < d.size) {x : Nat} (hx : d[i]! = x) :
    w.cell? ⟨b, off + i, none⟩ = some (.int .i64 (x : Int)) ∧ w.frozen? ⟨b, off + i, none⟩ = false := by
  rw [← hx]; exact h i hi
theorem offs_int' (t : Nat) (h : t < 24) : (wrap64 ((wrap64 (((t : Int) + 1) * ((t : Int) + 2))).tdiv 2)).tmod 64 = (offs t : Int) := by
  have H : ∀ j : Fin 24, (wrap64 ((wrap64 (((j.val : Int) + 1) * ((j.val : Int) + 2))).tdiv 2)).tmod 64 = (offs j.val : Int) := by decide +kernel
  exact H ⟨t, h⟩
set_option maxHeartbeats 1000000 in
set_option maxRecDepth 100000 in
theorem offsets_any (w : World) :
    Calls Tryz.prog 105 #[] w fun e w' => e = .returned (.slice (some ⟨w.heap.size, 0, none⟩) 25 25) ∧ Below w.heap.size w w' ∧ Holds encI w' w.heap.size 0 offsetsL := by
  have hmk : ∀ w : World, (Instr.makeSlice 164 (.int .i64 25) (.int .i64 25)).run Tryz.prog w = .ok (.slice (some ⟨w.heap.size, 0, none⟩) 25 25) (w.alloc (.cells (madeCells #[.int .i64 0] 25) 3)) :=
    run_make_row' (P := Tryz.prog) 164 3 (.int .i64 0) 8 slice62 info3 rfl .i64 .i64 25 (by omega) (by omega)
  go_enter Tryz.func105, Tryz.ntmps105
  go_wp2
  generalize hW1 : (w.alloc _) = W1
  go_loopg [2, 3, 4] 24 (fun g sx sy st wr => ∃ t T, t + g = 24 ∧ st = .int .i64 (t : Nat) ∧ sx = .int .i64 (T.x : Nat) ∧ sy = .int .i64 (T.y : Nat) ∧ Holds encI wr w.heap.size 0 T.o ∧ Only w.heap.size 0 25 W1 wr ∧ Hid (T = ofTo t))
  case atStart =>
    refine ⟨0, ofTo 0, rfl, rfl, rfl, rfl, ?_, Only.refl _ _ _ _, rfl⟩
    rw [← hW1]
    exact Holds.made (enc := encI) w 3 25 0
  case round =>
    obtain ⟨t, ⟨x, y, o⟩, ht, rfl, rfl, rfl, hD, hO, HE⟩ := hrel
    have hok := ofTo_ok t
    rw [← HE.out] at hok
    obtain ⟨hx, hy, hs⟩ := hok
    dsimp only at hx hy hs hD
    by_cases hlt : t < 24
    · obtain ⟨i, hi⟩ : ∃ i, x % 5 + 5 * (y % 5) = i := ⟨_, rfl⟩
      have hib : i < 25 := by omega
      obtain ⟨c, f⟩ := hD i (by omega)
      rw [Nat.zero_add] at c f
      have Hi : Hid (x % 5 + 5 * (y % 5) = i) := hi
      have l24 : (t : Int) < 24 := by omega
      clear hi
      go_wp2_with fail
      refine (place_any (x : Int) (y : Int) i _ (by omega) (by omega) (by have := Hi.out; omega)).mono ?_
      rintro e w' ⟨rfl, rfl⟩
      have hoff := offs_int' t hlt
      have i25 : (i : Int) < 25 := by omega
      go_wp2
      go_roundg (gk - 1)
      case measure => omega
      case rel =>
        refine ⟨t + 1, ⟨y, (2 * x + 3 * y) % 5, o.setIfInBounds i (offs t)⟩, by omega, by go_num, rfl, by go_num, ?_, ?_, ?_⟩
        · have := Holds.set hD (i := i) (by omega) (offs t)
          rw [Nat.zero_add] at this
          exact this
        · exact hO.setCell (o := i) (by omega) (by omega) _
        · show _ = (Of.mk (ofTo t).y ((2 * (ofTo t).x + 3 * (ofTo t).y) % 5) ((ofTo t).o.setIfInBounds ((ofTo t).x % 5 + 5 * ((ofTo t).y % 5)) (offs t)))
          rw [← HE.out]
          dsimp only
          rw [Hi.out]
    · have ht24 : t = 24 := by omega
      subst ht24
      go_wp2
      go_ret
      refine ⟨rfl, ?_, ?_⟩
      · rw [← hW1] at hO
        exact hO.fresh
      · unfold offsetsL
        rw [← HE.out]
        exact hD
end Go.Proofs.YtmepmoalhgehhaaGreatDoor.SP
namespace Go.Proofs.YtmepmoalhgehhaaGreatDoor.SP
open Go.RowKit Go.Sort Go.Deep
attribute [local go_sem] bits_xor64 bits_and64 bits_or64 bits_not64 wrap_u
theorem slice61 : Tryz.prog.underlying 163 = some (.slice 23) := by kernel_rfl
theorem info56 : (Tryz.prog.info? 23).map (fun i => (i.zero, i.size, i.bytes)) = some (some (.int .u64 0), 1, 8) := by kernel_rfl
set_option maxHeartbeats 2000000 in
set_option maxRecDepth 100000 in
theorem round_any (ab tb : Nat) (a : St) (tn : Array Nat) (c : BitVec 64) (w : World) (ha : a.size = 25) (ht : tn.size = 25) (hA : Holds enc w ab 0 a) (hT : Holds encI w tb 0 tn) (h64 : ∀ i, i < 25 → tn[i]! < 64) :
    Calls Tryz.prog 106 #[.slice (some ⟨ab, 0, none⟩) 25 25, .slice (some ⟨tb, 0, none⟩) 25 25, .int .u64 (u c)] w fun e w' => ∃ r, e = .returned (.slice (some ⟨r, 0, none⟩) 25 25) ∧ w.heap.size ≤ r ∧ Below w.heap.size w w' ∧ Holds enc w' r 0 (refRound a tn c) := by
  have hab := Holds.lt hA (by omega)
  have htb := Holds.lt hT (by omega)
  have hmk5 : ∀ w : World, (Instr.makeSlice 163 (.int .i64 5) (.int .i64 5)).run Tryz.prog w = .ok (.slice (some ⟨w.heap.size, 0, none⟩) 5 5) (w.alloc (.cells (madeCells #[.int .u64 0] 5) 23)) :=
    run_make_row' (P := Tryz.prog) 163 23 (.int .u64 0) 8 slice61 info56 rfl .i64 .i64 5 (by omega) (by omega)
  have hmk25 : ∀ w : World, (Instr.makeSlice 163 (.int .i64 25) (.int .i64 25)).run Tryz.prog w = .ok (.slice (some ⟨w.heap.size, 0, none⟩) 25 25) (w.alloc (.cells (madeCells #[.int .u64 0] 25) 23)) :=
    run_make_row' (P := Tryz.prog) 163 23 (.int .u64 0) 8 slice61 info56 rfl .i64 .i64 25 (by omega) (by omega)
  have HM25 : Hid _ := hmk25
  clear hmk25
  go_enter Tryz.func106, Tryz.ntmps106
  go_wp2
  clear hmk5
  have hC1 : Holds enc (w.alloc (.cells (madeCells #[.int .u64 0] 5) 23)) w.heap.size 0 (colTo a 0) := Holds.made (enc := enc) w 23 5 0
  have hb1 : Below w.heap.size w (w.alloc (.cells (madeCells #[.int .u64 0] 5) 23)) := (Below.refl _ _).alloc (Nat.le_refl _) _
  generalize hW1 : (w.alloc _) = W1 at hC1 hb1 ⊢
  have hs1 : w.heap.size < W1.heap.size := by rw [← hW1]; simp
  have hA1 := Holds.below hA hb1 hab
  have hT1 := Holds.below hT hb1 htb
  clear hW1
  go_loopg [8] 5 (fun g s8 wr => ∃ (x : Nat) (ck : St), x + g = 5 ∧ s8 = .int .i64 x ∧ Holds enc wr w.heap.size 0 ck ∧ Only w.heap.size 0 5 W1 wr ∧ Hid (ck = colTo a x))
  case atStart => exact ⟨0, _, rfl, rfl, hC1, Only.refl _ _ _ _, rfl⟩
  case round =>
    obtain ⟨x, ck, hx, rfl, hC, hO, HE⟩ := hrel
    have hcs : ck.size = 5 := by rw [HE.out, colTo_size]
    by_cases hlt : x < 5
    · have l5 : (x : Int) < 5 := by omega
      go_wp2
      go_loopg [9] 5 (fun g s9 wq => ∃ (y : Nat) (cy : St), y + g = 5 ∧ s9 = .int .i64 y ∧ Holds enc wq w.heap.size 0 cy ∧ Only w.heap.size 0 5 W1 wq ∧ Hid (cy = colIn a x ck y))
      case atStart => exact ⟨0, ck, rfl, rfl, hC, hO, rfl⟩
      case round =>
        obtain ⟨y, cy, hy, rfl, hCy, hOy, HEy⟩ := hrel
        have hcys : cy.size = 5 := by rw [HEy.out, colIn_size, hcs]
        by_cases hlty : y < 5
        · have hAy := Holds.other hA1 hOy (by omega) (by omega)
          obtain ⟨z, hz⟩ : ∃ z, a[x + 5 * y]! = z := ⟨_, rfl⟩
          obtain ⟨v, hv⟩ : ∃ z, cy[x]! = z := ⟨_, rfl⟩
          obtain ⟨c0, f0⟩ := at_word hAy (x + 5 * y) (by omega) hz
          obtain ⟨c1, f1⟩ := at_word hCy x (by omega) hv
          rw [Nat.zero_add] at c0 c1 f1
          have HZ : Hid (a[x + 5 * y]! = z) := hz
          have HV : Hid (cy[x]! = v) := hv
          obtain ⟨i, hi⟩ : ∃ i, x + 5 * y = i := ⟨_, rfl⟩
          rw [hi] at c0
          have Hi : Hid (x + 5 * y = i) := hi
          have i25 : i < 25 := by omega
          have i25' : (i : Int) < 25 := by omega
          have y5 : (y : Int) < 5 := by omega
          clear hz hv hi f0
          go_wp2_with fail
          refine wp_region_still_tail 14 mixed (by kernel_rfl) ?_
          simp only [List.take_succ_cons, List.take_zero, List.drop_succ_cons, List.drop_zero]
          repeat still_step
          still_call (place_any (x : Int) (y : Int) i _ (by omega) (by omega) (by have := Hi.out; omega))
          repeat still_step
          refine wpStill_nil ?_
          go_wp2
          go_roundg (gk - 1)
          case measure => omega
          case rel =>
            refine ⟨y + 1, xorAt cy x z, by omega, by go_num, ?_, ?_, ?_⟩
            · have := Holds.xor hCy (i := x) (by omega) HV.out z
              rw [Nat.zero_add] at this
              exact Holds.drew this
            · exact (hOy.setCell (o := x) (by omega) (by omega) _).drew
            · show _ = xorAt (colIn a x ck y) x a[x + 5 * y]!
              rw [HZ.out, HEy.out]
        · have hy5 : y = 5 := by omega
          subst hy5
          go_wp2
          go_roundg (4 - x)
          case measure => omega
          case rel =>
            refine ⟨x + 1, cy, by omega, by go_num, hCy, hOy, ?_⟩
            show _ = colIn a x (colTo a x) 5
            rw [HEy.out, HE.out]
    · have hx5 : x = 5 := by omega
      subst hx5
      have hb2 : Below w.heap.size w wr := hb1.trans (hO.below (by omega) (Nat.le_refl _))
      have hs2 : w.heap.size < wr.heap.size := Nat.lt_of_lt_of_le hs1 hO.size
      clear hlt hx hC1 hb1 hs1 hA1 hT1 hO
      have hmk := HM25.out
      go_wp2
      clear hmk
      have hM3 : Holds enc (wr.alloc (.cells (madeCells #[.int .u64 0] 25) 23)) wr.heap.size 0 (movTo a tn ck 0) := Holds.made (enc := enc) wr 23 25 0
      have hb3' : Below wr.heap.size wr (wr.alloc (.cells (madeCells #[.int .u64 0] 25) 23)) := (Below.refl _ _).alloc (Nat.le_refl _) _
      generalize hW3 : (wr.alloc _) = W3 at hM3 hb3' ⊢
      have hs3 : wr.heap.size < W3.heap.size := by rw [← hW3]; simp
      have hC3 := Holds.below hC hb3' hs2
      have hb3 := hb2.trans (hb3'.mono (by omega))
      have hA3 := Holds.below hA hb3 hab
      have hT3 := Holds.below hT hb3 htb
      clear hW3 hb3' hb2 hC
      generalize hMB : wr.heap.size = MB at *
      go_loopg [11] 5 (fun g s11 wr => ∃ (x : Nat) (mk : St), x + g = 5 ∧ s11 = .int .i64 x ∧ Holds enc wr MB 0 mk ∧ Only MB 0 25 W3 wr ∧ Hid (mk = movTo a tn ck x))
      case atStart => exact ⟨0, _, rfl, rfl, hM3, Only.refl _ _ _ _, rfl⟩
      case round =>
        obtain ⟨x, mk, hx, rfl, hM, hO, HEx⟩ := hrel
        have hms : mk.size = 25 := by rw [HEx.out, movTo_size]
        by_cases hlt : x < 5
        · have hCw := Holds.other hC3 hO (by omega) (by omega)
          obtain ⟨y0, hy0⟩ : ∃ z, ck[(x + 4) % 5]! = z := ⟨_, rfl⟩
          obtain ⟨y1, hy1⟩ : ∃ z, ck[(x + 1) % 5]! = z := ⟨_, rfl⟩
          obtain ⟨c0, f0⟩ := at_word hCw ((x + 4) % 5) (by omega) hy0
          obtain ⟨c1, f1⟩ := at_word hCw ((x + 1) % 5) (by omega) hy1
          rw [Nat.zero_add] at c0 c1
          have HD : Hid (dcol ck x = y0 ^^^ rol y1 1) := by rw [← hy0, ← hy1]; rfl
          clear hy0 hy1 f0 f1
          have l5 : (x : Int) < 5 := by omega
          have q1 : 0 ≤ ((x : Int) + 4) % 5 := by omega
          have q2 : ((x : Int) + 4) % 5 < 5 := by omega
          have q3 : (((x : Int) + 4) % 5).toNat = (x + 4) % 5 := by omega
          have q4 : 0 ≤ ((x : Int) + 1) % 5 := by omega
          have q5 : ((x : Int) + 1) % 5 < 5 := by omega
          have q6 : (((x : Int) + 1) % 5).toNat = (x + 1) % 5 := by omega
          go_wp2_with fail
          go_quiet ((go_at_call 135; exact Calls.quiet_of (left_any _ 1 _ (by decide))))
          clear c0 c1 q1 q2 q3 q4 q5 q6
          go_wp2
          have hM1 := Holds.drewN hM nq
          have hO1 := hO.drewN nq
          generalize y0 ^^^ rol y1 1 = dv at *
          go_loopg [13] 5 (fun g s13 wq => ∃ (y : Nat) (my : St), y + g = 5 ∧ s13 = .int .i64 y ∧ Holds enc wq MB 0 my ∧ Only MB 0 25 W3 wq ∧ Hid (my = movIn a tn x dv mk y))
          case atStart => exact ⟨0, mk, rfl, rfl, hM1, hO1, rfl⟩
          case round =>
            obtain ⟨y, my, hy, rfl, hMy, hOy, HEy⟩ := hrel
            have hmys : my.size = 25 := by rw [HEy.out, movIn_size, hms]
            by_cases hlty : y < 5
            · have hAy := Holds.other hA3 hOy (by omega) (by omega)
              have hTy := Holds.other hT3 hOy (by omega) (by omega)
              obtain ⟨z, hz⟩ : ∃ z, a[x + 5 * y]! = z := ⟨_, rfl⟩
              obtain ⟨tv, htv⟩ : ∃ z, tn[x + 5 * y]! = z := ⟨_, rfl⟩
              obtain ⟨c0, f0⟩ := at_word hAy (x + 5 * y) (by omega) hz
              obtain ⟨c1, f1⟩ := at_int hTy (x + 5 * y) (by omega) htv
              have t64 : tv < 64 := by rw [← htv]; exact h64 _ (by omega)
              obtain ⟨i, hi⟩ : ∃ i, x + 5 * y = i := ⟨_, rfl⟩
              obtain ⟨j, hj⟩ : ∃ j, y % 5 + 5 * ((2 * x + 3 * y) % 5) = j := ⟨_, rfl⟩
              obtain ⟨c2, f2⟩ := hMy j (by omega)
              rw [Nat.zero_add] at c0 c1 c2 f2
              rw [hi] at c0 c1
              have Hi : Hid (x + 5 * y = i) := hi
              have Hj : Hid (y % 5 + 5 * ((2 * x + 3 * y) % 5) = j) := hj
              have HZ : Hid (a[x + 5 * y]! = z) := hz
              have HT : Hid (tn[x + 5 * y]! = tv) := htv
              have i25 : i < 25 := by omega
              have j25 : j < 25 := by omega
              have i25' : (i : Int) < 25 := by omega
              have j25' : (j : Int) < 25 := by omega
              have y5 : (y : Int) < 5 := by omega
              have s1 : IntKind.i64.wrap (2 * (x : Int)) = 2 * (x : Int) := IntWalk.i64_in _ (by omega)
              have s2 : IntKind.i64.wrap (3 * (y : Int)) = 3 * (y : Int) := IntWalk.i64_in _ (by omega)
              have s3 : IntKind.i64.wrap (2 * (x : Int) + 3 * (y : Int)) = 2 * (x : Int) + 3 * (y : Int) := IntWalk.i64_in _ (by omega)
              clear hz htv hi hj f0 f1
              go_wp2_with fail
              have P1 : ∀ w, Hid (Calls Tryz.prog 134 #[.int .i64 (y : Int), .int .i64 (2 * (x : Int) + 3 * (y : Int))] w fun e w' => e = .returned (.int .i64 (j : Int)) ∧ w' = w) := fun w => place_any _ _ j w (by omega) (by omega) (by have := Hj.out; omega)
              have P2 : ∀ w, Hid (Calls Tryz.prog 134 #[.int .i64 (x : Int), .int .i64 (y : Int)] w fun e w' => e = .returned (.int .i64 (i : Int)) ∧ w' = w) := fun w => place_any _ _ i w (by omega) (by omega) (by have := Hi.out; omega)
              go_region_with (first | (go_at_call_of 134 (Value.int IntKind.i64 (x : Int)); refine Calls.mono (P2 _).out ?_; rintro e w2 ⟨rfl, rfl⟩) | (go_at_call 134; refine Calls.mono (P1 _).out ?_; rintro e w2 ⟨rfl, rfl⟩) | (go_at_call 135; refine (left_any (z ^^^ dv) tv _ t64).mono ?_; rintro e w2 ⟨rfl, n2, rfl⟩))
              all_goals
                go_wp2
                go_roundg (gk - 1)
                case measure => omega
                case rel =>
                  refine ⟨y + 1, my.setIfInBounds j (rol (z ^^^ dv) tv), by omega, by go_num, ?_, ?_, ?_⟩
                  · have := Holds.set (Holds.drewN hMy (1 + n2)) (i := j) (by omega) (rol (z ^^^ dv) tv)
                    rw [Nat.zero_add] at this
                    exact this
                  · exact (hOy.drewN (1 + n2)).setCell (o := j) (by omega) (by omega) _
                  · show _ = (movIn a tn x dv mk y).setIfInBounds (y % 5 + 5 * ((2 * x + 3 * y) % 5)) (rol (a[x + 5 * y]! ^^^ dv) tn[x + 5 * y]!)
                    rw [HZ.out, HT.out, Hj.out, HEy.out]
            · have hy5 : y = 5 := by omega
              subst hy5
              go_wp2
              go_roundg (4 - x)
              case measure => omega
              case rel =>
                refine ⟨x + 1, my, by omega, by go_num, hMy, hOy, ?_⟩
                show _ = movIn a tn x (dcol ck x) (movTo a tn ck x) 5
                rw [HEy.out, HEx.out, HD.out]
        · have hx5 : x = 5 := by omega
          subst hx5
          have hb4 : Below w.heap.size w wr := hb3.trans (hO.below (by omega) (by omega))
          have hs4 : MB < wr.heap.size := Nat.lt_of_lt_of_le hs3 hO.size
          clear hlt hx hb3 hs3 hA3 hT3 hC3 hM3 hO
          have hmk := HM25.out
          go_wp2
          clear hmk
          have hU5 : Holds enc (wr.alloc (.cells (madeCells #[.int .u64 0] 25) 23)) wr.heap.size 0 (outTo mk 0) := Holds.made (enc := enc) wr 23 25 0
          have hb5' : Below wr.heap.size wr (wr.alloc (.cells (madeCells #[.int .u64 0] 25) 23)) := (Below.refl _ _).alloc (Nat.le_refl _) _
          generalize hW5 : (wr.alloc _) = W5 at hU5 hb5' ⊢
          have hs5 : wr.heap.size < W5.heap.size := by rw [← hW5]; simp
          have hM5 := Holds.below hM hb5' hs4
          have hb5 := hb4.trans (hb5'.mono (by omega))
          clear hW5 hb5' hb4 hM
          generalize hOB : wr.heap.size = OB at *
          go_loopg [15] 5 (fun g s15 wr => ∃ (x : Nat) (ok : St), x + g = 5 ∧ s15 = .int .i64 x ∧ Holds enc wr OB 0 ok ∧ Only OB 0 25 W5 wr ∧ Hid (ok = outTo mk x))
          case atStart => exact ⟨0, _, rfl, rfl, hU5, Only.refl _ _ _ _, rfl⟩
          case round =>
            obtain ⟨x, ok, hx, rfl, hU, hO, HEu⟩ := hrel
            have hus : ok.size = 25 := by rw [HEu.out, outTo_size]
            by_cases hlt : x < 5
            · have l5 : (x : Int) < 5 := by omega
              go_wp2
              go_loopg [16] 5 (fun g s16 wq => ∃ (y : Nat) (oy : St), y + g = 5 ∧ s16 = .int .i64 y ∧ Holds enc wq OB 0 oy ∧ Only OB 0 25 W5 wq ∧ Hid (oy = outIn mk x ok y))
              case atStart => exact ⟨0, ok, rfl, rfl, hU, hO, rfl⟩
              case round =>
                obtain ⟨y, oy, hy, rfl, hUy, hOy, HEy⟩ := hrel
                have hoys : oy.size = 25 := by rw [HEy.out, outIn_size, hus]
                by_cases hlty : y < 5
                · have hMy := Holds.other hM5 hOy (by omega) (by omega)
                  obtain ⟨i0, hi0⟩ : ∃ i, x + 5 * y = i := ⟨_, rfl⟩
                  obtain ⟨i1, hi1⟩ : ∃ i, (x + 1) % 5 + 5 * y = i := ⟨_, rfl⟩
                  obtain ⟨i2, hi2⟩ : ∃ i, (x + 2) % 5 + 5 * y = i := ⟨_, rfl⟩
                  obtain ⟨z0, hz0⟩ : ∃ z, mk[i0]! = z := ⟨_, rfl⟩
                  obtain ⟨z1, hz1⟩ : ∃ z, mk[i1]! = z := ⟨_, rfl⟩
                  obtain ⟨z2, hz2⟩ : ∃ z, mk[i2]! = z := ⟨_, rfl⟩
                  obtain ⟨c0, f0⟩ := at_word hMy i0 (by omega) hz0
                  obtain ⟨c1, f1⟩ := at_word hMy i1 (by omega) hz1
                  obtain ⟨c2, f2⟩ := at_word hMy i2 (by omega) hz2
                  obtain ⟨c3, f3⟩ := hUy i0 (by omega)
                  rw [Nat.zero_add] at c0 c1 c2 c3 f3
                  have H0 : Hid (x + 5 * y = i0) := hi0
                  have H1 : Hid ((x + 1) % 5 + 5 * y = i1) := hi1
                  have H2 : Hid ((x + 2) % 5 + 5 * y = i2) := hi2
                  have HV : Hid (mk[x + 5 * y]! ^^^ (~~~mk[(x + 1) % 5 + 5 * y]! &&& mk[(x + 2) % 5 + 5 * y]!) = z0 ^^^ (~~~z1 &&& z2)) := by
                    show _ = _
                    rw [hi0, hi1, hi2, hz0, hz1, hz2]
                  have b0 : i0 < 25 := by omega
                  have b0' : (i0 : Int) < 25 := by omega
                  have b1' : (i1 : Int) < 25 := by omega
                  have b2' : (i2 : Int) < 25 := by omega
                  have y5 : (y : Int) < 5 := by omega
                  have s1 : IntKind.i64.wrap ((x : Int) + 1) = (x : Int) + 1 := IntWalk.i64_in _ (by omega)
                  have s2 : IntKind.i64.wrap ((x : Int) + 2) = (x : Int) + 2 := IntWalk.i64_in _ (by omega)
                  clear hz0 hz1 hz2 hi0 hi1 hi2 f0 f1 f2
                  go_wp2_with fail
                  refine wp_region_still_tail 28 mixed (by kernel_rfl) ?_
                  simp only [List.take_succ_cons, List.take_zero, List.drop_succ_cons, List.drop_zero]
                  repeat still_step
                  still_call (place_any (x : Int) (y : Int) i0 _ (by omega) (by omega) (by have := H0.out; omega))
                  repeat still_step
                  still_call (place_any (x : Int) (y : Int) i0 _ (by omega) (by omega) (by have := H0.out; omega))
                  repeat still_step
                  still_call (place_any ((x : Int) + 1) (y : Int) i1 _ (by omega) (by omega) (by have := H1.out; omega))
                  repeat still_step
                  still_call (place_any ((x : Int) + 2) (y : Int) i2 _ (by omega) (by omega) (by have := H2.out; omega))
                  repeat still_step
                  refine wpStill_nil ?_
                  go_wp2
                  go_roundg (gk - 1)
                  case measure => omega
                  case rel =>
                    refine ⟨y + 1, oy.setIfInBounds i0 (z0 ^^^ (~~~z1 &&& z2)), by omega, by go_num, ?_, ?_, ?_⟩
                    · have := Holds.set hUy (i := i0) (by omega) (z0 ^^^ (~~~z1 &&& z2))
                      rw [Nat.zero_add] at this
                      exact Holds.drew this
                    · exact (hOy.setCell (o := i0) (by omega) (by omega) _).drew
                    · show _ = (outIn mk x ok y).setIfInBounds (x + 5 * y) (mk[x + 5 * y]! ^^^ (~~~mk[(x + 1) % 5 + 5 * y]! &&& mk[(x + 2) % 5 + 5 * y]!))
                      rw [HV.out, H0.out, HEy.out]
                · have hy5 : y = 5 := by omega
                  subst hy5
                  go_wp2
                  go_roundg (4 - x)
                  case measure => omega
                  case rel =>
                    refine ⟨x + 1, oy, by omega, by go_num, hUy, hOy, ?_⟩
                    show _ = outIn mk x (outTo mk x) 5
                    rw [HEy.out, HEu.out]
            · have hx5 : x = 5 := by omega
              subst hx5
              obtain ⟨z, hz⟩ : ∃ z, ok[0]! = z := ⟨_, rfl⟩
              obtain ⟨c0, f0⟩ := at_word hU 0 (by omega) hz
              rw [Nat.zero_add] at c0 f0
              have HZ : Hid (ok[0]! = z) := hz
              clear hz
              go_wp2
              go_ret
              refine ⟨OB, rfl, by omega, ?_, ?_⟩
              · exact (hb5.trans (hO.below (by omega) (by omega))).setCell (p := ⟨OB, 0, none⟩) (by show _ ≤ OB; omega) _
              · have e : refRound a tn c = xorAt ok 0 c := by unfold refRound; rw [HEu.out, HEx.out, HE.out]
                rw [e]
                exact Holds.xor (i := 0) hU (by omega) HZ.out c
end Go.Proofs.YtmepmoalhgehhaaGreatDoor.SP
namespace Go.Proofs.YtmepmoalhgehhaaGreatDoor.SP
open Go.RowKit Go.Sort Go.Deep
attribute [local go_sem] bits_xor64 bits_and64 bits_or64 bits_not64 wrap_u wrap_ub low_u
set_option maxHeartbeats 2000000 in
set_option maxRecDepth 100000 in
theorem refPermute_any (s : ByteArray) (w : World) (hs : s.size = 200) :
    Calls Tryz.prog 84 #[.string s] w fun e w' => e = .returned (.string ⟨permB s.data⟩) ∧ Below w.heap.size w w' := by
  have hmk25 : ∀ w : World, (Instr.makeSlice 163 (.int .i64 25) (.int .i64 25)).run Tryz.prog w = .ok (.slice (some ⟨w.heap.size, 0, none⟩) 25 25) (w.alloc (.cells (madeCells #[.int .u64 0] 25) 23)) :=
    run_make_row' (P := Tryz.prog) 163 23 (.int .u64 0) 8 slice61 info56 rfl .i64 .i64 25 (by omega) (by omega)
  have hmk200 : ∀ w : World, (Instr.makeSlice 24 (.int .i64 200) (.int .i64 200)).run Tryz.prog w = .ok (.slice (some ⟨w.heap.size, 0, none⟩) 200 200) (w.alloc (.cells (madeCells #[.int .u8 0] 200) 5)) :=
    run_make_row' (P := Tryz.prog) 24 5 (.int .u8 0) 1 slice22 info5 rfl .i64 .i64 200 (by omega) (by omega)
  have HM200 : Hid _ := hmk200
  clear hmk200
  go_enter Tryz.func84, Tryz.ntmps84
  go_wp2
  clear hmk25
  have hA1 : Holds enc (w.alloc (.cells (madeCells #[.int .u64 0] 25) 23)) w.heap.size 0 (orTo s.data 0) := Holds.made (enc := enc) w 23 25 0
  have hb1 : Below w.heap.size w (w.alloc (.cells (madeCells #[.int .u64 0] 25) 23)) := (Below.refl _ _).alloc (Nat.le_refl _) _
  generalize hW1 : (w.alloc _) = W1 at hA1 hb1 ⊢
  have hs1 : w.heap.size < W1.heap.size := by rw [← hW1]; simp
  clear hW1
  go_loopg [4] 200 (fun g s4 wr => ∃ (i : Nat) (dk : St), i + g = 200 ∧ s4 = .int .i64 i ∧ Holds enc wr w.heap.size 0 dk ∧ Only w.heap.size 0 25 W1 wr ∧ Hid (dk = orTo s.data i))
  case atStart => exact ⟨0, _, rfl, rfl, hA1, Only.refl _ _ _ _, rfl⟩
  case round =>
    obtain ⟨i, dk, hi, rfl, hD, hO, HE⟩ := hrel
    have hds : dk.size = 25 := by rw [HE.out, orTo_size]
    by_cases hlt : i < 200
    · obtain ⟨x, hx⟩ : ∃ x, dk[i / 8]! = x := ⟨_, rfl⟩
      obtain ⟨c0, f0⟩ := at_word hD (i / 8) (by omega) hx
      rw [Nat.zero_add] at c0 f0
      have HX : Hid (dk[i / 8]! = x) := hx
      clear hx
      have l200 : (i : Int) < 200 := by omega
      have p0 : 0 ≤ (i : Int) / 8 := by omega
      have p1 : (i : Int) / 8 < 25 := by omega
      have p2 : ((i : Int) / 8).toNat = i / 8 := by omega
      have s1 : IntKind.i64.wrap ((i : Int) / 8) = (i : Int) / 8 := IntWalk.i64_in _ (by omega)
      have s2 : IntKind.i64.wrap (8 * ((i : Int) % 8)) = 8 * ((i : Int) % 8) := IntWalk.i64_in _ (by omega)
      have s3 : 0 ≤ 8 * ((i : Int) % 8) := by omega
      have s4 : 8 * ((i : Int) % 8) ≤ 64 := by omega
      have s5 : (8 * ((i : Int) % 8)).toNat = 8 * (i % 8) := by omega
      have his : (i : Int) < (s.size : Int) := by omega
      have his' : i < s.size := by omega
      have tm : (i : Int).tmod 8 = (i : Int) % 8 := Int.tmod_eq_emod_of_nonneg (by omega)
      obtain ⟨y, hy⟩ : ∃ y, wide s.data[i]! = y := ⟨_, rfl⟩
      have hsb : IntKind.u64.wrap (s[i].toNat : Int) = u y := by
        have e : s.data[i]! = s[i] := getElem!_pos s.data i his'
        rw [← hy, e]
        exact wrap_ub s[i]
      have HY : Hid (wide s.data[i]! = y) := hy
      clear hy
      have sh := shl64 y (8 * (i % 8))
      go_wp2_with fail
      go_still_tail 18, mixed
      go_wp2
      go_roundg (gk - 1)
      case measure => omega
      case rel =>
        refine ⟨i + 1, dk.setIfInBounds (i / 8) (x ||| y <<< (8 * (i % 8))), by omega, by go_num, ?_, ?_, ?_⟩
        · have := Holds.set hD (i := i / 8) (by omega) (x ||| y <<< (8 * (i % 8)))
          rw [Nat.zero_add] at this
          exact Holds.drew this
        · exact (hO.setCell (o := i / 8) (by omega) (by omega) _).drew
        · show _ = (orTo s.data i).setIfInBounds (i / 8) ((orTo s.data i)[i / 8]! ||| wide s.data[i]! <<< (8 * (i % 8)))
          rw [HY.out, ← HE.out, HX.out]
    · have hi200 : i = 200 := by omega
      subst hi200
      have hb2 : Below w.heap.size w wr := hb1.trans (hO.below (by omega) (Nat.le_refl _))
      have hs2 : w.heap.size < wr.heap.size := Nat.lt_of_lt_of_le hs1 hO.size
      clear hlt hi hA1 hb1 hs1 hO
      go_wp2_with fail
      refine (offsets_any _).mono ?_
      rintro e w3 ⟨rfl, hb3, hT⟩
      have hD3 := Holds.below hD hb3 hs2
      have hb4 := hb2.trans (hb3.mono (by omega))
      have hs3 : wr.heap.size < w3.heap.size := Holds.lt hT (by rw [offsets_size]; omega)
      generalize hTB : wr.heap.size = TB at *
      clear hb2 hb3 hD
      go_wp2
      go_loopg [3, 6] 24 (fun g s3 s6 wr => ∃ (k ab : Nat) (dk : St), k + g = 24 ∧ s6 = .int .i64 k ∧ s3 = .slice (some ⟨ab, 0, none⟩) 25 25 ∧ Holds enc wr ab 0 dk ∧ w.heap.size ≤ ab ∧ Holds encI wr TB 0 offsetsL ∧ Below w.heap.size w wr ∧ Hid (dk = refTo (orTo s.data 200) k))
      case atStart => exact ⟨0, w.heap.size, dk, rfl, rfl, rfl, hD3, Nat.le_refl _, hT, hb4, HE⟩
      case round =>
        clear hT hb4 hD3 HE hds dk
        obtain ⟨k, ab, dk, hk, rfl, rfl, hD, hab, hT, hb, HE⟩ := hrel
        have hds : dk.size = 25 := by
          rw [HE.out]
          cases k with
          | zero => exact orTo_size _ _
          | succ k => exact refRound_size _ _ _
        by_cases hlt : k < 24
        · have l24 : (k : Int) < 24 := by omega
          go_wp2_with fail
          refine (constant_any k _ hlt).mono ?_
          rintro e w4 ⟨rfl, rfl⟩
          go_wp2_with fail
          refine (round_any ab TB dk offsetsL (conL k) _ hds offsets_size hD hT offsets_lt).mono ?_
          rintro e w5 ⟨r, rfl, hr, hb5, hR⟩
          have hTl := Holds.lt hT (by rw [offsets_size]; omega)
          have hsz := hb.size
          go_wp2
          go_roundg (gk - 1)
          case measure => omega
          case rel =>
            refine ⟨k + 1, r, refRound dk offsetsL (conL k), by omega, by go_num, rfl, hR, by omega, Holds.below hT hb5 hTl, hb.trans (hb5.mono (by omega)), ?_⟩
            rw [HE.out]; rfl
        · have hk24 : k = 24 := by omega
          subst hk24
          have hmk := HM200.out
          go_wp2
          clear hmk
          have hsz := hb.size
          have hal := Holds.lt hD (by omega)
          have hF1 : Holds encB (wr.alloc (.cells (madeCells #[.int .u8 0] 200) 5)) wr.heap.size 0 (frontTo dk 200 0) := Holds.made (enc := encB) wr 5 200 0
          have hb6 : Below wr.heap.size wr (wr.alloc (.cells (madeCells #[.int .u8 0] 200) 5)) := (Below.refl _ _).alloc (Nat.le_refl _) _
          generalize hW6 : (wr.alloc _) = W6 at hF1 hb6 ⊢
          have hs6 : wr.heap.size < W6.heap.size := by rw [← hW6]; simp
          have hD6 := Holds.below hD hb6 hal
          have hb7 := hb.trans (hb6.mono hsz)
          clear hW6 hb6 hb hD hT
          generalize hFB : wr.heap.size = FB at *
          go_loopg [8] 200 (fun g s8 wr => ∃ (i : Nat) (bs : Bs), i + g = 200 ∧ s8 = .int .i64 i ∧ Holds encB wr FB 0 bs ∧ Only FB 0 200 W6 wr ∧ Hid (bs = frontTo dk 200 i))
          case atStart => exact ⟨0, _, rfl, rfl, hF1, Only.refl _ _ _ _, rfl⟩
          case round =>
            obtain ⟨i, bs, hi, rfl, hB, hO, HEb⟩ := hrel
            have hbs : bs.size = 200 := by rw [HEb.out, frontTo_size]
            by_cases hlt : i < 200
            · have hDw := Holds.other hD6 hO (by omega) (by omega)
              obtain ⟨x, hx⟩ : ∃ x, dk[i / 8]! = x := ⟨_, rfl⟩
              obtain ⟨c0, f0⟩ := at_word hDw (i / 8) (by omega) hx
              obtain ⟨c1, f1⟩ := hB i (by omega)
              rw [Nat.zero_add] at c0 c1 f1
              have HX : Hid (byteOf dk i = low (x >>> (8 * (i % 8)))) := by show low _ = _; rw [hx]
              clear hx f0
              have p1 : (i : Int) / 8 < 25 := by omega
              have l200 : (i : Int) < 200 := by omega
              have hsr := shr64 x (8 * (i % 8))
              go_wp2
              go_roundg (gk - 1)
              case measure => omega
              case rel =>
                refine ⟨i + 1, bs.setIfInBounds i (low (x >>> (8 * (i % 8)))), by omega, by go_num, ?_, ?_, ?_⟩
                · have := Holds.set hB (i := i) (by omega) (low (x >>> (8 * (i % 8))))
                  rw [Nat.zero_add] at this
                  exact this
                · exact hO.setCell (o := i) (by omega) (by omega) _
                · show _ = (frontTo dk 200 i).setIfInBounds i (byteOf dk i)
                  rw [HX.out, HEb.out]
            · have hi200 : i = 200 := by omega
              subst hi200
              have kc := conv_str Tryz.prog 24 9 5 slice22 int5 str9 wr FB 0 200 200 bs hB hbs
              go_wp2
              go_ret
              have e1 : bs = permB s.data := by rw [HEb.out, HE.out]; exact ref_permB s.data
              rw [e1]
              exact ⟨rfl, hb7.trans (hO.below (by omega) (by omega))⟩
end Go.Proofs.YtmepmoalhgehhaaGreatDoor.SP
