import Derived.Laws.Bits64b
import Derived.Laws.IdiomCopy
import Derived.Test.YtfkgfcggcfkkiaaDoorwt7
set_option linter.unusedVariables false
set_option linter.unusedSimpArgs false
namespace Go.Proofs.YtfkgfcggcfkkiaaDoor
open Go.RowKit Go.Sort Go.Deep
namespace WI
theorem or8 (a : Nat) (x : UInt8) (ha : a * 256 < 18446744073709551616) : bits .or .u64 ((a * 256 : Nat) : Int) (x.toNat : Int) = ((a * 256 + x.toNat : Nat) : Int) := by
  have hx := x.toNat_lt
  rw [bits_or_u64_nat _ _ ha (by omega)]
  have h := Nat.shiftLeft_add_eq_or_of_lt (i := 8) (b := x.toNat) (by omega) a
  rw [Nat.shiftLeft_eq] at h
  rw [← h]
theorem ofBE_snoc (x : UInt8) : ∀ (l : List UInt8) (a : Nat), ofBE (l ++ [x]) a = ofBE l a * 256 + x.toNat
  | [], a => rfl
  | y :: r, a => by rw [List.cons_append, ofBE, ofBE, ofBE_snoc x r]
theorem ixB (b o m c j : Nat) (hj : j < m) (w : World) : (Instr.indexAt 22 (.slice (some ⟨b, o, none⟩) m c) (.int .i64 (j : Int))).run Tryd.prog w = .ok (.pointer (some ⟨b, o + j, none⟩)) w := by
  have h1 : ¬ (j : Int) < 0 := by omega
  have h2 : (j : Int) < (m : Int) := by omega
  have e := addS0 b o (j * 1)
  rw [Nat.mul_one] at e
  go_simp
set_option maxHeartbeats 1000000 in
theorem numberOf_c (w : World) (R : Nat) (q : Option Addr) (m c : Nat) (x : List UInt8) (hP : PBq w R q m c x) (h8 : m ≤ 8) : Calls Tryd.prog 96 #[.slice q m c] w fun e w' => e = .returned (.int .u64 (ofBE x 0 : Int)) ∧ w' = w := by
  have hml := hidW hP.1
  go_enter Tryd.func96, Tryd.ntmps96
  go_wp2
  go_loopg [3, 8] (m + 1) (fun gk s3 s8 wr => ∃ j a : Nat, s8 = .int .i64 (j : Int) ∧ s3 = .int .u64 (a : Int) ∧ Hid (a = ofBE (x.take j) 0) ∧ j ≤ m ∧ gk = m + 1 - j ∧ w = wr)
  case atStart => exact ⟨0, 0, rfl, rfl, (by show 0 = ofBE (x.take 0) 0; rw [List.take_zero, ofBE]), Nat.zero_le _, rfl, rfl⟩
  case round =>
    obtain ⟨j, a, rfl, rfl, ha, hjm, hgk, rfl⟩ := hrel
    by_cases hj : j < m
    · obtain ⟨u, hu⟩ : ∃ u, x[j]? = some u := ⟨_, List.getElem?_eq_getElem (by rw [← hml.out]; exact hj)⟩
      obtain ⟨b, o, rfl, hcell⟩ : ∃ b o, q = some ⟨b, o, none⟩ ∧ w.cell? ⟨b, o + j, none⟩ = some (.int .u8 (u.toNat : Int)) := by
        obtain ⟨-, h2, ⟨-, h3⟩ | ⟨b, o, h3, -, -, h6⟩⟩ := hP
        · omega
        · exact ⟨b, o, h3, h6 j u hu⟩
      have hlt := World.block_lt_of_cell? _ _ hcell
      have hix := fun w => ixB b o m c j hj w
      have hjz : (j : Int) < (m : Int) := by omega
      have hab : a * 256 < 18446744073709551616 := by
        have h1 := ofBE_lt (x.take j) 0
        have h2 : (x.take j).length ≤ 7 := by rw [List.length_take]; omega
        have h3 : 256 ^ (x.take j).length ≤ 256 ^ 7 := Nat.pow_le_pow_right (by decide) h2
        rw [ha.out]
        have h4 : (256 : Nat) ^ 7 = 72057594037927936 := by decide
        omega
      have hwr : IntKind.u64.wrap ((a : Int) * 256) = ((a * 256 : Nat) : Int) := by rw [IntKind.wrap_u64]; omega
      have hu8 := u.toNat_lt
      have hwu : IntKind.u64.wrap (u.toNat : Int) = (u.toNat : Int) := by rw [IntKind.wrap_u64]; omega
      have hor := or8 a u hab
      obtain ⟨a2, ha2⟩ : ∃ a2, Hid (a * 256 + u.toNat = a2) := ⟨_, rfl⟩
      rw [ha2.out] at hor
      obtain ⟨un, hun⟩ : ∃ un, Hid (u.toNat = un) := ⟨_, rfl⟩
      rw [hun.out] at hor hwu hcell hu8
      obtain ⟨a1, ha1⟩ : ∃ a1, Hid (a * 256 = a1) := ⟨_, rfl⟩
      rw [ha1.out] at hor hwr
      have hN : Hid (a2 = ofBE (x.take (j + 1)) 0) := by
        show _ = _
        obtain ⟨hjx, e⟩ := List.getElem?_eq_some_iff.1 hu
        rw [List.take_succ_eq_append_getElem hjx, e, ofBE_snoc, ← ha.out, ha2.out]
      clear hab hP hu
      go_wp2
      go_roundg (m + 1 - (j + 1))
      case measure => omega
      case rel => exact ⟨j + 1, a2, rfl, rfl, hN, by omega, rfl, rfl⟩
    · have hjz : ¬ (j : Int) < (m : Int) := by omega
      obtain rfl : j = m := by omega
      have hN : Hid (a = ofBE x 0) := by show _ = _; rw [ha.out, hml.out, List.take_length]
      clear hP
      go_wp2
      go_ret
      rw [hN.out]
      exact ⟨rfl, rfl⟩
end WI
end Go.Proofs.YtfkgfcggcfkkiaaDoor
namespace Go.Proofs.YtfkgfcggcfkkiaaDoor
open Go.RowKit Go.Sort Go.Deep
namespace WI
theorem sB_hi3 (b o n c k : Nat) (hk : k ≤ c) (w : World) : (Instr.sliceAt 22 (.slice (some ⟨b, o, none⟩) n c) none (some (.int .i64 (k : Int))) none).run Tryd.prog w = .ok (.slice (some ⟨b, o, none⟩) k c) w := by
  have h1 : (k : Int) ≤ c := by omega
  go_simp
/-- What was read since the rest was that. -/
theorem since_c (w : World) (R h d n : Nat) (q : Option Addr) (m c : Nat) (q0 : Option Addr) (m0 c0 : Nat) (x0 : List UInt8) (hm : m ≤ m0) (h0 : m0 ≤ 1099511627776) (hR : RowS w R (wkc h d n (.slice q m c))) (hP : PBq w R q0 m0 c0 x0) :
    Calls Tryd.prog 95 #[.pointer (some ⟨R, 0, none⟩), .slice q0 m0 c0] w (fun e w' => e = .returned (.slice q0 (m0 - m) c0) ∧ w' = w) ∧ PBq w R q0 (m0 - m) c0 (x0.take (m0 - m)) := by
  obtain ⟨q', -, -, p1, -⟩ := hP.cut (m0 - m) (by omega)
  refine ⟨?_, p1⟩
  have c3 := hR.cell 3 _ rfl
  have hlt := hR.1
  obtain ⟨k, hk⟩ : ∃ k, Hid (m0 - m = k) := ⟨_, rfl⟩
  rw [hk.out]
  have hs : (m0 : Int) - (m : Int) = (k : Int) := by have := hk.out; omega
  have hkb : k ≤ m0 := by have := hk.out; omega
  have hsl : ∀ X : World, (Instr.sliceAt 22 (.slice q0 m0 c0) none (some (.int .i64 (k : Int))) none).run Tryd.prog X = .ok (.slice q0 k c0) X := fun X => by
    obtain ⟨h1, h2, ⟨rfl, rfl⟩ | ⟨b, o, rfl, h4, h5, h6⟩⟩ := hP
    · obtain rfl : m0 = 0 := by omega
      obtain rfl : k = 0 := by omega
      kernel_rfl
    · exact sB_hi3 b o m0 c0 k (by omega) X
  clear hP p1 hR
  go_enter Tryd.func95, Tryd.ntmps95
  go_wp2
  go_ret
  exact ⟨rfl, rfl⟩
/-- bytes.Equal. -/
theorem equalB_c (w : World) (q : Option Addr) (m c : Nat) (q' : Option Addr) (m' c' : Nat) (x y : List UInt8) (hx : PB w (.slice q m c) x) (hy : PB w (.slice q' m' c') y) : Calls Tryd.prog 97 #[.slice q m c, .slice q' m' c'] w (fun e w' => e = .returned (.bool (decide (x = y))) ∧ w' = w) := by
  have h1 := pb_conv hx
  have h2 := pb_conv hy
  obtain ⟨X, hX⟩ : ∃ S, Hid ((⟨x.toArray⟩ : ByteArray) = S) := ⟨_, rfl⟩
  obtain ⟨Y, hY⟩ : ∃ S, Hid ((⟨y.toArray⟩ : ByteArray) = S) := ⟨_, rfl⟩
  rw [hX.out] at h1
  rw [hY.out] at h2
  have he : (X.toList == Y.toList) = decide (x = y) := by
    rw [← hX.out, ← hY.out, ByteArray.toList_eq, ByteArray.toList_eq]
    by_cases e : x = y
    · subst e; simp
    · rw [decide_eq_false e]; simpa using e
  obtain ⟨b, hb⟩ : ∃ b, Hid (decide (x = y) = b) := ⟨_, rfl⟩
  rw [hb.out] at he ⊢
  go_enter Tryd.func97, Tryd.ntmps97
  go_wp2
  go_ret
  exact ⟨rfl, rfl⟩
end WI
end Go.Proofs.YtfkgfcggcfkkiaaDoor
namespace Go.Proofs.YtfkgfcggcfkkiaaDoor
open Go.RowKit Go.Sort Go.Deep
namespace WI
theorem and31 : ∀ n : Fin 256, bits .and .u8 (n.val : Int) 31 = ((n.val % 32 : Nat) : Int) := by decide +kernel
/-- What the reader's head does. -/
def RhR (w : World) (R h d n : Nat) (x : List UInt8) (e : Ending) (w' : World) : Prop := FrX (· = R) w w' ∧ ((∃ k nn r q' c', rdHead x = some (k, nn, r) ∧ e = .returned (.tuple #[.int .i64 (k : Int), .int .u64 (nn : Int)]) ∧ RowS w' R (wkc h d n (.slice q' r.length c')) ∧ PBq w' R q' r.length c' r) ∨ (rdHead x = none ∧ e = thrown))
set_option maxHeartbeats 1000000 in
set_option maxRecDepth 20000 in
theorem head_nil (w : World) (R h d n : Nat) (q : Option Addr) (m c : Nat) (hR : RowS w R (wkc h d n (.slice q m c))) (hP : PBq w R q m c []) : Calls Tryd.prog 69 #[.pointer (some ⟨R, 0, none⟩)] w (RhR w R h d n []) := by
  have hb := rbytes_c w R h d n q m c [] 1 (by decide) (by have := hP.1; simp at this; omega) hR hP
  have c3 := hR.cell 3 _ rfl
  have hlt := hR.1
  have HQ : Hid (RhR w R h d n [] thrown w) := ⟨FrX.refl _ _, Or.inr ⟨rfl, rfl⟩⟩
  go_enter Tryd.func69, Tryd.ntmps69
  go_wp2_with fail
  refine hb.mono ?_
  rintro e w1 (⟨h1, -⟩ | ⟨-, rfl, rfl⟩)
  · exact absurd h1 (by decide)
  · simp only [Exit.inBlock, Exit.then, bodyPost, thrown]
    exact ⟨trivial, HQ.out⟩
set_option maxHeartbeats 1000000 in
set_option maxRecDepth 20000 in
theorem head_few (w : World) (R h d n : Nat) (q : Option Addr) (m c : Nat) (f : UInt8) (r : List UInt8) (hm : m ≤ 1099511627776) (hR : RowS w R (wkc h d n (.slice q m c))) (hP : PBq w R q m c (f :: r)) (hf : f.toNat % 32 < 24) : Calls Tryd.prog 69 #[.pointer (some ⟨R, 0, none⟩)] w (RhR w R h d n (f :: r)) := by
  have hb := rbytes_c w R h d n q m c (f :: r) 1 (by decide) hm hR hP
  have c3 := hR.cell 3 _ rfl
  have hlt := hR.1
  have hml := hidW hP.1
  have hm1 : 1 ≤ m := by have := hP.1; rw [List.length_cons] at this; omega
  have hf8 := f.toNat_lt
  have ha := and31 ⟨f.toNat, hf8⟩
  simp only at ha
  go_enter Tryd.func69, Tryd.ntmps69
  go_wp2_with fail
  refine hb.mono ?_
  rintro e w1 (⟨h1, q', rfl, hw1, hR1, p1, p2⟩ | ⟨h1, -⟩)
  · obtain ⟨-, -, ⟨-, e0⟩ | ⟨b, o, rfl, hbR, hbl, hcell⟩⟩ := id p1
    · exact absurd hP.2.1 (by rw [hml.out, e0]; simp)
    have cf := hcell 0 f rfl
    rw [Nat.add_zero] at cf
    obtain ⟨fn, hfn⟩ : ∃ fn, Hid (f.toNat = fn) := ⟨_, rfl⟩
    rw [hfn.out] at cf ha hf8 hf
    have KW := hidW (And.intro hw1 (And.intro hR1 (And.intro p1 p2)))
    have c31 := hR1.cell 3 _ rfl
    have hlt1 := hR1.1
    clear hw1 hR1 p1 p2 hcell hb
    obtain ⟨k, hk⟩ : ∃ k, Hid (fn / 32 = k) := ⟨_, rfl⟩
    obtain ⟨nn, hnn⟩ : ∃ k, Hid (fn % 32 = k) := ⟨_, rfl⟩
    have hkz : (fn : Int) / 32 = (k : Int) := by have := hk.out; omega
    have hnz : (fn : Int) % 32 = (nn : Int) := by have := hnn.out; omega
    rw [hnn.out] at ha hf
    have hk8 : k < 8 := by have := hk.out; omega
    have hhd : Hid (hd k nn = [f]) := by
      show _ = _
      unfold hd
      rw [if_pos hf, ← hk.out, ← hnn.out, ← hfn.out]
      congr 1
      apply UInt8.toNat_inj.1
      have := f.toNat_lt
      simp
      omega
    have hrd : Hid (rdHead (f :: r) = some (k, nn, r)) := by
      show _ = _
      rw [rdHead, if_pos (by rw [hfn.out, hnn.out]; exact hf), hfn.out, hk.out, hnn.out]
    have h24 : ¬ (24 : Int) ≤ (nn : Int) := by omega
    have hH := headOf_c w1 k nn hk8 (by omega)
    go_upto_region 7 with fail
    go_wp2_with fail
    refine hH.mono ?_
    rintro e w2 ⟨v2, rfl, hb2, how⟩
    obtain ⟨q2, c2, rfl⟩ := slice_own how
    have hR2 := KW.out.2.1.below hb2
    have hpx : PBq w2 R (some ⟨b, o, none⟩) m c (f :: r) := by
      have h0 := hP.set 3 (.slice q' (m - 1) (c - 1))
      rw [← KW.out.1] at h0
      obtain ⟨a1, a2, ⟨h, -⟩ | ⟨b1, o1, e1, a3, a4, a5⟩⟩ := h0
      · cases h
      · exact ⟨a1, a2, Or.inr ⟨b1, o1, e1, a3, Nat.lt_of_lt_of_le a4 hb2.size, fun j u hj => by rw [hb2.cell (p := ⟨b1, _, none⟩) a4]; exact a5 j u hj⟩⟩
    obtain ⟨hsc, hp3⟩ := since_c w2 R h d n q' (m - 1) (c - 1) (some ⟨b, o, none⟩) m c (f :: r) (by omega) hm hR2 hpx
    have hE : Calls Tryd.prog 97 #[.slice q2 (hd k nn).length c2, .slice (some ⟨b, o, none⟩) (m - (m - 1)) c] w2 (fun e w' => e = .returned (.bool true) ∧ w' = w2) := by
      have h5 := equalB_c w2 q2 (hd k nn).length c2 (some ⟨b, o, none⟩) (m - (m - 1)) c (hd k nn) ((f :: r).take (m - (m - 1))) (own_pb how) (by
        obtain ⟨a1, a2, ⟨h, -⟩ | ⟨b1, o1, e1, a3, a4, a5⟩⟩ := hp3
        · cases h
        · exact ⟨some ⟨b, o, none⟩, c, by rw [← a1], Or.inr ⟨b1, o1, e1, a5⟩⟩)
      rw [hhd.out, show (f :: r).take (m - (m - 1)) = [f] by rw [show m - (m - 1) = 1 by omega]; rfl, decide_eq_true rfl] at h5
      rw [hhd.out]
      exact h5
    have HQ : Hid (RhR w R h d n (f :: r) (.returned (.tuple #[.int .i64 (k : Int), .int .u64 (nn : Int)])) w2) := by
      have hl : m - 1 = r.length := by rw [hml.out]; rfl
      refine ⟨?_, Or.inl ⟨k, nn, r, q', c - 1, hrd.out, rfl, by rw [← hl]; exact hR2, ?_⟩⟩
      · have h6 := (FrX.refl (· = R) w).setCell (a := ⟨R, 3, none⟩) (Or.inl rfl) (.slice q' (m - 1) (c - 1))
        rw [← KW.out.1] at h6
        exact h6.belowTo hb2
      · obtain ⟨a1, a2, ⟨h, h'⟩ | ⟨b1, o1, e1, a3, a4, a5⟩⟩ := KW.out.2.2.2
        · exact ⟨rfl, by rw [← hl]; exact a2, Or.inl ⟨h, h'⟩⟩
        · exact ⟨rfl, by rw [← hl]; exact a2, Or.inr ⟨b1, o1, e1, a3, Nat.lt_of_lt_of_le a4 hb2.size, fun j u hj => by rw [hb2.cell (p := ⟨b1, _, none⟩) a4]; exact a5 j u hj⟩⟩
    obtain ⟨k3, hk3⟩ : ∃ k3, Hid (m - (m - 1) = k3) := ⟨_, rfl⟩
    rw [hk3.out] at hsc hE
    obtain ⟨lh, hlh⟩ : ∃ lh, Hid ((hd k nn).length = lh) := ⟨_, rfl⟩
    rw [hlh.out] at hE ⊢
    clear hb2 how hR2 hpx hp3 hH
    go_wp2_with fail
    refine hsc.mono ?_
    rintro e w3 ⟨rfl, rfl⟩
    go_wp2_with fail
    refine hE.mono ?_
    rintro e w4 ⟨rfl, rfl⟩
    go_wp2_with fail
    refine (must_y _).mono ?_
    rintro e w5 ⟨rfl, rfl⟩
    go_wp2
    go_ret2
    exact HQ.out
  · exact absurd (by simp) h1
end WI
end Go.Proofs.YtfkgfcggcfkkiaaDoor
namespace Go.Proofs.YtfkgfcggcfkkiaaDoor
open Go.RowKit Go.Sort Go.Deep
namespace WI
set_option maxHeartbeats 1000000 in
set_option maxRecDepth 20000 in
theorem head_bad (w : World) (R h d n : Nat) (q : Option Addr) (m c : Nat) (f : UInt8) (r : List UInt8) (hm : m ≤ 1099511627776) (hR : RowS w R (wkc h d n (.slice q m c))) (hP : PBq w R q m c (f :: r)) (hf : 27 < f.toNat % 32) : Calls Tryd.prog 69 #[.pointer (some ⟨R, 0, none⟩)] w (RhR w R h d n (f :: r)) := by
  have hb := rbytes_c w R h d n q m c (f :: r) 1 (by decide) hm hR hP
  have c3 := hR.cell 3 _ rfl
  have hlt := hR.1
  have hml := hidW hP.1
  have hm1 : 1 ≤ m := by have := hP.1; rw [List.length_cons] at this; omega
  have hf8 := f.toNat_lt
  have ha := and31 ⟨f.toNat, hf8⟩
  simp only at ha
  go_enter Tryd.func69, Tryd.ntmps69
  go_wp2_with fail
  refine hb.mono ?_
  rintro e w1 (⟨h1, q', rfl, hw1, hR1, p1, p2⟩ | ⟨h1, -⟩)
  · obtain ⟨-, -, ⟨-, e0⟩ | ⟨b, o, rfl, hbR, hbl, hcell⟩⟩ := id p1
    · exact absurd hP.2.1 (by rw [hml.out, e0]; simp)
    have cf := hcell 0 f rfl
    rw [Nat.add_zero] at cf
    obtain ⟨fn, hfn⟩ : ∃ fn, Hid (f.toNat = fn) := ⟨_, rfl⟩
    rw [hfn.out] at cf ha hf8 hf
    have KW := hidW (And.intro hw1 (And.intro hR1 (And.intro p1 p2)))
    have c31 := hR1.cell 3 _ rfl
    have hlt1 := hR1.1
    clear hw1 hR1 p1 p2 hcell hb
    obtain ⟨k, hk⟩ : ∃ k, Hid (fn / 32 = k) := ⟨_, rfl⟩
    obtain ⟨nn, hnn⟩ : ∃ k, Hid (fn % 32 = k) := ⟨_, rfl⟩
    have hkz : (fn : Int) / 32 = (k : Int) := by have := hk.out; omega
    have hnz : (fn : Int) % 32 = (nn : Int) := by have := hnn.out; omega
    rw [hnn.out] at ha hf
    have hk8 : k < 8 := by have := hk.out; omega
    have h24 : (24 : Int) ≤ (nn : Int) := by omega
    have h27 : ¬ (nn : Int) ≤ 27 := by omega
    have HQ : Hid (RhR w R h d n (f :: r) thrown w1) := by
      refine ⟨?_, Or.inr ⟨?_, rfl⟩⟩
      · have h6 := (FrX.refl (· = R) w).setCell (a := ⟨R, 3, none⟩) (Or.inl rfl) (.slice q' (m - 1) (c - 1))
        rw [← KW.out.1] at h6
        exact h6
      · rw [rdHead, hfn.out, hnn.out, if_neg (by omega), if_pos hf]
    go_wp2_with fail
    rw [decide_eq_false (by omega : ¬ (nn : Int) ≤ 27)]
    refine (must_n _).mono ?_
    rintro e w5 ⟨rfl, rfl⟩
    simp only [Exit.inBlock, Exit.then, bodyPost]
    exact ⟨trivial, HQ.out⟩
  · exact absurd (by simp) h1
end WI
end Go.Proofs.YtfkgfcggcfkkiaaDoor
namespace Go.Proofs.YtfkgfcggcfkkiaaDoor
open Go.RowKit Go.Sort Go.Deep
namespace WI
set_option maxHeartbeats 1000000 in
set_option maxRecDepth 20000 in
theorem head_24 (w : World) (R h d n : Nat) (q : Option Addr) (m c : Nat) (f : UInt8) (r : List UInt8) (hm : m ≤ 1099511627776) (hR : RowS w R (wkc h d n (.slice q m c))) (hP : PBq w R q m c (f :: r)) (hf : f.toNat % 32 = 24) : Calls Tryd.prog 69 #[.pointer (some ⟨R, 0, none⟩)] w (RhR w R h d n (f :: r)) := by
  have hb := rbytes_c w R h d n q m c (f :: r) 1 (by decide) hm hR hP
  have c3 := hR.cell 3 _ rfl
  have hlt := hR.1
  have hml := hidW hP.1
  have hm1 : 1 ≤ m := by have := hP.1; rw [List.length_cons] at this; omega
  have hf8 := f.toNat_lt
  have ha := and31 ⟨f.toNat, hf8⟩
  simp only at ha
  go_enter Tryd.func69, Tryd.ntmps69
  go_wp2_with fail
  refine hb.mono ?_
  rintro e w1 (⟨h1, q', rfl, hw1, hR1, p1, p2⟩ | ⟨h1, -⟩)
  · obtain ⟨-, -, ⟨-, e0⟩ | ⟨b, o, rfl, hbR, hbl, hcell⟩⟩ := id p1
    · exact absurd hP.2.1 (by rw [hml.out, e0]; simp)
    have cf := hcell 0 f rfl
    rw [Nat.add_zero] at cf
    obtain ⟨fn, hfn⟩ : ∃ fn, Hid (f.toNat = fn) := ⟨_, rfl⟩
    rw [hfn.out] at cf ha hf8 hf
    have KW := hidW (And.intro hw1 (And.intro hR1 (And.intro p1 p2)))
    have c31 := hR1.cell 3 _ rfl
    have hlt1 := hR1.1
    clear hw1 hR1 p1 p2 hcell hb
    obtain ⟨k, hk⟩ : ∃ k, Hid (fn / 32 = k) := ⟨_, rfl⟩
    obtain ⟨nn, hnn⟩ : ∃ k, Hid (fn % 32 = k) := ⟨_, rfl⟩
    have hkz : (fn : Int) / 32 = (k : Int) := by have := hk.out; omega
    have hnz : (fn : Int) % 32 = 24 := by omega
    rw [hf] at ha
    have hk8 : k < 8 := by have := hk.out; omega
    have hb2 := rbytes_c w1 R h d n q' (m - 1) (c - 1) r 1 (by decide) (by omega) KW.out.2.1 KW.out.2.2.2
    have HF1 : Hid (FrX (· = R) w w1) := by
      have h6 := (FrX.refl (· = R) w).setCell (a := ⟨R, 3, none⟩) (Or.inl rfl) (.slice q' (m - 1) (c - 1))
      rw [← KW.out.1] at h6
      exact h6
    have hl : Hid (m - 1 = r.length) := by show _ = _; rw [hml.out]; rfl
    have hpx1 : Hid (PBq w1 R (some ⟨b, o, none⟩) m c (f :: r)) := by
      have h0 := hP.set 3 (.slice q' (m - 1) (c - 1))
      rw [← KW.out.1] at h0
      exact h0
    have hsz : Hid (2 ^ (f.toNat % 32 - 24) = 1) := by show _ = _; rw [hfn.out, hf]
    obtain ⟨m1, hm1d⟩ : ∃ m1, Hid (m - 1 = m1) := ⟨_, rfl⟩
    obtain ⟨c1, hc1d⟩ : ∃ c1, Hid (c - 1 = c1) := ⟨_, rfl⟩
    rw [hm1d.out, hc1d.out] at hb2 c31
    go_wp2_with fail
    refine (must_y _).mono ?_
    rintro e w5 ⟨rfl, rfl⟩
    go_wp2_with fail
    refine hb2.mono ?_
    rintro e w2 (⟨h1', q2, rfl, hw2, hR2, p3, p4⟩ | ⟨h1', rfl, rfl⟩)
    · obtain ⟨N, hN⟩ : ∃ N, Hid (ofBE (r.take 1) 0 = N) := ⟨_, rfl⟩
      have hno := numberOf_c w2 R q' 1 c1 (r.take 1) p3 (by decide)
      rw [hN.out] at hno
      have hN64 : N < 18446744073709551616 := by
        have h9 := ofBE_lt (r.take 1) 0
        have h10 : (r.take 1).length ≤ 8 := by rw [List.length_take]; omega
        have h11 : 256 ^ (r.take 1).length ≤ 256 ^ 8 := Nat.pow_le_pow_right (by decide) h10
        have h12 : (256 : Nat) ^ 8 = 18446744073709551616 := by decide
        rw [hN.out] at h9
        omega
      have hH := headOf_c w2 k N hk8 hN64
      have HF2 : Hid (FrX (· = R) w w2) := by rw [hw2]; exact HF1.out.setCell (a := ⟨R, 3, none⟩) (Or.inl rfl) _
      have hpx2 : Hid (PBq w2 R (some ⟨b, o, none⟩) m c (f :: r)) := by rw [hw2]; exact hpx1.out.set _ _
      have KR := hidW (And.intro hR2 p4)
      clear hw2 hR2 p3 p4
      go_wp2_with fail
      refine hno.mono ?_
      rintro e w6 ⟨rfl, rfl⟩
      go_wp2_with fail
      refine hH.mono ?_
      rintro e w3 ⟨v3, rfl, hb3, how⟩
      obtain ⟨q3, c3', rfl⟩ := slice_own how
      have hR3 := KR.out.1.below hb3
      have hpx3 : PBq w3 R (some ⟨b, o, none⟩) m c (f :: r) := by
        obtain ⟨a1, a2, ⟨h, -⟩ | ⟨b1, o1, e1, a3, a4, a5⟩⟩ := hpx2.out
        · cases h
        · exact ⟨a1, a2, Or.inr ⟨b1, o1, e1, a3, Nat.lt_of_lt_of_le a4 hb3.size, fun j u hj => by rw [hb3.cell (p := ⟨b1, _, none⟩) a4]; exact a5 j u hj⟩⟩
      have hlr := hl.out
      rw [hm1d.out] at hlr
      have hmm := hm1d.out
      obtain ⟨hsc, hp3⟩ := since_c w3 R h d n q2 (m1 - 1) (c1 - 1) (some ⟨b, o, none⟩) m c (f :: r) (by omega) hm hR3 hpx3
      have ek : m - (m1 - 1) = 1 + 1 := by omega
      rw [ek] at hsc hp3
      have hE := equalB_c w3 q3 (hd k N).length c3' (some ⟨b, o, none⟩) (1 + 1) c (hd k N) ((f :: r).take (1 + 1)) (own_pb how) (by
        obtain ⟨a1, a2, ⟨h, -⟩ | ⟨b1, o1, e1, a3, a4, a5⟩⟩ := hp3
        · cases h
        · exact ⟨some ⟨b, o, none⟩, c, by rw [← a1], Or.inr ⟨b1, o1, e1, a5⟩⟩)
      have HF3 := hidW (HF2.out.belowTo hb3)
      have KP : Hid (RowS w3 R (wkc h d n (.slice q2 (m1 - 1) (c1 - 1))) ∧ PBq w3 R q2 (m1 - 1) (c1 - 1) (r.drop 1)) := by
        refine ⟨hR3, ?_⟩
        obtain ⟨a1, a2, ⟨h, h'⟩ | ⟨b1, o1, e1, a3, a4, a5⟩⟩ := KR.out.2
        · exact ⟨a1, a2, Or.inl ⟨h, h'⟩⟩
        · exact ⟨a1, a2, Or.inr ⟨b1, o1, e1, a3, Nat.lt_of_lt_of_le a4 hb3.size, fun j u hj => by rw [hb3.cell (p := ⟨b1, _, none⟩) a4]; exact a5 j u hj⟩⟩
      have hrd : Hid (rdHead (f :: r) = if hd k N = (f :: r).take (1 + 1) then some (k, N, r.drop 1) else none) := by
        show _ = _
        rw [rdHead, hsz.out, hfn.out, hf, hk.out, if_neg (by decide), if_neg (by decide), if_neg (by omega), hN.out, List.take_succ_cons]
      have hkk : Hid ((r.drop 1).length = m1 - 1) := by show _ = _; rw [List.length_drop, hlr]
      obtain ⟨lh, hlh⟩ : ∃ lh, Hid ((hd k N).length = lh) := ⟨_, rfl⟩
      rw [hlh.out] at hE ⊢
      by_cases heq : hd k N = (f :: r).take (1 + 1)
      · rw [decide_eq_true heq] at hE
        have HQ : Hid (RhR w R h d n (f :: r) (.returned (.tuple #[.int .i64 (k : Int), .int .u64 (N : Int)])) w3) := ⟨HF3.out, Or.inl ⟨k, N, r.drop 1, q2, c1 - 1, by rw [hrd.out, if_pos heq], rfl, by rw [hkk.out]; exact KP.out.1, by rw [hkk.out]; exact KP.out.2⟩⟩
        clear hb3 how hR3 hpx3 hp3 hH hno heq hmm hlr ek
        go_wp2_with fail
        refine hsc.mono ?_
        rintro e w7 ⟨rfl, rfl⟩
        go_wp2_with fail
        refine hE.mono ?_
        rintro e w8 ⟨rfl, rfl⟩
        go_wp2_with fail
        refine (must_y _).mono ?_
        rintro e w9 ⟨rfl, rfl⟩
        go_wp2
        go_ret2
        exact HQ.out
      · rw [decide_eq_false heq] at hE
        have HQ : Hid (RhR w R h d n (f :: r) thrown w3) := ⟨HF3.out, Or.inr ⟨by rw [hrd.out, if_neg heq], rfl⟩⟩
        clear hb3 how hR3 hpx3 hp3 hH hno heq hmm hlr ek
        go_wp2_with fail
        refine hsc.mono ?_
        rintro e w7 ⟨rfl, rfl⟩
        go_wp2_with fail
        refine hE.mono ?_
        rintro e w8 ⟨rfl, rfl⟩
        go_wp2_with fail
        refine (must_n _).mono ?_
        rintro e w9 ⟨rfl, rfl⟩
        simp only [Exit.inBlock, Exit.then, bodyPost]
        exact ⟨trivial, HQ.out⟩
    · have HQ : Hid (RhR w R h d n (f :: r) thrown w2) := by
        refine ⟨HF1.out, Or.inr ⟨?_, rfl⟩⟩
        rw [rdHead, hsz.out, hfn.out, hf, if_neg (by decide), if_neg (by decide), if_pos (by omega)]
      simp only [Exit.inBlock, Exit.then, bodyPost, thrown]
      exact ⟨trivial, HQ.out⟩
  · exact absurd (by simp) h1
set_option maxHeartbeats 1000000 in
set_option maxRecDepth 20000 in
theorem head_25 (w : World) (R h d n : Nat) (q : Option Addr) (m c : Nat) (f : UInt8) (r : List UInt8) (hm : m ≤ 1099511627776) (hR : RowS w R (wkc h d n (.slice q m c))) (hP : PBq w R q m c (f :: r)) (hf : f.toNat % 32 = 25) : Calls Tryd.prog 69 #[.pointer (some ⟨R, 0, none⟩)] w (RhR w R h d n (f :: r)) := by
  have hb := rbytes_c w R h d n q m c (f :: r) 1 (by decide) hm hR hP
  have c3 := hR.cell 3 _ rfl
  have hlt := hR.1
  have hml := hidW hP.1
  have hm1 : 1 ≤ m := by have := hP.1; rw [List.length_cons] at this; omega
  have hf8 := f.toNat_lt
  have ha := and31 ⟨f.toNat, hf8⟩
  simp only at ha
  go_enter Tryd.func69, Tryd.ntmps69
  go_wp2_with fail
  refine hb.mono ?_
  rintro e w1 (⟨h1, q', rfl, hw1, hR1, p1, p2⟩ | ⟨h1, -⟩)
  · obtain ⟨-, -, ⟨-, e0⟩ | ⟨b, o, rfl, hbR, hbl, hcell⟩⟩ := id p1
    · exact absurd hP.2.1 (by rw [hml.out, e0]; simp)
    have cf := hcell 0 f rfl
    rw [Nat.add_zero] at cf
    obtain ⟨fn, hfn⟩ : ∃ fn, Hid (f.toNat = fn) := ⟨_, rfl⟩
    rw [hfn.out] at cf ha hf8 hf
    have KW := hidW (And.intro hw1 (And.intro hR1 (And.intro p1 p2)))
    have c31 := hR1.cell 3 _ rfl
    have hlt1 := hR1.1
    clear hw1 hR1 p1 p2 hcell hb
    obtain ⟨k, hk⟩ : ∃ k, Hid (fn / 32 = k) := ⟨_, rfl⟩
    obtain ⟨nn, hnn⟩ : ∃ k, Hid (fn % 32 = k) := ⟨_, rfl⟩
    have hkz : (fn : Int) / 32 = (k : Int) := by have := hk.out; omega
    have hnz : (fn : Int) % 32 = 25 := by omega
    rw [hf] at ha
    have hk8 : k < 8 := by have := hk.out; omega
    have hb2 := rbytes_c w1 R h d n q' (m - 1) (c - 1) r 2 (by decide) (by omega) KW.out.2.1 KW.out.2.2.2
    have HF1 : Hid (FrX (· = R) w w1) := by
      have h6 := (FrX.refl (· = R) w).setCell (a := ⟨R, 3, none⟩) (Or.inl rfl) (.slice q' (m - 1) (c - 1))
      rw [← KW.out.1] at h6
      exact h6
    have hl : Hid (m - 1 = r.length) := by show _ = _; rw [hml.out]; rfl
    have hpx1 : Hid (PBq w1 R (some ⟨b, o, none⟩) m c (f :: r)) := by
      have h0 := hP.set 3 (.slice q' (m - 1) (c - 1))
      rw [← KW.out.1] at h0
      exact h0
    have hsz : Hid (2 ^ (f.toNat % 32 - 24) = 2) := by show _ = _; rw [hfn.out, hf]
    obtain ⟨m1, hm1d⟩ : ∃ m1, Hid (m - 1 = m1) := ⟨_, rfl⟩
    obtain ⟨c1, hc1d⟩ : ∃ c1, Hid (c - 1 = c1) := ⟨_, rfl⟩
    rw [hm1d.out, hc1d.out] at hb2 c31
    go_wp2_with fail
    refine (must_y _).mono ?_
    rintro e w5 ⟨rfl, rfl⟩
    go_wp2_with fail
    refine hb2.mono ?_
    rintro e w2 (⟨h1', q2, rfl, hw2, hR2, p3, p4⟩ | ⟨h1', rfl, rfl⟩)
    · obtain ⟨N, hN⟩ : ∃ N, Hid (ofBE (r.take 2) 0 = N) := ⟨_, rfl⟩
      have hno := numberOf_c w2 R q' 2 c1 (r.take 2) p3 (by decide)
      rw [hN.out] at hno
      have hN64 : N < 18446744073709551616 := by
        have h9 := ofBE_lt (r.take 2) 0
        have h10 : (r.take 2).length ≤ 8 := by rw [List.length_take]; omega
        have h11 : 256 ^ (r.take 2).length ≤ 256 ^ 8 := Nat.pow_le_pow_right (by decide) h10
        have h12 : (256 : Nat) ^ 8 = 18446744073709551616 := by decide
        rw [hN.out] at h9
        omega
      have hH := headOf_c w2 k N hk8 hN64
      have HF2 : Hid (FrX (· = R) w w2) := by rw [hw2]; exact HF1.out.setCell (a := ⟨R, 3, none⟩) (Or.inl rfl) _
      have hpx2 : Hid (PBq w2 R (some ⟨b, o, none⟩) m c (f :: r)) := by rw [hw2]; exact hpx1.out.set _ _
      have KR := hidW (And.intro hR2 p4)
      clear hw2 hR2 p3 p4
      go_wp2_with fail
      refine hno.mono ?_
      rintro e w6 ⟨rfl, rfl⟩
      go_wp2_with fail
      refine hH.mono ?_
      rintro e w3 ⟨v3, rfl, hb3, how⟩
      obtain ⟨q3, c3', rfl⟩ := slice_own how
      have hR3 := KR.out.1.below hb3
      have hpx3 : PBq w3 R (some ⟨b, o, none⟩) m c (f :: r) := by
        obtain ⟨a1, a2, ⟨h, -⟩ | ⟨b1, o1, e1, a3, a4, a5⟩⟩ := hpx2.out
        · cases h
        · exact ⟨a1, a2, Or.inr ⟨b1, o1, e1, a3, Nat.lt_of_lt_of_le a4 hb3.size, fun j u hj => by rw [hb3.cell (p := ⟨b1, _, none⟩) a4]; exact a5 j u hj⟩⟩
      have hlr := hl.out
      rw [hm1d.out] at hlr
      have hmm := hm1d.out
      obtain ⟨hsc, hp3⟩ := since_c w3 R h d n q2 (m1 - 2) (c1 - 2) (some ⟨b, o, none⟩) m c (f :: r) (by omega) hm hR3 hpx3
      have ek : m - (m1 - 2) = 2 + 1 := by omega
      rw [ek] at hsc hp3
      have hE := equalB_c w3 q3 (hd k N).length c3' (some ⟨b, o, none⟩) (2 + 1) c (hd k N) ((f :: r).take (2 + 1)) (own_pb how) (by
        obtain ⟨a1, a2, ⟨h, -⟩ | ⟨b1, o1, e1, a3, a4, a5⟩⟩ := hp3
        · cases h
        · exact ⟨some ⟨b, o, none⟩, c, by rw [← a1], Or.inr ⟨b1, o1, e1, a5⟩⟩)
      have HF3 := hidW (HF2.out.belowTo hb3)
      have KP : Hid (RowS w3 R (wkc h d n (.slice q2 (m1 - 2) (c1 - 2))) ∧ PBq w3 R q2 (m1 - 2) (c1 - 2) (r.drop 2)) := by
        refine ⟨hR3, ?_⟩
        obtain ⟨a1, a2, ⟨h, h'⟩ | ⟨b1, o1, e1, a3, a4, a5⟩⟩ := KR.out.2
        · exact ⟨a1, a2, Or.inl ⟨h, h'⟩⟩
        · exact ⟨a1, a2, Or.inr ⟨b1, o1, e1, a3, Nat.lt_of_lt_of_le a4 hb3.size, fun j u hj => by rw [hb3.cell (p := ⟨b1, _, none⟩) a4]; exact a5 j u hj⟩⟩
      have hrd : Hid (rdHead (f :: r) = if hd k N = (f :: r).take (2 + 1) then some (k, N, r.drop 2) else none) := by
        show _ = _
        rw [rdHead, hsz.out, hfn.out, hf, hk.out, if_neg (by decide), if_neg (by decide), if_neg (by omega), hN.out, List.take_succ_cons]
      have hkk : Hid ((r.drop 2).length = m1 - 2) := by show _ = _; rw [List.length_drop, hlr]
      obtain ⟨lh, hlh⟩ : ∃ lh, Hid ((hd k N).length = lh) := ⟨_, rfl⟩
      rw [hlh.out] at hE ⊢
      by_cases heq : hd k N = (f :: r).take (2 + 1)
      · rw [decide_eq_true heq] at hE
        have HQ : Hid (RhR w R h d n (f :: r) (.returned (.tuple #[.int .i64 (k : Int), .int .u64 (N : Int)])) w3) := ⟨HF3.out, Or.inl ⟨k, N, r.drop 2, q2, c1 - 2, by rw [hrd.out, if_pos heq], rfl, by rw [hkk.out]; exact KP.out.1, by rw [hkk.out]; exact KP.out.2⟩⟩
        clear hb3 how hR3 hpx3 hp3 hH hno heq hmm hlr ek
        go_wp2_with fail
        refine hsc.mono ?_
        rintro e w7 ⟨rfl, rfl⟩
        go_wp2_with fail
        refine hE.mono ?_
        rintro e w8 ⟨rfl, rfl⟩
        go_wp2_with fail
        refine (must_y _).mono ?_
        rintro e w9 ⟨rfl, rfl⟩
        go_wp2
        go_ret2
        exact HQ.out
      · rw [decide_eq_false heq] at hE
        have HQ : Hid (RhR w R h d n (f :: r) thrown w3) := ⟨HF3.out, Or.inr ⟨by rw [hrd.out, if_neg heq], rfl⟩⟩
        clear hb3 how hR3 hpx3 hp3 hH hno heq hmm hlr ek
        go_wp2_with fail
        refine hsc.mono ?_
        rintro e w7 ⟨rfl, rfl⟩
        go_wp2_with fail
        refine hE.mono ?_
        rintro e w8 ⟨rfl, rfl⟩
        go_wp2_with fail
        refine (must_n _).mono ?_
        rintro e w9 ⟨rfl, rfl⟩
        simp only [Exit.inBlock, Exit.then, bodyPost]
        exact ⟨trivial, HQ.out⟩
    · have HQ : Hid (RhR w R h d n (f :: r) thrown w2) := by
        refine ⟨HF1.out, Or.inr ⟨?_, rfl⟩⟩
        rw [rdHead, hsz.out, hfn.out, hf, if_neg (by decide), if_neg (by decide), if_pos (by omega)]
      simp only [Exit.inBlock, Exit.then, bodyPost, thrown]
      exact ⟨trivial, HQ.out⟩
  · exact absurd (by simp) h1
set_option maxHeartbeats 1000000 in
set_option maxRecDepth 20000 in
theorem head_26 (w : World) (R h d n : Nat) (q : Option Addr) (m c : Nat) (f : UInt8) (r : List UInt8) (hm : m ≤ 1099511627776) (hR : RowS w R (wkc h d n (.slice q m c))) (hP : PBq w R q m c (f :: r)) (hf : f.toNat % 32 = 26) : Calls Tryd.prog 69 #[.pointer (some ⟨R, 0, none⟩)] w (RhR w R h d n (f :: r)) := by
  have hb := rbytes_c w R h d n q m c (f :: r) 1 (by decide) hm hR hP
  have c3 := hR.cell 3 _ rfl
  have hlt := hR.1
  have hml := hidW hP.1
  have hm1 : 1 ≤ m := by have := hP.1; rw [List.length_cons] at this; omega
  have hf8 := f.toNat_lt
  have ha := and31 ⟨f.toNat, hf8⟩
  simp only at ha
  go_enter Tryd.func69, Tryd.ntmps69
  go_wp2_with fail
  refine hb.mono ?_
  rintro e w1 (⟨h1, q', rfl, hw1, hR1, p1, p2⟩ | ⟨h1, -⟩)
  · obtain ⟨-, -, ⟨-, e0⟩ | ⟨b, o, rfl, hbR, hbl, hcell⟩⟩ := id p1
    · exact absurd hP.2.1 (by rw [hml.out, e0]; simp)
    have cf := hcell 0 f rfl
    rw [Nat.add_zero] at cf
    obtain ⟨fn, hfn⟩ : ∃ fn, Hid (f.toNat = fn) := ⟨_, rfl⟩
    rw [hfn.out] at cf ha hf8 hf
    have KW := hidW (And.intro hw1 (And.intro hR1 (And.intro p1 p2)))
    have c31 := hR1.cell 3 _ rfl
    have hlt1 := hR1.1
    clear hw1 hR1 p1 p2 hcell hb
    obtain ⟨k, hk⟩ : ∃ k, Hid (fn / 32 = k) := ⟨_, rfl⟩
    obtain ⟨nn, hnn⟩ : ∃ k, Hid (fn % 32 = k) := ⟨_, rfl⟩
    have hkz : (fn : Int) / 32 = (k : Int) := by have := hk.out; omega
    have hnz : (fn : Int) % 32 = 26 := by omega
    rw [hf] at ha
    have hk8 : k < 8 := by have := hk.out; omega
    have hb2 := rbytes_c w1 R h d n q' (m - 1) (c - 1) r 4 (by decide) (by omega) KW.out.2.1 KW.out.2.2.2
    have HF1 : Hid (FrX (· = R) w w1) := by
      have h6 := (FrX.refl (· = R) w).setCell (a := ⟨R, 3, none⟩) (Or.inl rfl) (.slice q' (m - 1) (c - 1))
      rw [← KW.out.1] at h6
      exact h6
    have hl : Hid (m - 1 = r.length) := by show _ = _; rw [hml.out]; rfl
    have hpx1 : Hid (PBq w1 R (some ⟨b, o, none⟩) m c (f :: r)) := by
      have h0 := hP.set 3 (.slice q' (m - 1) (c - 1))
      rw [← KW.out.1] at h0
      exact h0
    have hsz : Hid (2 ^ (f.toNat % 32 - 24) = 4) := by show _ = _; rw [hfn.out, hf]
    obtain ⟨m1, hm1d⟩ : ∃ m1, Hid (m - 1 = m1) := ⟨_, rfl⟩
    obtain ⟨c1, hc1d⟩ : ∃ c1, Hid (c - 1 = c1) := ⟨_, rfl⟩
    rw [hm1d.out, hc1d.out] at hb2 c31
    go_wp2_with fail
    refine (must_y _).mono ?_
    rintro e w5 ⟨rfl, rfl⟩
    go_wp2_with fail
    refine hb2.mono ?_
    rintro e w2 (⟨h1', q2, rfl, hw2, hR2, p3, p4⟩ | ⟨h1', rfl, rfl⟩)
    · obtain ⟨N, hN⟩ : ∃ N, Hid (ofBE (r.take 4) 0 = N) := ⟨_, rfl⟩
      have hno := numberOf_c w2 R q' 4 c1 (r.take 4) p3 (by decide)
      rw [hN.out] at hno
      have hN64 : N < 18446744073709551616 := by
        have h9 := ofBE_lt (r.take 4) 0
        have h10 : (r.take 4).length ≤ 8 := by rw [List.length_take]; omega
        have h11 : 256 ^ (r.take 4).length ≤ 256 ^ 8 := Nat.pow_le_pow_right (by decide) h10
        have h12 : (256 : Nat) ^ 8 = 18446744073709551616 := by decide
        rw [hN.out] at h9
        omega
      have hH := headOf_c w2 k N hk8 hN64
      have HF2 : Hid (FrX (· = R) w w2) := by rw [hw2]; exact HF1.out.setCell (a := ⟨R, 3, none⟩) (Or.inl rfl) _
      have hpx2 : Hid (PBq w2 R (some ⟨b, o, none⟩) m c (f :: r)) := by rw [hw2]; exact hpx1.out.set _ _
      have KR := hidW (And.intro hR2 p4)
      clear hw2 hR2 p3 p4
      go_wp2_with fail
      refine hno.mono ?_
      rintro e w6 ⟨rfl, rfl⟩
      go_wp2_with fail
      refine hH.mono ?_
      rintro e w3 ⟨v3, rfl, hb3, how⟩
      obtain ⟨q3, c3', rfl⟩ := slice_own how
      have hR3 := KR.out.1.below hb3
      have hpx3 : PBq w3 R (some ⟨b, o, none⟩) m c (f :: r) := by
        obtain ⟨a1, a2, ⟨h, -⟩ | ⟨b1, o1, e1, a3, a4, a5⟩⟩ := hpx2.out
        · cases h
        · exact ⟨a1, a2, Or.inr ⟨b1, o1, e1, a3, Nat.lt_of_lt_of_le a4 hb3.size, fun j u hj => by rw [hb3.cell (p := ⟨b1, _, none⟩) a4]; exact a5 j u hj⟩⟩
      have hlr := hl.out
      rw [hm1d.out] at hlr
      have hmm := hm1d.out
      obtain ⟨hsc, hp3⟩ := since_c w3 R h d n q2 (m1 - 4) (c1 - 4) (some ⟨b, o, none⟩) m c (f :: r) (by omega) hm hR3 hpx3
      have ek : m - (m1 - 4) = 4 + 1 := by omega
      rw [ek] at hsc hp3
      have hE := equalB_c w3 q3 (hd k N).length c3' (some ⟨b, o, none⟩) (4 + 1) c (hd k N) ((f :: r).take (4 + 1)) (own_pb how) (by
        obtain ⟨a1, a2, ⟨h, -⟩ | ⟨b1, o1, e1, a3, a4, a5⟩⟩ := hp3
        · cases h
        · exact ⟨some ⟨b, o, none⟩, c, by rw [← a1], Or.inr ⟨b1, o1, e1, a5⟩⟩)
      have HF3 := hidW (HF2.out.belowTo hb3)
      have KP : Hid (RowS w3 R (wkc h d n (.slice q2 (m1 - 4) (c1 - 4))) ∧ PBq w3 R q2 (m1 - 4) (c1 - 4) (r.drop 4)) := by
        refine ⟨hR3, ?_⟩
        obtain ⟨a1, a2, ⟨h, h'⟩ | ⟨b1, o1, e1, a3, a4, a5⟩⟩ := KR.out.2
        · exact ⟨a1, a2, Or.inl ⟨h, h'⟩⟩
        · exact ⟨a1, a2, Or.inr ⟨b1, o1, e1, a3, Nat.lt_of_lt_of_le a4 hb3.size, fun j u hj => by rw [hb3.cell (p := ⟨b1, _, none⟩) a4]; exact a5 j u hj⟩⟩
      have hrd : Hid (rdHead (f :: r) = if hd k N = (f :: r).take (4 + 1) then some (k, N, r.drop 4) else none) := by
        show _ = _
        rw [rdHead, hsz.out, hfn.out, hf, hk.out, if_neg (by decide), if_neg (by decide), if_neg (by omega), hN.out, List.take_succ_cons]
      have hkk : Hid ((r.drop 4).length = m1 - 4) := by show _ = _; rw [List.length_drop, hlr]
      obtain ⟨lh, hlh⟩ : ∃ lh, Hid ((hd k N).length = lh) := ⟨_, rfl⟩
      rw [hlh.out] at hE ⊢
      by_cases heq : hd k N = (f :: r).take (4 + 1)
      · rw [decide_eq_true heq] at hE
        have HQ : Hid (RhR w R h d n (f :: r) (.returned (.tuple #[.int .i64 (k : Int), .int .u64 (N : Int)])) w3) := ⟨HF3.out, Or.inl ⟨k, N, r.drop 4, q2, c1 - 4, by rw [hrd.out, if_pos heq], rfl, by rw [hkk.out]; exact KP.out.1, by rw [hkk.out]; exact KP.out.2⟩⟩
        clear hb3 how hR3 hpx3 hp3 hH hno heq hmm hlr ek
        go_wp2_with fail
        refine hsc.mono ?_
        rintro e w7 ⟨rfl, rfl⟩
        go_wp2_with fail
        refine hE.mono ?_
        rintro e w8 ⟨rfl, rfl⟩
        go_wp2_with fail
        refine (must_y _).mono ?_
        rintro e w9 ⟨rfl, rfl⟩
        go_wp2
        go_ret2
        exact HQ.out
      · rw [decide_eq_false heq] at hE
        have HQ : Hid (RhR w R h d n (f :: r) thrown w3) := ⟨HF3.out, Or.inr ⟨by rw [hrd.out, if_neg heq], rfl⟩⟩
        clear hb3 how hR3 hpx3 hp3 hH hno heq hmm hlr ek
        go_wp2_with fail
        refine hsc.mono ?_
        rintro e w7 ⟨rfl, rfl⟩
        go_wp2_with fail
        refine hE.mono ?_
        rintro e w8 ⟨rfl, rfl⟩
        go_wp2_with fail
        refine (must_n _).mono ?_
        rintro e w9 ⟨rfl, rfl⟩
        simp only [Exit.inBlock, Exit.then, bodyPost]
        exact ⟨trivial, HQ.out⟩
    · have HQ : Hid (RhR w R h d n (f :: r) thrown w2) := by
        refine ⟨HF1.out, Or.inr ⟨?_, rfl⟩⟩
        rw [rdHead, hsz.out, hfn.out, hf, if_neg (by decide), if_neg (by decide), if_pos (by omega)]
      simp only [Exit.inBlock, Exit.then, bodyPost, thrown]
      exact ⟨trivial, HQ.out⟩
  · exact absurd (by simp) h1
set_option maxHeartbeats 1000000 in
set_option maxRecDepth 20000 in
theorem head_27 (w : World) (R h d n : Nat) (q : Option Addr) (m c : Nat) (f : UInt8) (r : List UInt8) (hm : m ≤ 1099511627776) (hR : RowS w R (wkc h d n (.slice q m c))) (hP : PBq w R q m c (f :: r)) (hf : f.toNat % 32 = 27) : Calls Tryd.prog 69 #[.pointer (some ⟨R, 0, none⟩)] w (RhR w R h d n (f :: r)) := by
  have hb := rbytes_c w R h d n q m c (f :: r) 1 (by decide) hm hR hP
  have c3 := hR.cell 3 _ rfl
  have hlt := hR.1
  have hml := hidW hP.1
  have hm1 : 1 ≤ m := by have := hP.1; rw [List.length_cons] at this; omega
  have hf8 := f.toNat_lt
  have ha := and31 ⟨f.toNat, hf8⟩
  simp only at ha
  go_enter Tryd.func69, Tryd.ntmps69
  go_wp2_with fail
  refine hb.mono ?_
  rintro e w1 (⟨h1, q', rfl, hw1, hR1, p1, p2⟩ | ⟨h1, -⟩)
  · obtain ⟨-, -, ⟨-, e0⟩ | ⟨b, o, rfl, hbR, hbl, hcell⟩⟩ := id p1
    · exact absurd hP.2.1 (by rw [hml.out, e0]; simp)
    have cf := hcell 0 f rfl
    rw [Nat.add_zero] at cf
    obtain ⟨fn, hfn⟩ : ∃ fn, Hid (f.toNat = fn) := ⟨_, rfl⟩
    rw [hfn.out] at cf ha hf8 hf
    have KW := hidW (And.intro hw1 (And.intro hR1 (And.intro p1 p2)))
    have c31 := hR1.cell 3 _ rfl
    have hlt1 := hR1.1
    clear hw1 hR1 p1 p2 hcell hb
    obtain ⟨k, hk⟩ : ∃ k, Hid (fn / 32 = k) := ⟨_, rfl⟩
    obtain ⟨nn, hnn⟩ : ∃ k, Hid (fn % 32 = k) := ⟨_, rfl⟩
    have hkz : (fn : Int) / 32 = (k : Int) := by have := hk.out; omega
    have hnz : (fn : Int) % 32 = 27 := by omega
    rw [hf] at ha
    have hk8 : k < 8 := by have := hk.out; omega
    have hb2 := rbytes_c w1 R h d n q' (m - 1) (c - 1) r 8 (by decide) (by omega) KW.out.2.1 KW.out.2.2.2
    have HF1 : Hid (FrX (· = R) w w1) := by
      have h6 := (FrX.refl (· = R) w).setCell (a := ⟨R, 3, none⟩) (Or.inl rfl) (.slice q' (m - 1) (c - 1))
      rw [← KW.out.1] at h6
      exact h6
    have hl : Hid (m - 1 = r.length) := by show _ = _; rw [hml.out]; rfl
    have hpx1 : Hid (PBq w1 R (some ⟨b, o, none⟩) m c (f :: r)) := by
      have h0 := hP.set 3 (.slice q' (m - 1) (c - 1))
      rw [← KW.out.1] at h0
      exact h0
    have hsz : Hid (2 ^ (f.toNat % 32 - 24) = 8) := by show _ = _; rw [hfn.out, hf]
    obtain ⟨m1, hm1d⟩ : ∃ m1, Hid (m - 1 = m1) := ⟨_, rfl⟩
    obtain ⟨c1, hc1d⟩ : ∃ c1, Hid (c - 1 = c1) := ⟨_, rfl⟩
    rw [hm1d.out, hc1d.out] at hb2 c31
    go_wp2_with fail
    refine (must_y _).mono ?_
    rintro e w5 ⟨rfl, rfl⟩
    go_wp2_with fail
    refine hb2.mono ?_
    rintro e w2 (⟨h1', q2, rfl, hw2, hR2, p3, p4⟩ | ⟨h1', rfl, rfl⟩)
    · obtain ⟨N, hN⟩ : ∃ N, Hid (ofBE (r.take 8) 0 = N) := ⟨_, rfl⟩
      have hno := numberOf_c w2 R q' 8 c1 (r.take 8) p3 (by decide)
      rw [hN.out] at hno
      have hN64 : N < 18446744073709551616 := by
        have h9 := ofBE_lt (r.take 8) 0
        have h10 : (r.take 8).length ≤ 8 := by rw [List.length_take]; omega
        have h11 : 256 ^ (r.take 8).length ≤ 256 ^ 8 := Nat.pow_le_pow_right (by decide) h10
        have h12 : (256 : Nat) ^ 8 = 18446744073709551616 := by decide
        rw [hN.out] at h9
        omega
      have hH := headOf_c w2 k N hk8 hN64
      have HF2 : Hid (FrX (· = R) w w2) := by rw [hw2]; exact HF1.out.setCell (a := ⟨R, 3, none⟩) (Or.inl rfl) _
      have hpx2 : Hid (PBq w2 R (some ⟨b, o, none⟩) m c (f :: r)) := by rw [hw2]; exact hpx1.out.set _ _
      have KR := hidW (And.intro hR2 p4)
      clear hw2 hR2 p3 p4
      go_wp2_with fail
      refine hno.mono ?_
      rintro e w6 ⟨rfl, rfl⟩
      go_wp2_with fail
      refine hH.mono ?_
      rintro e w3 ⟨v3, rfl, hb3, how⟩
      obtain ⟨q3, c3', rfl⟩ := slice_own how
      have hR3 := KR.out.1.below hb3
      have hpx3 : PBq w3 R (some ⟨b, o, none⟩) m c (f :: r) := by
        obtain ⟨a1, a2, ⟨h, -⟩ | ⟨b1, o1, e1, a3, a4, a5⟩⟩ := hpx2.out
        · cases h
        · exact ⟨a1, a2, Or.inr ⟨b1, o1, e1, a3, Nat.lt_of_lt_of_le a4 hb3.size, fun j u hj => by rw [hb3.cell (p := ⟨b1, _, none⟩) a4]; exact a5 j u hj⟩⟩
      have hlr := hl.out
      rw [hm1d.out] at hlr
      have hmm := hm1d.out
      obtain ⟨hsc, hp3⟩ := since_c w3 R h d n q2 (m1 - 8) (c1 - 8) (some ⟨b, o, none⟩) m c (f :: r) (by omega) hm hR3 hpx3
      have ek : m - (m1 - 8) = 8 + 1 := by omega
      rw [ek] at hsc hp3
      have hE := equalB_c w3 q3 (hd k N).length c3' (some ⟨b, o, none⟩) (8 + 1) c (hd k N) ((f :: r).take (8 + 1)) (own_pb how) (by
        obtain ⟨a1, a2, ⟨h, -⟩ | ⟨b1, o1, e1, a3, a4, a5⟩⟩ := hp3
        · cases h
        · exact ⟨some ⟨b, o, none⟩, c, by rw [← a1], Or.inr ⟨b1, o1, e1, a5⟩⟩)
      have HF3 := hidW (HF2.out.belowTo hb3)
      have KP : Hid (RowS w3 R (wkc h d n (.slice q2 (m1 - 8) (c1 - 8))) ∧ PBq w3 R q2 (m1 - 8) (c1 - 8) (r.drop 8)) := by
        refine ⟨hR3, ?_⟩
        obtain ⟨a1, a2, ⟨h, h'⟩ | ⟨b1, o1, e1, a3, a4, a5⟩⟩ := KR.out.2
        · exact ⟨a1, a2, Or.inl ⟨h, h'⟩⟩
        · exact ⟨a1, a2, Or.inr ⟨b1, o1, e1, a3, Nat.lt_of_lt_of_le a4 hb3.size, fun j u hj => by rw [hb3.cell (p := ⟨b1, _, none⟩) a4]; exact a5 j u hj⟩⟩
      have hrd : Hid (rdHead (f :: r) = if hd k N = (f :: r).take (8 + 1) then some (k, N, r.drop 8) else none) := by
        show _ = _
        rw [rdHead, hsz.out, hfn.out, hf, hk.out, if_neg (by decide), if_neg (by decide), if_neg (by omega), hN.out, List.take_succ_cons]
      have hkk : Hid ((r.drop 8).length = m1 - 8) := by show _ = _; rw [List.length_drop, hlr]
      obtain ⟨lh, hlh⟩ : ∃ lh, Hid ((hd k N).length = lh) := ⟨_, rfl⟩
      rw [hlh.out] at hE ⊢
      by_cases heq : hd k N = (f :: r).take (8 + 1)
      · rw [decide_eq_true heq] at hE
        have HQ : Hid (RhR w R h d n (f :: r) (.returned (.tuple #[.int .i64 (k : Int), .int .u64 (N : Int)])) w3) := ⟨HF3.out, Or.inl ⟨k, N, r.drop 8, q2, c1 - 8, by rw [hrd.out, if_pos heq], rfl, by rw [hkk.out]; exact KP.out.1, by rw [hkk.out]; exact KP.out.2⟩⟩
        clear hb3 how hR3 hpx3 hp3 hH hno heq hmm hlr ek
        go_wp2_with fail
        refine hsc.mono ?_
        rintro e w7 ⟨rfl, rfl⟩
        go_wp2_with fail
        refine hE.mono ?_
        rintro e w8 ⟨rfl, rfl⟩
        go_wp2_with fail
        refine (must_y _).mono ?_
        rintro e w9 ⟨rfl, rfl⟩
        go_wp2
        go_ret2
        exact HQ.out
      · rw [decide_eq_false heq] at hE
        have HQ : Hid (RhR w R h d n (f :: r) thrown w3) := ⟨HF3.out, Or.inr ⟨by rw [hrd.out, if_neg heq], rfl⟩⟩
        clear hb3 how hR3 hpx3 hp3 hH hno heq hmm hlr ek
        go_wp2_with fail
        refine hsc.mono ?_
        rintro e w7 ⟨rfl, rfl⟩
        go_wp2_with fail
        refine hE.mono ?_
        rintro e w8 ⟨rfl, rfl⟩
        go_wp2_with fail
        refine (must_n _).mono ?_
        rintro e w9 ⟨rfl, rfl⟩
        simp only [Exit.inBlock, Exit.then, bodyPost]
        exact ⟨trivial, HQ.out⟩
    · have HQ : Hid (RhR w R h d n (f :: r) thrown w2) := by
        refine ⟨HF1.out, Or.inr ⟨?_, rfl⟩⟩
        rw [rdHead, hsz.out, hfn.out, hf, if_neg (by decide), if_neg (by decide), if_pos (by omega)]
      simp only [Exit.inBlock, Exit.then, bodyPost, thrown]
      exact ⟨trivial, HQ.out⟩
  · exact absurd (by simp) h1
/-- THE READER'S HEAD. -/
theorem rdhead_c (w : World) (R h d n : Nat) (q : Option Addr) (m c : Nat) (x : List UInt8) (hm : m ≤ 1099511627776) (hR : RowS w R (wkc h d n (.slice q m c))) (hP : PBq w R q m c x) : Calls Tryd.prog 69 #[.pointer (some ⟨R, 0, none⟩)] w (RhR w R h d n x) := by
  cases x with
  | nil => exact head_nil w R h d n q m c hR hP
  | cons f r =>
    by_cases h1 : f.toNat % 32 < 24
    · exact head_few w R h d n q m c f r hm hR hP h1
    · by_cases h2 : 27 < f.toNat % 32
      · exact head_bad w R h d n q m c f r hm hR hP h2
      · obtain e | e | e | e : f.toNat % 32 = 24 ∨ f.toNat % 32 = 25 ∨ f.toNat % 32 = 26 ∨ f.toNat % 32 = 27 := by omega
        · exact head_24 w R h d n q m c f r hm hR hP e
        · exact head_25 w R h d n q m c f r hm hR hP e
        · exact head_26 w R h d n q m c f r hm hR hP e
        · exact head_27 w R h d n q m c f r hm hR hP e
end WI
end Go.Proofs.YtfkgfcggcfkkiaaDoor
namespace Go.Proofs.YtfkgfcggcfkkiaaDoor
open Go.RowKit Go.Sort Go.Deep
namespace WI
theorem zrow (w : World) : RowS (w.alloc (.cells #[.int .i64 0, .int .u64 0, .slice none 0 0, .slice none 0 0] 27)) w.heap.size [.int .i64 0, .int .u64 0, .slice none 0 0, .slice none 0 0] := by
  have e : (w.alloc (.cells #[.int .i64 0, .int .u64 0, .slice none 0 0, .slice none 0 0] 27)).heap[w.heap.size]? = some (.cells #[.int .i64 0, .int .u64 0, .slice none 0 0, .slice none 0 0] 27 (0, 0)) := Array.getElem?_push_size
  refine ⟨(Array.getElem?_eq_some_iff.1 e).1, al_r w _ _ _ rfl, fun k hk => ?_⟩
  unfold World.cell? World.frozen?
  simp only [e, Nat.zero_add]
  obtain rfl | rfl | rfl | rfl : k = 0 ∨ k = 1 ∨ k = 2 ∨ k = 3 := by simp only [List.length_cons, List.length_nil] at hk; omega
  all_goals exact ⟨rfl, rfl⟩
set_option maxHeartbeats 1000000 in
set_option maxRecDepth 20000 in
/-- A number is read: it is the head's. -/
theorem rNum_c (w : World) (R n : Nat) : Calls Tryd.prog 83 #[.pointer (some ⟨R, 0, none⟩), .int .u64 (n : Int)] w (RetW fun e w' => Below w.heap.size w w' ∧ e = itv 0 n none 0 0 none 0 0) := by
  obtain ⟨wb, hwb⟩ : ∃ wb, Hid (w.alloc (.cells #[.int .i64 0, .int .u64 0, .slice none 0 0, .slice none 0 0] 27) = wb) := ⟨_, rfl⟩
  have hRr : Hid (RowS wb w.heap.size [.int .i64 0, .int .u64 0, .slice none 0 0, .slice none 0 0]) := by rw [← hwb.out]; exact zrow w
  have hB : Hid (Below w.heap.size w wb) := by rw [← hwb.out]; exact alloc_below _ _
  obtain ⟨w3, hw3⟩ : ∃ w3, Hid (wb.setCells w.heap.size 0 [.int .i64 0, .int .u64 (n : Int), .slice none 0 0, .slice none 0 0] = w3) := ⟨_, rfl⟩
  have K3 : Hid (RowS w3 w.heap.size [.int .i64 0, .int .u64 (n : Int), .slice none 0 0, .slice none 0 0] ∧ Below w.heap.size w w3) := by
    rw [← hw3.out]
    exact ⟨⟨sc_lt _ _ _ hRr.out.1, World.rangeAt_setCells_same _ _ _ _ hRr.out.2.2, World.there_setCells hRr.out.2.2 _ _ _⟩, RG.below_setCells (Nat.le_refl _) _ _ _ hB.out⟩
  go_enter Tryd.func83, Tryd.ntmps83
  go_upto_region 1 with fail
  rw [hwb.out]
  go_wp2_with (first | (refine wpList_store_mid rfl 27 _ _ rfl w.heap.size 0 #[.int .i64 0, .int .u64 (n : Int), .slice none 0 0, .slice none 0 0] ?_ ?_ ?_ ?_ ?_ ?_; rfl; rfl; exact hRr.out.2.2; exact isz27; exact four_one _ _ _ _ _ _ _ _; (show wpList _ _ _ _ _ (wb.setCells w.heap.size 0 [.int .i64 0, .int .u64 (n : Int), .slice none 0 0, .slice none 0 0])); rw [hw3.out]))
  refine bodyPost_ret (results_cellI 4 27 rfl K3.out.1 rfl urw27 isz27) rfl ?_
  exact ⟨_, rfl, K3.out.2, rfl⟩
end WI
end Go.Proofs.YtfkgfcggcfkkiaaDoor
namespace Go.Proofs.YtfkgfcggcfkkiaaDoor
namespace WI
variable (u : List UInt8 → Bool)
mutual
/-- Its numbers have 64 bits. -/
def n64 : Itm → Prop
  | .mk _ n _ l => n < 18446744073709551616 ∧ n64s l
def n64s : List Itm → Prop
  | [] => True
  | i :: r => n64 i ∧ n64s r
end
/-- What is known of a thing that was read. -/
def RdS (f c : Nat) (b : List UInt8) (i : Itm) (c' : Nat) (b' : List UInt8) : Prop := b = byt i ++ b' ∧ shp u i = true ∧ dep i ≤ f ∧ c' = c + cnt i ∧ c' ≤ 4096 ∧ n64 i
def RdSs (f c : Nat) (b : List UInt8) (l : List Itm) (n c' : Nat) (b' : List UInt8) : Prop := b = (byts l).flatten ++ b' ∧ l.length = n ∧ shps u l = true ∧ deps l ≤ f ∧ c' = c + cnts l ∧ c' ≤ 4096 ∧ n64s l
theorem rdN_some {rdf : Nat → List UInt8 → Option (Itm × Nat × List UInt8)} {f : Nat} (hrd : ∀ c b i c' b', rdf c b = some (i, c', b') → RdS u f c b i c' b') : ∀ (n c : Nat) (b : List UInt8) (l : List Itm) (c' : Nat) (b' : List UInt8), c ≤ 4096 → rdN rdf n c b = some (l, c', b') → RdSs u f c b l n c' b'
  | 0, c, b, l, c', b', hc, h => by
    simp only [rdN, Option.some.injEq, Prod.mk.injEq] at h
    obtain ⟨rfl, rfl, rfl⟩ := h
    refine ⟨by simp [byts], rfl, rfl, by rw [deps]; omega, by rw [cnts]; omega, hc, ?_⟩
    rw [n64s]; trivial
  | n + 1, c, b, l, c', b', hc, h => by
    rw [rdN] at h
    cases h1 : rdf c b with
    | none => rw [h1] at h; cases h
    | some x =>
      obtain ⟨i, c1, b1⟩ := x
      rw [h1] at h
      obtain ⟨g1, g2, g3, g4, g5, g6⟩ := hrd _ _ _ _ _ h1
      cases h2 : rdN rdf n c1 b1 with
      | none => simp only [h2] at h; cases h
      | some y =>
        obtain ⟨l2, c2, b2⟩ := y
        simp only [h2, Option.some.injEq, Prod.mk.injEq] at h
        obtain ⟨rfl, rfl, rfl⟩ := h
        obtain ⟨k1, k2, k3, k4, k5, k6, k7⟩ := rdN_some hrd n c1 b1 l2 c2 b2 g5 h2
        refine ⟨by rw [byts, List.flatten_cons, g1, k1, List.append_assoc], by rw [List.length_cons, k2], by rw [shps, g2, k3]; rfl, by rw [deps]; omega, by rw [cnts]; omega, k6, ?_⟩
        rw [n64s]; exact ⟨g6, k7⟩
theorem rd_some : ∀ (f c : Nat) (b : List UInt8) (i : Itm) (c' : Nat) (b' : List UInt8), rd u f c b = some (i, c', b') → RdS u f c b i c' b'
  | 0, c, b, i, c', b', h => by cases h
  | f + 1, c, b, i, c', b', h => by
    rw [rd] at h
    cases h1 : rdHead b with
    | none => simp only [h1] at h; cases h
    | some x =>
      obtain ⟨k, n, r⟩ := x
      simp only [h1] at h
      obtain ⟨hb, hk, hn⟩ := rdHead_some b r k n h1
      split at h
      · cases h
      rename_i hc
      split at h
      · rename_i hk3
        split at h
        · rename_i ho
          simp only [Option.some.injEq, Prod.mk.injEq] at h
          obtain ⟨rfl, rfl, rfl⟩ := h
          refine ⟨?_, ?_, by simp [dep, deps], by simp [cnt, cnts], by omega, by simp [n64, n64s, hn]⟩
          · rw [hb, byt]
            rcases hk3 with rfl | rfl | rfl <;> simp
          · have ho' : own u (k : Int) n [] ([] : List Itm).length = true := ho
            rw [shp, ho', shps]
            rcases hk3 with rfl | rfl | rfl <;> simp
        · cases h
      split at h
      · rename_i _ hk3
        split at h
        · rename_i hl
          split at h
          · rename_i ho
            simp only [Option.some.injEq, Prod.mk.injEq] at h
            obtain ⟨rfl, rfl, rfl⟩ := h
            have htl : (r.take n).length = n := by rw [List.length_take]; omega
            refine ⟨?_, ?_, by simp [dep, deps], by simp [cnt, cnts], by omega, by simp [n64, n64s]⟩
            · rw [hb, byt, if_pos (by omega), htl, List.append_assoc, List.take_append_drop]
              simp
            · have ho' : own u (k : Int) 0 (r.take n) ([] : List Itm).length = true := ho
              rw [shp, ho', shps]
              rcases hk3 with rfl | rfl <;> simp
          · cases h
        · cases h
      split at h
      · rename_i hk4
        subst hk4
        cases h2 : rdN (rd u f) n (c + 1) r with
        | none => simp only [h2] at h; cases h
        | some y =>
          obtain ⟨l, c2, r2⟩ := y
          simp only [h2, Option.some.injEq, Prod.mk.injEq] at h
          obtain ⟨rfl, rfl, rfl⟩ := h
          obtain ⟨k1, k2, k3, k4, k5, k6, k7⟩ := rdN_some u (rd_some f) n (c + 1) r l c2 r2 (by omega) h2
          refine ⟨?_, ?_, by rw [dep]; omega, by rw [cnt]; omega, k6, ?_⟩
          · rw [hb, byt, k1, k2]; simp
          · rw [shp, k3]; simp [own]
          · rw [n64]; exact ⟨by omega, k7⟩
      split at h
      · rename_i hk5
        subst hk5
        cases h2 : rdN (rd u f) (2 * n) (c + 1) r with
        | none => simp only [h2] at h; cases h
        | some y =>
          obtain ⟨l, c2, r2⟩ := y
          simp only [h2] at h
          split at h
          · rename_i hrise
            simp only [Option.some.injEq, Prod.mk.injEq] at h
            obtain ⟨rfl, rfl, rfl⟩ := h
            obtain ⟨k1, k2, k3, k4, k5, k6, k7⟩ := rdN_some u (rd_some f) (2 * n) (c + 1) r l c2 r2 (by omega) h2
            refine ⟨?_, ?_, by rw [dep]; omega, by rw [cnt]; omega, k6, ?_⟩
            · rw [hb, byt, k1, k2]; simp
            · rw [shp, k3, hrise]; simp [own]; omega
            · rw [n64]; exact ⟨by omega, k7⟩
          · cases h
      · cases h
theorem rdN_of {rdf : Nat → List UInt8 → Option (Itm × Nat × List UInt8)} : ∀ (l : List Itm) (c : Nat) (r : List UInt8), (∀ i ∈ l, ∀ c r, c + cnt i ≤ 4096 → rdf c (byt i ++ r) = some (i, c + cnt i, r)) → c + cnts l ≤ 4096 → rdN rdf l.length c ((byts l).flatten ++ r) = some (l, c + cnts l, r)
  | [], c, r, _, _ => by simp [rdN, byts, cnts]
  | i :: l, c, r, h, hc => by
    rw [cnts] at hc
    rw [List.length_cons, rdN, byts, List.flatten_cons, List.append_assoc, h i (by simp) c _ (by omega)]
    simp only
    rw [rdN_of l (c + cnt i) r (fun j hj => h j (by simp [hj])) (by omega)]
    simp only [cnts, Nat.add_assoc]
theorem len_byts : ∀ l : List Itm, l.length ≤ (byts l).flatten.length
  | [] => by simp
  | i :: l => by
    have h1 := byt_pos i
    have h2 := len_byts l
    rw [byts, List.flatten_cons, List.length_append, List.length_cons]; omega
theorem deps_mem : ∀ (l : List Itm) (i : Itm), i ∈ l → dep i ≤ deps l
  | [], _, h => by cases h
  | j :: l, i, h => by
    rw [deps]
    rcases List.mem_cons.1 h with rfl | h
    · omega
    · have := deps_mem l i h; omega
theorem shps_mem : ∀ (l : List Itm) (i : Itm), shps u l = true → i ∈ l → shp u i = true
  | [], _, _, h => by cases h
  | j :: l, i, hs, h => by
    rw [shps, Bool.and_eq_true] at hs
    rcases List.mem_cons.1 h with rfl | h
    · exact hs.1
    · exact shps_mem l i hs.2 h
theorem n64_mem : ∀ (l : List Itm) (i : Itm), n64s l → i ∈ l → n64 i
  | [], _, _, h => by cases h
  | j :: l, i, hs, h => by
    rw [n64s] at hs
    rcases List.mem_cons.1 h with rfl | h
    · exact hs.1
    · exact n64_mem l i hs.2 h
theorem byt_mem : ∀ (l : List Itm) (i : Itm), i ∈ l → (byt i).length ≤ (byts l).flatten.length
  | [], _, h => by cases h
  | j :: l, i, h => by
    rw [byts, List.flatten_cons, List.length_append]
    rcases List.mem_cons.1 h with rfl | h
    · omega
    · have := byt_mem l i h; omega
theorem rd_of : ∀ (f : Nat) (i : Itm) (c : Nat) (r : List UInt8), shp u i = true → dep i ≤ f → c + cnt i ≤ 4096 → (byt i).length ≤ 65536 → n64 i → rd u f c (byt i ++ r) = some (i, c + cnt i, r)
  | 0, i, c, r, _, hd', _, _, _ => by have := dep_pos i; omega
  | f + 1, .mk k n d l, c, r, hs, hdp, hc, hb, hn => by
    rw [shp, Bool.and_eq_true, Bool.and_eq_true] at hs
    obtain ⟨⟨ho, hr⟩, hsl⟩ := hs
    rw [dep] at hdp
    rw [cnt] at hc
    rw [n64] at hn
    obtain ⟨hn1, hn2⟩ := hn
    have hl : k = 4 ∨ k = 5 → ∀ i ∈ l, ∀ c r, c + cnt i ≤ 4096 → rd u f c (byt i ++ r) = some (i, c + cnt i, r) := fun hk i hi c r hc' => by
      have h1 := byt_mem l i hi
      have h2 : (byts l).flatten.length ≤ (byt (.mk k n d l)).length := by
        rcases hk with rfl | rfl <;> (rw [byt]; simp)
      exact rd_of f i c r (shps_mem u l i hsl hi) (by have := deps_mem l i hi; omega) hc' (by omega) (n64_mem l i hn2 hi)
    rcases own_kind u k n d l.length ho with rfl | rfl | rfl | rfl | rfl | rfl | rfl
    · obtain ⟨rfl, rfl⟩ : d = [] ∧ l = [] := by simp [own] at ho; exact ho
      rw [show byt (.mk 0 n [] []) = hd 0 n by rw [byt]; simp, rd, rdHead_hd 0 n (by omega) hn1]
      have ho' : own u ((0 : Nat) : Int) n [] 0 = true := ho
      simp only [cnt, cnts]
      rw [if_neg (by omega), if_pos (by simp)]
      rw [if_pos ho']
      simp
    · obtain ⟨rfl, rfl⟩ : d = [] ∧ l = [] := by simp [own] at ho; exact ho
      rw [show byt (.mk 1 n [] []) = hd 1 n by rw [byt]; simp, rd, rdHead_hd 1 n (by omega) hn1]
      have ho' : own u ((1 : Nat) : Int) n [] 0 = true := ho
      simp only [cnt, cnts]
      rw [if_neg (by omega), if_pos (by simp)]
      rw [if_pos ho']
      simp
    · obtain ⟨rfl, rfl⟩ : n = 0 ∧ l = [] := by simp [own] at ho; exact ho
      have e : byt (.mk 2 0 d []) = hd 2 d.length ++ d := by rw [byt]; simp
      rw [e, List.length_append] at hb
      rw [e, List.append_assoc, rd, rdHead_hd 2 d.length (by omega) (by omega)]
      have ho' : own u ((2 : Nat) : Int) 0 d 0 = true := ho
      simp only [cnt, cnts]
      rw [if_neg (by omega), if_neg (by omega), if_pos (by simp), if_pos (by simp), List.take_left', List.drop_left', if_pos ho'] <;> simp
    · obtain ⟨⟨rfl, rfl⟩, -⟩ : (n = 0 ∧ l = []) ∧ u d = true := by simp [own] at ho; exact ho
      have e : byt (.mk 3 0 d []) = hd 3 d.length ++ d := by rw [byt]; simp
      rw [e, List.length_append] at hb
      rw [e, List.append_assoc, rd, rdHead_hd 3 d.length (by omega) (by omega)]
      have ho' : own u ((3 : Nat) : Int) 0 d 0 = true := ho
      simp only [cnt, cnts]
      rw [if_neg (by omega), if_neg (by omega), if_pos (by simp), if_pos (by simp), List.take_left', List.drop_left', if_pos ho'] <;> simp
    · obtain ⟨rfl, rfl⟩ : n = 0 ∧ d = [] := by simp [own] at ho; exact ho
      have e : byt (.mk 4 0 [] l) = hd 4 l.length ++ (byts l).flatten := by rw [byt]; simp
      have h4 := len_byts l
      rw [e, List.length_append] at hb
      rw [e, List.append_assoc, rd, rdHead_hd 4 l.length (by omega) (by omega)]
      simp only [cnt]
      rw [if_neg (by omega), if_neg (by omega), if_neg (by omega), if_pos trivial, rdN_of l (c + 1) r (hl (Or.inl rfl)) (by omega)]
      simp only [Nat.add_assoc, Nat.add_comm 1]
    · obtain ⟨⟨rfl, rfl⟩, h2⟩ : (n = 0 ∧ d = []) ∧ l.length % 2 = 0 := by simp [own] at ho; exact ho
      have e : byt (.mk 5 0 [] l) = hd 5 (l.length / 2) ++ (byts l).flatten := by rw [byt]; simp
      have h4 := len_byts l
      rw [e, List.length_append] at hb
      rw [e, List.append_assoc, rd, rdHead_hd 5 (l.length / 2) (by omega) (by omega)]
      simp only [cnt]
      rw [if_neg (by omega), if_neg (by omega), if_neg (by omega), if_neg (by omega), if_pos trivial, show 2 * (l.length / 2) = l.length by omega, rdN_of l (c + 1) r (hl (Or.inr rfl)) (by omega)]
      have hr' : rise [] (byts l) = true := by simpa using hr
      simp only [hr', if_true, Nat.add_assoc, Nat.add_comm 1]
    · obtain ⟨⟨rfl, rfl⟩, -⟩ : (d = [] ∧ l = []) ∧ _ := by simp only [own] at ho; simpa using ho
      rw [show byt (.mk 7 n [] []) = hd 7 n by rw [byt]; simp, rd, rdHead_hd 7 n (by omega) hn1]
      have ho' : own u ((7 : Nat) : Int) n [] 0 = true := ho
      simp only [cnt, cnts]
      rw [if_neg (by omega), if_pos (by simp)]
      rw [if_pos ho']
      simp
end WI
end Go.Proofs.YtfkgfcggcfkkiaaDoor
namespace Go.Proofs.YtfkgfcggcfkkiaaDoor
namespace WI
section
variable {rdf : Nat → List UInt8 → Option (Itm × Nat × List UInt8)}
theorem rdN_len : ∀ (n c : Nat) (b : List UInt8) (l : List Itm) (c' : Nat) (b' : List UInt8), rdN rdf n c b = some (l, c', b') → l.length = n
  | 0, c, b, l, c', b', h => by
    simp only [rdN, Option.some.injEq, Prod.mk.injEq] at h
    rw [← h.1]; rfl
  | n + 1, c, b, l, c', b', h => by
    rw [rdN] at h
    cases h1 : rdf c b with
    | none => simp only [h1] at h; cases h
    | some x =>
      obtain ⟨i, c1, b1⟩ := x
      simp only [h1] at h
      cases h2 : rdN rdf n c1 b1 with
      | none => simp only [h2] at h; cases h
      | some y =>
        obtain ⟨l1, c2, b2⟩ := y
        simp only [h2, Option.some.injEq, Prod.mk.injEq] at h
        rw [← h.1, List.length_cons, rdN_len n c1 b1 l1 c2 b2 h2]
theorem rdN_add (m : Nat) : ∀ (n c : Nat) (b : List UInt8), rdN rdf (n + m) c b = match rdN rdf n c b with
    | none => none
    | some (l, c', b') => match rdN rdf m c' b' with
      | none => none
      | some (l2, c'', b'') => some (l ++ l2, c'', b'')
  | 0, c, b => by
    rw [Nat.zero_add, rdN]
    simp only
    cases rdN rdf m c b with
    | none => rfl
    | some x => rfl
  | n + 1, c, b => by
    rw [show n + 1 + m = n + m + 1 by omega, rdN, rdN]
    cases rdf c b with
    | none => rfl
    | some x =>
      obtain ⟨i, c1, b1⟩ := x
      simp only
      rw [rdN_add m n c1 b1]
      cases rdN rdf n c1 b1 with
      | none => rfl
      | some y =>
        obtain ⟨l1, c2, b2⟩ := y
        simp only
        cases rdN rdf m c2 b2 with
        | none => rfl
        | some z => rfl
theorem rdN_one (c : Nat) (b : List UInt8) : rdN rdf 1 c b = match rdf c b with
    | none => none
    | some (i, c', b') => some ([i], c', b') := by
  rw [rdN]
  cases rdf c b with
  | none => rfl
  | some x => rfl
theorem rdN_snoc_y {n c : Nat} {b : List UInt8} {l : List Itm} {c1 : Nat} {b1 : List UInt8} {i : Itm} {c2 : Nat} {b2 : List UInt8} (h : rdN rdf n c b = some (l, c1, b1)) (h2 : rdf c1 b1 = some (i, c2, b2)) : rdN rdf (n + 1) c b = some (l ++ [i], c2, b2) := by
  rw [rdN_add, h]; simp only; rw [rdN_one, h2]
theorem rdN_snoc_n {n c : Nat} {b : List UInt8} {l : List Itm} {c1 : Nat} {b1 : List UInt8} (h : rdN rdf n c b = some (l, c1, b1)) (h2 : rdf c1 b1 = none) (m : Nat) (hm : n < m) : rdN rdf m c b = none := by
  obtain ⟨k, rfl⟩ : ∃ k, m = n + 1 + k := ⟨m - (n + 1), by omega⟩
  rw [rdN_add, rdN_add, h]; simp only; rw [rdN_one, h2]
theorem rdN_pre {n c : Nat} {b : List UInt8} {l : List Itm} {c1 : Nat} {b1 : List UInt8} (h : rdN rdf n c b = some (l, c1, b1)) (m : Nat) (hm : n ≤ m) {L : List Itm} {c2 : Nat} {b2 : List UInt8} (h2 : rdN rdf m c b = some (L, c2, b2)) : ∃ l2, L = l ++ l2 := by
  obtain ⟨k, rfl⟩ : ∃ k, m = n + k := ⟨m - n, by omega⟩
  rw [rdN_add, h] at h2
  simp only at h2
  cases h3 : rdN rdf k c1 b1 with
  | none => simp only [h3] at h2; cases h2
  | some x =>
    obtain ⟨l2, c3, b3⟩ := x
    simp only [h3, Option.some.injEq, Prod.mk.injEq] at h2
    exact ⟨l2, h2.1.symm⟩
variable (rdf)
/-- So many pairs are read; the keys rise. -/
def rdP (n c : Nat) (b : List UInt8) : Option (List Itm × Nat × List UInt8) := match rdN rdf (2 * n) c b with
  | none => none
  | some (l, c', r) => if rise [] (byts l) then some (l, c', r) else none
end
section
variable (u : List UInt8 → Bool)
/-- What lies behind a head is read. -/
def pay (f k n c : Nat) (r : List UInt8) : Option (Nat × List UInt8 × List Itm × Nat × List UInt8) :=
  if k = 0 ∨ k = 1 ∨ k = 7 then some (n, [], [], c, r)
  else if k = 2 ∨ k = 3 then (if n ≤ r.length then some (0, r.take n, [], c, r.drop n) else none)
  else if k = 4 then (match rdN (rd u f) n c r with
    | none => none
    | some (l, c', r') => some (0, [], l, c', r'))
  else if k = 5 then (match rdP (rd u f) n c r with
    | none => none
    | some (l, c', r') => some (0, [], l, c', r'))
  else none
theorem rd_pay (f c : Nat) (b : List UInt8) (k n : Nat) (r : List UInt8) (h : rdHead b = some (k, n, r)) : rd u (f + 1) c b = if 4096 < c + 1 then none else match pay u f k n (c + 1) r with
    | none => none
    | some (nn, dd, l, c', r') => if own u k nn dd l.length then some (.mk k nn dd l, c', r') else none := by
  rw [rd, h]
  simp only
  by_cases h0 : 4096 < c + 1
  · rw [if_pos h0, if_pos h0]
  rw [if_neg h0, if_neg h0, pay]
  by_cases h1 : k = 0 ∨ k = 1 ∨ k = 7
  · rw [if_pos h1, if_pos h1]; rfl
  rw [if_neg h1, if_neg h1]
  by_cases h2 : k = 2 ∨ k = 3
  · rw [if_pos h2, if_pos h2]
    by_cases h3 : n ≤ r.length
    · rw [if_pos h3, if_pos h3]; rfl
    · rw [if_neg h3, if_neg h3]
  rw [if_neg h2, if_neg h2]
  by_cases h4 : k = 4
  · subst h4
    rw [if_pos rfl, if_pos rfl]
    cases rdN (rd u f) n (c + 1) r with
    | none => rfl
    | some x =>
      obtain ⟨l, c', r'⟩ := x
      simp only
      rw [if_pos (by simp [own])]
      rfl
  rw [if_neg h4, if_neg h4]
  by_cases h5 : k = 5
  · subst h5
    rw [if_pos rfl, if_pos rfl, rdP]
    cases hx : rdN (rd u f) (2 * n) (c + 1) r with
    | none => rfl
    | some x =>
      obtain ⟨l, c', r'⟩ := x
      have hl := rdN_len _ _ _ _ _ _ hx
      simp only
      by_cases h6 : rise [] (byts l) = true
      · rw [if_pos h6, if_pos h6]
        simp only
        rw [if_pos (by simp [own, hl])]
        rfl
      · rw [if_neg h6, if_neg h6]
  rw [if_neg h5, if_neg h5]
theorem rd_no (f c : Nat) (b : List UInt8) (h : rdHead b = none) : rd u f c b = none := by
  cases f with
  | zero => rfl
  | succ f => rw [rd, h]
end
end WI
end Go.Proofs.YtfkgfcggcfkkiaaDoor
namespace Go.Proofs.YtfkgfcggcfkkiaaDoor
open Go.RowKit Go.Sort Go.Deep
namespace WI
theorem PBq.pb {w : World} {R : Nat} {q : Option Addr} {m c : Nat} {x : List UInt8} (h : PBq w R q m c x) : PB w (.slice q m c) x := by
  obtain ⟨rfl, h2, ⟨rfl, rfl⟩ | ⟨b, o, rfl, -, -, h3⟩⟩ := h
  · exact ⟨none, 0, rfl, Or.inl (List.length_eq_zero_iff.1 (by omega))⟩
  · exact ⟨_, c, rfl, Or.inr ⟨b, o, rfl, h3⟩⟩
theorem PBq.at {w w' : World} {R : Nat} {q : Option Addr} {m c : Nat} {x : List UInt8} (h : PBq w R q m c x) (hF : FrX (· = R) w w') : PBq w' R q m c x := by
  obtain ⟨h1, h2, h3 | ⟨b, o, h3, h4, h5, h6⟩⟩ := h
  · exact ⟨h1, h2, Or.inl h3⟩
  · refine ⟨h1, h2, Or.inr ⟨b, o, h3, h4, Nat.lt_of_lt_of_le h5 hF.size, fun j u hj => ?_⟩⟩
    rw [World.cell?_of_block (a := ⟨b, o + j, none⟩) (hF.block b h5 (Nat.ne_of_lt h4))]; exact h6 j u hj
theorem nil_tX (w : World) : (binOp .eql 22 (.slice none 0 0) (.slice none 0 0)).run Tryd.prog w = .ok (.bool true) w := by kernel_rfl
theorem nil_fX (a : Addr) (n c : Nat) (w : World) : (binOp .eql 22 (.slice (some a) n c) (.slice none 0 0)).run Tryd.prog w = .ok (.bool false) w := by kernel_rfl
theorem own_newX {w : World} (e : TypeId) (size : Nat) : (w.alloc (.cells #[] e)).ownsRow w.heap.size e size (.slice (some ⟨w.heap.size, 0, none⟩) 0 0) 0 [] := ⟨by rw [Nat.zero_mul]; rfl, .inr ⟨w.heap.size, 0, #[], rfl, Nat.le_refl _, Array.getElem?_push_size, Nat.le_refl _, Nat.zero_le _, by rw [Nat.zero_mul]; rfl, by simp⟩⟩
theorem below_grown {B : Nat} {w w1 w2 : World} {row : Option Nat} (h : Below B w w1) (hg : w1.grownBy w2 row) (hB : B ≤ w1.heap.size) (hr : ∀ k, row = some k → B ≤ k) : Below B w w2 :=
  ⟨hg.os.trans h.os, hg.tape.trans h.tape, hg.output.trans h.output, Nat.le_trans h.size hg.size, fun k hk => by
    rw [hg.block k (by omega) (fun e => by have := hr k e.symm; omega)]
    exact h.block k hk⟩
set_option maxHeartbeats 1000000 in
theorem cloneX_c (q : Option Addr) (m c R : Nat) (x : List UInt8) (hx : x.length ≤ 100000000) (w : World) (h : PBq w R q m c x) :
    Calls Tryd.prog 88 #[.slice q m c] w (RetW fun e w' => Below w.heap.size w w' ∧ ∃ q' c', e = .slice q' x.length c' ∧ w'.ownsRow w.heap.size 5 1 e x.length (Lib.byteCells x)) := by
  have hP := h.pb
  obtain ⟨rfl, h2, ⟨rfl, rfl⟩ | ⟨b, o, rfl, -, -, h3⟩⟩ := h
  · obtain rfl : x = [] := List.length_eq_zero_iff.1 (by omega)
    have hn := nil_tX
    show Calls _ _ #[.slice none 0 0] _ _
    go_enter Tryd.func88, Tryd.ntmps88
    go_wp2
    go_ret
    exact ⟨_, rfl, Below.refl _ _, none, 0, rfl, World.ownsRow_nil _ _ _ _⟩
  · have hb0 : Below w.heap.size w (w.alloc (.cells #[] 5)) := alloc_below _ _
    obtain ⟨q', n', c', W', r1, r2, r3, r4, r5⟩ := own_appW (xs := []) (own_newX (w := w) 5 1) (hP.below hb0) (Or.inl (by simp [Value.ownBlock])) (by simpa using (by omega : x.length ≤ 1000000000)) hb0.size
    rw [List.nil_append] at r2
    have K : Hid (Below w.heap.size w W' ∧ ∃ q1 c1, Value.slice q' n' c' = .slice q1 x.length c1 ∧ W'.ownsRow w.heap.size 5 1 (.slice q' n' c') x.length (Lib.byteCells x)) := ⟨below_grown hb0 r3 hb0.size (fun k hk => by
      have : k = w.heap.size := by simpa [Value.ownBlock] using hk.symm
      omega), by
        obtain ⟨q1, c1, e⟩ := slice_own r2
        exact ⟨q1, c1, e, r2⟩⟩
    have HAP := hidW r1
    clear r1 r2 r3 r4 r5 hb0 hP h3 h2
    have hn := nil_fX ⟨b, o, none⟩ x.length c
    go_enter Tryd.func88, Tryd.ntmps88
    go_wp2_with (at_builtin; refine Lib.wpList_append_run _ rfl _ _ _ _ rfl _ _ rfl rfl _ _ HAP.out ?_)
    go_ret
    exact ⟨_, rfl, K.out.1, K.out.2⟩
theorem own_pbb {base : Nat} {w : World} {v : Value} {x : List UInt8} (h : w.ownsRow base 5 1 v x.length (Lib.byteCells x)) (W : World) (hW : ∀ k, base ≤ k → k < w.heap.size → W.heap[k]? = w.heap[k]?) : PBb W w.heap.size v x := by
  have hp := own_pb h
  rcases id h with ⟨-, ⟨rfl, h0⟩ | ⟨g, cap, cur, rfl, g1, g2, g3, g4⟩⟩
  · obtain rfl := List.length_eq_zero_iff.1 h0
    exact ⟨none, 0, rfl, Nat.le_refl _, Or.inl rfl⟩
  · have hlt := (Array.getElem?_eq_some_iff.1 g2).1
    refine ⟨_, cap, rfl, g3, Or.inr ⟨g, 0, rfl, hlt, fun j u hj => ?_⟩⟩
    rw [World.cell?_of_block (a := ⟨g, 0 + j, none⟩) (hW g g1 hlt)]
    obtain ⟨q, c, he, h1 | ⟨b, o, h1, h2⟩⟩ := hp
    · subst h1; cases hj
    · injection he with e1 _ _
      rw [h1] at e1
      injection Option.some.inj e1 with e2 e3 _
      subst e2 e3
      exact h2 j u hj
/-- What a kind's read does. -/
def RkR (w : World) (R h d : Nat) (rr : Option (Nat × List UInt8 × List Itm × Nat × List UInt8)) (e : Ending) (w' : World) : Prop := FrX (· = R) w w' ∧ ((∃ nn dd l n' r q' c' qd cd ql cl, rr = some (nn, dd, l, n', r) ∧ e = .returned (itv 0 nn qd dd.length cd ql l.length cl) ∧ RowS w' R (wkc h d n' (.slice q' r.length c')) ∧ PBq w' R q' r.length c' r ∧ ∀ k, IMQ w.heap.size w' (.mk k nn dd l) (.slice qd dd.length cd) (.slice ql l.length cl)) ∨ (rr = none ∧ e = thrown))
end WI
end Go.Proofs.YtfkgfcggcfkkiaaDoor
namespace Go.Proofs.YtfkgfcggcfkkiaaDoor
open Go.RowKit Go.Sort Go.Deep
namespace WI
theorem sc_below (g : Nat) (vs : List Value) (w : World) : Below g w (w.setCells g 0 vs) := RG.below_setCells (Nat.le_refl _) vs 0 w (Below.refl _ _)
theorem PBq.sc {w : World} {R : Nat} {q : Option Addr} {m c : Nat} {x : List UInt8} (h : PBq w R q m c x) {g : Nat} (hg : R ≤ g) (vs : List Value) : PBq (w.setCells g 0 vs) R q m c x := by
  obtain ⟨h1, h2, h3 | ⟨b, o, h3, h4, h5, h6⟩⟩ := h
  · exact ⟨h1, h2, Or.inl h3⟩
  · refine ⟨h1, h2, Or.inr ⟨b, o, h3, h4, Nat.lt_of_lt_of_le h5 (sc_below g vs w).size, fun j u hj => ?_⟩⟩
    rw [World.cell?_of_block (a := ⟨b, o + j, none⟩) (sc_other g b (by omega) vs 0 w)]
    exact h6 j u hj
theorem FrX.sc {X : Nat → Prop} {a w : World} (h : FrX X a w) {g : Nat} (hg : a.heap.size ≤ g) (vs : List Value) : FrX X a (w.setCells g 0 vs) := by
  have hb := sc_below g vs w
  exact ⟨hb.os.trans h.os, hb.tape.trans h.tape, hb.output.trans h.output, Nat.le_trans h.size hb.size, fun k hk hx => (hb.block k (by omega)).trans (h.block k hk hx)⟩
theorem RowS.sc {w : World} {k : Nat} {us : List Value} (h : RowS w k us) {g : Nat} (hg : k ≠ g) (vs : List Value) : RowS (w.setCells g 0 vs) k us := h.at (sc_below g vs w).size (sc_other g k hg vs 0 w)
theorem RowS.scs {w : World} {g : Nat} {us : List Value} (h : RowS w g us) (vs : List Value) (hl : vs.length = us.length) : RowS (w.setCells g 0 vs) g vs :=
  ⟨sc_lt _ _ _ h.1, World.rangeAt_setCells_same _ _ _ _ (by rw [hl]; exact h.2.2), World.there_setCells (by rw [hl]; exact h.2.2) _ _ _⟩
theorem IMQ.at {base : Nat} {w w' : World} {i : Itm} {vd vl : Value} (h : IMQ base w i vd vl) (hs : w.heap.size ≤ w'.heap.size) (hb : ∀ k, base ≤ k → k < w.heap.size → w'.heap[k]? = w.heap[k]?) : IMQ base w' i vd vl := fun W hW => InM.mono hs i _ _ (h W fun k h1 h2 => (hW k h1 (Nat.lt_of_lt_of_le h2 hs)).trans (hb k h1 h2))
theorem IMQ.dn {base base' : Nat} {w : World} {i : Itm} {vd vl : Value} (h : IMQ base w i vd vl) (hb : base' ≤ base) : IMQ base' w i vd vl := fun W hW => h W fun k h1 h2 => hW k (Nat.le_trans hb h1) h2
theorem imq_dat {base : Nat} {w : World} {v : Value} {x : List UInt8} (h : w.ownsRow base 5 1 v x.length (Lib.byteCells x)) (hx : x.length ≤ 4611686018427387904) (k : Int) : IMQ base w (.mk k 0 x []) v (.slice none 0 0) := fun W hW => by
  rw [InM]
  exact ⟨by decide, hx, by simp, own_pbb h W hW, none, 0, rfl, Or.inl rfl⟩
theorem itcv (T : TypeId) (k : Int) (n : Nat) (q : Option Addr) (a b : Nat) (q' : Option Addr) (a' b' : Nat) : (Value.agg #[.int .i64 k, .int .u64 (n : Int), .slice q a b, .slice q' a' b']) = itv k n q a b q' a' b' := rfl
set_option maxHeartbeats 1000000 in
set_option maxRecDepth 20000 in
/-- Data is read. -/
theorem rDat_c (w : World) (R h d n : Nat) (q : Option Addr) (m c : Nat) (x : List UInt8) (k : Nat) (hk : k < 18446744073709551616) (hm : m ≤ 65536) (hR : RowS w R (wkc h d n (.slice q m c))) (hP : PBq w R q m c x) (rr : Option (Nat × List UInt8 × List Itm × Nat × List UInt8)) (hrr : Hid (rr = if k ≤ x.length then some (0, x.take k, [], n, x.drop k) else none)) :
    Calls Tryd.prog 87 #[.pointer (some ⟨R, 0, none⟩), .int .u64 (k : Int)] w (RkR w R h d rr) := by
  obtain ⟨wb, hwb⟩ : ∃ wb, Hid (w.alloc (.cells #[.int .i64 0, .int .u64 0, .slice none 0 0, .slice none 0 0] 27) = wb) := ⟨_, rfl⟩
  have hRr : Hid (RowS wb w.heap.size [.int .i64 0, .int .u64 0, .slice none 0 0, .slice none 0 0]) := by rw [← hwb.out]; exact zrow w
  have hB : Hid (Below w.heap.size w wb) := by rw [← hwb.out]; exact alloc_below _ _
  have hml := hP.1
  have hRw := hidW hR.1
  have hc := rbytes_c wb R h d n q m c x k hk (by omega) (hR.below hB.out) (hP.at (FrX.of hB.out))
  clear hR hP
  go_enter Tryd.func87, Tryd.ntmps87
  go_upto_region 1 with fail
  rw [hwb.out]
  go_wp2_with fail
  refine hc.mono ?_
  rintro e w1 (⟨hkx, q', rfl, hw1, hR1, p1, p2⟩ | ⟨hkx, rfl, rfl⟩)
  · have hlen : (x.take k).length = k := by rw [List.length_take]; omega
    have hlen2 : (x.drop k).length = m - k := by rw [List.length_drop]; omega
    have hcl := cloneX_c q k c R (x.take k) (by rw [hlen]; omega) w1 p1
    rw [hlen] at hcl
    have hF1 : Hid (FrX (· = R) wb w1) := by
      rw [hw1]
      exact (FrX.refl (· = R) wb).setCell (a := ⟨R, 3, none⟩) (Or.inl rfl) _
    have K1 := hidW (And.intro hR1 p2)
    clear hw1 hR1 p1 p2 hc
    go_wp2_with fail
    refine hcl.mono ?_
    rintro e w2 ⟨v2, rfl, hb2, qd, cd, rfl, how⟩
    have hRr2 : Hid (RowS w2 w.heap.size [.int .i64 0, .int .u64 0, .slice none 0 0, .slice none 0 0]) := (hRr.out.at hF1.out.size (hF1.out.block _ hRr.out.1 (fun e => by have := hRw.out; omega))).below hb2
    obtain ⟨w3, hw3⟩ : ∃ w3, Hid (w2.setCells w.heap.size 0 [.int .i64 0, .int .u64 0, .slice qd k cd, .slice none 0 0] = w3) := ⟨_, rfl⟩
    have K3 : Hid (RowS w3 w.heap.size [.int .i64 0, .int .u64 0, .slice qd k cd, .slice none 0 0] ∧ RkR w R h d rr (.returned (itv 0 0 qd k cd none 0 0)) w3) := by
      have hs1 : w.heap.size < w1.heap.size := Nat.lt_of_lt_of_le hRr.out.1 hF1.out.size
      rw [← hw3.out]
      refine ⟨hRr2.out.scs _ rfl, ?_, Or.inl ⟨0, x.take k, [], n, x.drop k, q', c - k, qd, cd, none, 0, by rw [hrr.out, if_pos hkx], by rw [hlen]; rfl, ?_, ?_, fun k' => ?_⟩⟩
      · exact (((FrX.of (X := (· = R)) hB.out).trans hF1.out (fun _ hk => Or.inl hk)).belowTo hb2).sc (Nat.le_refl _) _
      · rw [hlen2]
        exact (K1.out.1.below hb2).sc (by have := hRw.out; omega) _
      · rw [hlen2]
        exact (K1.out.2.at (FrX.of hb2)).sc (by have := hRw.out; omega) _
      · rw [hlen]
        have hq := imq_dat (base := w1.heap.size) (v := .slice qd k cd) (x := x.take k) (by rw [hlen]; exact how) (by rw [hlen]; omega) k'
        refine (hq.at (sc_below _ _ _).size (fun g h1 h2 => ?_)).dn (by omega)
        exact sc_other _ _ (by omega) _ _ _
    clear hb2 how hcl K1 hF1
    go_wp2_with (first | (refine wpList_store_mid rfl 27 _ _ rfl w.heap.size 0 #[.int .i64 0, .int .u64 0, .slice qd k cd, .slice none 0 0] ?_ ?_ ?_ ?_ ?_ ?_; rfl; rfl; exact hRr2.out.2.2; exact isz27; exact four_one _ 0 _ _ _ _ _ _; (show wpList _ _ _ _ _ (w2.setCells w.heap.size 0 [.int .i64 0, .int .u64 0, .slice qd k cd, .slice none 0 0])); rw [hw3.out]))
    refine bodyPost_ret (results_cellI 4 27 rfl K3.out.1 rfl urw27 isz27) rfl ?_
    exact K3.out.2
  · have KR : Hid (RkR w R h d rr thrown w1) := ⟨FrX.of hB.out, Or.inr ⟨by rw [hrr.out, if_neg hkx], rfl⟩⟩
    clear hc
    simp only [thrown, Exit.inBlock, Exit.then, bodyPost]
    exact ⟨trivial, KR.out⟩
end WI
end Go.Proofs.YtfkgfcggcfkkiaaDoor
namespace Go.Proofs.YtfkgfcggcfkkiaaDoor
open Go.RowKit Go.Sort Go.Deep
namespace WI
variable {T : World → Prop} {u : List UInt8 → Bool}
/-- How a reader stands. -/
structure RSt (T : World → Prop) (w : World) (R h d n : Nat) (q : Option Addr) (m c : Nat) (x : List UInt8) : Prop where
  ks : KS w h
  row : RowS w R (wkc h d n (.slice q m c))
  rest : PBq w R q m c x
  tb : T w
  sep : ¬ (h ≤ R ∧ R < h + 19)
  r2 : 2 ≤ R
  hd : d ≤ 16
  hn : n ≤ 4096
  hm : m ≤ 65536
theorem RSt.next (hU : UV T u) {w w' : World} {R h d n d' n' : Nat} {q q' : Option Addr} {m c m' c' : Nat} {x x' : List UInt8} (S : RSt T w R h d n q m c x) (hF : FrX (· = R) w w') (hr : RowS w' R (wkc h d' n' (.slice q' m' c'))) (hp : PBq w' R q' m' c' x') (hd : d' ≤ 16) (hn : n' ≤ 4096) (hm : m' ≤ 65536) : RSt T w' R h d' n' q' m' c' x' := by
  have h18 := S.ks.lt
  have h2 := hU.2.1 w S.tb
  refine ⟨S.ks.at hF.size (fun k h1 h2 => hF.block k (by omega) (fun e => S.sep (by subst e; exact ⟨h1, h2⟩))), hr, hp, hU.1 w w' S.tb (fun k hk => hF.block k (by omega) (fun e => by have := S.r2; omega)), S.sep, S.r2, hd, hn, hm⟩
theorem RSt.below (hU : UV T u) {w w' : World} {R h d n : Nat} {q : Option Addr} {m c : Nat} {x : List UInt8} (S : RSt T w R h d n q m c x) (hb : Below w.heap.size w w') : RSt T w' R h d n q m c x := S.next hU (FrX.of hb) (S.row.below hb) (S.rest.at (FrX.of hb)) S.hd S.hn S.hm
/-- What item does. -/
def RtR (u : List UInt8 → Bool) (f : Nat) (w : World) (R h d n : Nat) (x : List UInt8) (e : Ending) (w' : World) : Prop := FrX (· = R) w w' ∧ ((∃ i n' r q' c' qd dl cd ql ml cl, rd u f n x = some (i, n', r) ∧ e = .returned (itv i.k i.n qd dl cd ql ml cl) ∧ IMQ w.heap.size w' i (.slice qd dl cd) (.slice ql ml cl) ∧ RowS w' R (wkc h d n' (.slice q' r.length c')) ∧ PBq w' R q' r.length c' r) ∨ (rd u f n x = none ∧ e = thrown))
def RSp (T : World → Prop) (u : List UInt8 → Bool) (f : Nat) : Prop := ∀ (w : World) (R h d n : Nat) (q : Option Addr) (m c : Nat) (x : List UInt8), RSt T w R h d n q m c x → d + f = 16 → Calls Tryd.prog 42 #[.pointer (some ⟨R, 0, none⟩)] w (RtR u f w R h d n x)
/-- What items and pairs do. -/
def RlR (w : World) (R h d : Nat) (rl : Option (List Itm × Nat × List UInt8)) (e : Ending) (w' : World) : Prop := FrX (· = R) w w' ∧ ((∃ l n' r q' c' ql cl, rl = some (l, n', r) ∧ e = .returned (.slice ql l.length cl) ∧ RowS w' R (wkc h d n' (.slice q' r.length c')) ∧ PBq w' R q' r.length c' r ∧ ∀ k, IMQ w.heap.size w' (.mk k 0 [] l) (.slice none 0 0) (.slice ql l.length cl)) ∨ (rl = none ∧ e = thrown))
/-- What the loop of items keeps. -/
structure LrI (u : List UInt8 → Bool) (f : Nat) (w : World) (R h d n : Nat) (x : List UInt8) (j : Nat) (v : Value) (l : List Itm) (n' : Nat) (r : List UInt8) (q' : Option Addr) (c' : Nat) (cs : List Value) (w' : World) : Prop where
  fr : FrX (· = R) w w'
  rd : rdN (rd u f) j n x = some (l, n', r)
  row : RowS w' R (wkc h d n' (.slice q' r.length c'))
  rest : PBq w' R q' r.length c' r
  own : w'.ownsRow w.heap.size 27 4 v j cs
  ic : ∀ W : World, (∀ k, w.heap.size ≤ k → k < w'.heap.size → v.ownBlock ≠ some k → W.heap[k]? = w'.heap[k]?) → IC W w'.heap.size l cs
theorem len_cnts : ∀ l : List Itm, l.length ≤ cnts l
  | [] => by simp
  | i :: l => by
    have h1 := cnt_pos i
    have h2 := len_cnts l
    rw [cnts, List.length_cons]; omega
theorem LrI.bnd {f : Nat} {w : World} {R h d n : Nat} {x : List UInt8} {j : Nat} {v : Value} {l : List Itm} {n' : Nat} {r : List UInt8} {q' : Option Addr} {c' : Nat} {cs : List Value} {w' : World} (L : LrI u f w R h d n x j v l n' r q' c' cs w') (hn : n ≤ 4096) (hx : x.length ≤ 65536) : n' ≤ 4096 ∧ r.length ≤ 65536 ∧ l.length = j ∧ j ≤ 4096 ∧ x = (byts l).flatten ++ r := by
  obtain ⟨h1, h2, h3, h4, h5, h6, h7⟩ := rdN_some u (fun c b i c' b' h => rd_some u f c b i c' b' h) j n x l n' r hn L.rd
  have := len_cnts l
  refine ⟨h6, ?_, h2, by omega, h1⟩
  have := congrArg List.length h1
  rw [List.length_append] at this
  omega
theorem LrI.st (hU : UV T u) {f : Nat} {w : World} {R h d n : Nat} {q : Option Addr} {m c : Nat} {x : List UInt8} {j : Nat} {v : Value} {l : List Itm} {n' : Nat} {r : List UInt8} {q' : Option Addr} {c' : Nat} {cs : List Value} {w' : World} (S : RSt T w R h d n q m c x) (L : LrI u f w R h d n x j v l n' r q' c' cs w') : RSt T w' R h d n' q' r.length c' r := by
  have hb := L.bnd S.hn (by have h1 := S.hm; rw [S.rest.1] at h1; exact h1)
  exact S.next hU L.fr L.row L.rest S.hd hb.1 hb.2.1
/-- The cells of an item's value. -/
def itc (i : Itm) (vd vl : Value) : List Value := [.int .i64 i.k, .int .u64 (i.n : Int), vd, vl]
/-- One item more. -/
theorem LrI.add {f : Nat} {w w1 w2 : World} {R h d n : Nat} {x : List UInt8} {j : Nat} {v : Value} {l : List Itm} {n1 : Nat} {r1 : List UInt8} {q1 : Option Addr} {c1 : Nat} {cs : List Value} {i : Itm} {n2 : Nat} {r2 : List UInt8} {q2 : Option Addr} {c2 : Nat} {vd vl : Value} (hR : R < w.heap.size) (hn : n ≤ 4096) (hx : x.length ≤ 65536) (L : LrI u f w R h d n x j v l n1 r1 q1 c1 cs w1) (hF : FrX (· = R) w1 w2) (hrd : WI.rd u f n1 r1 = some (i, n2, r2)) (hI : IMQ w1.heap.size w2 i vd vl) (hrow : RowS w2 R (wkc h d n2 (.slice q2 r2.length c2))) (hrest : PBq w2 R q2 r2.length c2 r2) :
    ∃ v' W', (Builtin.append_ #[25, 25] 25 #[v, .slice (some ⟨w2.heap.size, 0, none⟩) 1 1]).run Tryd.prog (w2.alloc (.cells (itc i vd vl).toArray 27)) = .ok v' W' ∧ LrI u f w R h d n x (j + 1) v' (l ++ [i]) n2 r2 q2 c2 (cs ++ itc i vd vl) W' := by
  obtain ⟨-, -, hlj, hj, -⟩ := L.bnd hn hx
  obtain ⟨ii, hi, he⟩ := Option.map_eq_some_iff.1 infoI
  simp only [Prod.mk.injEq] at he
  obtain ⟨g2, g3, g4⟩ := he
  obtain ⟨z, hz, hz2⟩ := Option.map_eq_some_iff.1 g4
  obtain ⟨wa, hwa⟩ : ∃ wa, w2.alloc (.cells (itc i vd vl).toArray 27) = wa := ⟨_, rfl⟩
  have hsa : wa.heap.size = w2.heap.size + 1 := by rw [← hwa]; exact World.size_alloc _ _
  have hba : Below w2.heap.size w2 wa := by rw [← hwa]; exact alloc_below _ _
  have hca : ∀ j u, (itc i vd vl)[j]? = some u → wa.cell? ⟨w2.heap.size, 0 + j, none⟩ = some u := fun j u hj => by
    rw [← hwa]; exact al_r w2 _ _ _ rfl j u hj
  have hIM := hI w2 (fun _ _ _ => rfl)
  obtain ⟨qd, dl, cd, ql, ml, cl, rfl, rfl⟩ := hIM.form
  have hone : ∀ u ∈ itc i (.slice qd dl cd) (.slice ql ml cl), u.oneCell' = true := fun u hu => by
    simp only [itc, List.mem_cons, List.not_mem_nil, or_false] at hu
    rcases hu with rfl | rfl | rfl | rfl <;> rfl
  have hvw : ∀ g, v.ownBlock = some g → w.heap.size ≤ g ∧ g < w1.heap.size := fun g hg => by
    exact ⟨(L.own.lt g hg).1, (L.own.lt g hg).2⟩
  have hR1 : R < w1.heap.size := Nat.lt_of_lt_of_le hR L.fr.size
  have hown : wa.ownsRow w.heap.size 27 4 v j cs := own_at L.own (fun k hk => by
    have := hvw k hk
    rw [hba.block k (Nat.lt_of_lt_of_le this.2 hF.size), hF.block k this.2 (by omega)])
  rw [hwa]
  obtain ⟨v', W', a1, a2, a3⟩ := it_app (base := w.heap.size) (W := wa) (v := v) (n := j) (m := 1) (c := 1) (q := some ⟨w2.heap.size, 0, none⟩) hown (by rfl : (itc i (.slice qd dl cd) (.slice ql ml cl)).length = 1 * 4) (Or.inr ⟨_, _, rfl, hca⟩) hone (by omega) (by have := L.fr.size; have := hF.size; omega)
  have hsrc : Src Tryd.prog 4 25 (.slice (some ⟨w2.heap.size, 0, none⟩) 1 1) 1 (itc i (.slice qd dl cd) (.slice ql ml cl)) wa := Src.ofSlice (e' := 27) _ undI ⟨w2.heap.size, 0, none⟩ 1 1 _ (by rfl) (fun j u hj => by rw [addS0]; exact hca j u hj) hone
  have hwh := own_block undI hi hz g2 (by rw [g3]; decide) hown hsrc (by omega) a1
  have hv'w : ∀ g, v'.ownBlock = some g → w.heap.size ≤ g ∧ g < W'.heap.size := fun g hg => ⟨(a2.lt g hg).1, (a2.lt g hg).2⟩
  -- what W' keeps
  have hk1 : ∀ k, k < w.heap.size → W'.heap[k]? = wa.heap[k]? := fun k hk => a3.block k (by have := L.fr.size; have := hF.size; omega) (fun e => by have := hvw k e.symm; omega)
  have hk2 : ∀ k, w1.heap.size ≤ k → k < w2.heap.size → W'.heap[k]? = w2.heap[k]? ∧ v'.ownBlock ≠ some k := fun k h1 h2 => by
    refine ⟨?_, ?_⟩
    · rw [a3.block k (by omega) (fun e => by have := hvw k e.symm; omega), hba.block k h2]
    · rcases hwh with e | ⟨e, -⟩
      · rw [e]; intro h'; have := hvw k h'; omega
      · rw [e]; intro h'; have := Option.some.inj h'; omega
  have hk3 : ∀ k, w.heap.size ≤ k → k < w1.heap.size → v.ownBlock ≠ some k → W'.heap[k]? = w1.heap[k]? ∧ v'.ownBlock ≠ some k := fun k h1 h2 h3 => by
    have hs := hF.size
    refine ⟨?_, ?_⟩
    · rw [a3.block k (by omega) (fun e => h3 e.symm), hba.block k (by omega), hF.block k h2 (by omega)]
    · rcases hwh with e | ⟨e, -⟩
      · rw [e]; exact h3
      · rw [e]; intro h'; have := Option.some.inj h'; omega
  have hsW : w2.heap.size ≤ W'.heap.size := Nat.le_trans hba.size a3.size
  have hF2 : FrX (· = R) w W' := by
    have h1 := L.fr.trans hF (fun _ hk => Or.inl hk)
    refine ⟨a3.os.trans (hba.os.trans h1.os), a3.tape.trans (hba.tape.trans h1.tape), a3.output.trans (hba.output.trans h1.output), Nat.le_trans h1.size hsW, fun k hk hx => ?_⟩
    rw [hk1 k hk, hba.block k (Nat.lt_of_lt_of_le hk h1.size)]
    exact h1.block k hk hx
  have hRb : W'.heap[R]? = w2.heap[R]? := by rw [hk1 R hR, hba.block R (Nat.lt_of_lt_of_le hR1 hF.size)]
  refine ⟨v', W', a1, hF2, rdN_snoc_y L.rd hrd, hrow.at hsW hRb, ?_, a2, fun W hW => ?_⟩
  · obtain ⟨p1, p2, p3 | ⟨b, o, p3, p4, p5, p6⟩⟩ := hrest
    · exact ⟨p1, p2, Or.inl p3⟩
    · refine ⟨p1, p2, Or.inr ⟨b, o, p3, p4, by omega, fun t y ht => ?_⟩⟩
      rw [World.cell?_of_block (a := ⟨b, o + t, none⟩) (hk1 b (by omega)), hba.cell (p := ⟨b, o + t, none⟩) p5]
      exact p6 t y ht
  · refine IC.app (l := l) (m := [i]) ?_ ?_
    · rw [IC]
      refine ⟨_, _, [], rfl, ?_, by rw [IC]⟩
      exact InM.mono hsW i _ _ (hI W fun k h1 h2 => by
        obtain ⟨e1, e2⟩ := hk2 k h1 h2
        rw [hW k (by have := L.fr.size; omega) (by omega) e2, e1])
    · exact IC.mono (Nat.le_trans hF.size hsW) (L.ic W fun k h1 h2 h3 => by
        obtain ⟨e1, e2⟩ := hk3 k h1 h2 h3
        rw [hW k h1 (by have := hF.size; omega) e2, e1])
end WI
end Go.Proofs.YtfkgfcggcfkkiaaDoor
namespace Go.Proofs.YtfkgfcggcfkkiaaDoor
open Go.RowKit Go.Sort Go.Deep
namespace WI
variable {T : World → Prop} {u : List UInt8 → Bool}
theorem LrI.start {f : Nat} {w : World} {R h d n : Nat} {q : Option Addr} {m c : Nat} {x : List UInt8} (S : RSt T w R h d n q m c x) : LrI u f w R h d n x 0 (.slice none 0 0) [] n x q c [] w := by
  have hr := S.row
  have hp := S.rest
  have hm := hp.1
  rw [hm] at hr hp
  exact ⟨FrX.refl _ _, rfl, hr, hp, World.ownsRow_nil _ _ _ _, fun W hW => by rw [IC]⟩
/-- What was read, as it is given back. -/
theorem LrI.fin {f : Nat} {w : World} {R h d n : Nat} {x : List UInt8} {j : Nat} {v : Value} {l : List Itm} {n' : Nat} {r : List UInt8} {q' : Option Addr} {c' : Nat} {cs : List Value} {w' : World} (L : LrI u f w R h d n x j v l n' r q' c' cs w') (hn : n ≤ 4096) (hx : x.length ≤ 65536) {rl : Option (List Itm × Nat × List UInt8)} (hrl : rl = some (l, n', r)) : RlR w R h d rl (.returned v) w' := by
  obtain ⟨-, -, hlj, hj, -⟩ := L.bnd hn hx
  refine ⟨L.fr, Or.inl ?_⟩
  rcases own_cells L.own with ⟨h0, hv, hc⟩ | ⟨g, cap, hv, h2, h3, h4, h5, h6⟩
  · subst hv
    refine ⟨l, n', r, q', c', none, 0, hrl, by rw [hlj, h0], L.row, L.rest, fun k W hW => ?_⟩
    rw [InM]
    exact ⟨by decide, by simp, by omega, ⟨none, 0, rfl, Nat.le_refl _, Or.inl rfl⟩, none, 0, rfl, Or.inl (List.length_eq_zero_iff.1 (by omega))⟩
  · subst hv
    refine ⟨l, n', r, q', c', some ⟨g, 0, none⟩, cap, hrl, by rw [hlj], L.row, L.rest, fun k W hW => ?_⟩
    rw [InM]
    refine ⟨by decide, by simp, by omega, ⟨none, 0, rfl, Nat.le_refl _, Or.inl rfl⟩, _, cap, rfl, Or.inr ⟨g, 0, rfl, h3, IC.inl 0 (L.ic W fun k h1 h2 _ => hW k h1 h2) fun t y ht => ?_⟩⟩
    rw [Nat.zero_add, World.cell?_of_block (a := ⟨g, t, none⟩) (hW g h2 h3)]
    exact h6 t y ht
set_option maxHeartbeats 1000000 in
set_option maxRecDepth 20000 in
theorem ritems_c (hU : UV T u) (f : Nat) (hI : RSp T u f) (w : World) (R h d n : Nat) (q : Option Addr) (m c : Nat) (x : List UInt8) (S : RSt T w R h d n q m c x) (hdf : d + f = 16) (N : Nat) (hN : N < 18446744073709551616) (rl : Option (List Itm × Nat × List UInt8)) (hrl : Hid (rl = rdN (rd u f) N n x)) :
    Calls Tryd.prog 65 #[.pointer (some ⟨R, 0, none⟩), .int .u64 (N : Int)] w (RlR w R h d rl) := by
  have H := hidW S
  have L0 := hidW (LrI.start (u := u) (f := f) S)
  have hx : Hid (x.length ≤ 65536) := by have h1 := S.hm; rw [S.rest.1] at h1; exact h1
  clear S
  go_enter Tryd.func65, Tryd.ntmps65
  go_wp2
  go_loopg [5, 7] (N + 1) (fun gk s5 s7 wr => ∃ j l n' r q' c' cs, s7 = .int .u64 ((j : Nat) : Int) ∧ gk = N + 1 - j ∧ j ≤ N ∧ LrI u f w R h d n x j s5 l n' r q' c' cs wr)
  case atStart => exact ⟨0, _, _, _, _, _, _, rfl, rfl, Nat.zero_le _, L0.out⟩
  case round =>
    rename_i v1 v2
    obtain ⟨j, l, n1, r1, q1, c1, cs, rfl, hg, hjN, L⟩ := hrel
    by_cases hj : j < N
    · have hjz : (j : Int) < (N : Int) := by omega
      have hjw : (j : Int) + 1 < 18446744073709551616 := by omega
      have hc := hI wr R h d n1 q1 r1.length c1 r1 (L.st hU H.out) hdf
      have HL := hidW L
      clear L
      go_wp2_with fail
      refine hc.mono ?_
      rintro e w2 ⟨hF, ⟨i, n2, r2, q2, c2, qd, dl, cd, ql, ml, cl, hrd, rfl, hIM, hrow, hrest⟩ | ⟨hrd, rfl⟩⟩
      · obtain ⟨v', W', ha, L2⟩ := HL.out.add H.out.row.1 H.out.hn hx.out hF hrd hIM hrow hrest
        have HAP : Hid ((Builtin.append_ #[25, 25] 25 #[_, .slice (some ⟨w2.heap.size, 0, none⟩) 1 1]).run Tryd.prog (w2.alloc (.cells #[.int .i64 i.k, .int .u64 (i.n : Int), .slice qd dl cd, .slice ql ml cl] 27)) = .ok v' W') := ha
        have L3 := hidW L2
        clear hF hrd hIM hrow hrest ha L2 hc HL
        unfold itv
        go_wp2_with (at_builtin; refine Lib.wpList_append_run _ rfl _ _ _ _ rfl _ _ rfl rfl _ _ HAP.out ?_)
        go_roundg (N + 1 - (j + 1))
        case measure => omega
        case rel => exact ⟨j + 1, _, _, _, _, _, _, rfl, rfl, by omega, L3.out⟩
      · have KR : Hid (RlR w R h d rl thrown w2) := ⟨HL.out.fr.trans hF (fun _ hk => Or.inl hk), Or.inr ⟨by rw [hrl.out, rdN_snoc_n HL.out.rd hrd N hj], rfl⟩⟩
        clear hF hrd hc HL
        simp only [thrown, Exit.inBlock, Exit.then, bodyPost]
        exact ⟨trivial, KR.out⟩
    · have hjz : ¬ (j : Int) < (N : Int) := by omega
      obtain rfl : j = N := by omega
      have KR := hidW (L.fin H.out.hn hx.out (hrl.out.trans L.rd))
      clear L
      go_wp2
      first | go_end0 | go_ret
      exact KR.out
end WI
end Go.Proofs.YtfkgfcggcfkkiaaDoor
namespace Go.Proofs.YtfkgfcggcfkkiaaDoor
open Go.RowKit Go.Sort Go.Deep
namespace WI
variable {T : World → Prop} {u : List UInt8 → Bool}
theorem nrow (w : World) (v : Value) : RowS (w.alloc (.cells #[v, v, v, v] 108)) w.heap.size [v, v, v, v] := by
  have e : (w.alloc (.cells #[v, v, v, v] 108)).heap[w.heap.size]? = some (.cells #[v, v, v, v] 108 (0, 0)) := Array.getElem?_push_size
  refine ⟨(Array.getElem?_eq_some_iff.1 e).1, al_r w _ _ _ rfl, fun k hk => ?_⟩
  unfold World.cell? World.frozen?
  simp only [e, Nat.zero_add]
  obtain rfl | rfl | rfl | rfl : k = 0 ∨ k = 1 ∨ k = 2 ∨ k = 3 := by simp only [List.length_cons, List.length_nil] at hk; omega
  all_goals exact ⟨rfl, rfl⟩
theorem fn_one (f1 f2 f3 f4 : FuncId) (q1 q2 q3 q4 : Array Value) : (#[Value.func (.func f1) #[] q1, .func (.func f2) #[] q2, .func (.func f3) #[] q3, .func (.func f4) #[] q4] : Array Value).all (·.oneCell') = true := by kernel_rfl
theorem iszK : (Tryd.prog.info? 108).map (·.size) = some 4 := by kernel_rfl
/-- The answer, out of what lay behind the head. -/
def fit (u : List UInt8 → Bool) (k : Nat) : Option (Nat × List UInt8 × List Itm × Nat × List UInt8) → Option (Itm × Nat × List UInt8)
  | none => none
  | some (nn, dd, l, c', r') => if own u k nn dd l.length then some (.mk k nn dd l, c', r') else none
theorem rdHead_len {x r : List UInt8} {k N : Nat} (h : rdHead x = some (k, N, r)) : r.length ≤ x.length ∧ k < 8 ∧ N < 18446744073709551616 := by
  obtain ⟨h1, h2, h3⟩ := rdHead_some x r k N h
  refine ⟨?_, h2, h3⟩
  rw [h1, List.length_append]; omega
theorem ritem_h (hU : UV T u) (F : Nat) (w : World) (R h d n : Nat) (q : Option Addr) (m c : Nat) (x : List UInt8) (S : RSt T w R h d n q m c x) (hh : rdHead x = none) : Calls Tryd.prog 42 #[.pointer (some ⟨R, 0, none⟩)] w (RtR u F w R h d n x) := by
  obtain ⟨w0, hw0⟩ : ∃ wb, Hid (w.alloc (.cells #[.int .i64 0, .int .u64 0, .slice none 0 0, .slice none 0 0] 27) = wb) := ⟨_, rfl⟩
  have hB0 : Hid (Below w.heap.size w w0) := by rw [← hw0.out]; exact alloc_below _ _
  have S0 := S.below hU hB0.out
  have hc := rdhead_c w0 R h d n q m c x (by have := S.hm; omega) S0.row S0.rest
  have KR : Hid (∀ w', FrX (· = R) w0 w' → RtR u F w R h d n x thrown w') := fun w' hF => ⟨(FrX.of (X := (· = R)) hB0.out).trans hF (fun _ hk => Or.inl hk), Or.inr ⟨rd_no u F n x hh, rfl⟩⟩
  clear S S0
  go_enter Tryd.func42, Tryd.ntmps42
  go_upto_region 1 with fail
  rw [hw0.out]
  go_wp2_with fail
  refine hc.mono ?_
  rintro e w1 ⟨hF1, ⟨k', N', r', qa, ca, hr', -⟩ | ⟨hr', rfl⟩⟩
  · rw [hh] at hr'; cases hr'
  · have K := hidW (KR.out w1 hF1)
    clear hF1 hc KR
    simp only [thrown, Exit.inBlock, Exit.then, bodyPost]
    exact ⟨trivial, K.out⟩
theorem ritem_n (hU : UV T u) (F : Nat) (w : World) (R h d n : Nat) (q : Option Addr) (m c : Nat) (x : List UInt8) (S : RSt T w R h d n q m c x) (k N : Nat) (r0 : List UInt8) (hh : rdHead x = some (k, N, r0)) (hno : kAt h (k : Int) = none ∨ ¬ d + 1 ≤ 16 ∨ ¬ n + 1 ≤ 4096) (hrd : rd u F n x = none) : Calls Tryd.prog 42 #[.pointer (some ⟨R, 0, none⟩)] w (RtR u F w R h d n x) := by
  obtain ⟨w0, hw0⟩ : ∃ wb, Hid (w.alloc (.cells #[.int .i64 0, .int .u64 0, .slice none 0 0, .slice none 0 0] 27) = wb) := ⟨_, rfl⟩
  have hB0 : Hid (Below w.heap.size w w0) := by rw [← hw0.out]; exact alloc_below _ _
  have S0 := hidW (S.below hU hB0.out)
  have hm := S.rest.1
  have hm2 := S.hm
  have hl := rdHead_len hh
  have hc := rdhead_c w0 R h d n q m c x (by have := S.hm; omega) S0.out.row S0.out.rest
  have KR : Hid (∀ w', FrX (· = R) w0 w' → RtR u F w R h d n x thrown w') := fun w' hF => ⟨(FrX.of (X := (· = R)) hB0.out).trans hF (fun _ hk => Or.inl hk), Or.inr ⟨hrd, rfl⟩⟩
  have HH := hidW (And.intro hh hno)
  clear S hh hno hrd
  go_enter Tryd.func42, Tryd.ntmps42
  go_upto_region 1 with fail
  rw [hw0.out]
  go_wp2_with fail
  refine hc.mono ?_
  rintro e w1 ⟨hF1, ⟨k', N', r', qa, ca, hr', rfl, hrow1, hrest1⟩ | ⟨hr', rfl⟩⟩
  · rw [HH.out.1] at hr'
    simp only [Option.some.injEq, Prod.mk.injEq] at hr'
    obtain ⟨rfl, rfl, rfl⟩ := hr'
    have S1 := S0.out.next hU hF1 hrow1 hrest1 S0.out.hd S0.out.hn (by omega)
    have hen := enter_c w1 R h (k : Int) d n (.slice qa r0.length ca) (by have := S1.hd; omega) (by have := S1.hn; omega) S1.ks S1.row S1.sep
    have H1 := hidW hF1
    clear hF1 hrow1 hrest1 S1 hc
    go_wp2_with fail
    refine hen.mono ?_
    rintro e w2 ⟨hF2, ⟨⟨j', v', hk', -⟩, h16, h40, -⟩ | ⟨-, rfl⟩⟩
    · rcases HH.out.2 with hno | hno | hno
      · rw [hno] at hk'; cases hk'
      · exact absurd h16 hno
      · exact absurd h40 hno
    · have K := hidW (KR.out w2 (H1.out.trans hF2 (fun _ hk => Or.inl hk)))
      clear hF2 hen KR
      simp only [thrown, Exit.inBlock, Exit.then, bodyPost]
      exact ⟨trivial, K.out⟩
  · rw [HH.out.1] at hr'; cases hr'
end WI
end Go.Proofs.YtfkgfcggcfkkiaaDoor
namespace Go.Proofs.YtfkgfcggcfkkiaaDoor
open Go.RowKit Go.Sort Go.Deep
namespace WI
variable {T : World → Prop} {u : List UInt8 → Bool}
attribute [local go_sem] st_fn st_nl
set_option maxHeartbeats 2000000 in
set_option maxRecDepth 20000 in
theorem ritem_g (hU : UV T u) (F : Nat) (f1 f2 f3 f4 : FuncId) (q1 q2 q3 q4 : Array Value) (w : World) (R h d n : Nat) (q : Option Addr) (m c : Nat) (x : List UInt8) (k N : Nat) (r0 : List UInt8) (jj : Nat) (rr : Option (Nat × List UInt8 × List Itm × Nat × List UInt8))
    (hhd : Hid (rdHead x = some (k, N, r0))) (hk : Hid (kAt h (k : Int) = some (jj, .agg #[.func (.func f1) #[] q1, .func (.func f2) #[] q2, .func (.func f3) #[] q3, .func (.func f4) #[] q4])))
    (S : RSt T w R h d n q m c x)
    (E1 : ∀ args w, (callFunc f1 args).run Tryd.prog w = .ok (.enter f1 args) w) (E4 : ∀ args w, (callFunc f4 args).run Tryd.prog w = .ok (.enter f4 args) w)
    (C4 : ∀ (w1 : World) (qq : Option Addr) (cc : Nat), RSt T w1 R h (d + 1) (n + 1) qq r0.length cc r0 → Calls Tryd.prog f4 (#[.pointer (some ⟨R, 0, none⟩), .int .u64 (N : Int)] ++ q4) w1 (RkR w1 R h (d + 1) rr))
    (C1 : ∀ (w1 : World) (nn : Nat) (dd : List UInt8) (l : List Itm) (n' : Nat) (r' : List UInt8) (qd : Option Addr) (cd : Nat) (ql : Option Addr) (cl : Nat), rr = some (nn, dd, l, n', r') → KS w1 h → T w1 → InM w1 w1.heap.size (.mk k nn dd l) (.slice qd dd.length cd) (.slice ql l.length cl) → Calls Tryd.prog f1 (#[.agg #[.int .i64 (k : Int), .int .u64 (nn : Int), .slice qd dd.length cd, .slice ql l.length cl]] ++ q1) w1 (RetW (BoR w1 (own u k nn dd l.length))))
    (hsh : ∀ nn dd l n' r', rr = some (nn, dd, l, n', r') → n' ≤ 4096 ∧ r'.length ≤ 65536)
    (hd1 : d + 1 ≤ 16) (hno : Hid (¬ n + 1 ≤ 4096 → rd u F n x = none)) (hrd : Hid (n + 1 ≤ 4096 → rd u F n x = fit u k rr)) : Calls Tryd.prog 42 #[.pointer (some ⟨R, 0, none⟩)] w (RtR u F w R h d n x) := by
  obtain ⟨w0, hw0⟩ : ∃ wb, Hid (w.alloc (.cells #[.int .i64 0, .int .u64 0, .slice none 0 0, .slice none 0 0] 27) = wb) := ⟨_, rfl⟩
  have hB0 : Hid (Below w.heap.size w w0) := by rw [← hw0.out]; exact alloc_below _ _
  have hz0 : Hid (RowS w0 w.heap.size [.int .i64 0, .int .u64 0, .slice none 0 0, .slice none 0 0]) := by rw [← hw0.out]; exact zrow w
  have S0 := hidW (S.below hU hB0.out)
  have hm := S.rest.1
  have hm2 := S.hm
  have hRw := S.row.1
  have hl := rdHead_len hhd.out
  have hc := rdhead_c w0 R h d n q m c x (by have := S.hm; omega) S0.out.row S0.out.rest
  have hds := S.hd
  have hns := S.hn
  clear S
  go_enter Tryd.func42, Tryd.ntmps42
  go_upto_region 1 with fail
  rw [hw0.out]
  go_wp2_with fail
  refine hc.mono ?_
  rintro e w1 ⟨hF1, ⟨k', N', r', qa, ca, hr', rfl, hrow1, hrest1⟩ | ⟨hr', rfl⟩⟩
  · rw [hhd.out] at hr'
    simp only [Option.some.injEq, Prod.mk.injEq] at hr'
    obtain ⟨rfl, rfl, rfl⟩ := hr'
    have S1 := S0.out.next hU hF1 hrow1 hrest1 S0.out.hd S0.out.hn (by omega)
    have hen := enter_c w1 R h (k : Int) d n (.slice qa r0.length ca) (by have := S1.hd; omega) (by have := S1.hn; omega) S1.ks S1.row S1.sep
    have F1 : Hid (FrX (· = R) w w1) := (FrX.of (X := (· = R)) hB0.out).trans hF1 (fun _ hk => Or.inl hk)
    have hz1 : Hid (RowS w1 w.heap.size [.int .i64 0, .int .u64 0, .slice none 0 0, .slice none 0 0]) := hz0.out.at hF1.size (hF1.block _ hz0.out.1 (by omega))
    have P1 := hidW (And.intro S1 hrest1)
    clear hF1 hrow1 hrest1 S1 hc hz0 hB0 S0
    go_wp2_with fail
    refine hen.mono ?_
    rintro e w2 ⟨hF2, ⟨⟨j', v', hk', rfl⟩, h16, h40, hrow2⟩ | ⟨hno', rfl⟩⟩
    · rw [hk.out] at hk'
      simp only [Option.some.injEq, Prod.mk.injEq] at hk'
      obtain ⟨rfl, rfl⟩ := hk'
      have hn2 := nrow w2 .nilFunc
      have hsz2 : w2.heap.size < (w2.alloc (.cells #[.nilFunc, .nilFunc, .nilFunc, .nilFunc] 108)).heap.size := hn2.1
      obtain ⟨w3, hw3⟩ : ∃ w3, Hid ((w2.alloc (.cells #[.nilFunc, .nilFunc, .nilFunc, .nilFunc] 108)).setCells w2.heap.size 0 [.func (.func f1) #[] q1, .func (.func f2) #[] q2, .func (.func f3) #[] q3, .func (.func f4) #[] q4] = w3) := ⟨_, rfl⟩
      have hb3 : Below w2.heap.size w2 w3 := by
        rw [← hw3.out]
        exact (alloc_below w2 _).trans (sc_below _ _ _)
      have F3 : Hid (FrX (· = R) w w3) := (F1.out.trans hF2 (fun _ hk => Or.inl hk)).belowTo hb3
      have hs12 : w1.heap.size ≤ w2.heap.size := hF2.size
      have S3 : Hid (RSt T w3 R h (d + 1) (n + 1) qa r0.length ca r0) := P1.out.1.next hU (hF2.belowTo hb3) (hrow2.below hb3) (P1.out.2.at (hF2.belowTo hb3)) hd1 h40 (by omega)
      have hz3 : Hid (RowS w3 w.heap.size [.int .i64 0, .int .u64 0, .slice none 0 0, .slice none 0 0]) := (hz1.out.at hF2.size (hF2.block _ hz1.out.1 (by omega))).below hb3
      have k3 : Hid (RowS w3 w2.heap.size [.func (.func f1) #[] q1, .func (.func f2) #[] q2, .func (.func f3) #[] q3, .func (.func f4) #[] q4]) := by
        rw [← hw3.out]
        exact hn2.scs _ rfl
      have hth := hidW hn2.2.2
      have hlz : w.heap.size < w2.heap.size := Nat.lt_of_lt_of_le hz1.out.1 hs12
      have hB3 := hidW hb3
      clear hen hn2 hb3 hF2 hrow2 P1 hz1 F1
      go_upto_region 3 with (first | (refine wpList_store_mid rfl 108 _ _ rfl w2.heap.size 0 #[.func (.func f1) #[] q1, .func (.func f2) #[] q2, .func (.func f3) #[] q3, .func (.func f4) #[] q4] ?_ ?_ ?_ ?_ ?_ ?_; rfl; rfl; exact hth.out; exact iszK; exact fn_one _ _ _ _ _ _ _ _; (show wpList _ _ _ _ _ ((w2.alloc (.cells #[.nilFunc, .nilFunc, .nilFunc, .nilFunc] 108)).setCells w2.heap.size 0 [.func (.func f1) #[] q1, .func (.func f2) #[] q2, .func (.func f3) #[] q3, .func (.func f4) #[] q4])); rw [hw3.out]) | fail)
      have c3 := k3.out.cell 3 _ rfl
      have hlk := k3.out.1
      have hc4 := C4 w3 qa ca S3.out
      clear hth hw3 hsz2
      go_wp2_with fail
      refine hc4.mono ?_
      rintro e w4 ⟨hF4, ⟨nn, dd, l, n', r', qb, cb, qd, cd, ql, cl, hrr, rfl, hrow4, hrest4, him⟩ | ⟨hrr, rfl⟩⟩
      · have hsh' := hsh nn dd l n' r' hrr
        unfold itv
        have hza := zrow w4
        obtain ⟨w5, hw5⟩ : ∃ w5, Hid ((w4.alloc (.cells #[.int .i64 0, .int .u64 0, .slice none 0 0, .slice none 0 0] 27)).setCells w4.heap.size 0 [.int .i64 0, .int .u64 (nn : Int), .slice qd dd.length cd, .slice ql l.length cl] = w5) := ⟨_, rfl⟩
        have hb5 : Below w4.heap.size w4 w5 := by rw [← hw5.out]; exact (alloc_below w4 _).trans (sc_below _ _ _)
        have i5 : RowS w5 w4.heap.size [.int .i64 0, .int .u64 (nn : Int), .slice qd dd.length cd, .slice ql l.length cl] := by rw [← hw5.out]; exact hza.scs _ rfl
        have i50 := i5.cell 0 _ rfl
        have i5f := i5.free 0 (by show 0 < 4; omega)
        have hl5 := i5.1
        obtain ⟨w6, hw6⟩ : ∃ w6, Hid (w5.setCell ⟨w4.heap.size, 0, none⟩ (.int .i64 (k : Int)) = w6) := ⟨_, rfl⟩
        have hb6 : Below w4.heap.size w4 w6 := by rw [← hw6.out]; exact hb5.setCell (p := ⟨w4.heap.size, 0, none⟩) (Nat.le_refl _) _
        have i6 : Hid (RowS w6 w4.heap.size [.int .i64 (k : Int), .int .u64 (nn : Int), .slice qd dd.length cd, .slice ql l.length cl]) := by
          rw [← hw6.out]
          exact i5.set 0 _ (by show 0 < 4; omega)
        have F6 : Hid (FrX (· = R) w w6) := (F3.out.trans hF4 (fun _ hk => Or.inl hk)).belowTo hb6
        have hs34 := hF4.size
        have hs23 := k3.out.1
        have k6 : Hid (RowS w6 w2.heap.size [.func (.func f1) #[] q1, .func (.func f2) #[] q2, .func (.func f3) #[] q3, .func (.func f4) #[] q4]) := (k3.out.at hF4.size (hF4.block _ k3.out.1 (by omega))).below hb6
        have z6 : Hid (RowS w6 w.heap.size [.int .i64 0, .int .u64 0, .slice none 0 0, .slice none 0 0]) := (hz3.out.at hF4.size (hF4.block _ hz3.out.1 (by omega))).below hb6
        have S6 : Hid (RSt T w6 R h (d + 1) n' qb r'.length cb r') := S3.out.next hU (hF4.belowTo hb6) (hrow4.below hb6) (hrest4.at (FrX.of hb6)) hd1 hsh'.1 hsh'.2
        have m6 : Hid (IMQ w3.heap.size w6 (.mk k nn dd l) (.slice qd dd.length cd) (.slice ql l.length cl)) := (him k).up hb6
        have hs46 := hb6.size
        have hth5 := hidW hza.2.2
        have hc1 := C1 w6 nn dd l n' r' qd cd ql cl hrr S6.out.ks S6.out.tb (m6.out w6 (fun _ _ _ => rfl))
        have RR := hidW hrr
        obtain ⟨bv, hbv⟩ : ∃ bv, Hid (own u k nn dd l.length = bv) := ⟨_, rfl⟩
        rw [hbv.out] at hc1
        clear hF4 hrow4 hrest4 him hrr hc4 hza hb5 i5 hb6 c3 hlk k3 hz3 S3 F3 hB3
        go_upto_region 4 with (first | (refine wpList_store_mid rfl 27 _ _ rfl w4.heap.size 0 #[.int .i64 0, .int .u64 (nn : Int), .slice qd dd.length cd, .slice ql l.length cl] ?_ ?_ ?_ ?_ ?_ ?_; rfl; rfl; exact hth5.out; exact isz27; exact four_one _ _ _ _ _ _ _ _; (show wpList _ _ _ _ _ ((w4.alloc (.cells #[.int .i64 0, .int .u64 0, .slice none 0 0, .slice none 0 0] 27)).setCells w4.heap.size 0 [.int .i64 0, .int .u64 (nn : Int), .slice qd dd.length cd, .slice ql l.length cl])); rw [hw5.out]) | fail)
        go_upto_region 5 with fail
        rw [hw6.out]
        clear hw5 hw6 i50 i5f hl5 hth5
        have c0 := k6.out.cell 0 _ rfl
        have a0 := i6.out.cell 0 _ rfl
        have a1 := i6.out.cell 1 _ rfl
        have a2 := i6.out.cell 2 _ rfl
        have a3 := i6.out.cell 3 _ rfl
        have hlk6 := k6.out.1
        have hli6 := i6.out.1
        go_wp2_with fail
        refine hc1.mono ?_
        rintro e w7 ⟨v7, rfl, rfl, hb7⟩
        have HB7 := hidW hb7
        clear hb7 hc1 c0 a0 a1 a2 a3
        cases bv with
        | false =>
          have KR : Hid (RtR u F w R h d n x thrown w7) := ⟨F6.out.belowTo HB7.out, Or.inr ⟨by rw [hrd.out h40, RR.out]; simp only [fit]; rw [hbv.out]; rfl, rfl⟩⟩
          clear HB7
          go_wp2_with fail
          refine (must_n _).mono ?_
          rintro e w8 ⟨rfl, rfl⟩
          simp only [Exit.inBlock, Exit.then, bodyPost]
          exact ⟨trivial, KR.out⟩
        | true =>
          go_wp2_with fail
          refine (must_y _).mono ?_
          rintro e w8 ⟨rfl, rfl⟩
          have S7 := hidW (S6.out.below hU HB7.out)
          have hlv := leave_c w8 R h d n' (.slice qb r'.length cb) (by omega) S7.out.row
          go_wp2_with fail
          refine hlv.mono ?_
          rintro e w9 ⟨rfl, hF9, hrow9⟩
          have i9 := (i6.out.below HB7.out).at hF9.size (hF9.block _ (i6.out.below HB7.out).1 (by omega))
          have z9 : Hid (RowS w9 w.heap.size [.int .i64 0, .int .u64 0, .slice none 0 0, .slice none 0 0]) := (z6.out.below HB7.out).at hF9.size (hF9.block _ (z6.out.below HB7.out).1 (by omega))
          obtain ⟨wA, hwA⟩ : ∃ wA, Hid (w9.setCells w.heap.size 0 [.int .i64 (k : Int), .int .u64 (nn : Int), .slice qd dd.length cd, .slice ql l.length cl] = wA) := ⟨_, rfl⟩
          have KA : Hid (RowS wA w.heap.size [.int .i64 (k : Int), .int .u64 (nn : Int), .slice qd dd.length cd, .slice ql l.length cl] ∧ RtR u F w R h d n x (.returned (itv k nn qd dd.length cd ql l.length cl)) wA) := by
            have hs89 := hF9.size
            have hs67 := HB7.out.size
            rw [← hwA.out]
            refine ⟨z9.out.scs _ rfl, ((F6.out.belowTo HB7.out).trans hF9 (fun _ hk => Or.inl hk)).sc (Nat.le_refl _) _, Or.inl ⟨.mk k nn dd l, n', r', qb, cb, qd, dd.length, cd, ql, l.length, cl, ?_, rfl, ?_, hrow9.sc (by omega) _, (S7.out.rest.at hF9).sc (by omega) _⟩⟩
            · rw [hrd.out h40, RR.out]; simp only [fit]; rw [hbv.out]; rfl
            · refine ((((m6.out.up HB7.out).at hF9.size (fun g h1 h2 => hF9.block g h2 (by omega))).at (sc_below _ _ _).size (fun g h1 h2 => sc_other _ _ (by omega) _ _ _))).dn (by omega)
          have a0 := i9.cell 0 _ rfl
          have a1 := i9.cell 1 _ rfl
          have a2 := i9.cell 2 _ rfl
          have a3 := i9.cell 3 _ rfl
          have hli9 := i9.1
          clear hF9 hrow9 i9 hlv S7 HB7
          go_wp2_with (first | (refine wpList_store_mid rfl 27 _ _ rfl w.heap.size 0 #[.int .i64 (k : Int), .int .u64 (nn : Int), .slice qd dd.length cd, .slice ql l.length cl] ?_ ?_ ?_ ?_ ?_ ?_; rfl; rfl; exact z9.out.2.2; exact isz27; exact four_one _ _ _ _ _ _ _ _; (show wpList _ _ _ _ _ (w9.setCells w.heap.size 0 [.int .i64 (k : Int), .int .u64 (nn : Int), .slice qd dd.length cd, .slice ql l.length cl])); rw [hwA.out]) | fail)
          refine bodyPost_ret (results_cellI 2 27 rfl KA.out.1 rfl urw27 isz27) rfl ?_
          exact KA.out.2
      · have KR : Hid (RtR u F w R h d n x thrown w4) := ⟨F3.out.trans hF4 (fun _ hk => Or.inl hk), Or.inr ⟨by rw [hrd.out h40, hrr]; rfl, rfl⟩⟩
        clear hF4 hc4 hrr
        simp only [thrown, Exit.inBlock, Exit.then, bodyPost]
        exact ⟨trivial, KR.out⟩
    · have KR : Hid (RtR u F w R h d n x thrown w2) := by
        refine ⟨F1.out.trans hF2 (fun _ hk => Or.inl hk), Or.inr ⟨?_, rfl⟩⟩
        rcases hno' with h' | h' | h'
        · rw [hk.out] at h'; cases h'
        · exact absurd hd1 h'
        · exact hno.out h'
      clear hF2 hen hno'
      simp only [thrown, Exit.inBlock, Exit.then, bodyPost]
      exact ⟨trivial, KR.out⟩
  · rw [hhd.out] at hr'; cases hr'
end WI
end Go.Proofs.YtfkgfcggcfkkiaaDoor
