import Derived.Laws.Bits64b
import Derived.Test.YtfkgfcggcfkkiaaDoorwk4
set_option linter.unusedVariables false
set_option linter.unusedSimpArgs false
namespace Go.Proofs.YtfkgfcggcfkkiaaDoor
open Go.RowKit Go.Sort Go.Deep
namespace WI
theorem or8 (a : Nat) (x : UInt8) (ha : a * 256 < 18446744073709551616) : bits .or .u64 ((a * 256 : Nat) : Int) (x.toNat : Int) = ((a * 256 + x.toNat : Nat) : Int) := by
  have hx := x.toNat_lt
  rw [bits_or_u64_nat _ _ ha (by omega)]
  have h := Nat.shiftLeft_add_eq_or_of_lt (i := 8) (b := x.toNat) (by omega) a
  rw [Nat.shiftLeft_eq] at h
  rw [← h]
theorem ofBE_snoc (x : UInt8) : ∀ (l : List UInt8) (a : Nat), ofBE (l ++ [x]) a = ofBE l a * 256 + x.toNat
  | [], a => rfl
  | y :: r, a => by rw [List.cons_append, ofBE, ofBE, ofBE_snoc x r]
theorem ixB (b o m c j : Nat) (hj : j < m) (w : World) : (Instr.indexAt 22 (.slice (some ⟨b, o, none⟩) m c) (.int .i64 (j : Int))).run Tryd.prog w = .ok (.pointer (some ⟨b, o + j, none⟩)) w := by
  have h1 : ¬ (j : Int) < 0 := by omega
  have h2 : (j : Int) < (m : Int) := by omega
  have e := addS0 b o (j * 1)
  rw [Nat.mul_one] at e
  go_simp
set_option maxHeartbeats 1000000 in
theorem numberOf_c (w : World) (R : Nat) (q : Option Addr) (m c : Nat) (x : List UInt8) (hP : PBq w R q m c x) (h8 : m ≤ 8) : Calls Tryd.prog 96 #[.slice q m c] w fun e w' => e = .returned (.int .u64 (ofBE x 0 : Int)) ∧ w' = w := by
  have hml := hidW hP.1
  go_enter Tryd.func96, Tryd.ntmps96
  go_wp2
  go_loopg [3, 8] (m + 1) (fun gk s3 s8 wr => ∃ j a : Nat, s8 = .int .i64 (j : Int) ∧ s3 = .int .u64 (a : Int) ∧ Hid (a = ofBE (x.take j) 0) ∧ j ≤ m ∧ gk = m + 1 - j ∧ w = wr)
  case atStart => exact ⟨0, 0, rfl, rfl, (by show 0 = ofBE (x.take 0) 0; rw [List.take_zero, ofBE]), Nat.zero_le _, rfl, rfl⟩
  case round =>
    obtain ⟨j, a, rfl, rfl, ha, hjm, hgk, rfl⟩ := hrel
    by_cases hj : j < m
    · obtain ⟨u, hu⟩ : ∃ u, x[j]? = some u := ⟨_, List.getElem?_eq_getElem (by rw [← hml.out]; exact hj)⟩
      obtain ⟨b, o, rfl, hcell⟩ : ∃ b o, q = some ⟨b, o, none⟩ ∧ w.cell? ⟨b, o + j, none⟩ = some (.int .u8 (u.toNat : Int)) := by
        obtain ⟨-, h2, ⟨-, h3⟩ | ⟨b, o, h3, -, -, h6⟩⟩ := hP
        · omega
        · exact ⟨b, o, h3, h6 j u hu⟩
      have hlt := World.block_lt_of_cell? _ _ hcell
      have hix := fun w => ixB b o m c j hj w
      have hjz : (j : Int) < (m : Int) := by omega
      have hab : a * 256 < 18446744073709551616 := by
        have h1 := ofBE_lt (x.take j) 0
        have h2 : (x.take j).length ≤ 7 := by rw [List.length_take]; omega
        have h3 : 256 ^ (x.take j).length ≤ 256 ^ 7 := Nat.pow_le_pow_right (by decide) h2
        rw [ha.out]
        have h4 : (256 : Nat) ^ 7 = 72057594037927936 := by decide
        omega
      have hwr : IntKind.u64.wrap ((a : Int) * 256) = ((a * 256 : Nat) : Int) := by rw [IntKind.wrap_u64]; omega
      have hu8 := u.toNat_lt
      have hwu : IntKind.u64.wrap (u.toNat : Int) = (u.toNat : Int) := by rw [IntKind.wrap_u64]; omega
      have hor := or8 a u hab
      obtain ⟨a2, ha2⟩ : ∃ a2, Hid (a * 256 + u.toNat = a2) := ⟨_, rfl⟩
      rw [ha2.out] at hor
      obtain ⟨un, hun⟩ : ∃ un, Hid (u.toNat = un) := ⟨_, rfl⟩
      rw [hun.out] at hor hwu hcell hu8
      obtain ⟨a1, ha1⟩ : ∃ a1, Hid (a * 256 = a1) := ⟨_, rfl⟩
      rw [ha1.out] at hor hwr
      have hN : Hid (a2 = ofBE (x.take (j + 1)) 0) := by
        show _ = _
        obtain ⟨hjx, e⟩ := List.getElem?_eq_some_iff.1 hu
        rw [List.take_succ_eq_append_getElem hjx, e, ofBE_snoc, ← ha.out, ha2.out]
      clear hab hP hu
      go_wp2
      go_roundg (m + 1 - (j + 1))
      case measure => omega
      case rel => exact ⟨j + 1, a2, rfl, rfl, hN, by omega, rfl, rfl⟩
    · have hjz : ¬ (j : Int) < (m : Int) := by omega
      obtain rfl : j = m := by omega
      have hN : Hid (a = ofBE x 0) := by show _ = _; rw [ha.out, hml.out, List.take_length]
      clear hP
      go_wp2
      go_ret
      rw [hN.out]
      exact ⟨rfl, rfl⟩
end WI
end Go.Proofs.YtfkgfcggcfkkiaaDoor
namespace Go.Proofs.YtfkgfcggcfkkiaaDoor
open Go.RowKit Go.Sort
open WL
/-- A number out of bits, the highest first. -/
def pr (f : Nat → Nat) : Nat → Nat
  | 0 => 0
  | t + 1 => 2 * pr f t + f t
theorem pr_lt (f : Nat → Nat) (hf : ∀ t, f t < 2) : ∀ t, pr f t < 2 ^ t
  | 0 => by rw [pr]; decide
  | t + 1 => by
    have h1 := pr_lt f hf t
    have h2 := hf t
    rw [pr, Nat.pow_succ]
    omega
theorem pr_six (x : List UInt8) (i : Nat) : pr (fun t => bt x (6 * i + t)) 6 = six x i := by
  unfold six
  simp only [pr, Nat.add_zero]
  omega
theorem pr_oct (y : List Nat) (e : Nat) : pr (fun t => lb y (8 * e + t)) 8 = oct y e := by
  unfold oct
  simp only [pr, Nat.add_zero]
  omega
theorem int5W : Tryd.prog.underlying 5 = some (.int .u8) := by kernel_rfl
theorem pb_conv {w : World} {v : Value} {x : List UInt8} (h : PB w v x) : (convert 22 9 v).run Tryd.prog w = .ok (.string ⟨x.toArray⟩) w := by
  obtain ⟨q, c, rfl, h2⟩ := h
  cases q with
  | none =>
    rcases h2 with rfl | ⟨b, o, h3, -⟩
    · exact run_convert_bytes_nil (P := Tryd.prog) (w := w) 22 5 undB int5W 0 c 9 str9W
    · cases h3
  | some a =>
    refine run_convert_bytes_back (P := Tryd.prog) w 22 9 5 a c x undB int5W str9W (fun j hj => ?_)
    rcases h2 with rfl | ⟨b, o, h3, h4⟩
    · cases hj
    · obtain rfl := Option.some.inj h3
      have e : (⟨b, o, none⟩ : Addr).add j = ⟨b, o + j, none⟩ := by
        unfold Addr.add
        by_cases h0 : j = 0
        · subst h0; rfl
        · rw [if_neg h0]
      rw [e]
      exact h4 j _ (List.getElem?_eq_getElem hj)
theorem and_i64_1 (y : Nat) (hy : y < 9223372036854775808) : bits .and .i64 (y : Int) 1 = ((y % 2 : Nat) : Int) := by
  have h1 : (BitVec.ofInt 64 (y : Int)).toNat = y := by
    rw [BitVec.ofInt_natCast, BitVec.toNat_ofNat]; exact Nat.mod_eq_of_lt (by omega)
  have h2 : (BitVec.ofInt 64 1).toNat = 1 := rfl
  show IntKind.i64.wrap ((BitVec.ofInt 64 (y : Int) &&& BitVec.ofInt 64 1).toNat : Int) = _
  rw [BitVec.toNat_and, h1, h2, Nat.and_one_is_mod, IntKind.wrap_i64]
  omega
theorem bit_core (y n : Nat) (hy : y < 256) (hn : n < 64) : wrap64 (2 * (n : Int) + bits .and .i64 (wrap64 (y : Int)) 1) = ((2 * n + y % 2 : Nat) : Int) := by
  have e3 : wrap64 (y : Int) = (y : Int) := by unfold wrap64; omega
  rw [e3, and_i64_1 y (by omega)]
  unfold wrap64
  omega
theorem byte_at (x : List UInt8) (S : ByteArray) (hS : S = ⟨x.toArray⟩) (k : Nat) (hk : k < S.size) : (S[k]'hk).toNat = (x.getD k 0).toNat := by
  subst hS
  have hk2 : k < x.length := by rw [← sizeS x]; exact hk
  rw [List.getD_eq_getElem?_getD, List.getElem?_eq_getElem hk2]
  rfl
theorem step_bit (x : List UInt8) (S : ByteArray) (hS : S = ⟨x.toArray⟩) (k n d m : Nat) (hd : d = k / 8) (hm : m = 7 - k % 8) (hk : d < S.size) (hn : n < 64) :
    wrap64 (2 * (n : Int) + bits .and .i64 (wrap64 (((S[d]'hk).toNat : Int) / (2 : Int) ^ m)) 1) = ((2 * n + bt x k : Nat) : Int) := by
  rw [byte_at x S hS d hk, divp]
  have h1 := (x.getD d 0).toNat_lt
  have h2 : (x.getD d 0).toNat / 2 ^ m ≤ (x.getD d 0).toNat := Nat.div_le_self _ _
  rw [bit_core _ n (by omega) hn]
  unfold bt
  rw [hd, hm]
/-- What the loop keeps. -/
structure Rl (w : World) (x : List UInt8) (i : Nat) (v : Value) (W : World) : Prop where
  bl : Below w.heap.size w W
  ow : W.ownsRow w.heap.size 5 1 v (pre x i).length (Lib.byteCells (pre x i))
set_option maxHeartbeats 2000000 in
set_option maxRecDepth 20000 in
theorem rletters_c (x : List UInt8) (hx : x.length ≤ 200000) (w : World) : Calls Tryd.prog 35 #[.string ⟨x.toArray⟩] w (RetW fun e w' => Below w.heap.size w w' ∧ e = .string ⟨(letters x).toArray⟩) := by
  obtain ⟨S, hS⟩ : ∃ S, Hid (S = (⟨x.toArray⟩ : ByteArray)) := ⟨_, rfl⟩
  have hsz : S.size = x.length := by rw [hS.out]; exact sizeS x
  rw [← hS.out]
  have w8 : IntKind.i64.wrap (8 * (x.length : Int)) = 8 * (x.length : Int) := by rw [IntKind.wrap_i64]; omega
  have K0 : Hid (Rl w x 0 (.slice none 0 0) w) := ⟨Below.refl _ _, World.ownsRow_nil _ _ _ _⟩
  have hnl : nl x.length ≤ 300000 := by unfold nl; omega
  go_enter Tryd.func35, Tryd.ntmps35
  go_wp2_with fail
  go_loopg [3, 4] (nl x.length) (fun gk s3 s4 wr => ∃ i : Nat, i + gk = nl x.length ∧ s4 = .int .i64 (i : Int) ∧ Hid (Rl w x i s3 wr))
  case atStart => exact ⟨0, by omega, rfl, K0⟩
  case round =>
    clear K0
    obtain ⟨i, hi, rfl, KM⟩ := hrel
    have w6 : IntKind.i64.wrap (6 * (i : Int)) = 6 * (i : Int) := by rw [IntKind.wrap_i64]; omega
    obtain ⟨qs, cs, hv⟩ := slice_own KM.out.ow
    by_cases hil : i < nl x.length
    · have hlt : 6 * (i : Int) < 8 * (x.length : Int) := by unfold nl at hil; omega
      subst hv
      have w66 : IntKind.i64.wrap (6 * (i : Int) + 6) = 6 * (i : Int) + 6 := by rw [IntKind.wrap_i64]; omega
      go_wp2_with fail
      go_loopg [5, 6] 6 (fun gk2 s5 s6 wr2 => ∃ t k n : Nat, t + gk2 = 6 ∧ k = 6 * i + t ∧ n = pr (fun t => bt x (6 * i + t)) t ∧ s5 = .int .i64 (n : Int) ∧ s6 = .int .i64 (k : Int) ∧ wr = wr2)
      case atStart => exact ⟨0, 6 * i, 0, by omega, by omega, rfl, rfl, by first | rfl | simp, rfl⟩
      case round =>
        obtain ⟨t, k, n, ht, hk, hn, rfl, rfl, rfl⟩ := hrel
        by_cases ht6 : t < 6
        · have g6 : (k : Int) < 6 * (i : Int) + 6 := by omega
          by_cases hkl : k / 8 < x.length
          · subst hk
            have hn64 : n < 64 := by
              have h1 := pr_lt (fun t => bt x (6 * i + t)) (fun t => bt_lt x _) t
              have h2 : (2 : Nat) ^ t ≤ 2 ^ 6 := Nat.pow_le_pow_right (by decide) (by omega)
              omega
            have HN := hidW hn
            have HB := hidW (fun hk => step_bit x S hS.out (6 * i + t) n _ _ rfl rfl hk hn64)
            clear hn
            go_wp2
            go_roundg (gk - 1)
            case measure => omega
            case rel => exact ⟨t + 1, 6 * i + (t + 1), 2 * n + bt x (6 * i + t), by omega, rfl, by rw [pr, ← HN.out], congrArg (Value.int .i64) (HB.out _), by first | rfl | (congr 1; omega), rfl⟩
          · subst hk
            have hn64 : n < 64 := by
              have h1 := pr_lt (fun t => bt x (6 * i + t)) (fun t => bt_lt x _) t
              have h2 : (2 : Nat) ^ t ≤ 2 ^ 6 := Nat.pow_le_pow_right (by decide) (by omega)
              omega
            have HN := hidW hn
            have HZ := hidW (bt_end x (6 * i + t) (by omega))
            clear hn
            go_wp2
            go_roundg (gk - 1)
            case measure => omega
            case rel => exact ⟨t + 1, 6 * i + (t + 1), 2 * n, by omega, rfl, by rw [pr, ← HN.out, HZ.out]; rfl, by first | rfl | (congr 1; unfold wrap64; omega), by first | rfl | (congr 1; omega), rfl⟩
        · have g6 : ¬ (k : Int) < 6 * (i : Int) + 6 := by omega
          obtain rfl : t = 6 := by omega
          rw [pr_six] at hn
          have hn64 : n < 64 := by rw [hn]; exact six_lt x i
          obtain ⟨q', n', c', W', hap, hbl', how'⟩ := push_b (W0 := w) rfl KM.out.bl KM.out.ow (by rw [pre_len]; omega) (ltr n)
          have HAP := hidW (hap 22)
          have KN : Hid (Rl w x (i + 1) (.slice q' n' c') W') := ⟨hbl', by rw [pre_succ, ← hn]; exact how'⟩
          clear KM hap hbl' how' hn
          go_wp2_with (first | (refine wpList_ixc (.int .u8 ((ltr n).toNat : Int)) rfl _ 44 9 rfl ?_ ?_; (exact ixL .i64 n hn64 _)) | (at_builtin; refine Lib.wpList_append_run _ rfl _ _ _ _ rfl _ _ rfl rfl _ _ HAP.out ?_))
          go_roundg (nl x.length - (i + 1))
          case measure => omega
          case rel => exact ⟨i + 1, by omega, rfl, KN⟩
    · have hlt : ¬ 6 * (i : Int) < 8 * (x.length : Int) := by unfold nl at hil; omega
      obtain rfl : i = nl x.length := by omega
      have how := KM.out.ow
      rw [pre_all] at how
      have hcv := pb_conv (own_pb how)
      have K1 := hidW KM.out.bl
      rw [pre_all] at hv
      subst hv
      clear KM how
      go_wp2
      go_ret
      exact ⟨_, rfl, K1.out, rfl⟩
end Go.Proofs.YtfkgfcggcfkkiaaDoor
namespace Go.Proofs.YtfkgfcggcfkkiaaDoor
open Go.RowKit Go.Sort Go.Deep
namespace WI
theorem sB_hi3 (b o n c k : Nat) (hk : k ≤ c) (w : World) : (Instr.sliceAt 22 (.slice (some ⟨b, o, none⟩) n c) none (some (.int .i64 (k : Int))) none).run Tryd.prog w = .ok (.slice (some ⟨b, o, none⟩) k c) w := by
  have h1 : (k : Int) ≤ c := by omega
  go_simp
/-- What was read since the rest was that. -/
theorem since_c (w : World) (R h d n : Nat) (q : Option Addr) (m c : Nat) (q0 : Option Addr) (m0 c0 : Nat) (x0 : List UInt8) (hm : m ≤ m0) (h0 : m0 ≤ 1099511627776) (hR : RowS w R (wkc h d n (.slice q m c))) (hP : PBq w R q0 m0 c0 x0) :
    Calls Tryd.prog 95 #[.pointer (some ⟨R, 0, none⟩), .slice q0 m0 c0] w (fun e w' => e = .returned (.slice q0 (m0 - m) c0) ∧ w' = w) ∧ PBq w R q0 (m0 - m) c0 (x0.take (m0 - m)) := by
  obtain ⟨q', -, -, p1, -⟩ := hP.cut (m0 - m) (by omega)
  refine ⟨?_, p1⟩
  have c3 := hR.cell 3 _ rfl
  have hlt := hR.1
  obtain ⟨k, hk⟩ : ∃ k, Hid (m0 - m = k) := ⟨_, rfl⟩
  rw [hk.out]
  have hs : (m0 : Int) - (m : Int) = (k : Int) := by have := hk.out; omega
  have hkb : k ≤ m0 := by have := hk.out; omega
  have hsl : ∀ X : World, (Instr.sliceAt 22 (.slice q0 m0 c0) none (some (.int .i64 (k : Int))) none).run Tryd.prog X = .ok (.slice q0 k c0) X := fun X => by
    obtain ⟨h1, h2, ⟨rfl, rfl⟩ | ⟨b, o, rfl, h4, h5, h6⟩⟩ := hP
    · obtain rfl : m0 = 0 := by omega
      obtain rfl : k = 0 := by omega
      kernel_rfl
    · exact sB_hi3 b o m0 c0 k (by omega) X
  clear hP p1 hR
  go_enter Tryd.func95, Tryd.ntmps95
  go_wp2
  go_ret
  exact ⟨rfl, rfl⟩
/-- bytes.Equal. -/
theorem equalB_c (w : World) (q : Option Addr) (m c : Nat) (q' : Option Addr) (m' c' : Nat) (x y : List UInt8) (hx : PB w (.slice q m c) x) (hy : PB w (.slice q' m' c') y) : Calls Tryd.prog 97 #[.slice q m c, .slice q' m' c'] w (fun e w' => e = .returned (.bool (decide (x = y))) ∧ w' = w) := by
  have h1 := pb_conv hx
  have h2 := pb_conv hy
  obtain ⟨X, hX⟩ : ∃ S, Hid ((⟨x.toArray⟩ : ByteArray) = S) := ⟨_, rfl⟩
  obtain ⟨Y, hY⟩ : ∃ S, Hid ((⟨y.toArray⟩ : ByteArray) = S) := ⟨_, rfl⟩
  rw [hX.out] at h1
  rw [hY.out] at h2
  have he : (X.toList == Y.toList) = decide (x = y) := by
    rw [← hX.out, ← hY.out, ByteArray.toList_eq, ByteArray.toList_eq]
    by_cases e : x = y
    · subst e; simp
    · rw [decide_eq_false e]; simpa using e
  obtain ⟨b, hb⟩ : ∃ b, Hid (decide (x = y) = b) := ⟨_, rfl⟩
  rw [hb.out] at he ⊢
  go_enter Tryd.func97, Tryd.ntmps97
  go_wp2
  go_ret
  exact ⟨rfl, rfl⟩
end WI
end Go.Proofs.YtfkgfcggcfkkiaaDoor
namespace Go.Proofs.YtfkgfcggcfkkiaaDoor
open Go.RowKit Go.Sort Go.Deep
namespace WI
theorem and31 : ∀ n : Fin 256, bits .and .u8 (n.val : Int) 31 = ((n.val % 32 : Nat) : Int) := by decide +kernel
/-- What the reader's head does. -/
def RhR (w : World) (R h d n : Nat) (x : List UInt8) (e : Ending) (w' : World) : Prop := FrX (· = R) w w' ∧ ((∃ k nn r q' c', rdHead x = some (k, nn, r) ∧ e = .returned (.tuple #[.int .i64 (k : Int), .int .u64 (nn : Int)]) ∧ RowS w' R (wkc h d n (.slice q' r.length c')) ∧ PBq w' R q' r.length c' r) ∨ (rdHead x = none ∧ e = thrown))
set_option maxHeartbeats 1000000 in
set_option maxRecDepth 20000 in
theorem head_nil (w : World) (R h d n : Nat) (q : Option Addr) (m c : Nat) (hR : RowS w R (wkc h d n (.slice q m c))) (hP : PBq w R q m c []) : Calls Tryd.prog 69 #[.pointer (some ⟨R, 0, none⟩)] w (RhR w R h d n []) := by
  have hb := rbytes_c w R h d n q m c [] 1 (by decide) (by have := hP.1; simp at this; omega) hR hP
  have c3 := hR.cell 3 _ rfl
  have hlt := hR.1
  have HQ : Hid (RhR w R h d n [] thrown w) := ⟨FrX.refl _ _, Or.inr ⟨rfl, rfl⟩⟩
  go_enter Tryd.func69, Tryd.ntmps69
  go_wp2_with fail
  refine hb.mono ?_
  rintro e w1 (⟨h1, -⟩ | ⟨-, rfl, rfl⟩)
  · exact absurd h1 (by decide)
  · simp only [Exit.inBlock, Exit.then, bodyPost, thrown]
    exact ⟨trivial, HQ.out⟩
set_option maxHeartbeats 1000000 in
set_option maxRecDepth 20000 in
theorem head_few (w : World) (R h d n : Nat) (q : Option Addr) (m c : Nat) (f : UInt8) (r : List UInt8) (hm : m ≤ 1099511627776) (hR : RowS w R (wkc h d n (.slice q m c))) (hP : PBq w R q m c (f :: r)) (hf : f.toNat % 32 < 24) : Calls Tryd.prog 69 #[.pointer (some ⟨R, 0, none⟩)] w (RhR w R h d n (f :: r)) := by
  have hb := rbytes_c w R h d n q m c (f :: r) 1 (by decide) hm hR hP
  have c3 := hR.cell 3 _ rfl
  have hlt := hR.1
  have hml := hidW hP.1
  have hm1 : 1 ≤ m := by have := hP.1; rw [List.length_cons] at this; omega
  have hf8 := f.toNat_lt
  have ha := and31 ⟨f.toNat, hf8⟩
  simp only at ha
  go_enter Tryd.func69, Tryd.ntmps69
  go_wp2_with fail
  refine hb.mono ?_
  rintro e w1 (⟨h1, q', rfl, hw1, hR1, p1, p2⟩ | ⟨h1, -⟩)
  · obtain ⟨-, -, ⟨-, e0⟩ | ⟨b, o, rfl, hbR, hbl, hcell⟩⟩ := id p1
    · exact absurd hP.2.1 (by rw [hml.out, e0]; simp)
    have cf := hcell 0 f rfl
    rw [Nat.add_zero] at cf
    obtain ⟨fn, hfn⟩ : ∃ fn, Hid (f.toNat = fn) := ⟨_, rfl⟩
    rw [hfn.out] at cf ha hf8 hf
    have KW := hidW (And.intro hw1 (And.intro hR1 (And.intro p1 p2)))
    have c31 := hR1.cell 3 _ rfl
    have hlt1 := hR1.1
    clear hw1 hR1 p1 p2 hcell hb
    obtain ⟨k, hk⟩ : ∃ k, Hid (fn / 32 = k) := ⟨_, rfl⟩
    obtain ⟨nn, hnn⟩ : ∃ k, Hid (fn % 32 = k) := ⟨_, rfl⟩
    have hkz : (fn : Int) / 32 = (k : Int) := by have := hk.out; omega
    have hnz : (fn : Int) % 32 = (nn : Int) := by have := hnn.out; omega
    rw [hnn.out] at ha hf
    have hk8 : k < 8 := by have := hk.out; omega
    have hhd : Hid (hd k nn = [f]) := by
      show _ = _
      unfold hd
      rw [if_pos hf, ← hk.out, ← hnn.out, ← hfn.out]
      congr 1
      apply UInt8.toNat_inj.1
      have := f.toNat_lt
      simp
      omega
    have hrd : Hid (rdHead (f :: r) = some (k, nn, r)) := by
      show _ = _
      rw [rdHead, if_pos (by rw [hfn.out, hnn.out]; exact hf), hfn.out, hk.out, hnn.out]
    have h24 : ¬ (24 : Int) ≤ (nn : Int) := by omega
    have hH := headOf_c w1 k nn hk8 (by omega)
    go_upto_region 7 with fail
    go_wp2_with fail
    refine hH.mono ?_
    rintro e w2 ⟨v2, rfl, hb2, how⟩
    obtain ⟨q2, c2, rfl⟩ := slice_own how
    have hR2 := KW.out.2.1.below hb2
    have hpx : PBq w2 R (some ⟨b, o, none⟩) m c (f :: r) := by
      have h0 := hP.set 3 (.slice q' (m - 1) (c - 1))
      rw [← KW.out.1] at h0
      obtain ⟨a1, a2, ⟨h, -⟩ | ⟨b1, o1, e1, a3, a4, a5⟩⟩ := h0
      · cases h
      · exact ⟨a1, a2, Or.inr ⟨b1, o1, e1, a3, Nat.lt_of_lt_of_le a4 hb2.size, fun j u hj => by rw [hb2.cell (p := ⟨b1, _, none⟩) a4]; exact a5 j u hj⟩⟩
    obtain ⟨hsc, hp3⟩ := since_c w2 R h d n q' (m - 1) (c - 1) (some ⟨b, o, none⟩) m c (f :: r) (by omega) hm hR2 hpx
    have hE : Calls Tryd.prog 97 #[.slice q2 (hd k nn).length c2, .slice (some ⟨b, o, none⟩) (m - (m - 1)) c] w2 (fun e w' => e = .returned (.bool true) ∧ w' = w2) := by
      have h5 := equalB_c w2 q2 (hd k nn).length c2 (some ⟨b, o, none⟩) (m - (m - 1)) c (hd k nn) ((f :: r).take (m - (m - 1))) (own_pb how) (by
        obtain ⟨a1, a2, ⟨h, -⟩ | ⟨b1, o1, e1, a3, a4, a5⟩⟩ := hp3
        · cases h
        · exact ⟨some ⟨b, o, none⟩, c, by rw [← a1], Or.inr ⟨b1, o1, e1, a5⟩⟩)
      rw [hhd.out, show (f :: r).take (m - (m - 1)) = [f] by rw [show m - (m - 1) = 1 by omega]; rfl, decide_eq_true rfl] at h5
      rw [hhd.out]
      exact h5
    have HQ : Hid (RhR w R h d n (f :: r) (.returned (.tuple #[.int .i64 (k : Int), .int .u64 (nn : Int)])) w2) := by
      have hl : m - 1 = r.length := by rw [hml.out]; rfl
      refine ⟨?_, Or.inl ⟨k, nn, r, q', c - 1, hrd.out, rfl, by rw [← hl]; exact hR2, ?_⟩⟩
      · have h6 := (FrX.refl (· = R) w).setCell (a := ⟨R, 3, none⟩) (Or.inl rfl) (.slice q' (m - 1) (c - 1))
        rw [← KW.out.1] at h6
        exact h6.belowTo hb2
      · obtain ⟨a1, a2, ⟨h, h'⟩ | ⟨b1, o1, e1, a3, a4, a5⟩⟩ := KW.out.2.2.2
        · exact ⟨rfl, by rw [← hl]; exact a2, Or.inl ⟨h, h'⟩⟩
        · exact ⟨rfl, by rw [← hl]; exact a2, Or.inr ⟨b1, o1, e1, a3, Nat.lt_of_lt_of_le a4 hb2.size, fun j u hj => by rw [hb2.cell (p := ⟨b1, _, none⟩) a4]; exact a5 j u hj⟩⟩
    obtain ⟨k3, hk3⟩ : ∃ k3, Hid (m - (m - 1) = k3) := ⟨_, rfl⟩
    rw [hk3.out] at hsc hE
    obtain ⟨lh, hlh⟩ : ∃ lh, Hid ((hd k nn).length = lh) := ⟨_, rfl⟩
    rw [hlh.out] at hE ⊢
    clear hb2 how hR2 hpx hp3 hH
    go_wp2_with fail
    refine hsc.mono ?_
    rintro e w3 ⟨rfl, rfl⟩
    go_wp2_with fail
    refine hE.mono ?_
    rintro e w4 ⟨rfl, rfl⟩
    go_wp2_with fail
    refine (must_y _).mono ?_
    rintro e w5 ⟨rfl, rfl⟩
    go_wp2
    go_ret2
    exact HQ.out
  · exact absurd (by simp) h1
end WI
end Go.Proofs.YtfkgfcggcfkkiaaDoor
namespace Go.Proofs.YtfkgfcggcfkkiaaDoor
open Go.RowKit Go.Sort Go.Deep
namespace WI
set_option maxHeartbeats 1000000 in
set_option maxRecDepth 20000 in
theorem head_bad (w : World) (R h d n : Nat) (q : Option Addr) (m c : Nat) (f : UInt8) (r : List UInt8) (hm : m ≤ 1099511627776) (hR : RowS w R (wkc h d n (.slice q m c))) (hP : PBq w R q m c (f :: r)) (hf : 27 < f.toNat % 32) : Calls Tryd.prog 69 #[.pointer (some ⟨R, 0, none⟩)] w (RhR w R h d n (f :: r)) := by
  have hb := rbytes_c w R h d n q m c (f :: r) 1 (by decide) hm hR hP
  have c3 := hR.cell 3 _ rfl
  have hlt := hR.1
  have hml := hidW hP.1
  have hm1 : 1 ≤ m := by have := hP.1; rw [List.length_cons] at this; omega
  have hf8 := f.toNat_lt
  have ha := and31 ⟨f.toNat, hf8⟩
  simp only at ha
  go_enter Tryd.func69, Tryd.ntmps69
  go_wp2_with fail
  refine hb.mono ?_
  rintro e w1 (⟨h1, q', rfl, hw1, hR1, p1, p2⟩ | ⟨h1, -⟩)
  · obtain ⟨-, -, ⟨-, e0⟩ | ⟨b, o, rfl, hbR, hbl, hcell⟩⟩ := id p1
    · exact absurd hP.2.1 (by rw [hml.out, e0]; simp)
    have cf := hcell 0 f rfl
    rw [Nat.add_zero] at cf
    obtain ⟨fn, hfn⟩ : ∃ fn, Hid (f.toNat = fn) := ⟨_, rfl⟩
    rw [hfn.out] at cf ha hf8 hf
    have KW := hidW (And.intro hw1 (And.intro hR1 (And.intro p1 p2)))
    have c31 := hR1.cell 3 _ rfl
    have hlt1 := hR1.1
    clear hw1 hR1 p1 p2 hcell hb
    obtain ⟨k, hk⟩ : ∃ k, Hid (fn / 32 = k) := ⟨_, rfl⟩
    obtain ⟨nn, hnn⟩ : ∃ k, Hid (fn % 32 = k) := ⟨_, rfl⟩
    have hkz : (fn : Int) / 32 = (k : Int) := by have := hk.out; omega
    have hnz : (fn : Int) % 32 = (nn : Int) := by have := hnn.out; omega
    rw [hnn.out] at ha hf
    have hk8 : k < 8 := by have := hk.out; omega
    have h24 : (24 : Int) ≤ (nn : Int) := by omega
    have h27 : ¬ (nn : Int) ≤ 27 := by omega
    have HQ : Hid (RhR w R h d n (f :: r) thrown w1) := by
      refine ⟨?_, Or.inr ⟨?_, rfl⟩⟩
      · have h6 := (FrX.refl (· = R) w).setCell (a := ⟨R, 3, none⟩) (Or.inl rfl) (.slice q' (m - 1) (c - 1))
        rw [← KW.out.1] at h6
        exact h6
      · rw [rdHead, hfn.out, hnn.out, if_neg (by omega), if_pos hf]
    go_wp2_with fail
    rw [decide_eq_false (by omega : ¬ (nn : Int) ≤ 27)]
    refine (must_n _).mono ?_
    rintro e w5 ⟨rfl, rfl⟩
    simp only [Exit.inBlock, Exit.then, bodyPost]
    exact ⟨trivial, HQ.out⟩
  · exact absurd (by simp) h1
end WI
end Go.Proofs.YtfkgfcggcfkkiaaDoor
namespace Go.Proofs.YtfkgfcggcfkkiaaDoor
open Go.RowKit Go.Sort Go.Deep
namespace WI
set_option maxHeartbeats 1000000 in
set_option maxRecDepth 20000 in
theorem head_24 (w : World) (R h d n : Nat) (q : Option Addr) (m c : Nat) (f : UInt8) (r : List UInt8) (hm : m ≤ 1099511627776) (hR : RowS w R (wkc h d n (.slice q m c))) (hP : PBq w R q m c (f :: r)) (hf : f.toNat % 32 = 24) : Calls Tryd.prog 69 #[.pointer (some ⟨R, 0, none⟩)] w (RhR w R h d n (f :: r)) := by
  have hb := rbytes_c w R h d n q m c (f :: r) 1 (by decide) hm hR hP
  have c3 := hR.cell 3 _ rfl
  have hlt := hR.1
  have hml := hidW hP.1
  have hm1 : 1 ≤ m := by have := hP.1; rw [List.length_cons] at this; omega
  have hf8 := f.toNat_lt
  have ha := and31 ⟨f.toNat, hf8⟩
  simp only at ha
  go_enter Tryd.func69, Tryd.ntmps69
  go_wp2_with fail
  refine hb.mono ?_
  rintro e w1 (⟨h1, q', rfl, hw1, hR1, p1, p2⟩ | ⟨h1, -⟩)
  · obtain ⟨-, -, ⟨-, e0⟩ | ⟨b, o, rfl, hbR, hbl, hcell⟩⟩ := id p1
    · exact absurd hP.2.1 (by rw [hml.out, e0]; simp)
    have cf := hcell 0 f rfl
    rw [Nat.add_zero] at cf
    obtain ⟨fn, hfn⟩ : ∃ fn, Hid (f.toNat = fn) := ⟨_, rfl⟩
    rw [hfn.out] at cf ha hf8 hf
    have KW := hidW (And.intro hw1 (And.intro hR1 (And.intro p1 p2)))
    have c31 := hR1.cell 3 _ rfl
    have hlt1 := hR1.1
    clear hw1 hR1 p1 p2 hcell hb
    obtain ⟨k, hk⟩ : ∃ k, Hid (fn / 32 = k) := ⟨_, rfl⟩
    obtain ⟨nn, hnn⟩ : ∃ k, Hid (fn % 32 = k) := ⟨_, rfl⟩
    have hkz : (fn : Int) / 32 = (k : Int) := by have := hk.out; omega
    have hnz : (fn : Int) % 32 = 24 := by omega
    rw [hf] at ha
    have hk8 : k < 8 := by have := hk.out; omega
    have hb2 := rbytes_c w1 R h d n q' (m - 1) (c - 1) r 1 (by decide) (by omega) KW.out.2.1 KW.out.2.2.2
    have HF1 : Hid (FrX (· = R) w w1) := by
      have h6 := (FrX.refl (· = R) w).setCell (a := ⟨R, 3, none⟩) (Or.inl rfl) (.slice q' (m - 1) (c - 1))
      rw [← KW.out.1] at h6
      exact h6
    have hl : Hid (m - 1 = r.length) := by show _ = _; rw [hml.out]; rfl
    have hpx1 : Hid (PBq w1 R (some ⟨b, o, none⟩) m c (f :: r)) := by
      have h0 := hP.set 3 (.slice q' (m - 1) (c - 1))
      rw [← KW.out.1] at h0
      exact h0
    have hsz : Hid (2 ^ (f.toNat % 32 - 24) = 1) := by show _ = _; rw [hfn.out, hf]
    obtain ⟨m1, hm1d⟩ : ∃ m1, Hid (m - 1 = m1) := ⟨_, rfl⟩
    obtain ⟨c1, hc1d⟩ : ∃ c1, Hid (c - 1 = c1) := ⟨_, rfl⟩
    rw [hm1d.out, hc1d.out] at hb2 c31
    go_wp2_with fail
    refine (must_y _).mono ?_
    rintro e w5 ⟨rfl, rfl⟩
    go_wp2_with fail
    refine hb2.mono ?_
    rintro e w2 (⟨h1', q2, rfl, hw2, hR2, p3, p4⟩ | ⟨h1', rfl, rfl⟩)
    · obtain ⟨N, hN⟩ : ∃ N, Hid (ofBE (r.take 1) 0 = N) := ⟨_, rfl⟩
      have hno := numberOf_c w2 R q' 1 c1 (r.take 1) p3 (by decide)
      rw [hN.out] at hno
      have hN64 : N < 18446744073709551616 := by
        have h9 := ofBE_lt (r.take 1) 0
        have h10 : (r.take 1).length ≤ 8 := by rw [List.length_take]; omega
        have h11 : 256 ^ (r.take 1).length ≤ 256 ^ 8 := Nat.pow_le_pow_right (by decide) h10
        have h12 : (256 : Nat) ^ 8 = 18446744073709551616 := by decide
        rw [hN.out] at h9
        omega
      have hH := headOf_c w2 k N hk8 hN64
      have HF2 : Hid (FrX (· = R) w w2) := by rw [hw2]; exact HF1.out.setCell (a := ⟨R, 3, none⟩) (Or.inl rfl) _
      have hpx2 : Hid (PBq w2 R (some ⟨b, o, none⟩) m c (f :: r)) := by rw [hw2]; exact hpx1.out.set _ _
      have KR := hidW (And.intro hR2 p4)
      clear hw2 hR2 p3 p4
      go_wp2_with fail
      refine hno.mono ?_
      rintro e w6 ⟨rfl, rfl⟩
      go_wp2_with fail
      refine hH.mono ?_
      rintro e w3 ⟨v3, rfl, hb3, how⟩
      obtain ⟨q3, c3', rfl⟩ := slice_own how
      have hR3 := KR.out.1.below hb3
      have hpx3 : PBq w3 R (some ⟨b, o, none⟩) m c (f :: r) := by
        obtain ⟨a1, a2, ⟨h, -⟩ | ⟨b1, o1, e1, a3, a4, a5⟩⟩ := hpx2.out
        · cases h
        · exact ⟨a1, a2, Or.inr ⟨b1, o1, e1, a3, Nat.lt_of_lt_of_le a4 hb3.size, fun j u hj => by rw [hb3.cell (p := ⟨b1, _, none⟩) a4]; exact a5 j u hj⟩⟩
      have hlr := hl.out
      rw [hm1d.out] at hlr
      have hmm := hm1d.out
      obtain ⟨hsc, hp3⟩ := since_c w3 R h d n q2 (m1 - 1) (c1 - 1) (some ⟨b, o, none⟩) m c (f :: r) (by omega) hm hR3 hpx3
      have ek : m - (m1 - 1) = 1 + 1 := by omega
      rw [ek] at hsc hp3
      have hE := equalB_c w3 q3 (hd k N).length c3' (some ⟨b, o, none⟩) (1 + 1) c (hd k N) ((f :: r).take (1 + 1)) (own_pb how) (by
        obtain ⟨a1, a2, ⟨h, -⟩ | ⟨b1, o1, e1, a3, a4, a5⟩⟩ := hp3
        · cases h
        · exact ⟨some ⟨b, o, none⟩, c, by rw [← a1], Or.inr ⟨b1, o1, e1, a5⟩⟩)
      have HF3 := hidW (HF2.out.belowTo hb3)
      have KP : Hid (RowS w3 R (wkc h d n (.slice q2 (m1 - 1) (c1 - 1))) ∧ PBq w3 R q2 (m1 - 1) (c1 - 1) (r.drop 1)) := by
        refine ⟨hR3, ?_⟩
        obtain ⟨a1, a2, ⟨h, h'⟩ | ⟨b1, o1, e1, a3, a4, a5⟩⟩ := KR.out.2
        · exact ⟨a1, a2, Or.inl ⟨h, h'⟩⟩
        · exact ⟨a1, a2, Or.inr ⟨b1, o1, e1, a3, Nat.lt_of_lt_of_le a4 hb3.size, fun j u hj => by rw [hb3.cell (p := ⟨b1, _, none⟩) a4]; exact a5 j u hj⟩⟩
      have hrd : Hid (rdHead (f :: r) = if hd k N = (f :: r).take (1 + 1) then some (k, N, r.drop 1) else none) := by
        show _ = _
        rw [rdHead, hsz.out, hfn.out, hf, hk.out, if_neg (by decide), if_neg (by decide), if_neg (by omega), hN.out, List.take_succ_cons]
      have hkk : Hid ((r.drop 1).length = m1 - 1) := by show _ = _; rw [List.length_drop, hlr]
      obtain ⟨lh, hlh⟩ : ∃ lh, Hid ((hd k N).length = lh) := ⟨_, rfl⟩
      rw [hlh.out] at hE ⊢
      by_cases heq : hd k N = (f :: r).take (1 + 1)
      · rw [decide_eq_true heq] at hE
        have HQ : Hid (RhR w R h d n (f :: r) (.returned (.tuple #[.int .i64 (k : Int), .int .u64 (N : Int)])) w3) := ⟨HF3.out, Or.inl ⟨k, N, r.drop 1, q2, c1 - 1, by rw [hrd.out, if_pos heq], rfl, by rw [hkk.out]; exact KP.out.1, by rw [hkk.out]; exact KP.out.2⟩⟩
        clear hb3 how hR3 hpx3 hp3 hH hno heq hmm hlr ek
        go_wp2_with fail
        refine hsc.mono ?_
        rintro e w7 ⟨rfl, rfl⟩
        go_wp2_with fail
        refine hE.mono ?_
        rintro e w8 ⟨rfl, rfl⟩
        go_wp2_with fail
        refine (must_y _).mono ?_
        rintro e w9 ⟨rfl, rfl⟩
        go_wp2
        go_ret2
        exact HQ.out
      · rw [decide_eq_false heq] at hE
        have HQ : Hid (RhR w R h d n (f :: r) thrown w3) := ⟨HF3.out, Or.inr ⟨by rw [hrd.out, if_neg heq], rfl⟩⟩
        clear hb3 how hR3 hpx3 hp3 hH hno heq hmm hlr ek
        go_wp2_with fail
        refine hsc.mono ?_
        rintro e w7 ⟨rfl, rfl⟩
        go_wp2_with fail
        refine hE.mono ?_
        rintro e w8 ⟨rfl, rfl⟩
        go_wp2_with fail
        refine (must_n _).mono ?_
        rintro e w9 ⟨rfl, rfl⟩
        simp only [Exit.inBlock, Exit.then, bodyPost]
        exact ⟨trivial, HQ.out⟩
    · have HQ : Hid (RhR w R h d n (f :: r) thrown w2) := by
        refine ⟨HF1.out, Or.inr ⟨?_, rfl⟩⟩
        rw [rdHead, hsz.out, hfn.out, hf, if_neg (by decide), if_neg (by decide), if_pos (by omega)]
      simp only [Exit.inBlock, Exit.then, bodyPost, thrown]
      exact ⟨trivial, HQ.out⟩
  · exact absurd (by simp) h1
set_option maxHeartbeats 1000000 in
set_option maxRecDepth 20000 in
theorem head_25 (w : World) (R h d n : Nat) (q : Option Addr) (m c : Nat) (f : UInt8) (r : List UInt8) (hm : m ≤ 1099511627776) (hR : RowS w R (wkc h d n (.slice q m c))) (hP : PBq w R q m c (f :: r)) (hf : f.toNat % 32 = 25) : Calls Tryd.prog 69 #[.pointer (some ⟨R, 0, none⟩)] w (RhR w R h d n (f :: r)) := by
  have hb := rbytes_c w R h d n q m c (f :: r) 1 (by decide) hm hR hP
  have c3 := hR.cell 3 _ rfl
  have hlt := hR.1
  have hml := hidW hP.1
  have hm1 : 1 ≤ m := by have := hP.1; rw [List.length_cons] at this; omega
  have hf8 := f.toNat_lt
  have ha := and31 ⟨f.toNat, hf8⟩
  simp only at ha
  go_enter Tryd.func69, Tryd.ntmps69
  go_wp2_with fail
  refine hb.mono ?_
  rintro e w1 (⟨h1, q', rfl, hw1, hR1, p1, p2⟩ | ⟨h1, -⟩)
  · obtain ⟨-, -, ⟨-, e0⟩ | ⟨b, o, rfl, hbR, hbl, hcell⟩⟩ := id p1
    · exact absurd hP.2.1 (by rw [hml.out, e0]; simp)
    have cf := hcell 0 f rfl
    rw [Nat.add_zero] at cf
    obtain ⟨fn, hfn⟩ : ∃ fn, Hid (f.toNat = fn) := ⟨_, rfl⟩
    rw [hfn.out] at cf ha hf8 hf
    have KW := hidW (And.intro hw1 (And.intro hR1 (And.intro p1 p2)))
    have c31 := hR1.cell 3 _ rfl
    have hlt1 := hR1.1
    clear hw1 hR1 p1 p2 hcell hb
    obtain ⟨k, hk⟩ : ∃ k, Hid (fn / 32 = k) := ⟨_, rfl⟩
    obtain ⟨nn, hnn⟩ : ∃ k, Hid (fn % 32 = k) := ⟨_, rfl⟩
    have hkz : (fn : Int) / 32 = (k : Int) := by have := hk.out; omega
    have hnz : (fn : Int) % 32 = 25 := by omega
    rw [hf] at ha
    have hk8 : k < 8 := by have := hk.out; omega
    have hb2 := rbytes_c w1 R h d n q' (m - 1) (c - 1) r 2 (by decide) (by omega) KW.out.2.1 KW.out.2.2.2
    have HF1 : Hid (FrX (· = R) w w1) := by
      have h6 := (FrX.refl (· = R) w).setCell (a := ⟨R, 3, none⟩) (Or.inl rfl) (.slice q' (m - 1) (c - 1))
      rw [← KW.out.1] at h6
      exact h6
    have hl : Hid (m - 1 = r.length) := by show _ = _; rw [hml.out]; rfl
    have hpx1 : Hid (PBq w1 R (some ⟨b, o, none⟩) m c (f :: r)) := by
      have h0 := hP.set 3 (.slice q' (m - 1) (c - 1))
      rw [← KW.out.1] at h0
      exact h0
    have hsz : Hid (2 ^ (f.toNat % 32 - 24) = 2) := by show _ = _; rw [hfn.out, hf]
    obtain ⟨m1, hm1d⟩ : ∃ m1, Hid (m - 1 = m1) := ⟨_, rfl⟩
    obtain ⟨c1, hc1d⟩ : ∃ c1, Hid (c - 1 = c1) := ⟨_, rfl⟩
    rw [hm1d.out, hc1d.out] at hb2 c31
    go_wp2_with fail
    refine (must_y _).mono ?_
    rintro e w5 ⟨rfl, rfl⟩
    go_wp2_with fail
    refine hb2.mono ?_
    rintro e w2 (⟨h1', q2, rfl, hw2, hR2, p3, p4⟩ | ⟨h1', rfl, rfl⟩)
    · obtain ⟨N, hN⟩ : ∃ N, Hid (ofBE (r.take 2) 0 = N) := ⟨_, rfl⟩
      have hno := numberOf_c w2 R q' 2 c1 (r.take 2) p3 (by decide)
      rw [hN.out] at hno
      have hN64 : N < 18446744073709551616 := by
        have h9 := ofBE_lt (r.take 2) 0
        have h10 : (r.take 2).length ≤ 8 := by rw [List.length_take]; omega
        have h11 : 256 ^ (r.take 2).length ≤ 256 ^ 8 := Nat.pow_le_pow_right (by decide) h10
        have h12 : (256 : Nat) ^ 8 = 18446744073709551616 := by decide
        rw [hN.out] at h9
        omega
      have hH := headOf_c w2 k N hk8 hN64
      have HF2 : Hid (FrX (· = R) w w2) := by rw [hw2]; exact HF1.out.setCell (a := ⟨R, 3, none⟩) (Or.inl rfl) _
      have hpx2 : Hid (PBq w2 R (some ⟨b, o, none⟩) m c (f :: r)) := by rw [hw2]; exact hpx1.out.set _ _
      have KR := hidW (And.intro hR2 p4)
      clear hw2 hR2 p3 p4
      go_wp2_with fail
      refine hno.mono ?_
      rintro e w6 ⟨rfl, rfl⟩
      go_wp2_with fail
      refine hH.mono ?_
      rintro e w3 ⟨v3, rfl, hb3, how⟩
      obtain ⟨q3, c3', rfl⟩ := slice_own how
      have hR3 := KR.out.1.below hb3
      have hpx3 : PBq w3 R (some ⟨b, o, none⟩) m c (f :: r) := by
        obtain ⟨a1, a2, ⟨h, -⟩ | ⟨b1, o1, e1, a3, a4, a5⟩⟩ := hpx2.out
        · cases h
        · exact ⟨a1, a2, Or.inr ⟨b1, o1, e1, a3, Nat.lt_of_lt_of_le a4 hb3.size, fun j u hj => by rw [hb3.cell (p := ⟨b1, _, none⟩) a4]; exact a5 j u hj⟩⟩
      have hlr := hl.out
      rw [hm1d.out] at hlr
      have hmm := hm1d.out
      obtain ⟨hsc, hp3⟩ := since_c w3 R h d n q2 (m1 - 2) (c1 - 2) (some ⟨b, o, none⟩) m c (f :: r) (by omega) hm hR3 hpx3
      have ek : m - (m1 - 2) = 2 + 1 := by omega
      rw [ek] at hsc hp3
      have hE := equalB_c w3 q3 (hd k N).length c3' (some ⟨b, o, none⟩) (2 + 1) c (hd k N) ((f :: r).take (2 + 1)) (own_pb how) (by
        obtain ⟨a1, a2, ⟨h, -⟩ | ⟨b1, o1, e1, a3, a4, a5⟩⟩ := hp3
        · cases h
        · exact ⟨some ⟨b, o, none⟩, c, by rw [← a1], Or.inr ⟨b1, o1, e1, a5⟩⟩)
      have HF3 := hidW (HF2.out.belowTo hb3)
      have KP : Hid (RowS w3 R (wkc h d n (.slice q2 (m1 - 2) (c1 - 2))) ∧ PBq w3 R q2 (m1 - 2) (c1 - 2) (r.drop 2)) := by
        refine ⟨hR3, ?_⟩
        obtain ⟨a1, a2, ⟨h, h'⟩ | ⟨b1, o1, e1, a3, a4, a5⟩⟩ := KR.out.2
        · exact ⟨a1, a2, Or.inl ⟨h, h'⟩⟩
        · exact ⟨a1, a2, Or.inr ⟨b1, o1, e1, a3, Nat.lt_of_lt_of_le a4 hb3.size, fun j u hj => by rw [hb3.cell (p := ⟨b1, _, none⟩) a4]; exact a5 j u hj⟩⟩
      have hrd : Hid (rdHead (f :: r) = if hd k N = (f :: r).take (2 + 1) then some (k, N, r.drop 2) else none) := by
        show _ = _
        rw [rdHead, hsz.out, hfn.out, hf, hk.out, if_neg (by decide), if_neg (by decide), if_neg (by omega), hN.out, List.take_succ_cons]
      have hkk : Hid ((r.drop 2).length = m1 - 2) := by show _ = _; rw [List.length_drop, hlr]
      obtain ⟨lh, hlh⟩ : ∃ lh, Hid ((hd k N).length = lh) := ⟨_, rfl⟩
      rw [hlh.out] at hE ⊢
      by_cases heq : hd k N = (f :: r).take (2 + 1)
      · rw [decide_eq_true heq] at hE
        have HQ : Hid (RhR w R h d n (f :: r) (.returned (.tuple #[.int .i64 (k : Int), .int .u64 (N : Int)])) w3) := ⟨HF3.out, Or.inl ⟨k, N, r.drop 2, q2, c1 - 2, by rw [hrd.out, if_pos heq], rfl, by rw [hkk.out]; exact KP.out.1, by rw [hkk.out]; exact KP.out.2⟩⟩
        clear hb3 how hR3 hpx3 hp3 hH hno heq hmm hlr ek
        go_wp2_with fail
        refine hsc.mono ?_
        rintro e w7 ⟨rfl, rfl⟩
        go_wp2_with fail
        refine hE.mono ?_
        rintro e w8 ⟨rfl, rfl⟩
        go_wp2_with fail
        refine (must_y _).mono ?_
        rintro e w9 ⟨rfl, rfl⟩
        go_wp2
        go_ret2
        exact HQ.out
      · rw [decide_eq_false heq] at hE
        have HQ : Hid (RhR w R h d n (f :: r) thrown w3) := ⟨HF3.out, Or.inr ⟨by rw [hrd.out, if_neg heq], rfl⟩⟩
        clear hb3 how hR3 hpx3 hp3 hH hno heq hmm hlr ek
        go_wp2_with fail
        refine hsc.mono ?_
        rintro e w7 ⟨rfl, rfl⟩
        go_wp2_with fail
        refine hE.mono ?_
        rintro e w8 ⟨rfl, rfl⟩
        go_wp2_with fail
        refine (must_n _).mono ?_
        rintro e w9 ⟨rfl, rfl⟩
        simp only [Exit.inBlock, Exit.then, bodyPost]
        exact ⟨trivial, HQ.out⟩
    · have HQ : Hid (RhR w R h d n (f :: r) thrown w2) := by
        refine ⟨HF1.out, Or.inr ⟨?_, rfl⟩⟩
        rw [rdHead, hsz.out, hfn.out, hf, if_neg (by decide), if_neg (by decide), if_pos (by omega)]
      simp only [Exit.inBlock, Exit.then, bodyPost, thrown]
      exact ⟨trivial, HQ.out⟩
  · exact absurd (by simp) h1
set_option maxHeartbeats 1000000 in
set_option maxRecDepth 20000 in
theorem head_26 (w : World) (R h d n : Nat) (q : Option Addr) (m c : Nat) (f : UInt8) (r : List UInt8) (hm : m ≤ 1099511627776) (hR : RowS w R (wkc h d n (.slice q m c))) (hP : PBq w R q m c (f :: r)) (hf : f.toNat % 32 = 26) : Calls Tryd.prog 69 #[.pointer (some ⟨R, 0, none⟩)] w (RhR w R h d n (f :: r)) := by
  have hb := rbytes_c w R h d n q m c (f :: r) 1 (by decide) hm hR hP
  have c3 := hR.cell 3 _ rfl
  have hlt := hR.1
  have hml := hidW hP.1
  have hm1 : 1 ≤ m := by have := hP.1; rw [List.length_cons] at this; omega
  have hf8 := f.toNat_lt
  have ha := and31 ⟨f.toNat, hf8⟩
  simp only at ha
  go_enter Tryd.func69, Tryd.ntmps69
  go_wp2_with fail
  refine hb.mono ?_
  rintro e w1 (⟨h1, q', rfl, hw1, hR1, p1, p2⟩ | ⟨h1, -⟩)
  · obtain ⟨-, -, ⟨-, e0⟩ | ⟨b, o, rfl, hbR, hbl, hcell⟩⟩ := id p1
    · exact absurd hP.2.1 (by rw [hml.out, e0]; simp)
    have cf := hcell 0 f rfl
    rw [Nat.add_zero] at cf
    obtain ⟨fn, hfn⟩ : ∃ fn, Hid (f.toNat = fn) := ⟨_, rfl⟩
    rw [hfn.out] at cf ha hf8 hf
    have KW := hidW (And.intro hw1 (And.intro hR1 (And.intro p1 p2)))
    have c31 := hR1.cell 3 _ rfl
    have hlt1 := hR1.1
    clear hw1 hR1 p1 p2 hcell hb
    obtain ⟨k, hk⟩ : ∃ k, Hid (fn / 32 = k) := ⟨_, rfl⟩
    obtain ⟨nn, hnn⟩ : ∃ k, Hid (fn % 32 = k) := ⟨_, rfl⟩
    have hkz : (fn : Int) / 32 = (k : Int) := by have := hk.out; omega
    have hnz : (fn : Int) % 32 = 26 := by omega
    rw [hf] at ha
    have hk8 : k < 8 := by have := hk.out; omega
    have hb2 := rbytes_c w1 R h d n q' (m - 1) (c - 1) r 4 (by decide) (by omega) KW.out.2.1 KW.out.2.2.2
    have HF1 : Hid (FrX (· = R) w w1) := by
      have h6 := (FrX.refl (· = R) w).setCell (a := ⟨R, 3, none⟩) (Or.inl rfl) (.slice q' (m - 1) (c - 1))
      rw [← KW.out.1] at h6
      exact h6
    have hl : Hid (m - 1 = r.length) := by show _ = _; rw [hml.out]; rfl
    have hpx1 : Hid (PBq w1 R (some ⟨b, o, none⟩) m c (f :: r)) := by
      have h0 := hP.set 3 (.slice q' (m - 1) (c - 1))
      rw [← KW.out.1] at h0
      exact h0
    have hsz : Hid (2 ^ (f.toNat % 32 - 24) = 4) := by show _ = _; rw [hfn.out, hf]
    obtain ⟨m1, hm1d⟩ : ∃ m1, Hid (m - 1 = m1) := ⟨_, rfl⟩
    obtain ⟨c1, hc1d⟩ : ∃ c1, Hid (c - 1 = c1) := ⟨_, rfl⟩
    rw [hm1d.out, hc1d.out] at hb2 c31
    go_wp2_with fail
    refine (must_y _).mono ?_
    rintro e w5 ⟨rfl, rfl⟩
    go_wp2_with fail
    refine hb2.mono ?_
    rintro e w2 (⟨h1', q2, rfl, hw2, hR2, p3, p4⟩ | ⟨h1', rfl, rfl⟩)
    · obtain ⟨N, hN⟩ : ∃ N, Hid (ofBE (r.take 4) 0 = N) := ⟨_, rfl⟩
      have hno := numberOf_c w2 R q' 4 c1 (r.take 4) p3 (by decide)
      rw [hN.out] at hno
      have hN64 : N < 18446744073709551616 := by
        have h9 := ofBE_lt (r.take 4) 0
        have h10 : (r.take 4).length ≤ 8 := by rw [List.length_take]; omega
        have h11 : 256 ^ (r.take 4).length ≤ 256 ^ 8 := Nat.pow_le_pow_right (by decide) h10
        have h12 : (256 : Nat) ^ 8 = 18446744073709551616 := by decide
        rw [hN.out] at h9
        omega
      have hH := headOf_c w2 k N hk8 hN64
      have HF2 : Hid (FrX (· = R) w w2) := by rw [hw2]; exact HF1.out.setCell (a := ⟨R, 3, none⟩) (Or.inl rfl) _
      have hpx2 : Hid (PBq w2 R (some ⟨b, o, none⟩) m c (f :: r)) := by rw [hw2]; exact hpx1.out.set _ _
      have KR := hidW (And.intro hR2 p4)
      clear hw2 hR2 p3 p4
      go_wp2_with fail
      refine hno.mono ?_
      rintro e w6 ⟨rfl, rfl⟩
      go_wp2_with fail
      refine hH.mono ?_
      rintro e w3 ⟨v3, rfl, hb3, how⟩
      obtain ⟨q3, c3', rfl⟩ := slice_own how
      have hR3 := KR.out.1.below hb3
      have hpx3 : PBq w3 R (some ⟨b, o, none⟩) m c (f :: r) := by
        obtain ⟨a1, a2, ⟨h, -⟩ | ⟨b1, o1, e1, a3, a4, a5⟩⟩ := hpx2.out
        · cases h
        · exact ⟨a1, a2, Or.inr ⟨b1, o1, e1, a3, Nat.lt_of_lt_of_le a4 hb3.size, fun j u hj => by rw [hb3.cell (p := ⟨b1, _, none⟩) a4]; exact a5 j u hj⟩⟩
      have hlr := hl.out
      rw [hm1d.out] at hlr
      have hmm := hm1d.out
      obtain ⟨hsc, hp3⟩ := since_c w3 R h d n q2 (m1 - 4) (c1 - 4) (some ⟨b, o, none⟩) m c (f :: r) (by omega) hm hR3 hpx3
      have ek : m - (m1 - 4) = 4 + 1 := by omega
      rw [ek] at hsc hp3
      have hE := equalB_c w3 q3 (hd k N).length c3' (some ⟨b, o, none⟩) (4 + 1) c (hd k N) ((f :: r).take (4 + 1)) (own_pb how) (by
        obtain ⟨a1, a2, ⟨h, -⟩ | ⟨b1, o1, e1, a3, a4, a5⟩⟩ := hp3
        · cases h
        · exact ⟨some ⟨b, o, none⟩, c, by rw [← a1], Or.inr ⟨b1, o1, e1, a5⟩⟩)
      have HF3 := hidW (HF2.out.belowTo hb3)
      have KP : Hid (RowS w3 R (wkc h d n (.slice q2 (m1 - 4) (c1 - 4))) ∧ PBq w3 R q2 (m1 - 4) (c1 - 4) (r.drop 4)) := by
        refine ⟨hR3, ?_⟩
        obtain ⟨a1, a2, ⟨h, h'⟩ | ⟨b1, o1, e1, a3, a4, a5⟩⟩ := KR.out.2
        · exact ⟨a1, a2, Or.inl ⟨h, h'⟩⟩
        · exact ⟨a1, a2, Or.inr ⟨b1, o1, e1, a3, Nat.lt_of_lt_of_le a4 hb3.size, fun j u hj => by rw [hb3.cell (p := ⟨b1, _, none⟩) a4]; exact a5 j u hj⟩⟩
      have hrd : Hid (rdHead (f :: r) = if hd k N = (f :: r).take (4 + 1) then some (k, N, r.drop 4) else none) := by
        show _ = _
        rw [rdHead, hsz.out, hfn.out, hf, hk.out, if_neg (by decide), if_neg (by decide), if_neg (by omega), hN.out, List.take_succ_cons]
      have hkk : Hid ((r.drop 4).length = m1 - 4) := by show _ = _; rw [List.length_drop, hlr]
      obtain ⟨lh, hlh⟩ : ∃ lh, Hid ((hd k N).length = lh) := ⟨_, rfl⟩
      rw [hlh.out] at hE ⊢
      by_cases heq : hd k N = (f :: r).take (4 + 1)
      · rw [decide_eq_true heq] at hE
        have HQ : Hid (RhR w R h d n (f :: r) (.returned (.tuple #[.int .i64 (k : Int), .int .u64 (N : Int)])) w3) := ⟨HF3.out, Or.inl ⟨k, N, r.drop 4, q2, c1 - 4, by rw [hrd.out, if_pos heq], rfl, by rw [hkk.out]; exact KP.out.1, by rw [hkk.out]; exact KP.out.2⟩⟩
        clear hb3 how hR3 hpx3 hp3 hH hno heq hmm hlr ek
        go_wp2_with fail
        refine hsc.mono ?_
        rintro e w7 ⟨rfl, rfl⟩
        go_wp2_with fail
        refine hE.mono ?_
        rintro e w8 ⟨rfl, rfl⟩
        go_wp2_with fail
        refine (must_y _).mono ?_
        rintro e w9 ⟨rfl, rfl⟩
        go_wp2
        go_ret2
        exact HQ.out
      · rw [decide_eq_false heq] at hE
        have HQ : Hid (RhR w R h d n (f :: r) thrown w3) := ⟨HF3.out, Or.inr ⟨by rw [hrd.out, if_neg heq], rfl⟩⟩
        clear hb3 how hR3 hpx3 hp3 hH hno heq hmm hlr ek
        go_wp2_with fail
        refine hsc.mono ?_
        rintro e w7 ⟨rfl, rfl⟩
        go_wp2_with fail
        refine hE.mono ?_
        rintro e w8 ⟨rfl, rfl⟩
        go_wp2_with fail
        refine (must_n _).mono ?_
        rintro e w9 ⟨rfl, rfl⟩
        simp only [Exit.inBlock, Exit.then, bodyPost]
        exact ⟨trivial, HQ.out⟩
    · have HQ : Hid (RhR w R h d n (f :: r) thrown w2) := by
        refine ⟨HF1.out, Or.inr ⟨?_, rfl⟩⟩
        rw [rdHead, hsz.out, hfn.out, hf, if_neg (by decide), if_neg (by decide), if_pos (by omega)]
      simp only [Exit.inBlock, Exit.then, bodyPost, thrown]
      exact ⟨trivial, HQ.out⟩
  · exact absurd (by simp) h1
set_option maxHeartbeats 1000000 in
set_option maxRecDepth 20000 in
theorem head_27 (w : World) (R h d n : Nat) (q : Option Addr) (m c : Nat) (f : UInt8) (r : List UInt8) (hm : m ≤ 1099511627776) (hR : RowS w R (wkc h d n (.slice q m c))) (hP : PBq w R q m c (f :: r)) (hf : f.toNat % 32 = 27) : Calls Tryd.prog 69 #[.pointer (some ⟨R, 0, none⟩)] w (RhR w R h d n (f :: r)) := by
  have hb := rbytes_c w R h d n q m c (f :: r) 1 (by decide) hm hR hP
  have c3 := hR.cell 3 _ rfl
  have hlt := hR.1
  have hml := hidW hP.1
  have hm1 : 1 ≤ m := by have := hP.1; rw [List.length_cons] at this; omega
  have hf8 := f.toNat_lt
  have ha := and31 ⟨f.toNat, hf8⟩
  simp only at ha
  go_enter Tryd.func69, Tryd.ntmps69
  go_wp2_with fail
  refine hb.mono ?_
  rintro e w1 (⟨h1, q', rfl, hw1, hR1, p1, p2⟩ | ⟨h1, -⟩)
  · obtain ⟨-, -, ⟨-, e0⟩ | ⟨b, o, rfl, hbR, hbl, hcell⟩⟩ := id p1
    · exact absurd hP.2.1 (by rw [hml.out, e0]; simp)
    have cf := hcell 0 f rfl
    rw [Nat.add_zero] at cf
    obtain ⟨fn, hfn⟩ : ∃ fn, Hid (f.toNat = fn) := ⟨_, rfl⟩
    rw [hfn.out] at cf ha hf8 hf
    have KW := hidW (And.intro hw1 (And.intro hR1 (And.intro p1 p2)))
    have c31 := hR1.cell 3 _ rfl
    have hlt1 := hR1.1
    clear hw1 hR1 p1 p2 hcell hb
    obtain ⟨k, hk⟩ : ∃ k, Hid (fn / 32 = k) := ⟨_, rfl⟩
    obtain ⟨nn, hnn⟩ : ∃ k, Hid (fn % 32 = k) := ⟨_, rfl⟩
    have hkz : (fn : Int) / 32 = (k : Int) := by have := hk.out; omega
    have hnz : (fn : Int) % 32 = 27 := by omega
    rw [hf] at ha
    have hk8 : k < 8 := by have := hk.out; omega
    have hb2 := rbytes_c w1 R h d n q' (m - 1) (c - 1) r 8 (by decide) (by omega) KW.out.2.1 KW.out.2.2.2
    have HF1 : Hid (FrX (· = R) w w1) := by
      have h6 := (FrX.refl (· = R) w).setCell (a := ⟨R, 3, none⟩) (Or.inl rfl) (.slice q' (m - 1) (c - 1))
      rw [← KW.out.1] at h6
      exact h6
    have hl : Hid (m - 1 = r.length) := by show _ = _; rw [hml.out]; rfl
    have hpx1 : Hid (PBq w1 R (some ⟨b, o, none⟩) m c (f :: r)) := by
      have h0 := hP.set 3 (.slice q' (m - 1) (c - 1))
      rw [← KW.out.1] at h0
      exact h0
    have hsz : Hid (2 ^ (f.toNat % 32 - 24) = 8) := by show _ = _; rw [hfn.out, hf]
    obtain ⟨m1, hm1d⟩ : ∃ m1, Hid (m - 1 = m1) := ⟨_, rfl⟩
    obtain ⟨c1, hc1d⟩ : ∃ c1, Hid (c - 1 = c1) := ⟨_, rfl⟩
    rw [hm1d.out, hc1d.out] at hb2 c31
    go_wp2_with fail
    refine (must_y _).mono ?_
    rintro e w5 ⟨rfl, rfl⟩
    go_wp2_with fail
    refine hb2.mono ?_
    rintro e w2 (⟨h1', q2, rfl, hw2, hR2, p3, p4⟩ | ⟨h1', rfl, rfl⟩)
    · obtain ⟨N, hN⟩ : ∃ N, Hid (ofBE (r.take 8) 0 = N) := ⟨_, rfl⟩
      have hno := numberOf_c w2 R q' 8 c1 (r.take 8) p3 (by decide)
      rw [hN.out] at hno
      have hN64 : N < 18446744073709551616 := by
        have h9 := ofBE_lt (r.take 8) 0
        have h10 : (r.take 8).length ≤ 8 := by rw [List.length_take]; omega
        have h11 : 256 ^ (r.take 8).length ≤ 256 ^ 8 := Nat.pow_le_pow_right (by decide) h10
        have h12 : (256 : Nat) ^ 8 = 18446744073709551616 := by decide
        rw [hN.out] at h9
        omega
      have hH := headOf_c w2 k N hk8 hN64
      have HF2 : Hid (FrX (· = R) w w2) := by rw [hw2]; exact HF1.out.setCell (a := ⟨R, 3, none⟩) (Or.inl rfl) _
      have hpx2 : Hid (PBq w2 R (some ⟨b, o, none⟩) m c (f :: r)) := by rw [hw2]; exact hpx1.out.set _ _
      have KR := hidW (And.intro hR2 p4)
      clear hw2 hR2 p3 p4
      go_wp2_with fail
      refine hno.mono ?_
      rintro e w6 ⟨rfl, rfl⟩
      go_wp2_with fail
      refine hH.mono ?_
      rintro e w3 ⟨v3, rfl, hb3, how⟩
      obtain ⟨q3, c3', rfl⟩ := slice_own how
      have hR3 := KR.out.1.below hb3
      have hpx3 : PBq w3 R (some ⟨b, o, none⟩) m c (f :: r) := by
        obtain ⟨a1, a2, ⟨h, -⟩ | ⟨b1, o1, e1, a3, a4, a5⟩⟩ := hpx2.out
        · cases h
        · exact ⟨a1, a2, Or.inr ⟨b1, o1, e1, a3, Nat.lt_of_lt_of_le a4 hb3.size, fun j u hj => by rw [hb3.cell (p := ⟨b1, _, none⟩) a4]; exact a5 j u hj⟩⟩
      have hlr := hl.out
      rw [hm1d.out] at hlr
      have hmm := hm1d.out
      obtain ⟨hsc, hp3⟩ := since_c w3 R h d n q2 (m1 - 8) (c1 - 8) (some ⟨b, o, none⟩) m c (f :: r) (by omega) hm hR3 hpx3
      have ek : m - (m1 - 8) = 8 + 1 := by omega
      rw [ek] at hsc hp3
      have hE := equalB_c w3 q3 (hd k N).length c3' (some ⟨b, o, none⟩) (8 + 1) c (hd k N) ((f :: r).take (8 + 1)) (own_pb how) (by
        obtain ⟨a1, a2, ⟨h, -⟩ | ⟨b1, o1, e1, a3, a4, a5⟩⟩ := hp3
        · cases h
        · exact ⟨some ⟨b, o, none⟩, c, by rw [← a1], Or.inr ⟨b1, o1, e1, a5⟩⟩)
      have HF3 := hidW (HF2.out.belowTo hb3)
      have KP : Hid (RowS w3 R (wkc h d n (.slice q2 (m1 - 8) (c1 - 8))) ∧ PBq w3 R q2 (m1 - 8) (c1 - 8) (r.drop 8)) := by
        refine ⟨hR3, ?_⟩
        obtain ⟨a1, a2, ⟨h, h'⟩ | ⟨b1, o1, e1, a3, a4, a5⟩⟩ := KR.out.2
        · exact ⟨a1, a2, Or.inl ⟨h, h'⟩⟩
        · exact ⟨a1, a2, Or.inr ⟨b1, o1, e1, a3, Nat.lt_of_lt_of_le a4 hb3.size, fun j u hj => by rw [hb3.cell (p := ⟨b1, _, none⟩) a4]; exact a5 j u hj⟩⟩
      have hrd : Hid (rdHead (f :: r) = if hd k N = (f :: r).take (8 + 1) then some (k, N, r.drop 8) else none) := by
        show _ = _
        rw [rdHead, hsz.out, hfn.out, hf, hk.out, if_neg (by decide), if_neg (by decide), if_neg (by omega), hN.out, List.take_succ_cons]
      have hkk : Hid ((r.drop 8).length = m1 - 8) := by show _ = _; rw [List.length_drop, hlr]
      obtain ⟨lh, hlh⟩ : ∃ lh, Hid ((hd k N).length = lh) := ⟨_, rfl⟩
      rw [hlh.out] at hE ⊢
      by_cases heq : hd k N = (f :: r).take (8 + 1)
      · rw [decide_eq_true heq] at hE
        have HQ : Hid (RhR w R h d n (f :: r) (.returned (.tuple #[.int .i64 (k : Int), .int .u64 (N : Int)])) w3) := ⟨HF3.out, Or.inl ⟨k, N, r.drop 8, q2, c1 - 8, by rw [hrd.out, if_pos heq], rfl, by rw [hkk.out]; exact KP.out.1, by rw [hkk.out]; exact KP.out.2⟩⟩
        clear hb3 how hR3 hpx3 hp3 hH hno heq hmm hlr ek
        go_wp2_with fail
        refine hsc.mono ?_
        rintro e w7 ⟨rfl, rfl⟩
        go_wp2_with fail
        refine hE.mono ?_
        rintro e w8 ⟨rfl, rfl⟩
        go_wp2_with fail
        refine (must_y _).mono ?_
        rintro e w9 ⟨rfl, rfl⟩
        go_wp2
        go_ret2
        exact HQ.out
      · rw [decide_eq_false heq] at hE
        have HQ : Hid (RhR w R h d n (f :: r) thrown w3) := ⟨HF3.out, Or.inr ⟨by rw [hrd.out, if_neg heq], rfl⟩⟩
        clear hb3 how hR3 hpx3 hp3 hH hno heq hmm hlr ek
        go_wp2_with fail
        refine hsc.mono ?_
        rintro e w7 ⟨rfl, rfl⟩
        go_wp2_with fail
        refine hE.mono ?_
        rintro e w8 ⟨rfl, rfl⟩
        go_wp2_with fail
        refine (must_n _).mono ?_
        rintro e w9 ⟨rfl, rfl⟩
        simp only [Exit.inBlock, Exit.then, bodyPost]
        exact ⟨trivial, HQ.out⟩
    · have HQ : Hid (RhR w R h d n (f :: r) thrown w2) := by
        refine ⟨HF1.out, Or.inr ⟨?_, rfl⟩⟩
        rw [rdHead, hsz.out, hfn.out, hf, if_neg (by decide), if_neg (by decide), if_pos (by omega)]
      simp only [Exit.inBlock, Exit.then, bodyPost, thrown]
      exact ⟨trivial, HQ.out⟩
  · exact absurd (by simp) h1
/-- THE READER'S HEAD. -/
theorem rdhead_c (w : World) (R h d n : Nat) (q : Option Addr) (m c : Nat) (x : List UInt8) (hm : m ≤ 1099511627776) (hR : RowS w R (wkc h d n (.slice q m c))) (hP : PBq w R q m c x) : Calls Tryd.prog 69 #[.pointer (some ⟨R, 0, none⟩)] w (RhR w R h d n x) := by
  cases x with
  | nil => exact head_nil w R h d n q m c hR hP
  | cons f r =>
    by_cases h1 : f.toNat % 32 < 24
    · exact head_few w R h d n q m c f r hm hR hP h1
    · by_cases h2 : 27 < f.toNat % 32
      · exact head_bad w R h d n q m c f r hm hR hP h2
      · obtain e | e | e | e : f.toNat % 32 = 24 ∨ f.toNat % 32 = 25 ∨ f.toNat % 32 = 26 ∨ f.toNat % 32 = 27 := by omega
        · exact head_24 w R h d n q m c f r hm hR hP e
        · exact head_25 w R h d n q m c f r hm hR hP e
        · exact head_26 w R h d n q m c f r hm hR hP e
        · exact head_27 w R h d n q m c f r hm hR hP e
end WI
end Go.Proofs.YtfkgfcggcfkkiaaDoor
namespace Go.Proofs.YtfkgfcggcfkkiaaDoor
open Go.RowKit Go.Sort Go.Deep
namespace WI
theorem strcat (x y : List UInt8) (h : x.length + y.length ≤ 9223372036854775807) (w : World) : (binOp .add 9 (.string ⟨x.toArray⟩) (.string ⟨y.toArray⟩)).run Tryd.prog w = .ok (.string ⟨(x ++ y).toArray⟩) w := by
  have e : (⟨(x ++ y).toArray⟩ : ByteArray) = ⟨x.toArray⟩ ++ ⟨y.toArray⟩ := by
    apply ByteArray.ext
    rw [ByteArray.data_append]
    simp
  have h1 : (⟨x.toArray⟩ : ByteArray).size = x.length := sizeS x
  have h2 : (⟨y.toArray⟩ : ByteArray).size = y.length := sizeS y
  rw [e]
  generalize (⟨x.toArray⟩ : ByteArray) = X at *
  generalize (⟨y.toArray⟩ : ByteArray) = Y at *
  have h3 : X.size + Y.size ≤ 9223372036854775807 := by omega
  clear h1 h2 h e
  go_simp
theorem cat_eq {X Y : ByteArray} (x y z : List UInt8) (hX : X = ⟨x.toArray⟩) (hY : Y = ⟨y.toArray⟩) (hz : x ++ y = z) : X ++ Y = ⟨z.toArray⟩ := by
  subst hX hY hz
  apply ByteArray.ext
  rw [ByteArray.data_append]
  simp
theorem cat_sz {X Y : ByteArray} (x y : List UInt8) (hX : X = ⟨x.toArray⟩) (hY : Y = ⟨y.toArray⟩) (h : x.length + y.length ≤ 9223372036854775807) : X.size + Y.size ≤ 9223372036854775807 := by
  subst hX hY
  rw [sizeS, sizeS]
  exact h
theorem strcat2 {X Y Z : ByteArray} (x y z : List UInt8) (hX : X = ⟨x.toArray⟩) (hY : Y = ⟨y.toArray⟩) (hZ : Z = ⟨z.toArray⟩) (hz : x ++ y = z) (h : x.length + y.length ≤ 9223372036854775807) (w : World) : (binOp .add 9 (.string X) (.string Y)).run Tryd.prog w = .ok (.string Z) w := by
  subst hX hY hZ hz
  exact strcat x y h w
theorem box_pb (w : World) (c : UInt8) (v : Int) (hv : (c.toNat : Int) = v) : (convert 22 9 (.slice (some ⟨w.heap.size, 0, none⟩) 1 1)).run Tryd.prog (w.alloc (.cells #[.int .u8 v] 5)) = .ok (.string ⟨#[c]⟩) (w.alloc (.cells #[.int .u8 v] 5)) := by
  subst hv
  exact pb_conv (x := [c]) (own_pb (box1 w c))
set_option maxHeartbeats 1000000 in
set_option maxRecDepth 20000 in
theorem rhead_c (w : World) (k n : Nat) (hk : k < 8) (hn : n < 18446744073709551616) : Calls Tryd.prog 47 #[.int .i64 (k : Int), .int .u64 (n : Int)] w (RetW fun e w' => Below w.heap.size w w' ∧ e = .string ⟨(hd k n).toArray⟩) := by
  by_cases h : n < 24
  · have h1 : (n : Int) < 24 := by omega
    have ho := orK ⟨k, hk⟩ ⟨n, by omega⟩
    simp only at ho
    have hcv := box_pb w (UInt8.ofNat (32 * k + n)) ((32 * k + n : Nat) : Int) (by simp; omega)
    obtain ⟨S, hS⟩ : ∃ S, Hid ((⟨#[UInt8.ofNat (32 * k + n)]⟩ : ByteArray) = S) := ⟨_, rfl⟩
    rw [hS.out] at hcv
    obtain ⟨c, hc⟩ : ∃ c : Nat, Hid (32 * k + n = c) := ⟨_, rfl⟩
    rw [hc.out] at hcv ho
    have he : Hid ((⟨(hd k n).toArray⟩ : ByteArray) = S) := by
      rw [← hS.out, hd, if_pos h]; rfl
    rw [he.out]
    clear hS hc he
    go_enter Tryd.func47, Tryd.ntmps47
    go_wp2
    go_ret
    exact ⟨_, rfl, alloc_below _ _, rfl⟩
  · have h1 : ¬ (n : Int) < 24 := by omega
    have h1b : decide ((n : Int) < 24) = false := decide_eq_false h1
    by_cases g1 : n < 256
    · have g1z : (n : Int) < 256 := by omega
      have ho : bits .or .u8 ((k : Int) * 32) 24 = ((32 * k + 24 : Nat) : Int) := orK ⟨k, hk⟩ ⟨24, by omega⟩
      obtain ⟨c, hcc⟩ : ∃ c : Nat, Hid (32 * k + 24 = c) := ⟨_, rfl⟩
      rw [hcc.out] at ho
      have hc8 : c ≤ 248 := by rw [← hcc.out]; omega
      have he : Hid (hd k n = UInt8.ofNat (c + 0) :: beN 1 n) := by
        show hd k n = UInt8.ofNat (c + 0) :: beN 1 n
        rw [← hcc.out, hd, if_neg h]
        simp only [hlo, hsz]
        rw [if_pos (by omega), if_pos (by omega)]
      clear hcc
      go_enter Tryd.func47, Tryd.ntmps47
      go_wp2
      go_loopg [7, 8] 9 (fun gk s7 s8 wr => w = wr ∧ ∃ a j : Nat, s8 = .int .i64 (a : Int) ∧ s7 = .int .u8 ((c + j : Nat) : Int) ∧ ((a = 1 ∧ j = 0 ∧ gk = 9)))
      case atStart => exact ⟨rfl, 1, 0, rfl, rfl, by simp⟩
      case round =>
        obtain ⟨rfl, a, j, rfl, rfl, hr⟩ := hrel
        rcases hr with ⟨rfl, rfl, rfl⟩
        · have hcv := box_pb w (UInt8.ofNat (c + 0)) (c : Int) (by simp; omega)
          obtain ⟨d, hd⟩ : ∃ d : UInt8, Hid (UInt8.ofNat (c + 0) = d) := ⟨_, rfl⟩
          rw [hd.out] at hcv he
          obtain ⟨S0, hS0⟩ : ∃ S0, Hid ((⟨#[d]⟩ : ByteArray) = S0) := ⟨_, rfl⟩
          rw [hS0.out] at hcv
          have H0 : Hid (S0 = ⟨(d :: (beN 1 n).take (1 - 1)).toArray⟩) := by
            show S0 = _
            rw [← hS0.out]; rfl
          clear hd hS0
          go_wp2
          go_loopg [9, 10] 2 (fun gk s9 s10 wx => ∃ (s : Nat) (z : Int) (S1 : ByteArray), s ≤ 1 ∧ z = (s : Int) - 1 ∧ s10 = .int .i64 z ∧ s9 = .string S1 ∧ gk = s + 1 ∧ Below w.heap.size w wx ∧ S1 = ⟨(d :: (beN 1 n).take (1 - s)).toArray⟩)
          case atStart => exact ⟨1, _, S0, Nat.le_refl _, rfl, rfl, rfl, by omega, alloc_below _ _, H0.out⟩
          case round =>
            obtain ⟨s, z, S1, hs, hz, rfl, rfl, hgk, hbx, hS1⟩ := hrel
            cases s with
            | zero =>
              obtain rfl : z = -1 := by omega
              clear hz
              have KR : Hid (Below w.heap.size w wr ∧ Value.string S1 = .string ⟨(hd k n).toArray⟩) := by
                refine ⟨hbx, ?_⟩
                rw [hS1, he.out, Nat.sub_zero, List.take_of_length_le (by rw [beN_length]; omega)]
              clear hbx hS1
              go_wp2
              go_ret
              exact ⟨_, rfl, KR.out⟩
            | succ s =>
              obtain rfl : z = (s : Int) := by omega
              have hcv2 := box_pb wr (UInt8.ofNat (n / 256 ^ s)) _ (byteS n s)
              have hsn : (d :: (beN 1 n).take (1 - (s + 1))) ++ [UInt8.ofNat (n / 256 ^ s)] = d :: (beN 1 n).take (1 - s) := by
                rw [beN_take n 1 s (by omega)]; rfl
              obtain ⟨S2, hS2⟩ : ∃ S2, Hid (S2 = (⟨#[UInt8.ofNat (n / 256 ^ s)]⟩ : ByteArray)) := ⟨_, rfl⟩
              have hS3 := hidW (cat_eq _ [UInt8.ofNat (n / 256 ^ s)] _ hS1 hS2.out hsn)
              have hct := cat_sz _ [UInt8.ofNat (n / 256 ^ s)] hS1 hS2.out (by rw [List.length_cons, List.length_take, beN_length]; simp <;> omega)
              rw [← hS2.out] at hcv2
              have g0 : (0 : Int) ≤ (s : Int) := by omega
              have HB : Hid (Below w.heap.size w (wr.alloc (.cells #[.int .u8 ((n : Int) / 2 ^ (8 * s) % 256)] 5))) := hbx.alloc hbx.size _
              clear hbx hS1 hS2 hsn hz
              go_wp2
              go_roundg (s + 1)
              case measure => omega
              case rel => exact ⟨s, _, S1 ++ S2, by omega, rfl, rfl, rfl, rfl, HB.out, hS3.out⟩
    · have g1z : ¬ (n : Int) < 256 := by omega
      have g1b : decide ((n : Int) < 256) = false := decide_eq_false g1z
      by_cases g2 : n < 65536
      · have g2z : (n : Int) < 65536 := by omega
        have ho : bits .or .u8 ((k : Int) * 32) 24 = ((32 * k + 24 : Nat) : Int) := orK ⟨k, hk⟩ ⟨24, by omega⟩
        obtain ⟨c, hcc⟩ : ∃ c : Nat, Hid (32 * k + 24 = c) := ⟨_, rfl⟩
        rw [hcc.out] at ho
        have hc8 : c ≤ 248 := by rw [← hcc.out]; omega
        have he : Hid (hd k n = UInt8.ofNat (c + 1) :: beN 2 n) := by
          show hd k n = UInt8.ofNat (c + 1) :: beN 2 n
          rw [← hcc.out, hd, if_neg h]
          simp only [hlo, hsz]
          rw [if_neg (by omega), if_pos (by omega), if_neg (by omega), if_pos (by omega)]
        clear hcc
        go_enter Tryd.func47, Tryd.ntmps47
        go_wp2
        go_loopg [7, 8] 9 (fun gk s7 s8 wr => w = wr ∧ ∃ a j : Nat, s8 = .int .i64 (a : Int) ∧ s7 = .int .u8 ((c + j : Nat) : Int) ∧ ((a = 2 ∧ j = 0 ∧ gk = 9) ∨ (a = 1 ∧ j = 1 ∧ gk = 8)))
        case atStart => exact ⟨rfl, 2, 0, rfl, rfl, by simp⟩
        case round =>
          obtain ⟨rfl, a, j, rfl, rfl, hr⟩ := hrel
          rcases hr with ⟨rfl, rfl, rfl⟩ | ⟨rfl, rfl, rfl⟩
          · go_wp2
            go_roundg 8
            case measure => omega
            case rel => exact ⟨rfl, 1, 1, rfl, by simp [Int.add_assoc], by simp⟩
          · have hcv := box_pb w (UInt8.ofNat (c + 1)) ((c : Int) + 1) (by simp; omega)
            obtain ⟨d, hd⟩ : ∃ d : UInt8, Hid (UInt8.ofNat (c + 1) = d) := ⟨_, rfl⟩
            rw [hd.out] at hcv he
            obtain ⟨S0, hS0⟩ : ∃ S0, Hid ((⟨#[d]⟩ : ByteArray) = S0) := ⟨_, rfl⟩
            rw [hS0.out] at hcv
            have H0 : Hid (S0 = ⟨(d :: (beN 2 n).take (2 - 2)).toArray⟩) := by
              show S0 = _
              rw [← hS0.out]; rfl
            clear hd hS0
            go_wp2
            go_loopg [9, 10] 3 (fun gk s9 s10 wx => ∃ (s : Nat) (z : Int) (S1 : ByteArray), s ≤ 2 ∧ z = (s : Int) - 1 ∧ s10 = .int .i64 z ∧ s9 = .string S1 ∧ gk = s + 1 ∧ Below w.heap.size w wx ∧ S1 = ⟨(d :: (beN 2 n).take (2 - s)).toArray⟩)
            case atStart => exact ⟨2, _, S0, Nat.le_refl _, rfl, rfl, rfl, by omega, alloc_below _ _, H0.out⟩
            case round =>
              obtain ⟨s, z, S1, hs, hz, rfl, rfl, hgk, hbx, hS1⟩ := hrel
              cases s with
              | zero =>
                obtain rfl : z = -1 := by omega
                clear hz
                have KR : Hid (Below w.heap.size w wr ∧ Value.string S1 = .string ⟨(hd k n).toArray⟩) := by
                  refine ⟨hbx, ?_⟩
                  rw [hS1, he.out, Nat.sub_zero, List.take_of_length_le (by rw [beN_length]; omega)]
                clear hbx hS1
                go_wp2
                go_ret
                exact ⟨_, rfl, KR.out⟩
              | succ s =>
                obtain rfl : z = (s : Int) := by omega
                have hcv2 := box_pb wr (UInt8.ofNat (n / 256 ^ s)) _ (byteS n s)
                have hsn : (d :: (beN 2 n).take (2 - (s + 1))) ++ [UInt8.ofNat (n / 256 ^ s)] = d :: (beN 2 n).take (2 - s) := by
                  rw [beN_take n 2 s (by omega)]; rfl
                obtain ⟨S2, hS2⟩ : ∃ S2, Hid (S2 = (⟨#[UInt8.ofNat (n / 256 ^ s)]⟩ : ByteArray)) := ⟨_, rfl⟩
                have hS3 := hidW (cat_eq _ [UInt8.ofNat (n / 256 ^ s)] _ hS1 hS2.out hsn)
                have hct := cat_sz _ [UInt8.ofNat (n / 256 ^ s)] hS1 hS2.out (by rw [List.length_cons, List.length_take, beN_length]; simp <;> omega)
                rw [← hS2.out] at hcv2
                have g0 : (0 : Int) ≤ (s : Int) := by omega
                have HB : Hid (Below w.heap.size w (wr.alloc (.cells #[.int .u8 ((n : Int) / 2 ^ (8 * s) % 256)] 5))) := hbx.alloc hbx.size _
                clear hbx hS1 hS2 hsn hz
                go_wp2
                go_roundg (s + 1)
                case measure => omega
                case rel => exact ⟨s, _, S1 ++ S2, by omega, rfl, rfl, rfl, rfl, HB.out, hS3.out⟩
      · have g2z : ¬ (n : Int) < 65536 := by omega
        have g2b : decide ((n : Int) < 65536) = false := decide_eq_false g2z
        by_cases g3 : n < 4294967296
        · have g3z : (n : Int) < 4294967296 := by omega
          have ho : bits .or .u8 ((k : Int) * 32) 24 = ((32 * k + 24 : Nat) : Int) := orK ⟨k, hk⟩ ⟨24, by omega⟩
          obtain ⟨c, hcc⟩ : ∃ c : Nat, Hid (32 * k + 24 = c) := ⟨_, rfl⟩
          rw [hcc.out] at ho
          have hc8 : c ≤ 248 := by rw [← hcc.out]; omega
          have he : Hid (hd k n = UInt8.ofNat (c + 2) :: beN 4 n) := by
            show hd k n = UInt8.ofNat (c + 2) :: beN 4 n
            rw [← hcc.out, hd, if_neg h]
            simp only [hlo, hsz]
            rw [if_neg (by omega), if_neg (by omega), if_pos (by omega), if_neg (by omega), if_neg (by omega), if_pos (by omega)]
          clear hcc
          go_enter Tryd.func47, Tryd.ntmps47
          go_wp2
          go_loopg [7, 8] 9 (fun gk s7 s8 wr => w = wr ∧ ∃ a j : Nat, s8 = .int .i64 (a : Int) ∧ s7 = .int .u8 ((c + j : Nat) : Int) ∧ ((a = 4 ∧ j = 0 ∧ gk = 9) ∨ (a = 2 ∧ j = 1 ∧ gk = 8) ∨ (a = 1 ∧ j = 2 ∧ gk = 7)))
          case atStart => exact ⟨rfl, 4, 0, rfl, rfl, by simp⟩
          case round =>
            obtain ⟨rfl, a, j, rfl, rfl, hr⟩ := hrel
            rcases hr with ⟨rfl, rfl, rfl⟩ | ⟨rfl, rfl, rfl⟩ | ⟨rfl, rfl, rfl⟩
            · go_wp2
              go_roundg 8
              case measure => omega
              case rel => exact ⟨rfl, 2, 1, rfl, by simp [Int.add_assoc], by simp⟩
            · go_wp2
              go_roundg 7
              case measure => omega
              case rel => exact ⟨rfl, 1, 2, rfl, by simp [Int.add_assoc], by simp⟩
            · have hcv := box_pb w (UInt8.ofNat (c + 2)) ((c : Int) + 2) (by simp; omega)
              obtain ⟨d, hd⟩ : ∃ d : UInt8, Hid (UInt8.ofNat (c + 2) = d) := ⟨_, rfl⟩
              rw [hd.out] at hcv he
              obtain ⟨S0, hS0⟩ : ∃ S0, Hid ((⟨#[d]⟩ : ByteArray) = S0) := ⟨_, rfl⟩
              rw [hS0.out] at hcv
              have H0 : Hid (S0 = ⟨(d :: (beN 4 n).take (4 - 4)).toArray⟩) := by
                show S0 = _
                rw [← hS0.out]; rfl
              clear hd hS0
              go_wp2
              go_loopg [9, 10] 5 (fun gk s9 s10 wx => ∃ (s : Nat) (z : Int) (S1 : ByteArray), s ≤ 4 ∧ z = (s : Int) - 1 ∧ s10 = .int .i64 z ∧ s9 = .string S1 ∧ gk = s + 1 ∧ Below w.heap.size w wx ∧ S1 = ⟨(d :: (beN 4 n).take (4 - s)).toArray⟩)
              case atStart => exact ⟨4, _, S0, Nat.le_refl _, rfl, rfl, rfl, by omega, alloc_below _ _, H0.out⟩
              case round =>
                obtain ⟨s, z, S1, hs, hz, rfl, rfl, hgk, hbx, hS1⟩ := hrel
                cases s with
                | zero =>
                  obtain rfl : z = -1 := by omega
                  clear hz
                  have KR : Hid (Below w.heap.size w wr ∧ Value.string S1 = .string ⟨(hd k n).toArray⟩) := by
                    refine ⟨hbx, ?_⟩
                    rw [hS1, he.out, Nat.sub_zero, List.take_of_length_le (by rw [beN_length]; omega)]
                  clear hbx hS1
                  go_wp2
                  go_ret
                  exact ⟨_, rfl, KR.out⟩
                | succ s =>
                  obtain rfl : z = (s : Int) := by omega
                  have hcv2 := box_pb wr (UInt8.ofNat (n / 256 ^ s)) _ (byteS n s)
                  have hsn : (d :: (beN 4 n).take (4 - (s + 1))) ++ [UInt8.ofNat (n / 256 ^ s)] = d :: (beN 4 n).take (4 - s) := by
                    rw [beN_take n 4 s (by omega)]; rfl
                  obtain ⟨S2, hS2⟩ : ∃ S2, Hid (S2 = (⟨#[UInt8.ofNat (n / 256 ^ s)]⟩ : ByteArray)) := ⟨_, rfl⟩
                  have hS3 := hidW (cat_eq _ [UInt8.ofNat (n / 256 ^ s)] _ hS1 hS2.out hsn)
                  have hct := cat_sz _ [UInt8.ofNat (n / 256 ^ s)] hS1 hS2.out (by rw [List.length_cons, List.length_take, beN_length]; simp <;> omega)
                  rw [← hS2.out] at hcv2
                  have g0 : (0 : Int) ≤ (s : Int) := by omega
                  have HB : Hid (Below w.heap.size w (wr.alloc (.cells #[.int .u8 ((n : Int) / 2 ^ (8 * s) % 256)] 5))) := hbx.alloc hbx.size _
                  clear hbx hS1 hS2 hsn hz
                  go_wp2
                  go_roundg (s + 1)
                  case measure => omega
                  case rel => exact ⟨s, _, S1 ++ S2, by omega, rfl, rfl, rfl, rfl, HB.out, hS3.out⟩
        · have g3z : ¬ (n : Int) < 4294967296 := by omega
          have g3b : decide ((n : Int) < 4294967296) = false := decide_eq_false g3z
          have ho : bits .or .u8 ((k : Int) * 32) 24 = ((32 * k + 24 : Nat) : Int) := orK ⟨k, hk⟩ ⟨24, by omega⟩
          obtain ⟨c, hcc⟩ : ∃ c : Nat, Hid (32 * k + 24 = c) := ⟨_, rfl⟩
          rw [hcc.out] at ho
          have hc8 : c ≤ 248 := by rw [← hcc.out]; omega
          have he : Hid (hd k n = UInt8.ofNat (c + 3) :: beN 8 n) := by
            show hd k n = UInt8.ofNat (c + 3) :: beN 8 n
            rw [← hcc.out, hd, if_neg h]
            simp only [hlo, hsz]
            rw [if_neg (by omega), if_neg (by omega), if_neg (by omega), if_neg (by omega), if_neg (by omega), if_neg (by omega)]
          clear hcc
          go_enter Tryd.func47, Tryd.ntmps47
          go_wp2
          go_loopg [7, 8] 9 (fun gk s7 s8 wr => w = wr ∧ ∃ a j : Nat, s8 = .int .i64 (a : Int) ∧ s7 = .int .u8 ((c + j : Nat) : Int) ∧ ((a = 8 ∧ j = 0 ∧ gk = 9) ∨ (a = 4 ∧ j = 1 ∧ gk = 8) ∨ (a = 2 ∧ j = 2 ∧ gk = 7) ∨ (a = 1 ∧ j = 3 ∧ gk = 6)))
          case atStart => exact ⟨rfl, 8, 0, rfl, rfl, by simp⟩
          case round =>
            obtain ⟨rfl, a, j, rfl, rfl, hr⟩ := hrel
            rcases hr with ⟨rfl, rfl, rfl⟩ | ⟨rfl, rfl, rfl⟩ | ⟨rfl, rfl, rfl⟩ | ⟨rfl, rfl, rfl⟩
            · go_wp2
              go_roundg 8
              case measure => omega
              case rel => exact ⟨rfl, 4, 1, rfl, by simp [Int.add_assoc], by simp⟩
            · go_wp2
              go_roundg 7
              case measure => omega
              case rel => exact ⟨rfl, 2, 2, rfl, by simp [Int.add_assoc], by simp⟩
            · go_wp2
              go_roundg 6
              case measure => omega
              case rel => exact ⟨rfl, 1, 3, rfl, by simp [Int.add_assoc], by simp⟩
            · have hcv := box_pb w (UInt8.ofNat (c + 3)) ((c : Int) + 3) (by simp; omega)
              obtain ⟨d, hd⟩ : ∃ d : UInt8, Hid (UInt8.ofNat (c + 3) = d) := ⟨_, rfl⟩
              rw [hd.out] at hcv he
              obtain ⟨S0, hS0⟩ : ∃ S0, Hid ((⟨#[d]⟩ : ByteArray) = S0) := ⟨_, rfl⟩
              rw [hS0.out] at hcv
              have H0 : Hid (S0 = ⟨(d :: (beN 8 n).take (8 - 8)).toArray⟩) := by
                show S0 = _
                rw [← hS0.out]; rfl
              clear hd hS0
              go_wp2
              go_loopg [9, 10] 9 (fun gk s9 s10 wx => ∃ (s : Nat) (z : Int) (S1 : ByteArray), s ≤ 8 ∧ z = (s : Int) - 1 ∧ s10 = .int .i64 z ∧ s9 = .string S1 ∧ gk = s + 1 ∧ Below w.heap.size w wx ∧ S1 = ⟨(d :: (beN 8 n).take (8 - s)).toArray⟩)
              case atStart => exact ⟨8, _, S0, Nat.le_refl _, rfl, rfl, rfl, by omega, alloc_below _ _, H0.out⟩
              case round =>
                obtain ⟨s, z, S1, hs, hz, rfl, rfl, hgk, hbx, hS1⟩ := hrel
                cases s with
                | zero =>
                  obtain rfl : z = -1 := by omega
                  clear hz
                  have KR : Hid (Below w.heap.size w wr ∧ Value.string S1 = .string ⟨(hd k n).toArray⟩) := by
                    refine ⟨hbx, ?_⟩
                    rw [hS1, he.out, Nat.sub_zero, List.take_of_length_le (by rw [beN_length]; omega)]
                  clear hbx hS1
                  go_wp2
                  go_ret
                  exact ⟨_, rfl, KR.out⟩
                | succ s =>
                  obtain rfl : z = (s : Int) := by omega
                  have hcv2 := box_pb wr (UInt8.ofNat (n / 256 ^ s)) _ (byteS n s)
                  have hsn : (d :: (beN 8 n).take (8 - (s + 1))) ++ [UInt8.ofNat (n / 256 ^ s)] = d :: (beN 8 n).take (8 - s) := by
                    rw [beN_take n 8 s (by omega)]; rfl
                  obtain ⟨S2, hS2⟩ : ∃ S2, Hid (S2 = (⟨#[UInt8.ofNat (n / 256 ^ s)]⟩ : ByteArray)) := ⟨_, rfl⟩
                  have hS3 := hidW (cat_eq _ [UInt8.ofNat (n / 256 ^ s)] _ hS1 hS2.out hsn)
                  have hct := cat_sz _ [UInt8.ofNat (n / 256 ^ s)] hS1 hS2.out (by rw [List.length_cons, List.length_take, beN_length]; simp <;> omega)
                  rw [← hS2.out] at hcv2
                  have g0 : (0 : Int) ≤ (s : Int) := by omega
                  have HB : Hid (Below w.heap.size w (wr.alloc (.cells #[.int .u8 ((n : Int) / 2 ^ (8 * s) % 256)] 5))) := hbx.alloc hbx.size _
                  clear hbx hS1 hS2 hsn hz
                  go_wp2
                  go_roundg (s + 1)
                  case measure => omega
                  case rel => exact ⟨s, _, S1 ++ S2, by omega, rfl, rfl, rfl, rfl, HB.out, hS3.out⟩
end WI
end Go.Proofs.YtfkgfcggcfkkiaaDoor
namespace Go.Proofs.YtfkgfcggcfkkiaaDoor
open Go.RowKit Go.Sort Go.Deep
namespace WI
variable {T : World → Prop} {u : List UInt8 → Bool}
mutual
/-- Its shape, but for the order of keys. -/
def shv (u : List UInt8 → Bool) : Itm → Bool
  | .mk k n d l => own u k n d l.length && shvs u l
def shvs (u : List UInt8 → Bool) : List Itm → Bool
  | [] => true
  | i :: r => shv u i && shvs u r
end
theorem shvs_append (u : List UInt8 → Bool) : ∀ (l m : List Itm), shvs u (l ++ m) = (shvs u l && shvs u m)
  | [], m => by simp [shvs]
  | i :: r, m => by rw [List.cons_append, shvs, shvs, shvs_append u r m, Bool.and_assoc]
/-- What the reference's valid asks: of an item, of a list's items. -/
def vok (u : List UInt8 → Bool) (i : Itm) (dp left : Nat) : Prop := shv u i = true ∧ dp + dep i ≤ 17 ∧ cnt i ≤ left
def voks (u : List UInt8 → Bool) (l : List Itm) (dp left : Nat) : Prop := shvs u l = true ∧ (l ≠ [] → dp + deps l ≤ 17) ∧ cnts l ≤ left
theorem voks_snoc (u : List UInt8 → Bool) (l : List Itm) (i : Itm) (dp left : Nat) : voks u (l ++ [i]) dp left ↔ voks u l dp left ∧ vok u i dp (left - cnts l) := by
  unfold voks vok
  rw [shvs_append, cnts_append, deps_append]
  have := cnt_pos i
  simp only [shvs, cnts, deps, Bool.and_true, Bool.and_eq_true, ne_eq, List.append_eq_nil_iff, List.cons_ne_nil, and_false, not_false_eq_true, forall_const]
  constructor
  · rintro ⟨⟨h1, h2⟩, h3, h4⟩
    exact ⟨⟨h1, fun _ => by omega, by omega⟩, h2, by omega, by omega⟩
  · rintro ⟨⟨h1, h3, h4⟩, h2, h6, h7⟩
    refine ⟨⟨h1, h2⟩, ?_, by omega⟩
    cases l with
    | nil => rw [deps]; omega
    | cons a r => have := h3 (by simp); omega
theorem voks_app (u : List UInt8 → Bool) (l m : List Itm) (dp left : Nat) (h : voks u (l ++ m) dp left) : voks u l dp left := by
  unfold voks at h ⊢
  rw [shvs_append, cnts_append, deps_append] at h
  simp only [Bool.and_eq_true] at h
  obtain ⟨⟨h1, h2⟩, h3, h4⟩ := h
  refine ⟨h1, fun hl => ?_, by omega⟩
  have := h3 (by simp [hl])
  omega
theorem vok_mk (u : List UInt8 → Bool) (k : Int) (n : Nat) (d : List UInt8) (l : List Itm) (dp left : Nat) : vok u (.mk k n d l) dp left ↔ own u k n d l.length = true ∧ dp ≤ 16 ∧ 1 ≤ left ∧ voks u l (dp + 1) (left - 1) := by
  unfold vok voks
  rw [shv, dep, cnt, Bool.and_eq_true]
  constructor
  · rintro ⟨⟨h1, h2⟩, h3, h4⟩
    exact ⟨h1, by omega, by omega, h2, fun _ => by omega, by omega⟩
  · rintro ⟨h1, h2, h3, h4, h5, h6⟩
    refine ⟨⟨h1, h4⟩, ?_, by omega⟩
    cases l with
    | nil => rw [deps]; omega
    | cons a r => have := h5 (by simp); omega
/-- What valid answers. -/
def VaR (u : List UInt8 → Bool) (w : World) (i : Itm) (dp left : Nat) (e : Value) (w' : World) : Prop := Below w.heap.size w w' ∧ ((vok u i dp left ∧ e = .tuple #[.int .i64 (cnt i : Int), .bool true]) ∨ (¬ vok u i dp left ∧ e = .tuple #[.int .i64 0, .bool false]))
def VSp (T : World → Prop) (u : List UInt8 → Bool) (i : Itm) : Prop := ∀ (w : World) (qd : Option Addr) (dl cd : Nat) (ql : Option Addr) (m cl : Nat) (dp left : Nat), T w → InM w w.heap.size i (.slice qd dl cd) (.slice ql m cl) → dp ≤ 1000 → left ≤ 4096 → Calls Tryd.prog 30 #[itv i.k i.n qd dl cd ql m cl, .int .i64 (dp : Int), .int .i64 (left : Int)] w (RetW (VaR u w i dp left))
end WI
end Go.Proofs.YtfkgfcggcfkkiaaDoor
namespace Go.Proofs.YtfkgfcggcfkkiaaDoor
open Go.RowKit Go.Sort Go.Deep
namespace RX
open Go.Proofs.YtfkgfcggcfkkiaaDoor.RG
theorem gw_cnvX {P : Program} {ops : Array Oper} {Q : Exit → Act → World → Prop} {a0 : Act} {G : Gw} {k : Nat} {o : Oper} (T T' : TypeId) (t : Tmp) (ho : o.op = .convert T T' (.tmp t))
    (h : ∀ (a : Act) (w : World), PreG G ops a0 k o a w → ∃ v1 v, a.eval (.tmp t) = v1 ∧ (convert T T' v1).run P w = .ok v w ∧ G.R k v w) : CertF P Q G.flow ops a0 k o :=
  cf_val fun a w hp => by
    obtain ⟨v1, v, h1, h3, hR⟩ := h a w (pre_of hp)
    refine ⟨v, w, ?_, Below.refl _ _, hR⟩
    unfold execOp
    rw [ho]
    dsimp only
    rw [h1, Sem.run_bind, h3]
    rfl
end RX
namespace WI
variable {T : World → Prop} {u : List UInt8 → Bool}
mutual
/-- What the reference's write takes, of what is valid. -/
def wrb : Itm → Bool
  | .mk k n d l => if k = 4 ∨ k = 5 then wrbs l && (k != 5 || rise [] (byts l)) && decide ((byt (.mk k n d l)).length ≤ 65536) else if k = 2 ∨ k = 3 then decide ((byt (.mk k n d l)).length ≤ 65536) else true
def wrbs : List Itm → Bool
  | [] => true
  | i :: r => wrb i && wrbs r
end
theorem wrbs_append : ∀ (l m : List Itm), wrbs (l ++ m) = (wrbs l && wrbs m)
  | [], m => by simp [wrbs]
  | i :: r, m => by rw [List.cons_append, wrbs, wrbs, wrbs_append r m, Bool.and_assoc]
theorem wrb_len (i : Itm) (h : wrb i = true) : (byt i).length ≤ 65536 := by
  cases i with
  | mk k n d l =>
    rw [wrb] at h
    split at h
    · simp only [Bool.and_eq_true, decide_eq_true_eq] at h; exact h.2
    · split at h
      · simpa using h
      · rename_i h1 h2
        have := hd_le k.toNat n
        unfold byt
        rw [if_neg h2, if_neg (by omega), if_neg (by omega)]
        omega
mutual
theorem sv_iff (u : List UInt8 → Bool) : ∀ i : Itm, (shp u i = true ∧ (byt i).length ≤ 65536) ↔ (shv u i = true ∧ wrb i = true)
  | .mk k n d l => by
    by_cases hk : k = 4 ∨ k = 5
    · have hb : (byts l).flatten.length ≤ (byt (.mk k n d l)).length := by
        rcases hk with rfl | rfl <;> simp [byt]
      have hs := svs_iff u l
      rw [shp, shv, wrb, if_pos hk]
      simp only [Bool.and_eq_true, decide_eq_true_eq]
      constructor
      · rintro ⟨⟨⟨h1, h2⟩, h3⟩, h4⟩
        obtain ⟨h5, h6⟩ := (hs (by omega)).1 h3
        exact ⟨⟨h1, h5⟩, ⟨h6, h2⟩, h4⟩
      · rintro ⟨⟨h1, h5⟩, ⟨h6, h2⟩, h4⟩
        exact ⟨⟨⟨h1, h2⟩, (hs (by omega)).2 ⟨h5, h6⟩⟩, h4⟩
    · have hl : own u k n d l.length = true → l = [] := by
        intro h
        obtain rfl | rfl | rfl | rfl | rfl | rfl | rfl := own_kind u k n d l.length h <;> first | (exfalso; omega) | (simp [own] at h; simp_all)
      rw [shp, shv, wrb, if_neg hk]
      have h5 : (k != 5) = true := by simp; omega
      by_cases ho : own u k n d l.length = true
      · have := hl ho
        subst this
        rw [ho, h5, shps, shvs]
        by_cases h23 : k = 2 ∨ k = 3
        · rw [if_pos h23]; simp
        · rw [if_neg h23]
          have := hd_le k.toNat n
          have hb : (byt (.mk k n d [])).length ≤ 65536 := by
            unfold byt
            rw [if_neg h23, if_neg (by omega), if_neg (by omega)]
            omega
          simp [hb]
      · simp [ho]
theorem svs_iff (u : List UInt8 → Bool) : ∀ l : List Itm, (byts l).flatten.length ≤ 65536 → (shps u l = true ↔ (shvs u l = true ∧ wrbs l = true))
  | [], _ => by simp [shps, shvs, wrbs]
  | i :: r, h => by
    rw [byts, List.flatten_cons, List.length_append] at h
    have h1 := sv_iff u i
    have h2 := svs_iff u r (by omega)
    rw [shps, shvs, wrbs]
    simp only [Bool.and_eq_true]
    constructor
    · rintro ⟨h3, h4⟩
      obtain ⟨h5, h6⟩ := h1.1 ⟨h3, by omega⟩
      obtain ⟨h7, h8⟩ := h2.1 h4
      exact ⟨⟨h5, h7⟩, h6, h8⟩
    · rintro ⟨⟨h5, h7⟩, h6, h8⟩
      exact ⟨(h1.2 ⟨h5, h6⟩).1, h2.2 ⟨h7, h8⟩⟩
end
/-- What the program's Print takes is what the reference's takes. -/
theorem wok_iff (u : List UInt8 → Bool) (i : Itm) : wok u i 0 0 0 ↔ (vok u i 1 4096 ∧ wrb i = true) := by
  have := sv_iff u i
  unfold wok vok
  constructor
  · rintro ⟨h1, h2, h3, h4⟩
    obtain ⟨h5, h6⟩ := this.1 ⟨h1, by omega⟩
    exact ⟨⟨h5, by omega, by omega⟩, h6⟩
  · rintro ⟨⟨h5, h2, h3⟩, h6⟩
    obtain ⟨h7, h8⟩ := this.2 ⟨h5, h6⟩
    exact ⟨h7, by omega, by omega, by omega⟩
/-- What write answers. -/
def RwR (w : World) (i : Itm) (e : Value) (w' : World) : Prop := Below w.heap.size w w' ∧ ((wrb i = true ∧ e = .tuple #[.string ⟨(byt i).toArray⟩, .bool true]) ∨ (wrb i = false ∧ ∃ s, e = .tuple #[.string s, .bool false]))
def RwS (i : Itm) : Prop := ∀ (w : World) (qd : Option Addr) (dl cd : Nat) (ql : Option Addr) (m cl : Nat), InM w w.heap.size i (.slice qd dl cd) (.slice ql m cl) → Calls Tryd.prog 31 #[itv i.k i.n qd dl cd ql m cl] w (RetW (RwR w i))
set_option maxHeartbeats 1000000 in
set_option maxRecDepth 20000 in
theorem rw0 (n : Nat) (d : List UInt8) (l : List Itm) : RwS (.mk 0 n d l) := by
  intro w qd dl cd ql m cl hM
  rw [InM] at hM
  obtain ⟨hn64, hd62, hl60, hpd, q', c', hq', hin⟩ := hM
  show Calls Tryd.prog 31 #[itv 0 n qd dl cd ql m cl] w _
  unfold itv
  obtain ⟨rfl, hdc⟩ : dl = d.length ∧ d.length ≤ cd := by
    obtain ⟨qq, cc, e, hcc, -⟩ := hpd
    obtain ⟨rfl, rfl, rfl⟩ : qd = qq ∧ dl = d.length ∧ cd = cc := by simpa using e
    exact ⟨rfl, hcc⟩
  obtain ⟨rfl, rfl, rfl⟩ : ql = q' ∧ m = l.length ∧ cl = c' := by simpa using hq'
  obtain ⟨wb, hwb⟩ : ∃ wb, Hid (w.alloc (.cells #[.int .i64 0, .int .u64 (n : Int), .slice qd d.length cd, .slice ql l.length cl] 27) = wb) := ⟨_, rfl⟩
  have hb0 : Hid (Below w.heap.size w wb) := by rw [← hwb.out]; exact alloc_below _ _
  have bx : Hid (∀ w1, Below wb.heap.size wb w1 → w1.cell? ⟨w.heap.size, 0, none⟩ = some (.int .i64 0) ∧ w1.cell? ⟨w.heap.size, 1, none⟩ = some (.int .u64 (n : Int)) ∧ w1.cell? ⟨w.heap.size, 2, none⟩ = some (.slice qd d.length cd) ∧ w1.cell? ⟨w.heap.size, 3, none⟩ = some (.slice ql l.length cl) ∧ w.heap.size < w1.heap.size) := fun w1 hb => by
    have hz : ∀ j v, ([.int .i64 0, .int .u64 (n : Int), .slice qd d.length cd, .slice ql l.length cl] : List Value)[j]? = some v → w1.cell? ⟨w.heap.size, j, none⟩ = some v := fun j v hj => by
      have := al_c w #[.int .i64 0, .int .u64 (n : Int), .slice qd d.length cd, .slice ql l.length cl] 27 _ j v rfl (by simpa using hj)
      rw [hwb.out] at this
      rw [hb.cell (p := ⟨w.heap.size, j, none⟩) (World.block_lt_of_cell? _ _ this)]
      exact this
    exact ⟨hz 0 _ rfl, hz 1 _ rfl, hz 2 _ rfl, hz 3 _ rfl, World.block_lt_of_cell? _ _ (hz 0 _ rfl)⟩
  have hc : Calls Tryd.prog 47 #[.int .i64 0, .int .u64 (n : Int)] wb _ := rhead_c wb 0 n (by decide) hn64
  have hR : Hid (∀ w', Below wb.heap.size wb w' → RwR w (.mk 0 n d l) (.tuple #[.string ⟨(hd 0 n).toArray⟩, .bool true]) w') := fun w' hw' => ⟨hb0.out.trans (hw'.mono hb0.out.size), Or.inl ⟨by simp [wrb], by simp [byt]⟩⟩
  clear hpd hin hq'
  go_enter Tryd.func31, Tryd.ntmps31
  go_wp2_with fail
  rw [hwb.out]
  refine hc.mono ?_
  rintro e w1 ⟨v1, rfl, hb1, rfl⟩
  have HR := hidW (hR.out w1 hb1)
  obtain ⟨S, hS⟩ : ∃ S, Hid ((⟨(hd 0 n).toArray⟩ : ByteArray) = S) := ⟨_, rfl⟩
  rw [hS.out] at HR ⊢
  clear hb1 hc
  go_wp2
  go_ret2
  exact ⟨_, rfl, HR.out⟩
set_option maxHeartbeats 1000000 in
set_option maxRecDepth 20000 in
theorem rw1 (n : Nat) (d : List UInt8) (l : List Itm) : RwS (.mk 1 n d l) := by
  intro w qd dl cd ql m cl hM
  rw [InM] at hM
  obtain ⟨hn64, hd62, hl60, hpd, q', c', hq', hin⟩ := hM
  show Calls Tryd.prog 31 #[itv 1 n qd dl cd ql m cl] w _
  unfold itv
  obtain ⟨rfl, hdc⟩ : dl = d.length ∧ d.length ≤ cd := by
    obtain ⟨qq, cc, e, hcc, -⟩ := hpd
    obtain ⟨rfl, rfl, rfl⟩ : qd = qq ∧ dl = d.length ∧ cd = cc := by simpa using e
    exact ⟨rfl, hcc⟩
  obtain ⟨rfl, rfl, rfl⟩ : ql = q' ∧ m = l.length ∧ cl = c' := by simpa using hq'
  obtain ⟨wb, hwb⟩ : ∃ wb, Hid (w.alloc (.cells #[.int .i64 1, .int .u64 (n : Int), .slice qd d.length cd, .slice ql l.length cl] 27) = wb) := ⟨_, rfl⟩
  have hb0 : Hid (Below w.heap.size w wb) := by rw [← hwb.out]; exact alloc_below _ _
  have bx : Hid (∀ w1, Below wb.heap.size wb w1 → w1.cell? ⟨w.heap.size, 0, none⟩ = some (.int .i64 1) ∧ w1.cell? ⟨w.heap.size, 1, none⟩ = some (.int .u64 (n : Int)) ∧ w1.cell? ⟨w.heap.size, 2, none⟩ = some (.slice qd d.length cd) ∧ w1.cell? ⟨w.heap.size, 3, none⟩ = some (.slice ql l.length cl) ∧ w.heap.size < w1.heap.size) := fun w1 hb => by
    have hz : ∀ j v, ([.int .i64 1, .int .u64 (n : Int), .slice qd d.length cd, .slice ql l.length cl] : List Value)[j]? = some v → w1.cell? ⟨w.heap.size, j, none⟩ = some v := fun j v hj => by
      have := al_c w #[.int .i64 1, .int .u64 (n : Int), .slice qd d.length cd, .slice ql l.length cl] 27 _ j v rfl (by simpa using hj)
      rw [hwb.out] at this
      rw [hb.cell (p := ⟨w.heap.size, j, none⟩) (World.block_lt_of_cell? _ _ this)]
      exact this
    exact ⟨hz 0 _ rfl, hz 1 _ rfl, hz 2 _ rfl, hz 3 _ rfl, World.block_lt_of_cell? _ _ (hz 0 _ rfl)⟩
  have hc : Calls Tryd.prog 47 #[.int .i64 1, .int .u64 (n : Int)] wb _ := rhead_c wb 1 n (by decide) hn64
  have hR : Hid (∀ w', Below wb.heap.size wb w' → RwR w (.mk 1 n d l) (.tuple #[.string ⟨(hd 1 n).toArray⟩, .bool true]) w') := fun w' hw' => ⟨hb0.out.trans (hw'.mono hb0.out.size), Or.inl ⟨by simp [wrb], by simp [byt]⟩⟩
  clear hpd hin hq'
  go_enter Tryd.func31, Tryd.ntmps31
  go_wp2_with fail
  rw [hwb.out]
  refine hc.mono ?_
  rintro e w1 ⟨v1, rfl, hb1, rfl⟩
  have HR := hidW (hR.out w1 hb1)
  obtain ⟨S, hS⟩ : ∃ S, Hid ((⟨(hd 1 n).toArray⟩ : ByteArray) = S) := ⟨_, rfl⟩
  rw [hS.out] at HR ⊢
  clear hb1 hc
  go_wp2
  go_ret2
  exact ⟨_, rfl, HR.out⟩
set_option maxHeartbeats 1000000 in
set_option maxRecDepth 20000 in
theorem rw7 (n : Nat) (d : List UInt8) (l : List Itm) : RwS (.mk 7 n d l) := by
  intro w qd dl cd ql m cl hM
  rw [InM] at hM
  obtain ⟨hn64, hd62, hl60, hpd, q', c', hq', hin⟩ := hM
  show Calls Tryd.prog 31 #[itv 7 n qd dl cd ql m cl] w _
  unfold itv
  obtain ⟨rfl, hdc⟩ : dl = d.length ∧ d.length ≤ cd := by
    obtain ⟨qq, cc, e, hcc, -⟩ := hpd
    obtain ⟨rfl, rfl, rfl⟩ : qd = qq ∧ dl = d.length ∧ cd = cc := by simpa using e
    exact ⟨rfl, hcc⟩
  obtain ⟨rfl, rfl, rfl⟩ : ql = q' ∧ m = l.length ∧ cl = c' := by simpa using hq'
  obtain ⟨wb, hwb⟩ : ∃ wb, Hid (w.alloc (.cells #[.int .i64 7, .int .u64 (n : Int), .slice qd d.length cd, .slice ql l.length cl] 27) = wb) := ⟨_, rfl⟩
  have hb0 : Hid (Below w.heap.size w wb) := by rw [← hwb.out]; exact alloc_below _ _
  have bx : Hid (∀ w1, Below wb.heap.size wb w1 → w1.cell? ⟨w.heap.size, 0, none⟩ = some (.int .i64 7) ∧ w1.cell? ⟨w.heap.size, 1, none⟩ = some (.int .u64 (n : Int)) ∧ w1.cell? ⟨w.heap.size, 2, none⟩ = some (.slice qd d.length cd) ∧ w1.cell? ⟨w.heap.size, 3, none⟩ = some (.slice ql l.length cl) ∧ w.heap.size < w1.heap.size) := fun w1 hb => by
    have hz : ∀ j v, ([.int .i64 7, .int .u64 (n : Int), .slice qd d.length cd, .slice ql l.length cl] : List Value)[j]? = some v → w1.cell? ⟨w.heap.size, j, none⟩ = some v := fun j v hj => by
      have := al_c w #[.int .i64 7, .int .u64 (n : Int), .slice qd d.length cd, .slice ql l.length cl] 27 _ j v rfl (by simpa using hj)
      rw [hwb.out] at this
      rw [hb.cell (p := ⟨w.heap.size, j, none⟩) (World.block_lt_of_cell? _ _ this)]
      exact this
    exact ⟨hz 0 _ rfl, hz 1 _ rfl, hz 2 _ rfl, hz 3 _ rfl, World.block_lt_of_cell? _ _ (hz 0 _ rfl)⟩
  have hc : Calls Tryd.prog 47 #[.int .i64 7, .int .u64 (n : Int)] wb _ := rhead_c wb 7 n (by decide) hn64
  have hR : Hid (∀ w', Below wb.heap.size wb w' → RwR w (.mk 7 n d l) (.tuple #[.string ⟨(hd 7 n).toArray⟩, .bool true]) w') := fun w' hw' => ⟨hb0.out.trans (hw'.mono hb0.out.size), Or.inl ⟨by simp [wrb], by simp [byt]⟩⟩
  clear hpd hin hq'
  go_enter Tryd.func31, Tryd.ntmps31
  go_wp2_with fail
  rw [hwb.out]
  refine hc.mono ?_
  rintro e w1 ⟨v1, rfl, hb1, rfl⟩
  have HR := hidW (hR.out w1 hb1)
  obtain ⟨S, hS⟩ : ∃ S, Hid ((⟨(hd 7 n).toArray⟩ : ByteArray) = S) := ⟨_, rfl⟩
  rw [hS.out] at HR ⊢
  clear hb1 hc
  go_wp2
  go_ret2
  exact ⟨_, rfl, HR.out⟩
end WI
end Go.Proofs.YtfkgfcggcfkkiaaDoor
namespace Go.Proofs.YtfkgfcggcfkkiaaDoor
open Go.RowKit Go.Sort Go.Deep
namespace WI
variable {T : World → Prop} {u : List UInt8 → Bool}
/-- The values of region 4. -/
def G4 (ib : Nat) (k : Int) (sl : Value) (dl : Nat) (H D S : ByteArray) (w3 : World) : RX.Gw where
  R i v _ := v = ([.pointer (some ⟨ib, 0, none⟩), .int .i64 k, .pointer (some ⟨ib, 2, none⟩), sl, .int .i64 (dl : Int), .int .u64 (dl : Int), .string H, .pointer (some ⟨ib, 2, none⟩), sl, .string D, .string S, .string S] : List Value).getD i undef
  B w := Below w3.heap.size w3 w
  sR i v w w' hb h := h
  sB w w' hb h := h.trans (hb.mono h.size)
set_option maxHeartbeats 1000000 in
set_option maxRecDepth 20000 in
theorem rw2 (n : Nat) (d : List UInt8) (l : List Itm) : RwS (.mk 2 n d l) := by
  intro w qd dl cd ql m cl hM
  rw [InM] at hM
  obtain ⟨hn64, hd62, hl60, hpd, q', c', hq', hin⟩ := hM
  show Calls Tryd.prog 31 #[itv 2 n qd dl cd ql m cl] w _
  unfold itv
  obtain ⟨rfl, hdc⟩ : dl = d.length ∧ d.length ≤ cd := by
    obtain ⟨qq, cc, e, hcc, -⟩ := hpd
    obtain ⟨rfl, rfl, rfl⟩ : qd = qq ∧ dl = d.length ∧ cd = cc := by simpa using e
    exact ⟨rfl, hcc⟩
  obtain ⟨rfl, rfl, rfl⟩ : ql = q' ∧ m = l.length ∧ cl = c' := by simpa using hq'
  obtain ⟨wb, hwb⟩ : ∃ wb, Hid (w.alloc (.cells #[.int .i64 2, .int .u64 (n : Int), .slice qd d.length cd, .slice ql l.length cl] 27) = wb) := ⟨_, rfl⟩
  have hb0 : Hid (Below w.heap.size w wb) := by rw [← hwb.out]; exact alloc_below _ _
  have bx : Hid (∀ w1, Below wb.heap.size wb w1 → w1.cell? ⟨w.heap.size, 0, none⟩ = some (.int .i64 2) ∧ w1.cell? ⟨w.heap.size, 1, none⟩ = some (.int .u64 (n : Int)) ∧ w1.cell? ⟨w.heap.size, 2, none⟩ = some (.slice qd d.length cd) ∧ w1.cell? ⟨w.heap.size, 3, none⟩ = some (.slice ql l.length cl) ∧ w.heap.size < w1.heap.size) := fun w1 hb => by
    have hz : ∀ j v, ([.int .i64 2, .int .u64 (n : Int), .slice qd d.length cd, .slice ql l.length cl] : List Value)[j]? = some v → w1.cell? ⟨w.heap.size, j, none⟩ = some v := fun j v hj => by
      have := al_c w #[.int .i64 2, .int .u64 (n : Int), .slice qd d.length cd, .slice ql l.length cl] 27 _ j v rfl (by simpa using hj)
      rw [hwb.out] at this
      rw [hb.cell (p := ⟨w.heap.size, j, none⟩) (World.block_lt_of_cell? _ _ this)]
      exact this
    exact ⟨hz 0 _ rfl, hz 1 _ rfl, hz 2 _ rfl, hz 3 _ rfl, World.block_lt_of_cell? _ _ (hz 0 _ rfl)⟩
  have hcH : Hid (∀ X, Calls Tryd.prog 47 #[.int .i64 2, .int .u64 (d.length : Int)] X (Ret fun e w' => Below X.heap.size X w' ∧ e = .string ⟨(hd 2 d.length).toArray⟩)) := fun X => by
    refine (show Calls Tryd.prog 47 #[.int .i64 2, .int .u64 (d.length : Int)] X _ from rhead_c X 2 d.length (by decide) (by omega)).mono ?_
    rintro e w' ⟨v, rfl, h1, h2⟩
    exact ⟨_, rfl, h1, h2⟩
  have hP : Hid (∀ X, Below wb.heap.size wb X → (convert 22 9 (.slice qd d.length cd)).run Tryd.prog X = .ok (.string ⟨d.toArray⟩) X) := fun X hX => pb_conv ((hpd.pb.below hb0.out).below hX)
  have hA : Hid (∀ X : World, (binOp .add 9 (.string ⟨(hd 2 d.length).toArray⟩) (.string ⟨d.toArray⟩)).run Tryd.prog X = .ok (.string ⟨(hd 2 d.length ++ d).toArray⟩) X) := fun X => strcat _ _ (by have := hd_le 2 d.length; omega) X
  have hby : byt (.mk 2 n d l) = hd 2 d.length ++ d := by simp [byt]
  have hR : Hid (∀ w', Below wb.heap.size wb w' → RwR w (.mk 2 n d l) (.tuple #[.string ⟨(hd 2 d.length ++ d).toArray⟩, .bool (decide ((hd 2 d.length ++ d).length ≤ 65536))]) w') := fun w' hw' => by
    refine ⟨hb0.out.trans (hw'.mono hb0.out.size), ?_⟩
    by_cases h : (hd 2 d.length ++ d).length ≤ 65536
    · rw [decide_eq_true h]
      exact Or.inl ⟨by simp only [wrb]; rw [hby]; simpa using h, by rw [hby]⟩
    · rw [decide_eq_false h]
      exact Or.inr ⟨by simp only [wrb]; rw [hby]; simpa using h, _, rfl⟩
  obtain ⟨H, hH⟩ : ∃ S, Hid ((⟨(hd 2 d.length).toArray⟩ : ByteArray) = S) := ⟨_, rfl⟩
  obtain ⟨D, hD⟩ : ∃ S, Hid ((⟨d.toArray⟩ : ByteArray) = S) := ⟨_, rfl⟩
  obtain ⟨S, hS⟩ : ∃ S, Hid ((⟨(hd 2 d.length ++ d).toArray⟩ : ByteArray) = S) := ⟨_, rfl⟩
  have hSs : Hid (S.size = (hd 2 d.length ++ d).length) := by show _ = _; rw [← hS.out]; simp [ByteArray.size]
  rw [hH.out] at hcH hA
  rw [hD.out] at hP hA
  rw [hS.out] at hA hR
  rw [← hSs.out] at hR
  obtain ⟨dl, hdl⟩ : ∃ dl, Hid (d.length = dl) := ⟨_, rfl⟩
  rw [hdl.out] at hcH hP bx hwb ⊢
  have hw5 : ∀ X : World, (convert 3 24 (.int .i64 (dl : Int))).run Tryd.prog X = .ok (.int .u64 (dl : Int)) X := fun X => by
    have : IntKind.u64.wrap (dl : Int) = (dl : Int) := by rw [IntKind.wrap_u64]; have := hdl.out; omega
    go_simp
    try rw [this]
  clear hpd hin hq' hby hd62 hdc hl60
  go_enter Tryd.func31, Tryd.ntmps31
  go_upto_region 4 with fail
  rw [hwb.out]
  refine RX.Gw.draws (G4 w.heap.size 2 (.slice qd dl cd) dl H D S wb) (by kernel_rfl) (by kernel_rfl) ?_ (Below.refl _ wb).drew ?_
  · exact ⟨RX.gw_val fun a X hp => ⟨[(1, .pointer (some ⟨w.heap.size, 0, none⟩))], .pointer (some ⟨w.heap.size, 0, none⟩), X, ⟨hp.o 1 (by kernel_rfl), trivial⟩, by kernel_rfl, Below.refl _ _, rfl⟩,
      RX.cf_ld1T 3 29 rfl (by kernel_rfl) fun a X hp => ⟨⟨w.heap.size, 0, none⟩, .int .i64 2, hp.n 0 29 (by kernel_rfl) (by kernel_rfl) (by kernel_rfl), (bx.out X (hp.b 0 (by kernel_rfl))).1, Below.refl _ _, rfl⟩,
      RX.gw_val fun a X hp => ⟨[(1, .pointer (some ⟨w.heap.size, 0, none⟩))], .pointer (some ⟨w.heap.size, 2, none⟩), X, ⟨hp.o 1 (by kernel_rfl), trivial⟩, by kernel_rfl, Below.refl _ _, rfl⟩,
      RX.cf_ld1T 22 31 rfl (by kernel_rfl) fun a X hp => ⟨⟨w.heap.size, 2, none⟩, .slice qd dl cd, hp.n 2 31 (by kernel_rfl) (by kernel_rfl) (by kernel_rfl), (bx.out X (hp.b 0 (by kernel_rfl))).2.2.1, Below.refl _ _, rfl⟩,
      RX.gw_val fun a X hp => ⟨[(32, .slice qd dl cd)], .int .i64 (dl : Int), X, ⟨hp.n 3 32 (by kernel_rfl) (by kernel_rfl), trivial⟩, by kernel_rfl, Below.refl _ _, rfl⟩,
      RX.gw_cnvX 3 24 33 rfl fun a X hp => ⟨_, _, hp.n 4 33 (by kernel_rfl) (by kernel_rfl), hw5 X, rfl⟩,
      RX.gw_call fun a X hp => ⟨[(30, .int .i64 2), (34, .int .u64 (dl : Int))], 47, #[.int .i64 2, .int .u64 (dl : Int)], ⟨hp.n 1 30 (by kernel_rfl) (by kernel_rfl), hp.n 5 34 (by kernel_rfl) (by kernel_rfl), trivial⟩, by kernel_rfl, hcH.out X⟩,
      RX.gw_val fun a X hp => ⟨[(1, .pointer (some ⟨w.heap.size, 0, none⟩))], .pointer (some ⟨w.heap.size, 2, none⟩), X, ⟨hp.o 1 (by kernel_rfl), trivial⟩, by kernel_rfl, Below.refl _ _, rfl⟩,
      RX.cf_ld1T 22 36 rfl (by kernel_rfl) fun a X hp => ⟨⟨w.heap.size, 2, none⟩, .slice qd dl cd, hp.n 7 36 (by kernel_rfl) (by kernel_rfl) (by kernel_rfl), (bx.out X (hp.b 0 (by kernel_rfl))).2.2.1, Below.refl _ _, rfl⟩,
      RX.gw_cnvX 22 9 37 rfl fun a X hp => ⟨_, _, hp.n 8 37 (by kernel_rfl) (by kernel_rfl), hP.out X hp.b, rfl⟩,
      RX.gw_bin .add 9 9 35 38 rfl fun a X hp => ⟨_, _, _, hp.n 6 35 (by kernel_rfl) (by kernel_rfl), hp.n 9 38 (by kernel_rfl) (by kernel_rfl), by kernel_rfl, hA.out X, rfl⟩,
      RX.gw_val fun a X hp => ⟨[(39, .string S)], .string S, X, ⟨hp.n 10 39 (by kernel_rfl) (by kernel_rfl), trivial⟩, by kernel_rfl, Below.refl _ _, rfl⟩,
      trivial⟩
  · intro V w5 hV hB
    have h11 : V 11 = .string S := hV 11 (Nat.lt_of_succ_le (Nat.le_of_ble_eq_true (by kernel_rfl)))
    have KB : Hid (Below wb.heap.size wb w5) := hB
    dsimp only [RX.putV, Nat.reduceAdd]
    simp only [Act.put, List.setIfInBounds_toArray, List.set_cons_succ, List.set_cons_zero]
    rw [h11]
    clear hV hB h11
    have HR := hidW (hR.out w5 KB.out)
    by_cases g : S.size ≤ 65536
    · rw [decide_eq_true g] at HR
      have gz : (S.size : Int) ≤ 65536 := by omega
      go_wp2
      go_ret2
      exact ⟨_, rfl, HR.out⟩
    · rw [decide_eq_false g] at HR
      have gz : ¬ (S.size : Int) ≤ 65536 := by omega
      go_wp2
      go_ret2
      exact ⟨_, rfl, HR.out⟩
set_option maxHeartbeats 1000000 in
set_option maxRecDepth 20000 in
theorem rw3 (n : Nat) (d : List UInt8) (l : List Itm) : RwS (.mk 3 n d l) := by
  intro w qd dl cd ql m cl hM
  rw [InM] at hM
  obtain ⟨hn64, hd62, hl60, hpd, q', c', hq', hin⟩ := hM
  show Calls Tryd.prog 31 #[itv 3 n qd dl cd ql m cl] w _
  unfold itv
  obtain ⟨rfl, hdc⟩ : dl = d.length ∧ d.length ≤ cd := by
    obtain ⟨qq, cc, e, hcc, -⟩ := hpd
    obtain ⟨rfl, rfl, rfl⟩ : qd = qq ∧ dl = d.length ∧ cd = cc := by simpa using e
    exact ⟨rfl, hcc⟩
  obtain ⟨rfl, rfl, rfl⟩ : ql = q' ∧ m = l.length ∧ cl = c' := by simpa using hq'
  obtain ⟨wb, hwb⟩ : ∃ wb, Hid (w.alloc (.cells #[.int .i64 3, .int .u64 (n : Int), .slice qd d.length cd, .slice ql l.length cl] 27) = wb) := ⟨_, rfl⟩
  have hb0 : Hid (Below w.heap.size w wb) := by rw [← hwb.out]; exact alloc_below _ _
  have bx : Hid (∀ w1, Below wb.heap.size wb w1 → w1.cell? ⟨w.heap.size, 0, none⟩ = some (.int .i64 3) ∧ w1.cell? ⟨w.heap.size, 1, none⟩ = some (.int .u64 (n : Int)) ∧ w1.cell? ⟨w.heap.size, 2, none⟩ = some (.slice qd d.length cd) ∧ w1.cell? ⟨w.heap.size, 3, none⟩ = some (.slice ql l.length cl) ∧ w.heap.size < w1.heap.size) := fun w1 hb => by
    have hz : ∀ j v, ([.int .i64 3, .int .u64 (n : Int), .slice qd d.length cd, .slice ql l.length cl] : List Value)[j]? = some v → w1.cell? ⟨w.heap.size, j, none⟩ = some v := fun j v hj => by
      have := al_c w #[.int .i64 3, .int .u64 (n : Int), .slice qd d.length cd, .slice ql l.length cl] 27 _ j v rfl (by simpa using hj)
      rw [hwb.out] at this
      rw [hb.cell (p := ⟨w.heap.size, j, none⟩) (World.block_lt_of_cell? _ _ this)]
      exact this
    exact ⟨hz 0 _ rfl, hz 1 _ rfl, hz 2 _ rfl, hz 3 _ rfl, World.block_lt_of_cell? _ _ (hz 0 _ rfl)⟩
  have hcH : Hid (∀ X, Calls Tryd.prog 47 #[.int .i64 3, .int .u64 (d.length : Int)] X (Ret fun e w' => Below X.heap.size X w' ∧ e = .string ⟨(hd 3 d.length).toArray⟩)) := fun X => by
    refine (show Calls Tryd.prog 47 #[.int .i64 3, .int .u64 (d.length : Int)] X _ from rhead_c X 3 d.length (by decide) (by omega)).mono ?_
    rintro e w' ⟨v, rfl, h1, h2⟩
    exact ⟨_, rfl, h1, h2⟩
  have hP : Hid (∀ X, Below wb.heap.size wb X → (convert 22 9 (.slice qd d.length cd)).run Tryd.prog X = .ok (.string ⟨d.toArray⟩) X) := fun X hX => pb_conv ((hpd.pb.below hb0.out).below hX)
  have hA : Hid (∀ X : World, (binOp .add 9 (.string ⟨(hd 3 d.length).toArray⟩) (.string ⟨d.toArray⟩)).run Tryd.prog X = .ok (.string ⟨(hd 3 d.length ++ d).toArray⟩) X) := fun X => strcat _ _ (by have := hd_le 3 d.length; omega) X
  have hby : byt (.mk 3 n d l) = hd 3 d.length ++ d := by simp [byt]
  have hR : Hid (∀ w', Below wb.heap.size wb w' → RwR w (.mk 3 n d l) (.tuple #[.string ⟨(hd 3 d.length ++ d).toArray⟩, .bool (decide ((hd 3 d.length ++ d).length ≤ 65536))]) w') := fun w' hw' => by
    refine ⟨hb0.out.trans (hw'.mono hb0.out.size), ?_⟩
    by_cases h : (hd 3 d.length ++ d).length ≤ 65536
    · rw [decide_eq_true h]
      exact Or.inl ⟨by simp only [wrb]; rw [hby]; simpa using h, by rw [hby]⟩
    · rw [decide_eq_false h]
      exact Or.inr ⟨by simp only [wrb]; rw [hby]; simpa using h, _, rfl⟩
  obtain ⟨H, hH⟩ : ∃ S, Hid ((⟨(hd 3 d.length).toArray⟩ : ByteArray) = S) := ⟨_, rfl⟩
  obtain ⟨D, hD⟩ : ∃ S, Hid ((⟨d.toArray⟩ : ByteArray) = S) := ⟨_, rfl⟩
  obtain ⟨S, hS⟩ : ∃ S, Hid ((⟨(hd 3 d.length ++ d).toArray⟩ : ByteArray) = S) := ⟨_, rfl⟩
  have hSs : Hid (S.size = (hd 3 d.length ++ d).length) := by show _ = _; rw [← hS.out]; simp [ByteArray.size]
  rw [hH.out] at hcH hA
  rw [hD.out] at hP hA
  rw [hS.out] at hA hR
  rw [← hSs.out] at hR
  obtain ⟨dl, hdl⟩ : ∃ dl, Hid (d.length = dl) := ⟨_, rfl⟩
  rw [hdl.out] at hcH hP bx hwb ⊢
  have hw5 : ∀ X : World, (convert 3 24 (.int .i64 (dl : Int))).run Tryd.prog X = .ok (.int .u64 (dl : Int)) X := fun X => by
    have : IntKind.u64.wrap (dl : Int) = (dl : Int) := by rw [IntKind.wrap_u64]; have := hdl.out; omega
    go_simp
    try rw [this]
  clear hpd hin hq' hby hd62 hdc hl60
  go_enter Tryd.func31, Tryd.ntmps31
  go_upto_region 4 with fail
  rw [hwb.out]
  refine RX.Gw.draws (G4 w.heap.size 3 (.slice qd dl cd) dl H D S wb) (by kernel_rfl) (by kernel_rfl) ?_ (Below.refl _ wb).drew ?_
  · exact ⟨RX.gw_val fun a X hp => ⟨[(1, .pointer (some ⟨w.heap.size, 0, none⟩))], .pointer (some ⟨w.heap.size, 0, none⟩), X, ⟨hp.o 1 (by kernel_rfl), trivial⟩, by kernel_rfl, Below.refl _ _, rfl⟩,
      RX.cf_ld1T 3 29 rfl (by kernel_rfl) fun a X hp => ⟨⟨w.heap.size, 0, none⟩, .int .i64 3, hp.n 0 29 (by kernel_rfl) (by kernel_rfl) (by kernel_rfl), (bx.out X (hp.b 0 (by kernel_rfl))).1, Below.refl _ _, rfl⟩,
      RX.gw_val fun a X hp => ⟨[(1, .pointer (some ⟨w.heap.size, 0, none⟩))], .pointer (some ⟨w.heap.size, 2, none⟩), X, ⟨hp.o 1 (by kernel_rfl), trivial⟩, by kernel_rfl, Below.refl _ _, rfl⟩,
      RX.cf_ld1T 22 31 rfl (by kernel_rfl) fun a X hp => ⟨⟨w.heap.size, 2, none⟩, .slice qd dl cd, hp.n 2 31 (by kernel_rfl) (by kernel_rfl) (by kernel_rfl), (bx.out X (hp.b 0 (by kernel_rfl))).2.2.1, Below.refl _ _, rfl⟩,
      RX.gw_val fun a X hp => ⟨[(32, .slice qd dl cd)], .int .i64 (dl : Int), X, ⟨hp.n 3 32 (by kernel_rfl) (by kernel_rfl), trivial⟩, by kernel_rfl, Below.refl _ _, rfl⟩,
      RX.gw_cnvX 3 24 33 rfl fun a X hp => ⟨_, _, hp.n 4 33 (by kernel_rfl) (by kernel_rfl), hw5 X, rfl⟩,
      RX.gw_call fun a X hp => ⟨[(30, .int .i64 3), (34, .int .u64 (dl : Int))], 47, #[.int .i64 3, .int .u64 (dl : Int)], ⟨hp.n 1 30 (by kernel_rfl) (by kernel_rfl), hp.n 5 34 (by kernel_rfl) (by kernel_rfl), trivial⟩, by kernel_rfl, hcH.out X⟩,
      RX.gw_val fun a X hp => ⟨[(1, .pointer (some ⟨w.heap.size, 0, none⟩))], .pointer (some ⟨w.heap.size, 2, none⟩), X, ⟨hp.o 1 (by kernel_rfl), trivial⟩, by kernel_rfl, Below.refl _ _, rfl⟩,
      RX.cf_ld1T 22 36 rfl (by kernel_rfl) fun a X hp => ⟨⟨w.heap.size, 2, none⟩, .slice qd dl cd, hp.n 7 36 (by kernel_rfl) (by kernel_rfl) (by kernel_rfl), (bx.out X (hp.b 0 (by kernel_rfl))).2.2.1, Below.refl _ _, rfl⟩,
      RX.gw_cnvX 22 9 37 rfl fun a X hp => ⟨_, _, hp.n 8 37 (by kernel_rfl) (by kernel_rfl), hP.out X hp.b, rfl⟩,
      RX.gw_bin .add 9 9 35 38 rfl fun a X hp => ⟨_, _, _, hp.n 6 35 (by kernel_rfl) (by kernel_rfl), hp.n 9 38 (by kernel_rfl) (by kernel_rfl), by kernel_rfl, hA.out X, rfl⟩,
      RX.gw_val fun a X hp => ⟨[(39, .string S)], .string S, X, ⟨hp.n 10 39 (by kernel_rfl) (by kernel_rfl), trivial⟩, by kernel_rfl, Below.refl _ _, rfl⟩,
      trivial⟩
  · intro V w5 hV hB
    have h11 : V 11 = .string S := hV 11 (Nat.lt_of_succ_le (Nat.le_of_ble_eq_true (by kernel_rfl)))
    have KB : Hid (Below wb.heap.size wb w5) := hB
    dsimp only [RX.putV, Nat.reduceAdd]
    simp only [Act.put, List.setIfInBounds_toArray, List.set_cons_succ, List.set_cons_zero]
    rw [h11]
    clear hV hB h11
    have HR := hidW (hR.out w5 KB.out)
    by_cases g : S.size ≤ 65536
    · rw [decide_eq_true g] at HR
      have gz : (S.size : Int) ≤ 65536 := by omega
      go_wp2
      go_ret2
      exact ⟨_, rfl, HR.out⟩
    · rw [decide_eq_false g] at HR
      have gz : ¬ (S.size : Int) ≤ 65536 := by omega
      go_wp2
      go_ret2
      exact ⟨_, rfl, HR.out⟩
end WI
end Go.Proofs.YtfkgfcggcfkkiaaDoor
