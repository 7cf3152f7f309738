import Derived.Test.YtppdcphfphcbbabX4
import Derived.Test.YtppdcphfphcbbabN4
namespace Go.Proofs.Ytppdcphfphcbbab
open Go.RowKit Go.Sort Go.Deep

/-- What a kind is. -/
def KindIs (k : Int) : Prop :=
  (decide (k = 0 ∨ k = 1) = true ∧ ∃ g0 g1 g2 P p0 p1 p2 p3 c0 c1 c2 c3 : Nat, Gap g0 g1 g2 P ∧ PrimeOf k g0 g1 g2 ∧ RefP p0 p1 p2 p3 c0 c1 c2 c3 P ∧ ∀ w, Calls Try.prog 16 #[.int .i64 k] w (Ret fun e w' => Below w.heap.size w w' ∧ e = .agg #[.int .u64 (p0 : Int), .int .u64 (p1 : Int), .int .u64 (p2 : Int), .int .u64 (p3 : Int), .int .u64 (c0 : Int), .int .u64 (c1 : Int), .int .u64 (c2 : Int), .int .u64 (c3 : Int)])) ∨
  (decide (k = 0 ∨ k = 1) = false ∧ (k < 0 ∨ 2 ≤ k))
theorem kind_is (k : Int) : KindIs k := by
  by_cases h0 : k = 0
  · subst h0
    exact Or.inl ⟨rfl, _, _, _, _, _, _, _, _, _, _, _, _, gap0, primeOf_0, refP0, rMake0⟩
  · by_cases h1 : k = 1
    · subst h1
      exact Or.inl ⟨rfl, _, _, _, _, _, _, _, _, _, _, _, _, gap1, primeOf_1, refP1, rMake1⟩
    · exact Or.inr ⟨decide_eq_false (by omega), by omega⟩

set_option maxHeartbeats 8000000 in
set_option maxRecDepth 100000 in
theorem lists_few (k : Int) (s : ByteArray) (n : Int) (ql qm : Option Addr) (nl nm cl cm : Nat) (S T : Nat → ByteArray) (w0 : World) (hs : s.size ≤ 16384) (hl : nl ≤ 300) (hm : nm ≤ 300) (hS : Texts w0 ql nl S) (hT : Texts w0 qm nm T) (hSs : ∀ j, j < nl → (S j).size ≤ 140737488355328) (hTs : ∀ j, j < nm → (T j).size ≤ 140737488355328) :
    Calls Try.prog 5 #[.int .i64 k, .string s, .int .i64 n, .slice ql nl cl, .slice qm nm cm] w0 fun e w' => e = .returned (.bool true) ∧ Below w0.heap.size w0 w' := by
  have HS : Hid (Texts w0 ql nl S) := hS
  have HT : Hid (Texts w0 qm nm T) := hT
  have HSZ : Hid (∀ j, j < nl → (S j).size ≤ 140737488355328) := hSs
  have HTZ : Hid (∀ j, j < nm → (T j).size ≤ 140737488355328) := hTs
  have h1 : ¬ (16384 : Int) < (s.size : Int) := by omega
  have h2 : ¬ (300 : Int) < (nl : Int) := by omega
  have h3 : ¬ (300 : Int) < (nm : Int) := by omega
  clear hS hT hSs hTs
  go_enter Try.func5, Try.ntmps5
  go_wp2
  clear h1 h2 h3
  go_loopg [11, 13] nl (fun gk s11 s13 wr => ∃ (i : Nat) (va : Value), i + gk = nl ∧ va = s11 ∧ s13 = .int .i64 (i : Int) ∧ Below w0.heap.size w0 wr ∧ Hid (AL wr w0.heap.size i va S))
  case atStart => exact ⟨0, _, Nat.zero_add _, rfl, rfl, Below.refl _ _, Or.inl ⟨rfl, rfl⟩⟩
  case round =>
    obtain ⟨i, va, hi, rfl, rfl, hb, HAL⟩ := hrel
    by_cases hlt : i < nl
    · have hlt' : (i : Int) < (nl : Int) := by omega
      obtain ⟨gl, ol, rfl, hgl, hcl⟩ := HS.out (by omega)
      have hc : wr.cell? ⟨gl, ol + i, none⟩ = some (.string (S i)) := by rw [hb.cell (p := ⟨gl, ol + i, none⟩) hgl]; exact hcl i hlt
      have hsz := HSZ.out i hlt
      obtain ⟨t, ht⟩ : ∃ t, t = S i := ⟨_, rfl⟩
      rw [← ht] at hc hsz
      clear hcl
      by_cases h64 : (64 : Int) < (t.size : Int)
      · clear ht
        go_wp2
        go_ret
        exact ⟨by simp, hb⟩
      · obtain ⟨cap, W1, hcv, hcap, hbc, hH, hltc⟩ := conv_of t wr
        obtain ⟨v', w3, hap, hL3, hb3⟩ := AL.push HAL.out hb.size (by omega) hbc hltc hcap hH ht
        have hc1 : W1.cell? ⟨gl, ol + i, none⟩ = some (.string t) := by rw [hbc.cell (p := ⟨gl, ol + i, none⟩) (Nat.lt_of_lt_of_le hgl hb.size)]; exact hc
        have HL3 : Hid _ := hL3
        clear hL3 ht hH hcap hltc hbc
        go_wp2_with (at_builtin; refine Lib.wpList_append_run _ rfl _ _ 46 46 rfl _ _ rfl rfl _ _ hap ?_)
        go_roundg (gk - 1)
        case measure => omega
        case rel => exact ⟨i + 1, _, by omega, rfl, rfl, hb.trans hb3, HL3.out⟩
    · have hge : ¬ (i : Int) < (nl : Int) := by omega
      have hin : i = nl := by omega
      subst hin
      clear hlt hi
      go_wp2
      clear hge
      generalize wr = w2 at hb HAL ⊢
      go_loopg [12, 14] nm (fun gk s12 s14 wr => ∃ (j : Nat) (vb : Value), j + gk = nm ∧ vb = s12 ∧ s14 = .int .i64 (j : Int) ∧ Below w2.heap.size w2 wr ∧ Hid (AL wr w2.heap.size j vb T))
      case atStart => exact ⟨0, _, Nat.zero_add _, rfl, rfl, Below.refl _ _, Or.inl ⟨rfl, rfl⟩⟩
      case round =>
        obtain ⟨j, vb, hj, rfl, rfl, hb2, HBL⟩ := hrel
        have hbb : Below w0.heap.size w0 wr := hb.trans (hb2.mono hb.size)
        by_cases hlt : j < nm
        · have hlt' : (j : Int) < (nm : Int) := by omega
          obtain ⟨gl, ol, rfl, hgl, hcl⟩ := HT.out (by omega)
          have hc : wr.cell? ⟨gl, ol + j, none⟩ = some (.string (T j)) := by rw [hbb.cell (p := ⟨gl, ol + j, none⟩) hgl]; exact hcl j hlt
          have hsz := HTZ.out j hlt
          obtain ⟨t, ht⟩ : ∃ t, t = T j := ⟨_, rfl⟩
          rw [← ht] at hc hsz
          clear hcl
          by_cases h64 : (64 : Int) < (t.size : Int)
          · clear ht
            go_wp2
            go_ret
            exact ⟨by simp, hbb⟩
          · obtain ⟨cap, W1, hcv, hcap, hbc, hH, hltc⟩ := conv_of t wr
            obtain ⟨v', w3, hap, hL3, hb3⟩ := AL.push HBL.out hb2.size (by omega) hbc hltc hcap hH ht
            have HL3 : Hid _ := hL3
            clear hL3 ht hH hcap hltc hbc
            go_wp2_with (at_builtin; refine Lib.wpList_append_run _ rfl _ _ 46 46 rfl _ _ rfl rfl _ _ hap ?_)
            go_roundg (gk - 1)
            case measure => omega
            case rel => exact ⟨j + 1, _, by omega, rfl, rfl, hb2.trans hb3, HL3.out⟩
        · have hge : ¬ (j : Int) < (nm : Int) := by omega
          have hin : j = nm := by omega
          subst hin
          clear hlt hj
          obtain ⟨qa, ca, rfl, hA⟩ := (HAL.out.below hb2).args
          obtain ⟨qb, cb, rfl, hB⟩ := HBL.out.args
          obtain ⟨cap, wc, hcv, hcap, hbc, hH, hltc⟩ := conv_of s wr
          have HARG : Hid (Arg wc (.slice (some ⟨wr.heap.size, 0, none⟩) s.size cap) s.data) := ⟨_, _, _, rfl, rfl, fun h => ⟨wr.heap.size, 0, rfl, by omega, hltc, hH⟩⟩
          have HA : Hid (Args wc qa i (fun j => (S j).data)) := hA.below hbc
          have HB : Hid (Args wc qb j (fun j => (T j).data)) := hB.below hbc
          have HBC : Hid (Below w0.heap.size w0 wc) := hbb.trans (hbc.mono hbb.size)
          clear hA hB hcap hbc hH hltc HAL HBL hb2 hb hbb
          go_wp2_with fail
          clear hcv hge
          rcases kind_is k with ⟨hk, g0, g1, g2, P, p0, p1, p2, p3, c0, c1, c2, c3, hG, hp, hR, hmk⟩ | ⟨hk, hno⟩
          · have HK : Hid (decide (k = 0 ∨ k = 1) = true) := hk
            have HG : Hid (Gap g0 g1 g2 P) := hG
            have HP : Hid (PrimeOf k g0 g1 g2) := hp
            have HR : Hid (RefP p0 p1 p2 p3 c0 c1 c2 c3 P) := hR
            have HMK : Hid _ := hmk
            clear hk hG hp hR hmk
            refine (Powers_all k n g0 g1 g2 P _ s HG.out _ HP.out HARG.out).mono ?_
            rintro e w5 ⟨v, rfl, hb5, q5, l5, e5, ep5, rfl, hans⟩
            have HPA : Hid (PAns w5 P s n wc.heap.size q5 l5 e5 ep5) := hans
            have HA5 : Hid (Args w5 qa i (fun j => (S j).data)) := HA.out.below hb5
            have HB5 : Hid (Args w5 qb j (fun j => (T j).data)) := HB.out.below hb5
            have HC5 : Hid (Below w0.heap.size w0 w5 ∧ wc.heap.size ≤ w5.heap.size ∧ w0.heap.size ≤ wc.heap.size) := ⟨HBC.out.trans (hb5.mono HBC.out.size), hb5.size, HBC.out.size⟩
            clear hans hb5 HA HB HBC HARG
            generalize wc.heap.size = N at HPA HC5
            go_wp2_with fail
            refine (Dot_all k g0 g1 g2 P i j ca cb qa qb S T HG.out _ HP.out HA5.out HB5.out).mono ?_
            rintro e w6 ⟨v, rfl, hb6, q6, l6, e6, ep6, rfl, hans⟩
            have HEA : Hid (EAns w6 P i j S T q6 l6 e6 ep6) := hans
            have HPA6 : Hid (PAns w6 P s n N q5 l5 e5 ep5) := HPA.out.call hb6
            have HC6 : Hid (Below w0.heap.size w0 w6 ∧ N ≤ w6.heap.size ∧ w0.heap.size ≤ N) := ⟨HC5.out.1.trans (hb6.mono HC5.out.1.size), Nat.le_trans HC5.out.2.1 hb6.size, HC5.out.2.2⟩
            clear hans hb6 HPA HC5 HA5 HB5
            go_wp2_with fail
            refine (Known_law k _).mono ?_
            rintro e w7 ⟨rfl, rfl⟩
            rw [HK.out]
            go_wp2_with fail
            refine (HMK.out _).mono ?_
            rintro e w8 ⟨v, rfl, hb8, rfl⟩
            go_wp2_with fail
            have A7 := At8.made w8 35 p0 p1 p2 p3 c0 c1 c2 c3 rfl
            have K : Kept w7 w7.heap.size [⟨w8.heap.size, 0, p0, p1, p2, p3⟩, ⟨w8.heap.size, 4, c0, c1, c2, c3⟩] _ := (((Kept.mk1 hb8 hb8.size).alloc (.cells #[.int .u64 (p0 : Int), .int .u64 (p1 : Int), .int .u64 (p2 : Int), .int .u64 (p3 : Int), .int .u64 (c0 : Int), .int .u64 (c1 : Int), .int .u64 (c2 : Int), .int .u64 (c3 : Int)] 35)).cons (x := ⟨w8.heap.size, 4, c0, c1, c2, c3⟩) ⟨A7.c4, A7.c5, A7.c6, A7.c7, A7.fz⟩).cons (x := ⟨w8.heap.size, 0, p0, p1, p2, p3⟩) ⟨A7.c0, A7.c1, A7.c2, A7.c3, A7.fz⟩
            clear A7 hb8
            generalize World.alloc _ _ = W2 at K ⊢
            generalize w8.heap.size = kF at K ⊢
            refine (lpowers_all p0 p1 p2 p3 c0 c1 c2 c3 P s HR.out n ep5 N l5 e5 q5 _ (HPA6.out.call K.bl)).mono ?_
            rintro e w9 ⟨v, rfl, hb9, rfl⟩
            replace K := K.call hb9
            clear hb9
            have fb := K.tail.head
            obtain ⟨fc0, fc1, fc2, fc3, ff⟩ := K.head.at4
            have fd0 : w9.cell? ⟨kF, 4, none⟩ = some (.int .u64 (c0 : Int)) := fb.c0
            have fd1 : w9.cell? ⟨kF, 5, none⟩ = some (.int .u64 (c1 : Int)) := fb.c1
            have fd2 : w9.cell? ⟨kF, 6, none⟩ = some (.int .u64 (c2 : Int)) := fb.c2
            have fd3 : w9.cell? ⟨kF, 7, none⟩ = some (.int .u64 (c3 : Int)) := fb.c3
            have zf := K.head.lt
            have HL : Hid (i ≤ 300 ∧ j ≤ 300) := ⟨hl, hm⟩
            go_wp2_with fail
            clear fb fc0 fc1 fc2 fc3 ff fd0 fd1 fd2 fd3 zf
            refine (ldot_all i j cl cm l6 e6 ql qm q6 ep6 p0 p1 p2 p3 c0 c1 c2 c3 P HR.out S T _ HL.out.1 HL.out.2 (HS.out.below (HC6.out.1.trans (K.bl.mono HC6.out.1.size))) (HT.out.below (HC6.out.1.trans (K.bl.mono HC6.out.1.size))) (HEA.out.call K.bl)).mono ?_
            rintro e w10 ⟨v, rfl, hb10, rfl⟩
            replace K := K.call hb10
            clear hb10
            go_wp2_with fail
            refine (Apart_all (HPA6.out.call K.bl) (Nat.le_trans HC6.out.2.1 K.bl.size)).mono ?_
            rintro e w11 ⟨v, rfl, hb11, rfl⟩
            have HBF : Hid (Below w0.heap.size w0 w11) := (HC6.out.1.trans (K.bl.mono HC6.out.1.size)).trans (hb11.mono HC6.out.2.2)
            clear K hb11 HC6 HPA6 HEA
            go_wp2
            go_ret
            exact ⟨by simp, HBF.out⟩
          · have HK : Hid (decide (k = 0 ∨ k = 1) = false) := hk
            have HN : Hid (k < 0 ∨ 2 ≤ k) := hno
            clear hk hno
            refine (Powers_no k HN.out _ _ _).mono ?_
            rintro e w5 ⟨v, rfl, hb5, rfl⟩
            have HC5 : Hid (Below w0.heap.size w0 w5) := HBC.out.trans (hb5.mono HBC.out.size)
            clear hb5 HA HB HBC HARG
            go_wp2_with fail
            refine (Dot_no k HN.out _ _ _).mono ?_
            rintro e w6 ⟨v, rfl, hb6, rfl⟩
            have HC6 : Hid (Below w0.heap.size w0 w6) := HC5.out.trans (hb6.mono HC5.out.size)
            clear hb6 HC5
            go_wp2_with fail
            refine (Known_law k _).mono ?_
            rintro e w7 ⟨rfl, rfl⟩
            rw [HK.out]
            go_wp2
            go_ret
            exact ⟨by simp, HC6.out⟩

set_option maxHeartbeats 2000000 in
set_option maxRecDepth 100000 in
theorem lists_any (k : Int) (s : ByteArray) (n : Int) (ql qm : Option Addr) (nl nm cl cm : Nat) (S T : Nat → ByteArray) (w0 : World) (hnl : nl ≤ 140737488355328) (hnm : nm ≤ 140737488355328) (hss : s.size ≤ 140737488355328) (hS : Texts w0 ql nl S) (hT : Texts w0 qm nm T) (hSs : ∀ j, j < nl → (S j).size ≤ 140737488355328) (hTs : ∀ j, j < nm → (T j).size ≤ 140737488355328) :
    Calls Try.prog 5 #[.int .i64 k, .string s, .int .i64 n, .slice ql nl cl, .slice qm nm cm] w0 fun e w' => e = .returned (.bool true) ∧ Below w0.heap.size w0 w' := by
  by_cases hs : s.size ≤ 16384
  · have h1 : ¬ (16384 : Int) < (s.size : Int) := by omega
    by_cases hl : nl ≤ 300
    · have h2 : ¬ (300 : Int) < (nl : Int) := by omega
      by_cases hm : nm ≤ 300
      · exact lists_few k s n ql qm nl nm cl cm S T w0 hs hl hm hS hT hSs hTs
      · have h3 : (300 : Int) < (nm : Int) := by omega
        clear hS hT hSs hTs
        go_enter Try.func5, Try.ntmps5
        go_wp2
        go_ret
        exact ⟨by simp, Below.refl _ _⟩
    · have h2 : (300 : Int) < (nl : Int) := by omega
      clear hS hT hSs hTs
      go_enter Try.func5, Try.ntmps5
      go_wp2
      go_ret
      exact ⟨by simp, Below.refl _ _⟩
  · have h1 : (16384 : Int) < (s.size : Int) := by omega
    clear hS hT hSs hTs
    go_enter Try.func5, Try.ntmps5
    go_wp2
    go_ret
    exact ⟨by simp, Below.refl _ _⟩
end Go.Proofs.Ytppdcphfphcbbab
