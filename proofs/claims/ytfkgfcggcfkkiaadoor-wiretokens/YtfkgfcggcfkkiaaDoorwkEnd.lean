import Derived.Deep.LoopGhost
import Derived.BigQuiet
import Derived.Test.YtfkgfcggcfkkiaaDoorTie
import Derived.Test.YtfkgfcggcfkkiaaDoorCards
import Derived.ChangeOld
import Derived.ProofKit
import Derived.LaidMore
import Derived.OpenShut
import Derived.ShutString
import Derived.ChangeSlices
import Derived.Deep.Slices
import Derived.Deep.Strs
import Derived.Lib.SmallJoins
import Derived.Stop.Joined
import Derived.SevenTiedAt
import Derived.Lib.LaidU8T
import Derived.Lay
import Derived.Test.YtfkgfcggcfkkiaaDoorwk12
set_option linter.unusedVariables false
set_option linter.unusedSimpArgs false
namespace Go.Proofs.YtfkgfcggcfkkiaaDoor
open Go.RowKit Go.Sort Go.Deep
namespace WI
variable {F lo hi : Nat → Nat}
theorem below_drN {B : Nat} {a w : World} (h : Below B a w) : ∀ q, Below B a (w.drewN q)
  | 0 => h
  | q + 1 => (below_drN h q).drew
theorem TabV.below {w w' : World} (h : TabV F lo hi w) (hb : Below w.heap.size w w') : TabV F lo hi w' := TabV.at F lo hi h (Nat.le_trans h.1 hb.size) (fun k hk => hb.block k (Nat.lt_of_lt_of_le hk h.1))
theorem wrap8 (s : Nat) (h : s < 8) : wrap64 (s : Int) = (s : Int) := by
  unfold wrap64
  omega
/-- How the loop stands: what is left. -/
def VI (F lo hi : Nat → Nat) (w : World) (ANS : Bool) (gk : Nat) (s0 : Value) (wr : World) : Prop := Below w.heap.size w wr ∧ ∃ q y n, s0 = .slice q n n ∧ y.length = n ∧ n < gk ∧ n ≤ 4611686018427387904 ∧ PC wr q y ∧ uv F lo hi y = ANS
set_option maxHeartbeats 3000000 in
set_option maxRecDepth 100000 in
theorem utf8_core (hF : ∀ i, i < 256 → F i < 256) (hlo : ∀ j, j < 16 → lo j < 256) (hhi : ∀ j, j < 16 → hi j < 256) (w : World) (q : Option Addr) (m c : Nat) (x : List UInt8) (hT : TabV F lo hi w) (hx : PB w (.slice q m c) x) (hmc : m ≤ c) (hl : x.length ≤ 4611686018427387904) :
    Calls Tryd.prog 46 #[.slice q m c] w (RetW (BoR w (uv F lo hi x))) := by
  obtain ⟨ANS, hANS⟩ : ∃ ANS, Hid (uv F lo hi x = ANS) := ⟨_, rfl⟩
  rw [hANS.out]
  have mixed : Tryd.prog.follows .mixedOrders = true := by kernel_rfl
  obtain ⟨q0, hs3, hp0⟩ : ∃ q0, (∀ w, (Instr.sliceAt 22 (.slice q m c) none (some (.int .i64 (m : Int))) (some (.int .i64 (m : Int)))).run Tryd.prog w = .ok (.slice q0 m m) w) ∧ Hid (VI F lo hi w ANS (m + 1) (.slice q0 m m) w) := by
    obtain ⟨q', c', e, hq⟩ := hx
    obtain ⟨rfl, rfl, rfl⟩ : q = q' ∧ m = x.length ∧ c = c' := by simpa using e
    rcases hq with rfl | ⟨b, o, rfl, hc⟩
    · cases q with
      | none => exact ⟨none, fun w => sl3n c w, Below.refl _ _, none, [], 0, rfl, rfl, by omega, by omega, Or.inl rfl, hANS.out⟩
      | some a => exact ⟨some a, fun w => sl3a a c w, Below.refl _ _, some a, [], 0, rfl, rfl, by omega, by omega, Or.inl rfl, hANS.out⟩
    · exact ⟨some ⟨b, o, none⟩, fun w => sl3s b o _ c hmc w, Below.refl _ _, some ⟨b, o, none⟩, x, x.length, rfl, rfl, by omega, hl, Or.inr ⟨b, o, rfl, hc⟩, hANS.out⟩
  clear hx hmc hl hANS
  go_enter Tryd.func46, Tryd.ntmps46
  go_wp2
  go_loopg [0] (m + 1) (fun gk s0 wr => VI F lo hi w ANS gk s0 wr)
  case atStart => exact hp0.out
  case round =>
    obtain ⟨hbw, q1, y, n, rfl, hyn, hgk, hn62, hP, hv⟩ := hrel
    cases y with
    | nil =>
      obtain rfl : n = 0 := by rw [← hyn]; rfl
      obtain rfl : ANS = true := by rw [← hv]; rfl
      have KB : Hid (BoR w true (.bool true) wr) := ⟨rfl, hbw⟩
      clear hP hv hbw hp0
      go_wp2
      go_ret
      exact ⟨_, rfl, KB.out⟩
    | cons b r =>
      obtain ⟨g, o, rfl, hc⟩ : ∃ g o, q1 = some ⟨g, o, none⟩ ∧ ∀ j x, (b :: r)[j]? = some x → wr.cell? ⟨g, o + j, none⟩ = some (.int .u8 (x.toNat : Int)) := by
        rcases hP with h | h
        · cases h
        · exact h
      have c0 : wr.cell? ⟨g, o, none⟩ = some (.int .u8 (b.toNat : Int)) := hc 0 b rfl
      have hlt := World.block_lt_of_cell? _ _ c0
      have n0 : (0 : Int) < (n : Int) := by rw [← hyn, List.length_cons]; omega
      obtain ⟨n1, rfl⟩ : ∃ n1, n = n1 + 1 := ⟨n - 1, by omega⟩
      have hrn : r.length = n1 := by rw [List.length_cons] at hyn; omega
      obtain ⟨g', rfl⟩ : ∃ g', gk = g' + 1 := ⟨gk - 1, by omega⟩
      by_cases hasc : b.toNat < 128
      · have hasz : (b.toNat : Int) < 128 := by omega
        rw [uv_cons, if_pos hasc] at hv
        obtain ⟨q2, hsl2, hP2⟩ := sl_pc (w := wr) (y := b :: r) (n1 + 1) 1 n1 1 rfl hyn (by omega) (by omega) hc
        rw [List.drop_succ_cons, List.drop_zero] at hP2
        by_cases c8 : 8 < n1
        · have c8z : (8 : Int) < (n1 : Int) := by omega
          obtain ⟨x0, x1, x2, x3, x4, x5, x6, x7, s, rfl⟩ := split8 r (by omega)
          have hlen1 : s.length + 8 = n1 := by simp at hrn; omega
          have hcw := word_pc n1 hlen1 hP2
          have he8 := eight x0 x1 x2 x3 x4 x5 x6 x7
          have lA := leNat_lt x0 x1 x2 x3 x4 x5 x6 x7
          obtain ⟨A, hA⟩ : ∃ A, Hid (Lib.leNat [x0, x1, x2, x3, x4, x5, x6, x7] = A) := ⟨_, rfl⟩
          rw [hA.out] at he8 lA
          replace hcw : ∀ z, _ := fun z => hA.out ▸ hcw z
          have hand : bits .and .u64 (A : Int) 9259542123273814144 = ((A &&& 9259542123273814144 : Nat) : Int) := u64_and_nat A 9259542123273814144 lA (by omega)
          obtain ⟨Z, hZ⟩ : ∃ Z, Hid (A &&& 9259542123273814144 = Z) := ⟨_, rfl⟩
          rw [hZ.out] at hand he8
          by_cases hz : Z = 0
          · as_aux_lemma =>
            have hzb : ((Z : Int) == 0) = true := by simp [hz]
            have hv2 : Hid (uv F lo hi s = ANS) := by
              rw [← hv]
              exact (uv_asc F lo hi s [x0, x1, x2, x3, x4, x5, x6, x7] (he8 hz)).symm
            clear he8
            obtain ⟨g2, o2, rfl, hc2⟩ : ∃ g2 o2, q2 = some ⟨g2, o2, none⟩ ∧ ∀ j x, (x0 :: x1 :: x2 :: x3 :: x4 :: x5 :: x6 :: x7 :: s)[j]? = some x → wr.cell? ⟨g2, o2 + j, none⟩ = some (.int .u8 (x.toNat : Int)) := by
              rcases hP2 with h | h
              · cases h
              · exact h
            obtain ⟨n2, hn2⟩ : ∃ n2, Hid (s.length = n2) := ⟨_, rfl⟩
            have hn12 : Hid (n1 = n2 + 8) := by show n1 = n2 + 8; rw [← hn2.out]; omega
            obtain ⟨q3, hsl3, hP3⟩ := sl_pc (w := wr) n1 8 n2 8 rfl hrn (by have := hn12.out; omega) (by have := hn12.out; omega) hc2
            have HV := hidW (And.intro hbw hP3)
            clear hP hP2 hv hbw hp0 hc hc2 hP3 hrn hyn hlen1
            go_wp2_with fail
            refine (hcw 0).mono ?_
            rintro e w1 ⟨rfl, z, hw1⟩
            have HW : Hid (Below w.heap.size w w1 ∧ PC w1 q3 s) := by
              have hb : Below wr.heap.size wr w1 := by rw [hw1]; exact below_drN (Below.refl _ _) z
              exact ⟨HV.out.1.trans (hb.mono HV.out.1.size), HV.out.2.below hb⟩
            clear HV hw1 hcw
            by_cases c16 : 16 < n2
            · have c16z : (16 : Int) < (n2 : Int) := by omega
              obtain ⟨y0, y1, y2, y3, y4, y5, y6, y7, s1, rfl⟩ := split8 s (by rw [hn2.out]; omega)
              have hl1 : s1.length + 8 = n2 := by rw [← hn2.out]; rfl
              obtain ⟨v0, v1, v2, v3, v4, v5, v6, v7, s2, rfl⟩ := split8 s1 (by omega)
              have hl2 : s2.length + 8 + 8 = n2 := hl1
              obtain ⟨g3, o3, rfl, hc3⟩ : ∃ g3 o3, q3 = some ⟨g3, o3, none⟩ ∧ ∀ j x, (y0 :: y1 :: y2 :: y3 :: y4 :: y5 :: y6 :: y7 :: v0 :: v1 :: v2 :: v3 :: v4 :: v5 :: v6 :: v7 :: s2)[j]? = some x → w1.cell? ⟨g3, o3 + j, none⟩ = some (.int .u8 (x.toNat : Int)) := by
                rcases HW.out.2 with h | h
                · cases h
                · exact h
              obtain ⟨n3, hn3⟩ : ∃ n3, Hid (s2.length = n3) := ⟨_, rfl⟩
              have hn23 : Hid (n2 = n3 + 16) := by show n2 = n3 + 16; rw [← hn3.out]; omega
              obtain ⟨q4, hsl4, hP4⟩ := sl_pc (w := w1) n2 8 (n3 + 8) 8 rfl hn2.out (by have := hn23.out; omega) (by have := hn23.out; omega) hc3
              obtain ⟨q5, hsl5, hP5⟩ := sl_pc (w := w1) n2 16 n3 16 rfl hn2.out (by have := hn23.out; omega) (by have := hn23.out; omega) hc3
              have hcy := word_pc n2 hl1 HW.out.2
              have hcv := word_pc (n3 + 8) (by rw [← hn3.out]) hP4
              have ey := eight y0 y1 y2 y3 y4 y5 y6 y7
              have ev := eight v0 v1 v2 v3 v4 v5 v6 v7
              have ly := leNat_lt y0 y1 y2 y3 y4 y5 y6 y7
              have lv := leNat_lt v0 v1 v2 v3 v4 v5 v6 v7
              obtain ⟨Y, hY⟩ : ∃ Y, Hid (Lib.leNat [y0, y1, y2, y3, y4, y5, y6, y7] = Y) := ⟨_, rfl⟩
              obtain ⟨V, hVd⟩ : ∃ V, Hid (Lib.leNat [v0, v1, v2, v3, v4, v5, v6, v7] = V) := ⟨_, rfl⟩
              rw [hY.out] at ey ly
              rw [hVd.out] at ev lv
              replace hcy : ∀ z, _ := fun z => hY.out ▸ hcy z
              replace hcv : ∀ z, _ := fun z => hVd.out ▸ hcv z
              have hor : bits .or .u64 (Y : Int) (V : Int) = ((Y ||| V : Nat) : Int) := u64_or_nat Y V ly lv
              have lor : Y ||| V < 18446744073709551616 := Nat.or_lt_two_pow (n := 64) ly lv
              have hnd : bits .and .u64 ((Y ||| V : Nat) : Int) 9259542123273814144 = (((Y ||| V) &&& 9259542123273814144 : Nat) : Int) := u64_and_nat _ 9259542123273814144 lor (by omega)
              have hk2 : (Y ||| V) &&& 9259542123273814144 = 0 → uv F lo hi (y0 :: y1 :: y2 :: y3 :: y4 :: y5 :: y6 :: y7 :: v0 :: v1 :: v2 :: v3 :: v4 :: v5 :: v6 :: v7 :: s2) = uv F lo hi s2 := fun h0 => by
                obtain ⟨e1, e2⟩ := (Lib.or_mask Y V _).1 h0
                exact (uv_asc F lo hi _ [y0, y1, y2, y3, y4, y5, y6, y7] (ey e1)).trans (uv_asc F lo hi s2 [v0, v1, v2, v3, v4, v5, v6, v7] (ev e2))
              obtain ⟨O, hO⟩ : ∃ O, Hid (Y ||| V = O) := ⟨_, rfl⟩
              rw [hO.out] at hor hnd hk2
              obtain ⟨Z2, hZ2⟩ : ∃ Z2, Hid (O &&& 9259542123273814144 = Z2) := ⟨_, rfl⟩
              rw [hZ2.out] at hnd hk2
              clear ey ev lor hc3 hl1 hl2
              by_cases hz2 : Z2 = 0
              · as_aux_lemma =>
                have hz2b : ((Z2 : Int) == 0) = true := by simp [hz2]
                have hv3 : Hid (uv F lo hi s2 = ANS) := by
                  have := hv2.out
                  rw [hk2 hz2] at this
                  exact this
                have HP := hidW (And.intro HW.out.1 hP5)
                clear hk2 HW hP4 hP5 hv2 hn2
                go_wp2_with fail
                go_quiet (first | (go_at_call 74; with_reducible exact hcy _) | (go_at_call 74; with_reducible exact hcv _))
                go_wp2
                go_loopg [0] (n3 + 1) (fun g9 s0 wx => ∃ q y n, s0 = .slice q n n ∧ y.length = n ∧ n < g9 ∧ n ≤ n3 ∧ Below w.heap.size w wx ∧ PC wx q y ∧ uv F lo hi y = ANS)
                case atStart => exact ⟨q5, s2, n3, rfl, hn3.out, by omega, Nat.le_refl _, below_drN HP.out.1 nq, HP.out.2.below (below_drN (Below.refl _ _) nq), hv3.out⟩
                case round =>
                  obtain ⟨q6, y, n6, rfl, hyn6, hg6, hn63, hb6, hP6, hv6⟩ := hrel
                  by_cases c32 : 32 < n6
                  · have c32z : (32 : Int) < (n6 : Int) := by omega
                    obtain ⟨p0, p1, p2, p3, p4, p5, p6, p7, r1, rfl⟩ := split8 y (by rw [hyn6]; omega)
                    have m1 : r1.length + 8 = n6 := by rw [← hyn6]; rfl
                    obtain ⟨k0, k1, k2, k3, k4, k5, k6, k7, r2, rfl⟩ := split8 r1 (by omega)
                    have m2 : r2.length + 8 + 8 = n6 := m1
                    obtain ⟨t0, t1, t2, t3, t4, t5, t6, t7, r3, rfl⟩ := split8 r2 (by omega)
                    have m3 : r3.length + 8 + 8 + 8 = n6 := m2
                    obtain ⟨z0, z1, z2, z3, z4, z5, z6, z7, r4, rfl⟩ := split8 r3 (by omega)
                    obtain ⟨n7, hn7⟩ : ∃ n7, Hid (r4.length = n7) := ⟨_, rfl⟩
                    have m4 : Hid (n6 = n7 + 32) := by show n6 = n7 + 32; rw [← hn7.out, ← m3]; rfl
                    obtain ⟨g6, o6, rfl, hc6⟩ : ∃ g6 o6, q6 = some ⟨g6, o6, none⟩ ∧ ∀ j x, (p0 :: p1 :: p2 :: p3 :: p4 :: p5 :: p6 :: p7 :: k0 :: k1 :: k2 :: k3 :: k4 :: k5 :: k6 :: k7 :: t0 :: t1 :: t2 :: t3 :: t4 :: t5 :: t6 :: t7 :: z0 :: z1 :: z2 :: z3 :: z4 :: z5 :: z6 :: z7 :: r4)[j]? = some x → wr.cell? ⟨g6, o6 + j, none⟩ = some (.int .u8 (x.toNat : Int)) := by
                      rcases hP6 with h | h
                      · cases h
                      · exact h
                    obtain ⟨qa, hsla, hPa⟩ := sl_pc (w := wr) n6 8 (n7 + 24) 8 rfl hyn6 (by have := m4.out; omega) (by have := m4.out; omega) hc6
                    obtain ⟨qb, hslb, hPb⟩ := sl_pc (w := wr) n6 16 (n7 + 16) 16 rfl hyn6 (by have := m4.out; omega) (by have := m4.out; omega) hc6
                    obtain ⟨qc, hslc, hPc⟩ := sl_pc (w := wr) n6 24 (n7 + 8) 24 rfl hyn6 (by have := m4.out; omega) (by have := m4.out; omega) hc6
                    obtain ⟨qe, hsle, hPe⟩ := sl_pc (w := wr) n6 32 n7 32 rfl hyn6 (by have := m4.out; omega) (by have := m4.out; omega) hc6
                    have hw0 := word_pc n6 m1 hP6
                    have hw1 := word_pc (n7 + 24) (by rw [← hn7.out]; rfl) hPa
                    have hw2 := word_pc (n7 + 16) (by rw [← hn7.out]; rfl) hPb
                    have hw3 := word_pc (n7 + 8) (by rw [← hn7.out]) hPc
                    have e0 := eight p0 p1 p2 p3 p4 p5 p6 p7
                    have e1 := eight k0 k1 k2 k3 k4 k5 k6 k7
                    have e2 := eight t0 t1 t2 t3 t4 t5 t6 t7
                    have e3 := eight z0 z1 z2 z3 z4 z5 z6 z7
                    have l0 := leNat_lt p0 p1 p2 p3 p4 p5 p6 p7
                    have l1 := leNat_lt k0 k1 k2 k3 k4 k5 k6 k7
                    have l2 := leNat_lt t0 t1 t2 t3 t4 t5 t6 t7
                    have l3 := leNat_lt z0 z1 z2 z3 z4 z5 z6 z7
                    obtain ⟨B0, hB0⟩ : ∃ Y, Hid (Lib.leNat [p0, p1, p2, p3, p4, p5, p6, p7] = Y) := ⟨_, rfl⟩
                    obtain ⟨B1, hB1⟩ : ∃ Y, Hid (Lib.leNat [k0, k1, k2, k3, k4, k5, k6, k7] = Y) := ⟨_, rfl⟩
                    obtain ⟨B2, hB2⟩ : ∃ Y, Hid (Lib.leNat [t0, t1, t2, t3, t4, t5, t6, t7] = Y) := ⟨_, rfl⟩
                    obtain ⟨B3, hB3⟩ : ∃ Y, Hid (Lib.leNat [z0, z1, z2, z3, z4, z5, z6, z7] = Y) := ⟨_, rfl⟩
                    rw [hB0.out] at e0 l0
                    rw [hB1.out] at e1 l1
                    rw [hB2.out] at e2 l2
                    rw [hB3.out] at e3 l3
                    replace hw0 : ∀ z, _ := fun z => hB0.out ▸ hw0 z
                    replace hw1 : ∀ z, _ := fun z => hB1.out ▸ hw1 z
                    replace hw2 : ∀ z, _ := fun z => hB2.out ▸ hw2 z
                    replace hw3 : ∀ z, _ := fun z => hB3.out ▸ hw3 z
                    have o1 : bits .or .u64 (B0 : Int) (B1 : Int) = ((B0 ||| B1 : Nat) : Int) := u64_or_nat B0 B1 l0 l1
                    have o2 : bits .or .u64 (B2 : Int) (B3 : Int) = ((B2 ||| B3 : Nat) : Int) := u64_or_nat B2 B3 l2 l3
                    have lo1 : B0 ||| B1 < 18446744073709551616 := Nat.or_lt_two_pow (n := 64) l0 l1
                    have lo2 : B2 ||| B3 < 18446744073709551616 := Nat.or_lt_two_pow (n := 64) l2 l3
                    have o3 : bits .or .u64 ((B0 ||| B1 : Nat) : Int) ((B2 ||| B3 : Nat) : Int) = (((B0 ||| B1) ||| (B2 ||| B3) : Nat) : Int) := u64_or_nat _ _ lo1 lo2
                    have lo3 : (B0 ||| B1) ||| (B2 ||| B3) < 18446744073709551616 := Nat.or_lt_two_pow (n := 64) lo1 lo2
                    have an : bits .and .u64 (((B0 ||| B1) ||| (B2 ||| B3) : Nat) : Int) 9259542123273814144 = ((((B0 ||| B1) ||| (B2 ||| B3)) &&& 9259542123273814144 : Nat) : Int) := u64_and_nat _ 9259542123273814144 lo3 (by omega)
                    have hk3 : ((B0 ||| B1) ||| (B2 ||| B3)) &&& 9259542123273814144 = 0 → uv F lo hi (p0 :: p1 :: p2 :: p3 :: p4 :: p5 :: p6 :: p7 :: k0 :: k1 :: k2 :: k3 :: k4 :: k5 :: k6 :: k7 :: t0 :: t1 :: t2 :: t3 :: t4 :: t5 :: t6 :: t7 :: z0 :: z1 :: z2 :: z3 :: z4 :: z5 :: z6 :: z7 :: r4) = uv F lo hi r4 := fun h0 => by
                      obtain ⟨e01, e23⟩ := (Lib.or_mask _ _ _).1 h0
                      obtain ⟨f0, f1⟩ := (Lib.or_mask _ _ _).1 e01
                      obtain ⟨f2, f3⟩ := (Lib.or_mask _ _ _).1 e23
                      exact (uv_asc F lo hi _ [p0, p1, p2, p3, p4, p5, p6, p7] (e0 f0)).trans ((uv_asc F lo hi _ [k0, k1, k2, k3, k4, k5, k6, k7] (e1 f1)).trans ((uv_asc F lo hi _ [t0, t1, t2, t3, t4, t5, t6, t7] (e2 f2)).trans (uv_asc F lo hi r4 [z0, z1, z2, z3, z4, z5, z6, z7] (e3 f3))))
                    obtain ⟨P1, hP1⟩ : ∃ P1, Hid (B0 ||| B1 = P1) := ⟨_, rfl⟩
                    obtain ⟨P2, hP2⟩ : ∃ P2, Hid (B2 ||| B3 = P2) := ⟨_, rfl⟩
                    rw [hP1.out, hP2.out] at o3 an hk3
                    rw [hP1.out] at o1
                    rw [hP2.out] at o2
                    obtain ⟨P3, hP3⟩ : ∃ P3, Hid (P1 ||| P2 = P3) := ⟨_, rfl⟩
                    rw [hP3.out] at o3 an hk3
                    obtain ⟨Z3, hZ3⟩ : ∃ Z3, Hid (P3 &&& 9259542123273814144 = Z3) := ⟨_, rfl⟩
                    rw [hZ3.out] at an hk3
                    have HQ := hidW (And.intro hb6 (And.intro hP6 (And.intro hPe (And.intro hv6 hyn6))))
                    clear e0 e1 e2 e3 lo1 lo2 lo3 l0 l1 l2 l3 hc6 hP6 hPa hPb hPc hPe m1 m2 m3 hyn6
                    by_cases hz3 : Z3 = 0
                    · as_aux_lemma =>
                      have hz3b : ((Z3 : Int) == 0) = true := by simp [hz3]
                      have hvr : Hid (uv F lo hi r4 = ANS) := by
                        have := HQ.out.2.2.2.1
                        rw [hk3 hz3] at this
                        exact this
                      clear hk3 hv6
                      go_wp2_with fail
                      go_quiet (first | (go_at_call 74; with_reducible exact hw0 _) | (go_at_call 74; with_reducible exact hw1 _) | (go_at_call 74; with_reducible exact hw2 _) | (go_at_call 74; with_reducible exact hw3 _))
                      go_wp2
                      go_roundg (n7 + 1)
                      case measure => have := m4.out; omega
                      case rel => exact ⟨qe, r4, n7, rfl, hn7.out, by omega, by have := m4.out; omega, below_drN HQ.out.1 nq, HQ.out.2.2.1.below (below_drN (Below.refl _ _) nq), hvr.out⟩
                    · as_aux_lemma =>
                      have hz3b : ((Z3 : Int) == 0) = false := by simp; omega
                      clear hk3 hv6
                      go_wp2_with fail
                      go_quiet (first | (go_at_call 74; with_reducible exact hw0 _) | (go_at_call 74; with_reducible exact hw1 _) | (go_at_call 74; with_reducible exact hw2 _) | (go_at_call 74; with_reducible exact hw3 _))
                      go_wp2
                      go_roundg g'
                      case measure => omega
                      case rel => exact ⟨below_drN HQ.out.1 nq, _, _, n6, rfl, HQ.out.2.2.2.2, by have := hn12.out; have := hn23.out; omega, by have := hn12.out; have := hn23.out; omega, HQ.out.2.1.below (below_drN (Below.refl _ _) nq), HQ.out.2.2.2.1⟩
                  · have c32z : ¬ (32 : Int) < (n6 : Int) := by omega
                    have c32b : decide ((32 : Int) < (n6 : Int)) = false := decide_eq_false c32z
                    have HQ := hidW (And.intro hb6 (And.intro hP6 (And.intro hv6 hyn6)))
                    clear hb6 hP6 hv6 hyn6
                    go_wp2_with fail
                    go_quiet (fail)
                    go_wp2
                    go_roundg g'
                    case measure => omega
                    case rel => exact ⟨below_drN HQ.out.1 nq, _, _, n6, rfl, HQ.out.2.2.2, by have := hn12.out; have := hn23.out; omega, by have := hn12.out; have := hn23.out; omega, HQ.out.2.1.below (below_drN (Below.refl _ _) nq), HQ.out.2.2.1⟩
              · have hz2b : ((Z2 : Int) == 0) = false := by simp; omega
                have KV : Hid (∀ nq, VI F lo hi w ANS g' (.slice (some ⟨g3, o3, none⟩) n2 n2) (w1.drewN nq)) := fun nq => ⟨below_drN HW.out.1 nq, _, _, n2, rfl, hn2.out, by have := hn12.out; omega, by have := hn12.out; omega, HW.out.2.below (below_drN (Below.refl _ _) nq), hv2.out⟩
                clear hk2 HW hP4 hP5 hv2 hn2
                go_wp2_with fail
                go_quiet (first | (go_at_call 74; with_reducible exact hcy _) | (go_at_call 74; with_reducible exact hcv _))
                go_wp2
                go_roundg g'
                case measure => omega
                case rel => exact KV.out nq
            · have c16z : ¬ (16 : Int) < (n2 : Int) := by omega
              have c16b : decide ((16 : Int) < (n2 : Int)) = false := decide_eq_false c16z
              have KV : Hid (∀ nq, VI F lo hi w ANS g' (.slice q3 n2 n2) (w1.drewN nq)) := fun nq => ⟨below_drN HW.out.1 nq, _, _, n2, rfl, hn2.out, by have := hn12.out; omega, by have := hn12.out; omega, HW.out.2.below (below_drN (Below.refl _ _) nq), hv2.out⟩
              clear HW hv2 hn2
              go_wp2_with fail
              go_quiet (fail)
              go_wp2
              go_roundg g'
              case measure => omega
              case rel => exact KV.out nq
          · have hzb : ((Z : Int) == 0) = false := by simp; omega
            have HV := hidW (And.intro hbw (And.intro hP2 hv))
            clear hP hP2 hv hbw hp0 hc he8
            go_wp2_with fail
            refine (hcw 0).mono ?_
            rintro e w1 ⟨rfl, z, rfl⟩
            have KV : Hid (VI F lo hi w ANS g' (.slice q2 n1 n1) (wr.drewN z)) := ⟨below_drN HV.out.1 z, q2, _, n1, rfl, hrn, by omega, by omega, HV.out.2.1.below (below_drN (Below.refl _ _) z), HV.out.2.2⟩
            clear HV hcw
            go_wp2
            go_roundg g'
            case measure => omega
            case rel => exact KV.out
        · have c8z : ¬ (8 : Int) < (n1 : Int) := by omega
          have KV : Hid (VI F lo hi w ANS g' (.slice q2 n1 n1) wr) := ⟨hbw, q2, r, n1, rfl, hrn, by omega, by omega, hP2, hv⟩
          clear hP hP2 hv hbw hp0 hc
          go_wp2
          go_roundg g'
          case measure => omega
          case rel => exact KV.out
      · as_aux_lemma =>
        have hasz : ¬ (b.toNat : Int) < 128 := by omega
        have hT1 : TabV F lo hi wr := TabV.below hT hbw
        have hb256 : b.toNat < 256 := b.toNat_lt
        have hf256 := hF b.toNat hb256
        have tc := hT1.2.1 b.toNat hb256
        obtain ⟨f, hf⟩ : ∃ f, Hid (F b.toNat = f) := ⟨_, rfl⟩
        rw [hf.out] at tc hf256
        obtain ⟨ta, tb⟩ := hT1.2.2 (f / 16) (by omega)
        have hl256 := hlo (f / 16) (by omega)
        have hh256 := hhi (f / 16) (by omega)
        obtain ⟨fj, hfj⟩ : ∃ fj, Hid (f / 16 = fj) := ⟨_, rfl⟩
        have hfj16 : fj < 16 := by rw [← hfj.out]; omega
        rw [hfj.out] at ta tb hl256 hh256
        obtain ⟨L, hLd⟩ : ∃ L, Hid (lo fj = L) := ⟨_, rfl⟩
        obtain ⟨R, hRd⟩ : ∃ R, Hid (hi fj = R) := ⟨_, rfl⟩
        rw [hLd.out] at ta hl256
        rw [hRd.out] at tb hh256
        have ha7 := and7u ⟨f, hf256⟩
        simp only at ha7
        obtain ⟨sz, hsz⟩ : ∃ sz, Hid (f % 8 = sz) := ⟨_, rfl⟩
        rw [hsz.out] at ha7
        have hsh : (f : Int) / 16 = (fj : Int) := by rw [← hfj.out]; omega
        rw [uv_cons, if_neg hasc, hf.out, hsz.out, hfj.out, hLd.out, hRd.out] at hv
        have hlt2 := hT1.1
        have HB := hidW (And.intro hbw (And.intro hP hv))
        clear hT1 hbw hP hv hp0
        by_cases h2 : sz = 2
        · as_aux_lemma =>
          have hsz_ : sz = 2 := h2
          by_cases hm : r.length < 1
          · obtain rfl : ANS = false := by
              rw [← HB.out.2.2]
              match r, hm with
              | [], _ => simp [hsz_]
            have ls : (n1 : Int) + 1 < 2 := by omega
            have KB : Hid (∀ nq, BoR w false (.bool false) ((wr.alloc (.cells #[.int .u8 (L : Int), .int .u8 (R : Int)] 127)).drewN nq)) := fun nq => ⟨rfl, below_drN (HB.out.1.alloc HB.out.1.size _) nq⟩
            subst hsz_
            clear HB
            go_wp2
            go_quiet (fail)
            go_wp2
            go_ret
            exact ⟨_, rfl, KB.out nq⟩
          · obtain ⟨b1, r2, rfl⟩ : ∃ b1 r2, r = b1 :: r2 := by
              match r, hm with
              | [], hm => exact absurd (by simp) hm
              | b1 :: r2, _ => exact ⟨_, _, rfl⟩
            have d1 : wr.cell? ⟨g, o + 1, none⟩ = some (.int .u8 (b1.toNat : Int)) := hc 1 b1 rfl
            have ix1 : (1 : Int) < (n1 : Int) + 1 := by simp at hrn; omega
            have ls : ¬ (n1 : Int) + 1 < 2 := by simp at hrn; omega
            have lsb : decide ((n1 : Int) + 1 < 2) = false := decide_eq_false ls
            obtain ⟨qx, hslx, hPx⟩ := sl_pc (w := wr) (n1 + 1) 2 (n1 + 1 - 2) 2 rfl hyn (by simp at hrn; omega) rfl hc
            have HV := HB.out.2.2
            have hlen2 : Hid (r2.length = n1 + 1 - 2) := by show r2.length = _; simp at hrn; omega
            simp only [hsz_] at HV
            have hpos : 2 ≤ n1 + 1 := by simp at hrn; omega
            clear hrn hyn hc
            subst hsz_
            by_cases c1 : b1.toNat < L
            · have k1 : (b1.toNat : Int) < (L : Int) := by omega
              obtain rfl : ANS = false := by rw [← HV]; simp [c1]
              have KB : Hid (∀ nq, BoR w false (.bool false) ((wr.alloc (.cells #[.int .u8 (L : Int), .int .u8 (R : Int)] 127)).drewN nq)) := fun nq => ⟨rfl, below_drN (HB.out.1.alloc HB.out.1.size _) nq⟩
              clear HB HV hPx
              go_wp2
              go_quiet (fail)
              go_wp2
              go_ret
              exact ⟨_, rfl, KB.out nq⟩
            · have k1 : ¬ (b1.toNat : Int) < (L : Int) := by omega
              have kb1 : decide ((b1.toNat : Int) < (L : Int)) = false := decide_eq_false k1
              by_cases c2 : R < b1.toNat
              · have k2 : (R : Int) < (b1.toNat : Int) := by omega
                obtain rfl : ANS = false := by rw [← HV]; simp [c2]
                have KB : Hid (∀ nq, BoR w false (.bool false) ((wr.alloc (.cells #[.int .u8 (L : Int), .int .u8 (R : Int)] 127)).drewN nq)) := fun nq => ⟨rfl, below_drN (HB.out.1.alloc HB.out.1.size _) nq⟩
                clear HB HV hPx
                go_wp2
                go_quiet (fail)
                go_wp2
                go_ret
                exact ⟨_, rfl, KB.out nq⟩
              · have k2 : ¬ (R : Int) < (b1.toNat : Int) := by omega
                have kb2 : decide ((R : Int) < (b1.toNat : Int)) = false := decide_eq_false k2
                obtain rfl : uv F lo hi r2 = ANS := by rw [← HV]; simp [c1, c2]
                have KV : Hid (∀ nq, VI F lo hi w (uv F lo hi r2) g' (.slice qx (n1 + 1 - 2) (n1 + 1 - 2)) ((wr.alloc (.cells #[.int .u8 (L : Int), .int .u8 (R : Int)] 127)).drewN nq)) := fun nq => ⟨below_drN (HB.out.1.alloc HB.out.1.size _) nq, qx, r2, _, rfl, hlen2.out, by omega, by omega, PC.below hPx (below_drN (alloc_below _ _) nq), rfl⟩
                clear HB HV hPx hlen2
                go_wp2
                go_quiet (fail)
                go_wp2
                go_roundg g'
                case measure => omega
                case rel => exact KV.out nq
        by_cases h3 : sz = 3
        · as_aux_lemma =>
          have hsz_ : sz = 3 := h3
          by_cases hm : r.length < 2
          · obtain rfl : ANS = false := by
              rw [← HB.out.2.2]
              match r, hm with
              | [], _ => simp [hsz_]
              | [b1], _ => simp [hsz_]
            have ls : (n1 : Int) + 1 < 3 := by omega
            have KB : Hid (∀ nq, BoR w false (.bool false) ((wr.alloc (.cells #[.int .u8 (L : Int), .int .u8 (R : Int)] 127)).drewN nq)) := fun nq => ⟨rfl, below_drN (HB.out.1.alloc HB.out.1.size _) nq⟩
            subst hsz_
            clear HB
            go_wp2
            go_quiet (fail)
            go_wp2
            go_ret
            exact ⟨_, rfl, KB.out nq⟩
          · obtain ⟨b1, b2, r2, rfl⟩ : ∃ b1 b2 r2, r = b1 :: b2 :: r2 := by
              match r, hm with
              | [], hm => exact absurd (by simp) hm
              | [b1], hm => exact absurd (by simp) hm
              | b1 :: b2 :: r2, _ => exact ⟨_, _, _, rfl⟩
            have d1 : wr.cell? ⟨g, o + 1, none⟩ = some (.int .u8 (b1.toNat : Int)) := hc 1 b1 rfl
            have ix1 : (1 : Int) < (n1 : Int) + 1 := by simp at hrn; omega
            have d2 : wr.cell? ⟨g, o + 2, none⟩ = some (.int .u8 (b2.toNat : Int)) := hc 2 b2 rfl
            have ix2 : (2 : Int) < (n1 : Int) + 1 := by simp at hrn; omega
            have ls : ¬ (n1 : Int) + 1 < 3 := by simp at hrn; omega
            have lsb : decide ((n1 : Int) + 1 < 3) = false := decide_eq_false ls
            obtain ⟨qx, hslx, hPx⟩ := sl_pc (w := wr) (n1 + 1) 3 (n1 + 1 - 3) 3 rfl hyn (by simp at hrn; omega) rfl hc
            have HV := HB.out.2.2
            have hlen2 : Hid (r2.length = n1 + 1 - 3) := by show r2.length = _; simp at hrn; omega
            simp only [hsz_] at HV
            have hpos : 3 ≤ n1 + 1 := by simp at hrn; omega
            clear hrn hyn hc
            subst hsz_
            by_cases c1 : b1.toNat < L
            · have k1 : (b1.toNat : Int) < (L : Int) := by omega
              obtain rfl : ANS = false := by rw [← HV]; simp [c1]
              have KB : Hid (∀ nq, BoR w false (.bool false) ((wr.alloc (.cells #[.int .u8 (L : Int), .int .u8 (R : Int)] 127)).drewN nq)) := fun nq => ⟨rfl, below_drN (HB.out.1.alloc HB.out.1.size _) nq⟩
              clear HB HV hPx
              go_wp2
              go_quiet (fail)
              go_wp2
              go_ret
              exact ⟨_, rfl, KB.out nq⟩
            · have k1 : ¬ (b1.toNat : Int) < (L : Int) := by omega
              have kb1 : decide ((b1.toNat : Int) < (L : Int)) = false := decide_eq_false k1
              by_cases c2 : R < b1.toNat
              · have k2 : (R : Int) < (b1.toNat : Int) := by omega
                obtain rfl : ANS = false := by rw [← HV]; simp [c2]
                have KB : Hid (∀ nq, BoR w false (.bool false) ((wr.alloc (.cells #[.int .u8 (L : Int), .int .u8 (R : Int)] 127)).drewN nq)) := fun nq => ⟨rfl, below_drN (HB.out.1.alloc HB.out.1.size _) nq⟩
                clear HB HV hPx
                go_wp2
                go_quiet (fail)
                go_wp2
                go_ret
                exact ⟨_, rfl, KB.out nq⟩
              · have k2 : ¬ (R : Int) < (b1.toNat : Int) := by omega
                have kb2 : decide ((R : Int) < (b1.toNat : Int)) = false := decide_eq_false k2
                by_cases c3 : b2.toNat < 128
                · have k3 : (b2.toNat : Int) < 128 := by omega
                  obtain rfl : ANS = false := by rw [← HV]; simp [c3]
                  have KB : Hid (∀ nq, BoR w false (.bool false) ((wr.alloc (.cells #[.int .u8 (L : Int), .int .u8 (R : Int)] 127)).drewN nq)) := fun nq => ⟨rfl, below_drN (HB.out.1.alloc HB.out.1.size _) nq⟩
                  clear HB HV hPx
                  go_wp2
                  go_quiet (fail)
                  go_wp2
                  go_ret
                  exact ⟨_, rfl, KB.out nq⟩
                · have k3 : ¬ (b2.toNat : Int) < 128 := by omega
                  have kb3 : decide ((b2.toNat : Int) < 128) = false := decide_eq_false k3
                  by_cases c4 : 191 < b2.toNat
                  · have k4 : (191 : Int) < (b2.toNat : Int) := by omega
                    obtain rfl : ANS = false := by rw [← HV]; simp [c4]
                    have KB : Hid (∀ nq, BoR w false (.bool false) ((wr.alloc (.cells #[.int .u8 (L : Int), .int .u8 (R : Int)] 127)).drewN nq)) := fun nq => ⟨rfl, below_drN (HB.out.1.alloc HB.out.1.size _) nq⟩
                    clear HB HV hPx
                    go_wp2
                    go_quiet (fail)
                    go_wp2
                    go_ret
                    exact ⟨_, rfl, KB.out nq⟩
                  · have k4 : ¬ (191 : Int) < (b2.toNat : Int) := by omega
                    have kb4 : decide ((191 : Int) < (b2.toNat : Int)) = false := decide_eq_false k4
                    obtain rfl : uv F lo hi r2 = ANS := by rw [← HV]; simp [c1, c2, c3, c4]
                    have KV : Hid (∀ nq, VI F lo hi w (uv F lo hi r2) g' (.slice qx (n1 + 1 - 3) (n1 + 1 - 3)) ((wr.alloc (.cells #[.int .u8 (L : Int), .int .u8 (R : Int)] 127)).drewN nq)) := fun nq => ⟨below_drN (HB.out.1.alloc HB.out.1.size _) nq, qx, r2, _, rfl, hlen2.out, by omega, by omega, PC.below hPx (below_drN (alloc_below _ _) nq), rfl⟩
                    clear HB HV hPx hlen2
                    go_wp2
                    go_quiet (fail)
                    go_wp2
                    go_roundg g'
                    case measure => omega
                    case rel => exact KV.out nq
        by_cases h4 : sz = 4
        · as_aux_lemma =>
          have hsz_ : sz = 4 := h4
          by_cases hm : r.length < 3
          · obtain rfl : ANS = false := by
              rw [← HB.out.2.2]
              match r, hm with
              | [], _ => simp [hsz_]
              | [b1], _ => simp [hsz_]
              | [b1, b2], _ => simp [hsz_]
            have ls : (n1 : Int) + 1 < 4 := by omega
            have KB : Hid (∀ nq, BoR w false (.bool false) ((wr.alloc (.cells #[.int .u8 (L : Int), .int .u8 (R : Int)] 127)).drewN nq)) := fun nq => ⟨rfl, below_drN (HB.out.1.alloc HB.out.1.size _) nq⟩
            subst hsz_
            clear HB
            go_wp2
            go_quiet (fail)
            go_wp2
            go_ret
            exact ⟨_, rfl, KB.out nq⟩
          · obtain ⟨b1, b2, b3, r2, rfl⟩ : ∃ b1 b2 b3 r2, r = b1 :: b2 :: b3 :: r2 := by
              match r, hm with
              | [], hm => exact absurd (by simp) hm
              | [b1], hm => exact absurd (by simp) hm
              | [b1, b2], hm => exact absurd (by simp) hm
              | b1 :: b2 :: b3 :: r2, _ => exact ⟨_, _, _, _, rfl⟩
            have d1 : wr.cell? ⟨g, o + 1, none⟩ = some (.int .u8 (b1.toNat : Int)) := hc 1 b1 rfl
            have ix1 : (1 : Int) < (n1 : Int) + 1 := by simp at hrn; omega
            have d2 : wr.cell? ⟨g, o + 2, none⟩ = some (.int .u8 (b2.toNat : Int)) := hc 2 b2 rfl
            have ix2 : (2 : Int) < (n1 : Int) + 1 := by simp at hrn; omega
            have d3 : wr.cell? ⟨g, o + 3, none⟩ = some (.int .u8 (b3.toNat : Int)) := hc 3 b3 rfl
            have ix3 : (3 : Int) < (n1 : Int) + 1 := by simp at hrn; omega
            have ls : ¬ (n1 : Int) + 1 < 4 := by simp at hrn; omega
            have lsb : decide ((n1 : Int) + 1 < 4) = false := decide_eq_false ls
            obtain ⟨qx, hslx, hPx⟩ := sl_pc (w := wr) (n1 + 1) 4 (n1 + 1 - 4) 4 rfl hyn (by simp at hrn; omega) rfl hc
            have HV := HB.out.2.2
            have hlen2 : Hid (r2.length = n1 + 1 - 4) := by show r2.length = _; simp at hrn; omega
            simp only [hsz_] at HV
            have hpos : 4 ≤ n1 + 1 := by simp at hrn; omega
            clear hrn hyn hc
            subst hsz_
            by_cases c1 : b1.toNat < L
            · have k1 : (b1.toNat : Int) < (L : Int) := by omega
              obtain rfl : ANS = false := by rw [← HV]; simp [c1]
              have KB : Hid (∀ nq, BoR w false (.bool false) ((wr.alloc (.cells #[.int .u8 (L : Int), .int .u8 (R : Int)] 127)).drewN nq)) := fun nq => ⟨rfl, below_drN (HB.out.1.alloc HB.out.1.size _) nq⟩
              clear HB HV hPx
              go_wp2
              go_quiet (fail)
              go_wp2
              go_ret
              exact ⟨_, rfl, KB.out nq⟩
            · have k1 : ¬ (b1.toNat : Int) < (L : Int) := by omega
              have kb1 : decide ((b1.toNat : Int) < (L : Int)) = false := decide_eq_false k1
              by_cases c2 : R < b1.toNat
              · have k2 : (R : Int) < (b1.toNat : Int) := by omega
                obtain rfl : ANS = false := by rw [← HV]; simp [c2]
                have KB : Hid (∀ nq, BoR w false (.bool false) ((wr.alloc (.cells #[.int .u8 (L : Int), .int .u8 (R : Int)] 127)).drewN nq)) := fun nq => ⟨rfl, below_drN (HB.out.1.alloc HB.out.1.size _) nq⟩
                clear HB HV hPx
                go_wp2
                go_quiet (fail)
                go_wp2
                go_ret
                exact ⟨_, rfl, KB.out nq⟩
              · have k2 : ¬ (R : Int) < (b1.toNat : Int) := by omega
                have kb2 : decide ((R : Int) < (b1.toNat : Int)) = false := decide_eq_false k2
                by_cases c3 : b2.toNat < 128
                · have k3 : (b2.toNat : Int) < 128 := by omega
                  obtain rfl : ANS = false := by rw [← HV]; simp [c3]
                  have KB : Hid (∀ nq, BoR w false (.bool false) ((wr.alloc (.cells #[.int .u8 (L : Int), .int .u8 (R : Int)] 127)).drewN nq)) := fun nq => ⟨rfl, below_drN (HB.out.1.alloc HB.out.1.size _) nq⟩
                  clear HB HV hPx
                  go_wp2
                  go_quiet (fail)
                  go_wp2
                  go_ret
                  exact ⟨_, rfl, KB.out nq⟩
                · have k3 : ¬ (b2.toNat : Int) < 128 := by omega
                  have kb3 : decide ((b2.toNat : Int) < 128) = false := decide_eq_false k3
                  by_cases c4 : 191 < b2.toNat
                  · have k4 : (191 : Int) < (b2.toNat : Int) := by omega
                    obtain rfl : ANS = false := by rw [← HV]; simp [c4]
                    have KB : Hid (∀ nq, BoR w false (.bool false) ((wr.alloc (.cells #[.int .u8 (L : Int), .int .u8 (R : Int)] 127)).drewN nq)) := fun nq => ⟨rfl, below_drN (HB.out.1.alloc HB.out.1.size _) nq⟩
                    clear HB HV hPx
                    go_wp2
                    go_quiet (fail)
                    go_wp2
                    go_ret
                    exact ⟨_, rfl, KB.out nq⟩
                  · have k4 : ¬ (191 : Int) < (b2.toNat : Int) := by omega
                    have kb4 : decide ((191 : Int) < (b2.toNat : Int)) = false := decide_eq_false k4
                    by_cases c5 : b3.toNat < 128
                    · have k5 : (b3.toNat : Int) < 128 := by omega
                      obtain rfl : ANS = false := by rw [← HV]; simp [c5]
                      have KB : Hid (∀ nq, BoR w false (.bool false) ((wr.alloc (.cells #[.int .u8 (L : Int), .int .u8 (R : Int)] 127)).drewN nq)) := fun nq => ⟨rfl, below_drN (HB.out.1.alloc HB.out.1.size _) nq⟩
                      clear HB HV hPx
                      go_wp2
                      go_quiet (fail)
                      go_wp2
                      go_ret
                      exact ⟨_, rfl, KB.out nq⟩
                    · have k5 : ¬ (b3.toNat : Int) < 128 := by omega
                      have kb5 : decide ((b3.toNat : Int) < 128) = false := decide_eq_false k5
                      by_cases c6 : 191 < b3.toNat
                      · have k6 : (191 : Int) < (b3.toNat : Int) := by omega
                        obtain rfl : ANS = false := by rw [← HV]; simp [c6]
                        have KB : Hid (∀ nq, BoR w false (.bool false) ((wr.alloc (.cells #[.int .u8 (L : Int), .int .u8 (R : Int)] 127)).drewN nq)) := fun nq => ⟨rfl, below_drN (HB.out.1.alloc HB.out.1.size _) nq⟩
                        clear HB HV hPx
                        go_wp2
                        go_quiet (fail)
                        go_wp2
                        go_ret
                        exact ⟨_, rfl, KB.out nq⟩
                      · have k6 : ¬ (191 : Int) < (b3.toNat : Int) := by omega
                        have kb6 : decide ((191 : Int) < (b3.toNat : Int)) = false := decide_eq_false k6
                        obtain rfl : uv F lo hi r2 = ANS := by rw [← HV]; simp [c1, c2, c3, c4, c5, c6]
                        have KV : Hid (∀ nq, VI F lo hi w (uv F lo hi r2) g' (.slice qx (n1 + 1 - 4) (n1 + 1 - 4)) ((wr.alloc (.cells #[.int .u8 (L : Int), .int .u8 (R : Int)] 127)).drewN nq)) := fun nq => ⟨below_drN (HB.out.1.alloc HB.out.1.size _) nq, qx, r2, _, rfl, hlen2.out, by omega, by omega, PC.below hPx (below_drN (alloc_below _ _) nq), rfl⟩
                        clear HB HV hPx hlen2
                        go_wp2
                        go_quiet (fail)
                        go_wp2
                        go_roundg g'
                        case measure => omega
                        case rel => exact KV.out nq
        have q2 : ((sz : Int) == 2) = false := by
          have hh : ¬ (sz : Int) = 2 := fun e => h2 (Int.ofNat.inj e)
          simpa using hh
        have q3 : ((sz : Int) == 3) = false := by
          have hh : ¬ (sz : Int) = 3 := fun e => h3 (Int.ofNat.inj e)
          simpa using hh
        have q4 : ((sz : Int) == 4) = false := by
          have hh : ¬ (sz : Int) = 4 := fun e => h4 (Int.ofNat.inj e)
          simpa using hh
        have hs8w : wrap64 (sz : Int) = (sz : Int) := wrap8 sz (by rw [← hsz.out]; exact Nat.mod_lt _ (by decide))
        obtain rfl : ANS = false := by rw [← HB.out.2.2]; simp [h2, h3, h4]
        have KB : Hid (BoR w false (.bool false) (wr.alloc (.cells #[.int .u8 (L : Int), .int .u8 (R : Int)] 127))) := ⟨rfl, HB.out.1.alloc HB.out.1.size _⟩
        clear HB
        go_wp2
        go_ret
        exact ⟨_, rfl, KB.out⟩
/-- utf8.Valid, wherever its tables are laid. -/
theorem utf8_uv (hF : ∀ i, i < 256 → F i < 256) (hlo : ∀ j, j < 16 → lo j < 256) (hhi : ∀ j, j < 16 → hi j < 256) : UV (TabV F lo hi) (uv F lo hi) :=
  ⟨fun w w' h hb => TabV.at F lo hi h (by
    have h1 := h.1
    have : 1 < w'.heap.size := by
      have e := hb 1 (by omega)
      rw [Array.getElem?_eq_getElem (by omega : 1 < w.heap.size)] at e
      exact (Array.getElem?_eq_some_iff.1 e).1
    omega) hb, fun w h => h.1, fun w q m c x hT hx hmc hl => utf8_core hF hlo hhi w q m c x hT hx hmc hl⟩
end WI
end Go.Proofs.YtfkgfcggcfkkiaaDoor
/-
  THE ROW OF 'WireTokens' round its walk: a list of tokens (structs of an integer and three rows of bytes) and a text; two tables that the program lays; and the tied card.
-/
namespace Go.Proofs.YtfkgfcggcfkkiaaDoor.wireTokens
open Go.ChangeShapes Go.WideShapes Go.ChangeAt Go.RowKit
open Go.ChangeMaps (open_string shut_string)
open Go.Proofs.YtfkgfcggcfkkiaaDoor.WI
theorem own : ownKnob Tryd.prog.godebug = none := by kernel_rfl
theorem laidOut : laidOutB Tryd.prog = true := by kernel_rfl
def rn : Go.Shelf.Ren := ⟨fun x => x, fun t => if t = 5 then 5 else if t = 119 then 125 else if t = 138 then 127 else 128, fun g => if g = 3 then 0 else 1⟩
theorem ty8 : U8Types Tryd.prog rn := ⟨by kernel_rfl, by kernel_rfl, by kernel_rfl, by kernel_rfl⟩
theorem ex8 : U8Extra Tryd.prog rn := ⟨by kernel_rfl, by kernel_rfl, by kernel_rfl, by kernel_rfl, by kernel_rfl, by kernel_rfl, by kernel_rfl⟩
set_option maxRecDepth 100000 in
theorem laid_is : (Rows.wireTokensRow.laid : List (String × DataW Unit)) = [("unicode/utf8.acceptRanges", Lib.acceptData), ("unicode/utf8.first", Lib.firstData)] := by kernel_rfl
theorem f256 : ∀ i, i < 256 → Lib.firstT i < 256 := by decide +kernel
theorem lo256 : ∀ i, i < 16 → Lib.accLo i < 256 := by decide +kernel
theorem hi256 : ∀ i, i < 16 → Lib.accHi i < 256 := by decide +kernel
/-- What the condition gives the walk: the tables' cells. -/
theorem of_laid {W : World} (h : laidMetH Tryd.prog Rows.wireTokensRow.laid W) : TabV Lib.firstT Lib.accLo Lib.accHi W := by
  rw [MakeChecks.laidMetH_plain _ _ _ (by kernel_rfl), laid_is] at h
  obtain ⟨h1, h2⟩ : Lib.Utf8Tabs 0 1 W := utf8Tabs_of_readsT ty8 ex8 (Lib.laidMet.reads h (.tail _ (.head _))) (Lib.laidMet.reads h (.head _))
  have hb := World.block_lt_of_cell? _ _ (h2 0 (by decide)).1
  refine ⟨hb, h1, fun j hj => ?_⟩
  rw [Nat.mul_comm]
  exact h2 j hj
theorem cells5 : Tryd.prog.cellsOf 5 = 1 := by kernel_rfl
theorem bytes5 : Tryd.prog.bytesOf 5 = 1 := by kernel_rfl
theorem cells24 : Tryd.prog.cellsOf 24 = 1 := by kernel_rfl
theorem cellsSl : Tryd.prog.cellsOf 22 = 1 := by kernel_rfl
theorem cellsTk : Tryd.prog.cellsOf 49 = 4 := by kernel_rfl
theorem bytesTk : Tryd.prog.bytesOf 49 = 80 := by kernel_rfl
theorem range8 {n : Int} (h : (Lit.int .u8 n).wf = true) : 0 ≤ n ∧ n ≤ 255 := by
  simp only [Lit.wf, Bool.and_eq_true, decide_eq_true_eq] at h
  exact h
theorem rangeU {n : Int} (h : (Lit.int .u64 n).wf = true) : 0 ≤ n ∧ n ≤ 18446744073709551615 := by
  simp only [Lit.wf, Bool.and_eq_true, decide_eq_true_eq] at h
  exact h
theorem all_weigh {H : Type} {P : Program} {e : TypeId} {n : Nat} : ∀ {l : List (DataW H)} {d : DataW H}, d ∈ l → n ∈ d.weights P e → n ∈ DataW.weightsAll P e l
  | x :: r, d, h, hn => by
    show n ∈ DataW.weights P e x ++ DataW.weightsAll P e r
    rw [List.mem_append]
    rcases List.mem_cons.1 h with rfl | h
    · exact Or.inl hn
    · exact Or.inr (all_weigh h hn)
section
variable {H : Type} {enc : TypeId × Value → H} {W : World}
/-- Bytes that are handed in. -/
theorem row_of {n : Nat} {v : Value} {x : DataW H × List MemPlace} (hf : DataW.trod enc Tryd.prog W 0 (fun _ => true) true n 22 [v] = some x) (hw : ∀ m ∈ x.1.weights Tryd.prog 22, m ≤ reachBytes) : ∃ (q : Option Addr) (l c : Nat) (b : List UInt8), v = .slice q l c ∧ PBb W W.heap.size v b ∧ b.length ≤ reachBytes := by
  rcases open_ints Tryd.underlying22 Tryd.underlying5 cells5 hf with ⟨hcs, hx⟩ | ⟨a, l, c, zs, hcs, _, hl, hm, hzl, hx, hcell, hws⟩
  · simp only [List.cons.injEq, and_true] at hcs
    subst hcs
    exact ⟨none, 0, 0, [], rfl, ⟨none, 0, rfl, Nat.le_refl _, Or.inl rfl⟩, Nat.zero_le _⟩
  · simp only [List.cons.injEq, and_true] at hcs
    subst hcs
    simp only [if_true] at hzl
    subst hx
    have hr : ∀ j, j < l → 0 ≤ zs.getD j 0 ∧ zs.getD j 0 ≤ 255 := fun j hj => by
      refine range8 (hws _ ?_)
      rw [List.getD_eq_getElem?_getD, List.getElem?_eq_getElem (by omega)]
      exact List.getElem_mem _
    have hsz : ((List.range l).map fun j => UInt8.ofNat (zs.getD j 0).toNat).length = l := by simp
    have hwl : l ≤ reachBytes := by
      have h1 := hw (((lits .u8 (zs.take l) : List (DataW H)).length + (lits .u8 (zs.drop l) : List (DataW H)).length) * Tryd.prog.bytesOf 5) (by simp only [DataW.weights, Tryd.underlying22]; exact List.mem_cons_self)
      rw [bytes5] at h1
      simp only [lits, List.length_map, List.length_take, List.length_drop] at h1
      omega
    refine ⟨some a, l, c, (List.range l).map fun j => UInt8.ofNat (zs.getD j 0).toNat, rfl, ⟨some a, c, by rw [hsz], by rw [hsz]; exact hl, ?_⟩, by rw [hsz]; exact hwl⟩
    by_cases h0 : l = 0
    · subst h0; exact Or.inl rfl
    · right
      obtain ⟨b, off, spot⟩ := a
      have hspot : spot = none := by simpa [Addr.add] using World.cell?_spot (hcell 0 (by omega))
      subst hspot
      have hP : ∀ j, j < l → W.cell? ⟨b, off + j, none⟩ = some (.int .u8 (zs.getD j 0)) := fun j hj => by
        rw [← hcell j (by omega)]
        congr 1
        unfold Addr.add
        by_cases hj0 : j = 0
        · subst hj0; rfl
        · rw [if_neg hj0]
      refine ⟨b, off, rfl, World.block_lt_of_cell? _ _ (hP 0 (by omega)), fun j u hu => ?_⟩
      have hj : j < l := by have := (List.getElem?_eq_some_iff.1 hu).1; rw [hsz] at this; exact this
      rw [List.getElem?_map, List.getElem?_range hj] at hu
      obtain rfl := Option.some.inj hu
      rw [hP j hj]
      obtain ⟨y1, y2⟩ := hr j hj
      show _ = some (Value.int .u8 (((UInt8.ofNat (zs.getD j 0).toNat).toNat : Nat) : Int))
      rw [UInt8.toNat_ofNat', Nat.mod_eq_of_lt (by omega), Int.toNat_of_nonneg y1]
/-- The four cells of a token. -/
def tcs (t : Tk) (s1 s2 s3 : Value) : List Value := [.int .u64 (t.a : Int), s1, s2, s3]
set_option maxRecDepth 100000 in
theorem token_of {n : Nat} {cs : List Value} {x : DataW H × List MemPlace} (h : DataW.trod enc Tryd.prog W 0 (fun _ => true) true n 49 cs = some x) (hw : ∀ m ∈ x.1.weights Tryd.prog 49, m ≤ reachBytes) :
    ∃ (t : Tk) (q1 : Option Addr) (n1 c1 : Nat) (q2 : Option Addr) (n2 c2 : Nat) (q3 : Option Addr) (n3 c3 : Nat), cs = tcs t (.slice q1 n1 c1) (.slice q2 n2 c2) (.slice q3 n3 c3) ∧ TkM W W.heap.size t (.slice q1 n1 c1) (.slice q2 n2 c2) (.slice q3 n3 c3) := by
  obtain ⟨y0, y1, y2, y3, m, hx, hl, h0, h1, h2, h3⟩ := Go.Joins.trod_struct4 Tryd.underlying49 h
  rw [cellsTk] at hl
  have hws : ∀ d ∈ [y1.1, y2.1, y3.1], ∀ k ∈ d.weights Tryd.prog 22, k ≤ reachBytes := fun d hd k hk => hw k (by
    rw [hx]
    simp only [DataW.weights, Tryd.underlying49, List.map_cons, List.map_nil, DataW.weightsEach, List.mem_append]
    simp only [List.mem_cons, List.not_mem_nil, or_false] at hd
    rcases hd with rfl | rfl | rfl
    · exact Or.inr (Or.inl hk)
    · exact Or.inr (Or.inr (Or.inl hk))
    · exact Or.inr (Or.inr (Or.inr (Or.inl hk))))
  match cs, hl with
  | [a, b, c, d], _ =>
    obtain ⟨d0, e0, _, w0⟩ := DataW.trod_int Tryd.underlying24 h0
    simp only [cells24, cellsSl, List.drop_zero, List.drop_succ_cons, List.take_succ_cons, List.take_zero, List.cons.injEq, and_true] at e0 h1 h2 h3
    obtain ⟨q1, n1, c1, b1, rfl, p1, l1⟩ := row_of h1 (hws _ (by simp))
    obtain ⟨q2, n2, c2, b2, rfl, p2, l2⟩ := row_of h2 (hws _ (by simp))
    obtain ⟨q3, n3, c3, b3, rfl, p3, l3⟩ := row_of h3 (hws _ (by simp))
    have r0 := rangeU w0
    unfold reachBytes at l1 l2 l3
    refine ⟨⟨d0.toNat, b1, b2, b3⟩, q1, n1, c1, q2, n2, c2, q3, n3, c3, by rw [e0, tcs, show ((d0.toNat : Nat) : Int) = d0 by omega], by show d0.toNat < _; omega, p1, p2, p3, by show b1.length ≤ _; omega, by show b2.length ≤ _; omega, by show b3.length ≤ _; omega⟩
end
theorem law (W : World) (hL : laidMetH Tryd.prog Rows.wireTokensRow.laid W) (q : Option Addr) (c : Nat) (L : List Tk) (h : TkL W W.heap.size q L) (hl : L.length ≤ 140737488355328) (s : ByteArray) : Calls Tryd.prog 6 #[.slice q L.length c, .string s] W fun e w' => e = .returned (.bool true) ∧ Below W.heap.size W w' := by
  refine (tokens_law (utf8_uv f256 lo256 hi256) L (by omega) s W q c (of_laid hL) h).mono ?_
  rintro e w' ⟨v, rfl, rfl, hb⟩
  exact ⟨rfl, hb⟩
set_option maxRecDepth 100000 in
theorem lifted (os : Os) (started : os.Started) (H : Type) (enc : TypeId × Value → H) :
    ReturnsInHanded {} Tryd.checked os 6 .any (fun w args => (Rows.wireTokensSpec.pre enc Tryd.prog Tryd.f6 [] false w args ∧ laidMetH Tryd.prog Rows.wireTokensRow.laid w) ∧ sizedMet enc Tryd.prog Tryd.f6 (OpenSpec.ofChange Rows.wireTokensSpec) false w args)
      (Rows.wireTokensSpec.post enc Tryd.prog Tryd.f6 false true false false) := by
  refine returnsInHanded_of_change_and (C := Tryd.checked) (X := fun w _ => laidMetH Tryd.prog Rows.wireTokensRow.laid w) (fun _ _ _ hh h => h.of_heap hh) own started (by kernel_rfl) Tryd.func6
    (ChangeSpec.witness_shaped (enc := enc) (C := Tryd.checked) (os := os) (X := fun w _ => laidMetH Tryd.prog Rows.wireTokensRow.laid w) false (World.laidAll Tryd.prog os Rows.wireTokensRow.laid) #[.slice none 0 0, .string ByteArray.empty] 8 (World.laidAll_os _ _ _)
      (World.shaped_of_ZipB (by kernel_rfl) (by kernel_rfl)) (by kernel_rfl) (by kernel_rfl) (by kernel_rfl)
      (by rw [MakeChecks.laidMetH_plain _ _ _ (by kernel_rfl)]; exact laidMet_laidAll _ (by kernel_rfl) (by kernel_rfl))) ?_
  intro W base args ds gs before hval0 hW _ hsz0 hL _
  have hsz : (DataW.weightsEach Tryd.prog (Tryd.f6.params.toList ++ Rows.wireTokensSpec.plain.varTypes Tryd.prog) (ds ++ gs)).all (· ≤ reachBytes) = true := hsz0
  clear hsz0
  have hval : ∀ (j : Nat) t v, Tryd.f6.params[j]? = some t → args[j]? = some v → Value.okWide Tryd.prog W .any base t v := hval0
  have hW' := hW
  obtain ⟨p, q, hA0, hV, rfl, hfz, hnd⟩ := hW
  have hA : DataW.TrodAll enc Tryd.prog W 0 (fun _ => true) true Tryd.f6.params.toList args.toList ds p := hA0
  rw [Tryd.params6] at hA hval hsz
  obtain ⟨v0, vs0, d0, ds0, p0, q0, hargs, rfl, rfl, h0, r0⟩ := trodAll_cons hA
  obtain ⟨v1, vs1, d1, ds1, p1, q1, rfl, rfl, rfl, h1, r1⟩ := trodAll_cons r0
  obtain ⟨rfl, rfl, rfl⟩ := trodAll_nil r1
  obtain rfl : args = #[v0, v1] := by cases args; simp_all
  obtain ⟨rfl, rfl⟩ := trodVars_none hV
  obtain ⟨s1, rfl, rfl, rfl, w1⟩ := open_string Tryd.underlying9 (hval 1 9 v1 rfl rfl) h1
  obtain ⟨a1, len1, cap1, rfl⟩ := okWide_slice Tryd.underlying47 (hval 0 47 v0 rfl rfl)
  have k1 := h0
  have lt1 : ∀ x ∈ p0, x.block < W.heap.size := by obtain ⟨m, hm⟩ := k1; exact DataW.trod_lt m _ _ _ hm
  obtain ⟨L, hLn, hTk, hl⟩ : ∃ L : List Tk, L.length = len1 ∧ TkL W W.heap.size a1 L ∧ L.length ≤ 140737488355328 := by
    obtain ⟨fuel, hf⟩ := h0
    rcases Go.Deep.open_slice Tryd.underlying47 hf with ⟨hcs, _⟩ | ⟨a, l, c, m, n, D, Pl, hcs, _, hl, hm, hmm, hx0, hx⟩
    · simp [Value.cells] at hcs
      obtain ⟨rfl, rfl, rfl⟩ := hcs
      exact ⟨[], rfl, Or.inl rfl, Nat.zero_le _⟩
    · simp [Value.cells] at hcs
      obtain ⟨rfl, rfl, rfl⟩ := hcs
      simp only [if_true] at hmm
      subst hmm
      simp only [Prod.mk.injEq] at hx0
      obtain ⟨rfl, -⟩ := hx0
      have hreach : len1 ≤ 140737488355328 := by
        have := sized_slice hsz (j := 0) (t := 47) (e := 49) rfl rfl Tryd.underlying47
        rw [bytesTk] at this
        simp only [List.length_map, List.length_range, reachBytes] at this
        omega
      rw [cellsTk] at hx
      obtain ⟨b, off, spot⟩ := a
      by_cases h00 : len1 = 0
      · subst h00
        exact ⟨[], rfl, Or.inl rfl, Nat.zero_le _⟩
      have hwt : ∀ i, i < len1 → ∀ m ∈ (D i).weights Tryd.prog 49, m ≤ reachBytes := fun i hi m hm' => by
        have := List.all_eq_true.1 hsz _ (DataW.weights_mem_each (j := 0) (t := 47) rfl rfl m (by
            simp only [DataW.weights, Tryd.underlying47]
            exact List.mem_cons_of_mem _ (List.mem_append_left _ (all_weigh (List.mem_map.2 ⟨i, List.mem_range.2 hi, rfl⟩) hm'))))
        exact of_decide_eq_true this
      obtain ⟨cs0, hc0, ht0⟩ := hx 0 (by omega)
      obtain ⟨_, hlen0, hcell0⟩ := World.cells?_some hc0
      obtain ⟨_, _, _, _, _, _, _, _, _, _, rfl, _⟩ := token_of ht0 (hwt 0 (by omega))
      have hc00 := hcell0 0 (by omega)
      simp only [tcs, List.getElem?_cons_zero] at hc00
      have hspot : spot = none := by simpa [Addr.add] using World.cell?_spot hc00
      subst hspot
      have hall : ∀ i, ∃ t : Tk, i < len1 → ∃ q1 n1 c1 q2 n2 c2 q3 n3 c3, (∀ j v, (tcs t (.slice q1 n1 c1) (.slice q2 n2 c2) (.slice q3 n3 c3))[j]? = some v → W.cell? ⟨b, off + i * 4 + j, none⟩ = some v) ∧ TkM W W.heap.size t (.slice q1 n1 c1) (.slice q2 n2 c2) (.slice q3 n3 c3) := fun i => by
        by_cases hi : i < len1
        · obtain ⟨cs, hc, ht⟩ := hx i (by omega)
          obtain ⟨_, hlen, hcell⟩ := World.cells?_some hc
          obtain ⟨t, q1, n1, c1, q2, n2, c2, q3, n3, c3, rfl, hM⟩ := token_of ht (hwt i hi)
          refine ⟨t, fun _ => ⟨q1, n1, c1, q2, n2, c2, q3, n3, c3, fun j v hj => ?_, hM⟩⟩
          have hj4 : j < 4 := (List.getElem?_eq_some_iff.1 hj).1
          have := hcell j hj4
          rw [hj, Addr.add_mid, Addr.add_mid] at this
          exact this
        · exact ⟨⟨0, [], [], []⟩, fun h => absurd h hi⟩
      have hlen : ((List.range len1).map fun i => (hall i).choose).length = len1 := by rw [List.length_map, List.length_range]
      refine ⟨(List.range len1).map fun i => (hall i).choose, hlen, Or.inr ⟨b, off, rfl, ?_, fun j x hj => ?_⟩, by rw [hlen]; exact hreach⟩
      · obtain ⟨q1, n1, c1, q2, n2, c2, q3, n3, c3, h1, -⟩ := (hall 0).choose_spec (by omega)
        exact World.block_lt_of_cell? _ _ (h1 0 _ rfl)
      · have hjl : j < len1 := by have := (List.getElem?_eq_some_iff.1 hj).1; rw [hlen] at this; exact this
        rw [List.getElem?_map, List.getElem?_range hjl] at hj
        obtain rfl := Option.some.inj hj
        obtain ⟨q1, n1, c1, q2, n2, c2, q3, n3, c3, h1, hM⟩ := (hall j).choose_spec hjl
        exact ⟨q1, n1, c1, q2, n2, c2, q3, n3, c3, ⟨h1 0 _ rfl, h1 1 _ rfl, h1 2 _ rfl, h1 3 _ rfl⟩, hM⟩
  subst hLn
  clear hA0 hval0
  refine (law W hL a1 cap1 L hTk hl s1).mono fun e W' ⟨he, bel⟩ => ?_
  subst he
  exact ⟨_, rfl, _, _, _, [], _, [], hW', trodAll_mk1 (shut_bool Tryd.underlying4 _), (trodAll_cons_mk (Below.trod laidOut (by kernel_rfl) (of_decide_eq_true (by kernel_rfl)) k1 bel lt1) (trodAll_cons_mk (shut_string Tryd.underlying9 w1) trodAll_mk0)), rfl, bel.frame _, fun h => by cases h⟩
theorem over : Rows.WireTokensSaid :=
  OpenClaim.holds_of_wide 6 Tryd.f6 rfl rfl rfl rfl rfl rfl rfl ⟨rfl, rfl, rfl, rfl, rfl⟩ rfl rfl rfl rfl rfl (by kernel_rfl) Tryd.func6 (by kernel_rfl)
    (of_decide_eq_true (by kernel_rfl)) (by unfold Func.isWrapper; first | (rw [if_pos (by decide +kernel)]; kernel_rfl) | (rw [if_neg (by decide +kernel)]; exact ⟨rfl, rfl⟩))
    (fun os started H enc _ => lifted os started H enc)
/-- THE TIED CARD. -/
theorem card_holds : Rows.WireTokensCardSaid :=
  Claim7.holds_tied_plain_at .later [] [.data, .pinned] true Rows.wireTokensCard.stood.harness false
    over (fun _ h => by cases h) (by kernel_rfl) (fun _ h => by cases h) wireTokens_row_tie rfl ⟨rfl, rfl⟩ (by kernel_rfl) rfl
    (fun f fn hf hfn => by
      obtain rfl : f = 6 := Option.some.inj ((show Tryd.prog.funcNamed "mintvault/mintvaultlaw4.WireTokens" = some 6 by kernel_rfl).symm.trans hf) |>.symm
      obtain rfl : fn = Tryd.f6 := (Option.some.inj (Tryd.func6.symm.trans hfn)).symm
      exact ⟨by kernel_rfl, fun j t ht => by
        rw [Tryd.params6] at ht
        have hm : t ∈ [47, 9] := by simpa using Array.mem_of_getElem? ht
        have hall : ([47, 9].all fun u => !Tryd.prog.wantsStandIn u) = true := by kernel_rfl
        exact (show Tryd.prog.wantsStandIn t = false by simpa using List.all_eq_true.1 hall t hm)⟩)
    (by kernel_rfl)
end Go.Proofs.YtfkgfcggcfkkiaaDoor.wireTokens
namespace Go.Proofs.YtfkgfcggcfkkiaaDoor
/-- THE STATEMENT. -/
theorem wireTokens_holds : Rows.WireTokensCardSaid := wireTokens.card_holds
#print axioms wireTokens_holds
end Go.Proofs.YtfkgfcggcfkkiaaDoor
