import Derived.Test.YtdeidgbknlmhjabC2
import Derived.LoopN
import Derived.Deep.RegionWith
namespace Go.Proofs.Ytdeidgbknlmhjab
open Go.RowKit Go.Sort

set_option maxHeartbeats 2000000 in
set_option maxRecDepth 100000 in
theorem rless_any (x y : Value) (m n : Nat) (hx : Four x m) (hy : Four y n) (w : World) :
    Calls Try.prog 59 #[x, y] w (Ret fun e w' => Below w.heap.size w w' ∧ ∃ (v : Value) (s k : Nat), e = .tuple #[v, .int .u64 (k : Int)] ∧ Four v s ∧ k ≤ 1 ∧ s + n = m + top * k) := by
  obtain ⟨a, b, c, d, rfl, ha, hb, hc, hd, em⟩ := hx
  obtain ⟨p, q, r, s, rfl, hp, hq, hr, hs, en⟩ := hy
  obtain ⟨s0, k0, a0, hs0, hk0, e0⟩ := sub64z a p ha hp
  obtain ⟨s1, k1, a1, hs1, hk1, e1⟩ := sub64 b q k0 hb hq hk0
  obtain ⟨s2, k2, a2, hs2, hk2, e2⟩ := sub64 c r k1 hc hr hk1
  obtain ⟨s3, k3, a3, hs3, hk3, e3⟩ := sub64 d s k2 hd hs hk2
  have hv : val s0 s1 s2 s3 + n = m + top * k3 := by rw [em, en]; unfold val top; omega
  clear e0 e1 e2 e3 em en
  go_enter Try.func59, Try.ntmps59
  go_wp2
  refine wp_loop_rounds 5 ?_
  rw [rounds_succ]; go_wp2; go_region
  go_wp2; rw [rounds_succ]; go_wp2; go_region
  go_wp2; rw [rounds_succ]; go_wp2; go_region
  go_wp2; rw [rounds_succ]; go_wp2; go_region
  go_wp2; rw [rounds_succ]; go_wp2
  refine bodyPost_ret (v := ?v) ?hr rfl ?hR
  case hr => simp [results, Try.results59, go_sem]; rfl
  exact ⟨_, rfl, (below4 _ _ _ _ _).drew.drew.drew.drew, _, _, k3, rfl, Four.mk hs0 hs1 hs2 hs3 rfl, hk3, hv⟩

/-- Eight words are the number n. -/
def Eight (v : Value) (n : Nat) : Prop := ∃ a b c d a' b' c' d' : Nat, v = .agg #[.int .u64 (a : Int), .int .u64 (b : Int), .int .u64 (c : Int), .int .u64 (d : Int), .int .u64 (a' : Int), .int .u64 (b' : Int), .int .u64 (c' : Int), .int .u64 (d' : Int)] ∧
  a < 18446744073709551616 ∧ b < 18446744073709551616 ∧ c < 18446744073709551616 ∧ d < 18446744073709551616 ∧ a' < 18446744073709551616 ∧ b' < 18446744073709551616 ∧ c' < 18446744073709551616 ∧ d' < 18446744073709551616 ∧
  n = val a b c d + top * val a' b' c' d'

theorem add_halves {m n a b c d s u k l : Nat} (em : m = a + top * b) (en : n = c + top * d) (h1 : s + top * k = a + c) (h2 : u + top * l = b + d + k) (hlt : m + n < top * top) : m + n = s + top * u := by
  have h3 : top * u + top * top * l = top * b + top * d + top * k := by rw [Nat.mul_assoc, ← Nat.mul_add, h2, Nat.mul_add, Nat.mul_add]
  have h4 : m + n = s + top * u + top * top * l := by omega
  have h5 : l = 0 := by
    rcases Nat.eq_zero_or_pos l with h | h
    · exact h
    · have := Nat.le_mul_of_pos_right (top * top) h
      omega
  rw [h4, h5, Nat.mul_zero, Nat.add_zero]

set_option maxHeartbeats 4000000 in
set_option maxRecDepth 100000 in
theorem rplus_any (x y : Value) (m n : Nat) (hx : Eight x m) (hy : Eight y n) (hlt : m + n < top * top) (w : World) :
    Calls Try.prog 56 #[x, y] w (Ret fun e w' => Below w.heap.size w w' ∧ Eight e (m + n)) := by
  obtain ⟨a, b, c, d, aa, bb, cc, dd, rfl, ha, hb, hc, hd, haa, hbb, hcc, hdd, em⟩ := hx
  obtain ⟨p, q, r, s, pp, qq, rr, ss, rfl, hp, hq, hr, hs, hpp, hqq, hrr, hss, en⟩ := hy
  obtain ⟨s0, k0, a0, hs0, hk0, e0⟩ := add64z a p ha hp
  obtain ⟨s1, k1, a1, hs1, hk1, e1⟩ := add64 b q k0 hb hq hk0
  obtain ⟨s2, k2, a2, hs2, hk2, e2⟩ := add64 c r k1 hc hr hk1
  obtain ⟨s3, k3, a3, hs3, hk3, e3⟩ := add64 d s k2 hd hs hk2
  obtain ⟨s4, k4, a4, hs4, hk4, e4⟩ := add64 aa pp k3 haa hpp hk3
  obtain ⟨s5, k5, a5, hs5, hk5, e5⟩ := add64 bb qq k4 hbb hqq hk4
  obtain ⟨s6, k6, a6, hs6, hk6, e6⟩ := add64 cc rr k5 hcc hrr hk5
  obtain ⟨s7, k7, a7, hs7, hk7, e7⟩ := add64 dd ss k6 hdd hss hk6
  have v1 : val s0 s1 s2 s3 + top * k3 = val a b c d + val p q r s := by clear em en hlt e4 e5 e6 e7; unfold val top; omega
  have v2 : val s4 s5 s6 s7 + top * k7 = val aa bb cc dd + val pp qq rr ss + k3 := by clear em en hlt e0 e1 e2 e3; unfold val top; omega
  have hv : m + n = val s0 s1 s2 s3 + top * val s4 s5 s6 s7 := add_halves em en v1 v2 hlt
  clear e0 e1 e2 e3 e4 e5 e6 e7 em en hlt
  go_enter Try.func56, Try.ntmps56
  go_wp2
  refine wp_loop_rounds 9 ?_
  rw [rounds_succ]; go_wp2; go_region
  go_wp2; rw [rounds_succ]; go_wp2; go_region
  go_wp2; rw [rounds_succ]; go_wp2; go_region
  go_wp2; rw [rounds_succ]; go_wp2; go_region
  go_wp2; rw [rounds_succ]; go_wp2; go_region
  go_wp2; rw [rounds_succ]; go_wp2; go_region
  go_wp2; rw [rounds_succ]; go_wp2; go_region
  go_wp2; rw [rounds_succ]; go_wp2; go_region
  go_wp2; rw [rounds_succ]; go_wp2
  refine bodyPost_ret (v := ?v) ?hr rfl ?hR
  case hr => simp [results, Try.results56, go_sem]; rfl
  exact ⟨_, rfl, (below3 _ _ _ _).drew.drew.drew.drew.drew.drew.drew.drew, s0, s1, s2, s3, s4, s5, s6, s7, rfl, hs0, hs1, hs2, hs3, hs4, hs5, hs6, hs7, hv⟩
end Go.Proofs.Ytdeidgbknlmhjab
