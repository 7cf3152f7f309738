import Derived.Test.YtdeidgbknlmhjabC2
import Derived.LoopN
import Derived.Deep.RegionWith
namespace Go.Proofs.Ytdeidgbknlmhjab
open Go.RowKit Go.Sort

/-- One of the two primes. -/
def kindG (k : Nat) : Nat × Nat × Nat := if k = 0 then (4294968273, 0, 0) else (4624529908474429119, 4994812053365940164, 1)

def p0 : Nat := 115792089237316195423570985008687907853269984665640564039457584007908834671663
def p1 : Nat := 115792089237316195423570985008687907852837564279074904382605163141518161494337

set_option maxHeartbeats 2000000 in
set_option maxRecDepth 100000 in
theorem rMake0 (w : World) :
    Calls Try.prog 16 #[.int .i64 0] w (Ret fun e w' => Below w.heap.size w w' ∧ e = .agg #[.int .u64 18446744069414583343, .int .u64 18446744073709551615, .int .u64 18446744073709551615, .int .u64 18446744073709551615, .int .u64 4294968273, .int .u64 0, .int .u64 0, .int .u64 0]) := by
  obtain ⟨s0, k0, a0, hs0, hk0, e0⟩ := sub64z 0 4294968273 (by decide) (by decide)
  obtain ⟨s1, k1, a1, hs1, hk1, e1⟩ := sub64 0 0 k0 (by decide) (by decide) hk0
  obtain ⟨s2, k2, a2, hs2, hk2, e2⟩ := sub64 0 0 k1 (by decide) (by decide) hk1
  obtain ⟨s3, k3, a3, hs3, hk3, e3⟩ := sub64 0 0 k2 (by decide) (by decide) hk2
  have hk0 : k0 = 1 := by omega
  have hk1 : k1 = 1 := by omega
  have hk2 : k2 = 1 := by omega
  have hk3 : k3 = 1 := by omega
  have hs0 : s0 = 18446744069414583343 := by omega
  have hs1 : s1 = 18446744073709551615 := by omega
  have hs2 : s2 = 18446744073709551615 := by omega
  have hs3 : s3 = 18446744073709551615 := by omega
  subst hk0 hk1 hk2 hk3 hs0 hs1 hs2 hs3
  clear e0 e1 e2 e3
  replace a1 : ∀ w, (callFunc 52 #[.int .u64 0, .int .u64 0, .int .u64 1]).run Try.prog w = .ok (.value (.tuple #[.int .u64 18446744073709551615, .int .u64 1])) w := a1
  replace a0 : ∀ w, (callFunc 52 #[.int .u64 0, .int .u64 4294968273, .int .u64 0]).run Try.prog w = .ok (.value (.tuple #[.int .u64 18446744069414583343, .int .u64 1])) w := a0
  clear a2 a3
  go_enter Try.func16, Try.ntmps16
  go_wp2
  refine wp_loop_rounds 5 ?_
  rw [rounds_succ]; go_wp2_with (simp only [a0])
  rw [rounds_succ]; go_wp2_with (simp only [a1])
  rw [rounds_succ]; go_wp2_with (simp only [a1])
  rw [rounds_succ]; go_wp2_with (simp only [a1])
  rw [rounds_succ]; go_wp2
  refine bodyPost_ret (v := ?v) ?hr rfl ?hR
  case hr => simp [results, Try.results16, go_sem]; rfl
  exact ⟨_, rfl, below3 _ _ _ _, rfl⟩

set_option maxHeartbeats 2000000 in
set_option maxRecDepth 100000 in
theorem rMake1 (w : World) :
    Calls Try.prog 16 #[.int .i64 1] w (Ret fun e w' => Below w.heap.size w w' ∧ e = .agg #[.int .u64 13822214165235122497, .int .u64 13451932020343611451, .int .u64 18446744073709551614, .int .u64 18446744073709551615, .int .u64 4624529908474429119, .int .u64 4994812053365940164, .int .u64 1, .int .u64 0]) := by
  obtain ⟨s0, k0, a0, hs0, hk0, e0⟩ := sub64z 0 4624529908474429119 (by decide) (by decide)
  obtain ⟨s1, k1, a1, hs1, hk1, e1⟩ := sub64 0 4994812053365940164 k0 (by decide) (by decide) hk0
  obtain ⟨s2, k2, a2, hs2, hk2, e2⟩ := sub64 0 1 k1 (by decide) (by decide) hk1
  obtain ⟨s3, k3, a3, hs3, hk3, e3⟩ := sub64 0 0 k2 (by decide) (by decide) hk2
  have hk0 : k0 = 1 := by omega
  have hk1 : k1 = 1 := by omega
  have hk2 : k2 = 1 := by omega
  have hk3 : k3 = 1 := by omega
  have hs0 : s0 = 13822214165235122497 := by omega
  have hs1 : s1 = 13451932020343611451 := by omega
  have hs2 : s2 = 18446744073709551614 := by omega
  have hs3 : s3 = 18446744073709551615 := by omega
  subst hk0 hk1 hk2 hk3 hs0 hs1 hs2 hs3
  clear e0 e1 e2 e3
  replace a0 : ∀ w, (callFunc 52 #[.int .u64 0, .int .u64 4624529908474429119, .int .u64 0]).run Try.prog w = .ok (.value (.tuple #[.int .u64 13822214165235122497, .int .u64 1])) w := a0
  replace a1 : ∀ w, (callFunc 52 #[.int .u64 0, .int .u64 4994812053365940164, .int .u64 1]).run Try.prog w = .ok (.value (.tuple #[.int .u64 13451932020343611451, .int .u64 1])) w := a1
  replace a2 : ∀ w, (callFunc 52 #[.int .u64 0, .int .u64 1, .int .u64 1]).run Try.prog w = .ok (.value (.tuple #[.int .u64 18446744073709551614, .int .u64 1])) w := a2
  replace a3 : ∀ w, (callFunc 52 #[.int .u64 0, .int .u64 0, .int .u64 1]).run Try.prog w = .ok (.value (.tuple #[.int .u64 18446744073709551615, .int .u64 1])) w := a3
  go_enter Try.func16, Try.ntmps16
  go_wp2
  refine wp_loop_rounds 5 ?_
  rw [rounds_succ]; go_wp2_with (simp only [a0])
  rw [rounds_succ]; go_wp2_with (simp only [a1])
  rw [rounds_succ]; go_wp2_with (simp only [a2])
  rw [rounds_succ]; go_wp2_with (simp only [a3])
  rw [rounds_succ]; go_wp2
  refine bodyPost_ret (v := ?v) ?hr rfl ?hR
  case hr => simp [results, Try.results16, go_sem]; rfl
  exact ⟨_, rfl, below3 _ _ _ _, rfl⟩
end Go.Proofs.Ytdeidgbknlmhjab
