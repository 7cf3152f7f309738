import Derived.Test.YtdeidgbknlmhjabG1
import Derived.Test.YtdeidgbknlmhjabH3
import Derived.Deep.RegionHeld3
import Derived.Deep.LoopGhost
namespace Go.Proofs.Ytdeidgbknlmhjab
open Go.RowKit Go.Sort Go.Deep

set_option maxHeartbeats 2000000 in
/-- Modulus of a prime. -/
theorem PModulus_any (g0 g1 g2 P : Nat) (hG : Gap g0 g1 g2 P) (w : World) :
    Calls Try.prog 90 #[.agg #[.int .u64 (g0 : Int), .int .u64 (g1 : Int), .int .u64 (g2 : Int), .int .u64 0]] w (Ret fun e w' => Below w.heap.size w w' ∧ Four e P) := by
  have hgap := hG.hg
  go_enter Try.func90, Try.ntmps90
  go_wp2_with fail
  have R := At4.made (w.alloc (.cells #[.int .u64 (g0 : Int), .int .u64 (g1 : Int), .int .u64 (g2 : Int), .int .u64 0] 79)) 85 0 0 0 0 (World.size_alloc _ _)
  have BL := below2 w (.cells #[.int .u64 (g0 : Int), .int .u64 (g1 : Int), .int .u64 (g2 : Int), .int .u64 0] 79) (.cells #[.int .u64 0, .int .u64 0, .int .u64 0, .int .u64 0] 85)
  simp only [Int.natCast_zero] at R
  generalize World.alloc _ _ = W0 at R BL ⊢
  refine (minus_any _ _ 0 _ (Four.mk (a := 0) (b := 0) (c := 0) (d := 0) (by decide) (by decide) (by decide) (by decide) rfl) (Four.mk hG.h0 hG.h1 hG.h2 (by decide) rfl) _).mono ?_
  rintro e w1 ⟨v, rfl, hb1, v2, t, k, rfl, hF, hk, he⟩
  replace he : t + val g0 g1 g2 0 = 0 + top * k := he
  have hPt : t = P := by
    have h1 := hF.lt
    have h2 := hG.hP
    have : k = 0 ∨ k = 1 := by omega
    rcases this with h | h <;> rw [h] at he <;> omega
  subst hPt
  replace R := R.call hb1
  have HB : Hid (Below w.heap.size w w1) := BL.trans (hb1.mono BL.size)
  clear BL hb1 he
  obtain ⟨a, b, c, d, rfl, ha, hb, hc, hd, ht⟩ := id hF
  clear ht
  have z := R.lt
  go_wp2_with fail
  refine (number_any _ _ hF _).mono ?_
  rintro e w2 ⟨v', rfl, hb2, rfl⟩
  replace HB : Hid (Below w.heap.size w w2) := (HB.out.alloc (by omega) _).trans (hb2.mono (by simp; omega))
  replace R := (R.alloc _).call hb2
  clear hb2 z
  obtain ⟨rc0, rc1, rc2, rc3, rf⟩ := id R
  have z := R.lt
  go_wp2
  have RF := R.self4 a b c d
  unfold set4 at RF
  refine bodyPost_ret (v := ?v) ?hr rfl ?hR
  case hr => simp [results, Try.results90, go_sem, RF.c0, RF.c1, RF.c2, RF.c3]; rfl
  exact ⟨_, rfl, below_set4 HB.out (Nat.le_succ _) _ _ _ _, hF⟩
end Go.Proofs.Ytdeidgbknlmhjab
