import Derived.Test.YtdeidgbknlmhjabJ6
import Derived.Test.YtdeidgbknlmhjabG2
namespace Go.Proofs.Ytdeidgbknlmhjab
open Go.RowKit Go.Sort

/-- Two arguments and a result, each in a block of its own. -/
theorem kept3 (w : World) (t0 t1 t2 : TypeId) (a b c d e f g h i j k l : Nat) :
    Kept w w.heap.size [⟨w.heap.size, 0, a, b, c, d⟩, ⟨w.heap.size + 1, 0, e, f, g, h⟩, ⟨w.heap.size + 1 + 1, 0, i, j, k, l⟩]
      (((w.alloc (.cells #[.int .u64 (a : Int), .int .u64 (b : Int), .int .u64 (c : Int), .int .u64 (d : Int)] t0)).alloc (.cells #[.int .u64 (e : Int), .int .u64 (f : Int), .int .u64 (g : Int), .int .u64 (h : Int)] t1)).alloc (.cells #[.int .u64 (i : Int), .int .u64 (j : Int), .int .u64 (k : Int), .int .u64 (l : Int)] t2)) := by
  refine (((Kept.mk1 (below3 w _ _ _) (below3 w _ _ _).size).cons ?_).cons ?_).cons ?_
  · exact (At4.made _ t2 i j k l (by simp)).blk
  · exact ((At4.made _ t1 e f g h (by simp)).alloc _).blk
  · exact (((At4.made _ t0 a b c d rfl).alloc _).alloc _).blk

set_option maxHeartbeats 2000000 in
set_option maxRecDepth 100000 in
theorem Inverse_any (g0 g1 g2 P : Nat) (x : Value) (m : Nat) (hG : Gap g0 g1 g2 P) (hP2 : 2 ≤ P % 18446744073709551616) (hx : Four x m) (w : World) :
    Calls Try.prog 50 #[.agg #[.int .u64 (g0 : Int), .int .u64 (g1 : Int), .int .u64 (g2 : Int), .int .u64 0], x] w (Ret fun e w' => Below w.heap.size w w' ∧ Four e (m ^ (P - 2) % P)) := by
  obtain ⟨a, b, c, d, rfl, ha, hb, hc, hd, em⟩ := id hx
  have HX : Hid (Four _ m) := hx
  have HG : Hid (Gap g0 g1 g2 P) := hG
  clear em hx ha hb hc hd hG
  go_enter Try.func50, Try.ntmps50
  go_wp2_with fail
  have KP := kept3 w 79 85 85 g0 g1 g2 0 a b c d 0 0 0 0
  simp only [Int.natCast_zero] at KP
  generalize World.alloc _ _ = W0 at KP ⊢
  generalize h2 : w.heap.size + 1 + 1 = k2 at KP ⊢
  generalize h1 : w.heap.size + 1 = k1 at KP ⊢
  have Q2 : Hid (w.heap.size ≤ k2) := by unfold Hid; omega
  generalize h0 : w.heap.size = k0 at KP Q2 ⊢
  have H0 : Hid (w.heap.size = k0) := h0
  clear h0 h1 h2
  refine (PModulus_any g0 g1 g2 P HG.out _).mono ?_
  rintro e w1 ⟨v, rfl, hb1, hF⟩
  obtain ⟨pa, pb, pc, pd, rfl, hpa, hpb, hpc, hpd, eP⟩ := id hF
  replace KP := KP.call hb1
  clear hb1 hF
  have hpe : 2 ≤ pa := by rw [eP] at hP2; unfold val at hP2; omega
  obtain ⟨pe, hpe'⟩ : ∃ pe, pa = pe + 2 := ⟨pa - 2, by omega⟩
  have HE : Hid (Four (.agg #[.int .u64 (pe : Int), .int .u64 (pb : Int), .int .u64 (pc : Int), .int .u64 (pd : Int)]) (P - 2)) := by
    refine Four.mk (by omega) hpb hpc hpd ?_
    rw [eP, hpe']; unfold val; omega
  have hsub : (pa : Int) - 2 = (pe : Int) := by omega
  have hw := wrapN pe (by omega)
  clear hpe eP hP2 hpa hpb hpc hpd hpe'
  obtain ⟨xc0, xc1, xc2, xc3, xf⟩ := KP.tail.head.at4
  have zx := KP.tail.head.lt
  obtain ⟨pc0, pc1, pc2, pc3, pf⟩ := KP.head.at4
  have zp := KP.head.lt
  have n1 : k1 ≠ w1.heap.size := Nat.ne_of_lt zx
  have n0 : k0 ≠ w1.heap.size := Nat.ne_of_lt zp
  go_wp2_with fail
  refine (power_any g0 g1 g2 P _ _ _ _ HG.out HX.out HE.out _).mono ?_
  rintro e w2 ⟨v, rfl, hb2, hF⟩
  replace KP := (KP.alloc _).call hb2
  clear hb2 xc0 xc1 xc2 xc3 xf zx pc0 pc1 pc2 pc3 pf zp n0 n1
  obtain ⟨qa, qb, qc, qd, rfl, hqa, hqb, hqc, hqd, eQ⟩ := id hF
  have HF : Hid (Four _ _) := hF
  clear hF eQ hqa hqb hqc hqd
  obtain ⟨rc0, rc1, rc2, rc3, rf⟩ := KP.tail.tail.head.at4
  have zr := KP.tail.tail.head.lt
  go_wp2
  have RF := KP.tail.tail.head.at4.self4 qa qb qc qd
  unfold set4 at RF
  refine bodyPost_ret (v := ?v) ?hr rfl ?hR
  case hr => simp [results, Try.results50, go_sem, RF.c0, RF.c1, RF.c2, RF.c3]; rfl
  refine ⟨_, rfl, ?_, HF.out⟩
  rw [H0.out]
  exact below_set4 KP.bl Q2.out _ _ _ _
end Go.Proofs.Ytdeidgbknlmhjab
