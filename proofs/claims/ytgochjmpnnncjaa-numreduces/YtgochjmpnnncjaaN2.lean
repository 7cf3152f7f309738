import Derived.Test.YtgochjmpnnncjaaN1
namespace Go.Proofs.Ytgochjmpnnncjaa
open Go.RowKit Go.Sort Go.Deep

set_option maxHeartbeats 1000000 in
theorem Modulus_any (k : Int) (g0 g1 g2 P : Nat) (hG : Gap g0 g1 g2 P) (w : World)
    (hp : ∀ w, Calls Try.prog 46 #[.int .i64 k] w (Ret fun e w' => Below w.heap.size w w' ∧ e = .tuple #[.agg #[.int .u64 (g0 : Int), .int .u64 (g1 : Int), .int .u64 (g2 : Int), .int .u64 0], .int .i64 0])) :
    Calls Try.prog 26 #[.int .i64 k] w (Ret fun e w' => Below w.heap.size w w' ∧ ∃ v, e = .tuple #[v, .int .i64 0] ∧ IsBytes w' w.heap.size v P) := by
  have HP : Hid _ := hp
  clear hp
  go_enter Try.func26, Try.ntmps26
  go_wp2_with fail
  refine (HP.out _).mono ?_
  rintro e w1 ⟨v, rfl, hb1, rfl⟩
  go_wp2_with fail
  refine (PModulus_any g0 g1 g2 P hG _).mono ?_
  rintro e w2 ⟨v, rfl, hb2, hF⟩
  have hb := (hb1.alloc hb1.size (.cells #[.int .u64 (g0 : Int), .int .u64 (g1 : Int), .int .u64 (g2 : Int), .int .u64 0] 91)).trans (hb2.mono (by simp; have := hb1.size; omega))
  have HB : Hid (Below w.heap.size w w2) := hb
  clear hb hb1 hb2
  obtain ⟨a, b, c, d, rfl, ha, hbb, hc, hd, es⟩ := id hF
  clear es
  go_wp2_with fail
  refine (bytes_of _ _ _ hF).mono ?_
  rintro e w3 ⟨v, rfl, hb3, hv⟩
  obtain ⟨g, x, y, z, u, rfl, h2⟩ := id hv
  clear h2
  go_wp2
  go_ret2
  exact ⟨_, rfl, HB.out.trans (hb3.mono HB.out.size), _, rfl, hv.mono HB.out.size⟩

set_option maxHeartbeats 1000000 in
theorem Modulus_no (k : Int) (hk : k < 0 ∨ 2 ≤ k) (w : World) :
    Calls Try.prog 26 #[.int .i64 k] w (Ret fun e w' => Below w.heap.size w w' ∧ e = .tuple #[.slice none 0 0, .int .i64 2]) := by
  go_enter Try.func26, Try.ntmps26
  go_wp2_with fail
  refine (primeOf_n k hk _).mono ?_
  rintro e w1 ⟨v, rfl, hb1, rfl⟩
  go_wp2
  go_ret2
  exact ⟨_, rfl, hb1.alloc hb1.size _, rfl⟩

end Go.Proofs.Ytgochjmpnnncjaa
