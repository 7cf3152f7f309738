import Derived.Test.YtppdcphfphcbbabG3
import Derived.Test.YtppdcphfphcbbabN0
namespace Go.Proofs.Ytppdcphfphcbbab
open Go.RowKit Go.Sort Go.Deep

set_option maxHeartbeats 1000000 in
theorem Reduce_any (k : Int) (g0 g1 g2 P g o n cap : Nat) (bs : Bs) (hG : Gap g0 g1 g2 P) (w : World) (hs : bs.size = n) (hn : n ≤ 1024) (hc : n ≤ cap) (hg : g < w.heap.size) (hB : Holds encB w g o bs)
    (hp : ∀ w, Calls Try.prog 48 #[.int .i64 k] w (Ret fun e w' => Below w.heap.size w w' ∧ e = .tuple #[.agg #[.int .u64 (g0 : Int), .int .u64 (g1 : Int), .int .u64 (g2 : Int), .int .u64 0], .int .i64 0])) :
    Calls Try.prog 30 #[.int .i64 k, .slice (some ⟨g, o, none⟩) n cap] w (Ret fun e w' => Below w.heap.size w w' ∧ ∃ v, e = .tuple #[v, .int .i64 0] ∧ IsBytes w' w.heap.size v (beV bs.toList % P)) := by
  have HP : Hid _ := hp
  have HBS : Hid (Holds encB w g o bs) := hB
  have HS : Hid (bs.size = n) := hs
  have hn' : ¬ (1024 : Int) < (n : Int) := by omega
  clear hp hB hs
  go_enter Try.func30, Try.ntmps30
  go_wp2_with fail
  refine (HP.out _).mono ?_
  rintro e w1 ⟨v, rfl, hb1, rfl⟩
  go_wp2_with fail
  have hb := hb1.alloc hb1.size (.cells #[.int .u64 (g0 : Int), .int .u64 (g1 : Int), .int .u64 (g2 : Int), .int .u64 0] 79)
  refine (PReduce_any g0 g1 g2 P g o n cap bs hG _ HS.out hc (Nat.lt_of_lt_of_le hg hb.size) (Holds.below HBS.out hb hg)).mono ?_
  rintro e w2 ⟨v, rfl, hb2, hF⟩
  have HB : Hid (Below w.heap.size w w2) := hb.trans (hb2.mono hb.size)
  clear hb hb1 hb2
  obtain ⟨a, b, c, d, rfl, ha, hbb, hc', hd, es⟩ := id hF
  clear es
  go_wp2_with fail
  refine (bytes_of _ _ _ hF).mono ?_
  rintro e w3 ⟨v, rfl, hb3, hv⟩
  obtain ⟨g', x, y, z, u, rfl, h2⟩ := id hv
  clear h2
  go_wp2
  go_ret2
  exact ⟨_, rfl, HB.out.trans (hb3.mono HB.out.size), _, rfl, hv.mono HB.out.size⟩

set_option maxHeartbeats 1000000 in
theorem Reduce_long (k : Int) (g0 g1 g2 n cap : Nat) (p : Option Addr) (w : World) (hn : 1024 < n)
    (hp : ∀ w, Calls Try.prog 48 #[.int .i64 k] w (Ret fun e w' => Below w.heap.size w w' ∧ e = .tuple #[.agg #[.int .u64 (g0 : Int), .int .u64 (g1 : Int), .int .u64 (g2 : Int), .int .u64 0], .int .i64 0])) :
    Calls Try.prog 30 #[.int .i64 k, .slice p n cap] w (Ret fun e w' => Below w.heap.size w w' ∧ e = .tuple #[.slice none 0 0, .int .i64 1]) := by
  have HP : Hid _ := hp
  have hn' : (1024 : Int) < (n : Int) := by omega
  clear hp
  go_enter Try.func30, Try.ntmps30
  go_wp2_with fail
  refine (HP.out _).mono ?_
  rintro e w1 ⟨v, rfl, hb1, rfl⟩
  go_wp2
  go_ret2
  exact ⟨_, rfl, hb1.alloc hb1.size _, rfl⟩

set_option maxHeartbeats 1000000 in
theorem Reduce_no (k : Int) (hk : k < 0 ∨ 2 ≤ k) (v : Value) (w : World) :
    Calls Try.prog 30 #[.int .i64 k, v] w (Ret fun e w' => Below w.heap.size w w' ∧ e = .tuple #[.slice none 0 0, .int .i64 2]) := by
  go_enter Try.func30, Try.ntmps30
  go_wp2_with fail
  refine (primeOf_n k hk _).mono ?_
  rintro e w1 ⟨v, rfl, hb1, rfl⟩
  go_wp2
  go_ret2
  exact ⟨_, rfl, hb1.alloc hb1.size _, rfl⟩

theorem Known_any (k : Int) (w : World) : Calls Try.prog 15 #[.int .i64 k] w fun e w' => e = .returned (.bool (decide (k = 0 ∨ k = 1))) ∧ w' = w := by
  by_cases h0 : k = 0
  · subst h0
    go_enter Try.func15, Try.ntmps15
    go_wp2
    go_ret
    exact ⟨rfl, rfl⟩
  · by_cases h1 : k = 1
    · subst h1
      go_enter Try.func15, Try.ntmps15
      go_wp2
      go_ret
      exact ⟨rfl, rfl⟩
    · have d0 : decide (k = 0) = false := decide_eq_false h0
      have d1 : decide (k = 1) = false := decide_eq_false h1
      have d2 : decide (k = 0 ∨ k = 1) = false := decide_eq_false (by omega)
      rw [d2]
      clear d2
      go_enter Try.func15, Try.ntmps15
      go_wp2
      go_ret
      exact ⟨by simp [h0, h1], rfl⟩
end Go.Proofs.Ytppdcphfphcbbab
