import Derived.Test.YtdeidgbknlmhjabE6
namespace Go.Proofs.Ytdeidgbknlmhjab
open Go.RowKit Go.Sort

set_option maxHeartbeats 1000000 in
theorem rBelow_any (x y : Value) (m n : Nat) (hx : Four x m) (hy : Four y n) (w : World) :
    Calls Try.prog 54 #[x, y] w (Ret fun e w' => Below w.heap.size w w' ∧ e = .bool (decide (m < n))) := by
  obtain ⟨a, b, c, d, rfl, ha, hb, hc, hd, em⟩ := id hx
  obtain ⟨p, q, r, s, rfl, hp, hq, hr, hs, en⟩ := id hy
  have HX : Hid (Four _ _) := hx
  have HY : Hid (Four _ _) := hy
  clear em en hx hy ha hb hc hd hp hq hr hs
  go_enter Try.func54, Try.ntmps54
  go_wp2_with fail
  refine (rless_any _ _ _ _ HX.out HY.out _).mono ?_
  rintro e w1 ⟨v, rfl, hb1, v2, t, k, rfl, hF, hk, he⟩
  have HB : Hid (Below w.heap.size w w1) := (below2 w _ _).trans (hb1.mono (below2 w _ _).size)
  have hd : decide (m < n) = decide (k = 1) := by
    have h1 := hF.lt
    have h2 := HX.out.lt
    have h3 := HY.out.lt
    have : k = 0 ∨ k = 1 := by omega
    rcases this with rfl | rfl
    · rw [decide_eq_false (by omega), decide_eq_false (by omega)]
    · rw [decide_eq_true (by omega), decide_eq_true rfl]
  have HD : Hid (decide (m < n) = decide (k = 1)) := hd
  obtain ⟨a', b', c', d', rfl, ha', hb', hc', hd', es⟩ := id hF
  clear es hF he hd hb1
  have : k = 0 ∨ k = 1 := by omega
  rcases this with rfl | rfl
  · go_wp2
    go_ret
    exact ⟨_, rfl, HB.out.alloc HB.out.size _, by rw [HD.out]; rfl⟩
  · go_wp2
    go_ret
    exact ⟨_, rfl, HB.out.alloc HB.out.size _, by rw [HD.out]; rfl⟩
end Go.Proofs.Ytdeidgbknlmhjab
