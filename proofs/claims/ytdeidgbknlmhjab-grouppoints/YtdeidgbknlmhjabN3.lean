import Derived.Test.YtdeidgbknlmhjabN0
import Derived.Test.YtdeidgbknlmhjabM1
import Derived.Test.YtdeidgbknlmhjabK1
import Derived.Deep.RegionHeld3
namespace Go.Proofs.Ytdeidgbknlmhjab
open Go.RowKit Go.Sort Go.Deep

theorem ag_inj {a b c d a' b' c' d' : Nat} (h : Value.agg #[.int .u64 (a : Int), .int .u64 (b : Int), .int .u64 (c : Int), .int .u64 (d : Int)] = .agg #[.int .u64 (a' : Int), .int .u64 (b' : Int), .int .u64 (c' : Int), .int .u64 (d' : Int)]) : a' = a ∧ b' = b ∧ c' = c ∧ d' = d := by
  simp only [Value.agg.injEq, Array.mk.injEq, List.cons.injEq, Value.int.injEq, true_and, and_true, Int.ofNat_inj] at h
  exact ⟨h.1.symm, h.2.1.symm, h.2.2.1.symm, h.2.2.2.symm⟩
theorem toldS_of {w W : World} {k0 a b c d g : Nat} {T : Bs} (h : Kept w k0 [⟨k0, 0, a, b, c, d⟩] W) (hH : Holds encB W g 0 T) (hT : T.size = 32) : W.cell? ⟨k0, 0, none⟩ = some (.int .u64 (a : Int)) ∧ W.cell? ⟨k0, 1, none⟩ = some (.int .u64 (b : Int)) ∧ W.cell? ⟨k0, 2, none⟩ = some (.int .u64 (c : Int)) ∧ W.cell? ⟨k0, 3, none⟩ = some (.int .u64 (d : Int)) ∧ (convert 23 9 (.slice (some ⟨g, 0, none⟩) 32 32)).run Try.prog W = .ok (.string ⟨T⟩) W ∧ Kept w k0 [⟨k0, 0, a, b, c, d⟩] W :=
  ⟨h.head.c0, h.head.c1, h.head.c2, h.head.c3, conv_str Try.prog 23 9 5 slice22 int5 str9 _ g 0 32 32 _ hH hT, h⟩

set_option maxHeartbeats 2000000 in
set_option maxRecDepth 100000 in
theorem told_ok (v x : Value) (n B : Nat) (w : World) (hv : IsBytes w B v n) (hx : Four x n) :
    Calls Try.prog 22 #[v, .int .i64 0, .int .i64 0, x] w (Ret fun e w' => Below w.heap.size w w' ∧ e = .bool true) := by
  obtain ⟨g, a, b, c, d, rfl, hg, hF, hH⟩ := hv
  obtain rfl := hF.inj hx
  have hgl := Holds.lt hH (by rw [be32_size]; omega)
  have HX : Hid (Four _ _) := hx
  clear hF hx hg
  go_enter Try.func22, Try.ntmps22
  go_wp2_with fail
  have KP := (Kept.mk1 (below1 w (.cells #[.int .u64 (a : Int), .int .u64 (b : Int), .int .u64 (c : Int), .int .u64 (d : Int)] 33)) (below1 w _).size).cons (At4.made w 33 a b c d rfl).blk
  replace hH := Holds.below hH (below1 w (.cells #[.int .u64 (a : Int), .int .u64 (b : Int), .int .u64 (c : Int), .int .u64 (d : Int)] 33)) hgl
  generalize World.alloc _ _ = W0 at KP hH ⊢
  generalize h0 : w.heap.size = k0 at KP hgl ⊢
  have H0 : Hid (w.heap.size = k0) := h0
  clear h0
  obtain ⟨T, hT⟩ : ∃ T, be32 a b c d = T := ⟨_, rfl⟩
  have hTs : T.size = 32 := hT ▸ be32_size a b c d
  rw [hT] at hH
  have HT : Hid (be32 a b c d = T) := hT
  clear hT
  go_region_held3 (fun w' => w'.cell? ⟨k0, 0, none⟩ = some (.int .u64 (a : Int)) ∧ w'.cell? ⟨k0, 1, none⟩ = some (.int .u64 (b : Int)) ∧ w'.cell? ⟨k0, 2, none⟩ = some (.int .u64 (c : Int)) ∧ w'.cell? ⟨k0, 3, none⟩ = some (.int .u64 (d : Int)) ∧ (convert 23 9 (.slice (some ⟨g, 0, none⟩) 32 32)).run Try.prog w' = .ok (.string ⟨T⟩) w' ∧ Kept w k0 [⟨k0, 0, a, b, c, d⟩] w') (first | (with_reducible exact toldS_of KP hH hTs) | (with_reducible exact toldS_of KP.drew (Holds.drew hH) hTs) | fail) (first | (go_at_call 61; refine (rBytes_any _ _ _ HX.out).mono ?_; rintro e w1 ⟨v, rfl, hb1, a', b', c', d', he, rfl⟩; obtain ⟨rfl, rfl, rfl, rfl⟩ := ag_inj he; rw [HT.out]; have KP1 := KP.drew.call hb1; have hH1 := Holds.below (Holds.drew hH) hb1 (Holds.lt hH (by omega)); clear KP hb1 he hH; have KP := KP1; have hH := hH1; clear KP1 hH1))
  go_wp2
  go_ret
  exact ⟨_, rfl, H0.out ▸ KP.bl, by simp⟩
end Go.Proofs.Ytdeidgbknlmhjab
