import Derived.Deep.RegionHeld3
import Derived.Deep.CutRange
import Derived.Deep.DeepCutAuto
import Derived.Laws.MakeOwn
import Derived.ChangeKeysEq
import Derived.Deep.AppendSrc
import Derived.Lib.AppendZeros
import Derived.LoopN
import Derived.Deep.RegionWith
import Derived.Deep.LoopGhost
import Derived.Test.YtmepmoalhgehhaaGreatDoorks8
set_option linter.unusedVariables false
set_option linter.unusedSimpArgs false
namespace Go.Proofs.YtmepmoalhgehhaaGreatDoor
open Go.RowKit Go.Sort Go.Deep
theorem readS_of {w W : World} {k0 k1 k6 a b c d g0 g1 g2 : Nat} (h : Kept w k0 [⟨k6, 0, a, b, c, d⟩, ⟨k0, 0, g0, g1, g2, 0⟩, ⟨k1, 0, 0, 0, 0, 0⟩] W) : W.cell? ⟨k6, 0, none⟩ = some (.int .u64 (a : Int)) ∧ W.cell? ⟨k6, 1, none⟩ = some (.int .u64 (b : Int)) ∧ W.cell? ⟨k6, 2, none⟩ = some (.int .u64 (c : Int)) ∧ W.cell? ⟨k6, 3, none⟩ = some (.int .u64 (d : Int)) ∧ W.cell? ⟨k0, 0, none⟩ = some (.int .u64 (g0 : Int)) ∧ W.cell? ⟨k0, 1, none⟩ = some (.int .u64 (g1 : Int)) ∧ W.cell? ⟨k0, 2, none⟩ = some (.int .u64 (g2 : Int)) ∧ W.cell? ⟨k0, 3, none⟩ = some (.int .u64 0) ∧ Kept w k0 [⟨k6, 0, a, b, c, d⟩, ⟨k0, 0, g0, g1, g2, 0⟩, ⟨k1, 0, 0, 0, 0, 0⟩] W := ⟨h.head.c0, h.head.c1, h.head.c2, h.head.c3, h.tail.head.c0, h.tail.head.c1, h.tail.head.c2, h.tail.head.c3, h⟩
theorem readS_get {w W : World} {k0 k1 k6 a b c d g0 g1 g2 : Nat} (h : W.cell? ⟨k6, 0, none⟩ = some (.int .u64 (a : Int)) ∧ W.cell? ⟨k6, 1, none⟩ = some (.int .u64 (b : Int)) ∧ W.cell? ⟨k6, 2, none⟩ = some (.int .u64 (c : Int)) ∧ W.cell? ⟨k6, 3, none⟩ = some (.int .u64 (d : Int)) ∧ W.cell? ⟨k0, 0, none⟩ = some (.int .u64 (g0 : Int)) ∧ W.cell? ⟨k0, 1, none⟩ = some (.int .u64 (g1 : Int)) ∧ W.cell? ⟨k0, 2, none⟩ = some (.int .u64 (g2 : Int)) ∧ W.cell? ⟨k0, 3, none⟩ = some (.int .u64 0) ∧ Kept w k0 [⟨k6, 0, a, b, c, d⟩, ⟨k0, 0, g0, g1, g2, 0⟩, ⟨k1, 0, 0, 0, 0, 0⟩] W) : Kept w k0 [⟨k6, 0, a, b, c, d⟩, ⟨k0, 0, g0, g1, g2, 0⟩, ⟨k1, 0, 0, 0, 0, 0⟩] W := h.2.2.2.2.2.2.2.2
theorem readS_alloc {w W : World} {k0 k1 k6 a b c d g0 g1 g2 : Nat} {o : Obj} (h : W.cell? ⟨k6, 0, none⟩ = some (.int .u64 (a : Int)) ∧ W.cell? ⟨k6, 1, none⟩ = some (.int .u64 (b : Int)) ∧ W.cell? ⟨k6, 2, none⟩ = some (.int .u64 (c : Int)) ∧ W.cell? ⟨k6, 3, none⟩ = some (.int .u64 (d : Int)) ∧ W.cell? ⟨k0, 0, none⟩ = some (.int .u64 (g0 : Int)) ∧ W.cell? ⟨k0, 1, none⟩ = some (.int .u64 (g1 : Int)) ∧ W.cell? ⟨k0, 2, none⟩ = some (.int .u64 (g2 : Int)) ∧ W.cell? ⟨k0, 3, none⟩ = some (.int .u64 0) ∧ Kept w k0 [⟨k6, 0, a, b, c, d⟩, ⟨k0, 0, g0, g1, g2, 0⟩, ⟨k1, 0, 0, 0, 0, 0⟩] W) : (W.alloc o).cell? ⟨k6, 0, none⟩ = some (.int .u64 (a : Int)) ∧ (W.alloc o).cell? ⟨k6, 1, none⟩ = some (.int .u64 (b : Int)) ∧ (W.alloc o).cell? ⟨k6, 2, none⟩ = some (.int .u64 (c : Int)) ∧ (W.alloc o).cell? ⟨k6, 3, none⟩ = some (.int .u64 (d : Int)) ∧ (W.alloc o).cell? ⟨k0, 0, none⟩ = some (.int .u64 (g0 : Int)) ∧ (W.alloc o).cell? ⟨k0, 1, none⟩ = some (.int .u64 (g1 : Int)) ∧ (W.alloc o).cell? ⟨k0, 2, none⟩ = some (.int .u64 (g2 : Int)) ∧ (W.alloc o).cell? ⟨k0, 3, none⟩ = some (.int .u64 0) ∧ Kept w k0 [⟨k6, 0, a, b, c, d⟩, ⟨k0, 0, g0, g1, g2, 0⟩, ⟨k1, 0, 0, 0, 0, 0⟩] (W.alloc o) := readS_of ((readS_get h).alloc o)
theorem readS_allocd {w W : World} {k0 k1 k6 a b c d g0 g1 g2 : Nat} {o : Obj} (h : W.drew.cell? ⟨k6, 0, none⟩ = some (.int .u64 (a : Int)) ∧ W.drew.cell? ⟨k6, 1, none⟩ = some (.int .u64 (b : Int)) ∧ W.drew.cell? ⟨k6, 2, none⟩ = some (.int .u64 (c : Int)) ∧ W.drew.cell? ⟨k6, 3, none⟩ = some (.int .u64 (d : Int)) ∧ W.drew.cell? ⟨k0, 0, none⟩ = some (.int .u64 (g0 : Int)) ∧ W.drew.cell? ⟨k0, 1, none⟩ = some (.int .u64 (g1 : Int)) ∧ W.drew.cell? ⟨k0, 2, none⟩ = some (.int .u64 (g2 : Int)) ∧ W.drew.cell? ⟨k0, 3, none⟩ = some (.int .u64 0) ∧ Kept w k0 [⟨k6, 0, a, b, c, d⟩, ⟨k0, 0, g0, g1, g2, 0⟩, ⟨k1, 0, 0, 0, 0, 0⟩] W.drew) : (W.alloc o).drew.cell? ⟨k6, 0, none⟩ = some (.int .u64 (a : Int)) ∧ (W.alloc o).drew.cell? ⟨k6, 1, none⟩ = some (.int .u64 (b : Int)) ∧ (W.alloc o).drew.cell? ⟨k6, 2, none⟩ = some (.int .u64 (c : Int)) ∧ (W.alloc o).drew.cell? ⟨k6, 3, none⟩ = some (.int .u64 (d : Int)) ∧ (W.alloc o).drew.cell? ⟨k0, 0, none⟩ = some (.int .u64 (g0 : Int)) ∧ (W.alloc o).drew.cell? ⟨k0, 1, none⟩ = some (.int .u64 (g1 : Int)) ∧ (W.alloc o).drew.cell? ⟨k0, 2, none⟩ = some (.int .u64 (g2 : Int)) ∧ (W.alloc o).drew.cell? ⟨k0, 3, none⟩ = some (.int .u64 0) ∧ Kept w k0 [⟨k6, 0, a, b, c, d⟩, ⟨k0, 0, g0, g1, g2, 0⟩, ⟨k1, 0, 0, 0, 0, 0⟩] (W.alloc o).drew := readS_of (((readS_get h).undrew).alloc o).drew
set_option maxHeartbeats 1000000 in
theorem Read_len (pv : Value) (p : Option Addr) (n cap : Nat) (w : World) (g0 g1 g2 : Nat) (hp : pv = .agg #[.int .u64 (g0 : Int), .int .u64 (g1 : Int), .int .u64 (g2 : Int), .int .u64 0]) (hn : n ≠ 32) :
    Calls Tryz.prog 89 #[pv, .slice p n cap] w (Ret fun e w' => Below w.heap.size w w' ∧ e = .tuple #[.agg #[.int .u64 0, .int .u64 0, .int .u64 0, .int .u64 0], .bool false]) := by
  subst hp
  have h1 : ¬ (n : Int) = 32 := by omega
  go_enter Tryz.func89, Tryz.ntmps89
  go_wp2
  refine bodyPost_ret (v := ?v) ?hr rfl ?hR
  case hr => simp [results, Tryz.results89, go_sem]; rfl
  exact ⟨_, rfl, below2 _ _ _, rfl⟩
set_option maxHeartbeats 4000000 in
set_option maxRecDepth 100000 in
theorem Read_any (g0 g1 g2 P g o cap : Nat) (bs : Bs) (hG : Gap g0 g1 g2 P) (w : World) (hs : bs.size = 32) (hc : 32 ≤ cap) (hg : g < w.heap.size) (hB : Holds encB w g o bs) :
    Calls Tryz.prog 89 #[.agg #[.int .u64 (g0 : Int), .int .u64 (g1 : Int), .int .u64 (g2 : Int), .int .u64 0], .slice (some ⟨g, o, none⟩) 32 cap] w
      (Ret fun e w' => Below w.heap.size w w' ∧ ((beV bs.toList < P ∧ ∃ v, e = .tuple #[v, .bool true] ∧ Four v (beV bs.toList)) ∨ (P ≤ beV bs.toList ∧ e = .tuple #[.agg #[.int .u64 0, .int .u64 0, .int .u64 0, .int .u64 0], .bool false]))) := by
  have HG : Hid (Gap g0 g1 g2 P) := hG
  have HBS : Hid (Holds encB w g o bs) := hB
  have HS : Hid (bs.size = 32) := hs
  clear hG hB hs
  go_enter Tryz.func89, Tryz.ntmps89
  go_wp2_with fail
  have PR := (At4.made w 138 g0 g1 g2 0 rfl).alloc (.cells #[.int .u64 0, .int .u64 0, .int .u64 0, .int .u64 0] 45)
  have RE := At4.made (w.alloc (.cells #[.int .u64 (g0 : Int), .int .u64 (g1 : Int), .int .u64 (g2 : Int), .int .u64 0] 138)) 45 0 0 0 0 (World.size_alloc _ _)
  have KP0 := ((Kept.mk1 (below2 w (.cells #[.int .u64 (g0 : Int), .int .u64 (g1 : Int), .int .u64 (g2 : Int), .int .u64 0] 138) (.cells #[.int .u64 0, .int .u64 0, .int .u64 0, .int .u64 0] 45)) (below2 w (.cells #[.int .u64 (g0 : Int), .int .u64 (g1 : Int), .int .u64 (g2 : Int), .int .u64 0] 138) (.cells #[.int .u64 0, .int .u64 0, .int .u64 0, .int .u64 0] 45)).size).cons RE.blk).cons PR.blk
  have HB0 := Holds.below HBS.out (below2 w (.cells #[.int .u64 (g0 : Int), .int .u64 (g1 : Int), .int .u64 (g2 : Int), .int .u64 0] 138) (.cells #[.int .u64 0, .int .u64 0, .int .u64 0, .int .u64 0] 45)) hg
  clear PR RE
  generalize World.alloc _ _ = W0 at KP0 HB0 ⊢
  refine (fromBytes_any (some ⟨g, o, none⟩) g o 32 cap bs _ (Nat.le_refl 32) hc HS.out (Or.inr ⟨rfl, HB0⟩)).mono ?_
  rintro e w1 ⟨v, rfl, hb1, hF⟩
  obtain ⟨a, b, c, d, rfl, ha, hb, hc', hd, es⟩ := id hF
  have HF : Hid (Four _ _) := hF
  have K1 := KP0.call hb1
  clear es hF hb1 KP0 HB0
  go_wp2_with fail
  have KP := (K1.alloc (.cells #[.int .u64 (a : Int), .int .u64 (b : Int), .int .u64 (c : Int), .int .u64 (d : Int)] 45)).cons (At4.made w1 45 a b c d rfl).blk
  have q60 : w1.heap.size ≠ w.heap.size := Nat.ne_of_gt K1.head.lt
  clear K1
  generalize World.alloc _ _ = W1 at KP ⊢
  generalize w1.heap.size = k6 at KP q60 ⊢
  generalize h1 : w.heap.size + 1 = k1 at KP ⊢
  have Q1 : Hid (w.heap.size ≤ k1) := by unfold Hid; omega
  generalize h0 : w.heap.size = k0 at KP Q1 hg q60 ⊢
  have H0 : Hid (w.heap.size = k0) := h0
  clear h0 h1
  go_cut [8] (fun s8 wx => ∃ k : Nat, s8 = .int .u64 (k : Int) ∧ k ≤ 1 ∧ Hid (∃ t, t < top ∧ t + top * k = beV bs.toList + val g0 g1 g2 0) ∧ Kept w k0 [⟨k6, 0, a, b, c, d⟩, ⟨k0, 0, g0, g1, g2, 0⟩, ⟨k1, 0, 0, 0, 0, 0⟩] wx)
  case first =>
    go_region_held3 (fun w' => w'.cell? ⟨k6, 0, none⟩ = some (.int .u64 (a : Int)) ∧ w'.cell? ⟨k6, 1, none⟩ = some (.int .u64 (b : Int)) ∧ w'.cell? ⟨k6, 2, none⟩ = some (.int .u64 (c : Int)) ∧ w'.cell? ⟨k6, 3, none⟩ = some (.int .u64 (d : Int)) ∧ w'.cell? ⟨k0, 0, none⟩ = some (.int .u64 (g0 : Int)) ∧ w'.cell? ⟨k0, 1, none⟩ = some (.int .u64 (g1 : Int)) ∧ w'.cell? ⟨k0, 2, none⟩ = some (.int .u64 (g2 : Int)) ∧ w'.cell? ⟨k0, 3, none⟩ = some (.int .u64 0) ∧ Kept w k0 [⟨k6, 0, a, b, c, d⟩, ⟨k0, 0, g0, g1, g2, 0⟩, ⟨k1, 0, 0, 0, 0, 0⟩] w') (first | (with_reducible exact readS_of KP) | (with_reducible exact readS_of KP.drew) | (with_reducible exact readS_allocd (by assumption)) | (with_reducible exact readS_alloc (by assumption)) | (with_reducible exact readS_of (KP.alloc _)) | (with_reducible exact readS_of (KP.set4' M7 (fun x hx => Nat.ne_of_gt (N7 x hx)) _ _ _ _)) | (with_reducible exact readS_of (KP.alloc _).drew) | (with_reducible exact readS_of (KP.set4' M7 (fun x hx => Nat.ne_of_gt (N7 x hx)) _ _ _ _).drew) | fail) (first | (go_at_call 109; refine (four_any _ _ HF.out _).mono ?_; rintro e w2 ⟨v, rfl, hb1, rfl⟩; (try (with_reducible have T1 := T.call hb1; clear T; have T := T1; clear T1)); (try (first | (with_reducible have T := (At4.made _ 136 0 0 0 0 rfl).call hb1) | (with_reducible have T := (At4.made _ 136 0 0 0 0 rfl).drew.call hb1)); have N7 := KP.lts; have M7 := KP.le); have KP1 := Kept.call (readS_get (by assumption)) hb1; clear KP; have KP := KP1; clear KP1 hb1) | (go_at_call 112; refine (plus_any _ _ _ _ HF.out (Four.mk HG.out.h0 HG.out.h1 HG.out.h2 (by decide) rfl) _).mono ?_; rintro e w2 ⟨v, rfl, hb1, v2, t, k, rfl, hF2, hk, he⟩; obtain ⟨a', b', c', d', rfl, ha', hb', hc', hd', es⟩ := id hF2; have HT : Hid (t < top ∧ t + top * k = beV bs.toList + val g0 g1 g2 0) := ⟨hF2.lt, he⟩; clear es he hF2; (try (with_reducible have T1 := T.call hb1; clear T; have T := T1; clear T1)); (try (first | (with_reducible have T := (At4.made _ 136 0 0 0 0 rfl).call hb1) | (with_reducible have T := (At4.made _ 136 0 0 0 0 rfl).drew.call hb1)); have N7 := KP.lts; have M7 := KP.le); have KP1 := Kept.call (readS_get (by assumption)) hb1; clear KP; have KP := KP1; clear KP1 hb1; (try (obtain ⟨tc0, tc1, tc2, tc3, tf⟩ := id T; have zt := T.lt))))
    all_goals (try go_wp2)
    all_goals (have HX : Hid (∃ t, t < top ∧ t + top * k = beV bs.toList + val g0 g1 g2 0) := ⟨t, HT.out⟩)
    all_goals (go_meet; first | (with_reducible exact ⟨k, rfl, hk, HX, KP.alloc _⟩) | (with_reducible exact ⟨k, rfl, hk, HX, (KP.alloc _).drew⟩) | (with_reducible exact ⟨k, rfl, hk, HX, KP.set4' M7 (fun x hx => Nat.ne_of_gt (N7 x hx)) _ _ _ _⟩) | (with_reducible exact ⟨k, rfl, hk, HX, (KP.set4' M7 (fun x hx => Nat.ne_of_gt (N7 x hx)) _ _ _ _).drew⟩) | fail)
  case rest =>
    clear KP
    obtain ⟨k, rfl, hk, HE, KP⟩ := hcut
    have hk' : k = 0 ∨ k = 1 := by omega
    rcases hk' with rfl | rfl
    · obtain ⟨xc0, xc1, xc2, xc3, xf⟩ := KP.head.at4
      obtain ⟨rc0, rc1, rc2, rc3, rf⟩ := KP.tail.tail.head.at4
      have z1 := KP.tail.tail.head.lt
      go_wp2
      have RF := KP.tail.tail.head.at4.self4 a b c d
      unfold set4 at RF
      refine bodyPost_ret (v := ?v0) ?hr0 rfl ?hR0
      case hr0 => simp [results, Tryz.results89, go_sem, RF.c0, RF.c1, RF.c2, RF.c3]; rfl
      refine ⟨_, rfl, ?_, Or.inl ⟨?_, _, rfl, HF.out⟩⟩
      · rw [H0.out]; exact below_set4 KP.bl Q1.out _ _ _ _
      · obtain ⟨t, h1, h2⟩ := HE.out
        have := HG.out.hP
        omega
    · obtain ⟨rc0, rc1, rc2, rc3, rf⟩ := KP.tail.tail.head.at4
      have z1 := KP.tail.tail.head.lt
      go_wp2
      have RF : At4 (set4 wc k1 (.int .u64 0) (.int .u64 0) (.int .u64 0) (.int .u64 0)) k1 0 0 0 0 := KP.tail.tail.head.at4.self4 0 0 0 0
      unfold set4 at RF
      refine bodyPost_ret (v := ?v1) ?hr1 rfl ?hR1
      case hr1 => simp [results, Tryz.results89, go_sem, RF.c0, RF.c1, RF.c2, RF.c3]; rfl
      refine ⟨_, rfl, ?_, Or.inr ⟨?_, rfl⟩⟩
      · rw [H0.out]; exact below_set4 KP.bl Q1.out _ _ _ _
      · obtain ⟨t, h1, h2⟩ := HE.out
        have := HG.out.hP
        omega
end Go.Proofs.YtmepmoalhgehhaaGreatDoor
namespace Go.Proofs.YtmepmoalhgehhaaGreatDoor
open Go.RowKit Go.Sort Go.Deep
/-- Numbers of four words, one behind the other, in a block: the first i of n are f. -/
def Nums (W : World) (k n i : Nat) (f : Nat → Nat) : Prop := ∀ j, j < n → ∃ a b c d : Nat, (Blk.mk k (j * 4) a b c d).at W ∧ (j < i → Four (.agg #[.int .u64 (a : Int), .int .u64 (b : Int), .int .u64 (c : Int), .int .u64 (d : Int)]) (f j))
theorem Nums.call {W w1 : World} {k n i : Nat} {f : Nat → Nat} (h : Nums W k n i f) (hb : Below W.heap.size W w1) : Nums w1 k n i f := fun j hj => by
  obtain ⟨a, b, c, d, h1, h2⟩ := h j hj
  exact ⟨a, b, c, d, h1.call hb, h2⟩
theorem Nums.drew {W : World} {k n i : Nat} {f : Nat → Nat} (h : Nums W k n i f) : Nums W.drew k n i f := fun j hj => by
  obtain ⟨a, b, c, d, h1, h2⟩ := h j hj
  exact ⟨a, b, c, d, ⟨h1.c0, h1.c1, h1.c2, h1.c3, h1.f⟩, h2⟩
theorem Nums.put {W : World} {k n i x y z t : Nat} {f : Nat → Nat} (h : Nums W k n i f) (hi : i < n) (hF : Four (.agg #[.int .u64 (x : Int), .int .u64 (y : Int), .int .u64 (z : Int), .int .u64 (t : Int)]) (f i)) :
    Nums ((((W.setCell ⟨k, i * 4, none⟩ (.int .u64 (x : Int))).setCell ⟨k, i * 4 + 1, none⟩ (.int .u64 (y : Int))).setCell ⟨k, i * 4 + 2, none⟩ (.int .u64 (z : Int))).setCell ⟨k, i * 4 + 3, none⟩ (.int .u64 (t : Int))) k n (i + 1) f := fun j hj => by
  obtain ⟨a, b, c, d, h1, h2⟩ := h j hj
  by_cases hji : j = i
  · subst hji
    exact ⟨x, y, z, t, h1.put x y z t, fun _ => hF⟩
  · refine ⟨a, b, c, d, ?_, fun h3 => h2 (by omega)⟩
    exact (((h1.off (by simp only; omega) _).off (by simp only; omega) _).off (by simp only; omega) _).off (by simp only; omega) _
theorem made_at (N j : Nat) (hj : j < N) : (madeCells #[.int .u64 0, .int .u64 0, .int .u64 0, .int .u64 0] N)[j]? = some (.int .u64 0) := by
  unfold madeCells
  rw [Array.getElem?_map, Array.getElem?_range]
  have h : j % 4 = 0 ∨ j % 4 = 1 ∨ j % 4 = 2 ∨ j % 4 = 3 := by omega
  simp only [hj, if_true, Option.map_some, List.size_toArray, List.length_cons, List.length_nil, Nat.zero_add]
  rcases h with h | h | h | h <;> rw [h] <;> rfl
theorem Nums.new (w : World) (t : TypeId) (n : Nat) (f : Nat → Nat) : Nums (w.alloc (.cells (madeCells #[.int .u64 0, .int .u64 0, .int .u64 0, .int .u64 0] (n * 4)) t)) w.heap.size n 0 f := fun j hj =>
  ⟨0, 0, 0, 0, ⟨by rw [World.cell?_alloc_new]; exact made_at _ _ (by simp only; omega), by rw [World.cell?_alloc_new]; exact made_at _ _ (by simp only; omega), by rw [World.cell?_alloc_new]; exact made_at _ _ (by simp only; omega), by rw [World.cell?_alloc_new]; exact made_at _ _ (by simp only; omega), fun o => World.frozen?_alloc_new _ _ _ _⟩, fun h => by omega⟩
theorem infoN : (Tryz.prog.info? 45).map (fun i => (i.zero, i.size, i.bytes)) = some (some (.agg #[.int .u64 0, .int .u64 0, .int .u64 0, .int .u64 0]), 4, 32) := by kernel_rfl
theorem sliceN : Tryz.prog.underlying 114 = some (.slice 45) := by kernel_rfl
theorem mkNums (n : Nat) (hn : n ≤ 1048576) (w : World) : (Instr.makeSlice 114 (.int .i64 (n : Int)) (.int .i64 (n : Int))).run Tryz.prog w = .ok (.slice (some ⟨w.heap.size, 0, none⟩) n n) (w.alloc (.cells (madeCells #[.int .u64 0, .int .u64 0, .int .u64 0, .int .u64 0] (n * 4)) 45)) := by
  obtain ⟨i, hi, hzz⟩ := Option.map_eq_some_iff.1 infoN
  simp only [Prod.mk.injEq] at hzz
  obtain ⟨hz, hs, hb⟩ := hzz
  have h := run_make (P := Tryz.prog) w 114 45 i _ sliceN hi hz .i64 .i64 (n : Int) (n : Int) (by omega) (Int.le_refl _) (by rw [hb]; omega) (by omega)
  rw [hs] at h
  exact h
/-- Bytes as an argument: where there are 32, they lie there. -/
def Arg (w : World) (v : Value) (bs : Bs) : Prop := ∃ (p : Option Addr) (n cap : Nat), v = .slice p n cap ∧ bs.size = n ∧ (n = 32 → ∃ g o, p = some ⟨g, o, none⟩ ∧ 32 ≤ cap ∧ g < w.heap.size ∧ Holds encB w g o bs)
theorem Arg.below {w w1 : World} {v : Value} {bs : Bs} (h : Arg w v bs) (hb : Below w.heap.size w w1) : Arg w1 v bs := by
  obtain ⟨p, n, cap, rfl, hs, h1⟩ := h
  refine ⟨p, n, cap, rfl, hs, fun h2 => ?_⟩
  obtain ⟨g, o, h3, h4, h6, h7⟩ := h1 h2
  exact ⟨g, o, h3, h4, Nat.lt_of_lt_of_le h6 hb.size, Holds.below h7 hb h6⟩
/-- Bytes are a number of the prime. -/
def IsNum (P : Nat) (bs : Bs) : Prop := bs.size = 32 ∧ beV bs.toList < P
theorem Read_arg (g0 g1 g2 P : Nat) (v : Value) (bs : Bs) (hG : Gap g0 g1 g2 P) (w : World) (hv : Arg w v bs) :
    Calls Tryz.prog 89 #[.agg #[.int .u64 (g0 : Int), .int .u64 (g1 : Int), .int .u64 (g2 : Int), .int .u64 0], v] w
      (Ret fun e w' => Below w.heap.size w w' ∧ ∃ (a b c d : Nat) (ok : Bool), e = .tuple #[.agg #[.int .u64 (a : Int), .int .u64 (b : Int), .int .u64 (c : Int), .int .u64 (d : Int)], .bool ok] ∧ (ok = true → IsNum P bs ∧ Four (.agg #[.int .u64 (a : Int), .int .u64 (b : Int), .int .u64 (c : Int), .int .u64 (d : Int)]) (beV bs.toList)) ∧ (ok = false → ¬ IsNum P bs)) := by
  obtain ⟨p, n, cap, rfl, hs, h1⟩ := hv
  by_cases hn : n = 32
  · subst hn
    obtain ⟨g, o, rfl, h4, h6, h7⟩ := h1 rfl
    refine (Read_any g0 g1 g2 P g o cap bs hG w hs h4 h6 h7).mono ?_
    rintro e w' ⟨v, rfl, hb, ⟨hl, v', rfl, a, b, c, d, rfl, h8⟩ | ⟨hl, rfl⟩⟩
    · exact ⟨_, rfl, hb, a, b, c, d, true, rfl, fun _ => ⟨⟨hs, hl⟩, ⟨a, b, c, d, rfl, h8⟩⟩, fun h => Bool.noConfusion h⟩
    · exact ⟨_, rfl, hb, 0, 0, 0, 0, false, rfl, fun h => Bool.noConfusion h, fun _ h => Nat.not_le_of_lt h.2 hl⟩
  · refine (Read_len _ p n cap w g0 g1 g2 rfl hn).mono ?_
    rintro e w' ⟨v, rfl, hb, rfl⟩
    exact ⟨_, rfl, hb, 0, 0, 0, 0, false, rfl, fun h => Bool.noConfusion h, fun _ h => hn (hs.symm.trans h.1)⟩
/-- A list of arguments in a block. -/
def Args (w : World) (q : Option Addr) (n : Nat) (L : Nat → Bs) : Prop := 0 < n → ∃ gg, q = some ⟨gg, 0, none⟩ ∧ gg < w.heap.size ∧ ∀ j, j < n → ∃ v, w.cell? ⟨gg, j, none⟩ = some v ∧ Arg w v (L j)
/-- What numbers answers. -/
def NumsR (w : World) (P n : Nat) (L : Nat → Bs) (e : Value) (w' : World) : Prop :=
  ((∀ j, j < n → IsNum P (L j)) ∧ ∃ k, w.heap.size ≤ k ∧ e = .tuple #[.slice (some ⟨k, 0, none⟩) n n, .int .i64 0] ∧ Nums w' k n n (fun j => beV (L j).toList)) ∨
  ((∃ j, j < n ∧ ¬ IsNum P (L j)) ∧ e = .tuple #[.slice none 0 0, .int .i64 3])
end Go.Proofs.YtmepmoalhgehhaaGreatDoor
namespace Go.Proofs.YtmepmoalhgehhaaGreatDoor
open Go.RowKit Go.Sort
theorem u131 : (Tryz.prog.underlying 51).map (·.isRow) = some true := by kernel_rfl
theorem i131 : (Tryz.prog.info? 51).map (·.size) = some 33 := by kernel_rfl
theorem u5 : (Tryz.prog.underlying 5).map (·.isRow) = some false := by kernel_rfl
theorem und131 : Tryz.prog.underlying 51 = some (.array 33 5) := by kernel_rfl
theorem und5 : Tryz.prog.underlying 5 = some (.int .u8) := by kernel_rfl
theorem cells5 : Tryz.prog.cellsOf 5 = 1 := by kernel_rfl
theorem sl33 (g o cap : Nat) (hc : 33 ≤ cap) (w : World) : (Instr.sliceAt 24 (.slice (some ⟨g, o, none⟩) 33 cap) (some (.int .i64 1)) none none).run Tryz.prog w = .ok (.slice (some ⟨g, o + 1, none⟩) 32 (cap - 1)) w := by
  go_simp
  omega
theorem arr33 (g o cap : Nat) (w : World) : (Instr.arrayAt 51 (.slice (some ⟨g, o, none⟩) 33 cap)).run Tryz.prog w = .ok (.pointer (some ⟨g, o, none⟩)) w := by kernel_rfl
theorem at23 (g o n cap : Nat) (hn : 0 < n) (w : World) : (Instr.indexAt 24 (.slice (some ⟨g, o, none⟩) n cap) (.int .i64 0)).run Tryz.prog w = .ok (.pointer (some ⟨g, o, none⟩)) w := by
  have h : (0 : Int) < (n : Int) := by omega
  go_simp
theorem part5 (xs : Array Value) (i : Nat) (v : Value) (h : xs[i]? = some v) (w : World) : (part 5 xs i).run Tryz.prog w = .ok v w := by
  go_simp
theorem eqI (xs ys : Array Value) (a b : Nat → Int) (D : Nat) (w : World) : ∀ (is : List Nat), (∀ i ∈ is, xs[i]? = some (.int .u8 (a i))) → (∀ i ∈ is, ys[i]? = some (.int .u8 (b i))) →
    (Op.eqItems (D + 1) 5 1 xs ys is).run Tryz.prog w = .ok (decide (∀ i ∈ is, a i = b i)) w
  | [], _, _ => by
    rw [Op.eqItems]
    simp
  | i :: is, hx, hy => by
    have ih := eqI xs ys a b D w is (fun j hj => hx j (List.mem_cons_of_mem _ hj)) (fun j hj => hy j (List.mem_cons_of_mem _ hj))
    have p1 := part5 xs (i * 1) _ (by rw [Nat.mul_one]; exact hx i List.mem_cons_self) w
    have p2 := part5 ys (i * 1) _ (by rw [Nat.mul_one]; exact hy i List.mem_cons_self) w
    have p3 := run_equalIn_int (P := Tryz.prog) w D 5 .u8 .u8 (a i) (b i) und5
    rw [Op.eqItems]
    simp only [Sem.run_bind, p1, p2, p3, Result.andThen_ok]
    by_cases h : a i = b i
    · simp only [h, beq_self_eq_true, Bool.not_true, Bool.false_eq_true, if_false, ih, List.forall_mem_cons, true_and]
    · have h2 : (a i == b i) = false := by simpa using h
      simp only [h2, Bool.not_false, if_true, Sem.run_pure, List.forall_mem_cons, h, false_and, decide_false]
/-- 33 bytes as cells. -/
def bl33 (bs : Bs) : List Value := bs.toList.map encB
def z33 : List Value := List.replicate 33 (.int .u8 0)
theorem bl33_at (bs : Bs) (i : Nat) (h : i < bs.size) : (bl33 bs)[i]? = some (.int .u8 (ub bs[i]!)) := by
  unfold bl33
  rw [List.getElem?_map, Array.getElem?_toList, Array.getElem?_eq_getElem h, getElem!_pos bs i h]
  rfl
theorem eqz (bs : Bs) (h : bs.size = 33) (w : World) : (binOp .eql 51 (.agg (bl33 bs).toArray) (.agg z33.toArray)).run Tryz.prog w = .ok (.bool (decide (∀ i ∈ List.range 33, ub bs[i]! = 0))) w := by
  have hi : (Tryz.prog.info? 5).isSome = true := by kernel_rfl
  obtain ⟨inf, hinf⟩ := Option.isSome_iff_exists.1 hi
  rw [run_eql_struct, run_equalIn_array w 9999 _ _ und131 hinf, cells5,
    eqI _ _ (fun i => ub bs[i]!) (fun _ => 0) 9998 w (List.range 33) (fun i hi => by
      rw [List.getElem?_toArray]
      exact bl33_at bs i (by rw [h]; exact List.mem_range.1 hi)) (fun i hi => by
      rw [List.getElem?_toArray]
      unfold z33
      rw [List.getElem?_replicate, if_pos (List.mem_range.1 hi)])]
  rfl
@[reducible] def Zero33 (bs : Bs) : Prop := ∀ i ∈ List.range 33, ub bs[i]! = 0
theorem eqz_t {bs : Bs} (h : bs.size = 33) (hz : Zero33 bs) (w : World) : (binOp .eql 51 (.agg (bl33 bs).toArray) (.agg z33.toArray)).run Tryz.prog w = .ok (.bool true) w := by rw [eqz bs h, decide_eq_true (show ∀ i ∈ List.range 33, ub bs[i]! = 0 from hz)]
theorem eqz_f {bs : Bs} (h : bs.size = 33) (hz : ¬ Zero33 bs) (w : World) : (binOp .eql 51 (.agg (bl33 bs).toArray) (.agg z33.toArray)).run Tryz.prog w = .ok (.bool false) w := by rw [eqz bs h, decide_eq_false (show ¬ ∀ i ∈ List.range 33, ub bs[i]! = 0 from hz)]
theorem bl33_length {bs : Bs} (h : bs.size = 33) : (bl33 bs).length = 33 := by unfold bl33; rw [List.length_map, Array.length_toList, h]
theorem bl33_range {bs : Bs} {w : World} {g o : Nat} (hB : Holds encB w g o bs) : w.rangeAt g o (bl33 bs) := fun j v hv => by
  have hj : j < bs.size := by
    have := (List.getElem?_eq_some_iff.1 hv).1
    unfold bl33 at this
    rwa [List.length_map, Array.length_toList] at this
  rw [bl33_at bs j hj] at hv
  rw [(hB j hj).1]
  exact hv
/-- All but the first. -/
def tl33 (bs : Bs) : Bs := bs.extract 1 33
theorem tl33_size {bs : Bs} (h : bs.size = 33) : (tl33 bs).size = 32 := by unfold tl33; rw [Array.size_extract, h]; rfl
theorem tl33_holds {bs : Bs} {w : World} {g o : Nat} (h : bs.size = 33) (hB : Holds encB w g o bs) : Holds encB w g (o + 1) (tl33 bs) :=
  Holds.part hB (by rw [tl33_size h, h]; decide) (fun j hj => by
    rw [tl33_size h] at hj
    unfold tl33
    rw [getElem!_pos _ j (by rw [Array.size_extract, h]; omega), getElem!_pos _ (1 + j) (by rw [h]; omega), Array.getElem_extract])
variable {P : Nat} [NeZero P]
theorem Read_y (C : Fld P) {g o cap : Nat} {bs : Bs} (hs : bs.size = 32) (hc : 32 ≤ cap) {x : Fin P} (hx : beV bs.toList = x.val) {w : World} (hg : g < w.heap.size) (hB : Holds encB w g o bs) :
    Calls Tryz.prog 89 #[gv0, .slice (some ⟨g, o, none⟩) 32 cap] w (Ret fun e w' => Below w.heap.size w w' ∧ e = .tuple #[fv x, .bool true]) :=
  (Read_any 4294968273 0 0 P g o cap bs C.gap w hs hc hg hB).mono (by
    rintro e w' ⟨v, rfl, hb, ⟨hl, v', rfl, h8⟩ | ⟨hl, rfl⟩⟩
    · refine ⟨_, rfl, hb, ?_⟩
      rw [hx] at h8
      rw [h8.nv]
    · have := x.isLt
      omega)
theorem Read_n (C : Fld P) {g o cap : Nat} {bs : Bs} (hs : bs.size = 32) (hc : 32 ≤ cap) (hx : ¬ beV bs.toList < P) {w : World} (hg : g < w.heap.size) (hB : Holds encB w g o bs) :
    Calls Tryz.prog 89 #[gv0, .slice (some ⟨g, o, none⟩) 32 cap] w (Ret fun e w' => Below w.heap.size w w' ∧ e = .tuple #[fv (0 : Fin P), .bool false]) :=
  (Read_any 4294968273 0 0 P g o cap bs C.gap w hs hc hg hB).mono (by
    rintro e w' ⟨v, rfl, hb, ⟨hl, v', rfl, h8⟩ | ⟨hl, rfl⟩⟩
    · exact absurd hl hx
    · refine ⟨_, rfl, hb, ?_⟩
      rw [← zero_fv])
/-- Bytes as a pair. -/
def rdx (P : Nat) [NeZero P] (bs : Bs) : Fin P := Fin.ofNat P (beV (tl33 bs).toList)
def rd (P : Nat) [NeZero P] (bs : Bs) : Option (Fin P × Fin P) :=
  if bs.size = 33 then
    if Zero33 bs then some (0, 0) else
    if ub bs[0]! = 2 ∨ ub bs[0]! = 3 then
      if beV (tl33 bs).toList < P then
        (rt (rdx P bs * rdx P bs * rdx P bs + 7)).map (fun y => (rdx P bs, if ub bs[0]! = 3 then 0 - y else y))
      else none
    else none
  else none
def rdV : Option (Fin P × Fin P) → Value
  | none => .tuple #[pv (0 : Fin P) 0, .bool false]
  | some p => .tuple #[pv p.1 p.2, .bool true]
end Go.Proofs.YtmepmoalhgehhaaGreatDoor
namespace Go.Proofs.YtmepmoalhgehhaaGreatDoor
open Go.RowKit Go.Sort
variable {P : Nat} [NeZero P]
set_option maxHeartbeats 2000000 in
set_option maxRecDepth 100000 in
theorem rp_len (C : Fld P) (q : Option Addr) (n cap : Nat) (x : Fin P) (w : World) (hn : ¬ n = 33) : Calls Tryz.prog 90 #[(.slice q n cap)] w (Ret fun e w' => Below w.heap.size w w' ∧ e = (.tuple #[pv (0 : Fin P) 0, .bool false])) := by
  have hne : ∀ w, (binOp .neq 3 (.int .i64 (n : Int)) (.int .i64 33)).run Tryz.prog w = .ok (.bool true) w := fun w => by
    have h : ¬ (n : Int) = 33 := by omega
    go_simp
  go_enter Tryz.func90, Tryz.ntmps90
  refine RG.var1 (v0 := (.slice q n cap)) (n := 54) (by kernel_rfl) (by kernel_rfl) (by kernel_rfl) ?_
  intro a0 sl0 f0
  have hS0 := RG.St.begin w
  have M0 : RG.M w w.heap.size [] 54 [] [] [(0, (.v (.slice q n cap)))] a0 _ := ⟨hS0, sl0, ⟨f0, trivial⟩⟩
  repeat refine wp_seq ?_
  refine M0.t [.m 2 [] 0, .x 3 [] (.bool false)] [(0, (RG.z 8))] [] [(RG.z 8)] [(0, (.v (.slice q n cap))), (2, (.p 0 0)), (3, (.v (.bool false)))] ⟨RG.mk 0 107, RG.st, trivial⟩ ?_
  intro j1 a1 w1 M1
  repeat refine wp_seq ?_
  refine M1.u [.x 7 [] (.slice q n cap), .x 8 [(7, 0)] (.int .i64 (n : Int)), .x 9 [(8, 1)] (.bool true)] [(2, (.p 0 0)), (3, (.v (.bool false))), (9, (.v (.bool true)))] ⟨RG.st, RG.cert_one rfl 7 (.v (.slice q n cap)) (.int .i64 (n : Int)) rfl RG.sx (fun a w => by kernel_rfl) (fun μ w => by kernel_rfl), RG.cert_binc rfl .neq 3 3 8 (.int .i64 (n : Int)) (.int .i64 33) (.bool true) rfl rfl RG.sx (fun w => by kernel_rfl) (hne), trivial⟩ ?_
  intro a2 w2 M2
  repeat refine wp_seq ?_
  refine wp_cond_true M2.ev ?_
  repeat refine wp_seq ?_
  refine M2.t [.x 10 [] (pv (0 : Fin P) (0 : Fin P)), .u [(10, 0)] 0, .x 3 [] (.bool false)] [] [(0, 1, (ws (0 : Fin P) ++ (ws (0 : Fin P))))] [(ws (0 : Fin P) ++ (ws (0 : Fin P)))] [(2, (.p 0 0)), (3, (.v (.bool false)))] ⟨RG.se (zero_pv (P := P)), RG.pt i109, RG.st, trivial⟩ ?_
  intro a3 w3 M3
  refine wp_ret ?_
  refine bodyPost_ret (v := (.tuple #[(pv (0 : Fin P) (0 : Fin P)), (.bool false)])) (RG.results_rt M3.st 2 3 107 rfl 0 _ rfl (M3.at (s := (.p 0 0))) _ (M3.at (s := (.v (.bool false)))) u109 i109) M3.sl.defers ?_
  exact ⟨_, rfl, M3.st.bel.below, rfl⟩
abbrev v33 (g o cap : Nat) : Value := .slice (some ⟨g, o, none⟩) 33 cap
set_option maxHeartbeats 4000000 in
set_option maxRecDepth 100000 in
theorem rp33 (C : Fld P) (g o cap : Nat) (bs : Bs) (w : World) (hs : bs.size = 33) (hc : 33 ≤ cap) (hg : g < w.heap.size) (hB : Holds encB w g o bs) : Calls Tryz.prog 90 #[v33 g o cap] w (Ret fun e w' => Below w.heap.size w w' ∧ e = rdV (rd P bs)) := by
  have hrg := bl33_range hB
  have hb0 : w.cell? ⟨g, o, none⟩ = some (.int .u8 (ub bs[0]!)) := by
    have := (hB 0 (by rw [hs]; decide)).1
    rw [Nat.add_zero] at this
    exact this
  go_enter Tryz.func90, Tryz.ntmps90
  refine RG.var1 (v0 := (v33 g o cap)) (n := 54) (by kernel_rfl) (by kernel_rfl) (by kernel_rfl) ?_
  intro a0 sl0 f0
  have hS0 := RG.St.begin w
  have M0 : RG.M w w.heap.size [] 54 [] [] [(0, (.v (v33 g o cap)))] a0 _ := ⟨hS0, sl0, ⟨f0, trivial⟩⟩
  repeat refine wp_seq ?_
  refine M0.t [.m 2 [] 0, .x 3 [] (.bool false)] [(0, (RG.z 8))] [] [(RG.z 8)] [(0, (.v (v33 g o cap))), (2, (.p 0 0)), (3, (.v (.bool false)))] ⟨RG.mk 0 107, RG.st, trivial⟩ ?_
  intro j1 a1 w1 M1
  repeat refine wp_seq ?_
  refine M1.u [.x 7 [] (v33 g o cap), .x 8 [(7, 0)] (.int .i64 33), .x 9 [(8, 1)] (.bool false)] [(0, (.v (v33 g o cap))), (2, (.p 0 0)), (3, (.v (.bool false))), (9, (.v (.bool false)))] ⟨RG.st, RG.cert_one rfl 7 (.v (v33 g o cap)) (.int .i64 33) rfl RG.sx (fun a w => by kernel_rfl) (fun μ w => by kernel_rfl), RG.st, trivial⟩ ?_
  intro a2 w2 M2
  repeat refine wp_seq ?_
  refine wp_cond_false M2.ev ?_
  refine wp_skip ?_
  repeat refine wp_seq ?_
  unfold rd
  rw [if_pos hs]
  by_cases hz : Zero33 bs
  · rw [if_pos hz]
    refine M2.u [.x 11 [] (v33 g o cap), .x 12 [(11, 0)] (.pointer (some ⟨g, o, none⟩)), .x 13 [(12, 1)] (.agg (bl33 bs).toArray), .x 14 [] (.agg z33.toArray), .x 15 [(13, 2), (14, 3)] (.bool true)] [(2, (.p 0 0)), (3, (.v (.bool false))), (15, (.v (.bool true)))] ⟨RG.st, RG.cert_s2a rfl 51 11 (v33 g o cap) (.pointer (some ⟨g, o, none⟩)) rfl rfl RG.sx (arr33 g o cap), RG.cert_loadB rfl g o hg List.not_mem_nil 51 12 rfl (bl33 bs) rfl RG.sx hrg u131 (by rw [bl33_length hs]; exact i131), RG.st, RG.cert_bin rfl .eql 51 51 13 14 (.agg (bl33 bs).toArray) (.agg z33.toArray) (.bool true) rfl rfl RG.sx RG.sx (fun w => by kernel_rfl) (eqz_t hs hz), trivial⟩ ?_
    intro a3 w3 M3
    repeat refine wp_seq ?_
    refine wp_cond_true M3.ev ?_
    repeat refine wp_seq ?_
    refine M3.t [.x 16 [] (pv (0 : Fin P) (0 : Fin P)), .u [(16, 0)] 0, .x 3 [] (.bool true)] [] [(0, 1, (ws (0 : Fin P) ++ (ws (0 : Fin P))))] [(ws (0 : Fin P) ++ (ws (0 : Fin P)))] [(2, (.p 0 0)), (3, (.v (.bool true)))] ⟨RG.se (zero_pv (P := P)), RG.pt i109, RG.st, trivial⟩ ?_
    intro a4 w4 M4
    refine wp_ret ?_
    refine bodyPost_ret (v := (.tuple #[(pv (0 : Fin P) (0 : Fin P)), (.bool true)])) (RG.results_rt M4.st 2 3 107 rfl 0 _ rfl (M4.at (s := (.p 0 0))) _ (M4.at (s := (.v (.bool true)))) u109 i109) M4.sl.defers ?_
    exact ⟨_, rfl, M4.st.bel.below, rfl⟩
  rw [if_neg hz]
  refine M2.u [.x 11 [] (v33 g o cap), .x 12 [(11, 0)] (.pointer (some ⟨g, o, none⟩)), .x 13 [(12, 1)] (.agg (bl33 bs).toArray), .x 14 [] (.agg z33.toArray), .x 15 [(13, 2), (14, 3)] (.bool false)] [(0, (.v (v33 g o cap))), (2, (.p 0 0)), (3, (.v (.bool false))), (15, (.v (.bool false)))] ⟨RG.st, RG.cert_s2a rfl 51 11 (v33 g o cap) (.pointer (some ⟨g, o, none⟩)) rfl rfl RG.sx (arr33 g o cap), RG.cert_loadB rfl g o hg List.not_mem_nil 51 12 rfl (bl33 bs) rfl RG.sx hrg u131 (by rw [bl33_length hs]; exact i131), RG.st, RG.cert_bin rfl .eql 51 51 13 14 (.agg (bl33 bs).toArray) (.agg z33.toArray) (.bool false) rfl rfl RG.sx RG.sx (fun w => by kernel_rfl) (eqz_f hs hz), trivial⟩ ?_
  intro a3 w3 M3
  repeat refine wp_seq ?_
  refine wp_cond_false M3.ev ?_
  refine wp_skip ?_
  repeat refine wp_seq ?_
  by_cases hm : ub bs[0]! = 2 ∨ ub bs[0]! = 3
  rotate_left
  · rw [if_neg hm]
    generalize ub bs[0]! = m at hb0 hm
    have h2 : ¬ m = 2 := fun h => hm (.inl h)
    have h3 : ¬ m = 3 := fun h => hm (.inr h)
    have hm2 : ∀ w, (binOp .neq 5 (.int .u8 m) (.int .u8 2)).run Tryz.prog w = .ok (.bool true) w := fun w => by
      go_simp
    have hm3 : ∀ w, (binOp .neq 5 (.int .u8 m) (.int .u8 3)).run Tryz.prog w = .ok (.bool true) w := fun w => by
      go_simp
    refine M3.u [.x 17 [] (v33 g o cap), .x 18 [(17, 0)] (.pointer (some ⟨g, o, none⟩)), .x 19 [(18, 1)] (.int .u8 m), .x 20 [(19, 2)] (.bool true), .x 21 [(20, 3)] (.bool true), .x 22 [] (v33 g o cap), .x 23 [(22, 5)] (.pointer (some ⟨g, o, none⟩)), .x 24 [(23, 6)] (.int .u8 m), .x 25 [(24, 7)] (.bool true), .x 26 [(21, 4), (25, 8)] (.bool true)] [(2, (.p 0 0)), (3, (.v (.bool false))), (26, (.v (.bool true)))] ⟨RG.st, RG.cert_idxc rfl 24 17 (.int .i64 0) rfl (.v (v33 g o cap)) RG.sx (fun μ w => at23 g o 33 cap (by decide) w), RG.cert_load1B rfl g o hg List.not_mem_nil 5 18 rfl (.int .u8 m) rfl RG.sx hb0 u5, RG.cert_binc rfl .neq 5 5 19 (.int .u8 m) (.int .u8 2) (.bool true) rfl rfl RG.sx (fun w => by kernel_rfl) (hm2), RG.st, RG.st, RG.cert_idxc rfl 24 22 (.int .i64 0) rfl (.v (v33 g o cap)) RG.sx (fun μ w => at23 g o 33 cap (by decide) w), RG.cert_load1B rfl g o hg List.not_mem_nil 5 23 rfl (.int .u8 m) rfl RG.sx hb0 u5, RG.cert_binc rfl .neq 5 5 24 (.int .u8 m) (.int .u8 3) (.bool true) rfl rfl RG.sx (fun w => by kernel_rfl) (hm3), RG.st, trivial⟩ ?_
    intro a4 w4 M4
    repeat refine wp_seq ?_
    refine wp_cond_true M4.ev ?_
    repeat refine wp_seq ?_
    refine M4.t [.x 27 [] (pv (0 : Fin P) (0 : Fin P)), .u [(27, 0)] 0, .x 3 [] (.bool false)] [] [(0, 1, (ws (0 : Fin P) ++ (ws (0 : Fin P))))] [(ws (0 : Fin P) ++ (ws (0 : Fin P)))] [(2, (.p 0 0)), (3, (.v (.bool false)))] ⟨RG.se (zero_pv (P := P)), RG.pt i109, RG.st, trivial⟩ ?_
    intro a5 w5 M5
    refine wp_ret ?_
    refine bodyPost_ret (v := (.tuple #[(pv (0 : Fin P) (0 : Fin P)), (.bool false)])) (RG.results_rt M5.st 2 3 107 rfl 0 _ rfl (M5.at (s := (.p 0 0))) _ (M5.at (s := (.v (.bool false)))) u109 i109) M5.sl.defers ?_
    exact ⟨_, rfl, M5.st.bel.below, rfl⟩
  rw [if_pos hm]
  rcases hm with hm | hm
  case' inl => refine M3.u [.x 17 [] (v33 g o cap), .x 18 [(17, 0)] (.pointer (some ⟨g, o, none⟩)), .x 19 [(18, 1)] (.int .u8 2), .x 20 [(19, 2)] (.bool false), .x 21 [(20, 3)] (.bool false), ⟨some 22, [], (.v undef), .pass⟩, ⟨some 23, [], (.v undef), .pass⟩, ⟨some 24, [], (.v undef), .pass⟩, ⟨some 25, [], (.v undef), .pass⟩, .x 26 [(21, 4), (25, 8)] (.bool false)] [(0, (.v (v33 g o cap))), (2, (.p 0 0)), (3, (.v (.bool false))), (26, (.v (.bool false)))] ⟨RG.st, RG.cert_idxc rfl 24 17 (.int .i64 0) rfl (.v (v33 g o cap)) RG.sx (fun μ w => at23 g o 33 cap (by decide) w), RG.cert_load1B rfl g o hg List.not_mem_nil 5 18 rfl (.int .u8 2) rfl RG.sx (hb0.trans (by rw [hm])) u5, RG.st, RG.st, RG.cert_pass rfl rfl, RG.cert_pass rfl rfl, RG.cert_pass rfl rfl, RG.cert_pass rfl rfl, RG.st, trivial⟩ ?_
  case' inr => refine M3.u [.x 17 [] (v33 g o cap), .x 18 [(17, 0)] (.pointer (some ⟨g, o, none⟩)), .x 19 [(18, 1)] (.int .u8 3), .x 20 [(19, 2)] (.bool true), .x 21 [(20, 3)] (.bool true), .x 22 [] (v33 g o cap), .x 23 [(22, 5)] (.pointer (some ⟨g, o, none⟩)), .x 24 [(23, 6)] (.int .u8 3), .x 25 [(24, 7)] (.bool false), .x 26 [(21, 4), (25, 8)] (.bool false)] [(0, (.v (v33 g o cap))), (2, (.p 0 0)), (3, (.v (.bool false))), (26, (.v (.bool false)))] ⟨RG.st, RG.cert_idxc rfl 24 17 (.int .i64 0) rfl (.v (v33 g o cap)) RG.sx (fun μ w => at23 g o 33 cap (by decide) w), RG.cert_load1B rfl g o hg List.not_mem_nil 5 18 rfl (.int .u8 3) rfl RG.sx (hb0.trans (by rw [hm])) u5, RG.st, RG.st, RG.st, RG.cert_idxc rfl 24 22 (.int .i64 0) rfl (.v (v33 g o cap)) RG.sx (fun μ w => at23 g o 33 cap (by decide) w), RG.cert_load1B rfl g o hg List.not_mem_nil 5 23 rfl (.int .u8 3) rfl RG.sx (hb0.trans (by rw [hm])) u5, RG.st, RG.st, trivial⟩ ?_
  all_goals
    intro a4 w4 M4
    repeat refine wp_seq ?_
    refine wp_cond_false M4.ev ?_
    refine wp_skip ?_
    repeat refine wp_seq ?_
    by_cases hx : beV (tl33 bs).toList < P
    rotate_left
    · rw [if_neg hx]
      have hrd : ∀ w', RG.BelX w.heap.size [] w w' → Calls Tryz.prog 89 #[gv0, .slice (some ⟨g, o + 1, none⟩) 32 (cap - 1)] w' (Ret fun e w'' => Below w'.heap.size w' w'' ∧ e = .tuple #[fv (0 : Fin P), .bool false]) := fun w' hb => Read_n C (tl33_size hs) (by omega) hx (Nat.lt_of_lt_of_le hg hb.size) (Holds.below (tl33_holds hs hB) hb.below hg)
      refine M4.d [.c 29 [] gv0, .x 30 [] (v33 g o cap), .x 31 [(30, 1)] (.slice (some ⟨g, o + 1, none⟩) 32 (cap - 1)), .c 32 [(29, 0), (31, 2)] (.tuple #[(fv (0 : Fin P)), (.bool false)]), .x 28 [(32, 3)] (.tuple #[(fv (0 : Fin P)), (.bool false)]), .x 33 [(28, 4)] (fv (0 : Fin P)), .x 34 [(28, 4)] (.bool false), .m 4 [] 1, .u [(4, 7), (33, 5)] 1, .x 5 [(34, 6)] (.bool false)] [(7, (RG.z 4))] [(1, 8, (ws (0 : Fin P)))] [(RG.z 8), (ws (0 : Fin P))] [(2, (.p 0 0)), (3, (.v (.bool false))), (5, (.v (.bool false)))] ⟨RG.cl (Coordinates_c), RG.st, RG.cert_slice1 rfl 24 30 (.int .i64 1) (v33 g o cap) (.slice (some ⟨g, o + 1, none⟩) 32 (cap - 1)) rfl rfl RG.sx (sl33 g o cap hc), RG.cert_callB2 rfl 89 29 31 gv0 (.slice (some ⟨g, o + 1, none⟩) 32 (cap - 1)) (.tuple #[(fv (0 : Fin P)), (.bool false)]) rfl (fun a w => by kernel_rfl) RG.sx RG.sx hrd, RG.st, RG.st, RG.st, RG.mk 1 45, RG.pt i85, RG.st, trivial⟩ ?_
      intro j5 a5 w5 M5
      repeat refine wp_seq ?_
      refine M5.u [.x 35 [] (.bool false), .x 36 [(35, 0)] (.bool true)] [(2, (.p 0 0)), (3, (.v (.bool false))), (36, (.v (.bool true)))] ⟨RG.st, RG.st, trivial⟩ ?_
      intro a6 w6 M6
      repeat refine wp_seq ?_
      refine wp_cond_true M6.ev ?_
      repeat refine wp_seq ?_
      refine M6.t [.x 37 [] (pv (0 : Fin P) (0 : Fin P)), .u [(37, 0)] 0, .x 3 [] (.bool false)] [] [(0, 1, (ws (0 : Fin P) ++ (ws (0 : Fin P))))] [(ws (0 : Fin P) ++ (ws (0 : Fin P))), (ws (0 : Fin P))] [(2, (.p 0 0)), (3, (.v (.bool false)))] ⟨RG.se (zero_pv (P := P)), RG.pt i109, RG.st, trivial⟩ ?_
      intro a7 w7 M7
      refine wp_ret ?_
      refine bodyPost_ret (v := (.tuple #[(pv (0 : Fin P) (0 : Fin P)), (.bool false)])) (RG.results_rt M7.st 2 3 107 rfl 0 _ rfl (M7.at (s := (.p 0 0))) _ (M7.at (s := (.v (.bool false)))) u109 i109) M7.sl.defers ?_
      exact ⟨_, rfl, M7.st.bel.below, rfl⟩
    rw [if_pos hx]
    have hx' : beV (tl33 bs).toList = (rdx P bs).val := (Nat.mod_eq_of_lt hx).symm
    generalize rdx P bs = x at hx'
    have hrd : ∀ w', RG.BelX w.heap.size [] w w' → Calls Tryz.prog 89 #[gv0, .slice (some ⟨g, o + 1, none⟩) 32 (cap - 1)] w' (Ret fun e w'' => Below w'.heap.size w' w'' ∧ e = .tuple #[fv x, .bool true]) := fun w' hb => Read_y C (tl33_size hs) (by omega) hx' (Nat.lt_of_lt_of_le hg hb.size) (Holds.below (tl33_holds hs hB) hb.below hg)
    refine M4.d [.c 29 [] gv0, .x 30 [] (v33 g o cap), .x 31 [(30, 1)] (.slice (some ⟨g, o + 1, none⟩) 32 (cap - 1)), .c 32 [(29, 0), (31, 2)] (.tuple #[(fv x), (.bool true)]), .x 28 [(32, 3)] (.tuple #[(fv x), (.bool true)]), .x 33 [(28, 4)] (fv x), .x 34 [(28, 4)] (.bool true), .m 4 [] 1, .u [(4, 7), (33, 5)] 1, .x 5 [(34, 6)] (.bool true)] [(7, (RG.z 4))] [(1, 8, (ws x))] [(RG.z 8), (ws x)] [(0, (.v (v33 g o cap))), (2, (.p 0 0)), (3, (.v (.bool false))), (4, (.p 1 0)), (5, (.v (.bool true)))] ⟨RG.cl (Coordinates_c), RG.st, RG.cert_slice1 rfl 24 30 (.int .i64 1) (v33 g o cap) (.slice (some ⟨g, o + 1, none⟩) 32 (cap - 1)) rfl rfl RG.sx (sl33 g o cap hc), RG.cert_callB2 rfl 89 29 31 gv0 (.slice (some ⟨g, o + 1, none⟩) 32 (cap - 1)) (.tuple #[(fv x), (.bool true)]) rfl (fun a w => by kernel_rfl) RG.sx RG.sx hrd, RG.st, RG.st, RG.st, RG.mk 1 45, RG.pt i85, RG.st, trivial⟩ ?_
    intro j5 a5 w5 M5
    repeat refine wp_seq ?_
    refine M5.u [.x 35 [] (.bool true), .x 36 [(35, 0)] (.bool false)] [(0, (.v (v33 g o cap))), (2, (.p 0 0)), (3, (.v (.bool false))), (4, (.p 1 0)), (5, (.v (.bool true))), (36, (.v (.bool false)))] ⟨RG.st, RG.st, trivial⟩ ?_
    intro a6 w6 M6
    repeat refine wp_seq ?_
    refine wp_cond_false M6.ev ?_
    refine wp_skip ?_
    repeat refine wp_seq ?_
    cases hr : rt (x * x * x + 7) with
    | none =>
      refine M6.t [.x 39 [] (fv x), .c 40 [(39, 0)] (.tuple #[(pv (0 : Fin P) (0 : Fin P)), (.bool false)]), .x 38 [(40, 1)] (.tuple #[(pv (0 : Fin P) (0 : Fin P)), (.bool false)]), .x 41 [(38, 2)] (pv (0 : Fin P) (0 : Fin P)), .x 42 [(38, 2)] (.bool false), .m 6 [] 2, .u [(6, 5), (41, 3)] 2, .x 5 [(42, 4)] (.bool false)] [(5, (RG.z 8))] [(2, 6, (ws (0 : Fin P) ++ (ws (0 : Fin P))))] [(RG.z 8), (ws x), (ws (0 : Fin P) ++ (ws (0 : Fin P)))] [(2, (.p 0 0)), (3, (.v (.bool false))), (5, (.v (.bool false))), (6, (.p 2 0))] ⟨RG.ld u85 i85, RG.cert_call1 rfl 114 39 (fv x) (.tuple #[(pv (0 : Fin P) (0 : Fin P)), (.bool false)]) rfl (fun a w => by kernel_rfl) RG.sx (above_n_c C x hr), RG.st, RG.st, RG.st, RG.mk 2 107, RG.pt i109, RG.st, trivial⟩ ?_
      intro j7 a7 w7 M7
      repeat refine wp_seq ?_
      refine M7.u [.x 43 [] (.bool false), .x 44 [(43, 0)] (.bool false), ⟨some 45, [], (.v undef), .pass⟩, ⟨some 46, [], (.v undef), .pass⟩, ⟨some 47, [], (.v undef), .pass⟩, ⟨some 48, [], (.v undef), .pass⟩, .x 49 [(44, 1), (48, 5)] (.bool false)] [(2, (.p 0 0)), (3, (.v (.bool false))), (5, (.v (.bool false))), (6, (.p 2 0)), (49, (.v (.bool false)))] ⟨RG.st, RG.st, RG.cert_pass rfl rfl, RG.cert_pass rfl rfl, RG.cert_pass rfl rfl, RG.cert_pass rfl rfl, RG.st, trivial⟩ ?_
      intro a8 w8 M8
      repeat refine wp_seq ?_
      refine wp_cond_false M8.ev ?_
      refine wp_skip ?_
      repeat refine wp_seq ?_
      refine M8.t [.x 52 [] (pv (0 : Fin P) (0 : Fin P)), .x 53 [] (.bool false), .u [(52, 0)] 0, .x 3 [(53, 1)] (.bool false)] [] [(0, 2, (ws (0 : Fin P) ++ (ws (0 : Fin P))))] [(ws (0 : Fin P) ++ (ws (0 : Fin P))), (ws x), (ws (0 : Fin P) ++ (ws (0 : Fin P)))] [(2, (.p 0 0)), (3, (.v (.bool false)))] ⟨RG.ld u109 i109, RG.st, RG.pt i109, RG.st, trivial⟩ ?_
      intro a9 w9 M9
      refine wp_ret ?_
      refine bodyPost_ret (v := (.tuple #[(pv (0 : Fin P) (0 : Fin P)), (.bool false)])) (RG.results_rt M9.st 2 3 107 rfl 0 _ rfl (M9.at (s := (.p 0 0))) _ (M9.at (s := (.v (.bool false)))) u109 i109) M9.sl.defers ?_
      exact ⟨_, rfl, M9.st.bel.below, rfl⟩
    | some y =>
      refine M6.t [.x 39 [] (fv x), .c 40 [(39, 0)] (.tuple #[(pv x y), (.bool true)]), .x 38 [(40, 1)] (.tuple #[(pv x y), (.bool true)]), .x 41 [(38, 2)] (pv x y), .x 42 [(38, 2)] (.bool true), .m 6 [] 2, .u [(6, 5), (41, 3)] 2, .x 5 [(42, 4)] (.bool true)] [(5, (RG.z 8))] [(2, 6, (ws x ++ (ws y)))] [(RG.z 8), (ws x), (ws x ++ (ws y))] [(0, (.v (v33 g o cap))), (2, (.p 0 0)), (3, (.v (.bool false))), (5, (.v (.bool true))), (6, (.p 2 0))] ⟨RG.ld u85 i85, RG.cert_call1 rfl 114 39 (fv x) (.tuple #[(pv x y), (.bool true)]) rfl (fun a w => by kernel_rfl) RG.sx (above_y_c C x y hr), RG.st, RG.st, RG.st, RG.mk 2 107, RG.pt i109, RG.st, trivial⟩ ?_
      intro j7 a7 w7 M7
      repeat refine wp_seq ?_
      rw [Option.map_some]
      by_cases h3 : ub bs[0]! = 3
      · rw [if_pos h3]
        generalize hy2 : 0 - y = y2
        have popp_y : Gives 115 #[pv x y] (pv x y2) := hy2 ▸ popp_c C x y
        refine M7.u [.x 43 [] (.bool true), .x 44 [(43, 0)] (.bool true), .x 45 [] (v33 g o cap), .x 46 [(45, 2)] (.pointer (some ⟨g, o, none⟩)), .x 47 [(46, 3)] (.int .u8 3), .x 48 [(47, 4)] (.bool true), .x 49 [(44, 1), (48, 5)] (.bool true)] [(2, (.p 0 0)), (3, (.v (.bool false))), (5, (.v (.bool true))), (6, (.p 2 0)), (49, (.v (.bool true)))] ⟨RG.st, RG.st, RG.st, RG.cert_idxc rfl 24 45 (.int .i64 0) rfl (.v (v33 g o cap)) RG.sx (fun μ w => at23 g o 33 cap (by decide) w), RG.cert_load1B rfl g o hg List.not_mem_nil 5 46 rfl (.int .u8 3) rfl RG.sx (hb0.trans (by rw [h3])) u5, RG.st, RG.st, trivial⟩ ?_
        intro a8 w8 M8
        repeat refine wp_seq ?_
        refine wp_cond_true M8.ev ?_
        repeat refine wp_seq ?_
        refine M8.t [.x 50 [] (pv x y), .c 51 [(50, 0)] (pv x y2), .u [(51, 1)] 2] [] [(2, 2, (ws x ++ (ws y2)))] [(RG.z 8), (ws x), (ws x ++ (ws y2))] [(2, (.p 0 0)), (3, (.v (.bool false))), (5, (.v (.bool true))), (6, (.p 2 0))] ⟨RG.ld u109 i109, RG.cl (popp_y), RG.pt i109, trivial⟩ ?_
        intro a9 w9 M9
        repeat refine wp_seq ?_
        refine M9.t [.x 52 [] (pv x y2), .x 53 [] (.bool true), .u [(52, 0)] 0, .x 3 [(53, 1)] (.bool true)] [] [(0, 2, (ws x ++ (ws y2)))] [(ws x ++ (ws y2)), (ws x), (ws x ++ (ws y2))] [(2, (.p 0 0)), (3, (.v (.bool true)))] ⟨RG.ld u109 i109, RG.st, RG.pt i109, RG.st, trivial⟩ ?_
        intro a10 w10 M10
        refine wp_ret ?_
        refine bodyPost_ret (v := (.tuple #[(pv x y2), (.bool true)])) (RG.results_rt M10.st 2 3 107 rfl 0 _ rfl (M10.at (s := (.p 0 0))) _ (M10.at (s := (.v (.bool true)))) u109 i109) M10.sl.defers ?_
        exact ⟨_, rfl, M10.st.bel.below, rfl⟩
      · rw [if_neg h3]
        have h2 : ub bs[0]! = 2 := by omega
        refine M7.u [.x 43 [] (.bool true), .x 44 [(43, 0)] (.bool true), .x 45 [] (v33 g o cap), .x 46 [(45, 2)] (.pointer (some ⟨g, o, none⟩)), .x 47 [(46, 3)] (.int .u8 2), .x 48 [(47, 4)] (.bool false), .x 49 [(44, 1), (48, 5)] (.bool false)] [(2, (.p 0 0)), (3, (.v (.bool false))), (5, (.v (.bool true))), (6, (.p 2 0)), (49, (.v (.bool false)))] ⟨RG.st, RG.st, RG.st, RG.cert_idxc rfl 24 45 (.int .i64 0) rfl (.v (v33 g o cap)) RG.sx (fun μ w => at23 g o 33 cap (by decide) w), RG.cert_load1B rfl g o hg List.not_mem_nil 5 46 rfl (.int .u8 2) rfl RG.sx (hb0.trans (by rw [h2])) u5, RG.st, RG.st, trivial⟩ ?_
        intro a8 w8 M8
        repeat refine wp_seq ?_
        refine wp_cond_false M8.ev ?_
        refine wp_skip ?_
        repeat refine wp_seq ?_
        refine M8.t [.x 52 [] (pv x y), .x 53 [] (.bool true), .u [(52, 0)] 0, .x 3 [(53, 1)] (.bool true)] [] [(0, 2, (ws x ++ (ws y)))] [(ws x ++ (ws y)), (ws x), (ws x ++ (ws y))] [(2, (.p 0 0)), (3, (.v (.bool true)))] ⟨RG.ld u109 i109, RG.st, RG.pt i109, RG.st, trivial⟩ ?_
        intro a9 w9 M9
        refine wp_ret ?_
        refine bodyPost_ret (v := (.tuple #[(pv x y), (.bool true)])) (RG.results_rt M9.st 2 3 107 rfl 0 _ rfl (M9.at (s := (.p 0 0))) _ (M9.at (s := (.v (.bool true)))) u109 i109) M9.sl.defers ?_
        exact ⟨_, rfl, M9.st.bel.below, rfl⟩
/-- Bytes as an argument: where there are 33, they lie there. -/
def Arg33 (w : World) (v : Value) (bs : Bs) : Prop := ∃ (p : Option Addr) (n cap : Nat), v = .slice p n cap ∧ bs.size = n ∧ (n = 33 → ∃ g o, p = some ⟨g, o, none⟩ ∧ 33 ≤ cap ∧ g < w.heap.size ∧ Holds encB w g o bs)
theorem Arg33.below {w w1 : World} {v : Value} {bs : Bs} (h : Arg33 w v bs) (hb : Below w.heap.size w w1) : Arg33 w1 v bs := by
  obtain ⟨p, n, cap, rfl, hs, h1⟩ := h
  refine ⟨p, n, cap, rfl, hs, fun h2 => ?_⟩
  obtain ⟨g, o, h3, h4, h6, h7⟩ := h1 h2
  exact ⟨g, o, h3, h4, Nat.lt_of_lt_of_le h6 hb.size, Holds.below h7 hb h6⟩
theorem readPoint_c (C : Fld P) (v : Value) (bs : Bs) (w : World) (hv : Arg33 w v bs) : Calls Tryz.prog 90 #[v] w (Ret fun e w' => Below w.heap.size w w' ∧ e = rdV (rd P bs)) := by
  obtain ⟨p, n, cap, rfl, hs, h1⟩ := hv
  by_cases hn : n = 33
  · subst hn
    obtain ⟨g, o, rfl, hc, hg, hB⟩ := h1 rfl
    exact rp33 C g o cap bs w hs hc hg hB
  · unfold rd
    rw [if_neg (by rw [hs]; exact hn)]
    exact rp_len C p n cap 0 w hn
end Go.Proofs.YtmepmoalhgehhaaGreatDoor
namespace Go.Proofs.YtmepmoalhgehhaaGreatDoor
open Go.RowKit Go.Sort Go.Deep
variable {P : Nat} [NeZero P]
/-- A number's 32 bytes. -/
def bx (n : Nat) : Bs := be32 (n % 18446744073709551616) (n / 18446744073709551616 % 18446744073709551616) (n / 340282366920938463463374607431768211456 % 18446744073709551616) (n / 6277101735386680763835789423207666416102355444464034512896 % 18446744073709551616)
theorem bx_size (n : Nat) : (bx n).size = 32 := by unfold bx; exact be32_size _ _ _ _
def mark (n : Nat) : UInt8 := if n % 2 = 1 then 3 else 2
/-- A point's 33 bytes. -/
def by33 (x y : Fin P) : Bs := if x = 0 ∧ y = 0 then Array.replicate 33 0 else #[mark y.val] ++ bx x.val
theorem Bytes_c (C : Fld P) (x : Fin P) (w : World) : Calls Tryz.prog 28 #[fv x] w (Ret fun e w' => Below w.heap.size w w' ∧ ∃ g, e = .slice (some ⟨g, 0, none⟩) 32 32 ∧ w.heap.size ≤ g ∧ Holds encB w' g 0 (bx x.val)) :=
  (Bytes_any _ _ w (C.four x)).mono (by
    rintro e w' ⟨v, rfl, hb, g, a, b, c, d, rfl, hg, he, hH⟩
    refine ⟨_, rfl, hb, g, rfl, hg, ?_⟩
    have h2 : fv x = .agg #[.int .u64 ((x.val % 18446744073709551616 : Nat) : Int), .int .u64 ((x.val / 18446744073709551616 % 18446744073709551616 : Nat) : Int), .int .u64 ((x.val / 340282366920938463463374607431768211456 % 18446744073709551616 : Nat) : Int), .int .u64 ((x.val / 6277101735386680763835789423207666416102355444464034512896 % 18446744073709551616 : Nat) : Int)] := rfl
    rw [h2] at he
    simp only [Value.agg.injEq, Array.mk.injEq, List.cons.injEq, Value.int.injEq, true_and, and_true, Int.ofNat_inj] at he
    obtain ⟨rfl, rfl, rfl, rfl⟩ := he
    exact hH)
theorem Odd_c (C : Fld P) (y : Fin P) : Gives 85 #[fv y] (.bool (decide (y.val % 2 = 1))) := fun w =>
  (Odd_any _ _ (C.four y) w).mono (by rintro e w' ⟨v, rfl, hb, rfl⟩; exact ⟨_, rfl, hb, rfl⟩)
theorem info5b : (Tryz.prog.info? 5).map (fun i => (i.zero, i.size, i.bytes)) = some (some (.int .u8 0), 1, 1) := by kernel_rfl
theorem und23 : Tryz.prog.underlying 24 = some (.slice 5) := by kernel_rfl
/-- What bytes answers. -/
def BytesR (w : World) (T : Bs) (e : Value) (w' : World) : Prop := ∃ g cap, e = .slice (some ⟨g, 0, none⟩) 33 cap ∧ 33 ≤ cap ∧ w.heap.size ≤ g ∧ g < w'.heap.size ∧ Holds encB w' g 0 T
theorem mk33 (w : World) : (Instr.makeSlice 24 (.int .i64 33) (.int .i64 33)).run Tryz.prog w = .ok (.slice (some ⟨w.heap.size, 0, none⟩) 33 33) (w.alloc (.cells (madeCells #[.int .u8 0] 33) 5)) :=
  run_make_row' (P := Tryz.prog) 24 5 (.int .u8 0) 1 und23 info5b rfl .i64 .i64 33 (by decide) (by decide) w
theorem made33 (w : World) (o : Obj) : Holds encB ((w.alloc o).alloc (.cells (madeCells #[.int .u8 0] 33) 5)) (w.heap.size + 1) 0 (Array.replicate 33 0) := by
  have h := Holds.made (enc := encB) (w.alloc o) 5 33 (0 : UInt8)
  rw [World.size_alloc] at h
  exact h
omit [NeZero P] in
theorem pv_words (x y : Fin P) : pv x y = .agg #[.int .u64 ((x.val % 18446744073709551616 : Nat) : Int), .int .u64 ((x.val / 18446744073709551616 % 18446744073709551616 : Nat) : Int), .int .u64 ((x.val / 340282366920938463463374607431768211456 % 18446744073709551616 : Nat) : Int), .int .u64 ((x.val / 6277101735386680763835789423207666416102355444464034512896 % 18446744073709551616 : Nat) : Int), .int .u64 ((y.val % 18446744073709551616 : Nat) : Int), .int .u64 ((y.val / 18446744073709551616 % 18446744073709551616 : Nat) : Int), .int .u64 ((y.val / 340282366920938463463374607431768211456 % 18446744073709551616 : Nat) : Int), .int .u64 ((y.val / 6277101735386680763835789423207666416102355444464034512896 % 18446744073709551616 : Nat) : Int)] := rfl
set_option maxHeartbeats 2000000 in
set_option maxRecDepth 100000 in
theorem bytes_zero (C : Fld P) (x y : Fin P) (hz : x = 0 ∧ y = 0) (w : World) : Calls Tryz.prog 61 #[pv x y] w (Ret fun e w' => Below w.heap.size w w' ∧ BytesR w (Array.replicate 33 0) e w') := by
  have heq := eqPt_t C (x := x) (y := y) (z := 0) (t := 0) hz
  rw [← zero_pv, pv_words] at heq
  rw [pv_words]
  generalize ((x.val % 18446744073709551616 : Nat) : Int) = a at heq ⊢
  generalize ((x.val / 18446744073709551616 % 18446744073709551616 : Nat) : Int) = b at heq ⊢
  generalize ((x.val / 340282366920938463463374607431768211456 % 18446744073709551616 : Nat) : Int) = c at heq ⊢
  generalize ((x.val / 6277101735386680763835789423207666416102355444464034512896 % 18446744073709551616 : Nat) : Int) = d at heq ⊢
  generalize ((y.val % 18446744073709551616 : Nat) : Int) = p at heq ⊢
  generalize ((y.val / 18446744073709551616 % 18446744073709551616 : Nat) : Int) = q at heq ⊢
  generalize ((y.val / 340282366920938463463374607431768211456 % 18446744073709551616 : Nat) : Int) = r at heq ⊢
  generalize ((y.val / 6277101735386680763835789423207666416102355444464034512896 % 18446744073709551616 : Nat) : Int) = s at heq ⊢
  have hmk := mk33
  generalize hT : (Array.replicate 33 0 : Bs) = T
  go_enter Tryz.func61, Tryz.ntmps61
  go_wp2
  go_ret
  have hM := made33 w (.cells #[.int .u64 a, .int .u64 b, .int .u64 c, .int .u64 d, .int .u64 p, .int .u64 q, .int .u64 r, .int .u64 s] 107)
  rw [hT] at hM
  exact ⟨_, rfl, below2 _ _ _, _, 33, rfl, by omega, by omega, by simp, hM⟩
theorem grow33 (w : World) (k g m : Nat) (B : Bs) (hB : B.size = 32) (hc : w.cell? ⟨k, 0, none⟩ = some (.int .u8 (m : Int))) (hH : Holds encB w g 0 B) (hm : m < 256 := by decide) :
    ∃ (w' : World) (cap : Nat), (Builtin.append_ #[24, 24] 24 #[.slice (some ⟨k, 0, none⟩) 1 1, .slice (some ⟨g, 0, none⟩) 32 32]).run Tryz.prog w = .ok (.slice (some ⟨w.heap.size, 0, none⟩) 33 cap) w' ∧ Below w.heap.size w w' ∧ 33 ≤ cap ∧ w.heap.size < w'.heap.size ∧ Holds encB w' w.heap.size 0 (#[UInt8.ofNat m] ++ B) := by
  obtain ⟨i, hi, hzz⟩ := Option.map_eq_some_iff.1 info5b
  simp only [Prod.mk.injEq] at hzz
  obtain ⟨hz, hs, hb⟩ := hzz
  have hap := run_append_grow (P := Tryz.prog) w 24 24 5 i (.int .u8 0) und23 hi hz ⟨k, 0, none⟩ 1 1 [.int .u8 (m : Int)] (by rw [hs]; rfl) (fun j v hj => by
      cases j with
      | zero =>
        obtain rfl : Value.int .u8 (m : Int) = v := by simpa using hj
        rw [Addr.add_mid]
        exact hc
      | succ j => simp at hj) ⟨g, 0, none⟩ 32 32 (B.toList.map encB) (by rw [hs, List.length_map, Array.length_toList, hB]) (fun j v hj => by
      have hj' : j < B.size := by
        have := (List.getElem?_eq_some_iff.1 hj).1
        rwa [List.length_map, Array.length_toList] at this
      rw [Addr.add_mid, (hH j hj').1]
      rw [List.getElem?_map, Array.getElem?_toList, Array.getElem?_eq_getElem hj'] at hj
      rw [getElem!_pos B j hj']
      exact hj) (by decide) (by decide) (by rw [hb]; decide)
  refine ⟨_, _, hap, ?_, ?_, ?_, ?_⟩
  · exact (Below.refl _ w).drew.trans (below1 w.drew _)
  · exact grownCap_ge w (1 + 32) 1 5
  · show w.drew.heap.size < (w.drew.alloc _).heap.size
    rw [World.size_alloc]
    exact Nat.lt_succ_self _
  · intro j hj
    have hsz : (#[UInt8.ofNat m] ++ B).size = 33 := by rw [Array.size_append, hB]; rfl
    have hj' : j < 33 := by rw [← hsz]; exact hj
    refine ⟨?_, World.frozen?_alloc_new w.drew _ _ _⟩
    show (w.drew.alloc _).cell? ⟨w.drew.heap.size, 0 + j, none⟩ = _
    rw [Nat.zero_add, World.cell?_alloc_new, getElem!_pos _ j hj, Array.getElem?_append_left (by
      rw [Array.size_append, List.size_toArray, List.size_toArray, List.length_map, Array.length_toList]
      show j < 1 + B.size
      omega)]
    cases j with
    | zero =>
      rw [Array.getElem?_append_left (by simp), Array.getElem_append_left (by simp)]
      show some (Value.int .u8 (m : Int)) = some (encB (UInt8.ofNat m))
      unfold encB
      rw [ub_ofNat, Nat.mod_eq_of_lt hm]
    | succ i =>
      rw [Array.getElem?_append_right (by simp), Array.getElem_append_right (by simp), List.getElem?_toArray, List.getElem?_map, Array.getElem?_toList]
      show Option.map encB B[i]? = some (encB B[i])
      rw [Array.getElem?_eq_getElem (by omega)]
      rfl
theorem keptP (w : World) (a b c d p q r s : Nat) : Kept w w.heap.size [⟨w.heap.size, 0, a, b, c, d⟩, ⟨w.heap.size, 4, p, q, r, s⟩] (w.alloc (.cells #[.int .u64 (a : Int), .int .u64 (b : Int), .int .u64 (c : Int), .int .u64 (d : Int), .int .u64 (p : Int), .int .u64 (q : Int), .int .u64 (r : Int), .int .u64 (s : Int)] 107)) := by
  have F := At8.made w 107 a b c d p q r s rfl
  refine ((Kept.mk1 (below1 w _) (below1 w _).size).cons ?_).cons ?_
  · exact ⟨F.c4, F.c5, F.c6, F.c7, F.fz⟩
  · exact ⟨F.c0, F.c1, F.c2, F.c3, F.fz⟩
set_option maxHeartbeats 4000000 in
set_option maxRecDepth 100000 in
theorem bytes_odd (C : Fld P) (x y : Fin P) (hz : ¬ (x = 0 ∧ y = 0)) (ho : y.val % 2 = 1) (w : World) : Calls Tryz.prog 61 #[pv x y] w (Ret fun e w' => Below w.heap.size w w' ∧ BytesR w (#[3] ++ bx x.val) e w') := by
  have heq := eqPt_f C (x := x) (y := y) (z := 0) (t := 0) hz
  rw [← zero_pv, pv_words] at heq
  rw [pv_words]
  have hO : ∀ w, Calls Tryz.prog 85 #[.agg #[.int .u64 ((y.val % 18446744073709551616 : Nat) : Int), .int .u64 ((y.val / 18446744073709551616 % 18446744073709551616 : Nat) : Int), .int .u64 ((y.val / 340282366920938463463374607431768211456 % 18446744073709551616 : Nat) : Int), .int .u64 ((y.val / 6277101735386680763835789423207666416102355444464034512896 % 18446744073709551616 : Nat) : Int)]] w (Ret fun e w' => Below w.heap.size w w' ∧ e = .bool true) := fun w => by
    have h := Odd_c C y w
    rw [decide_eq_true ho] at h
    exact h
  have hBy : ∀ w, Calls Tryz.prog 28 #[.agg #[.int .u64 ((x.val % 18446744073709551616 : Nat) : Int), .int .u64 ((x.val / 18446744073709551616 % 18446744073709551616 : Nat) : Int), .int .u64 ((x.val / 340282366920938463463374607431768211456 % 18446744073709551616 : Nat) : Int), .int .u64 ((x.val / 6277101735386680763835789423207666416102355444464034512896 % 18446744073709551616 : Nat) : Int)]] w (Ret fun e w' => Below w.heap.size w w' ∧ ∃ g, e = .slice (some ⟨g, 0, none⟩) 32 32 ∧ w.heap.size ≤ g ∧ Holds encB w' g 0 (bx x.val)) := Bytes_c C x
  have hbs := bx_size x.val
  generalize bx x.val = B at hBy hbs ⊢
  generalize x.val % 18446744073709551616 = a at heq hO hBy ⊢
  generalize x.val / 18446744073709551616 % 18446744073709551616 = b at heq hO hBy ⊢
  generalize x.val / 340282366920938463463374607431768211456 % 18446744073709551616 = c at heq hO hBy ⊢
  generalize x.val / 6277101735386680763835789423207666416102355444464034512896 % 18446744073709551616 = d at heq hO hBy ⊢
  generalize y.val % 18446744073709551616 = p at heq hO hBy ⊢
  generalize y.val / 18446744073709551616 % 18446744073709551616 = q at heq hO hBy ⊢
  generalize y.val / 340282366920938463463374607431768211456 % 18446744073709551616 = r at heq hO hBy ⊢
  generalize y.val / 6277101735386680763835789423207666416102355444464034512896 % 18446744073709551616 = s at heq hO hBy ⊢
  have HQ : Hid (∀ w, (binOp .eql 107 _ _).run Tryz.prog w = _) := heq
  go_enter Tryz.func61, Tryz.ntmps61
  go_wp2_with fail
  have KP := keptP w a b c d p q r s
  clear heq
  generalize World.alloc _ _ = W0 at KP ⊢
  generalize hk : w.heap.size = k0 at KP ⊢
  refine (hO _).mono ?_
  rintro e w1 ⟨v, rfl, hb1, rfl⟩
  replace KP := KP.call hb1
  clear hb1 HQ hO
  obtain ⟨xc0, xc1, xc2, xc3, xf⟩ := KP.head
  have zx := KP.head.lt
  go_wp2_with fail
  refine (hBy _).mono ?_
  rintro e w2 ⟨v, rfl, hb2, g, rfl, hg, hH⟩
  have hc : w2.cell? ⟨w1.heap.size, 0, none⟩ = some (.int .u8 3) := by
    rw [hb2.cell (p := ⟨w1.heap.size, 0, none⟩) (by show w1.heap.size < _; rw [World.size_alloc]; omega), World.cell?_alloc_new]
    rfl
  have hle : k0 ≤ w2.heap.size := Nat.le_trans KP.le (Nat.le_trans (by rw [World.size_alloc]; omega) hb2.size)
  have hbl : Hid (Below k0 w w2) := ((KP.alloc _).call hb2).bl
  clear KP hb2 xc0 xc1 xc2 xc3 xf zx hg
  obtain ⟨W3, cp, hap, hb3, hcp, hsz3, hH3⟩ := grow33 w2 w1.heap.size g 3 B hbs hc hH
  generalize w1.heap.size = km at hap ⊢
  go_wp2_with (at_builtin; refine Lib.wpList_append_run _ rfl _ _ 24 24 rfl _ _ rfl rfl _ _ hap ?_)
  go_ret
  refine ⟨_, rfl, ?_, _, cp, rfl, hcp, ?_, hsz3, hH3⟩
  · rw [hk]; exact hbl.out.trans (hb3.mono hle)
  · rw [hk]; exact hle
set_option maxHeartbeats 4000000 in
set_option maxRecDepth 100000 in
theorem bytes_even (C : Fld P) (x y : Fin P) (hz : ¬ (x = 0 ∧ y = 0)) (ho : ¬ y.val % 2 = 1) (w : World) : Calls Tryz.prog 61 #[pv x y] w (Ret fun e w' => Below w.heap.size w w' ∧ BytesR w (#[2] ++ bx x.val) e w') := by
  have heq := eqPt_f C (x := x) (y := y) (z := 0) (t := 0) hz
  rw [← zero_pv, pv_words] at heq
  rw [pv_words]
  have hO : ∀ w, Calls Tryz.prog 85 #[.agg #[.int .u64 ((y.val % 18446744073709551616 : Nat) : Int), .int .u64 ((y.val / 18446744073709551616 % 18446744073709551616 : Nat) : Int), .int .u64 ((y.val / 340282366920938463463374607431768211456 % 18446744073709551616 : Nat) : Int), .int .u64 ((y.val / 6277101735386680763835789423207666416102355444464034512896 % 18446744073709551616 : Nat) : Int)]] w (Ret fun e w' => Below w.heap.size w w' ∧ e = .bool false) := fun w => by
    have h := Odd_c C y w
    rw [decide_eq_false ho] at h
    exact h
  have hBy : ∀ w, Calls Tryz.prog 28 #[.agg #[.int .u64 ((x.val % 18446744073709551616 : Nat) : Int), .int .u64 ((x.val / 18446744073709551616 % 18446744073709551616 : Nat) : Int), .int .u64 ((x.val / 340282366920938463463374607431768211456 % 18446744073709551616 : Nat) : Int), .int .u64 ((x.val / 6277101735386680763835789423207666416102355444464034512896 % 18446744073709551616 : Nat) : Int)]] w (Ret fun e w' => Below w.heap.size w w' ∧ ∃ g, e = .slice (some ⟨g, 0, none⟩) 32 32 ∧ w.heap.size ≤ g ∧ Holds encB w' g 0 (bx x.val)) := Bytes_c C x
  have hbs := bx_size x.val
  generalize bx x.val = B at hBy hbs ⊢
  generalize x.val % 18446744073709551616 = a at heq hO hBy ⊢
  generalize x.val / 18446744073709551616 % 18446744073709551616 = b at heq hO hBy ⊢
  generalize x.val / 340282366920938463463374607431768211456 % 18446744073709551616 = c at heq hO hBy ⊢
  generalize x.val / 6277101735386680763835789423207666416102355444464034512896 % 18446744073709551616 = d at heq hO hBy ⊢
  generalize y.val % 18446744073709551616 = p at heq hO hBy ⊢
  generalize y.val / 18446744073709551616 % 18446744073709551616 = q at heq hO hBy ⊢
  generalize y.val / 340282366920938463463374607431768211456 % 18446744073709551616 = r at heq hO hBy ⊢
  generalize y.val / 6277101735386680763835789423207666416102355444464034512896 % 18446744073709551616 = s at heq hO hBy ⊢
  have HQ : Hid (∀ w, (binOp .eql 107 _ _).run Tryz.prog w = _) := heq
  go_enter Tryz.func61, Tryz.ntmps61
  go_wp2_with fail
  have KP := keptP w a b c d p q r s
  clear heq
  generalize World.alloc _ _ = W0 at KP ⊢
  generalize hk : w.heap.size = k0 at KP ⊢
  refine (hO _).mono ?_
  rintro e w1 ⟨v, rfl, hb1, rfl⟩
  replace KP := KP.call hb1
  clear hb1 HQ hO
  obtain ⟨xc0, xc1, xc2, xc3, xf⟩ := KP.head
  have zx := KP.head.lt
  go_wp2_with fail
  refine (hBy _).mono ?_
  rintro e w2 ⟨v, rfl, hb2, g, rfl, hg, hH⟩
  have hc : w2.cell? ⟨w1.heap.size, 0, none⟩ = some (.int .u8 2) := by
    rw [hb2.cell (p := ⟨w1.heap.size, 0, none⟩) (by show w1.heap.size < _; rw [World.size_alloc]; omega), World.cell?_alloc_new]
    rfl
  have hle : k0 ≤ w2.heap.size := Nat.le_trans KP.le (Nat.le_trans (by rw [World.size_alloc]; omega) hb2.size)
  have hbl : Hid (Below k0 w w2) := ((KP.alloc _).call hb2).bl
  clear KP hb2 xc0 xc1 xc2 xc3 xf zx hg
  obtain ⟨W3, cp, hap, hb3, hcp, hsz3, hH3⟩ := grow33 w2 w1.heap.size g 2 B hbs hc hH
  generalize w1.heap.size = km at hap ⊢
  go_wp2_with (at_builtin; refine Lib.wpList_append_run _ rfl _ _ 24 24 rfl _ _ rfl rfl _ _ hap ?_)
  go_ret
  refine ⟨_, rfl, ?_, _, cp, rfl, hcp, ?_, hsz3, hH3⟩
  · rw [hk]; exact hbl.out.trans (hb3.mono hle)
  · rw [hk]; exact hle
theorem bytes_c (C : Fld P) (x y : Fin P) (w : World) : Calls Tryz.prog 61 #[pv x y] w (Ret fun e w' => Below w.heap.size w w' ∧ BytesR w (by33 x y) e w') := by
  unfold by33 mark
  by_cases hz : x = 0 ∧ y = 0
  · rw [if_pos hz]
    exact bytes_zero C x y hz w
  · rw [if_neg hz]
    by_cases ho : y.val % 2 = 1
    · rw [if_pos ho]
      exact bytes_odd C x y hz ho w
    · rw [if_neg ho]
      exact bytes_even C x y hz ho w
end Go.Proofs.YtmepmoalhgehhaaGreatDoor
namespace Go.Proofs.YtmepmoalhgehhaaGreatDoor
open Go.RowKit Go.Sort Go.Deep
theorem u23 : (Tryz.prog.underlying 24).map (·.isRow) = some false := by kernel_rfl
theorem at46 (k o n c i : Nat) (hi : i < n) (w : World) : (Instr.indexAt 33 (.slice (some ⟨k, o, none⟩) n c) (.int .i64 (i : Int))).run Tryz.prog w = .ok (.pointer (some ⟨k, o + i, none⟩)) w := by
  have h1 : ¬ (i : Int) < 0 := by omega
  have h2 : (i : Int) < n := by omega
  go_simp
theorem mk112 (N : Nat) (hN : N ≤ 512) : ∃ C0 : List Value, C0.length = 8 * N ∧ ∀ w : World, (Instr.makeSlice 117 (.int .i64 (N : Int)) (.int .i64 (N : Int))).run Tryz.prog w = .ok (.slice (some ⟨w.heap.size, 0, none⟩) N N) (w.alloc (.cells C0.toArray 107)) := by
  have hu : Tryz.prog.underlying 117 = some (.slice 107) := by kernel_rfl
  have hi : (Tryz.prog.info? 107).map (fun i => (i.size, decide (i.bytes ≤ 4000), i.zero.isSome)) = some (8, true, true) := by kernel_rfl
  obtain ⟨i, hi1, hi2⟩ := Option.map_eq_some_iff.1 hi
  simp only [Prod.mk.injEq, decide_eq_true_eq] at hi2
  obtain ⟨h1, h2, h3⟩ := hi2
  obtain ⟨z, hz⟩ := Option.isSome_iff_exists.1 h3
  refine ⟨(madeCells z.cells (N * 8)).toList, by rw [Array.length_toList, size_madeCells, Nat.mul_comm], fun w => ?_⟩
  have hb : (i.bytes : Int) * (N : Int) ≤ 281474976710656 := by
    have : i.bytes * N ≤ 4000 * 512 := Nat.mul_le_mul h2 hN
    have h5 : ((i.bytes * N : Nat) : Int) ≤ 281474976710656 := by omega
    rwa [Int.natCast_mul] at h5
  have := run_make (P := Tryz.prog) w 117 107 i z hu hi1 hz .i64 .i64 (N : Int) (N : Int) (by omega) (by omega) hb (by omega)
  rw [Int.toNat_natCast, h1] at this
  rw [Array.toArray_toList]
  exact this
theorem mk82 (N : Nat) (hN : N ≤ 512) : ∃ C0 : List Value, C0.length = 4 * N ∧ ∀ w : World, (Instr.makeSlice 114 (.int .i64 (N : Int)) (.int .i64 (N : Int))).run Tryz.prog w = .ok (.slice (some ⟨w.heap.size, 0, none⟩) N N) (w.alloc (.cells C0.toArray 45)) := by
  have hu : Tryz.prog.underlying 114 = some (.slice 45) := by kernel_rfl
  have hi : (Tryz.prog.info? 45).map (fun i => (i.size, decide (i.bytes ≤ 4000), i.zero.isSome)) = some (4, true, true) := by kernel_rfl
  obtain ⟨i, hi1, hi2⟩ := Option.map_eq_some_iff.1 hi
  simp only [Prod.mk.injEq, decide_eq_true_eq] at hi2
  obtain ⟨h1, h2, h3⟩ := hi2
  obtain ⟨z, hz⟩ := Option.isSome_iff_exists.1 h3
  refine ⟨(madeCells z.cells (N * 4)).toList, by rw [Array.length_toList, size_madeCells, Nat.mul_comm], fun w => ?_⟩
  have hb : (i.bytes : Int) * (N : Int) ≤ 281474976710656 := by
    have : i.bytes * N ≤ 4000 * 512 := Nat.mul_le_mul h2 hN
    have h5 : ((i.bytes * N : Nat) : Int) ≤ 281474976710656 := by omega
    rwa [Int.natCast_mul] at h5
  have := run_make (P := Tryz.prog) w 114 45 i z hu hi1 hz .i64 .i64 (N : Int) (N : Int) (by omega) (by omega) hb (by omega)
  rw [Int.toNat_natCast, h1] at this
  rw [Array.toArray_toList]
  exact this
/-- Rows of sz cells: m of them are there. -/
structure Rows (sz N : Nat) (cell : Nat → List Value) (m : Nat) (C : List Value) : Prop where
  len : C.length = sz * N
  row : ∀ j r, j < m → r < sz → C[sz * j + r]? = (cell j)[r]?
theorem Rows.next {sz N m : Nat} {cell : Nat → List Value} {C : List Value} (h : Rows sz N cell m C) (hm : m < N) (hc : (cell m).length = sz) : Rows sz N cell (m + 1) (RG.rep C (0 + sz * m) (cell m)) := by
  have hlen := h.len
  have hb : sz * m + sz ≤ sz * N := by rw [← Nat.mul_succ]; exact Nat.mul_le_mul_left _ hm
  have hl : 0 + sz * m + (cell m).length ≤ C.length := by rw [hc]; omega
  refine ⟨by rw [RG.rep_length hl]; exact hlen, fun j r hj hr => ?_⟩
  rw [RG.rep_at hl]
  by_cases hjm : j = m
  · subst hjm
    rw [if_pos (by rw [hc]; omega), show sz * j + r - (0 + sz * j) = r by omega]
  · have h2 : sz * j + sz ≤ sz * m := by rw [← Nat.mul_succ]; exact Nat.mul_le_mul_left _ (by omega)
    rw [if_neg (by rw [hc]; omega)]
    exact h.row j r (by omega) hr
/-- Bytes as a number of the order. -/
def rq (N : Nat) (bs : Bs) : Option Nat := if bs.size = 32 ∧ beV bs.toList < N then some (beV bs.toList) else none
def rqV : Option Nat → Value
  | none => .tuple #[nv 0, .bool false]
  | some n => .tuple #[nv n, .bool true]
theorem Scalars_c : Gives 86 #[] gv1 := fun w => (Scalars_any w).mono (by rintro e w' ⟨rfl, rfl⟩; exact ⟨_, rfl, below1 _ _, rfl⟩)
theorem readQ_c {N : Nat} (hG : Gap 4624529908474429119 4994812053365940164 1 N) (v : Value) (bs : Bs) (w : World) (hv : Arg w v bs) : Calls Tryz.prog 89 #[gv1, v] w (Ret fun e w' => Below w.heap.size w w' ∧ e = rqV (rq N bs)) := by
  obtain ⟨p, n, cap, rfl, hs, h1⟩ := hv
  unfold rq
  by_cases hn : n = 32
  · subst hn
    obtain ⟨g, o, rfl, h4, h6, h7⟩ := h1 rfl
    refine (Read_any _ _ _ N g o cap bs hG w hs h4 h6 h7).mono ?_
    rintro e w' ⟨v, rfl, hb, ⟨hl, v', rfl, h8⟩ | ⟨hl, rfl⟩⟩
    · rw [if_pos ⟨hs, hl⟩]
      exact ⟨_, rfl, hb, by rw [h8.nv]; rfl⟩
    · rw [if_neg (fun h => by omega)]
      exact ⟨_, rfl, hb, rfl⟩
  · refine (Read_len _ p n cap w _ _ _ rfl hn).mono ?_
    rintro e w' ⟨v, rfl, hb, rfl⟩
    rw [if_neg (fun h => hn (hs.symm.trans h.1))]
    exact ⟨_, rfl, hb, rfl⟩
end Go.Proofs.YtmepmoalhgehhaaGreatDoor
namespace Go.Proofs.YtmepmoalhgehhaaGreatDoor
open Go.RowKit Go.Sort
/-- A prime as the reference has it: itself, and what is missing to 2^256. -/
structure RefP (p0 p1 p2 p3 c0 c1 c2 c3 P : Nat) : Prop where
  hp0 : p0 < 18446744073709551616
  hp1 : p1 < 18446744073709551616
  hp2 : p2 < 18446744073709551616
  hp3 : p3 < 18446744073709551616
  hc0 : c0 < 18446744073709551616
  hc1 : c1 < 18446744073709551616
  hc2 : c2 < 18446744073709551616
  hc3 : c3 < 18446744073709551616
  eP : P = val p0 p1 p2 p3
  hP : P + val c0 c1 c2 c3 = top
  hP2 : top < 2 * P
theorem refP0 : RefP 18446744069414583343 18446744073709551615 18446744073709551615 18446744073709551615 4294968273 0 0 0 Go.Proofs.YtmepmoalhgehhaaGreatDoor.p0 :=
  ⟨by decide, by decide, by decide, by decide, by decide, by decide, by decide, by decide, by decide +kernel, by decide +kernel, by decide +kernel⟩
theorem refP1 : RefP 13822214165235122497 13451932020343611451 18446744073709551614 18446744073709551615 4624529908474429119 4994812053365940164 1 0 Go.Proofs.YtmepmoalhgehhaaGreatDoor.p1 :=
  ⟨by decide, by decide, by decide, by decide, by decide, by decide, by decide, by decide, by decide +kernel, by decide +kernel, by decide +kernel⟩
theorem low0 : 2 ≤ Go.Proofs.YtmepmoalhgehhaaGreatDoor.p0 % 18446744073709551616 := by decide +kernel
theorem low1 : 2 ≤ Go.Proofs.YtmepmoalhgehhaaGreatDoor.p1 % 18446744073709551616 := by decide +kernel
end Go.Proofs.YtmepmoalhgehhaaGreatDoor
namespace Go.Proofs.YtmepmoalhgehhaaGreatDoor
open Go.RowKit Go.Sort
set_option maxHeartbeats 2000000 in
set_option maxRecDepth 100000 in
theorem rless_any (x y : Value) (m n : Nat) (hx : Four x m) (hy : Four y n) (w : World) :
    Calls Tryz.prog 76 #[x, y] w (Ret fun e w' => Below w.heap.size w w' ∧ ∃ (v : Value) (s k : Nat), e = .tuple #[v, .int .u64 (k : Int)] ∧ Four v s ∧ k ≤ 1 ∧ s + n = m + top * k) := by
  obtain ⟨a, b, c, d, rfl, ha, hb, hc, hd, em⟩ := hx
  obtain ⟨p, q, r, s, rfl, hp, hq, hr, hs, en⟩ := hy
  obtain ⟨s0, k0, a0, hs0, hk0, e0⟩ := sub64z a p ha hp
  obtain ⟨s1, k1, a1, hs1, hk1, e1⟩ := sub64 b q k0 hb hq hk0
  obtain ⟨s2, k2, a2, hs2, hk2, e2⟩ := sub64 c r k1 hc hr hk1
  obtain ⟨s3, k3, a3, hs3, hk3, e3⟩ := sub64 d s k2 hd hs hk2
  have hv : val s0 s1 s2 s3 + n = m + top * k3 := by rw [em, en]; unfold val top; omega
  clear e0 e1 e2 e3 em en
  go_enter Tryz.func76, Tryz.ntmps76
  go_wp2
  refine wp_loop_rounds 5 ?_
  rw [rounds_succ]; go_wp2; go_region
  go_wp2; rw [rounds_succ]; go_wp2; go_region
  go_wp2; rw [rounds_succ]; go_wp2; go_region
  go_wp2; rw [rounds_succ]; go_wp2; go_region
  go_wp2; rw [rounds_succ]; go_wp2
  refine bodyPost_ret (v := ?v) ?hr rfl ?hR
  case hr => simp [results, Tryz.results76, go_sem]; rfl
  exact ⟨_, rfl, (below4 _ _ _ _ _).drew.drew.drew.drew, _, _, k3, rfl, Four.mk hs0 hs1 hs2 hs3 rfl, hk3, hv⟩
/-- Eight words are the number n. -/
def Eight (v : Value) (n : Nat) : Prop := ∃ a b c d a' b' c' d' : Nat, v = .agg #[.int .u64 (a : Int), .int .u64 (b : Int), .int .u64 (c : Int), .int .u64 (d : Int), .int .u64 (a' : Int), .int .u64 (b' : Int), .int .u64 (c' : Int), .int .u64 (d' : Int)] ∧
  a < 18446744073709551616 ∧ b < 18446744073709551616 ∧ c < 18446744073709551616 ∧ d < 18446744073709551616 ∧ a' < 18446744073709551616 ∧ b' < 18446744073709551616 ∧ c' < 18446744073709551616 ∧ d' < 18446744073709551616 ∧
  n = val a b c d + top * val a' b' c' d'
theorem add_halves {m n a b c d s u k l : Nat} (em : m = a + top * b) (en : n = c + top * d) (h1 : s + top * k = a + c) (h2 : u + top * l = b + d + k) (hlt : m + n < top * top) : m + n = s + top * u := by
  have h3 : top * u + top * top * l = top * b + top * d + top * k := by rw [Nat.mul_assoc, ← Nat.mul_add, h2, Nat.mul_add, Nat.mul_add]
  have h4 : m + n = s + top * u + top * top * l := by omega
  have h5 : l = 0 := by
    rcases Nat.eq_zero_or_pos l with h | h
    · exact h
    · have := Nat.le_mul_of_pos_right (top * top) h
      omega
  rw [h4, h5, Nat.mul_zero, Nat.add_zero]
set_option maxHeartbeats 4000000 in
set_option maxRecDepth 100000 in
theorem rplus_any (x y : Value) (m n : Nat) (hx : Eight x m) (hy : Eight y n) (hlt : m + n < top * top) (w : World) :
    Calls Tryz.prog 58 #[x, y] w (Ret fun e w' => Below w.heap.size w w' ∧ Eight e (m + n)) := by
  obtain ⟨a, b, c, d, aa, bb, cc, dd, rfl, ha, hb, hc, hd, haa, hbb, hcc, hdd, em⟩ := hx
  obtain ⟨p, q, r, s, pp, qq, rr, ss, rfl, hp, hq, hr, hs, hpp, hqq, hrr, hss, en⟩ := hy
  obtain ⟨s0, k0, a0, hs0, hk0, e0⟩ := add64z a p ha hp
  obtain ⟨s1, k1, a1, hs1, hk1, e1⟩ := add64 b q k0 hb hq hk0
  obtain ⟨s2, k2, a2, hs2, hk2, e2⟩ := add64 c r k1 hc hr hk1
  obtain ⟨s3, k3, a3, hs3, hk3, e3⟩ := add64 d s k2 hd hs hk2
  obtain ⟨s4, k4, a4, hs4, hk4, e4⟩ := add64 aa pp k3 haa hpp hk3
  obtain ⟨s5, k5, a5, hs5, hk5, e5⟩ := add64 bb qq k4 hbb hqq hk4
  obtain ⟨s6, k6, a6, hs6, hk6, e6⟩ := add64 cc rr k5 hcc hrr hk5
  obtain ⟨s7, k7, a7, hs7, hk7, e7⟩ := add64 dd ss k6 hdd hss hk6
  have v1 : val s0 s1 s2 s3 + top * k3 = val a b c d + val p q r s := by clear em en hlt e4 e5 e6 e7; unfold val top; omega
  have v2 : val s4 s5 s6 s7 + top * k7 = val aa bb cc dd + val pp qq rr ss + k3 := by clear em en hlt e0 e1 e2 e3; unfold val top; omega
  have hv : m + n = val s0 s1 s2 s3 + top * val s4 s5 s6 s7 := add_halves em en v1 v2 hlt
  clear e0 e1 e2 e3 e4 e5 e6 e7 em en hlt
  go_enter Tryz.func58, Tryz.ntmps58
  go_wp2
  refine wp_loop_rounds 9 ?_
  rw [rounds_succ]; go_wp2; go_region
  go_wp2; rw [rounds_succ]; go_wp2; go_region
  go_wp2; rw [rounds_succ]; go_wp2; go_region
  go_wp2; rw [rounds_succ]; go_wp2; go_region
  go_wp2; rw [rounds_succ]; go_wp2; go_region
  go_wp2; rw [rounds_succ]; go_wp2; go_region
  go_wp2; rw [rounds_succ]; go_wp2; go_region
  go_wp2; rw [rounds_succ]; go_wp2; go_region
  go_wp2; rw [rounds_succ]; go_wp2
  refine bodyPost_ret (v := ?v) ?hr rfl ?hR
  case hr => simp [results, Tryz.results58, go_sem]; rfl
  exact ⟨_, rfl, (below3 _ _ _ _).drew.drew.drew.drew.drew.drew.drew.drew, s0, s1, s2, s3, s4, s5, s6, s7, rfl, hs0, hs1, hs2, hs3, hs4, hs5, hs6, hs7, hv⟩
end Go.Proofs.YtmepmoalhgehhaaGreatDoor
namespace Go.Proofs.YtmepmoalhgehhaaGreatDoor
open Go.RowKit Go.Sort
theorem four_rows {a b c d n r0 r1 r2 r3 s0 s1 s2 s3 t0 t1 t2 t3 u0 u1 u2 u3 h0 h1 h2 h3 : Nat}
    (e0 : r0 + 18446744073709551616 * val r1 r2 r3 h0 = a * n + val 0 0 0 0)
    (e1 : s0 + 18446744073709551616 * val s1 s2 s3 h1 = b * n + val r1 r2 r3 h0)
    (e2 : t0 + 18446744073709551616 * val t1 t2 t3 h2 = c * n + val s1 s2 s3 h1)
    (e3 : u0 + 18446744073709551616 * val u1 u2 u3 h3 = d * n + val t1 t2 t3 h2) :
    val a b c d * n = val r0 s0 t0 u0 + top * val u1 u2 u3 h3 := by
  have hm : val a b c d * n = val (a * n) (b * n) (c * n) (d * n) := by
    rw [Nat.mul_comm, mul_val, Nat.mul_comm n a, Nat.mul_comm n b, Nat.mul_comm n c, Nat.mul_comm n d]
  rw [hm]
  generalize a * n = x0 at *
  generalize b * n = x1 at *
  generalize c * n = x2 at *
  generalize d * n = x3 at *
  generalize val r1 r2 r3 h0 = y0 at *
  generalize val s1 s2 s3 h1 = y1 at *
  generalize val t1 t2 t3 h2 = y2 at *
  generalize val u1 u2 u3 h3 = y3 at *
  unfold val at *
  unfold top
  omega
set_option maxHeartbeats 16000000 in
set_option maxRecDepth 100000 in
theorem rproduct_any (x y : Value) (m n : Nat) (hx : Four x m) (hy : Four y n) (w : World) :
    Calls Tryz.prog 56 #[x, y] w (Ret fun e w' => Below w.heap.size w w' ∧ Eight e (m * n)) := by
  obtain ⟨a, b, c, d, rfl, ha, hb, hc, hd, em⟩ := hx
  obtain ⟨p, q, r, s, rfl, hp, hq, hr, hs, en⟩ := hy
  go_enter Tryz.func56, Tryz.ntmps56
  go_wp2
  refine wp_loop_rounds 5 ?_
  have X := (((At4.made w 58 a b c d rfl).alloc (.cells #[.int .u64 (p : Int), .int .u64 (q : Int), .int .u64 (r : Int), .int .u64 (s : Int)] 58)).alloc (.cells #[.int .u64 0, .int .u64 0, .int .u64 0, .int .u64 0, .int .u64 0, .int .u64 0, .int .u64 0, .int .u64 0] 101)).alloc (.cells #[.int .u64 0, .int .u64 0, .int .u64 0, .int .u64 0, .int .u64 0, .int .u64 0, .int .u64 0, .int .u64 0] 101)
  have Y := ((At4.made (w.alloc (.cells #[.int .u64 (a : Int), .int .u64 (b : Int), .int .u64 (c : Int), .int .u64 (d : Int)] 58)) 58 p q r s (World.size_alloc _ _)).alloc (.cells #[.int .u64 0, .int .u64 0, .int .u64 0, .int .u64 0, .int .u64 0, .int .u64 0, .int .u64 0, .int .u64 0] 101)).alloc (.cells #[.int .u64 0, .int .u64 0, .int .u64 0, .int .u64 0, .int .u64 0, .int .u64 0, .int .u64 0, .int .u64 0] 101)
  have R := (At8.made ((w.alloc (.cells #[.int .u64 (a : Int), .int .u64 (b : Int), .int .u64 (c : Int), .int .u64 (d : Int)] 58)).alloc (.cells #[.int .u64 (p : Int), .int .u64 (q : Int), .int .u64 (r : Int), .int .u64 (s : Int)] 58)) 101 0 0 0 0 0 0 0 0 (k := w.heap.size + 1 + 1) (by simp)).alloc (.cells #[.int .u64 0, .int .u64 0, .int .u64 0, .int .u64 0, .int .u64 0, .int .u64 0, .int .u64 0, .int .u64 0] 101)
  have O := At8.made (((w.alloc (.cells #[.int .u64 (a : Int), .int .u64 (b : Int), .int .u64 (c : Int), .int .u64 (d : Int)] 58)).alloc (.cells #[.int .u64 (p : Int), .int .u64 (q : Int), .int .u64 (r : Int), .int .u64 (s : Int)] 58)).alloc (.cells #[.int .u64 0, .int .u64 0, .int .u64 0, .int .u64 0, .int .u64 0, .int .u64 0, .int .u64 0, .int .u64 0] 101)) 101 0 0 0 0 0 0 0 0 (k := w.heap.size + 1 + 1 + 1) (by simp)
  have BL : Hid (Below w.heap.size w _) := below4 w (.cells #[.int .u64 (a : Int), .int .u64 (b : Int), .int .u64 (c : Int), .int .u64 (d : Int)] 58) (.cells #[.int .u64 (p : Int), .int .u64 (q : Int), .int .u64 (r : Int), .int .u64 (s : Int)] 58) (.cells #[.int .u64 0, .int .u64 0, .int .u64 0, .int .u64 0, .int .u64 0, .int .u64 0, .int .u64 0, .int .u64 0] 101) (.cells #[.int .u64 0, .int .u64 0, .int .u64 0, .int .u64 0, .int .u64 0, .int .u64 0, .int .u64 0, .int .u64 0] 101)
  simp only [Int.natCast_zero] at R O
  generalize World.alloc _ _ = W0 at X Y R O BL ⊢
  generalize h3 : w.heap.size + 1 + 1 + 1 = k3 at O ⊢
  generalize h2 : w.heap.size + 1 + 1 = k2 at R ⊢
  generalize h1 : w.heap.size + 1 = k1 at Y ⊢
  have Q3 : Hid (w.heap.size ≤ k3) := by unfold Hid; omega
  have Q2 : Hid (w.heap.size ≤ k2) := by unfold Hid; omega
  generalize h0 : w.heap.size = k0 at X BL Q2 Q3 ⊢
  have n03 : k0 ≠ k3 := by omega
  have n13 : k1 ≠ k3 := by omega
  have n23 : k2 ≠ k3 := by omega
  have H0 : Hid (w.heap.size = k0) := h0
  clear h0 h1 h2 h3
  obtain ⟨xc0, xc1, xc2, xc3, xf⟩ := id X
  obtain ⟨yc0, yc1, yc2, yc3, yf⟩ := id Y
  obtain ⟨oc0, oc1, oc2, oc3, oc4, oc5, oc6, oc7, of⟩ := id O
  simp only [Int.natCast_zero] at oc0 oc1 oc2 oc3 oc4 oc5 oc6 oc7
  rw [rounds_succ]; go_wp2
  refine wp_loop_rounds 5 ?_
  obtain ⟨h00, l00, s00, k00, o00, j00, g00, y00, m00, b00, d00, v00, z00, ho00, hy00, e00⟩ := mulstep a p 0 0 ha hp (by decide) (by decide)
  simp only [Int.natCast_zero] at b00
  simp only [Int.natCast_zero] at d00
  rw [rounds_succ]; go_wp2
  go_quiet ((go_at_call 82; exact Calls.quiet_of_same (m00 _)))
  revert nq; intro nq00
  go_wp2_with (first | simp only [b00] | simp only [d00])
  obtain ⟨h01, l01, s01, k01, o01, j01, g01, y01, m01, b01, d01, v01, z01, ho01, hy01, e01⟩ := mulstep a q 0 y00 ha hq (by decide) hy00
  simp only [Int.natCast_zero] at d01
  rw [rounds_succ]; go_wp2
  go_quiet ((go_at_call 82; exact Calls.quiet_of_same (m01 _)))
  revert nq; intro nq01
  go_wp2_with (first | simp only [b01] | simp only [d01])
  obtain ⟨h02, l02, s02, k02, o02, j02, g02, y02, m02, b02, d02, v02, z02, ho02, hy02, e02⟩ := mulstep a r 0 y01 ha hr (by decide) hy01
  simp only [Int.natCast_zero] at d02
  rw [rounds_succ]; go_wp2
  go_quiet ((go_at_call 82; exact Calls.quiet_of_same (m02 _)))
  revert nq; intro nq02
  go_wp2_with (first | simp only [b02] | simp only [d02])
  obtain ⟨h03, l03, s03, k03, o03, j03, g03, y03, m03, b03, d03, v03, z03, ho03, hy03, e03⟩ := mulstep a s 0 y02 ha hs (by decide) hy02
  simp only [Int.natCast_zero] at d03
  rw [rounds_succ]; go_wp2
  go_quiet ((go_at_call 82; exact Calls.quiet_of_same (m03 _)))
  revert nq; intro nq03
  go_wp2_with (first | simp only [b03] | simp only [d03])
  rw [rounds_succ]; go_wp2
  have R0 := row_sum (n := val 0 0 0 0) (p := 0) (q := 0) (r := 0) (s := 0) (x := a) (l0 := o00) (l1 := o01) (l2 := o02) (l3 := o03) en rfl e00 e01 e02 e03
  have HR0 : Hid _ := R0
  clear R0
  clear e00 e01 e02 e03 m00 b00 d00 v00 z00 m01 b01 d01 v01 z01 m02 b02 d02 v02 z02 m03 b03 d03 v03 z03
  clear xc0 xc1 xc2 xc3 xf yc0 yc1 yc2 yc3 yf oc0 oc1 oc2 oc3 oc4 oc5 oc6 oc7 of
  have X0 := (((((((((X).drewN nq00).other (o := 0) n03.symm (.int .u64 (o00 : Int))).drewN nq01).other (o := 1) n03.symm (.int .u64 (o01 : Int))).drewN nq02).other (o := 2) n03.symm (.int .u64 (o02 : Int))).drewN nq03).other (o := 3) n03.symm (.int .u64 (o03 : Int))).other (o := 4) n03.symm (.int .u64 (y03 : Int))
  have Y0 := (((((((((Y).drewN nq00).other (o := 0) n13.symm (.int .u64 (o00 : Int))).drewN nq01).other (o := 1) n13.symm (.int .u64 (o01 : Int))).drewN nq02).other (o := 2) n13.symm (.int .u64 (o02 : Int))).drewN nq03).other (o := 3) n13.symm (.int .u64 (o03 : Int))).other (o := 4) n13.symm (.int .u64 (y03 : Int))
  have RR0 := (((((((((R).drewN nq00).other (o := 0) n23.symm (.int .u64 (o00 : Int))).drewN nq01).other (o := 1) n23.symm (.int .u64 (o01 : Int))).drewN nq02).other (o := 2) n23.symm (.int .u64 (o02 : Int))).drewN nq03).other (o := 3) n23.symm (.int .u64 (o03 : Int))).other (o := 4) n23.symm (.int .u64 (y03 : Int))
  have O0 := (((((((((O).drewN nq00).set0 o00).drewN nq01).set1 o01).drewN nq02).set2 o02).drewN nq03).set3 o03).set4 y03
  have BL0 : Hid (Below k0 w _) := ((belowDrewN ((belowDrewN ((belowDrewN ((belowDrewN (BL.out) nq00).setCell (p := ⟨k3, 0, none⟩) Q3.out (.int .u64 (o00 : Int))) nq01).setCell (p := ⟨k3, 1, none⟩) Q3.out (.int .u64 (o01 : Int))) nq02).setCell (p := ⟨k3, 2, none⟩) Q3.out (.int .u64 (o02 : Int))) nq03).setCell (p := ⟨k3, 3, none⟩) Q3.out (.int .u64 (o03 : Int))).setCell (p := ⟨k3, 4, none⟩) Q3.out (.int .u64 (y03 : Int))
  generalize World.setCell _ _ _ = W1 at X0 Y0 RR0 O0 BL0 ⊢
  clear X Y R O BL
  have X := X0
  have Y := Y0
  have R := RR0
  have O := O0
  have BL := BL0
  clear X0 Y0 RR0 O0 BL0
  obtain ⟨xc0, xc1, xc2, xc3, xf⟩ := id X
  obtain ⟨yc0, yc1, yc2, yc3, yf⟩ := id Y
  obtain ⟨oc0, oc1, oc2, oc3, oc4, oc5, oc6, oc7, of⟩ := id O
  simp only [Int.natCast_zero] at oc5 oc6 oc7
  rw [rounds_succ]; go_wp2
  refine wp_loop_rounds 5 ?_
  obtain ⟨h10, l10, s10, k10, o10, j10, g10, y10, m10, b10, d10, v10, z10, ho10, hy10, e10⟩ := mulstep b p o01 0 hb hp ho01 (by decide)
  simp only [Int.natCast_zero] at b10
  rw [rounds_succ]; go_wp2
  go_quiet ((go_at_call 82; exact Calls.quiet_of_same (m10 _)))
  revert nq; intro nq10
  go_wp2_with (first | simp only [b10] | simp only [d10])
  obtain ⟨h11, l11, s11, k11, o11, j11, g11, y11, m11, b11, d11, v11, z11, ho11, hy11, e11⟩ := mulstep b q o02 y10 hb hq ho02 hy10
  rw [rounds_succ]; go_wp2
  go_quiet ((go_at_call 82; exact Calls.quiet_of_same (m11 _)))
  revert nq; intro nq11
  go_wp2_with (first | simp only [b11] | simp only [d11])
  obtain ⟨h12, l12, s12, k12, o12, j12, g12, y12, m12, b12, d12, v12, z12, ho12, hy12, e12⟩ := mulstep b r o03 y11 hb hr ho03 hy11
  rw [rounds_succ]; go_wp2
  go_quiet ((go_at_call 82; exact Calls.quiet_of_same (m12 _)))
  revert nq; intro nq12
  go_wp2_with (first | simp only [b12] | simp only [d12])
  obtain ⟨h13, l13, s13, k13, o13, j13, g13, y13, m13, b13, d13, v13, z13, ho13, hy13, e13⟩ := mulstep b s y03 y12 hb hs hy03 hy12
  rw [rounds_succ]; go_wp2
  go_quiet ((go_at_call 82; exact Calls.quiet_of_same (m13 _)))
  revert nq; intro nq13
  go_wp2_with (first | simp only [b13] | simp only [d13])
  rw [rounds_succ]; go_wp2
  have R1 := row_sum (n := val o01 o02 o03 y03) (p := o01) (q := o02) (r := o03) (s := y03) (x := b) (l0 := o10) (l1 := o11) (l2 := o12) (l3 := o13) en rfl e10 e11 e12 e13
  have HR1 : Hid _ := R1
  clear R1
  clear e10 e11 e12 e13 m10 b10 d10 v10 z10 m11 b11 d11 v11 z11 m12 b12 d12 v12 z12 m13 b13 d13 v13 z13
  clear xc0 xc1 xc2 xc3 xf yc0 yc1 yc2 yc3 yf oc0 oc1 oc2 oc3 oc4 oc5 oc6 oc7 of
  have X1 := (((((((((X).drewN nq10).other (o := 1) n03.symm (.int .u64 (o10 : Int))).drewN nq11).other (o := 2) n03.symm (.int .u64 (o11 : Int))).drewN nq12).other (o := 3) n03.symm (.int .u64 (o12 : Int))).drewN nq13).other (o := 4) n03.symm (.int .u64 (o13 : Int))).other (o := 5) n03.symm (.int .u64 (y13 : Int))
  have Y1 := (((((((((Y).drewN nq10).other (o := 1) n13.symm (.int .u64 (o10 : Int))).drewN nq11).other (o := 2) n13.symm (.int .u64 (o11 : Int))).drewN nq12).other (o := 3) n13.symm (.int .u64 (o12 : Int))).drewN nq13).other (o := 4) n13.symm (.int .u64 (o13 : Int))).other (o := 5) n13.symm (.int .u64 (y13 : Int))
  have RR1 := (((((((((R).drewN nq10).other (o := 1) n23.symm (.int .u64 (o10 : Int))).drewN nq11).other (o := 2) n23.symm (.int .u64 (o11 : Int))).drewN nq12).other (o := 3) n23.symm (.int .u64 (o12 : Int))).drewN nq13).other (o := 4) n23.symm (.int .u64 (o13 : Int))).other (o := 5) n23.symm (.int .u64 (y13 : Int))
  have O1 := (((((((((O).drewN nq10).set1 o10).drewN nq11).set2 o11).drewN nq12).set3 o12).drewN nq13).set4 o13).set5 y13
  have BL1 : Hid (Below k0 w _) := ((belowDrewN ((belowDrewN ((belowDrewN ((belowDrewN (BL.out) nq10).setCell (p := ⟨k3, 1, none⟩) Q3.out (.int .u64 (o10 : Int))) nq11).setCell (p := ⟨k3, 2, none⟩) Q3.out (.int .u64 (o11 : Int))) nq12).setCell (p := ⟨k3, 3, none⟩) Q3.out (.int .u64 (o12 : Int))) nq13).setCell (p := ⟨k3, 4, none⟩) Q3.out (.int .u64 (o13 : Int))).setCell (p := ⟨k3, 5, none⟩) Q3.out (.int .u64 (y13 : Int))
  generalize World.setCell _ _ _ = W2 at X1 Y1 RR1 O1 BL1 ⊢
  clear X Y R O BL
  have X := X1
  have Y := Y1
  have R := RR1
  have O := O1
  have BL := BL1
  clear X1 Y1 RR1 O1 BL1
  obtain ⟨xc0, xc1, xc2, xc3, xf⟩ := id X
  obtain ⟨yc0, yc1, yc2, yc3, yf⟩ := id Y
  obtain ⟨oc0, oc1, oc2, oc3, oc4, oc5, oc6, oc7, of⟩ := id O
  simp only [Int.natCast_zero] at oc6 oc7
  rw [rounds_succ]; go_wp2
  refine wp_loop_rounds 5 ?_
  obtain ⟨h20, l20, s20, k20, o20, j20, g20, y20, m20, b20, d20, v20, z20, ho20, hy20, e20⟩ := mulstep c p o11 0 hc hp ho11 (by decide)
  simp only [Int.natCast_zero] at b20
  rw [rounds_succ]; go_wp2
  go_quiet ((go_at_call 82; exact Calls.quiet_of_same (m20 _)))
  revert nq; intro nq20
  go_wp2_with (first | simp only [b20] | simp only [d20])
  obtain ⟨h21, l21, s21, k21, o21, j21, g21, y21, m21, b21, d21, v21, z21, ho21, hy21, e21⟩ := mulstep c q o12 y20 hc hq ho12 hy20
  rw [rounds_succ]; go_wp2
  go_quiet ((go_at_call 82; exact Calls.quiet_of_same (m21 _)))
  revert nq; intro nq21
  go_wp2_with (first | simp only [b21] | simp only [d21])
  obtain ⟨h22, l22, s22, k22, o22, j22, g22, y22, m22, b22, d22, v22, z22, ho22, hy22, e22⟩ := mulstep c r o13 y21 hc hr ho13 hy21
  rw [rounds_succ]; go_wp2
  go_quiet ((go_at_call 82; exact Calls.quiet_of_same (m22 _)))
  revert nq; intro nq22
  go_wp2_with (first | simp only [b22] | simp only [d22])
  obtain ⟨h23, l23, s23, k23, o23, j23, g23, y23, m23, b23, d23, v23, z23, ho23, hy23, e23⟩ := mulstep c s y13 y22 hc hs hy13 hy22
  rw [rounds_succ]; go_wp2
  go_quiet ((go_at_call 82; exact Calls.quiet_of_same (m23 _)))
  revert nq; intro nq23
  go_wp2_with (first | simp only [b23] | simp only [d23])
  rw [rounds_succ]; go_wp2
  have R2 := row_sum (n := val o11 o12 o13 y13) (p := o11) (q := o12) (r := o13) (s := y13) (x := c) (l0 := o20) (l1 := o21) (l2 := o22) (l3 := o23) en rfl e20 e21 e22 e23
  have HR2 : Hid _ := R2
  clear R2
  clear e20 e21 e22 e23 m20 b20 d20 v20 z20 m21 b21 d21 v21 z21 m22 b22 d22 v22 z22 m23 b23 d23 v23 z23
  clear xc0 xc1 xc2 xc3 xf yc0 yc1 yc2 yc3 yf oc0 oc1 oc2 oc3 oc4 oc5 oc6 oc7 of
  have X2 := (((((((((X).drewN nq20).other (o := 2) n03.symm (.int .u64 (o20 : Int))).drewN nq21).other (o := 3) n03.symm (.int .u64 (o21 : Int))).drewN nq22).other (o := 4) n03.symm (.int .u64 (o22 : Int))).drewN nq23).other (o := 5) n03.symm (.int .u64 (o23 : Int))).other (o := 6) n03.symm (.int .u64 (y23 : Int))
  have Y2 := (((((((((Y).drewN nq20).other (o := 2) n13.symm (.int .u64 (o20 : Int))).drewN nq21).other (o := 3) n13.symm (.int .u64 (o21 : Int))).drewN nq22).other (o := 4) n13.symm (.int .u64 (o22 : Int))).drewN nq23).other (o := 5) n13.symm (.int .u64 (o23 : Int))).other (o := 6) n13.symm (.int .u64 (y23 : Int))
  have RR2 := (((((((((R).drewN nq20).other (o := 2) n23.symm (.int .u64 (o20 : Int))).drewN nq21).other (o := 3) n23.symm (.int .u64 (o21 : Int))).drewN nq22).other (o := 4) n23.symm (.int .u64 (o22 : Int))).drewN nq23).other (o := 5) n23.symm (.int .u64 (o23 : Int))).other (o := 6) n23.symm (.int .u64 (y23 : Int))
  have O2 := (((((((((O).drewN nq20).set2 o20).drewN nq21).set3 o21).drewN nq22).set4 o22).drewN nq23).set5 o23).set6 y23
  have BL2 : Hid (Below k0 w _) := ((belowDrewN ((belowDrewN ((belowDrewN ((belowDrewN (BL.out) nq20).setCell (p := ⟨k3, 2, none⟩) Q3.out (.int .u64 (o20 : Int))) nq21).setCell (p := ⟨k3, 3, none⟩) Q3.out (.int .u64 (o21 : Int))) nq22).setCell (p := ⟨k3, 4, none⟩) Q3.out (.int .u64 (o22 : Int))) nq23).setCell (p := ⟨k3, 5, none⟩) Q3.out (.int .u64 (o23 : Int))).setCell (p := ⟨k3, 6, none⟩) Q3.out (.int .u64 (y23 : Int))
  generalize World.setCell _ _ _ = W3 at X2 Y2 RR2 O2 BL2 ⊢
  clear X Y R O BL
  have X := X2
  have Y := Y2
  have R := RR2
  have O := O2
  have BL := BL2
  clear X2 Y2 RR2 O2 BL2
  obtain ⟨xc0, xc1, xc2, xc3, xf⟩ := id X
  obtain ⟨yc0, yc1, yc2, yc3, yf⟩ := id Y
  obtain ⟨oc0, oc1, oc2, oc3, oc4, oc5, oc6, oc7, of⟩ := id O
  simp only [Int.natCast_zero] at oc7
  rw [rounds_succ]; go_wp2
  refine wp_loop_rounds 5 ?_
  obtain ⟨h30, l30, s30, k30, o30, j30, g30, y30, m30, b30, d30, v30, z30, ho30, hy30, e30⟩ := mulstep d p o21 0 hd hp ho21 (by decide)
  simp only [Int.natCast_zero] at b30
  rw [rounds_succ]; go_wp2
  go_quiet ((go_at_call 82; exact Calls.quiet_of_same (m30 _)))
  revert nq; intro nq30
  go_wp2_with (first | simp only [b30] | simp only [d30])
  obtain ⟨h31, l31, s31, k31, o31, j31, g31, y31, m31, b31, d31, v31, z31, ho31, hy31, e31⟩ := mulstep d q o22 y30 hd hq ho22 hy30
  rw [rounds_succ]; go_wp2
  go_quiet ((go_at_call 82; exact Calls.quiet_of_same (m31 _)))
  revert nq; intro nq31
  go_wp2_with (first | simp only [b31] | simp only [d31])
  obtain ⟨h32, l32, s32, k32, o32, j32, g32, y32, m32, b32, d32, v32, z32, ho32, hy32, e32⟩ := mulstep d r o23 y31 hd hr ho23 hy31
  rw [rounds_succ]; go_wp2
  go_quiet ((go_at_call 82; exact Calls.quiet_of_same (m32 _)))
  revert nq; intro nq32
  go_wp2_with (first | simp only [b32] | simp only [d32])
  obtain ⟨h33, l33, s33, k33, o33, j33, g33, y33, m33, b33, d33, v33, z33, ho33, hy33, e33⟩ := mulstep d s y23 y32 hd hs hy23 hy32
  rw [rounds_succ]; go_wp2
  go_quiet ((go_at_call 82; exact Calls.quiet_of_same (m33 _)))
  revert nq; intro nq33
  go_wp2_with (first | simp only [b33] | simp only [d33])
  rw [rounds_succ]; go_wp2
  have R3 := row_sum (n := val o21 o22 o23 y23) (p := o21) (q := o22) (r := o23) (s := y23) (x := d) (l0 := o30) (l1 := o31) (l2 := o32) (l3 := o33) en rfl e30 e31 e32 e33
  have HR3 : Hid _ := R3
  clear R3
  clear e30 e31 e32 e33 m30 b30 d30 v30 z30 m31 b31 d31 v31 z31 m32 b32 d32 v32 z32 m33 b33 d33 v33 z33
  clear xc0 xc1 xc2 xc3 xf yc0 yc1 yc2 yc3 yf oc0 oc1 oc2 oc3 oc4 oc5 oc6 oc7 of
  have X3 := (((((((((X).drewN nq30).other (o := 3) n03.symm (.int .u64 (o30 : Int))).drewN nq31).other (o := 4) n03.symm (.int .u64 (o31 : Int))).drewN nq32).other (o := 5) n03.symm (.int .u64 (o32 : Int))).drewN nq33).other (o := 6) n03.symm (.int .u64 (o33 : Int))).other (o := 7) n03.symm (.int .u64 (y33 : Int))
  have Y3 := (((((((((Y).drewN nq30).other (o := 3) n13.symm (.int .u64 (o30 : Int))).drewN nq31).other (o := 4) n13.symm (.int .u64 (o31 : Int))).drewN nq32).other (o := 5) n13.symm (.int .u64 (o32 : Int))).drewN nq33).other (o := 6) n13.symm (.int .u64 (o33 : Int))).other (o := 7) n13.symm (.int .u64 (y33 : Int))
  have RR3 := (((((((((R).drewN nq30).other (o := 3) n23.symm (.int .u64 (o30 : Int))).drewN nq31).other (o := 4) n23.symm (.int .u64 (o31 : Int))).drewN nq32).other (o := 5) n23.symm (.int .u64 (o32 : Int))).drewN nq33).other (o := 6) n23.symm (.int .u64 (o33 : Int))).other (o := 7) n23.symm (.int .u64 (y33 : Int))
  have O3 := (((((((((O).drewN nq30).set3 o30).drewN nq31).set4 o31).drewN nq32).set5 o32).drewN nq33).set6 o33).set7 y33
  have BL3 : Hid (Below k0 w _) := ((belowDrewN ((belowDrewN ((belowDrewN ((belowDrewN (BL.out) nq30).setCell (p := ⟨k3, 3, none⟩) Q3.out (.int .u64 (o30 : Int))) nq31).setCell (p := ⟨k3, 4, none⟩) Q3.out (.int .u64 (o31 : Int))) nq32).setCell (p := ⟨k3, 5, none⟩) Q3.out (.int .u64 (o32 : Int))) nq33).setCell (p := ⟨k3, 6, none⟩) Q3.out (.int .u64 (o33 : Int))).setCell (p := ⟨k3, 7, none⟩) Q3.out (.int .u64 (y33 : Int))
  generalize World.setCell _ _ _ = W4 at X3 Y3 RR3 O3 BL3 ⊢
  clear X Y R O BL
  have X := X3
  have Y := Y3
  have R := RR3
  have O := O3
  have BL := BL3
  clear X3 Y3 RR3 O3 BL3
  obtain ⟨oc0, oc1, oc2, oc3, oc4, oc5, oc6, oc7, of⟩ := id O
  obtain ⟨rc0, rc1, rc2, rc3, rc4, rc5, rc6, rc7, rf⟩ := id R
  have z3 := O.lt
  have z2 := R.lt
  rw [rounds_succ]; go_wp2
  have RF := R.self8 o00 o10 o20 o30 o31 o32 o33 y33
  unfold set8c at RF
  refine bodyPost_ret (v := ?v) ?hr rfl ?hR
  case hr => simp [results, Tryz.results56, go_sem, RF.c0, RF.c1, RF.c2, RF.c3, RF.c4, RF.c5, RF.c6, RF.c7]; rfl
  refine ⟨_, rfl, ?_, o00, o10, o20, o30, o31, o32, o33, y33, rfl, ho00, ho10, ho20, ho30, ho31, ho32, ho33, hy33, ?_⟩
  · rw [H0.out]; exact below_set8c BL.out Q2.out _ _ _ _ _ _ _ _
  · rw [em]; exact four_rows HR0.out HR1.out HR2.out HR3.out
end Go.Proofs.YtmepmoalhgehhaaGreatDoor
namespace Go.Proofs.YtmepmoalhgehhaaGreatDoor
open Go.RowKit Go.Sort
structure LessI (w wr : World) (p0 p1 p2 p3 c0 c1 c2 c3 a b c d e f g h : Nat) : Prop where
  bl : Below w.heap.size w wr
  fr : At8 wr w.heap.size p0 p1 p2 p3 c0 c1 c2 c3
  wi : At8 wr (w.heap.size + 1) a b c d e f g h
  re : At4 wr (w.heap.size + 1 + 1) 0 0 0 0
  ha : a < 18446744073709551616
  hb : b < 18446744073709551616
  hc : c < 18446744073709551616
  hd : d < 18446744073709551616
  he : e < 18446744073709551616
  hf : f < 18446744073709551616
  hg : g < 18446744073709551616
  hh : h < 18446744073709551616
theorem blcall8 {k a b c d e f g h : Nat} {w W w1 : World} (H : Hid (Below k w W)) (pr : At8 W k a b c d e f g h) (hb : Below W.heap.size W w1) : Hid (Below k w w1) := H.out.trans (hb.mono (Nat.le_of_lt pr.lt))
theorem mul_lt_top {x y : Nat} (hx : x < top) (hy : y < top) : x * y + top ≤ top * top := by
  have h1 : x * y ≤ (top - 1) * (top - 1) := Nat.mul_le_mul (by omega) (by omega)
  have h2 : (top - 1) * (top - 1) + top ≤ top * top := by unfold top; decide
  omega
section
variable {w w0 : World} {k a b c d e f g h j B : Nat}
theorem below_set8x (H : Below B w0 w) (hj : B ≤ j) (x0 x1 x2 x3 x4 x5 x6 x7 : Value) : Below B w0 ((((((((w.setCell ⟨j, 0, none⟩ x0).setCell ⟨j, 1, none⟩ x1).setCell ⟨j, 2, none⟩ x2).setCell ⟨j, 3, none⟩ x3).setCell ⟨j, 4, none⟩ x4).setCell ⟨j, 5, none⟩ x5).setCell ⟨j, 6, none⟩ x6).setCell ⟨j, 7, none⟩ x7) := below_set8c H hj x0 x1 x2 x3 x4 x5 x6 x7
theorem At8.other8x (H : At8 w k a b c d e f g h) (hj : j ≠ k) (x0 x1 x2 x3 x4 x5 x6 x7 : Value) : At8 ((((((((w.setCell ⟨j, 0, none⟩ x0).setCell ⟨j, 1, none⟩ x1).setCell ⟨j, 2, none⟩ x2).setCell ⟨j, 3, none⟩ x3).setCell ⟨j, 4, none⟩ x4).setCell ⟨j, 5, none⟩ x5).setCell ⟨j, 6, none⟩ x6).setCell ⟨j, 7, none⟩ x7) k a b c d e f g h := H.other8 hj x0 x1 x2 x3 x4 x5 x6 x7
theorem At4.other8x (H : At4 w k a b c d) (hj : j ≠ k) (x0 x1 x2 x3 x4 x5 x6 x7 : Value) : At4 ((((((((w.setCell ⟨j, 0, none⟩ x0).setCell ⟨j, 1, none⟩ x1).setCell ⟨j, 2, none⟩ x2).setCell ⟨j, 3, none⟩ x3).setCell ⟨j, 4, none⟩ x4).setCell ⟨j, 5, none⟩ x5).setCell ⟨j, 6, none⟩ x6).setCell ⟨j, 7, none⟩ x7) k a b c d := H.other8 hj x0 x1 x2 x3 x4 x5 x6 x7
theorem At8.self8x (H : At8 w k a b c d e f g h) (x0 x1 x2 x3 x4 x5 x6 x7 : Nat) : At8 ((((((((w.setCell ⟨k, 0, none⟩ (.int .u64 (x0 : Int))).setCell ⟨k, 1, none⟩ (.int .u64 (x1 : Int))).setCell ⟨k, 2, none⟩ (.int .u64 (x2 : Int))).setCell ⟨k, 3, none⟩ (.int .u64 (x3 : Int))).setCell ⟨k, 4, none⟩ (.int .u64 (x4 : Int))).setCell ⟨k, 5, none⟩ (.int .u64 (x5 : Int))).setCell ⟨k, 6, none⟩ (.int .u64 (x6 : Int))).setCell ⟨k, 7, none⟩ (.int .u64 (x7 : Int))) k x0 x1 x2 x3 x4 x5 x6 x7 := H.self8 x0 x1 x2 x3 x4 x5 x6 x7
end
theorem lessS_of {w W : World} {k0 k1 k2 p0 p1 p2 p3 c0 c1 c2 c3 a b c d e f g h : Nat} (H : Kept w k0 [⟨k0, 0, p0, p1, p2, p3⟩, ⟨k0, 4, c0, c1, c2, c3⟩, ⟨k1, 0, a, b, c, d⟩, ⟨k1, 4, e, f, g, h⟩, ⟨k2, 0, 0, 0, 0, 0⟩] W) : W.cell? ⟨k0, 4, none⟩ = some (.int .u64 (c0 : Int)) ∧ W.cell? ⟨k0, 5, none⟩ = some (.int .u64 (c1 : Int)) ∧ W.cell? ⟨k0, 6, none⟩ = some (.int .u64 (c2 : Int)) ∧ W.cell? ⟨k0, 7, none⟩ = some (.int .u64 (c3 : Int)) ∧ W.cell? ⟨k1, 0, none⟩ = some (.int .u64 (a : Int)) ∧ W.cell? ⟨k1, 1, none⟩ = some (.int .u64 (b : Int)) ∧ W.cell? ⟨k1, 2, none⟩ = some (.int .u64 (c : Int)) ∧ W.cell? ⟨k1, 3, none⟩ = some (.int .u64 (d : Int)) ∧ W.cell? ⟨k1, 4, none⟩ = some (.int .u64 (e : Int)) ∧ W.cell? ⟨k1, 5, none⟩ = some (.int .u64 (f : Int)) ∧ W.cell? ⟨k1, 6, none⟩ = some (.int .u64 (g : Int)) ∧ W.cell? ⟨k1, 7, none⟩ = some (.int .u64 (h : Int)) ∧ Kept w k0 [⟨k0, 0, p0, p1, p2, p3⟩, ⟨k0, 4, c0, c1, c2, c3⟩, ⟨k1, 0, a, b, c, d⟩, ⟨k1, 4, e, f, g, h⟩, ⟨k2, 0, 0, 0, 0, 0⟩] W :=
  ⟨H.tail.head.c0, H.tail.head.c1, H.tail.head.c2, H.tail.head.c3, H.tail.tail.head.c0, H.tail.tail.head.c1, H.tail.tail.head.c2, H.tail.tail.head.c3, H.tail.tail.tail.head.c0, H.tail.tail.tail.head.c1, H.tail.tail.tail.head.c2, H.tail.tail.tail.head.c3, H⟩
theorem keep_call {W w1 : World} {p : Addr} {v : Value} (hb : Below W.heap.size W w1) (h : W.cell? p = some v) : w1.cell? p = some v := by
  rw [hb.cell (World.block_lt_of_cell? _ _ h)]; exact h
theorem or4 (a b c d : Nat) (ha : a < 18446744073709551616) (hb : b < 18446744073709551616) (hc : c < 18446744073709551616) (hd : d < 18446744073709551616) :
    ∃ o : Nat, bits .or .u64 (bits .or .u64 (bits .or .u64 (a : Int) (b : Int)) (c : Int)) (d : Int) = (o : Int) ∧ (o = 0 ↔ (a = 0 ∧ b = 0 ∧ c = 0 ∧ d = 0)) := by
  have lt : ∀ x y : Nat, x < 18446744073709551616 → y < 18446744073709551616 → x ||| y < 18446744073709551616 := fun x y hx hy => Nat.or_lt_two_pow (n := 64) hx hy
  refine ⟨a ||| b ||| c ||| d, ?_, ?_⟩
  · rw [bits_or_u64_nat a b ha hb, bits_or_u64_nat _ c (lt _ _ ha hb) hc, bits_or_u64_nat _ d (lt _ _ (lt _ _ ha hb) hc) hd]
  · constructor
    · intro h
      have h1 := Nat.left_le_or (n := a ||| b ||| c) (m := d)
      have h2 := Nat.right_le_or (n := a ||| b ||| c) (m := d)
      have h3 := Nat.left_le_or (n := a ||| b) (m := c)
      have h4 := Nat.right_le_or (n := a ||| b) (m := c)
      have h5 := Nat.left_le_or (n := a) (m := b)
      have h6 := Nat.right_le_or (n := a) (m := b)
      omega
    · rintro ⟨rfl, rfl, rfl, rfl⟩
      rfl
theorem less_step {lo hi cc P gk : Nat} (hP : P + cc = top) (hP2 : top < 2 * P) (hpos : 0 < hi) (hg : gk = lo + top * hi) : hi * cc + lo < gk ∧ (hi * cc + lo) % P = gk % P := by
  have e : gk = hi * cc + lo + P * hi := by rw [hg, ← hP, Nat.add_mul, Nat.mul_comm cc]; omega
  rw [e, Nat.add_mul_mod_self_left]
  have : 0 < P * hi := Nat.mul_pos (by omega) hpos
  exact ⟨by omega, rfl⟩
set_option maxHeartbeats 4000000 in
set_option maxRecDepth 100000 in
theorem rLess_any (p0 p1 p2 p3 c0 c1 c2 c3 P : Nat) (x : Value) (m : Nat) (hp0 : p0 < 18446744073709551616) (hp1 : p1 < 18446744073709551616) (hp2 : p2 < 18446744073709551616) (hp3 : p3 < 18446744073709551616)
    (hc0 : c0 < 18446744073709551616) (hc1 : c1 < 18446744073709551616) (hc2 : c2 < 18446744073709551616) (hc3 : c3 < 18446744073709551616) (eP : P = val p0 p1 p2 p3) (hP : P + val c0 c1 c2 c3 = top) (hP2 : top < 2 * P) (hx : Eight x m) (w : World) :
    Calls Tryz.prog 57 #[.agg #[.int .u64 (p0 : Int), .int .u64 (p1 : Int), .int .u64 (p2 : Int), .int .u64 (p3 : Int), .int .u64 (c0 : Int), .int .u64 (c1 : Int), .int .u64 (c2 : Int), .int .u64 (c3 : Int)], x] w (Ret fun e w' => Below w.heap.size w w' ∧ Four e (m % P)) := by
  obtain ⟨a, b, c, d, e, f, g, h, rfl, ha, hb, hc, hd, he, hf, hg, hh, em⟩ := hx
  go_enter Tryz.func57, Tryz.ntmps57
  go_wp2
  have HEP : Hid (P = val p0 p1 p2 p3) := eP
  clear eP
  go_loopg [] (val a b c d + top * val e f g h) (fun gk wr => ∃ (a b c d e f g h : Nat), LessI w wr p0 p1 p2 p3 c0 c1 c2 c3 a b c d e f g h ∧ gk = val a b c d + top * val e f g h ∧ Hid (gk % P = m % P))
  case atStart =>
    refine ⟨a, b, c, d, e, f, g, h, ⟨below3 _ _ _ _, ?_, ?_, ?_, ha, hb, hc, hd, he, hf, hg, hh⟩, rfl, ?_⟩
    · exact (((At8.made w 70 p0 p1 p2 p3 c0 c1 c2 c3 rfl).alloc _).alloc _)
    · exact (At8.made (w.alloc _) 101 a b c d e f g h (World.size_alloc _ _)).alloc _
    · exact At4.made ((w.alloc _).alloc _) 58 0 0 0 0 (by simp)
    · rw [em]; rfl
  case round =>
    obtain ⟨a, b, c, d, e, f, g, h, hI, hgk, HE⟩ := hrel
    clear em ha hb hc hd he hf hg hh
    obtain ⟨bl, fr, wi, re, ha, hb, hc, hd, he, hf, hg, hh⟩ := hI
    have HB : Hid (Below w.heap.size w wr) := bl
    clear bl
    generalize q2 : w.heap.size + 1 + 1 = k2 at re ⊢
    generalize q1 : w.heap.size + 1 = k1 at wi ⊢
    have H : Hid (w.heap.size + 1 = k1 ∧ w.heap.size + 1 + 1 = k2) := ⟨q1, q2⟩
    have Q1 : Hid (w.heap.size ≤ k1) := by unfold Hid; omega
    have Q2 : Hid (w.heap.size ≤ k2) := by unfold Hid; omega
    generalize q0 : w.heap.size = k0 at fr HB Q1 Q2 ⊢
    have H0 : Hid (w.heap.size = k0) := q0
    have n01 : k0 ≠ k1 := by omega
    have n02 : k0 ≠ k2 := by omega
    have n12 : k1 ≠ k2 := by omega
    have z0 := fr.lt
    have z1 := wi.lt
    have z2 := re.lt
    clear q0 q1 q2
    obtain ⟨o, ho, hoz⟩ := or4 e f g h he hf hg hh
    obtain ⟨fc0, fc1, fc2, fc3, fc4, fc5, fc6, fc7, ff⟩ := id fr
    obtain ⟨wc0, wc1, wc2, wc3, wc4, wc5, wc6, wc7, wf⟩ := id wi
    obtain ⟨rc0, rc1, rc2, rc3, rf⟩ := id re
    by_cases hz : o = 0
    · obtain ⟨rfl, rfl, rfl, rfl⟩ := hoz.1 hz
      have hlow : gk = val a b c d := by rw [hgk]; rfl
      have HE2 : Hid (val a b c d % P = m % P) := by unfold Hid; rw [← hlow]; exact HE.out
      clear hgk HE hoz hlow
      subst hz
      go_wp2
      have N := At4.made wr 58 a b c d rfl
      have M0 : k0 ≠ wr.heap.size := Nat.ne_of_lt z0
      have M2 : k2 ≠ wr.heap.size := Nat.ne_of_lt z2
      have M5 : Hid (k0 ≤ wr.heap.size) := Nat.le_of_lt z0
      have HB0 : Hid (Below k0 w _) := HB.out.alloc (Nat.le_of_lt z0) (.cells #[.int .u64 (a : Int), .int .u64 (b : Int), .int .u64 (c : Int), .int .u64 (d : Int)] 58)
      replace fr := fr.alloc (.cells #[.int .u64 (a : Int), .int .u64 (b : Int), .int .u64 (c : Int), .int .u64 (d : Int)] 58)
      replace re := re.alloc (.cells #[.int .u64 (a : Int), .int .u64 (b : Int), .int .u64 (c : Int), .int .u64 (d : Int)] 58)
      clear wi fc0 fc1 fc2 fc3 fc4 fc5 fc6 fc7 ff wc0 wc1 wc2 wc3 wc4 wc5 wc6 wc7 wf rc0 rc1 rc2 rc3 rf z0 z1 z2 HB ho
      generalize World.alloc _ _ = W0 at N fr re HB0 ⊢
      generalize wr.heap.size = k5 at N M0 M2 M5 ⊢
      have hB4 : Hid (a < 18446744073709551616 ∧ b < 18446744073709551616 ∧ c < 18446744073709551616 ∧ d < 18446744073709551616) := ⟨ha, hb, hc, hd⟩
      have HPP : Hid (0 < P) := by unfold Hid; have := hP2; omega
      clear ha hb hc hd hP hP2
      have KP : Kept w k0 [⟨k5, 0, a, b, c, d⟩, ⟨k0, 0, p0, p1, p2, p3⟩, ⟨k2, 0, 0, 0, 0, 0⟩] W0 :=
        (((Kept.mk1 HB0.out (Nat.le_of_lt fr.lt)).cons re.blk).cons (x := ⟨k0, 0, p0, p1, p2, p3⟩) ⟨fr.c0, fr.c1, fr.c2, fr.c3, fr.fz⟩).cons N.blk
      clear fr re N HB0
      go_loopg [] (val a b c d) (fun gk2 wr2 => ∃ (a b c d : Nat), gk2 = val a b c d ∧ Kept w k0 [⟨k5, 0, a, b, c, d⟩, ⟨k0, 0, p0, p1, p2, p3⟩, ⟨k2, 0, 0, 0, 0, 0⟩] wr2 ∧ Hid (a < 18446744073709551616 ∧ b < 18446744073709551616 ∧ c < 18446744073709551616 ∧ d < 18446744073709551616) ∧ Hid (val a b c d % P = m % P))
      case atStart => exact ⟨a, b, c, d, rfl, KP, hB4, HE2⟩
      case round =>
        clear KP hB4 HE2
        obtain ⟨a, b, c, d, hgk2, KP, hB4, HE2⟩ := hrel
        obtain ⟨xc0, xc1, xc2, xc3, xf⟩ := KP.head.at4
        obtain ⟨pc0, pc1, pc2, pc3, pf⟩ := KP.tail.head.at4
        have z5 := KP.head.lt
        have z0 := KP.tail.head.lt
        go_wp2_with fail
        refine (rless_any _ _ _ _ (Four.mk hB4.out.1 hB4.out.2.1 hB4.out.2.2.1 hB4.out.2.2.2 rfl) (Four.mk hp0 hp1 hp2 hp3 rfl) _).mono ?_
        rintro r w2 ⟨v, rfl, hb2, v2, t2, j, rfl, ⟨a2, b2, c2, d2, rfl, ha2, hb2', hc2, hd2, es2⟩, hj, he2⟩
        clear xc0 xc1 xc2 xc3 xf pc0 pc1 pc2 pc3 pf z5 z0
        replace KP := KP.call hb2
        clear hb2
        have HE3 : Hid (val a2 b2 c2 d2 + P = val a b c d + top * j) := by unfold Hid; rw [← es2, HEP.out]; exact he2
        clear he2 es2
        have hj' : j = 0 ∨ j = 1 := by omega
        rcases hj' with rfl | rfl
        · obtain ⟨xc0, xc1, xc2, xc3, xf⟩ := KP.head.at4
          have z5 := KP.head.lt
          go_wp2
          go_roundg (val a2 b2 c2 d2)
          case measure => have := HE3.out; have := HPP.out; omega
          case rel =>
            refine ⟨a2, b2, c2, d2, rfl, ?_, ⟨ha2, hb2', hc2, hd2⟩, ?_⟩
            · exact (KP.put M5.out (by simp only [List.mem_cons, List.not_mem_nil, or_false]; rintro x (rfl | rfl); exact M0.symm; exact M2.symm) a2 b2 c2 d2).alloc _
            · unfold Hid
              rw [← HE2.out, show val a b c d = val a2 b2 c2 d2 + P by have := HE3.out; omega, Nat.add_mod_right]
        · obtain ⟨xc0, xc1, xc2, xc3, xf⟩ := KP.head.at4
          obtain ⟨rc0, rc1, rc2, rc3, rf⟩ := KP.tail.tail.head.at4
          have z5 := KP.head.lt
          have z3 := KP.tail.tail.head.lt
          go_wp2
          have RF := (KP.tail.tail.head.at4.self4 a b c d).alloc (.cells #[.int .u64 (a2 : Int), .int .u64 (b2 : Int), .int .u64 (c2 : Int), .int .u64 (d2 : Int)] 58)
          unfold set4 at RF
          refine bodyPost_ret (v := ?v) ?hr rfl ?hR
          case hr => simp [results, Tryz.results57, go_sem, RF.c0, RF.c1, RF.c2, RF.c3]; rfl
          refine ⟨_, rfl, ?_, Four.mk hB4.out.1 hB4.out.2.1 hB4.out.2.2.1 hB4.out.2.2.2 ?_⟩
          · rw [H0.out]
            exact (below_set4 KP.bl Q2.out _ _ _ _).alloc (by rw [size_set4]; exact KP.le) _
          · rw [← HE2.out, Nat.mod_eq_of_lt (by have := HE3.out; have := val_lt ha2 hb2' hc2 hd2; omega)]
    · have hpos : 0 < val e f g h := by
        rcases Nat.eq_zero_or_pos (val e f g h) with h0 | h0
        · exact absurd (hoz.2 (by unfold val at h0; omega)) hz
        · exact h0
      have HL : Hid (_ ∧ _) := less_step hP hP2 hpos hgk
      clear hoz hgk hpos
      go_wp2
      have KP : Kept w k0 [⟨k0, 0, p0, p1, p2, p3⟩, ⟨k0, 4, c0, c1, c2, c3⟩, ⟨k1, 0, a, b, c, d⟩, ⟨k1, 4, e, f, g, h⟩, ⟨k2, 0, 0, 0, 0, 0⟩] wr :=
        (((((Kept.mk1 HB.out (Nat.le_of_lt z0)).cons re.blk).cons (x := ⟨k1, 4, e, f, g, h⟩) ⟨wi.c4, wi.c5, wi.c6, wi.c7, wi.fz⟩).cons (x := ⟨k1, 0, a, b, c, d⟩) ⟨wi.c0, wi.c1, wi.c2, wi.c3, wi.fz⟩).cons (x := ⟨k0, 4, c0, c1, c2, c3⟩) ⟨fr.c4, fr.c5, fr.c6, fr.c7, fr.fz⟩).cons (x := ⟨k0, 0, p0, p1, p2, p3⟩) ⟨fr.c0, fr.c1, fr.c2, fr.c3, fr.fz⟩
      clear HEP rc0 rc1 rc2 rc3 rf fc0 fc1 fc2 fc3 fr wi re HB
      refine anyTill.begin (fun w' => w'.cell? ⟨k0, 4, none⟩ = some (.int .u64 (c0 : Int)) ∧ w'.cell? ⟨k0, 5, none⟩ = some (.int .u64 (c1 : Int)) ∧ w'.cell? ⟨k0, 6, none⟩ = some (.int .u64 (c2 : Int)) ∧ w'.cell? ⟨k0, 7, none⟩ = some (.int .u64 (c3 : Int)) ∧ w'.cell? ⟨k1, 0, none⟩ = some (.int .u64 (a : Int)) ∧ w'.cell? ⟨k1, 1, none⟩ = some (.int .u64 (b : Int)) ∧ w'.cell? ⟨k1, 2, none⟩ = some (.int .u64 (c : Int)) ∧ w'.cell? ⟨k1, 3, none⟩ = some (.int .u64 (d : Int)) ∧ w'.cell? ⟨k1, 4, none⟩ = some (.int .u64 (e : Int)) ∧ w'.cell? ⟨k1, 5, none⟩ = some (.int .u64 (f : Int)) ∧ w'.cell? ⟨k1, 6, none⟩ = some (.int .u64 (g : Int)) ∧ w'.cell? ⟨k1, 7, none⟩ = some (.int .u64 (h : Int)) ∧ Kept w k0 [⟨k0, 0, p0, p1, p2, p3⟩, ⟨k0, 4, c0, c1, c2, c3⟩, ⟨k1, 0, a, b, c, d⟩, ⟨k1, 4, e, f, g, h⟩, ⟨k2, 0, 0, 0, 0, 0⟩] w') 22 mixed (lessS_of KP.drew) (fun hS => ?_)
      refine anyTill.tk (i := 0) (v := ?_) rfl (Or.inl ⟨by rfl, ?_⟩) hS ?_
      rotate_left
      · intro w hSw
        (try dsimp only at hSw)
        go_simp
        try (with_reducible rfl)
      simp only [Act.put, List.setIfInBounds_toArray]
      refine anyTill.tk (i := 1) (v := ?_) rfl (Or.inl ⟨by rfl, ?_⟩) hS ?_
      rotate_left
      · intro w hSw
        (try dsimp only at hSw)
        go_simp
        try (with_reducible rfl)
      simp only [Act.put]
      refine anyTill.tk (i := 2) (v := ?_) rfl (Or.inl ⟨by rfl, ?_⟩) hS ?_
      rotate_left
      · intro w hSw
        (try dsimp only at hSw)
        go_simp
        try (with_reducible rfl)
      simp only [Act.put]
      refine anyTill.tk (i := 3) (v := ?_) rfl (Or.inl ⟨by rfl, ?_⟩) hS ?_
      rotate_left
      · intro w hSw
        (try dsimp only at hSw)
        go_simp
        try (with_reducible rfl)
      simp only [Act.put]
      refine anyTill.tk (i := 4) (v := ?_) rfl (Or.inl ⟨by rfl, ?_⟩) hS ?_
      rotate_left
      · intro w hSw
        (try dsimp only at hSw)
        go_simp
        try (with_reducible rfl)
      simp only [Act.put]
      refine anyTill.tk (i := 5) (v := ?_) rfl (Or.inl ⟨by rfl, ?_⟩) hS ?_
      rotate_left
      · intro w hSw
        (try dsimp only at hSw)
        go_simp
        try (with_reducible rfl)
      simp only [Act.put]
      refine anyTill.tk (i := 6) (v := ?_) rfl (Or.inl ⟨by rfl, ?_⟩) hS ?_
      rotate_left
      · intro w hSw
        (try dsimp only at hSw)
        go_simp
        try (with_reducible rfl)
      simp only [Act.put]
      refine anyTill.tk (i := 7) (v := ?_) rfl (Or.inl ⟨by rfl, ?_⟩) hS ?_
      rotate_left
      · intro w hSw
        (try dsimp only at hSw)
        go_simp
        try (with_reducible rfl)
      simp only [Act.put]
      refine anyTill.tk (i := 8) (v := ?_) rfl (Or.inl ⟨by rfl, ?_⟩) hS ?_
      rotate_left
      · intro w hSw
        (try dsimp only at hSw)
        go_simp
        try (with_reducible rfl)
      simp only [Act.put]
      refine anyTill.tk (i := 9) (v := ?_) rfl (Or.inl ⟨by rfl, ?_⟩) hS ?_
      rotate_left
      · intro w hSw
        (try dsimp only at hSw)
        go_simp
        try (with_reducible rfl)
      simp only [Act.put]
      refine anyTill.tk (i := 10) (v := ?_) rfl (Or.inl ⟨by rfl, ?_⟩) hS ?_
      rotate_left
      · intro w hSw
        (try dsimp only at hSw)
        go_simp
        try (with_reducible rfl)
      simp only [Act.put]
      refine anyTill.tk (i := 12) (v := ?_) rfl (Or.inl ⟨by rfl, ?_⟩) hS ?_
      rotate_left
      · intro w hSw
        (try dsimp only at hSw)
        go_simp
        try (with_reducible rfl)
      simp only [Act.put]
      refine anyTill.tk (i := 13) (v := ?_) rfl (Or.inl ⟨by rfl, ?_⟩) hS ?_
      rotate_left
      · intro w hSw
        (try dsimp only at hSw)
        go_simp
        try (with_reducible rfl)
      simp only [Act.put]
      refine anyTill.tk (i := 14) (v := ?_) rfl (Or.inl ⟨by rfl, ?_⟩) hS ?_
      rotate_left
      · intro w hSw
        (try dsimp only at hSw)
        go_simp
        try (with_reducible rfl)
      simp only [Act.put]
      refine anyTill.tk (i := 15) (v := ?_) rfl (Or.inl ⟨by rfl, ?_⟩) hS ?_
      rotate_left
      · intro w hSw
        (try dsimp only at hSw)
        go_simp
        try (with_reducible rfl)
      simp only [Act.put]
      refine anyTill.tk (i := 16) (v := ?_) rfl (Or.inl ⟨by rfl, ?_⟩) hS ?_
      rotate_left
      · intro w hSw
        (try dsimp only at hSw)
        go_simp
        try (with_reducible rfl)
      simp only [Act.put]
      refine anyTill.tk (i := 17) (v := ?_) rfl (Or.inl ⟨by rfl, ?_⟩) hS ?_
      rotate_left
      · intro w hSw
        (try dsimp only at hSw)
        go_simp
        try (with_reducible rfl)
      simp only [Act.put]
      refine anyTill.tk (i := 18) (v := ?_) rfl (Or.inl ⟨by rfl, ?_⟩) hS ?_
      rotate_left
      · intro w hSw
        (try dsimp only at hSw)
        go_simp
        try (with_reducible rfl)
      simp only [Act.put]
      refine anyTill.tk (i := 19) (v := ?_) rfl (Or.inl ⟨by rfl, ?_⟩) hS ?_
      rotate_left
      · intro w hSw
        (try dsimp only at hSw)
        go_simp
        try (with_reducible rfl)
      simp only [Act.put]
      refine anyTill.tk (i := 20) (v := ?_) rfl (Or.inl ⟨by rfl, ?_⟩) hS ?_
      rotate_left
      · intro w hSw
        (try dsimp only at hSw)
        go_simp
        try (with_reducible rfl)
      simp only [Act.put]
      refine anyTill.step (i := 11) rfl (by kernel_rfl) (fun K hK => ?_)
      go_simp
      refine (rproduct_any _ _ _ _ (Four.mk he hf hg hh rfl) (Four.mk hc0 hc1 hc2 hc3 rfl) _).mono ?_
      rintro r w1 ⟨v, rfl, hb1, hE1⟩
      obtain ⟨x0, x1, x2, x3, x4, x5, x6, x7, rfl, hx0, hx1, hx2, hx3, hx4, hx5, hx6, hx7, hxe⟩ := id hE1
      clear hxe hS
      have KP1 := KP.drew.call hb1
      clear hb1 KP
      refine hK.out _ _ (fun _ => lessS_of KP1) ?_
      clear hK K
      try simp only [Act.put, List.setIfInBounds_toArray, List.set_cons_zero, List.set_cons_succ]
      refine anyTill.step (i := 21) rfl (by kernel_rfl) (fun K hK => ?_)
      go_simp
      refine (rplus_any _ _ _ _ hE1 ⟨a, b, c, d, 0, 0, 0, 0, rfl, ha, hb, hc, hd, by decide, by decide, by decide, by decide, rfl⟩ (by have h1 := mul_lt_top (val_lt he hf hg hh) (val_lt hc0 hc1 hc2 hc3); have h2 := val_lt ha hb hc hd; have e0 : val 0 0 0 0 = 0 := rfl; rw [e0, Nat.mul_zero, Nat.add_zero]; omega) _).mono ?_
      rintro r w2 ⟨v, rfl, hb2, hE2⟩
      obtain ⟨y0, y1, y2, y3, y4, y5, y6, y7, rfl, hy0, hy1, hy2, hy3, hy4, hy5, hy6, hy7, hye⟩ := id hE2
      rw [show val 0 0 0 0 = 0 from rfl, Nat.mul_zero, Nat.add_zero] at hye
      have HY : Hid (_ = _) := hye
      clear hye hE1 hE2
      have KP2 := KP1.call hb2
      clear hb2 KP1
      refine hK.out _ _ (fun _ => lessS_of KP2) ?_
      clear hK K
      try simp only [Act.put, List.setIfInBounds_toArray, List.set_cons_zero, List.set_cons_succ]
      have fr : At8 w2 k0 p0 p1 p2 p3 c0 c1 c2 c3 := ⟨KP2.head.c0, KP2.head.c1, KP2.head.c2, KP2.head.c3, KP2.tail.head.c0, KP2.tail.head.c1, KP2.tail.head.c2, KP2.tail.head.c3, KP2.head.f⟩
      have wi : At8 w2 k1 a b c d e f g h := ⟨KP2.tail.tail.head.c0, KP2.tail.tail.head.c1, KP2.tail.tail.head.c2, KP2.tail.tail.head.c3, KP2.tail.tail.tail.head.c0, KP2.tail.tail.tail.head.c1, KP2.tail.tail.tail.head.c2, KP2.tail.tail.tail.head.c3, KP2.tail.tail.head.f⟩
      have re : At4 w2 k2 0 0 0 0 := KP2.tail.tail.tail.tail.head.at4
      have HB : Hid (Below k0 w w2) := KP2.bl
      clear KP2 wc0 wc1 wc2 wc3 wc4 wc5 wc6 wc7 wf z0 z1 z2
      obtain ⟨wc0, wc1, wc2, wc3, wc4, wc5, wc6, wc7, wf⟩ := id wi
      have z1 := wi.lt
      refine anyTill.step (i := 22) rfl (by kernel_rfl) (fun K hK => ?_)
      go_simp
      refine hK.out _ _ (fun h => Bool.noConfusion h) ?_
      clear hK K
      try simp only [Act.put, List.setIfInBounds_toArray, List.set_cons_zero, List.set_cons_succ]
      refine anyTill.done (by kernel_rfl) ?_ _
      obtain ⟨q1, q2⟩ := H.out
      have q0 := H0.out
      subst q1 q2 q0
      go_wp2
      go_roundg (val y0 y1 y2 y3 + top * val y4 y5 y6 y7)
      case measure => rw [← HY.out]; exact HL.out.1
      case rel =>
        refine ⟨y0, y1, y2, y3, y4, y5, y6, y7, ⟨?_, ?_, ?_, ?_, hy0, hy1, hy2, hy3, hy4, hy5, hy6, hy7⟩, rfl, ?_⟩
        · exact below_set8x HB.out Q1.out _ _ _ _ _ _ _ _
        · exact At8.other8x fr n01.symm _ _ _ _ _ _ _ _
        · exact At8.self8x wi y0 y1 y2 y3 y4 y5 y6 y7
        · exact At4.other8x re n12 _ _ _ _ _ _ _ _
        · unfold Hid
          rw [← HY.out, ← HE.out]
          exact HL.out.2
end Go.Proofs.YtmepmoalhgehhaaGreatDoor
