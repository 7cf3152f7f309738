import Derived.Test.YtdeidgbknlmhjabF0
import Derived.Test.YtdeidgbknlmhjabH3
import Derived.Test.YtdeidgbknlmhjabK1
import Derived.Deep.RegionHeld3
import Derived.Deep.CutRange
import Derived.Deep.DeepCutAuto
namespace Go.Proofs.Ytdeidgbknlmhjab
open Go.RowKit Go.Sort Go.Deep

theorem readS_of {w W : World} {k0 k1 k6 a b c d g0 g1 g2 : Nat} (h : Kept w k0 [⟨k6, 0, a, b, c, d⟩, ⟨k0, 0, g0, g1, g2, 0⟩, ⟨k1, 0, 0, 0, 0, 0⟩] W) : W.cell? ⟨k6, 0, none⟩ = some (.int .u64 (a : Int)) ∧ W.cell? ⟨k6, 1, none⟩ = some (.int .u64 (b : Int)) ∧ W.cell? ⟨k6, 2, none⟩ = some (.int .u64 (c : Int)) ∧ W.cell? ⟨k6, 3, none⟩ = some (.int .u64 (d : Int)) ∧ W.cell? ⟨k0, 0, none⟩ = some (.int .u64 (g0 : Int)) ∧ W.cell? ⟨k0, 1, none⟩ = some (.int .u64 (g1 : Int)) ∧ W.cell? ⟨k0, 2, none⟩ = some (.int .u64 (g2 : Int)) ∧ W.cell? ⟨k0, 3, none⟩ = some (.int .u64 0) ∧ Kept w k0 [⟨k6, 0, a, b, c, d⟩, ⟨k0, 0, g0, g1, g2, 0⟩, ⟨k1, 0, 0, 0, 0, 0⟩] W := ⟨h.head.c0, h.head.c1, h.head.c2, h.head.c3, h.tail.head.c0, h.tail.head.c1, h.tail.head.c2, h.tail.head.c3, h⟩
theorem readS_get {w W : World} {k0 k1 k6 a b c d g0 g1 g2 : Nat} (h : W.cell? ⟨k6, 0, none⟩ = some (.int .u64 (a : Int)) ∧ W.cell? ⟨k6, 1, none⟩ = some (.int .u64 (b : Int)) ∧ W.cell? ⟨k6, 2, none⟩ = some (.int .u64 (c : Int)) ∧ W.cell? ⟨k6, 3, none⟩ = some (.int .u64 (d : Int)) ∧ W.cell? ⟨k0, 0, none⟩ = some (.int .u64 (g0 : Int)) ∧ W.cell? ⟨k0, 1, none⟩ = some (.int .u64 (g1 : Int)) ∧ W.cell? ⟨k0, 2, none⟩ = some (.int .u64 (g2 : Int)) ∧ W.cell? ⟨k0, 3, none⟩ = some (.int .u64 0) ∧ Kept w k0 [⟨k6, 0, a, b, c, d⟩, ⟨k0, 0, g0, g1, g2, 0⟩, ⟨k1, 0, 0, 0, 0, 0⟩] W) : Kept w k0 [⟨k6, 0, a, b, c, d⟩, ⟨k0, 0, g0, g1, g2, 0⟩, ⟨k1, 0, 0, 0, 0, 0⟩] W := h.2.2.2.2.2.2.2.2
theorem readS_alloc {w W : World} {k0 k1 k6 a b c d g0 g1 g2 : Nat} {o : Obj} (h : W.cell? ⟨k6, 0, none⟩ = some (.int .u64 (a : Int)) ∧ W.cell? ⟨k6, 1, none⟩ = some (.int .u64 (b : Int)) ∧ W.cell? ⟨k6, 2, none⟩ = some (.int .u64 (c : Int)) ∧ W.cell? ⟨k6, 3, none⟩ = some (.int .u64 (d : Int)) ∧ W.cell? ⟨k0, 0, none⟩ = some (.int .u64 (g0 : Int)) ∧ W.cell? ⟨k0, 1, none⟩ = some (.int .u64 (g1 : Int)) ∧ W.cell? ⟨k0, 2, none⟩ = some (.int .u64 (g2 : Int)) ∧ W.cell? ⟨k0, 3, none⟩ = some (.int .u64 0) ∧ Kept w k0 [⟨k6, 0, a, b, c, d⟩, ⟨k0, 0, g0, g1, g2, 0⟩, ⟨k1, 0, 0, 0, 0, 0⟩] W) : (W.alloc o).cell? ⟨k6, 0, none⟩ = some (.int .u64 (a : Int)) ∧ (W.alloc o).cell? ⟨k6, 1, none⟩ = some (.int .u64 (b : Int)) ∧ (W.alloc o).cell? ⟨k6, 2, none⟩ = some (.int .u64 (c : Int)) ∧ (W.alloc o).cell? ⟨k6, 3, none⟩ = some (.int .u64 (d : Int)) ∧ (W.alloc o).cell? ⟨k0, 0, none⟩ = some (.int .u64 (g0 : Int)) ∧ (W.alloc o).cell? ⟨k0, 1, none⟩ = some (.int .u64 (g1 : Int)) ∧ (W.alloc o).cell? ⟨k0, 2, none⟩ = some (.int .u64 (g2 : Int)) ∧ (W.alloc o).cell? ⟨k0, 3, none⟩ = some (.int .u64 0) ∧ Kept w k0 [⟨k6, 0, a, b, c, d⟩, ⟨k0, 0, g0, g1, g2, 0⟩, ⟨k1, 0, 0, 0, 0, 0⟩] (W.alloc o) := readS_of ((readS_get h).alloc o)
theorem readS_allocd {w W : World} {k0 k1 k6 a b c d g0 g1 g2 : Nat} {o : Obj} (h : W.drew.cell? ⟨k6, 0, none⟩ = some (.int .u64 (a : Int)) ∧ W.drew.cell? ⟨k6, 1, none⟩ = some (.int .u64 (b : Int)) ∧ W.drew.cell? ⟨k6, 2, none⟩ = some (.int .u64 (c : Int)) ∧ W.drew.cell? ⟨k6, 3, none⟩ = some (.int .u64 (d : Int)) ∧ W.drew.cell? ⟨k0, 0, none⟩ = some (.int .u64 (g0 : Int)) ∧ W.drew.cell? ⟨k0, 1, none⟩ = some (.int .u64 (g1 : Int)) ∧ W.drew.cell? ⟨k0, 2, none⟩ = some (.int .u64 (g2 : Int)) ∧ W.drew.cell? ⟨k0, 3, none⟩ = some (.int .u64 0) ∧ Kept w k0 [⟨k6, 0, a, b, c, d⟩, ⟨k0, 0, g0, g1, g2, 0⟩, ⟨k1, 0, 0, 0, 0, 0⟩] W.drew) : (W.alloc o).drew.cell? ⟨k6, 0, none⟩ = some (.int .u64 (a : Int)) ∧ (W.alloc o).drew.cell? ⟨k6, 1, none⟩ = some (.int .u64 (b : Int)) ∧ (W.alloc o).drew.cell? ⟨k6, 2, none⟩ = some (.int .u64 (c : Int)) ∧ (W.alloc o).drew.cell? ⟨k6, 3, none⟩ = some (.int .u64 (d : Int)) ∧ (W.alloc o).drew.cell? ⟨k0, 0, none⟩ = some (.int .u64 (g0 : Int)) ∧ (W.alloc o).drew.cell? ⟨k0, 1, none⟩ = some (.int .u64 (g1 : Int)) ∧ (W.alloc o).drew.cell? ⟨k0, 2, none⟩ = some (.int .u64 (g2 : Int)) ∧ (W.alloc o).drew.cell? ⟨k0, 3, none⟩ = some (.int .u64 0) ∧ Kept w k0 [⟨k6, 0, a, b, c, d⟩, ⟨k0, 0, g0, g1, g2, 0⟩, ⟨k1, 0, 0, 0, 0, 0⟩] (W.alloc o).drew := readS_of (((readS_get h).undrew).alloc o).drew

set_option maxHeartbeats 1000000 in
theorem Read_len (pv : Value) (p : Option Addr) (n cap : Nat) (w : World) (g0 g1 g2 : Nat) (hp : pv = .agg #[.int .u64 (g0 : Int), .int .u64 (g1 : Int), .int .u64 (g2 : Int), .int .u64 0]) (hn : n ≠ 32) :
    Calls Try.prog 89 #[pv, .slice p n cap] w (Ret fun e w' => Below w.heap.size w w' ∧ e = .tuple #[.agg #[.int .u64 0, .int .u64 0, .int .u64 0, .int .u64 0], .bool false]) := by
  subst hp
  have h1 : ¬ (n : Int) = 32 := by omega
  go_enter Try.func89, Try.ntmps89
  go_wp2
  refine bodyPost_ret (v := ?v) ?hr rfl ?hR
  case hr => simp [results, Try.results89, go_sem]; rfl
  exact ⟨_, rfl, below2 _ _ _, rfl⟩

set_option maxHeartbeats 4000000 in
set_option maxRecDepth 100000 in
theorem Read_any (g0 g1 g2 P g o cap : Nat) (bs : Bs) (hG : Gap g0 g1 g2 P) (w : World) (hs : bs.size = 32) (hc : 32 ≤ cap) (hg : g < w.heap.size) (hB : Holds encB w g o bs) :
    Calls Try.prog 89 #[.agg #[.int .u64 (g0 : Int), .int .u64 (g1 : Int), .int .u64 (g2 : Int), .int .u64 0], .slice (some ⟨g, o, none⟩) 32 cap] w
      (Ret fun e w' => Below w.heap.size w w' ∧ ((beV bs.toList < P ∧ ∃ v, e = .tuple #[v, .bool true] ∧ Four v (beV bs.toList)) ∨ (P ≤ beV bs.toList ∧ e = .tuple #[.agg #[.int .u64 0, .int .u64 0, .int .u64 0, .int .u64 0], .bool false]))) := by
  have HG : Hid (Gap g0 g1 g2 P) := hG
  have HBS : Hid (Holds encB w g o bs) := hB
  have HS : Hid (bs.size = 32) := hs
  clear hG hB hs
  go_enter Try.func89, Try.ntmps89
  go_wp2_with fail
  have PR := (At4.made w 79 g0 g1 g2 0 rfl).alloc (.cells #[.int .u64 0, .int .u64 0, .int .u64 0, .int .u64 0] 85)
  have RE := At4.made (w.alloc (.cells #[.int .u64 (g0 : Int), .int .u64 (g1 : Int), .int .u64 (g2 : Int), .int .u64 0] 79)) 85 0 0 0 0 (World.size_alloc _ _)
  have KP0 := ((Kept.mk1 (below2 w (.cells #[.int .u64 (g0 : Int), .int .u64 (g1 : Int), .int .u64 (g2 : Int), .int .u64 0] 79) (.cells #[.int .u64 0, .int .u64 0, .int .u64 0, .int .u64 0] 85)) (below2 w (.cells #[.int .u64 (g0 : Int), .int .u64 (g1 : Int), .int .u64 (g2 : Int), .int .u64 0] 79) (.cells #[.int .u64 0, .int .u64 0, .int .u64 0, .int .u64 0] 85)).size).cons RE.blk).cons PR.blk
  have HB0 := Holds.below HBS.out (below2 w (.cells #[.int .u64 (g0 : Int), .int .u64 (g1 : Int), .int .u64 (g2 : Int), .int .u64 0] 79) (.cells #[.int .u64 0, .int .u64 0, .int .u64 0, .int .u64 0] 85)) hg
  clear PR RE
  generalize World.alloc _ _ = W0 at KP0 HB0 ⊢
  refine (fromBytes_any (some ⟨g, o, none⟩) g o 32 cap bs _ (Nat.le_refl 32) hc HS.out (Or.inr ⟨rfl, HB0⟩)).mono ?_
  rintro e w1 ⟨v, rfl, hb1, hF⟩
  obtain ⟨a, b, c, d, rfl, ha, hb, hc', hd, es⟩ := id hF
  have HF : Hid (Four _ _) := hF
  have K1 := KP0.call hb1
  clear es hF hb1 KP0 HB0
  go_wp2_with fail
  have KP := (K1.alloc (.cells #[.int .u64 (a : Int), .int .u64 (b : Int), .int .u64 (c : Int), .int .u64 (d : Int)] 85)).cons (At4.made w1 85 a b c d rfl).blk
  have q60 : w1.heap.size ≠ w.heap.size := Nat.ne_of_gt K1.head.lt
  clear K1
  generalize World.alloc _ _ = W1 at KP ⊢
  generalize w1.heap.size = k6 at KP q60 ⊢
  generalize h1 : w.heap.size + 1 = k1 at KP ⊢
  have Q1 : Hid (w.heap.size ≤ k1) := by unfold Hid; omega
  generalize h0 : w.heap.size = k0 at KP Q1 hg q60 ⊢
  have H0 : Hid (w.heap.size = k0) := h0
  clear h0 h1
  go_cut [8] (fun s8 wx => ∃ k : Nat, s8 = .int .u64 (k : Int) ∧ k ≤ 1 ∧ Hid (∃ t, t < top ∧ t + top * k = beV bs.toList + val g0 g1 g2 0) ∧ Kept w k0 [⟨k6, 0, a, b, c, d⟩, ⟨k0, 0, g0, g1, g2, 0⟩, ⟨k1, 0, 0, 0, 0, 0⟩] wx)
  case first =>
    go_region_held3 (fun w' => w'.cell? ⟨k6, 0, none⟩ = some (.int .u64 (a : Int)) ∧ w'.cell? ⟨k6, 1, none⟩ = some (.int .u64 (b : Int)) ∧ w'.cell? ⟨k6, 2, none⟩ = some (.int .u64 (c : Int)) ∧ w'.cell? ⟨k6, 3, none⟩ = some (.int .u64 (d : Int)) ∧ w'.cell? ⟨k0, 0, none⟩ = some (.int .u64 (g0 : Int)) ∧ w'.cell? ⟨k0, 1, none⟩ = some (.int .u64 (g1 : Int)) ∧ w'.cell? ⟨k0, 2, none⟩ = some (.int .u64 (g2 : Int)) ∧ w'.cell? ⟨k0, 3, none⟩ = some (.int .u64 0) ∧ Kept w k0 [⟨k6, 0, a, b, c, d⟩, ⟨k0, 0, g0, g1, g2, 0⟩, ⟨k1, 0, 0, 0, 0, 0⟩] w') (first | (with_reducible exact readS_of KP) | (with_reducible exact readS_of KP.drew) | (with_reducible exact readS_allocd (by assumption)) | (with_reducible exact readS_alloc (by assumption)) | (with_reducible exact readS_of (KP.alloc _)) | (with_reducible exact readS_of (KP.set4' M7 (fun x hx => Nat.ne_of_gt (N7 x hx)) _ _ _ _)) | (with_reducible exact readS_of (KP.alloc _).drew) | (with_reducible exact readS_of (KP.set4' M7 (fun x hx => Nat.ne_of_gt (N7 x hx)) _ _ _ _).drew) | fail) (first | (go_at_call 84; refine (four_any _ _ HF.out _).mono ?_; rintro e w2 ⟨v, rfl, hb1, rfl⟩; (try (with_reducible have T1 := T.call hb1; clear T; have T := T1; clear T1)); (try (first | (with_reducible have T := (At4.made _ 77 0 0 0 0 rfl).call hb1) | (with_reducible have T := (At4.made _ 77 0 0 0 0 rfl).drew.call hb1)); have N7 := KP.lts; have M7 := KP.le); have KP1 := Kept.call (readS_get (by assumption)) hb1; clear KP; have KP := KP1; clear KP1 hb1) | (go_at_call 109; refine (plus_any _ _ _ _ HF.out (Four.mk HG.out.h0 HG.out.h1 HG.out.h2 (by decide) rfl) _).mono ?_; rintro e w2 ⟨v, rfl, hb1, v2, t, k, rfl, hF2, hk, he⟩; obtain ⟨a', b', c', d', rfl, ha', hb', hc', hd', es⟩ := id hF2; have HT : Hid (t < top ∧ t + top * k = beV bs.toList + val g0 g1 g2 0) := ⟨hF2.lt, he⟩; clear es he hF2; (try (with_reducible have T1 := T.call hb1; clear T; have T := T1; clear T1)); (try (first | (with_reducible have T := (At4.made _ 77 0 0 0 0 rfl).call hb1) | (with_reducible have T := (At4.made _ 77 0 0 0 0 rfl).drew.call hb1)); have N7 := KP.lts; have M7 := KP.le); have KP1 := Kept.call (readS_get (by assumption)) hb1; clear KP; have KP := KP1; clear KP1 hb1; (try (obtain ⟨tc0, tc1, tc2, tc3, tf⟩ := id T; have zt := T.lt))))
    all_goals (try go_wp2)
    all_goals (have HX : Hid (∃ t, t < top ∧ t + top * k = beV bs.toList + val g0 g1 g2 0) := ⟨t, HT.out⟩)
    all_goals (go_meet; first | (with_reducible exact ⟨k, rfl, hk, HX, KP.alloc _⟩) | (with_reducible exact ⟨k, rfl, hk, HX, (KP.alloc _).drew⟩) | (with_reducible exact ⟨k, rfl, hk, HX, KP.set4' M7 (fun x hx => Nat.ne_of_gt (N7 x hx)) _ _ _ _⟩) | (with_reducible exact ⟨k, rfl, hk, HX, (KP.set4' M7 (fun x hx => Nat.ne_of_gt (N7 x hx)) _ _ _ _).drew⟩) | fail)
  case rest =>
    clear KP
    obtain ⟨k, rfl, hk, HE, KP⟩ := hcut
    have hk' : k = 0 ∨ k = 1 := by omega
    rcases hk' with rfl | rfl
    · obtain ⟨xc0, xc1, xc2, xc3, xf⟩ := KP.head.at4
      obtain ⟨rc0, rc1, rc2, rc3, rf⟩ := KP.tail.tail.head.at4
      have z1 := KP.tail.tail.head.lt
      go_wp2
      have RF := KP.tail.tail.head.at4.self4 a b c d
      unfold set4 at RF
      refine bodyPost_ret (v := ?v0) ?hr0 rfl ?hR0
      case hr0 => simp [results, Try.results89, go_sem, RF.c0, RF.c1, RF.c2, RF.c3]; rfl
      refine ⟨_, rfl, ?_, Or.inl ⟨?_, _, rfl, HF.out⟩⟩
      · rw [H0.out]; exact below_set4 KP.bl Q1.out _ _ _ _
      · obtain ⟨t, h1, h2⟩ := HE.out
        have := HG.out.hP
        omega
    · obtain ⟨rc0, rc1, rc2, rc3, rf⟩ := KP.tail.tail.head.at4
      have z1 := KP.tail.tail.head.lt
      go_wp2
      have RF : At4 (set4 wc k1 (.int .u64 0) (.int .u64 0) (.int .u64 0) (.int .u64 0)) k1 0 0 0 0 := KP.tail.tail.head.at4.self4 0 0 0 0
      unfold set4 at RF
      refine bodyPost_ret (v := ?v1) ?hr1 rfl ?hR1
      case hr1 => simp [results, Try.results89, go_sem, RF.c0, RF.c1, RF.c2, RF.c3]; rfl
      refine ⟨_, rfl, ?_, Or.inr ⟨?_, rfl⟩⟩
      · rw [H0.out]; exact below_set4 KP.bl Q1.out _ _ _ _
      · obtain ⟨t, h1, h2⟩ := HE.out
        have := HG.out.hP
        omega
end Go.Proofs.Ytdeidgbknlmhjab
