import Derived.Test.YtppdcphfphcbbabG2
import Derived.Test.YtppdcphfphcbbabD1
import Derived.Test.YtppdcphfphcbbabK1
import Derived.Deep.RegionHeld3
import Derived.Deep.RegionWith
import Derived.Deep.LoopGhost
import Derived.Deep.CutRange
import Derived.Deep.DeepCutAuto
namespace Go.Proofs.Ytppdcphfphcbbab
open Go.RowKit Go.Sort Go.Deep

theorem redS_of {w W : World} {k0 k1 g0 g1 g2 : Nat} (h : Kept w k0 [⟨k0, 0, g0, g1, g2, 0⟩, ⟨k1, 0, 0, 0, 0, 0⟩] W) : W.cell? ⟨k0, 0, none⟩ = some (.int .u64 (g0 : Int)) ∧ W.cell? ⟨k0, 1, none⟩ = some (.int .u64 (g1 : Int)) ∧ W.cell? ⟨k0, 2, none⟩ = some (.int .u64 (g2 : Int)) ∧ W.cell? ⟨k0, 3, none⟩ = some (.int .u64 0) ∧ Kept w k0 [⟨k0, 0, g0, g1, g2, 0⟩, ⟨k1, 0, 0, 0, 0, 0⟩] W := ⟨h.head.c0, h.head.c1, h.head.c2, h.head.c3, h⟩
theorem redS_get {w W : World} {k0 k1 g0 g1 g2 : Nat} (h : W.cell? ⟨k0, 0, none⟩ = some (.int .u64 (g0 : Int)) ∧ W.cell? ⟨k0, 1, none⟩ = some (.int .u64 (g1 : Int)) ∧ W.cell? ⟨k0, 2, none⟩ = some (.int .u64 (g2 : Int)) ∧ W.cell? ⟨k0, 3, none⟩ = some (.int .u64 0) ∧ Kept w k0 [⟨k0, 0, g0, g1, g2, 0⟩, ⟨k1, 0, 0, 0, 0, 0⟩] W) : Kept w k0 [⟨k0, 0, g0, g1, g2, 0⟩, ⟨k1, 0, 0, 0, 0, 0⟩] W := h.2.2.2.2
theorem redS_alloc {w W : World} {k0 k1 g0 g1 g2 : Nat} {o : Obj} (h : W.cell? ⟨k0, 0, none⟩ = some (.int .u64 (g0 : Int)) ∧ W.cell? ⟨k0, 1, none⟩ = some (.int .u64 (g1 : Int)) ∧ W.cell? ⟨k0, 2, none⟩ = some (.int .u64 (g2 : Int)) ∧ W.cell? ⟨k0, 3, none⟩ = some (.int .u64 0) ∧ Kept w k0 [⟨k0, 0, g0, g1, g2, 0⟩, ⟨k1, 0, 0, 0, 0, 0⟩] W) : (W.alloc o).cell? ⟨k0, 0, none⟩ = some (.int .u64 (g0 : Int)) ∧ (W.alloc o).cell? ⟨k0, 1, none⟩ = some (.int .u64 (g1 : Int)) ∧ (W.alloc o).cell? ⟨k0, 2, none⟩ = some (.int .u64 (g2 : Int)) ∧ (W.alloc o).cell? ⟨k0, 3, none⟩ = some (.int .u64 0) ∧ Kept w k0 [⟨k0, 0, g0, g1, g2, 0⟩, ⟨k1, 0, 0, 0, 0, 0⟩] (W.alloc o) := redS_of ((redS_get h).alloc o)
theorem redS_allocd {w W : World} {k0 k1 g0 g1 g2 : Nat} {o : Obj} (h : W.drew.cell? ⟨k0, 0, none⟩ = some (.int .u64 (g0 : Int)) ∧ W.drew.cell? ⟨k0, 1, none⟩ = some (.int .u64 (g1 : Int)) ∧ W.drew.cell? ⟨k0, 2, none⟩ = some (.int .u64 (g2 : Int)) ∧ W.drew.cell? ⟨k0, 3, none⟩ = some (.int .u64 0) ∧ Kept w k0 [⟨k0, 0, g0, g1, g2, 0⟩, ⟨k1, 0, 0, 0, 0, 0⟩] W.drew) : (W.alloc o).drew.cell? ⟨k0, 0, none⟩ = some (.int .u64 (g0 : Int)) ∧ (W.alloc o).drew.cell? ⟨k0, 1, none⟩ = some (.int .u64 (g1 : Int)) ∧ (W.alloc o).drew.cell? ⟨k0, 2, none⟩ = some (.int .u64 (g2 : Int)) ∧ (W.alloc o).drew.cell? ⟨k0, 3, none⟩ = some (.int .u64 0) ∧ Kept w k0 [⟨k0, 0, g0, g1, g2, 0⟩, ⟨k1, 0, 0, 0, 0, 0⟩] (W.alloc o).drew := redS_of (((redS_get h).undrew).alloc o).drew

theorem holds_part {w : World} {g o : Nat} {bs : Bs} (p l : Nat) (h : Holds encB w g o bs) (hp : p + l ≤ bs.size) : Holds encB w g (o + p) (bs.extract p (p + l)) := by
  refine Holds.part h (by rw [Array.size_extract]; omega) (fun j hj => ?_)
  rw [Array.size_extract] at hj
  rw [getElem!_pos (bs.extract p (p + l)) j (by rw [Array.size_extract]; omega), getElem!_pos bs (p + j) (by omega), Array.getElem_extract]
theorem holds_front {w : World} {g o : Nat} {bs : Bs} (f : Nat) (h : Holds encB w g o bs) (hf : f ≤ bs.size) : Holds encB w g o (bs.extract 0 f) := by
  have := holds_part 0 f h (by omega)
  rwa [Nat.zero_add, Nat.add_zero] at this

/-- A number in a block of its own, as Reduce has it between its rounds. -/
def RedR (w : World) (k0 k1 g0 g1 g2 N : Nat) (s6 : Value) (wx : World) : Prop :=
  ∃ k6 a b c d : Nat, s6 = .pointer (some ⟨k6, 0, none⟩) ∧ Kept w k0 [⟨k6, 0, a, b, c, d⟩, ⟨k0, 0, g0, g1, g2, 0⟩, ⟨k1, 0, 0, 0, 0, 0⟩] wx ∧ k6 ≠ k0 ∧ k6 ≠ k1 ∧ k0 ≤ k6 ∧
    Hid (Four (.agg #[.int .u64 (a : Int), .int .u64 (b : Int), .int .u64 (c : Int), .int .u64 (d : Int)]) N)
theorem RedR.drew {w wx : World} {k0 k1 g0 g1 g2 N : Nat} {s6 : Value} (h : RedR w k0 k1 g0 g1 g2 N s6 wx) : RedR w k0 k1 g0 g1 g2 N s6 wx.drew := by
  obtain ⟨k6, a, b, c, d, h1, h2, h3⟩ := h
  exact ⟨k6, a, b, c, d, h1, h2.drew, h3⟩
theorem RedR.made {w w1 : World} {k0 k1 g0 g1 g2 N a b c d : Nat} (KP : Kept w k0 [⟨k0, 0, g0, g1, g2, 0⟩, ⟨k1, 0, 0, 0, 0, 0⟩] w1) (hF : Hid (Four (.agg #[.int .u64 (a : Int), .int .u64 (b : Int), .int .u64 (c : Int), .int .u64 (d : Int)]) N)) :
    RedR w k0 k1 g0 g1 g2 N (.pointer (some ⟨w1.heap.size, 0, none⟩)) (w1.alloc (.cells #[.int .u64 (a : Int), .int .u64 (b : Int), .int .u64 (c : Int), .int .u64 (d : Int)] 77)) :=
  ⟨w1.heap.size, a, b, c, d, rfl, (KP.alloc _).cons (At4.made w1 77 a b c d rfl).blk, Nat.ne_of_gt KP.head.lt, Nat.ne_of_gt KP.tail.head.lt, KP.le, hF⟩
theorem RedR.put {w w1 : World} {k0 k1 k6 g0 g1 g2 N a b c d x y z u : Nat} (KP : Kept w k0 [⟨k0, 0, g0, g1, g2, 0⟩, ⟨k1, 0, 0, 0, 0, 0⟩] w1) (T : At4 w1 k6 x y z u) (M7 : k0 ≤ k6) (N7 : ∀ x ∈ ([⟨k0, 0, g0, g1, g2, 0⟩, ⟨k1, 0, 0, 0, 0, 0⟩] : List Blk), x.k < k6) (hF : Hid (Four (.agg #[.int .u64 (a : Int), .int .u64 (b : Int), .int .u64 (c : Int), .int .u64 (d : Int)]) N)) :
    RedR w k0 k1 g0 g1 g2 N (.pointer (some ⟨k6, 0, none⟩)) ((((w1.setCell ⟨k6, 0, none⟩ (.int .u64 (a : Int))).setCell ⟨k6, 1, none⟩ (.int .u64 (b : Int))).setCell ⟨k6, 2, none⟩ (.int .u64 (c : Int))).setCell ⟨k6, 3, none⟩ (.int .u64 (d : Int))) :=
  ⟨k6, a, b, c, d, rfl, (KP.set4' M7 (fun x hx => Nat.ne_of_gt (N7 x hx)) _ _ _ _).cons (T.self4 a b c d).blk, Nat.ne_of_gt (N7 ⟨k0, 0, g0, g1, g2, 0⟩ (by simp)), Nat.ne_of_gt (N7 ⟨k1, 0, 0, 0, 0, 0⟩ (by simp)), M7, hF⟩

theorem red_step {P : Nat} (bs : Bs) (p : Nat) (hp : p + 32 ≤ bs.size) : (beV (bs.extract p (p + 32)).toList + top * (beV (bs.extract 0 p).toList % P)) % P = beV (bs.extract 0 (p + 32)).toList % P := by
  have e : (bs.extract 0 (p + 32)).toList = (bs.extract 0 p).toList ++ (bs.extract p (p + 32)).toList := by
    rw [← Array.toList_append, Array.extract_append_extract, Nat.min_eq_left (by omega), Nat.max_eq_right (by omega)]
  have l32 : (bs.extract p (p + 32)).toList.length = 32 := by rw [Array.length_toList, Array.size_extract]; omega
  have ht : 256 ^ 32 = top := by unfold top; decide
  rw [e, beV_append, l32, ht, Nat.add_comm, Nat.add_mod, Nat.mul_mod, Nat.mod_mod, ← Nat.mul_mod, ← Nat.add_mod, Nat.mul_comm]

set_option maxHeartbeats 8000000 in
set_option maxRecDepth 100000 in
theorem PReduce_any (g0 g1 g2 P g o n cap : Nat) (bs : Bs) (hG : Gap g0 g1 g2 P) (w : World) (hs : bs.size = n) (hc : n ≤ cap) (hg : g < w.heap.size) (hB : Holds encB w g o bs) :
    Calls Try.prog 67 #[.agg #[.int .u64 (g0 : Int), .int .u64 (g1 : Int), .int .u64 (g2 : Int), .int .u64 0], .slice (some ⟨g, o, none⟩) n cap] w (Ret fun e w' => Below w.heap.size w w' ∧ Four e (beV bs.toList % P)) := by
  obtain ⟨f, hf⟩ : ∃ f, f = n % 32 := ⟨_, rfl⟩
  have hf32 : f < 32 := by omega
  have hfn : f ≤ n := by omega
  have e1 : (n : Int) % 32 = (f : Int) := by omega
  have e2 : (f : Int) ≤ (cap : Int) := by omega
  have e3 : (f : Int) ≤ (n : Int) := by omega
  have e4 : f ≤ cap := by omega
  have hsz0 : (bs.extract 0 f).size = f := by rw [Array.size_extract]; omega
  have Hf : Hid (f = n % 32) := hf
  have HS : Hid ((bs.extract 0 f).size = f) := hsz0
  have hbs : f ≤ bs.size := by omega
  have HSZ : Hid (bs.size = n) := hs
  have HG : Hid (Gap g0 g1 g2 P) := hG
  clear hf hsz0 hG
  go_enter Try.func67, Try.ntmps67
  go_upto_region 2 with fail
  rw [e1]
  clear e1
  have PR := (At4.made w 79 g0 g1 g2 0 rfl).alloc (.cells #[.int .u64 0, .int .u64 0, .int .u64 0, .int .u64 0] 85)
  have RE := At4.made (w.alloc (.cells #[.int .u64 (g0 : Int), .int .u64 (g1 : Int), .int .u64 (g2 : Int), .int .u64 0] 79)) 85 0 0 0 0 (World.size_alloc _ _)
  have KP := ((Kept.mk1 (below2 w (.cells #[.int .u64 (g0 : Int), .int .u64 (g1 : Int), .int .u64 (g2 : Int), .int .u64 0] 79) (.cells #[.int .u64 0, .int .u64 0, .int .u64 0, .int .u64 0] 85)) (below2 w (.cells #[.int .u64 (g0 : Int), .int .u64 (g1 : Int), .int .u64 (g2 : Int), .int .u64 0] 79) (.cells #[.int .u64 0, .int .u64 0, .int .u64 0, .int .u64 0] 85)).size).cons RE.blk).cons PR.blk
  clear PR RE
  generalize World.alloc _ _ = W0 at KP ⊢
  generalize h1 : w.heap.size + 1 = k1 at KP ⊢
  have Q1 : Hid (w.heap.size ≤ k1) := by unfold Hid; omega
  generalize h0 : w.heap.size = k0 at KP Q1 hg ⊢
  have n01 : k0 ≠ k1 := by omega
  have H0 : Hid (w.heap.size = k0) := h0
  have HBS : Hid (Holds encB w g o bs) := hB
  clear h0 h1 hB hs
  go_cut [6] (fun s6 wx => RedR w k0 k1 g0 g1 g2 (beV (bs.extract 0 f).toList % P) s6 wx)
  case first =>
    go_region_held3 (fun w' => w'.cell? ⟨k0, 0, none⟩ = some (.int .u64 (g0 : Int)) ∧ w'.cell? ⟨k0, 1, none⟩ = some (.int .u64 (g1 : Int)) ∧ w'.cell? ⟨k0, 2, none⟩ = some (.int .u64 (g2 : Int)) ∧ w'.cell? ⟨k0, 3, none⟩ = some (.int .u64 0) ∧ Kept w k0 [⟨k0, 0, g0, g1, g2, 0⟩, ⟨k1, 0, 0, 0, 0, 0⟩] w') (first | (with_reducible exact redS_of KP) | (with_reducible exact redS_of KP.drew) | (with_reducible exact redS_allocd (by assumption)) | (with_reducible exact redS_alloc (by assumption)) | (with_reducible exact redS_of (KP.alloc _)) | (with_reducible exact redS_of (KP.set4' M7 (fun x hx => Nat.ne_of_gt (N7 x hx)) _ _ _ _)) | (with_reducible exact redS_of (KP.alloc _).drew) | (with_reducible exact redS_of (KP.set4' M7 (fun x hx => Nat.ne_of_gt (N7 x hx)) _ _ _ _).drew) | fail) (first | (go_at_call 98; refine (fromBytes_any (some ⟨g, o, none⟩) g o f cap (bs.extract 0 f) _ (Nat.le_of_lt hf32) e4 HS.out (Or.inr ⟨rfl, holds_front f (Holds.below HBS.out (redS_get (by assumption)).bl hg) hbs⟩)).mono ?_; rintro e w1 ⟨v, rfl, hb1, hF1⟩; obtain ⟨a1, b1, c1, d1, rfl, ha1, hb1', hc1, hd1, es1⟩ := id hF1; clear es1; have HF1 : Hid (Four _ _) := hF1; clear hF1; (try (with_reducible have T1 := T.call hb1; clear T; have T := T1; clear T1)); (try (first | (with_reducible have T := (At4.made _ 77 0 0 0 0 rfl).call hb1) | (with_reducible have T := (At4.made _ 77 0 0 0 0 rfl).drew.call hb1)); have N7 := KP.lts; have M7 := KP.le); have KP1 := Kept.call (redS_get (by assumption)) hb1; clear KP; have KP := KP1; clear KP1 hb1) | (go_at_call 84; refine (four_any _ _ HF1.out _).mono ?_; rintro e w1 ⟨v, rfl, hb1, rfl⟩; (try (with_reducible have T1 := T.call hb1; clear T; have T := T1; clear T1)); (try (first | (with_reducible have T := (At4.made _ 77 0 0 0 0 rfl).call hb1) | (with_reducible have T := (At4.made _ 77 0 0 0 0 rfl).drew.call hb1)); have N7 := KP.lts; have M7 := KP.le); have KP1 := Kept.call (redS_get (by assumption)) hb1; clear KP; have KP := KP1; clear KP1 hb1) | (go_at_call 97; refine (fold_any g0 g1 g2 _ _ _ _ P HG.out.h0 HG.out.h1 HG.out.h2 HG.out.hor HG.out.hP HG.out.hP2 HF1.out (Four.mk (a := 0) (b := 0) (c := 0) (d := 0) (by decide) (by decide) (by decide) (by decide) rfl) _).mono ?_; rintro e w1 ⟨v, rfl, hb1, hF3⟩; obtain ⟨a', b', c', d', rfl, ha', hb', hc', hd', es3⟩ := id hF3; clear es3; have HF3 : Hid (Four _ _) := hF3; clear hF3; (try (with_reducible have T1 := T.call hb1; clear T; have T := T1; clear T1)); (try (first | (with_reducible have T := (At4.made _ 77 0 0 0 0 rfl).call hb1) | (with_reducible have T := (At4.made _ 77 0 0 0 0 rfl).drew.call hb1)); have N7 := KP.lts; have M7 := KP.le); have KP1 := Kept.call (redS_get (by assumption)) hb1; clear KP; have KP := KP1; clear KP1 hb1; (try (obtain ⟨tc0, tc1, tc2, tc3, tf⟩ := id T; have zt := T.lt))))
    all_goals (try go_wp2)
    all_goals (rw [show val 0 0 0 0 = 0 from rfl, Nat.mul_zero, Nat.add_zero] at HF3)
    all_goals (go_meet; first | (with_reducible exact RedR.made KP HF3) | (with_reducible exact (RedR.made KP HF3).drew) | (with_reducible exact RedR.put KP T M7 N7 HF3) | (with_reducible exact (RedR.put KP T M7 N7 HF3).drew) | fail)
  case rest =>
    clear KP
    obtain ⟨k6, a, b, c, d, rfl, KP, n60, n61, M6, HF⟩ := hcut
    have f0 : (0 : Int) ≤ (f : Int) := Int.natCast_nonneg _
    go_upto_region 3 with fail
    go_cut [1] (fun s1 wx => ∃ q : Nat, s1 = .slice (some ⟨g, q, none⟩) (n - f) (cap - f) ∧ Hid (0 < n - f → q = o + f) ∧ Kept w k0 [⟨k6, 0, a, b, c, d⟩, ⟨k0, 0, g0, g1, g2, 0⟩, ⟨k1, 0, 0, 0, 0, 0⟩] wx)
    case first =>
      by_cases ec : cap = f
      · have en : n = f := by omega
        have HEN : Hid (n = f ∧ cap = f) := ⟨en, ec⟩
        go_wp2
        go_meet
        refine ⟨o, ?_, fun h => ?_, KP⟩
        · rw [HEN.out.1, HEN.out.2]; try simp
        · have := HEN.out.1; omega
      · go_wp2
        go_meet
        exact ⟨o + f, rfl, fun _ => rfl, KP⟩
    case rest =>
    clear KP
    obtain ⟨q0, rfl, HQ0, KP⟩ := hcut
    go_wp2_with fail
    go_loopg [1] (n - f) (fun gk s1 wr => ∃ (l q lc a b c d : Nat), gk = l ∧ l ≤ n ∧ s1 = .slice (some ⟨g, q, none⟩) l lc ∧ Hid (l % 32 = 0 ∧ (0 < l → q = o + (n - l)) ∧ lc = cap - (n - l)) ∧ Kept w k0 [⟨k6, 0, a, b, c, d⟩, ⟨k0, 0, g0, g1, g2, 0⟩, ⟨k1, 0, 0, 0, 0, 0⟩] wr ∧
      Hid (Four (.agg #[.int .u64 (a : Int), .int .u64 (b : Int), .int .u64 (c : Int), .int .u64 (d : Int)]) (beV (bs.extract 0 (n - l)).toList % P)))
    case atStart =>
      refine ⟨n - f, q0, cap - f, a, b, c, d, rfl, by omega, rfl, ⟨by have := Hf.out; omega, fun h => by have := HQ0.out h; omega, by omega⟩, KP, ?_⟩
      rw [show n - (n - f) = f by omega]
      exact HF
    case round =>
      clear KP HF
      obtain ⟨l, q, lc, a, b, c, d, hgk, hln, rfl, HQ3, KP, HF⟩ := hrel
      clear e2 e3 e4 f0 hbs HS hf32 hfn HQ0
      have hlcl : l ≤ lc := by have := HQ3.out; omega
      by_cases h0 : l = 0
      · subst h0
        obtain ⟨xc0, xc1, xc2, xc3, xf⟩ := KP.head.at4
        have z7 := KP.head.lt
        go_wp2_with fail
        refine (number_any _ _ HF.out _).mono ?_
        rintro e w3 ⟨v, rfl, hb3, rfl⟩
        have KP3 := KP.call hb3
        clear hb3 xc0 xc1 xc2 xc3 xf z7 KP
        obtain ⟨rc0, rc1, rc2, rc3, rf⟩ := KP3.tail.tail.head.at4
        have z3 := KP3.tail.tail.head.lt
        go_wp2
        have RF := KP3.tail.tail.head.at4.self4 a b c d
        unfold set4 at RF
        refine bodyPost_ret (v := ?v) ?hr rfl ?hR
        case hr => simp [results, Try.results67, go_sem, RF.c0, RF.c1, RF.c2, RF.c3]; rfl
        refine ⟨_, rfl, ?_, ?_⟩
        · rw [H0.out]
          exact below_set4 KP3.bl Q1.out _ _ _ _
        · have := HF.out
          rw [Nat.sub_zero, ← HSZ.out, Array.extract_size] at this
          exact this
      · have h32 : 32 ≤ l := by have := HQ3.out; omega
        have HQ : Hid (o + (n - l) = q) := (HQ3.out.2.1 (by omega)).symm
        have h32c : 32 ≤ lc := by omega
        have i1 : (32 : Int) ≤ (lc : Int) := by omega
        have i2 : (32 : Int) ≤ (l : Int) := by omega
        have i3 : (0 : Int) < (l : Int) := by omega
        have HSL : Hid (n - l + 32 ≤ bs.size) := by unfold Hid; have := HSZ.out; omega
        have HS3 : Hid ((bs.extract (n - l) (n - l + 32)).size = 32) := by unfold Hid; rw [Array.size_extract]; have := HSL.out; omega
        obtain ⟨tc0, tc1, tc2, tc3, tf⟩ := KP.head.at4
        have zt := KP.head.lt
        obtain ⟨pc0, pc1, pc2, pc3, pf⟩ := KP.tail.head.at4
        have hl6 : ∀ x ∈ ([⟨k0, 0, g0, g1, g2, 0⟩, ⟨k1, 0, 0, 0, 0, 0⟩] : List Blk), k6 ≠ x.k := by simp only [List.mem_cons, List.not_mem_nil, or_false]; rintro x (rfl | rfl); exact n60; exact n61
        have HFF : Hid (_ = _) := red_step (P := P) bs (n - l) HSL.out
        go_wp2_with fail
        go_region_with (first | (go_at_call 98; refine (fromBytes_any (some ⟨g, q, none⟩) g q 32 lc (bs.extract (n - l) (n - l + 32)) _ (Nat.le_refl 32) h32c HS3.out (Or.inr ⟨rfl, HQ.out ▸ holds_part (n - l) 32 (by first | (with_reducible exact Holds.below HBS.out KP.bl hg) | (with_reducible exact Holds.below HBS.out KP.drew.bl hg) | fail) HSL.out⟩)).mono ?_; rintro e w1 ⟨v, rfl, hb1, hF1⟩; obtain ⟨a1, b1, c1, d1, rfl, ha1, hb1', hc1, hd1, es1⟩ := id hF1; clear es1; have HF1 : Hid (Four _ _) := hF1; clear hF1; (first | (with_reducible have KP1 := KP.call hb1) | (with_reducible have KP1 := KP.drew.call hb1) | fail); clear KP; have KP := KP1; clear KP1 hb1; obtain ⟨tc0, tc1, tc2, tc3, tf⟩ := KP.head.at4; have zt := KP.head.lt; obtain ⟨pc0, pc1, pc2, pc3, pf⟩ := KP.tail.head.at4) | (go_at_call 84; refine (four_any _ _ HF1.out _).mono ?_; rintro e w1 ⟨v, rfl, hb1, rfl⟩; (first | (with_reducible have KP1 := KP.call hb1) | (with_reducible have KP1 := KP.drew.call hb1) | fail); clear KP; have KP := KP1; clear KP1 hb1; obtain ⟨tc0, tc1, tc2, tc3, tf⟩ := KP.head.at4; have zt := KP.head.lt; obtain ⟨pc0, pc1, pc2, pc3, pf⟩ := KP.tail.head.at4) | (go_at_call 97; refine (fold_any g0 g1 g2 _ _ _ _ P HG.out.h0 HG.out.h1 HG.out.h2 HG.out.hor HG.out.hP HG.out.hP2 HF1.out HF.out _).mono ?_; rintro e w1 ⟨v, rfl, hb1, hF3⟩; obtain ⟨a', b', c', d', rfl, ha', hb', hc', hd', es3⟩ := id hF3; clear es3; have HF3 : Hid (Four _ _) := hF3; clear hF3; (first | (with_reducible have KP1 := KP.call hb1) | (with_reducible have KP1 := KP.drew.call hb1) | fail); clear KP; have KP := KP1; clear KP1 hb1; obtain ⟨tc0, tc1, tc2, tc3, tf⟩ := KP.head.at4; have zt := KP.head.lt; obtain ⟨pc0, pc1, pc2, pc3, pf⟩ := KP.tail.head.at4))
        all_goals (rw [HFF.out] at HF3)
        all_goals (by_cases i4 : lc = 32)
        all_goals (try go_wp2)
        all_goals
          (go_roundg (l - 32)
           case measure => omega
           case rel =>
            first
              | refine ⟨l - 32, q + 32, lc - 32, a', b', c', d', rfl, by omega, rfl, ⟨by have := HQ3.out; omega, fun _ => by have := HQ.out; omega, by have := HQ3.out; omega⟩, ?_, ?_⟩
              | refine ⟨l - 32, q, lc - 32, a', b', c', d', rfl, by omega, by first | rfl | (rw [i4]), ⟨by have := HQ3.out; omega, fun h => by omega, by have := HQ3.out; omega⟩, ?_, ?_⟩
              | fail
            · first | (with_reducible exact KP.put M6 hl6 a' b' c' d') | (with_reducible exact (KP.put M6 hl6 a' b' c' d').drew) | fail
            · rw [show n - (l - 32) = n - l + 32 by omega]; exact HF3)
end Go.Proofs.Ytppdcphfphcbbab
