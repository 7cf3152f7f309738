import Derived.Test.YtdeidgbknlmhjabAP
namespace Go.Proofs.Ytdeidgbknlmhjab
open Go.RowKit Go.Sort Go.Deep
variable {P : Nat} [NeZero P]

theorem cell_below {w w1 : World} {k j : Nat} {v : Value} (h : w.cell? ⟨k, j, none⟩ = some v) (hb : Below w.heap.size w w1) (hk : k < w.heap.size) : w1.cell? ⟨k, j, none⟩ = some v := by
  have h1 : w.rangeAt k j [v] := fun i u hu => by
    cases i with
    | zero =>
      obtain rfl : v = u := Option.some.inj hu
      exact h
    | succ i => exact absurd hu (by simp)
  exact RG.range_below h1 hb hk 0 v rfl
theorem ArgsPts.below {w w1 : World} {q : Option Addr} {n : Nat} {L : Nat → Bs} (h : ArgsPts w q n L) (hb : Below w.heap.size w w1) : ArgsPts w1 q n L := fun hn => by
  obtain ⟨gg, hq, hlt, hc⟩ := h hn
  refine ⟨gg, hq, Nat.lt_of_lt_of_le hlt hb.size, fun j hj => ?_⟩
  obtain ⟨v, hv, ha⟩ := hc j hj
  exact ⟨v, cell_below hv hb hlt, ha.below hb⟩
theorem ArgsScs.below {w w1 : World} {q : Option Addr} {n : Nat} {L : Nat → Bs} (h : ArgsScs w q n L) (hb : Below w.heap.size w w1) : ArgsScs w1 q n L := fun hn => by
  obtain ⟨gg, hq, hlt, hc⟩ := h hn
  refine ⟨gg, hq, Nat.lt_of_lt_of_le hlt hb.size, fun j hj => ?_⟩
  obtain ⟨v, hv, ha⟩ := hc j hj
  exact ⟨v, cell_below hv hb hlt, ha.below hb⟩
/-- What Sum answers. -/
def SumR (P : Nat) [NeZero P] (N : Nat) (w : World) (n a : Nat) (L M : Nat → Bs) (e : Value) (w' : World) : Prop :=
  (n ≠ a ∧ OutE 2 e) ∨ (n = a ∧ 512 < n ∧ OutE 1 e) ∨ (n = a ∧ n ≤ 512 ∧ (((∃ j, j < n ∧ rq N (L j) = none) ∧ OutE 3 e) ∨
    ∃ ns : Nat → Nat, (∀ j, j < n → rq N (L j) = some (ns j)) ∧ (((∃ j, j < n ∧ rd P (M j) = none) ∧ OutE 4 e) ∨
      ∃ xs ys : Nat → Fin P, (∀ j, j < n → rd P (M j) = some (xs j, ys j)) ∧ OutP w (by33 (ptP (sumJ ns xs ys n 257)).1 (ptP (sumJ ns xs ys n 257)).2) e w')))
theorem choose_nat {A : Type} [Inhabited A] {n : Nat} {p : Nat → A → Prop} (h : ∀ j, j < n → ∃ a, p j a) : ∃ f : Nat → A, ∀ j, j < n → p j (f j) :=
  ⟨fun j => if hj : j < n then (h j hj).choose else default, fun j hj => by
    show p j (if hj : j < n then (h j hj).choose else default)
    rw [dif_pos hj]
    exact (h j hj).choose_spec⟩
theorem rq_top {N : Nat} (hN : N ≤ top) {bs : Bs} {m : Nat} (h : rq N bs = some m) : m < top := by
  unfold rq at h
  split at h
  · rename_i h1
    obtain rfl : beV bs.toList = m := Option.some.inj h
    exact Nat.lt_of_lt_of_le h1.2 hN
  · exact absurd h (by simp)

set_option maxHeartbeats 4000000 in
set_option maxRecDepth 100000 in
theorem gSum_c {N : Nat} (C : Fld P) (hG : Gap 4624529908474429119 4994812053365940164 1 N) (hN : N ≤ top) (q q' : Option Addr) (n cap a cap' : Nat) (L M : Nat → Bs) (w : World) (hL : ArgsScs w q n L) (hM : ArgsPts w q' a M) :
    Calls Try.prog 42 #[.slice q n cap, .slice q' a cap'] w (Ret fun e w' => Below w.heap.size w w' ∧ SumR P N w n a L M e w') := by
  have HL : Hid (ArgsScs w q n L) := hL
  have HM : Hid (ArgsPts w q' a M) := hM
  clear hL hM
  by_cases hna : n = a
  · subst hna
    by_cases h512 : 512 < n
    · go_enter Try.func42, Try.ntmps42
      go_wp2
      go_ret2
      exact ⟨_, rfl, RowKit.Below.refl _ _, Or.inr (Or.inl ⟨rfl, h512, rfl⟩)⟩
    · have H5 : n ≤ 512 := by omega
      go_enter Try.func42, Try.ntmps42
      go_wp2_with fail
      refine (Scs_c hG n cap H5 q L w HL.out).mono ?_
      rintro e w1 ⟨v, rfl, hb1, ⟨k, hk1, hk2, rfl, hrow⟩ | ⟨hno, rfl⟩⟩
      · obtain ⟨ns, hns⟩ := choose_nat hrow
        have HB : Hid (Below w.heap.size w w1) := hb1
        have HS : Hid (k < w1.heap.size ∧ ∀ j, j < n → w1.rangeAt k (4 * j) (wn (ns j))) := ⟨hk2, fun j hj => (hns j hj).2⟩
        have HN : Hid (∀ j, j < n → rq N (L j) = some (ns j)) := fun j hj => (hns j hj).1
        clear hrow hns hk1 hk2 hb1
        go_wp2_with fail
        refine (Pts_c C n cap' H5 q' M w1 (HM.out.below HB.out)).mono ?_
        rintro e w2 ⟨v, rfl, hb2, ⟨k', hk1, hk2, rfl, hrow⟩ | ⟨hno, rfl⟩⟩
        · obtain ⟨ps, hps⟩ := choose_nat hrow
          have HB2 : Hid (Below w.heap.size w w2) := HB.out.trans (hb2.mono HB.out.size)
          have HS2 : Hid (k < w2.heap.size ∧ ∀ j, j < n → w2.rangeAt k (4 * j) (wn (ns j))) := ⟨Nat.lt_of_lt_of_le HS.out.1 hb2.size, fun j hj => RG.range_below (HS.out.2 j hj) hb2 HS.out.1⟩
          have HP : Hid (k' < w2.heap.size ∧ ∀ j, j < n → w2.rangeAt k' (8 * j) (ws (ps j).1 ++ ws (ps j).2)) := ⟨hk2, fun j hj => (hps j hj).2⟩
          have HM2 : Hid (∀ j, j < n → rd P (M j) = some ((ps j).1, (ps j).2)) := fun j hj => (hps j hj).1
          clear hrow hps hk1 hk2 hb2
          have hBt : ∀ w, Calls Try.prog 76 #[pv (ptP (sumJ ns (fun j => (ps j).1) (fun j => (ps j).2) n 257)).1 (ptP (sumJ ns (fun j => (ps j).1) (fun j => (ps j).2) n 257)).2] w (Ret fun e w' => Below w.heap.size w w' ∧ BytesR w (by33 (ptP (sumJ ns (fun j => (ps j).1) (fun j => (ps j).2) n 257)).1 (ptP (sumJ ns (fun j => (ps j).1) (fun j => (ps j).2) n 257)).2) e w') := bytes_c C _ _
          have hS : Calls Try.prog 82 #[.slice (some ⟨k, 0, none⟩) n n, .slice (some ⟨k', 0, none⟩) n n] w2 (Ret fun e w' => Below w2.heap.size w2 w' ∧ e = pv (ptP (sumJ ns (fun j => (ps j).1) (fun j => (ps j).2) n 257)).1 (ptP (sumJ ns (fun j => (ps j).1) (fun j => (ps j).2) n 257)).2) := by
            refine (sums_c C n H5 ns (fun j => (ps j).1) (fun j => (ps j).2) (fun i hi => rq_top hN (HN.out i hi)) k k' w2 HS2.out.1 HP.out.1 HS2.out.2 HP.out.2).mono ?_
            rintro e w' ⟨v, rfl, hb, s, rfl, rfl⟩
            exact ⟨_, rfl, hb, rfl⟩
          generalize hz : ptP (sumJ ns (fun j => (ps j).1) (fun j => (ps j).2) n 257) = z at hS hBt
          have HZ : Hid (ptP (sumJ ns (fun j => (ps j).1) (fun j => (ps j).2) n 257) = z) := hz
          clear hz
          generalize pv z.1 z.2 = v4 at hS hBt
          go_wp2_with fail
          refine hS.mono ?_
          rintro e w3 ⟨v, rfl, hb3, rfl⟩
          have HB3 : Hid (Below w.heap.size w w3) := HB2.out.trans (hb3.mono HB2.out.size)
          clear hb3
          go_wp2_with fail
          refine (hBt _).mono ?_
          rintro e w4 ⟨v, rfl, hb4, g, cap3, rfl, hc3, hg3, hlt3, hH3⟩
          have HB4 : Hid (Below w.heap.size w w4) := HB3.out.trans (hb4.mono HB3.out.size)
          have HO : Hid (OutP w (by33 z.1 z.2) (.tuple #[.slice (some ⟨g, 0, none⟩) 33 cap3, .int .i64 0]) w4) := ⟨g, cap3, rfl, hc3, Nat.le_trans HB3.out.size hg3, hlt3, hH3⟩
          clear hb4 hH3
          go_wp2
          go_ret2
          refine ⟨_, rfl, HB4.out, Or.inr (Or.inr ⟨rfl, H5, Or.inr ⟨ns, HN.out, Or.inr ⟨_, _, HM2.out, ?_⟩⟩⟩)⟩
          rw [HZ.out]
          exact HO.out
        · have HB2 : Hid (Below w.heap.size w w2) := HB.out.trans (hb2.mono HB.out.size)
          have HO : Hid (∃ j, j < n ∧ rd P (M j) = none) := hno
          clear hb2 hno
          go_wp2
          go_ret2
          exact ⟨_, rfl, HB2.out, Or.inr (Or.inr ⟨rfl, H5, Or.inr ⟨ns, HN.out, Or.inl ⟨HO.out, rfl⟩⟩⟩)⟩
      · have HB : Hid (Below w.heap.size w w1) := hb1
        have HO : Hid (∃ j, j < n ∧ rq N (L j) = none) := hno
        clear hb1 hno
        go_wp2
        go_ret2
        exact ⟨_, rfl, HB.out, Or.inr (Or.inr ⟨rfl, H5, Or.inl ⟨HO.out, rfl⟩⟩)⟩
  · go_enter Try.func42, Try.ntmps42
    go_wp2
    go_ret2
    exact ⟨_, rfl, RowKit.Below.refl _ _, Or.inl ⟨hna, rfl⟩⟩
theorem one_scs {w : World} {v : Value} {bs : Bs} (T : TypeId) (h : Arg w v bs) : ArgsScs (w.alloc (.cells #[v] T)) (some ⟨w.heap.size, 0, none⟩) 1 (fun _ => bs) := fun _ =>
  ⟨w.heap.size, rfl, by rw [World.size_alloc]; omega, fun j hj => by
    obtain rfl : j = 0 := by omega
    exact ⟨v, by rw [World.cell?_alloc_new]; rfl, h.below (below1 w _)⟩⟩
theorem inn_one (ns : Nat → Nat) (xs ys : Nat → Fin P) (st : T3 P) (p : Nat) : inn ns xs ys st p 1 = inn (fun _ => ns 0) (fun _ => xs 0) (fun _ => ys 0) st p 1 := rfl
theorem sumJ_one (ns : Nat → Nat) (xs ys : Nat → Fin P) : ∀ m, sumJ ns xs ys 1 m = sumJ (fun _ => ns 0) (fun _ => xs 0) (fun _ => ys 0) 1 m
  | 0 => rfl
  | m + 1 => by
    unfold sumJ
    rw [sumJ_one ns xs ys m, inn_one]
/-- What Times answers. -/
def TimesR (P : Nat) [NeZero P] (N : Nat) (w : World) (az bs : Bs) (e : Value) (w' : World) : Prop := match rq N az, rd P bs with
  | none, _ => OutE 3 e
  | some _, none => OutE 4 e
  | some n, some p => OutP w (by33 (ptP (sumJ (fun _ => n) (fun _ => p.1) (fun _ => p.2) 1 257)).1 (ptP (sumJ (fun _ => n) (fun _ => p.1) (fun _ => p.2) 1 257)).2) e w'

set_option maxHeartbeats 4000000 in
theorem gTimes_c {N : Nat} (C : Fld P) (hG : Gap 4624529908474429119 4994812053365940164 1 N) (hN : N ≤ top) (v u : Value) (az bs : Bs) (w : World) (hv : Arg w v az) (hu : Arg33 w u bs) :
    Calls Try.prog 36 #[v, u] w (Ret fun e w' => Below w.heap.size w w' ∧ TimesR P N w az bs e w') := by
  have HV : Hid (Arg w v az ∧ Arg33 w u bs) := ⟨hv, hu⟩
  obtain ⟨q, n, cap, rfl, -⟩ := hv
  obtain ⟨q', n', cap', rfl, -⟩ := hu
  have HA : Hid (ArgsScs ((w.alloc (.cells #[.slice q n cap] 23)).alloc (.cells #[.slice q' n' cap'] 23)) (some ⟨w.heap.size, 0, none⟩) 1 (fun _ => az)) := (one_scs _ HV.out.1).below (below1 _ _)
  have HA' : Hid (ArgsPts ((w.alloc (.cells #[.slice q n cap] 23)).alloc (.cells #[.slice q' n' cap'] 23)) (some ⟨w.heap.size + 1, 0, none⟩) 1 (fun _ => bs)) := by
    have h := one_args 23 (HV.out.2.below (below1 w (.cells #[.slice q n cap] 23)))
    rw [World.size_alloc] at h
    exact h
  have HW : Hid (Below w.heap.size w ((w.alloc (.cells #[.slice q n cap] 23)).alloc (.cells #[.slice q' n' cap'] 23))) := (below1 w _).trans ((below1 _ _).mono (by simp))
  go_enter Try.func36, Try.ntmps36
  go_wp2_with fail
  refine (gSum_c C hG hN _ _ 1 1 1 1 (fun _ => az) (fun _ => bs) _ HA.out HA'.out).mono ?_
  have hone : ∀ m (ns : Nat → Nat) (xs ys : Nat → Fin P) W k z, m = 257 → Holds encB W k 0 (by33 (ptP (sumJ ns xs ys 1 m)).1 (ptP (sumJ ns xs ys 1 m)).2) → z = sumJ (fun _ => ns 0) (fun _ => xs 0) (fun _ => ys 0) 1 m → Holds encB W k 0 (by33 (ptP z).1 (ptP z).2) := by
    intro m ns xs ys W k z _ h hz
    rw [sumJ_one ns xs ys m] at h
    rw [hz]
    exact h
  rintro e w1 ⟨v, rfl, hb1, hs⟩
  have HB : Hid (Below w.heap.size w w1) := HW.out.trans (hb1.mono HW.out.size)
  have HT : Hid (TimesR P N w az bs v w1) := by
    unfold TimesR
    rcases hs with ⟨h, -⟩ | ⟨-, h, -⟩ | ⟨-, -, ⟨⟨j, -, h⟩, ho⟩ | ⟨ns, hns, ⟨⟨j, -, h⟩, ho⟩ | ⟨xs, ys, hp, g, cp, ho, hc, hg1, hg2, hH⟩⟩⟩
    · exact absurd rfl h
    · omega
    · rw [show rq N az = none from h]
      exact ho
    · rw [show rq N az = some (ns 0) from hns 0 (by decide), show rd P bs = none from h]
      exact ho
    · rw [show rq N az = some (ns 0) from hns 0 (by decide), show rd P bs = some (xs 0, ys 0) from hp 0 (by decide)]
      refine ⟨g, cp, ho, hc, ?_, hg2, ?_⟩
      · exact Nat.le_trans HW.out.size hg1
      · exact hone 257 ns xs ys _ _ _ rfl hH rfl
  clear hb1 hs
  have hv2 : ∃ a b, v = .tuple #[a, b] := by
    have := HT.out
    unfold TimesR at this
    split at this
    · exact ⟨_, _, this⟩
    · exact ⟨_, _, this⟩
    · obtain ⟨g, cp, ho, -⟩ := this
      exact ⟨_, _, ho⟩
  obtain ⟨a, b, rfl⟩ := hv2
  go_wp2
  go_ret2
  exact ⟨_, rfl, HB.out, HT.out⟩
end Go.Proofs.Ytdeidgbknlmhjab
