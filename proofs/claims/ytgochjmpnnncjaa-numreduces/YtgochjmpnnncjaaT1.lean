import Derived.Test.YtgochjmpnnncjaaN2
import Derived.Test.YtgochjmpnnncjaaN3
import Derived.Test.YtgochjmpnnncjaaM2
import Derived.Test.YtgochjmpnnncjaaE2
import Derived.Deep.RegionHeld3
namespace Go.Proofs.Ytgochjmpnnncjaa
open Go.RowKit Go.Sort Go.Deep

/-- What is at the front is held. -/
theorem Holds.prefix {α : Type} [Inhabited α] {f : α → Value} {w : World} {b o : Nat} {d e : Array α} (h : Holds f w b o d) (hs : e.size ≤ d.size) (he : ∀ j, j < e.size → e[j]! = d[j]!) : Holds f w b o e := by
  intro j hj
  rw [he j hj]
  exact h j (by omega)

theorem lentTo_front (s : ByteArray) (k j : Nat) (hj : j < s.data.size) : (lentTo s k)[j]! = s.data[j]! := by
  induction k with
  | zero => rw [lent_front s j hj, getElem!_pos s.data j hj]
  | succ k ih =>
    show ((lentTo s k).setIfInBounds (s.size + k) (fill (s.size + k)))[j]! = _
    have : s.data.size = s.size := rfl
    rw [getElem!_set_other _ _ _ _ (by omega), ih]

theorem holds_text {w : World} {b : Nat} (s : ByteArray) (h : Holds encB w b 0 (lent s)) : Holds encB w b 0 s.data := by
  have : s.data.size = s.size := rfl
  exact Holds.prefix h (by rw [lent_size]; omega) (fun j hj => (lentTo_front s 160 j hj).symm)

theorem redlS_of {w0 W : World} {kF p0 p1 p2 p3 c0 c1 c2 c3 gm : Nat} {T : Bs} (h : Kept w0 w0.heap.size [⟨kF, 0, p0, p1, p2, p3⟩, ⟨kF, 4, c0, c1, c2, c3⟩] W) (hH : Holds encB W gm 0 T) (hT : T.size = 32) : W.cell? ⟨kF, 0, none⟩ = some (.int .u64 (p0 : Int)) ∧ W.cell? ⟨kF, 1, none⟩ = some (.int .u64 (p1 : Int)) ∧ W.cell? ⟨kF, 2, none⟩ = some (.int .u64 (p2 : Int)) ∧ W.cell? ⟨kF, 3, none⟩ = some (.int .u64 (p3 : Int)) ∧ (convert 22 9 (.slice (some ⟨gm, 0, none⟩) 32 32)).run Try.prog W = .ok (.string ⟨T⟩) W ∧ Kept w0 w0.heap.size [⟨kF, 0, p0, p1, p2, p3⟩, ⟨kF, 4, c0, c1, c2, c3⟩] W :=
  ⟨h.head.c0, h.head.c1, h.head.c2, h.head.c3, conv_str Try.prog 22 9 5 slice22 int5 str9 _ gm 0 32 32 _ hH hT, h⟩

set_option maxHeartbeats 4000000 in
set_option maxRecDepth 100000 in
theorem reduces_short (k : Int) (g0 g1 g2 P p0 p1 p2 p3 c0 c1 c2 c3 : Nat) (hG : Gap g0 g1 g2 P) (hR : RefP p0 p1 p2 p3 c0 c1 c2 c3 P) (s : ByteArray) (hs : s.size ≤ 16384) (hshort : s.size ≤ 1024) (hk : decide (k = 0 ∨ k = 1) = true) (w0 : World)
    (hp : ∀ w, Calls Try.prog 46 #[.int .i64 k] w (Ret fun e w' => Below w.heap.size w w' ∧ e = .tuple #[.agg #[.int .u64 (g0 : Int), .int .u64 (g1 : Int), .int .u64 (g2 : Int), .int .u64 0], .int .i64 0]))
    (hmk : ∀ w, Calls Try.prog 29 #[.int .i64 k] w (Ret fun e w' => Below w.heap.size w w' ∧ e = .agg #[.int .u64 (p0 : Int), .int .u64 (p1 : Int), .int .u64 (p2 : Int), .int .u64 (p3 : Int), .int .u64 (c0 : Int), .int .u64 (c1 : Int), .int .u64 (c2 : Int), .int .u64 (c3 : Int)])) :
    Calls Try.prog 8 #[.int .i64 k, .string s] w0 fun e w' => e = .returned (.bool true) ∧ Below w0.heap.size w0 w' := by
  have HP : Hid _ := hp
  have HMK : Hid _ := hmk
  have HK : Hid (decide (k = 0 ∨ k = 1) = true) := hk
  clear hp hmk hk
  have h1 : ¬ (16384 : Int) < (s.size : Int) := by omega
  have h2 : ¬ (1024 : Int) < (s.size : Int) := by omega
  have h3 : (s.size : Int) ≤ (s.size : Int) + 160 := by omega
  go_enter Try.func8, Try.ntmps8
  go_wp2_with fail
  refine (Lent_any s _ hs).mono ?_
  rintro e w1 ⟨rfl, hb1, hL⟩
  go_wp2_with fail
  refine (Modulus_any k g0 g1 g2 P hG _ HP.out).mono ?_
  rintro e w2 ⟨v, rfl, hb2, m, rfl, hm⟩
  have hLl := Holds.lt hL (by rw [lent_size]; omega)
  have HL : Hid (Holds encB w2 w0.heap.size 0 (lent s)) := Holds.below hL hb2 hLl
  have hL2 : w0.heap.size < w2.heap.size := Nat.lt_of_lt_of_le hLl hb2.size
  have HB2 : Hid (Below w0.heap.size w0 w2) := hb1.trans (hb2.mono hb1.size)
  have HM : Hid (IsBytes w2 w0.heap.size m P) := hm.mono hb1.size
  clear hL hLl hb1 hb2 hm
  go_wp2_with fail
  refine (Reduce_any k g0 g1 g2 P w0.heap.size 0 s.size (s.size + 160) s.data hG _ rfl hshort (by omega) (by omega) hL2 (holds_text s HL.out) HP.out).mono ?_
  rintro e w3 ⟨v, rfl, hb3, b, rfl, hb⟩
  replace HM : Hid (IsBytes w3 w0.heap.size m P) := HM.out.call hb3
  have HL3 : Hid (Holds encB w3 w0.heap.size 0 (lent s)) := Holds.below HL.out hb3 hL2
  have HB3 : Hid (Below w0.heap.size w0 w3) := HB2.out.trans (hb3.mono HB2.out.size)
  have HBB : Hid (IsBytes w3 w0.heap.size b (beV s.data.toList % P)) := hb.mono HB2.out.size
  clear HL HB2 hb3 hL2 hb
  go_wp2_with fail
  refine (Still_any w0.heap.size _ s _ hs HL3.out rfl).mono ?_
  rintro e w4 ⟨rfl, hb4⟩
  have HB4 : Hid (Below w0.heap.size w0 w4) := HB3.out.trans (hb4.mono HB3.out.size)
  replace HM : Hid (IsBytes w4 w0.heap.size m P) := HM.out.call hb4
  replace HBB : Hid (IsBytes w4 w0.heap.size b (beV s.data.toList % P)) := HBB.out.call hb4
  clear HB3 HL3 hb4
  go_wp2_with fail
  refine (Known_any k _).mono ?_
  rintro e w5 ⟨rfl, rfl⟩
  rw [HK.out]
  go_wp2_with fail
  refine (HMK.out _).mono ?_
  rintro e w6 ⟨v, rfl, hb6, rfl⟩
  have HB6 : Hid (Below w0.heap.size w0 w6) := HB4.out.trans (hb6.mono HB4.out.size)
  replace HM : Hid (IsBytes w6 w0.heap.size m P) := HM.out.call hb6
  replace HBB : Hid (IsBytes w6 w0.heap.size b (beV s.data.toList % P)) := HBB.out.call hb6
  clear HB4 hb6
  obtain ⟨gm, ma, mb, mc, md, rfl, hgm, hFm, hHm⟩ := HM.out
  clear HM
  have hx : Four (.agg #[.int .u64 (p0 : Int), .int .u64 (p1 : Int), .int .u64 (p2 : Int), .int .u64 (p3 : Int)]) P := Four.mk hR.hp0 hR.hp1 hR.hp2 hR.hp3 hR.eP
  obtain ⟨e1, e2, e3, e4⟩ := ag_inj (hFm.inj hx)
  rw [← e1, ← e2, ← e3, ← e4] at hHm
  clear e1 e2 e3 e4
  have HX : Hid (Four _ _) := hx
  clear hFm hx
  go_wp2_with fail
  have A7 := At8.made w6 64 p0 p1 p2 p3 c0 c1 c2 c3 rfl
  have KP := ((Kept.mk1 (HB6.out.alloc HB6.out.size (.cells #[.int .u64 (p0 : Int), .int .u64 (p1 : Int), .int .u64 (p2 : Int), .int .u64 (p3 : Int), .int .u64 (c0 : Int), .int .u64 (c1 : Int), .int .u64 (c2 : Int), .int .u64 (c3 : Int)] 64)) (Nat.le_trans HB6.out.size (below1 w6 (.cells #[.int .u64 (p0 : Int), .int .u64 (p1 : Int), .int .u64 (p2 : Int), .int .u64 (p3 : Int), .int .u64 (c0 : Int), .int .u64 (c1 : Int), .int .u64 (c2 : Int), .int .u64 (c3 : Int)] 64)).size)).cons (x := ⟨w6.heap.size, 4, c0, c1, c2, c3⟩) ⟨A7.c4, A7.c5, A7.c6, A7.c7, A7.fz⟩).cons (x := ⟨w6.heap.size, 0, p0, p1, p2, p3⟩) ⟨A7.c0, A7.c1, A7.c2, A7.c3, A7.fz⟩
  replace hHm := Holds.below hHm (below1 w6 (.cells #[.int .u64 (p0 : Int), .int .u64 (p1 : Int), .int .u64 (p2 : Int), .int .u64 (p3 : Int), .int .u64 (c0 : Int), .int .u64 (c1 : Int), .int .u64 (c2 : Int), .int .u64 (c3 : Int)] 64)) (Holds.lt hHm (by rw [be32_size]; omega))
  replace HBB := HBB.out.call (below1 w6 (.cells #[.int .u64 (p0 : Int), .int .u64 (p1 : Int), .int .u64 (p2 : Int), .int .u64 (p3 : Int), .int .u64 (c0 : Int), .int .u64 (c1 : Int), .int .u64 (c2 : Int), .int .u64 (c3 : Int)] 64))
  clear A7 HB6
  generalize World.alloc _ _ = W7 at KP hHm HBB ⊢
  generalize w6.heap.size = kF at KP ⊢
  have HB7 : Hid (IsBytes W7 w0.heap.size b (beV s.data.toList % P)) := HBB
  clear HBB
  obtain ⟨T, hT⟩ : ∃ T, be32 p0 p1 p2 p3 = T := ⟨_, rfl⟩
  have hTs : T.size = 32 := hT ▸ be32_size p0 p1 p2 p3
  rw [hT] at hHm
  have HT : Hid (be32 p0 p1 p2 p3 = T) := hT
  clear hT
  go_region_held3 (fun w' => w'.cell? ⟨kF, 0, none⟩ = some (.int .u64 (p0 : Int)) ∧ w'.cell? ⟨kF, 1, none⟩ = some (.int .u64 (p1 : Int)) ∧ w'.cell? ⟨kF, 2, none⟩ = some (.int .u64 (p2 : Int)) ∧ w'.cell? ⟨kF, 3, none⟩ = some (.int .u64 (p3 : Int)) ∧ (convert 22 9 (.slice (some ⟨gm, 0, none⟩) 32 32)).run Try.prog w' = .ok (.string ⟨T⟩) w' ∧ Kept w0 w0.heap.size [⟨kF, 0, p0, p1, p2, p3⟩, ⟨kF, 4, c0, c1, c2, c3⟩] w') (first | (with_reducible exact redlS_of KP hHm hTs) | (with_reducible exact redlS_of KP.drew (Holds.drew hHm) hTs) | fail) (first | (go_at_call 30; refine (rBytes_any _ _ _ HX.out).mono ?_; rintro e w7 ⟨v, rfl, hb7, a', b', c', d', he, rfl⟩; obtain ⟨e1, e2, e3, e4⟩ := ag_inj he; rw [e1, e2, e3, e4, HT.out]; clear e1 e2 e3 e4; have KP1 := KP.drew.call hb7; have hH1 := Holds.below (Holds.drew hHm) hb7 (Holds.lt hHm (by omega)); have HB8 := HB7.out.drew.call hb7; clear KP he hHm HB7 hb7; have KP := KP1; have hHm := hH1; clear KP1 hH1; have HBB : Hid (IsBytes w7 w0.heap.size b (beV s.data.toList % P)) := HB8; clear HB8))
  have KPH : Hid (Kept w0 w0.heap.size [⟨kF, 0, p0, p1, p2, p3⟩, ⟨kF, 4, c0, c1, c2, c3⟩] w7) := KP
  clear KP hHm
  rename_i hHeld
  clear hHeld
  have fc0 : w7.cell? ⟨kF, 0, none⟩ = some (.int .u64 (p0 : Int)) := KPH.out.head.c0
  have fc1 : w7.cell? ⟨kF, 1, none⟩ = some (.int .u64 (p1 : Int)) := KPH.out.head.c1
  have fc2 : w7.cell? ⟨kF, 2, none⟩ = some (.int .u64 (p2 : Int)) := KPH.out.head.c2
  have fc3 : w7.cell? ⟨kF, 3, none⟩ = some (.int .u64 (p3 : Int)) := KPH.out.head.c3
  have fc4 : w7.cell? ⟨kF, 4, none⟩ = some (.int .u64 (c0 : Int)) := KPH.out.tail.head.c0
  have fc5 : w7.cell? ⟨kF, 5, none⟩ = some (.int .u64 (c1 : Int)) := KPH.out.tail.head.c1
  have fc6 : w7.cell? ⟨kF, 6, none⟩ = some (.int .u64 (c2 : Int)) := KPH.out.tail.head.c2
  have fc7 : w7.cell? ⟨kF, 7, none⟩ = some (.int .u64 (c3 : Int)) := KPH.out.tail.head.c3
  go_wp2_with fail
  refine (rMod_any p0 p1 p2 p3 c0 c1 c2 c3 P s hR (by omega) _).mono ?_
  rintro e w8 ⟨v, rfl, hb8, hF8⟩
  have HB8 : Hid (IsBytes w8 w0.heap.size b (beV s.data.toList % P)) := HBB.out.call hb8
  have KP8 := KPH.out.call hb8
  clear KPH hb8 fc0 fc1 fc2 fc3 fc4 fc5 fc6 fc7
  obtain ⟨a8, b8, c8, d8, rfl, ha8, hb8', hc8, hd8, es8⟩ := id hF8
  clear es8
  go_wp2_with fail
  have H9 := HB8.out.call (below1 w8 (.cells #[.int .u64 (a8 : Int), .int .u64 (b8 : Int), .int .u64 (c8 : Int), .int .u64 (d8 : Int)] 62))
  refine (told_ok b _ _ w0.heap.size _ H9 hF8).mono ?_
  rintro e w9 ⟨v, rfl, hb9, rfl⟩
  go_wp2
  go_ret
  exact ⟨rfl, (KP8.alloc _).bl.trans (hb9.mono (KP8.alloc _).le)⟩

set_option maxHeartbeats 4000000 in
set_option maxRecDepth 100000 in
theorem reduces_long (k : Int) (g0 g1 g2 P p0 p1 p2 p3 c0 c1 c2 c3 : Nat) (hG : Gap g0 g1 g2 P) (hR : RefP p0 p1 p2 p3 c0 c1 c2 c3 P) (s : ByteArray) (hs : s.size ≤ 16384) (hlong : 1024 < s.size) (hk : decide (k = 0 ∨ k = 1) = true) (w0 : World)
    (hp : ∀ w, Calls Try.prog 46 #[.int .i64 k] w (Ret fun e w' => Below w.heap.size w w' ∧ e = .tuple #[.agg #[.int .u64 (g0 : Int), .int .u64 (g1 : Int), .int .u64 (g2 : Int), .int .u64 0], .int .i64 0]))
    (hmk : ∀ w, Calls Try.prog 29 #[.int .i64 k] w (Ret fun e w' => Below w.heap.size w w' ∧ e = .agg #[.int .u64 (p0 : Int), .int .u64 (p1 : Int), .int .u64 (p2 : Int), .int .u64 (p3 : Int), .int .u64 (c0 : Int), .int .u64 (c1 : Int), .int .u64 (c2 : Int), .int .u64 (c3 : Int)])) :
    Calls Try.prog 8 #[.int .i64 k, .string s] w0 fun e w' => e = .returned (.bool true) ∧ Below w0.heap.size w0 w' := by
  have HP : Hid _ := hp
  have HMK : Hid _ := hmk
  have HK : Hid (decide (k = 0 ∨ k = 1) = true) := hk
  clear hp hmk hk
  have h1 : ¬ (16384 : Int) < (s.size : Int) := by omega
  have h2 : (1024 : Int) < (s.size : Int) := by omega
  have h3 : (s.size : Int) ≤ (s.size : Int) + 160 := by omega
  go_enter Try.func8, Try.ntmps8
  go_wp2_with fail
  refine (Lent_any s _ hs).mono ?_
  rintro e w1 ⟨rfl, hb1, hL⟩
  go_wp2_with fail
  refine (Modulus_any k g0 g1 g2 P hG _ HP.out).mono ?_
  rintro e w2 ⟨v, rfl, hb2, m, rfl, hm⟩
  have hLl := Holds.lt hL (by rw [lent_size]; omega)
  have HL : Hid (Holds encB w2 w0.heap.size 0 (lent s)) := Holds.below hL hb2 hLl
  have hL2 : w0.heap.size < w2.heap.size := Nat.lt_of_lt_of_le hLl hb2.size
  have HB2 : Hid (Below w0.heap.size w0 w2) := hb1.trans (hb2.mono hb1.size)
  have HM : Hid (IsBytes w2 w0.heap.size m P) := hm.mono hb1.size
  clear hL hLl hb1 hb2 hm
  go_wp2_with fail
  refine (Reduce_long k g0 g1 g2 s.size (s.size + 160) _ _ hlong HP.out).mono ?_
  rintro e w3 ⟨v, rfl, hb3, rfl⟩
  replace HM : Hid (IsBytes w3 w0.heap.size m P) := HM.out.call hb3
  have HL3 : Hid (Holds encB w3 w0.heap.size 0 (lent s)) := Holds.below HL.out hb3 hL2
  have HB3 : Hid (Below w0.heap.size w0 w3) := HB2.out.trans (hb3.mono HB2.out.size)

  clear HL HB2 hb3 hL2 
  go_wp2_with fail
  refine (Still_any w0.heap.size _ s _ hs HL3.out rfl).mono ?_
  rintro e w4 ⟨rfl, hb4⟩
  have HB4 : Hid (Below w0.heap.size w0 w4) := HB3.out.trans (hb4.mono HB3.out.size)
  replace HM : Hid (IsBytes w4 w0.heap.size m P) := HM.out.call hb4
  clear HB3 HL3 hb4
  go_wp2_with fail
  refine (Known_any k _).mono ?_
  rintro e w5 ⟨rfl, rfl⟩
  rw [HK.out]
  go_wp2_with fail
  refine (HMK.out _).mono ?_
  rintro e w6 ⟨v, rfl, hb6, rfl⟩
  have HB6 : Hid (Below w0.heap.size w0 w6) := HB4.out.trans (hb6.mono HB4.out.size)
  replace HM : Hid (IsBytes w6 w0.heap.size m P) := HM.out.call hb6

  clear HB4 hb6
  obtain ⟨gm, ma, mb, mc, md, rfl, hgm, hFm, hHm⟩ := HM.out
  clear HM
  have hx : Four (.agg #[.int .u64 (p0 : Int), .int .u64 (p1 : Int), .int .u64 (p2 : Int), .int .u64 (p3 : Int)]) P := Four.mk hR.hp0 hR.hp1 hR.hp2 hR.hp3 hR.eP
  obtain ⟨e1, e2, e3, e4⟩ := ag_inj (hFm.inj hx)
  rw [← e1, ← e2, ← e3, ← e4] at hHm
  clear e1 e2 e3 e4
  have HX : Hid (Four _ _) := hx
  clear hFm hx
  go_wp2_with fail
  have A7 := At8.made w6 64 p0 p1 p2 p3 c0 c1 c2 c3 rfl
  have KP := ((Kept.mk1 (HB6.out.alloc HB6.out.size (.cells #[.int .u64 (p0 : Int), .int .u64 (p1 : Int), .int .u64 (p2 : Int), .int .u64 (p3 : Int), .int .u64 (c0 : Int), .int .u64 (c1 : Int), .int .u64 (c2 : Int), .int .u64 (c3 : Int)] 64)) (Nat.le_trans HB6.out.size (below1 w6 (.cells #[.int .u64 (p0 : Int), .int .u64 (p1 : Int), .int .u64 (p2 : Int), .int .u64 (p3 : Int), .int .u64 (c0 : Int), .int .u64 (c1 : Int), .int .u64 (c2 : Int), .int .u64 (c3 : Int)] 64)).size)).cons (x := ⟨w6.heap.size, 4, c0, c1, c2, c3⟩) ⟨A7.c4, A7.c5, A7.c6, A7.c7, A7.fz⟩).cons (x := ⟨w6.heap.size, 0, p0, p1, p2, p3⟩) ⟨A7.c0, A7.c1, A7.c2, A7.c3, A7.fz⟩
  replace hHm := Holds.below hHm (below1 w6 (.cells #[.int .u64 (p0 : Int), .int .u64 (p1 : Int), .int .u64 (p2 : Int), .int .u64 (p3 : Int), .int .u64 (c0 : Int), .int .u64 (c1 : Int), .int .u64 (c2 : Int), .int .u64 (c3 : Int)] 64)) (Holds.lt hHm (by rw [be32_size]; omega))

  clear A7 HB6
  generalize World.alloc _ _ = W7 at KP hHm  ⊢
  generalize w6.heap.size = kF at KP ⊢


  obtain ⟨T, hT⟩ : ∃ T, be32 p0 p1 p2 p3 = T := ⟨_, rfl⟩
  have hTs : T.size = 32 := hT ▸ be32_size p0 p1 p2 p3
  rw [hT] at hHm
  have HT : Hid (be32 p0 p1 p2 p3 = T) := hT
  clear hT
  go_region_held3 (fun w' => w'.cell? ⟨kF, 0, none⟩ = some (.int .u64 (p0 : Int)) ∧ w'.cell? ⟨kF, 1, none⟩ = some (.int .u64 (p1 : Int)) ∧ w'.cell? ⟨kF, 2, none⟩ = some (.int .u64 (p2 : Int)) ∧ w'.cell? ⟨kF, 3, none⟩ = some (.int .u64 (p3 : Int)) ∧ (convert 22 9 (.slice (some ⟨gm, 0, none⟩) 32 32)).run Try.prog w' = .ok (.string ⟨T⟩) w' ∧ Kept w0 w0.heap.size [⟨kF, 0, p0, p1, p2, p3⟩, ⟨kF, 4, c0, c1, c2, c3⟩] w') (first | (with_reducible exact redlS_of KP hHm hTs) | (with_reducible exact redlS_of KP.drew (Holds.drew hHm) hTs) | fail) (first | (go_at_call 30; refine (rBytes_any _ _ _ HX.out).mono ?_; rintro e w7 ⟨v, rfl, hb7, a', b', c', d', he, rfl⟩; obtain ⟨e1, e2, e3, e4⟩ := ag_inj he; rw [e1, e2, e3, e4, HT.out]; clear e1 e2 e3 e4; have KP1 := KP.drew.call hb7; have hH1 := Holds.below (Holds.drew hHm) hb7 (Holds.lt hHm (by omega)); clear KP he hHm hb7; have KP := KP1; have hHm := hH1; clear KP1 hH1))
  have KPH : Hid (Kept w0 w0.heap.size [⟨kF, 0, p0, p1, p2, p3⟩, ⟨kF, 4, c0, c1, c2, c3⟩] w7) := KP
  clear KP hHm
  rename_i hHeld
  clear hHeld

  go_wp2
  go_ret
  exact ⟨rfl, KPH.out.bl⟩
end Go.Proofs.Ytgochjmpnnncjaa
