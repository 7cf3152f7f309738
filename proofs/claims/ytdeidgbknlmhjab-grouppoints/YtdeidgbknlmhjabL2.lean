import Derived.Test.YtdeidgbknlmhjabL1
import Derived.Test.YtdeidgbknlmhjabJ7
import Derived.Test.YtdeidgbknlmhjabN0
import Derived.Deep.RegionHeld3
namespace Go.Proofs.Ytdeidgbknlmhjab
open Go.RowKit Go.Sort Go.Deep

theorem twoS_of {w W : World} {kp kn xa xb xc xd ya yb yc yd g0 g1 g2 : Nat} (h : Kept w w.heap.size [⟨kp, 0, g0, g1, g2, 0⟩, ⟨kn, 0, xa, xb, xc, xd⟩, ⟨kn, 4, ya, yb, yc, yd⟩] W) : W.cell? ⟨kp, 0, none⟩ = some (.int .u64 (g0 : Int)) ∧ W.cell? ⟨kp, 1, none⟩ = some (.int .u64 (g1 : Int)) ∧ W.cell? ⟨kp, 2, none⟩ = some (.int .u64 (g2 : Int)) ∧ W.cell? ⟨kp, 3, none⟩ = some (.int .u64 0) ∧ W.cell? ⟨kn, 0, none⟩ = some (.int .u64 (xa : Int)) ∧ W.cell? ⟨kn, 1, none⟩ = some (.int .u64 (xb : Int)) ∧ W.cell? ⟨kn, 2, none⟩ = some (.int .u64 (xc : Int)) ∧ W.cell? ⟨kn, 3, none⟩ = some (.int .u64 (xd : Int)) ∧ W.cell? ⟨kn, 4, none⟩ = some (.int .u64 (ya : Int)) ∧ W.cell? ⟨kn, 5, none⟩ = some (.int .u64 (yb : Int)) ∧ W.cell? ⟨kn, 6, none⟩ = some (.int .u64 (yc : Int)) ∧ W.cell? ⟨kn, 7, none⟩ = some (.int .u64 (yd : Int)) ∧ Kept w w.heap.size [⟨kp, 0, g0, g1, g2, 0⟩, ⟨kn, 0, xa, xb, xc, xd⟩, ⟨kn, 4, ya, yb, yc, yd⟩] W :=
  ⟨h.head.c0, h.head.c1, h.head.c2, h.head.c3, h.tail.head.c0, h.tail.head.c1, h.tail.head.c2, h.tail.head.c3, h.tail.tail.head.c0, h.tail.tail.head.c1, h.tail.tail.head.c2, h.tail.tail.head.c3, h⟩
theorem oneS_of {w W : World} {kp kn xa xb xc xd g0 g1 g2 : Nat} (h : Kept w w.heap.size [⟨kp, 0, g0, g1, g2, 0⟩, ⟨kn, 0, xa, xb, xc, xd⟩] W) : W.cell? ⟨kp, 0, none⟩ = some (.int .u64 (g0 : Int)) ∧ W.cell? ⟨kp, 1, none⟩ = some (.int .u64 (g1 : Int)) ∧ W.cell? ⟨kp, 2, none⟩ = some (.int .u64 (g2 : Int)) ∧ W.cell? ⟨kp, 3, none⟩ = some (.int .u64 0) ∧ W.cell? ⟨kn, 0, none⟩ = some (.int .u64 (xa : Int)) ∧ W.cell? ⟨kn, 1, none⟩ = some (.int .u64 (xb : Int)) ∧ W.cell? ⟨kn, 2, none⟩ = some (.int .u64 (xc : Int)) ∧ W.cell? ⟨kn, 3, none⟩ = some (.int .u64 (xd : Int)) ∧ Kept w w.heap.size [⟨kp, 0, g0, g1, g2, 0⟩, ⟨kn, 0, xa, xb, xc, xd⟩] W :=
  ⟨h.head.c0, h.head.c1, h.head.c2, h.head.c3, h.tail.head.c0, h.tail.head.c1, h.tail.head.c2, h.tail.head.c3, h⟩

/-- What an operation with two numbers answers. -/
def TwoR (w : World) (P : Nat) (s t : Bs) (x : Nat) (e : Value) (w' : World) : Prop :=
  (IsNum P s ∧ IsNum P t ∧ ∃ v, e = .tuple #[v, .int .i64 0] ∧ IsBytes w' w.heap.size v x) ∨ (¬ (IsNum P s ∧ IsNum P t) ∧ e = .tuple #[.slice none 0 0, .int .i64 3])
/-- What an operation with one number answers. -/
def OneR (w : World) (P : Nat) (s : Bs) (x : Nat) (e : Value) (w' : World) : Prop :=
  (IsNum P s ∧ ∃ v, e = .tuple #[v, .int .i64 0] ∧ IsBytes w' w.heap.size v x) ∨ (¬ IsNum P s ∧ e = .tuple #[.slice none 0 0, .int .i64 3])

/-- Two arguments in a list. -/
def two (s t : Bs) (j : Nat) : Bs := if j = 0 then s else t

theorem args_two {w W : World} {va vb : Value} {s t : Bs} (ha : Arg w va s) (hb : Arg w vb t) (h : Below w.heap.size w W) (ty : TypeId) : Args (W.alloc (.cells #[va, vb] ty)) (some ⟨W.heap.size, 0, none⟩) 2 (two s t) := fun _ => by
  refine ⟨W.heap.size, rfl, by simp, fun j hj => ?_⟩
  have ha' := (ha.below h).below (below1 W (.cells #[va, vb] ty))
  have hb' := (hb.below h).below (below1 W (.cells #[va, vb] ty))
  have : j = 0 ∨ j = 1 := by omega
  rcases this with rfl | rfl
  · exact ⟨va, by rw [World.cell?_alloc_new]; rfl, ha'⟩
  · exact ⟨vb, by rw [World.cell?_alloc_new]; rfl, hb'⟩
theorem args_one {w W : World} {va : Value} {s : Bs} (ha : Arg w va s) (h : Below w.heap.size w W) (ty : TypeId) : Args (W.alloc (.cells #[va] ty)) (some ⟨W.heap.size, 0, none⟩) 1 (fun _ => s) := fun _ => by
  refine ⟨W.heap.size, rfl, by simp, fun j hj => ?_⟩
  have ha' := (ha.below h).below (below1 W (.cells #[va] ty))
  obtain rfl : j = 0 := by omega
  exact ⟨va, by rw [World.cell?_alloc_new]; rfl, ha'⟩
theorem both_of {P : Nat} {s t : Bs} (h : ∀ j, j < 2 → IsNum P (two s t j)) : IsNum P s ∧ IsNum P t := ⟨h 0 (by decide), h 1 (by decide)⟩
theorem not_both {P : Nat} {s t : Bs} (h : ∃ j, j < 2 ∧ ¬ IsNum P (two s t j)) : ¬ (IsNum P s ∧ IsNum P t) := by
  obtain ⟨j, hj, hn⟩ := h
  have : j = 0 ∨ j = 1 := by omega
  rcases this with rfl | rfl
  · exact fun h => hn h.1
  · exact fun h => hn h.2

def PrimeOf (k : Int) (g0 g1 g2 : Nat) : Prop := ∀ w, Calls Try.prog 48 #[.int .i64 k] w (Ret fun e w' => Below w.heap.size w w' ∧ e = .tuple #[.agg #[.int .u64 (g0 : Int), .int .u64 (g1 : Int), .int .u64 (g2 : Int), .int .u64 0], .int .i64 0])

set_option maxHeartbeats 4000000 in
set_option maxRecDepth 100000 in
theorem ofTwo_Plus (k : Int) (g0 g1 g2 P : Nat) (va vb : Value) (s t : Bs) (hG : Gap g0 g1 g2 P) (w : World) (hp : PrimeOf k g0 g1 g2) (ha : Arg w va s) (hb : Arg w vb t) :
    Calls Try.prog 44 #[.int .i64 k, va, vb, .func (.func 45) #[] #[]] w (Ret fun e w' => Below w.heap.size w w' ∧ TwoR w P s t ((beV s.toList + beV t.toList) % P) e w') := by
  have HP : Hid (PrimeOf k g0 g1 g2) := hp
  have HA : Hid (Arg w va s) := ha
  have HB : Hid (Arg w vb t) := hb
  have HG : Hid (Gap g0 g1 g2 P) := hG
  obtain ⟨pa, na, ca, rfl, -⟩ := id ha
  obtain ⟨pb, nb, cb, rfl, -⟩ := id hb
  clear hp hG ha hb
  go_enter Try.func44, Try.ntmps44
  go_wp2_with fail
  refine (HP.out _).mono ?_
  rintro e w1 ⟨v, rfl, hb1, rfl⟩
  go_wp2_with fail
  have KP := ((Kept.mk1 hb1 hb1.size).alloc (.cells #[.int .u64 (g0 : Int), .int .u64 (g1 : Int), .int .u64 (g2 : Int), .int .u64 0] 79)).cons (At4.made w1 79 g0 g1 g2 0 rfl).blk
  have hA := args_two HA.out HB.out KP.bl 23
  rw [World.size_alloc] at hA
  replace KP := KP.alloc (.cells #[.slice pa na ca, .slice pb nb cb] 23)
  clear hb1
  generalize World.alloc _ _ = W0 at KP hA ⊢
  generalize w1.heap.size = kp at KP hA ⊢
  refine (numbers_any g0 g1 g2 P 2 2 _ (two s t) HG.out _ (by decide) hA).mono ?_
  rintro e w2 ⟨v, rfl, hb2, h2⟩
  replace KP := KP.call hb2
  clear hb2 hA
  rcases h2 with ⟨hall, kn, hkn, rfl, NM⟩ | ⟨hno, rfl⟩
  · have HBO : Hid _ := both_of hall
    clear hall hkn
    obtain ⟨xa, xb, xc, xd, X, hX⟩ := NM 0 (by decide)
    obtain ⟨ya, yb, yc, yd, Y, hY⟩ := NM 1 (by decide)
    have HX : Hid (Four _ (beV s.toList)) := hX (by decide)
    have HY : Hid (Four _ (beV t.toList)) := hY (by decide)
    replace X : (Blk.mk kn 0 xa xb xc xd).at w2 := X
    replace Y : (Blk.mk kn 4 ya yb yc yd).at w2 := Y
    replace KP : Kept w w.heap.size [⟨kp, 0, g0, g1, g2, 0⟩, ⟨kn, 0, xa, xb, xc, xd⟩, ⟨kn, 4, ya, yb, yc, yd⟩] w2 := (((Kept.mk1 KP.bl KP.le).cons Y).cons X).cons KP.head
    clear NM hX hY X Y
    obtain ⟨pc0, pc1, pc2, pc3, pf⟩ := KP.head.at4
    go_upto_region 7 with fail
    clear pc0 pc1 pc2 pc3 pf
    go_region_held3 (fun w' => w'.cell? ⟨kp, 0, none⟩ = some (.int .u64 (g0 : Int)) ∧ w'.cell? ⟨kp, 1, none⟩ = some (.int .u64 (g1 : Int)) ∧ w'.cell? ⟨kp, 2, none⟩ = some (.int .u64 (g2 : Int)) ∧ w'.cell? ⟨kp, 3, none⟩ = some (.int .u64 0) ∧ w'.cell? ⟨kn, 0, none⟩ = some (.int .u64 (xa : Int)) ∧ w'.cell? ⟨kn, 1, none⟩ = some (.int .u64 (xb : Int)) ∧ w'.cell? ⟨kn, 2, none⟩ = some (.int .u64 (xc : Int)) ∧ w'.cell? ⟨kn, 3, none⟩ = some (.int .u64 (xd : Int)) ∧ w'.cell? ⟨kn, 4, none⟩ = some (.int .u64 (ya : Int)) ∧ w'.cell? ⟨kn, 5, none⟩ = some (.int .u64 (yb : Int)) ∧ w'.cell? ⟨kn, 6, none⟩ = some (.int .u64 (yc : Int)) ∧ w'.cell? ⟨kn, 7, none⟩ = some (.int .u64 (yd : Int)) ∧ Kept w w.heap.size [⟨kp, 0, g0, g1, g2, 0⟩, ⟨kn, 0, xa, xb, xc, xd⟩, ⟨kn, 4, ya, yb, yc, yd⟩] w') (first | (with_reducible exact twoS_of KP) | (with_reducible exact twoS_of KP.drew) | fail) (first | (go_at_call 45; refine (Plus_any g0 g1 g2 P _ _ _ _ HG.out HX.out HY.out HBO.out.1.2 HBO.out.2.2 _).mono ?_; rintro e w3 ⟨v, rfl, hb1, hF3⟩; obtain ⟨a', b', c', d', rfl, ha', hb', hc', hd', es3⟩ := id hF3; clear es3; have HF3 : Hid (Four _ _) := hF3; clear hF3; (first | (with_reducible (have KP1 := KP.drew.call hb1)) | (with_reducible (have KP1 := KP.call hb1)) | fail); clear KP; have KP := KP1; clear KP1; clear hb1) | (go_at_call 51; refine (bytes_of _ _ _ HF3.out).mono ?_; rintro e w4 ⟨v, rfl, hb1, hv⟩; obtain ⟨g', x', y', z', u', rfl, h2⟩ := id hv; clear h2; have HV : Hid (IsBytes _ _ _ _) := hv; clear hv; have HL : Hid (w.heap.size ≤ _) := KP.le; (first | (with_reducible (have KP1 := KP.drew.call hb1)) | (with_reducible (have KP1 := KP.call hb1)) | fail); clear KP; have KP := KP1; clear KP1; clear hb1))
    all_goals (try go_wp2)
    all_goals go_ret2
    all_goals exact ⟨_, rfl, KP.bl, Or.inl ⟨HBO.out.1, HBO.out.2, _, rfl, HV.out.mono HL.out⟩⟩
  · have HN : Hid _ := not_both hno
    clear hno
    go_wp2
    go_ret2
    exact ⟨_, rfl, KP.bl, Or.inr ⟨HN.out, rfl⟩⟩

set_option maxHeartbeats 1000000 in
theorem Add_any (k : Int) (g0 g1 g2 P : Nat) (va vb : Value) (s t : Bs) (hG : Gap g0 g1 g2 P) (w : World) (hp : PrimeOf k g0 g1 g2) (ha : Arg w va s) (hb : Arg w vb t) :
    Calls Try.prog 10 #[.int .i64 k, va, vb] w (Ret fun e w' => Below w.heap.size w w' ∧ TwoR w P s t ((beV s.toList + beV t.toList) % P) e w') := by
  have HP : Hid (PrimeOf k g0 g1 g2) := hp
  have HA : Hid (Arg w va s) := ha
  have HB : Hid (Arg w vb t) := hb
  have HG : Hid (Gap g0 g1 g2 P) := hG
  clear hp ha hb hG
  go_enter Try.func10, Try.ntmps10
  go_wp2_with fail
  refine (ofTwo_Plus k g0 g1 g2 P va vb s t HG.out w HP.out HA.out HB.out).mono ?_
  rintro e w1 ⟨v, rfl, hb1, h1⟩
  have H1 : Hid (TwoR _ _ _ _ _ _ _) := h1
  rcases h1 with ⟨-, -, v, rfl, -⟩ | ⟨-, rfl⟩
  · go_wp2
    go_ret2
    exact ⟨_, rfl, hb1, H1.out⟩
  · go_wp2
    go_ret2
    exact ⟨_, rfl, hb1, H1.out⟩

set_option maxHeartbeats 4000000 in
set_option maxRecDepth 100000 in
theorem ofTwo_Minus (k : Int) (g0 g1 g2 P : Nat) (va vb : Value) (s t : Bs) (hG : Gap g0 g1 g2 P) (w : World) (hp : PrimeOf k g0 g1 g2) (ha : Arg w va s) (hb : Arg w vb t) :
    Calls Try.prog 44 #[.int .i64 k, va, vb, .func (.func 46) #[] #[]] w (Ret fun e w' => Below w.heap.size w w' ∧ TwoR w P s t ((beV s.toList + P - beV t.toList) % P) e w') := by
  have HP : Hid (PrimeOf k g0 g1 g2) := hp
  have HA : Hid (Arg w va s) := ha
  have HB : Hid (Arg w vb t) := hb
  have HG : Hid (Gap g0 g1 g2 P) := hG
  obtain ⟨pa, na, ca, rfl, -⟩ := id ha
  obtain ⟨pb, nb, cb, rfl, -⟩ := id hb
  clear hp hG ha hb
  go_enter Try.func44, Try.ntmps44
  go_wp2_with fail
  refine (HP.out _).mono ?_
  rintro e w1 ⟨v, rfl, hb1, rfl⟩
  go_wp2_with fail
  have KP := ((Kept.mk1 hb1 hb1.size).alloc (.cells #[.int .u64 (g0 : Int), .int .u64 (g1 : Int), .int .u64 (g2 : Int), .int .u64 0] 79)).cons (At4.made w1 79 g0 g1 g2 0 rfl).blk
  have hA := args_two HA.out HB.out KP.bl 23
  rw [World.size_alloc] at hA
  replace KP := KP.alloc (.cells #[.slice pa na ca, .slice pb nb cb] 23)
  clear hb1
  generalize World.alloc _ _ = W0 at KP hA ⊢
  generalize w1.heap.size = kp at KP hA ⊢
  refine (numbers_any g0 g1 g2 P 2 2 _ (two s t) HG.out _ (by decide) hA).mono ?_
  rintro e w2 ⟨v, rfl, hb2, h2⟩
  replace KP := KP.call hb2
  clear hb2 hA
  rcases h2 with ⟨hall, kn, hkn, rfl, NM⟩ | ⟨hno, rfl⟩
  · have HBO : Hid _ := both_of hall
    clear hall hkn
    obtain ⟨xa, xb, xc, xd, X, hX⟩ := NM 0 (by decide)
    obtain ⟨ya, yb, yc, yd, Y, hY⟩ := NM 1 (by decide)
    have HX : Hid (Four _ (beV s.toList)) := hX (by decide)
    have HY : Hid (Four _ (beV t.toList)) := hY (by decide)
    replace X : (Blk.mk kn 0 xa xb xc xd).at w2 := X
    replace Y : (Blk.mk kn 4 ya yb yc yd).at w2 := Y
    replace KP : Kept w w.heap.size [⟨kp, 0, g0, g1, g2, 0⟩, ⟨kn, 0, xa, xb, xc, xd⟩, ⟨kn, 4, ya, yb, yc, yd⟩] w2 := (((Kept.mk1 KP.bl KP.le).cons Y).cons X).cons KP.head
    clear NM hX hY X Y
    obtain ⟨pc0, pc1, pc2, pc3, pf⟩ := KP.head.at4
    go_upto_region 7 with fail
    clear pc0 pc1 pc2 pc3 pf
    go_region_held3 (fun w' => w'.cell? ⟨kp, 0, none⟩ = some (.int .u64 (g0 : Int)) ∧ w'.cell? ⟨kp, 1, none⟩ = some (.int .u64 (g1 : Int)) ∧ w'.cell? ⟨kp, 2, none⟩ = some (.int .u64 (g2 : Int)) ∧ w'.cell? ⟨kp, 3, none⟩ = some (.int .u64 0) ∧ w'.cell? ⟨kn, 0, none⟩ = some (.int .u64 (xa : Int)) ∧ w'.cell? ⟨kn, 1, none⟩ = some (.int .u64 (xb : Int)) ∧ w'.cell? ⟨kn, 2, none⟩ = some (.int .u64 (xc : Int)) ∧ w'.cell? ⟨kn, 3, none⟩ = some (.int .u64 (xd : Int)) ∧ w'.cell? ⟨kn, 4, none⟩ = some (.int .u64 (ya : Int)) ∧ w'.cell? ⟨kn, 5, none⟩ = some (.int .u64 (yb : Int)) ∧ w'.cell? ⟨kn, 6, none⟩ = some (.int .u64 (yc : Int)) ∧ w'.cell? ⟨kn, 7, none⟩ = some (.int .u64 (yd : Int)) ∧ Kept w w.heap.size [⟨kp, 0, g0, g1, g2, 0⟩, ⟨kn, 0, xa, xb, xc, xd⟩, ⟨kn, 4, ya, yb, yc, yd⟩] w') (first | (with_reducible exact twoS_of KP) | (with_reducible exact twoS_of KP.drew) | fail) (first | (go_at_call 46; refine (Minus_any g0 g1 g2 P _ _ _ _ HG.out HX.out HY.out HBO.out.1.2 HBO.out.2.2 _).mono ?_; rintro e w3 ⟨v, rfl, hb1, hF3⟩; obtain ⟨a', b', c', d', rfl, ha', hb', hc', hd', es3⟩ := id hF3; clear es3; have HF3 : Hid (Four _ _) := hF3; clear hF3; (first | (with_reducible (have KP1 := KP.drew.call hb1)) | (with_reducible (have KP1 := KP.call hb1)) | fail); clear KP; have KP := KP1; clear KP1; clear hb1) | (go_at_call 51; refine (bytes_of _ _ _ HF3.out).mono ?_; rintro e w4 ⟨v, rfl, hb1, hv⟩; obtain ⟨g', x', y', z', u', rfl, h2⟩ := id hv; clear h2; have HV : Hid (IsBytes _ _ _ _) := hv; clear hv; have HL : Hid (w.heap.size ≤ _) := KP.le; (first | (with_reducible (have KP1 := KP.drew.call hb1)) | (with_reducible (have KP1 := KP.call hb1)) | fail); clear KP; have KP := KP1; clear KP1; clear hb1))
    all_goals (try go_wp2)
    all_goals go_ret2
    all_goals exact ⟨_, rfl, KP.bl, Or.inl ⟨HBO.out.1, HBO.out.2, _, rfl, HV.out.mono HL.out⟩⟩
  · have HN : Hid _ := not_both hno
    clear hno
    go_wp2
    go_ret2
    exact ⟨_, rfl, KP.bl, Or.inr ⟨HN.out, rfl⟩⟩

set_option maxHeartbeats 1000000 in
theorem Sub_any (k : Int) (g0 g1 g2 P : Nat) (va vb : Value) (s t : Bs) (hG : Gap g0 g1 g2 P) (w : World) (hp : PrimeOf k g0 g1 g2) (ha : Arg w va s) (hb : Arg w vb t) :
    Calls Try.prog 11 #[.int .i64 k, va, vb] w (Ret fun e w' => Below w.heap.size w w' ∧ TwoR w P s t ((beV s.toList + P - beV t.toList) % P) e w') := by
  have HP : Hid (PrimeOf k g0 g1 g2) := hp
  have HA : Hid (Arg w va s) := ha
  have HB : Hid (Arg w vb t) := hb
  have HG : Hid (Gap g0 g1 g2 P) := hG
  clear hp ha hb hG
  go_enter Try.func11, Try.ntmps11
  go_wp2_with fail
  refine (ofTwo_Minus k g0 g1 g2 P va vb s t HG.out w HP.out HA.out HB.out).mono ?_
  rintro e w1 ⟨v, rfl, hb1, h1⟩
  have H1 : Hid (TwoR _ _ _ _ _ _ _) := h1
  rcases h1 with ⟨-, -, v, rfl, -⟩ | ⟨-, rfl⟩
  · go_wp2
    go_ret2
    exact ⟨_, rfl, hb1, H1.out⟩
  · go_wp2
    go_ret2
    exact ⟨_, rfl, hb1, H1.out⟩

set_option maxHeartbeats 4000000 in
set_option maxRecDepth 100000 in
theorem ofTwo_Times (k : Int) (g0 g1 g2 P : Nat) (va vb : Value) (s t : Bs) (hG : Gap g0 g1 g2 P) (w : World) (hp : PrimeOf k g0 g1 g2) (ha : Arg w va s) (hb : Arg w vb t) :
    Calls Try.prog 44 #[.int .i64 k, va, vb, .func (.func 47) #[] #[]] w (Ret fun e w' => Below w.heap.size w w' ∧ TwoR w P s t (beV s.toList * beV t.toList % P) e w') := by
  have HP : Hid (PrimeOf k g0 g1 g2) := hp
  have HA : Hid (Arg w va s) := ha
  have HB : Hid (Arg w vb t) := hb
  have HG : Hid (Gap g0 g1 g2 P) := hG
  obtain ⟨pa, na, ca, rfl, -⟩ := id ha
  obtain ⟨pb, nb, cb, rfl, -⟩ := id hb
  clear hp hG ha hb
  go_enter Try.func44, Try.ntmps44
  go_wp2_with fail
  refine (HP.out _).mono ?_
  rintro e w1 ⟨v, rfl, hb1, rfl⟩
  go_wp2_with fail
  have KP := ((Kept.mk1 hb1 hb1.size).alloc (.cells #[.int .u64 (g0 : Int), .int .u64 (g1 : Int), .int .u64 (g2 : Int), .int .u64 0] 79)).cons (At4.made w1 79 g0 g1 g2 0 rfl).blk
  have hA := args_two HA.out HB.out KP.bl 23
  rw [World.size_alloc] at hA
  replace KP := KP.alloc (.cells #[.slice pa na ca, .slice pb nb cb] 23)
  clear hb1
  generalize World.alloc _ _ = W0 at KP hA ⊢
  generalize w1.heap.size = kp at KP hA ⊢
  refine (numbers_any g0 g1 g2 P 2 2 _ (two s t) HG.out _ (by decide) hA).mono ?_
  rintro e w2 ⟨v, rfl, hb2, h2⟩
  replace KP := KP.call hb2
  clear hb2 hA
  rcases h2 with ⟨hall, kn, hkn, rfl, NM⟩ | ⟨hno, rfl⟩
  · have HBO : Hid _ := both_of hall
    clear hall hkn
    obtain ⟨xa, xb, xc, xd, X, hX⟩ := NM 0 (by decide)
    obtain ⟨ya, yb, yc, yd, Y, hY⟩ := NM 1 (by decide)
    have HX : Hid (Four _ (beV s.toList)) := hX (by decide)
    have HY : Hid (Four _ (beV t.toList)) := hY (by decide)
    replace X : (Blk.mk kn 0 xa xb xc xd).at w2 := X
    replace Y : (Blk.mk kn 4 ya yb yc yd).at w2 := Y
    replace KP : Kept w w.heap.size [⟨kp, 0, g0, g1, g2, 0⟩, ⟨kn, 0, xa, xb, xc, xd⟩, ⟨kn, 4, ya, yb, yc, yd⟩] w2 := (((Kept.mk1 KP.bl KP.le).cons Y).cons X).cons KP.head
    clear NM hX hY X Y
    obtain ⟨pc0, pc1, pc2, pc3, pf⟩ := KP.head.at4
    go_upto_region 7 with fail
    clear pc0 pc1 pc2 pc3 pf
    go_region_held3 (fun w' => w'.cell? ⟨kp, 0, none⟩ = some (.int .u64 (g0 : Int)) ∧ w'.cell? ⟨kp, 1, none⟩ = some (.int .u64 (g1 : Int)) ∧ w'.cell? ⟨kp, 2, none⟩ = some (.int .u64 (g2 : Int)) ∧ w'.cell? ⟨kp, 3, none⟩ = some (.int .u64 0) ∧ w'.cell? ⟨kn, 0, none⟩ = some (.int .u64 (xa : Int)) ∧ w'.cell? ⟨kn, 1, none⟩ = some (.int .u64 (xb : Int)) ∧ w'.cell? ⟨kn, 2, none⟩ = some (.int .u64 (xc : Int)) ∧ w'.cell? ⟨kn, 3, none⟩ = some (.int .u64 (xd : Int)) ∧ w'.cell? ⟨kn, 4, none⟩ = some (.int .u64 (ya : Int)) ∧ w'.cell? ⟨kn, 5, none⟩ = some (.int .u64 (yb : Int)) ∧ w'.cell? ⟨kn, 6, none⟩ = some (.int .u64 (yc : Int)) ∧ w'.cell? ⟨kn, 7, none⟩ = some (.int .u64 (yd : Int)) ∧ Kept w w.heap.size [⟨kp, 0, g0, g1, g2, 0⟩, ⟨kn, 0, xa, xb, xc, xd⟩, ⟨kn, 4, ya, yb, yc, yd⟩] w') (first | (with_reducible exact twoS_of KP) | (with_reducible exact twoS_of KP.drew) | fail) (first | (go_at_call 47; refine (Times_any g0 g1 g2 P _ _ _ _ HG.out HX.out HY.out _).mono ?_; rintro e w3 ⟨v, rfl, hb1, hF3⟩; obtain ⟨a', b', c', d', rfl, ha', hb', hc', hd', es3⟩ := id hF3; clear es3; have HF3 : Hid (Four _ _) := hF3; clear hF3; (first | (with_reducible (have KP1 := KP.drew.call hb1)) | (with_reducible (have KP1 := KP.call hb1)) | fail); clear KP; have KP := KP1; clear KP1; clear hb1) | (go_at_call 51; refine (bytes_of _ _ _ HF3.out).mono ?_; rintro e w4 ⟨v, rfl, hb1, hv⟩; obtain ⟨g', x', y', z', u', rfl, h2⟩ := id hv; clear h2; have HV : Hid (IsBytes _ _ _ _) := hv; clear hv; have HL : Hid (w.heap.size ≤ _) := KP.le; (first | (with_reducible (have KP1 := KP.drew.call hb1)) | (with_reducible (have KP1 := KP.call hb1)) | fail); clear KP; have KP := KP1; clear KP1; clear hb1))
    all_goals (try go_wp2)
    all_goals go_ret2
    all_goals exact ⟨_, rfl, KP.bl, Or.inl ⟨HBO.out.1, HBO.out.2, _, rfl, HV.out.mono HL.out⟩⟩
  · have HN : Hid _ := not_both hno
    clear hno
    go_wp2
    go_ret2
    exact ⟨_, rfl, KP.bl, Or.inr ⟨HN.out, rfl⟩⟩

set_option maxHeartbeats 1000000 in
theorem Mul_any (k : Int) (g0 g1 g2 P : Nat) (va vb : Value) (s t : Bs) (hG : Gap g0 g1 g2 P) (w : World) (hp : PrimeOf k g0 g1 g2) (ha : Arg w va s) (hb : Arg w vb t) :
    Calls Try.prog 12 #[.int .i64 k, va, vb] w (Ret fun e w' => Below w.heap.size w w' ∧ TwoR w P s t (beV s.toList * beV t.toList % P) e w') := by
  have HP : Hid (PrimeOf k g0 g1 g2) := hp
  have HA : Hid (Arg w va s) := ha
  have HB : Hid (Arg w vb t) := hb
  have HG : Hid (Gap g0 g1 g2 P) := hG
  clear hp ha hb hG
  go_enter Try.func12, Try.ntmps12
  go_wp2_with fail
  refine (ofTwo_Times k g0 g1 g2 P va vb s t HG.out w HP.out HA.out HB.out).mono ?_
  rintro e w1 ⟨v, rfl, hb1, h1⟩
  have H1 : Hid (TwoR _ _ _ _ _ _ _) := h1
  rcases h1 with ⟨-, -, v, rfl, -⟩ | ⟨-, rfl⟩
  · go_wp2
    go_ret2
    exact ⟨_, rfl, hb1, H1.out⟩
  · go_wp2
    go_ret2
    exact ⟨_, rfl, hb1, H1.out⟩

set_option maxHeartbeats 1000000 in
theorem ofTwo_no (k : Int) (hk : k < 0 ∨ 2 ≤ k) (va vb vf : Value) (w : World) :
    Calls Try.prog 44 #[.int .i64 k, va, vb, vf] w (Ret fun e w' => Below w.heap.size w w' ∧ e = .tuple #[.slice none 0 0, .int .i64 2]) := by
  go_enter Try.func44, Try.ntmps44
  go_wp2_with fail
  refine (primeOf_n k hk _).mono ?_
  rintro e w1 ⟨v, rfl, hb1, rfl⟩
  go_wp2
  go_ret2
  exact ⟨_, rfl, hb1.alloc hb1.size _, rfl⟩
set_option maxHeartbeats 1000000 in
theorem Add_no (k : Int) (hk : k < 0 ∨ 2 ≤ k) (va vb : Value) (w : World) :
    Calls Try.prog 10 #[.int .i64 k, va, vb] w (Ret fun e w' => Below w.heap.size w w' ∧ e = .tuple #[.slice none 0 0, .int .i64 2]) := by
  go_enter Try.func10, Try.ntmps10
  go_wp2_with fail
  refine (ofTwo_no k hk _ _ _ _).mono ?_
  rintro e w1 ⟨v, rfl, hb1, rfl⟩
  go_wp2
  go_ret2
  exact ⟨_, rfl, hb1, rfl⟩
set_option maxHeartbeats 1000000 in
theorem Sub_no (k : Int) (hk : k < 0 ∨ 2 ≤ k) (va vb : Value) (w : World) :
    Calls Try.prog 11 #[.int .i64 k, va, vb] w (Ret fun e w' => Below w.heap.size w w' ∧ e = .tuple #[.slice none 0 0, .int .i64 2]) := by
  go_enter Try.func11, Try.ntmps11
  go_wp2_with fail
  refine (ofTwo_no k hk _ _ _ _).mono ?_
  rintro e w1 ⟨v, rfl, hb1, rfl⟩
  go_wp2
  go_ret2
  exact ⟨_, rfl, hb1, rfl⟩
set_option maxHeartbeats 1000000 in
theorem Mul_no (k : Int) (hk : k < 0 ∨ 2 ≤ k) (va vb : Value) (w : World) :
    Calls Try.prog 12 #[.int .i64 k, va, vb] w (Ret fun e w' => Below w.heap.size w w' ∧ e = .tuple #[.slice none 0 0, .int .i64 2]) := by
  go_enter Try.func12, Try.ntmps12
  go_wp2_with fail
  refine (ofTwo_no k hk _ _ _ _).mono ?_
  rintro e w1 ⟨v, rfl, hb1, rfl⟩
  go_wp2
  go_ret2
  exact ⟨_, rfl, hb1, rfl⟩
end Go.Proofs.Ytdeidgbknlmhjab
