import Derived.Test.YtdeidgbknlmhjabCX
import Derived.Deep.RegionHeld3
set_option linter.unusedVariables false
set_option linter.unusedSimpArgs false
namespace Go.Proofs.Ytdeidgbknlmhjab
open Go.RowKit Go.Sort Go.Deep
variable {P : Nat} [NeZero P]

omit [NeZero P] in
theorem words2 (x y : Fin P) : ∃ a b c d p q r s : Nat, pv x y = .agg #[.int .u64 (a : Int), .int .u64 (b : Int), .int .u64 (c : Int), .int .u64 (d : Int), .int .u64 (p : Int), .int .u64 (q : Int), .int .u64 (r : Int), .int .u64 (s : Int)] ∧ ws x ++ ws y = [.int .u64 (a : Int), .int .u64 (b : Int), .int .u64 (c : Int), .int .u64 (d : Int), .int .u64 (p : Int), .int .u64 (q : Int), .int .u64 (r : Int), .int .u64 (s : Int)] :=
  ⟨_, _, _, _, _, _, _, _, rfl, rfl⟩
theorem cells8 {w : World} {k o : Nat} {a b c d p q r s : Nat} (h : w.rangeAt k o [.int .u64 (a : Int), .int .u64 (b : Int), .int .u64 (c : Int), .int .u64 (d : Int), .int .u64 (p : Int), .int .u64 (q : Int), .int .u64 (r : Int), .int .u64 (s : Int)]) :
    w.cell? ⟨k, o, none⟩ = some (.int .u64 (a : Int)) ∧ w.cell? ⟨k, o + 1, none⟩ = some (.int .u64 (b : Int)) ∧ w.cell? ⟨k, o + 2, none⟩ = some (.int .u64 (c : Int)) ∧ w.cell? ⟨k, o + 3, none⟩ = some (.int .u64 (d : Int)) ∧
    w.cell? ⟨k, o + 4, none⟩ = some (.int .u64 (p : Int)) ∧ w.cell? ⟨k, o + 5, none⟩ = some (.int .u64 (q : Int)) ∧ w.cell? ⟨k, o + 6, none⟩ = some (.int .u64 (r : Int)) ∧ w.cell? ⟨k, o + 7, none⟩ = some (.int .u64 (s : Int)) :=
  ⟨h 0 _ rfl, h 1 _ rfl, h 2 _ rfl, h 3 _ rfl, h 4 _ rfl, h 5 _ rfl, h 6 _ rfl, h 7 _ rfl⟩
/-- What a call of the face answers: an errno, or a point's bytes in new memory. -/
def OutE (c : Int) (e : Value) : Prop := e = .tuple #[.slice none 0 0, .int .i64 c]
def OutP (w : World) (T : Bs) (e : Value) (w' : World) : Prop := ∃ g cap, e = .tuple #[.slice (some ⟨g, 0, none⟩) 33 cap, .int .i64 0] ∧ 33 ≤ cap ∧ w.heap.size ≤ g ∧ g < w'.heap.size ∧ Holds encB w' g 0 T
def MinusR (P : Nat) [NeZero P] (w : World) (bs : Bs) (e : Value) (w' : World) : Prop := match rd P bs with
  | none => OutE 4 e
  | some p => OutP w (by33 p.1 (0 - p.2)) e w'
theorem one_args {w : World} {v : Value} {bs : Bs} (T : TypeId) (h : Arg33 w v bs) : ArgsPts (w.alloc (.cells #[v] T)) (some ⟨w.heap.size, 0, none⟩) 1 (fun _ => bs) := fun _ =>
  ⟨w.heap.size, rfl, by rw [World.size_alloc]; omega, fun j hj => by
    obtain rfl : j = 0 := by omega
    exact ⟨v, by rw [World.cell?_alloc_new]; rfl, h.below (below1 w _)⟩⟩

set_option maxHeartbeats 4000000 in
set_option maxRecDepth 100000 in
theorem gMinus_c (C : Fld P) (v : Value) (bs : Bs) (w : World) (hv : Arg33 w v bs) (T : TypeId) : Calls Try.prog 35 #[v] w (Ret fun e w' => Below w.heap.size w w' ∧ MinusR P w bs e w') := by
  have HV : Hid (Arg33 w v bs) := hv
  obtain ⟨q, n, cap, rfl, -⟩ := hv
  go_enter Try.func35, Try.ntmps35
  go_wp2_with fail
  refine (Pts_c C 1 1 (by decide) _ (fun _ => bs) _ (one_args _ HV.out)).mono ?_
  rintro e w1 ⟨v, rfl, hb1, ⟨k, hk1, hk2, rfl, hrow⟩ | ⟨⟨j, -, hno⟩, rfl⟩⟩
  · obtain ⟨⟨x, y⟩, hp, hr⟩ := hrow 0 (by decide)
    obtain ⟨a1, b1, c1, d1, p1, q1, r1, s1, e1, e2⟩ := words2 x y
    obtain ⟨a2, b2, c2, d2, p2, q2, r2, s2, f1, -⟩ := words2 x (0 - y)
    have hO : ∀ w, Calls Try.prog 77 #[.agg #[.int .u64 (a1 : Int), .int .u64 (b1 : Int), .int .u64 (c1 : Int), .int .u64 (d1 : Int), .int .u64 (p1 : Int), .int .u64 (q1 : Int), .int .u64 (r1 : Int), .int .u64 (s1 : Int)]] w (Ret fun e w' => Below w.heap.size w w' ∧ e = .agg #[.int .u64 (a2 : Int), .int .u64 (b2 : Int), .int .u64 (c2 : Int), .int .u64 (d2 : Int), .int .u64 (p2 : Int), .int .u64 (q2 : Int), .int .u64 (r2 : Int), .int .u64 (s2 : Int)]) := by
      have := popp_c C x y
      rw [e1, f1] at this
      exact this
    have hBt : ∀ w, Calls Try.prog 76 #[.agg #[.int .u64 (a2 : Int), .int .u64 (b2 : Int), .int .u64 (c2 : Int), .int .u64 (d2 : Int), .int .u64 (p2 : Int), .int .u64 (q2 : Int), .int .u64 (r2 : Int), .int .u64 (s2 : Int)]] w (Ret fun e w' => Below w.heap.size w w' ∧ BytesR w (by33 x (0 - y)) e w') := by
      have := bytes_c C x (0 - y)
      rw [f1] at this
      exact this
    rw [e2] at hr
    obtain ⟨g0, g1, g2, g3, g4, g5, g6, g7⟩ := cells8 (o := 0) hr
    have HB : Hid (Below w.heap.size w w1) := (below1 w _).trans (hb1.mono (by simp))
    have HN : Hid (rd P bs = some (x, y)) := hp
    clear hb1 hp hr hrow e1 e2 f1 hk1
    go_wp2_with fail
    refine (hO _).mono ?_
    rintro e w2 ⟨v, rfl, hb2, rfl⟩
    have HB2 : Hid (Below w.heap.size w w2) := HB.out.trans (hb2.mono HB.out.size)
    clear hb2 g0 g1 g2 g3 g4 g5 g6 g7 hk2
    go_wp2_with fail
    refine (hBt _).mono ?_
    rintro e w3 ⟨v, rfl, hb3, g, cap3, rfl, hc3, hg3, hlt3, hH3⟩
    have HB3 : Hid (Below w.heap.size w w3) := HB2.out.trans (hb3.mono HB2.out.size)
    have HO : Hid (OutP w (by33 x (0 - y)) (.tuple #[.slice (some ⟨g, 0, none⟩) 33 cap3, .int .i64 0]) w3) := ⟨g, cap3, rfl, hc3, Nat.le_trans HB2.out.size hg3, hlt3, hH3⟩
    clear hb3 hH3
    go_wp2
    go_ret2
    refine ⟨_, rfl, HB3.out, ?_⟩
    unfold MinusR
    rw [HN.out]
    exact HO.out
  · have HB : Hid (Below w.heap.size w w1) := (below1 w _).trans (hb1.mono (by simp))
    have HN : Hid (rd P bs = none) := hno
    clear hb1 hno
    go_wp2
    go_ret2
    refine ⟨_, rfl, HB.out, ?_⟩
    unfold MinusR
    rw [HN.out]
    exact rfl

set_option maxHeartbeats 2000000 in
theorem gPoint_c (C : Fld P) (v : Value) (bs : Bs) (w : World) (hv : Arg33 w v bs) : Calls Try.prog 33 #[v] w (Ret fun e w' => Below w.heap.size w w' ∧ e = .bool (rd P bs).isSome) := by
  have hc : ∃ (a1 b1 c1 d1 p1 q1 r1 s1 : Nat), Calls Try.prog 71 #[v] w (Ret fun e w' => Below w.heap.size w w' ∧ e = .tuple #[.agg #[.int .u64 (a1 : Int), .int .u64 (b1 : Int), .int .u64 (c1 : Int), .int .u64 (d1 : Int), .int .u64 (p1 : Int), .int .u64 (q1 : Int), .int .u64 (r1 : Int), .int .u64 (s1 : Int)], .bool (rd P bs).isSome]) := by
    have h := readPoint_c C v bs w hv
    cases hrd : rd P bs with
    | none =>
      obtain ⟨a1, b1, c1, d1, p1, q1, r1, s1, e1, -⟩ := words2 (0 : Fin P) 0
      refine ⟨a1, b1, c1, d1, p1, q1, r1, s1, ?_⟩
      rw [hrd] at h
      rw [← e1]
      exact h
    | some p =>
      obtain ⟨a1, b1, c1, d1, p1, q1, r1, s1, e1, -⟩ := words2 p.1 p.2
      refine ⟨a1, b1, c1, d1, p1, q1, r1, s1, ?_⟩
      rw [hrd] at h
      rw [← e1]
      exact h
  obtain ⟨a1, b1, c1, d1, p1, q1, r1, s1, hc⟩ := hc
  generalize (rd P bs).isSome = bb at hc ⊢
  obtain ⟨q, n, cap, rfl, -⟩ := hv
  go_enter Try.func33, Try.ntmps33
  go_wp2_with fail
  refine hc.mono ?_
  rintro e w1 ⟨v, rfl, hb1, rfl⟩
  have HB : Hid (Below w.heap.size w w1) := hb1
  clear hb1 hc
  go_wp2
  go_ret
  exact ⟨_, rfl, HB.out.alloc HB.out.size _, rfl⟩

/-- Two points in a block. -/
structure PS (w : World) (k : Nat) (a1 b1 c1 d1 p1 q1 r1 s1 a2 b2 c2 d2 p2 q2 r2 s2 : Nat) (W : World) : Prop where
  r1 : W.rangeAt k 0 [.int .u64 (a1 : Int), .int .u64 (b1 : Int), .int .u64 (c1 : Int), .int .u64 (d1 : Int), .int .u64 (p1 : Int), .int .u64 (q1 : Int), .int .u64 (r1 : Int), .int .u64 (s1 : Int)]
  r2 : W.rangeAt k 8 [.int .u64 (a2 : Int), .int .u64 (b2 : Int), .int .u64 (c2 : Int), .int .u64 (d2 : Int), .int .u64 (p2 : Int), .int .u64 (q2 : Int), .int .u64 (r2 : Int), .int .u64 (s2 : Int)]
  lt : k < W.heap.size
  bl : Below w.heap.size w W
theorem PS.call {w W W' : World} {k a1 b1 c1 d1 p1 q1 r1 s1 a2 b2 c2 d2 p2 q2 r2 s2 : Nat} (h : PS w k a1 b1 c1 d1 p1 q1 r1 s1 a2 b2 c2 d2 p2 q2 r2 s2 W) (hb : Below W.heap.size W W') : PS w k a1 b1 c1 d1 p1 q1 r1 s1 a2 b2 c2 d2 p2 q2 r2 s2 W' :=
  ⟨RG.range_below h.r1 hb h.lt, RG.range_below h.r2 hb h.lt, Nat.lt_of_lt_of_le h.lt hb.size, h.bl.trans (hb.mono h.bl.size)⟩
theorem PS.drew {w W : World} {k a1 b1 c1 d1 p1 q1 r1 s1 a2 b2 c2 d2 p2 q2 r2 s2 : Nat} (h : PS w k a1 b1 c1 d1 p1 q1 r1 s1 a2 b2 c2 d2 p2 q2 r2 s2 W) : PS w k a1 b1 c1 d1 p1 q1 r1 s1 a2 b2 c2 d2 p2 q2 r2 s2 W.drew := ⟨h.r1, h.r2, h.lt, h.bl.drew⟩
theorem psS {w W : World} {k a1 b1 c1 d1 p1 q1 r1 s1 a2 b2 c2 d2 p2 q2 r2 s2 : Nat} (h : PS w k a1 b1 c1 d1 p1 q1 r1 s1 a2 b2 c2 d2 p2 q2 r2 s2 W) : W.cell? ⟨k, 0, none⟩ = some (.int .u64 (a1 : Int)) ∧ W.cell? ⟨k, 1, none⟩ = some (.int .u64 (b1 : Int)) ∧ W.cell? ⟨k, 2, none⟩ = some (.int .u64 (c1 : Int)) ∧ W.cell? ⟨k, 3, none⟩ = some (.int .u64 (d1 : Int)) ∧ W.cell? ⟨k, 4, none⟩ = some (.int .u64 (p1 : Int)) ∧ W.cell? ⟨k, 5, none⟩ = some (.int .u64 (q1 : Int)) ∧ W.cell? ⟨k, 6, none⟩ = some (.int .u64 (r1 : Int)) ∧ W.cell? ⟨k, 7, none⟩ = some (.int .u64 (s1 : Int)) ∧ W.cell? ⟨k, 8, none⟩ = some (.int .u64 (a2 : Int)) ∧ W.cell? ⟨k, 9, none⟩ = some (.int .u64 (b2 : Int)) ∧ W.cell? ⟨k, 10, none⟩ = some (.int .u64 (c2 : Int)) ∧ W.cell? ⟨k, 11, none⟩ = some (.int .u64 (d2 : Int)) ∧ W.cell? ⟨k, 12, none⟩ = some (.int .u64 (p2 : Int)) ∧ W.cell? ⟨k, 13, none⟩ = some (.int .u64 (q2 : Int)) ∧ W.cell? ⟨k, 14, none⟩ = some (.int .u64 (r2 : Int)) ∧ W.cell? ⟨k, 15, none⟩ = some (.int .u64 (s2 : Int)) ∧ PS w k a1 b1 c1 d1 p1 q1 r1 s1 a2 b2 c2 d2 p2 q2 r2 s2 W :=
  let ⟨x0, x1, x2, x3, x4, x5, x6, x7⟩ := cells8 h.r1
  let ⟨y0, y1, y2, y3, y4, y5, y6, y7⟩ := cells8 h.r2
  ⟨x0, x1, x2, x3, x4, x5, x6, x7, y0, y1, y2, y3, y4, y5, y6, y7, h⟩
theorem two_args {w : World} {v u : Value} {az bs : Bs} (T : TypeId) (h : Arg33 w v az) (h' : Arg33 w u bs) : ArgsPts (w.alloc (.cells #[v, u] T)) (some ⟨w.heap.size, 0, none⟩) 2 (fun j => if j = 0 then az else bs) := fun _ =>
  ⟨w.heap.size, rfl, by rw [World.size_alloc]; omega, fun j hj => by
    by_cases h0 : j = 0
    · subst h0
      exact ⟨v, by rw [World.cell?_alloc_new]; rfl, h.below (below1 w _)⟩
    · obtain rfl : j = 1 := by omega
      exact ⟨u, by rw [World.cell?_alloc_new]; rfl, h'.below (below1 w _)⟩⟩
/-- The point that Plus answers. -/
def plP (p q : Fin P × Fin P) : T3 P := plJ (raJ p.1 p.2) (raJ q.1 q.2)
def ptP (s : T3 P) : Fin P × Fin P := (s.1 * (EC.inv s.2.2 * EC.inv s.2.2), s.2.1 * (EC.inv s.2.2 * EC.inv s.2.2) * EC.inv s.2.2)
def PlusR (P : Nat) [NeZero P] (w : World) (az bs : Bs) (e : Value) (w' : World) : Prop := match rd P az, rd P bs with
  | some p, some q => OutP w (by33 (ptP (plP p q)).1 (ptP (plP p q)).2) e w'
  | _, _ => OutE 4 e

set_option maxHeartbeats 4000000 in
set_option maxRecDepth 100000 in
theorem gPlus_c (C : Fld P) (v u : Value) (az bs : Bs) (w : World) (hv : Arg33 w v az) (hu : Arg33 w u bs) : Calls Try.prog 34 #[v, u] w (Ret fun e w' => Below w.heap.size w w' ∧ PlusR P w az bs e w') := by
  have HV : Hid (Arg33 w v az ∧ Arg33 w u bs) := ⟨hv, hu⟩
  obtain ⟨q, n, cap, rfl, -⟩ := hv
  obtain ⟨q', n', cap', rfl, -⟩ := hu
  go_enter Try.func34, Try.ntmps34
  go_wp2_with fail
  refine (Pts_c C 2 2 (by decide) _ (fun j => if j = 0 then az else bs) _ (two_args _ HV.out.1 HV.out.2)).mono ?_
  rintro e w1 ⟨v, rfl, hb1, ⟨k, hk1, hk2, rfl, hrow⟩ | ⟨⟨j, hj, hno⟩, rfl⟩⟩
  · obtain ⟨⟨x, y⟩, hp, hr⟩ := hrow 0 (by decide)
    obtain ⟨⟨x', y'⟩, hp', hr'⟩ := hrow 1 (by decide)
    obtain ⟨a1, b1, c1, d1, p1, q1, r1, s1, e1, e2⟩ := words2 x y
    obtain ⟨a2, b2, c2, d2, p2, q2, r2, s2, f1, f2⟩ := words2 x' y'
    rw [e2] at hr
    rw [f2] at hr'
    have KP : PS w k a1 b1 c1 d1 p1 q1 r1 s1 a2 b2 c2 d2 p2 q2 r2 s2 w1 := ⟨hr, hr', hk2, (below1 w _).trans (hb1.mono (by simp))⟩
    have hR1 : ∀ w, Calls Try.prog 73 #[.agg #[.int .u64 (a1 : Int), .int .u64 (b1 : Int), .int .u64 (c1 : Int), .int .u64 (d1 : Int), .int .u64 (p1 : Int), .int .u64 (q1 : Int), .int .u64 (r1 : Int), .int .u64 (s1 : Int)]] w (Ret fun e w' => Below w.heap.size w w' ∧ e = tv (raJ x y)) := by
      have := raJ_c C x y
      rw [e1] at this
      exact this
    have hR2 : ∀ w, Calls Try.prog 73 #[.agg #[.int .u64 (a2 : Int), .int .u64 (b2 : Int), .int .u64 (c2 : Int), .int .u64 (d2 : Int), .int .u64 (p2 : Int), .int .u64 (q2 : Int), .int .u64 (r2 : Int), .int .u64 (s2 : Int)]] w (Ret fun e w' => Below w.heap.size w w' ∧ e = tv (raJ x' y')) := by
      have := raJ_c C x' y'
      rw [f1] at this
      exact this
    have hP : ∀ w, Calls Try.prog 74 #[tv (raJ x y), tv (raJ x' y')] w (Ret fun e w' => Below w.heap.size w w' ∧ e = tv (plP (x, y) (x', y'))) := plJ_c C _ _
    have hT : ∀ w, Calls Try.prog 75 #[tv (plP (x, y) (x', y'))] w (Ret fun e w' => Below w.heap.size w w' ∧ e = pv (ptP (plP (x, y) (x', y'))).1 (ptP (plP (x, y) (x', y'))).2) := ptJ_c C _
    have hBt : ∀ w, Calls Try.prog 76 #[pv (ptP (plP (x, y) (x', y'))).1 (ptP (plP (x, y) (x', y'))).2] w (Ret fun e w' => Below w.heap.size w w' ∧ BytesR w (by33 (ptP (plP (x, y) (x', y'))).1 (ptP (plP (x, y) (x', y'))).2) e w') := bytes_c C _ _
    have HN : Hid (rd P az = some (x, y) ∧ rd P bs = some (x', y')) := ⟨hp, hp'⟩
    clear hp hp' hr hr' hrow e1 e2 f1 f2 hb1 hk1 hk2
    generalize hz : ptP (plP (x, y) (x', y')) = z at hT hBt
    have HZ : Hid (ptP (plP (x, y) (x', y')) = z) := hz
    clear hz
    generalize tv (plP (x, y) (x', y')) = v3 at hP hT
    generalize tv (raJ x y) = v1 at hR1 hP
    generalize tv (raJ x' y') = v2 at hR2 hP
    generalize pv z.1 z.2 = v4 at hT hBt
    go_wp2_with fail
    go_region_held3 (fun W => W.cell? ⟨k, 0, none⟩ = some (.int .u64 (a1 : Int)) ∧ W.cell? ⟨k, 1, none⟩ = some (.int .u64 (b1 : Int)) ∧ W.cell? ⟨k, 2, none⟩ = some (.int .u64 (c1 : Int)) ∧ W.cell? ⟨k, 3, none⟩ = some (.int .u64 (d1 : Int)) ∧ W.cell? ⟨k, 4, none⟩ = some (.int .u64 (p1 : Int)) ∧ W.cell? ⟨k, 5, none⟩ = some (.int .u64 (q1 : Int)) ∧ W.cell? ⟨k, 6, none⟩ = some (.int .u64 (r1 : Int)) ∧ W.cell? ⟨k, 7, none⟩ = some (.int .u64 (s1 : Int)) ∧ W.cell? ⟨k, 8, none⟩ = some (.int .u64 (a2 : Int)) ∧ W.cell? ⟨k, 9, none⟩ = some (.int .u64 (b2 : Int)) ∧ W.cell? ⟨k, 10, none⟩ = some (.int .u64 (c2 : Int)) ∧ W.cell? ⟨k, 11, none⟩ = some (.int .u64 (d2 : Int)) ∧ W.cell? ⟨k, 12, none⟩ = some (.int .u64 (p2 : Int)) ∧ W.cell? ⟨k, 13, none⟩ = some (.int .u64 (q2 : Int)) ∧ W.cell? ⟨k, 14, none⟩ = some (.int .u64 (r2 : Int)) ∧ W.cell? ⟨k, 15, none⟩ = some (.int .u64 (s2 : Int)) ∧ PS w k a1 b1 c1 d1 p1 q1 r1 s1 a2 b2 c2 d2 p2 q2 r2 s2 W) (first | (with_reducible exact psS KP) | (with_reducible exact psS KP.drew) | fail) (first | (go_at_call_of 73 (Value.agg #[.int .u64 (a1 : Int), .int .u64 (b1 : Int), .int .u64 (c1 : Int), .int .u64 (d1 : Int), .int .u64 (p1 : Int), .int .u64 (q1 : Int), .int .u64 (r1 : Int), .int .u64 (s1 : Int)]); refine (hR1 _).mono ?_; rintro e w2 ⟨v, rfl, hb2, rfl⟩; (first | (with_reducible (have KP1 := KP.drew.call hb2)) | (with_reducible (have KP1 := KP.call hb2)) | fail); clear KP hb2; have KP := KP1; clear KP1) | (go_at_call_of 73 (Value.agg #[.int .u64 (a2 : Int), .int .u64 (b2 : Int), .int .u64 (c2 : Int), .int .u64 (d2 : Int), .int .u64 (p2 : Int), .int .u64 (q2 : Int), .int .u64 (r2 : Int), .int .u64 (s2 : Int)]); refine (hR2 _).mono ?_; rintro e w2 ⟨v, rfl, hb2, rfl⟩; (first | (with_reducible (have KP1 := KP.drew.call hb2)) | (with_reducible (have KP1 := KP.call hb2)) | fail); clear KP hb2; have KP := KP1; clear KP1) | (go_at_call 74; refine (hP _).mono ?_; rintro e w2 ⟨v, rfl, hb2, rfl⟩; (first | (with_reducible (have KP1 := KP.drew.call hb2)) | (with_reducible (have KP1 := KP.call hb2)) | fail); clear KP hb2; have KP := KP1; clear KP1) | (go_at_call 75; refine (hT _).mono ?_; rintro e w2 ⟨v, rfl, hb2, rfl⟩; (first | (with_reducible (have KP1 := KP.drew.call hb2)) | (with_reducible (have KP1 := KP.call hb2)) | fail); clear KP hb2; have KP := KP1; clear KP1) | (go_at_call 76; refine (hBt _).mono ?_; rintro e w2 ⟨v, rfl, hb2, g, cap3, rfl, hc3, hg3, hlt3, hH3⟩; (first | (with_reducible (have KP1 := KP.drew.call hb2)) | (with_reducible (have KP1 := KP.call hb2)) | fail); have HO : Hid (OutP w (by33 z.1 z.2) (.tuple #[.slice (some ⟨g, 0, none⟩) 33 cap3, .int .i64 0]) w2) := ⟨g, cap3, rfl, hc3, Nat.le_trans KP.bl.size hg3, hlt3, hH3⟩; clear KP hb2 hH3 hg3 hlt3 hc3; have KP := KP1; clear KP1))
    go_wp2
    go_ret2
    refine ⟨_, rfl, KP.bl, ?_⟩
    unfold PlusR
    rw [HN.out.1, HN.out.2]
    dsimp only
    rw [HZ.out]
    exact HO.out
  · have HB : Hid (Below w.heap.size w w1) := (below1 w _).trans (hb1.mono (by simp))
    have HN : Hid (rd P az = none ∨ rd P bs = none) := by
      dsimp only at hno
      by_cases h0 : j = 0
      · rw [if_pos h0] at hno
        exact Or.inl hno
      · rw [if_neg h0] at hno
        exact Or.inr hno
    clear hb1 hno
    go_wp2
    go_ret2
    refine ⟨_, rfl, HB.out, ?_⟩
    unfold PlusR
    rcases HN.out with h | h
    · rw [h]
      cases rd P bs <;> exact rfl
    · rw [h]
      cases rd P az <;> exact rfl
end Go.Proofs.Ytdeidgbknlmhjab
