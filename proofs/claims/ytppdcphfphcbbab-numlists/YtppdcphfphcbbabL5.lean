import Derived.Test.YtppdcphfphcbbabW1
import Derived.Test.YtppdcphfphcbbabK2
import Derived.Deep.LoopGhost
namespace Go.Proofs.Ytppdcphfphcbbab
open Go.RowKit Go.Sort Go.Deep

theorem infoB : (Try.prog.info? 23).map (fun i => (i.zero, i.size, i.bytes)) = some (some (.slice none 0 0), 1, 24) := by kernel_rfl
theorem sliceB : Try.prog.underlying 46 = some (.slice 23) := by kernel_rfl

theorem At32.far {W : World} {g n j i : Nat} (h : At32 W g n) (hj : j ≠ g) (v : Value) : At32 (W.setCell ⟨j, i, none⟩ v) g n := ⟨h.1, Holds.far h.2 hj v⟩
theorem At32.lt {W : World} {g n : Nat} (h : At32 W g n) : g < W.heap.size := Holds.lt h.2 (by rw [bytesOf_size]; omega)
theorem At32.drew {W : World} {g n : Nat} (h : At32 W g n) : At32 W.drew g n := ⟨h.1, Holds.drew h.2⟩

/-- A list of n bytes' slices in block kl, of which the first i are numbers' bytes, each in a block of its own. -/
structure Shelf (W : World) (kl n i : Nat) (f : Nat → Nat) : Prop where
  all : ∀ j, j < n → ∃ v, W.cell? ⟨kl, j, none⟩ = some v
  fz : ∀ o, W.frozen? ⟨kl, o, none⟩ = false
  lt : kl < W.heap.size
  front : ∃ G : Nat → Nat, (∀ j, j < i → W.cell? ⟨kl, j, none⟩ = some (.slice (some ⟨G j, 0, none⟩) 32 32) ∧ At32 W (G j) (f j) ∧ kl < G j) ∧ ∀ j j', j' < i → j < j' → G j < G j'

theorem Shelf.call {W w1 : World} {kl n i : Nat} {f : Nat → Nat} (h : Shelf W kl n i f) (hb : Below W.heap.size W w1) : Shelf w1 kl n i f := by
  obtain ⟨h1, h2, h3, G, h4, h5⟩ := h
  refine ⟨fun j hj => ?_, fun o => ?_, Nat.lt_of_lt_of_le h3 hb.size, G, fun j hj => ?_, h5⟩
  · obtain ⟨v, hv⟩ := h1 j hj
    exact ⟨v, by rw [hb.cell (p := ⟨kl, j, none⟩) h3]; exact hv⟩
  · rw [hb.frozen (p := ⟨kl, o, none⟩) h3]; exact h2 o
  · obtain ⟨h6, h7, h8⟩ := h4 j hj
    exact ⟨by rw [hb.cell (p := ⟨kl, j, none⟩) h3]; exact h6, h7.call hb, h8⟩
theorem Shelf.drew {W : World} {kl n i : Nat} {f : Nat → Nat} (h : Shelf W kl n i f) : Shelf W.drew kl n i f := by
  obtain ⟨h1, h2, h3, G, h4, h5⟩ := h
  exact ⟨h1, h2, h3, G, fun j hj => ⟨(h4 j hj).1, (h4 j hj).2.1.drew, (h4 j hj).2.2⟩, h5⟩
/-- A store into a block below the list. -/
theorem Shelf.far {W : World} {kl n i g o : Nat} {f : Nat → Nat} (h : Shelf W kl n i f) (hg : g ≠ kl) (hn : ∀ (G : Nat → Nat), (∀ j, j < i → W.cell? ⟨kl, j, none⟩ = some (.slice (some ⟨G j, 0, none⟩) 32 32)) → ∀ j, j < i → g ≠ G j) (v : Value) : Shelf (W.setCell ⟨g, o, none⟩ v) kl n i f := by
  obtain ⟨h1, h2, h3, G, h4, h5⟩ := h
  refine ⟨fun j hj => ?_, fun o => ?_, by simpa using h3, G, fun j hj => ?_, h5⟩
  · obtain ⟨v', hv⟩ := h1 j hj
    exact ⟨v', by rw [World.cell?_setCell_other _ _ _ _ (ne_addr (Or.inl hg))]; exact hv⟩
  · rw [World.frozen?_setCell]; exact h2 o
  · obtain ⟨h6, h7, h8⟩ := h4 j hj
    exact ⟨by rw [World.cell?_setCell_other _ _ _ _ (ne_addr (Or.inl hg))]; exact h6, h7.far (hn G (fun j hj => (h4 j hj).1) j hj) v, h8⟩
/-- The next one is laid into the list. -/
theorem Shelf.put {W : World} {kl n i g : Nat} {f : Nat → Nat} (h : Shelf W kl n i f) (hi : i < n) (hx : At32 W g (f i)) (hg : kl < g) (hn : ∀ (G : Nat → Nat), (∀ j, j < i → W.cell? ⟨kl, j, none⟩ = some (.slice (some ⟨G j, 0, none⟩) 32 32)) → ∀ j, j < i → G j < g) :
    Shelf (W.setCell ⟨kl, i, none⟩ (.slice (some ⟨g, 0, none⟩) 32 32)) kl n (i + 1) f := by
  obtain ⟨h1, h2, h3, G, h4, h5⟩ := h
  obtain ⟨v0, hv0⟩ := h1 i hi
  have hsame := World.cell?_setCell_same W ⟨kl, i, none⟩ (.slice (some ⟨g, 0, none⟩) 32 32) hv0
  refine ⟨fun j hj => ?_, fun o => ?_, by simpa using h3, fun j => if j = i then g else G j, fun j hj => ?_, fun j j' hj' hjj => ?_⟩
  · by_cases hji : j = i
    · subst hji; exact ⟨_, hsame⟩
    · obtain ⟨v', hv⟩ := h1 j hj
      exact ⟨v', by rw [World.cell?_setCell_other _ _ _ _ (ne_addr (Or.inr (Ne.symm hji)))]; exact hv⟩
  · rw [World.frozen?_setCell]; exact h2 o
  · by_cases hji : j = i
    · subst hji
      simp only [if_true]
      exact ⟨hsame, hx.far (by omega) _, hg⟩
    · obtain ⟨h6, h7, h8⟩ := h4 j (by omega)
      simp only [if_neg hji]
      exact ⟨by rw [World.cell?_setCell_other _ _ _ _ (ne_addr (Or.inr (Ne.symm hji)))]; exact h6, h7.far (by omega) _, h8⟩
  · have hlt := hn G (fun j hj => (h4 j hj).1)
    simp only
    rw [if_neg (by omega)]
    by_cases hji : j' = i
    · rw [if_pos hji]; exact hlt j (by omega)
    · rw [if_neg hji]; exact h5 j j' (by omega) hjj
theorem Shelf.below_size {W : World} {kl n i : Nat} {f : Nat → Nat} (h : Shelf W kl n i f) (G : Nat → Nat) (hG : ∀ j, j < i → W.cell? ⟨kl, j, none⟩ = some (.slice (some ⟨G j, 0, none⟩) 32 32)) (j : Nat) (hj : j < i) : kl < G j ∧ G j < W.heap.size := by
  obtain ⟨h1, h2, h3, G', h4, h5⟩ := h
  obtain ⟨h6, h7, h8⟩ := h4 j hj
  have := hG j hj
  rw [h6] at this
  injection this with e
  injection e with e1 _ _
  injection e1 with e1
  injection e1 with e1 _ _
  rw [← e1]
  exact ⟨h8, h7.lt⟩
theorem Shelf.set4 {W : World} {kl n i g : Nat} {f : Nat → Nat} (h : Shelf W kl n i f) (hg : g ≠ kl) (hn : ∀ (G : Nat → Nat), (∀ j, j < i → W.cell? ⟨kl, j, none⟩ = some (.slice (some ⟨G j, 0, none⟩) 32 32)) → ∀ j, j < i → g ≠ G j) (x y z t : Value) :
    Shelf ((((W.setCell ⟨g, 0, none⟩ x).setCell ⟨g, 1, none⟩ y).setCell ⟨g, 2, none⟩ z).setCell ⟨g, 3, none⟩ t) kl n i f := by
  have nx : ∀ (W : World) (o : Nat) (v : Value), (∀ (G : Nat → Nat), (∀ j, j < i → W.cell? ⟨kl, j, none⟩ = some (.slice (some ⟨G j, 0, none⟩) 32 32)) → ∀ j, j < i → g ≠ G j) → (∀ (G : Nat → Nat), (∀ j, j < i → (W.setCell ⟨g, o, none⟩ v).cell? ⟨kl, j, none⟩ = some (.slice (some ⟨G j, 0, none⟩) 32 32)) → ∀ j, j < i → g ≠ G j) := fun W o v h0 G hG => h0 G (fun j hj => by
    have := hG j hj
    rw [World.cell?_setCell_other _ _ _ _ (ne_addr (Or.inl hg))] at this
    exact this)
  exact (((h.far hg hn x).far hg (nx _ _ _ hn) y).far hg (nx _ _ _ (nx _ _ _ hn)) z).far hg (nx _ _ _ (nx _ _ _ (nx _ _ _ hn))) t
theorem Shelf.made (W : World) (n : Nat) (f : Nat → Nat) : Shelf (W.alloc (.cells (madeCells #[.slice none 0 0] n) 23)) W.heap.size n 0 f := by
  refine ⟨fun j hj => ⟨.slice none 0 0, ?_⟩, fun o => World.frozen?_alloc_new _ _ _ _, by simp, fun _ => 0, fun j hj => by omega, fun j j' hj => by omega⟩
  rw [World.cell?_alloc_new]
  unfold madeCells
  rw [Array.getElem?_map, Array.getElem?_range]
  simp [hj, Nat.mod_one]

/-- What Powers answers. -/
def PowR (w : World) (P n : Nat) (s : Bs) (e : Value) (w' : World) : Prop :=
  (IsNum P s ∧ ∃ kl, w.heap.size ≤ kl ∧ e = .tuple #[.slice (some ⟨kl, 0, none⟩) n n, .int .i64 0] ∧ Shelf w' kl n n (fun j => beV s.toList ^ j % P)) ∨ (¬ IsNum P s ∧ e = .tuple #[.slice none 0 0, .int .i64 3])

theorem powrS_of {w W : World} {kp kn kw kl n i xa xb xc xd a b c d g0 g1 g2 : Nat} {f : Nat → Nat} (h : Kept w w.heap.size (⟨kw, 0, a, b, c, d⟩ :: [⟨kp, 0, g0, g1, g2, 0⟩, ⟨kn, 0, xa, xb, xc, xd⟩]) W) (hr : Shelf W kl n i f) : W.cell? ⟨kp, 0, none⟩ = some (.int .u64 (g0 : Int)) ∧ W.cell? ⟨kp, 1, none⟩ = some (.int .u64 (g1 : Int)) ∧ W.cell? ⟨kp, 2, none⟩ = some (.int .u64 (g2 : Int)) ∧ W.cell? ⟨kp, 3, none⟩ = some (.int .u64 0) ∧ W.cell? ⟨kw, 0, none⟩ = some (.int .u64 (a : Int)) ∧ W.cell? ⟨kw, 1, none⟩ = some (.int .u64 (b : Int)) ∧ W.cell? ⟨kw, 2, none⟩ = some (.int .u64 (c : Int)) ∧ W.cell? ⟨kw, 3, none⟩ = some (.int .u64 (d : Int)) ∧ W.cell? ⟨kn, 0, none⟩ = some (.int .u64 (xa : Int)) ∧ W.cell? ⟨kn, 1, none⟩ = some (.int .u64 (xb : Int)) ∧ W.cell? ⟨kn, 2, none⟩ = some (.int .u64 (xc : Int)) ∧ W.cell? ⟨kn, 3, none⟩ = some (.int .u64 (xd : Int)) ∧ Kept w w.heap.size (⟨kw, 0, a, b, c, d⟩ :: [⟨kp, 0, g0, g1, g2, 0⟩, ⟨kn, 0, xa, xb, xc, xd⟩]) W ∧ Shelf W kl n i f :=
  ⟨h.tail.head.c0, h.tail.head.c1, h.tail.head.c2, h.tail.head.c3, h.head.c0, h.head.c1, h.head.c2, h.head.c3, h.tail.tail.head.c0, h.tail.tail.head.c1, h.tail.tail.head.c2, h.tail.tail.head.c3, h, hr⟩

set_option maxHeartbeats 8000000 in
set_option maxRecDepth 100000 in
theorem Powers_any (k : Int) (g0 g1 g2 P n : Nat) (va : Value) (s : Bs) (hG : Gap g0 g1 g2 P) (w : World) (hn : n ≤ 256) (hp : PrimeOf k g0 g1 g2) (ha : Arg w va s) :
    Calls Try.prog 25 #[.int .i64 k, va, .int .i64 (n : Int)] w (Ret fun e w' => Below w.heap.size w w' ∧ PowR w P n s e w') := by
  have HP : Hid (PrimeOf k g0 g1 g2) := hp
  have HA : Hid (Arg w va s) := ha
  have HG : Hid (Gap g0 g1 g2 P) := hG
  obtain ⟨pa, na, ca, rfl, -⟩ := id ha
  have HMK : Hid (∀ w : World, (Instr.makeSlice 46 (.int .i64 (n : Int)) (.int .i64 (n : Int))).run Try.prog w = .ok (.slice (some ⟨w.heap.size, 0, none⟩) n n) (w.alloc (.cells (madeCells #[.slice none 0 0] n) 23))) :=
    run_make_row' (P := Try.prog) 46 23 (.slice none 0 0) 24 sliceB infoB rfl .i64 .i64 n (by omega) (by omega)
  have d1 : ¬ (n : Int) < 0 := by omega
  have d2 : ¬ (256 : Int) < (n : Int) := by omega
  clear hp hG ha
  go_enter Try.func25, Try.ntmps25
  go_wp2_with fail
  refine (HP.out _).mono ?_
  rintro e w1 ⟨v, rfl, hb1, rfl⟩
  go_wp2_with fail
  have KP := ((Kept.mk1 hb1 hb1.size).alloc (.cells #[.int .u64 (g0 : Int), .int .u64 (g1 : Int), .int .u64 (g2 : Int), .int .u64 0] 79)).cons (At4.made w1 79 g0 g1 g2 0 rfl).blk
  have hA := args_one HA.out KP.bl 23
  rw [World.size_alloc] at hA
  replace KP := KP.alloc (.cells #[.slice pa na ca] 23)
  clear hb1
  generalize World.alloc _ _ = W0 at KP hA ⊢
  generalize w1.heap.size = kp at KP hA ⊢
  refine (numbers_any g0 g1 g2 P 1 1 _ (fun _ => s) HG.out _ (by decide) hA).mono ?_
  rintro e w2 ⟨v, rfl, hb2, h2⟩
  replace KP := KP.call hb2
  clear hb2 hA
  rcases h2 with ⟨hall, kn, hkn, rfl, NM⟩ | ⟨hno, rfl⟩
  · have HBO : Hid (IsNum P s) := hall 0 (by decide)
    clear hall hkn
    obtain ⟨xa, xb, xc, xd, X, hX⟩ := NM 0 (by decide)
    have HX : Hid (Four _ (beV s.toList)) := hX (by decide)
    replace X : (Blk.mk kn 0 xa xb xc xd).at w2 := X
    replace KP : Kept w w.heap.size [⟨kp, 0, g0, g1, g2, 0⟩, ⟨kn, 0, xa, xb, xc, xd⟩] w2 := ((Kept.mk1 KP.bl KP.le).cons X).cons KP.head
    clear NM hX X
    have hmk := HMK.out
    go_wp2
    clear hmk
    have NM := Shelf.made w2 n (fun j => beV s.toList ^ j % P)
    have KW := ((KP.alloc (.cells (madeCells #[.slice none 0 0] n) 23)).alloc (.cells #[.int .u64 1, .int .u64 0, .int .u64 0, .int .u64 0] 85)).cons (At4.made (w2.alloc (.cells (madeCells #[.slice none 0 0] n) 23)) 85 1 0 0 0 (World.size_alloc _ _)).blk
    replace NM := NM.call (below1 _ (.cells #[.int .u64 1, .int .u64 0, .int .u64 0, .int .u64 0] 85))
    have QL : Hid (w.heap.size ≤ w2.heap.size) := KP.le
    have hlt := KP.lts
    clear KP
    generalize World.alloc _ _ = W3 at KW NM ⊢
    generalize hkw : w2.heap.size + 1 = kw at KW ⊢
    generalize hkl : w2.heap.size = kl at NM QL hlt ⊢
    have nlw : kw ≠ kl := by omega
    have HKO : Hid (kl < kw) := by unfold Hid; omega
    have hlw : ∀ x ∈ ([⟨kp, 0, g0, g1, g2, 0⟩, ⟨kn, 0, xa, xb, xc, xd⟩] : List Blk), kw ≠ x.k := fun x hx => by have := hlt x hx; omega
    have hll : ∀ x ∈ ([⟨kp, 0, g0, g1, g2, 0⟩, ⟨kn, 0, xa, xb, xc, xd⟩] : List Blk), kl ≠ x.k := fun x hx => by have := hlt x hx; omega
    have QW : Hid (w.heap.size ≤ kw) := by have := QL.out; unfold Hid; omega
    clear hkw hkl hlt
    go_loopg [43] n (fun gk s43 wr => ∃ i a b c d : Nat, i + gk = n ∧ s43 = .int .i64 (i : Int) ∧ Kept w w.heap.size (⟨kw, 0, a, b, c, d⟩ :: [⟨kp, 0, g0, g1, g2, 0⟩, ⟨kn, 0, xa, xb, xc, xd⟩]) wr ∧ Shelf wr kl n i (fun j => beV s.toList ^ j % P) ∧ (∀ (G : Nat → Nat), (∀ j, j < i → wr.cell? ⟨kl, j, none⟩ = some (.slice (some ⟨G j, 0, none⟩) 32 32)) → ∀ j, j < i → kw < G j) ∧ Hid (Four (.agg #[.int .u64 (a : Int), .int .u64 (b : Int), .int .u64 (c : Int), .int .u64 (d : Int)]) (beV s.toList ^ i % P)))
    case atStart =>
      refine ⟨0, 1, 0, 0, 0, Nat.zero_add _, rfl, KW, NM, fun G hG j hj => by omega, ?_⟩
      have h1 := HG.out.hP2
      have h2 : 3 < top := by decide
      rw [Nat.pow_zero, Nat.mod_eq_of_lt (by omega)]
      exact Four.mk (by decide) (by decide) (by decide) (by decide) rfl
    case round =>
      clear KW NM
      obtain ⟨i, a, b, c, d, hi, rfl, KP, NM, hgt, HF⟩ := hrel
      by_cases hlt : i < n
      · have hlt' : (i : Int) < (n : Int) := by omega
        obtain ⟨tc0, tc1, tc2, tc3, tf⟩ := KP.head.at4
        have zt := KP.head.lt
        have HGT : Hid _ := hgt
        clear hgt
        go_wp2_with fail
        clear tc0 tc1 tc2 tc3 tf zt
        refine (bytes_of _ _ _ HF.out).mono ?_
        rintro e w3 ⟨v, rfl, hb3, hv⟩
        have hgB : ∃ g, v = .slice (some ⟨g, 0, none⟩) 32 32 ∧ At32 w3 g (beV s.toList ^ i % P) ∧ wr.heap.size ≤ g := by
          obtain ⟨g, h1, h2⟩ := At32.of hv
          obtain ⟨g', x1, x2, x3, x4, h3, h4, -⟩ := hv
          rw [h1] at h3
          injection h3 with e1 _ _
          injection e1 with e1
          injection e1 with e1 _ _
          exact ⟨g, h1, h2, by omega⟩
        obtain ⟨gb, rfl, hgb, hgs⟩ := hgB
        clear hv
        have hltw : kw < wr.heap.size := KP.head.lt
        have hltl := NM.lt
        have hbs := fun G hG j hj => (NM.below_size G hG j hj).2
        have NM3 := NM.call hb3
        have HG3 : Hid (∀ (G : Nat → Nat), (∀ j, j < i → w3.cell? ⟨kl, j, none⟩ = some (.slice (some ⟨G j, 0, none⟩) 32 32)) → ∀ j, j < i → kw < G j ∧ G j < gb) := fun G hG j hj => by
          have hG' : ∀ j, j < i → wr.cell? ⟨kl, j, none⟩ = some (.slice (some ⟨G j, 0, none⟩) 32 32) := fun j hj => by rw [← hb3.cell (p := ⟨kl, j, none⟩) hltl]; exact hG j hj
          exact ⟨HGT.out G hG' j hj, Nat.lt_of_lt_of_le (hbs G hG' j hj) hgs⟩
        have HKG : Hid (kl < gb ∧ kw < gb) := ⟨by omega, by omega⟩
        replace KP := KP.call hb3
        obtain ⟨v0, hv0⟩ := NM3.all i hlt
        have cf := NM3.fz
        have cz := NM3.lt
        clear hb3 hbs hltw hltl hgs NM HGT
        go_upto_region 15 with fail
        clear cf cz
        have NM4 := NM3.put hlt hgb HKG.out.1 (fun G hG j hj => (HG3.out G hG j hj).2)
        have KP4 := KP.set (j := kl) (i := i) QL.out (by simp only [List.mem_cons, List.not_mem_nil, or_false]; rintro x (rfl | rfl | rfl); exact nlw.symm; exact hll ⟨kp, 0, g0, g1, g2, 0⟩ (by simp); exact hll ⟨kn, 0, xa, xb, xc, xd⟩ (by simp)) (.slice (some ⟨gb, 0, none⟩) 32 32)
        have HG4 : Hid (∀ (G : Nat → Nat), (∀ j, j < i + 1 → (w3.setCell ⟨kl, i, none⟩ (.slice (some ⟨gb, 0, none⟩) 32 32)).cell? ⟨kl, j, none⟩ = some (.slice (some ⟨G j, 0, none⟩) 32 32)) → ∀ j, j < i + 1 → kw < G j) := fun G hG j hj => by
          by_cases hji : j = i
          · subst hji
            have h1 := hG j (by omega)
            rw [World.cell?_setCell_same _ _ _ hv0] at h1
            injection h1 with e
            injection e with e1 _ _
            injection e1 with e1
            injection e1 with e1 _ _
            have := HKG.out.2
            omega
          · refine (HG3.out G (fun j' hj' => ?_) j (by omega)).1
            have h1 := hG j' (by omega)
            rw [World.cell?_setCell_other _ _ _ _ (ne_addr (Or.inr (by omega)))] at h1
            exact h1
        clear NM3 KP hgb HG3 hv0
        generalize World.setCell _ _ _ = W5 at NM4 KP4 HG4 ⊢
        refine anyTill.begin (fun w' => w'.cell? ⟨kp, 0, none⟩ = some (.int .u64 (g0 : Int)) ∧ w'.cell? ⟨kp, 1, none⟩ = some (.int .u64 (g1 : Int)) ∧ w'.cell? ⟨kp, 2, none⟩ = some (.int .u64 (g2 : Int)) ∧ w'.cell? ⟨kp, 3, none⟩ = some (.int .u64 0) ∧ w'.cell? ⟨kw, 0, none⟩ = some (.int .u64 (a : Int)) ∧ w'.cell? ⟨kw, 1, none⟩ = some (.int .u64 (b : Int)) ∧ w'.cell? ⟨kw, 2, none⟩ = some (.int .u64 (c : Int)) ∧ w'.cell? ⟨kw, 3, none⟩ = some (.int .u64 (d : Int)) ∧ w'.cell? ⟨kn, 0, none⟩ = some (.int .u64 (xa : Int)) ∧ w'.cell? ⟨kn, 1, none⟩ = some (.int .u64 (xb : Int)) ∧ w'.cell? ⟨kn, 2, none⟩ = some (.int .u64 (xc : Int)) ∧ w'.cell? ⟨kn, 3, none⟩ = some (.int .u64 (xd : Int)) ∧ Kept w w.heap.size (⟨kw, 0, a, b, c, d⟩ :: [⟨kp, 0, g0, g1, g2, 0⟩, ⟨kn, 0, xa, xb, xc, xd⟩]) w' ∧ Shelf w' kl n (i + 1) (fun j => beV s.toList ^ j % P)) 6 mixed (powrS_of KP4.drew NM4.drew) (fun hS => ?_)
        refine anyTill.take (i := 0) (v := ?_) rfl (by kernel_rfl) (by kernel_rfl) (by kernel_rfl) (by kernel_rfl) (by kernel_rfl) (fun _ _ _ h => h) (Or.inl ⟨by rfl, ?_⟩) hS ?_
        rotate_left
        · intro w hSw
          (try dsimp only at hSw)
          go_simp
          try (with_reducible rfl)
        simp only [Act.put, List.setIfInBounds_toArray]
        refine anyTill.take (i := 1) (v := ?_) rfl (by kernel_rfl) (by kernel_rfl) (by kernel_rfl) (by kernel_rfl) (by kernel_rfl) (fun _ _ _ h => h) (Or.inl ⟨by rfl, ?_⟩) hS ?_
        rotate_left
        · intro w hSw
          (try dsimp only at hSw)
          go_simp
          try (with_reducible rfl)
        simp only [Act.put]
        refine anyTill.take (i := 2) (v := ?_) rfl (by kernel_rfl) (by kernel_rfl) (by kernel_rfl) (by kernel_rfl) (by kernel_rfl) (fun _ _ _ h => h) (Or.inl ⟨by rfl, ?_⟩) hS ?_
        rotate_left
        · intro w hSw
          (try dsimp only at hSw)
          go_simp
          try (with_reducible rfl)
        simp only [Act.put]
        refine anyTill.take (i := 3) (v := ?_) rfl (by kernel_rfl) (by kernel_rfl) (by kernel_rfl) (by kernel_rfl) (by kernel_rfl) (fun _ _ _ h => h) (Or.inl ⟨by rfl, ?_⟩) hS ?_
        rotate_left
        · intro w hSw
          (try dsimp only at hSw)
          go_simp
          try (with_reducible rfl)
        simp only [Act.put]
        refine anyTill.take (i := 4) (v := ?_) rfl (by kernel_rfl) (by kernel_rfl) (by kernel_rfl) (by kernel_rfl) (by kernel_rfl) (fun _ _ _ h => h) (Or.inl ⟨by rfl, ?_⟩) hS ?_
        rotate_left
        · intro w hSw
          (try dsimp only at hSw)
          go_simp
          try (with_reducible rfl)
        simp only [Act.put]
        try simp only [List.set_cons_zero, List.set_cons_succ]
        refine anyTill.step (i := 5) rfl (by kernel_rfl) (fun K hK => ?_)
        go_simp
        refine (Times_any g0 g1 g2 P _ _ _ _ HG.out HF.out HX.out _).mono ?_
        rintro e w6 ⟨v, rfl, hb6, hF3⟩
        rw [pow_step_mod] at hF3
        obtain ⟨ua, ub, uc, ud, rfl, -⟩ := id hF3
        have HFU : Hid (Four _ _) := hF3
        clear hF3 hS HF
        have KP6 := KP4.drew.call hb6
        have NM6 := NM4.drew.call hb6
        have HG6 : Hid (∀ (G : Nat → Nat), (∀ j, j < i + 1 → w6.cell? ⟨kl, j, none⟩ = some (.slice (some ⟨G j, 0, none⟩) 32 32)) → ∀ j, j < i + 1 → kw < G j) := fun G hG j hj =>
          HG4.out G (fun j hj => by rw [← hG j hj, hb6.cell (p := ⟨kl, j, none⟩) NM4.drew.lt]; rfl) j hj
        clear hb6 KP4 NM4 HG4
        refine hK.out _ _ (fun _ => powrS_of KP6 NM6) ?_
        clear hK K
        try simp only [Act.put, List.setIfInBounds_toArray, List.set_cons_zero, List.set_cons_succ]
        obtain ⟨tc0, tc1, tc2, tc3, tf⟩ := KP6.head.at4
        have zt := KP6.head.lt
        refine anyTill.step (i := 6) rfl (by kernel_rfl) (fun K hK => ?_)
        go_simp
        refine hK.out _ _ (fun h => Bool.noConfusion h) ?_
        clear hK K
        try simp only [Act.put, List.setIfInBounds_toArray, List.set_cons_zero, List.set_cons_succ]
        refine anyTill.done (by kernel_rfl) ?_ _
        clear tc0 tc1 tc2 tc3 tf zt
        go_wp2
        go_roundg (gk - 1)
        case measure => omega
        case rel =>
          refine ⟨i + 1, ua, ub, uc, ud, by omega, rfl, KP6.put QW.out hlw ua ub uc ud, NM6.set4 nlw (fun G hG j hj => Nat.ne_of_lt (HG6.out G hG j hj)) _ _ _ _, fun G hG j hj => HG6.out G (fun j hj => ?_) j hj, HFU⟩
          have h1 := hG j hj
          rw [World.cell?_setCell_other _ _ _ _ (ne_addr (Or.inl nlw)), World.cell?_setCell_other _ _ _ _ (ne_addr (Or.inl nlw)), World.cell?_setCell_other _ _ _ _ (ne_addr (Or.inl nlw)), World.cell?_setCell_other _ _ _ _ (ne_addr (Or.inl nlw))] at h1
          exact h1
      · have hge : ¬ (i : Int) < (n : Int) := by omega
        have HIN : Hid (i = n) := by unfold Hid; omega
        go_wp2
        go_ret2
        refine ⟨_, rfl, KP.bl, Or.inl ⟨HBO.out, kl, QL.out, rfl, ?_⟩⟩
        rw [HIN.out] at NM
        exact NM
  · have HN : Hid (¬ IsNum P s) := by obtain ⟨j, -, h⟩ := hno; exact h
    clear hno
    go_wp2
    go_ret2
    exact ⟨_, rfl, KP.bl, Or.inr ⟨HN.out, rfl⟩⟩

set_option maxHeartbeats 1000000 in
theorem Powers_long (k : Int) (g0 g1 g2 : Nat) (n : Int) (va : Value) (w : World) (hn : n < 0 ∨ 256 < n) (hp : PrimeOf k g0 g1 g2) :
    Calls Try.prog 25 #[.int .i64 k, va, .int .i64 n] w (Ret fun e w' => Below w.heap.size w w' ∧ e = .tuple #[.slice none 0 0, .int .i64 1]) := by
  have HP : Hid (PrimeOf k g0 g1 g2) := hp
  clear hp
  by_cases h0 : n < 0
  · go_enter Try.func25, Try.ntmps25
    go_wp2_with fail
    refine (HP.out _).mono ?_
    rintro e w1 ⟨v, rfl, hb1, rfl⟩
    go_wp2
    go_ret2
    exact ⟨_, rfl, hb1.alloc hb1.size _, rfl⟩
  · have h1 : 256 < n := hn.resolve_left h0
    go_enter Try.func25, Try.ntmps25
    go_wp2_with fail
    refine (HP.out _).mono ?_
    rintro e w1 ⟨v, rfl, hb1, rfl⟩
    go_wp2
    go_ret2
    exact ⟨_, rfl, hb1.alloc hb1.size _, rfl⟩
set_option maxHeartbeats 1000000 in
theorem Powers_no (k : Int) (hk : k < 0 ∨ 2 ≤ k) (va vn : Value) (w : World) :
    Calls Try.prog 25 #[.int .i64 k, va, vn] w (Ret fun e w' => Below w.heap.size w w' ∧ e = .tuple #[.slice none 0 0, .int .i64 2]) := by
  go_enter Try.func25, Try.ntmps25
  go_wp2_with fail
  refine (primeOf_n k hk _).mono ?_
  rintro e w1 ⟨v, rfl, hb1, rfl⟩
  go_wp2
  go_ret2
  exact ⟨_, rfl, hb1.alloc hb1.size _, rfl⟩
end Go.Proofs.Ytppdcphfphcbbab
