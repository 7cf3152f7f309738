import Derived.Test.YtppdcphfphcbbabL5
namespace Go.Proofs.Ytppdcphfphcbbab
open Go.RowKit Go.Sort Go.Deep

/-- The sum of products, as far as i. -/
def dsum (P : Nat) (f h : Nat → Nat) : Nat → Nat
  | 0 => 0
  | i + 1 => (dsum P f h i + f i * h i % P) % P
theorem dsum_lt {P : Nat} (hP : 0 < P) (f h : Nat → Nat) : ∀ i, dsum P f h i < P
  | 0 => hP
  | _ + 1 => Nat.mod_lt _ hP

theorem Nums.other {W : World} {k n i g o : Nat} {f : Nat → Nat} (h : Nums W k n i f) (hg : g ≠ k) (v : Value) : Nums (W.setCell ⟨g, o, none⟩ v) k n i f := fun j hj => by
  obtain ⟨a, b, c, d, h1, h2⟩ := h j hj
  exact ⟨a, b, c, d, h1.other hg v, h2⟩
theorem Nums.other4 {W : World} {k n i g : Nat} {f : Nat → Nat} (h : Nums W k n i f) (hg : g ≠ k) (x y z t : Value) :
    Nums ((((W.setCell ⟨g, 0, none⟩ x).setCell ⟨g, 1, none⟩ y).setCell ⟨g, 2, none⟩ z).setCell ⟨g, 3, none⟩ t) k n i f := (((h.other hg x).other hg y).other hg z).other hg t

/-- What Dot answers. -/
def DotR (w : World) (P n m : Nat) (L M : Nat → Bs) (e : Value) (w' : World) : Prop :=
  ((∀ j, j < n → IsNum P (L j)) ∧ (∀ j, j < m → IsNum P (M j)) ∧ n = m ∧ ∃ v, e = .tuple #[v, .int .i64 0] ∧ IsBytes w' w.heap.size v (dsum P (fun j => beV (L j).toList) (fun j => beV (M j).toList) n)) ∨
  ((∀ j, j < n → IsNum P (L j)) ∧ (∀ j, j < m → IsNum P (M j)) ∧ ¬ n = m ∧ e = .tuple #[.slice none 0 0, .int .i64 2]) ∨
  (((∃ j, j < n ∧ ¬ IsNum P (L j)) ∨ (∃ j, j < m ∧ ¬ IsNum P (M j))) ∧ e = .tuple #[.slice none 0 0, .int .i64 3])

theorem Args.below {w w1 : World} {q : Option Addr} {n : Nat} {L : Nat → Bs} (h : Args w q n L) (hb : Below w.heap.size w w1) : Args w1 q n L := fun hn => by
  obtain ⟨gg, h1, h2, h3⟩ := h hn
  refine ⟨gg, h1, Nat.lt_of_lt_of_le h2 hb.size, fun j hj => ?_⟩
  obtain ⟨v, h4, h5⟩ := h3 j hj
  exact ⟨v, by rw [hb.cell (p := ⟨gg, j, none⟩) h2]; exact h4, h5.below hb⟩

theorem dotS_of {w W : World} {kp ks kl kr n i la lb lc ld ra rb rc rd a b c d g0 g1 g2 : Nat} {f h : Nat → Nat} (hk : Kept w w.heap.size [⟨ks, 0, a, b, c, d⟩, ⟨kp, 0, g0, g1, g2, 0⟩, ⟨kl, i * 4, la, lb, lc, ld⟩, ⟨kr, i * 4, ra, rb, rc, rd⟩] W) (h1 : Nums W kl n n f) (h2 : Nums W kr n n h) : W.cell? ⟨kp, 0, none⟩ = some (.int .u64 (g0 : Int)) ∧ W.cell? ⟨kp, 1, none⟩ = some (.int .u64 (g1 : Int)) ∧ W.cell? ⟨kp, 2, none⟩ = some (.int .u64 (g2 : Int)) ∧ W.cell? ⟨kp, 3, none⟩ = some (.int .u64 0) ∧ W.cell? ⟨ks, 0, none⟩ = some (.int .u64 (a : Int)) ∧ W.cell? ⟨ks, 1, none⟩ = some (.int .u64 (b : Int)) ∧ W.cell? ⟨ks, 2, none⟩ = some (.int .u64 (c : Int)) ∧ W.cell? ⟨ks, 3, none⟩ = some (.int .u64 (d : Int)) ∧ W.cell? ⟨kl, i * 4, none⟩ = some (.int .u64 (la : Int)) ∧ W.cell? ⟨kl, i * 4 + 1, none⟩ = some (.int .u64 (lb : Int)) ∧ W.cell? ⟨kl, i * 4 + 2, none⟩ = some (.int .u64 (lc : Int)) ∧ W.cell? ⟨kl, i * 4 + 3, none⟩ = some (.int .u64 (ld : Int)) ∧ W.cell? ⟨kr, i * 4, none⟩ = some (.int .u64 (ra : Int)) ∧ W.cell? ⟨kr, i * 4 + 1, none⟩ = some (.int .u64 (rb : Int)) ∧ W.cell? ⟨kr, i * 4 + 2, none⟩ = some (.int .u64 (rc : Int)) ∧ W.cell? ⟨kr, i * 4 + 3, none⟩ = some (.int .u64 (rd : Int)) ∧ Kept w w.heap.size [⟨ks, 0, a, b, c, d⟩, ⟨kp, 0, g0, g1, g2, 0⟩, ⟨kl, i * 4, la, lb, lc, ld⟩, ⟨kr, i * 4, ra, rb, rc, rd⟩] W ∧ Nums W kl n n f ∧ Nums W kr n n h :=
  ⟨hk.tail.head.c0, hk.tail.head.c1, hk.tail.head.c2, hk.tail.head.c3, hk.head.c0, hk.head.c1, hk.head.c2, hk.head.c3, hk.tail.tail.head.c0, hk.tail.tail.head.c1, hk.tail.tail.head.c2, hk.tail.tail.head.c3, hk.tail.tail.tail.head.c0, hk.tail.tail.tail.head.c1, hk.tail.tail.tail.head.c2, hk.tail.tail.tail.head.c3, hk, h1, h2⟩

set_option maxHeartbeats 8000000 in
set_option maxRecDepth 100000 in
theorem Dot_any (k : Int) (g0 g1 g2 P n m ca cb : Nat) (qa qb : Option Addr) (L M : Nat → Bs) (hG : Gap g0 g1 g2 P) (w : World) (hn : n ≤ 256) (hm : m ≤ 256) (hp : PrimeOf k g0 g1 g2) (hA : Args w qa n L) (hB : Args w qb m M) :
    Calls Try.prog 26 #[.int .i64 k, .slice qa n ca, .slice qb m cb] w (Ret fun e w' => Below w.heap.size w w' ∧ DotR w P n m L M e w') := by
  have HP : Hid (PrimeOf k g0 g1 g2) := hp
  have HA : Hid (Args w qa n L) := hA
  have HB : Hid (Args w qb m M) := hB
  have HG : Hid (Gap g0 g1 g2 P) := hG
  have d1 : ¬ (256 : Int) < (n : Int) := by omega
  have d2 : ¬ (256 : Int) < (m : Int) := by omega
  have HPOS : Hid (0 < P) := by have h1 := hG.hP2; have h2 : 3 < top := by decide
                                unfold Hid; omega
  clear hp hG hA hB
  go_enter Try.func26, Try.ntmps26
  go_wp2_with fail
  refine (HP.out _).mono ?_
  rintro e w1 ⟨v, rfl, hb1, rfl⟩
  go_wp2_with fail
  have KP := ((Kept.mk1 hb1 hb1.size).alloc (.cells #[.int .u64 (g0 : Int), .int .u64 (g1 : Int), .int .u64 (g2 : Int), .int .u64 0] 79)).cons (At4.made w1 79 g0 g1 g2 0 rfl).blk
  clear hb1
  generalize World.alloc _ _ = W0 at KP ⊢
  generalize w1.heap.size = kp at KP ⊢
  refine (numbers_any g0 g1 g2 P n ca _ L HG.out _ (by omega) (HA.out.below KP.bl)).mono ?_
  rintro e w2 ⟨v, rfl, hb2, h2⟩
  have hsz := KP.le
  replace KP := KP.call hb2
  clear hb2
  rcases h2 with ⟨hall, kl, hkl, rfl, NL⟩ | ⟨hno, rfl⟩
  · have HL : Hid (∀ j, j < n → IsNum P (L j)) := hall
    have QL : Hid (w.heap.size ≤ kl) := Nat.le_trans hsz hkl
    clear hall hkl hsz
    obtain ⟨pc0, pc1, pc2, pc3, pf⟩ := KP.head.at4
    have zp := KP.head.lt
    go_wp2_with fail
    clear pc0 pc1 pc2 pc3 pf zp
    refine (numbers_any g0 g1 g2 P m cb _ M HG.out _ (by omega) (HB.out.below KP.bl)).mono ?_
    rintro e w3 ⟨v, rfl, hb3, h3⟩
    have hsz := KP.le
    replace KP := KP.call hb3
    replace NL := NL.call hb3
    clear hb3
    rcases h3 with ⟨hall, kr, hkr, rfl, NR⟩ | ⟨hno, rfl⟩
    · have HR : Hid (∀ j, j < m → IsNum P (M j)) := hall
      clear hall hsz
      by_cases hnm : n = m
      · subst hnm
        clear hkr
        go_wp2
        have KS : Kept w w.heap.size (⟨w3.heap.size, 0, 0, 0, 0, 0⟩ :: [⟨kp, 0, g0, g1, g2, 0⟩]) _ := (KP.alloc (.cells #[.int .u64 0, .int .u64 0, .int .u64 0, .int .u64 0] 85)).cons (At4.made w3 85 0 0 0 0 rfl).blk
        have NL4 := NL.call (below1 w3 (.cells #[.int .u64 0, .int .u64 0, .int .u64 0, .int .u64 0] 85))
        have NR4 := NR.call (below1 w3 (.cells #[.int .u64 0, .int .u64 0, .int .u64 0, .int .u64 0] 85))
        have nsp : w3.heap.size ≠ kp := Nat.ne_of_gt KP.head.lt
        have nsl : 0 < n → w3.heap.size ≠ kl := fun h => by obtain ⟨x1, x2, x3, x4, h1, -⟩ := NL 0 h; exact Nat.ne_of_gt h1.lt
        have nsr : 0 < n → w3.heap.size ≠ kr := fun h => by obtain ⟨x1, x2, x3, x4, h1, -⟩ := NR 0 h; exact Nat.ne_of_gt h1.lt
        have QS : Hid (w.heap.size ≤ w3.heap.size) := KP.le
        clear KP NL NR
        generalize World.alloc _ _ = W4 at KS NL4 NR4 ⊢
        generalize w3.heap.size = ks at KS nsp nsl nsr QS ⊢
        have HSL : Hid (0 < n → ks ≠ kl) := nsl
        have HSR : Hid (0 < n → ks ≠ kr) := nsr
        clear nsl nsr
        go_loopg [55] n (fun gk s55 wr => ∃ i a b c d : Nat, i + gk = n ∧ s55 = .int .i64 (i : Int) ∧ Kept w w.heap.size [⟨ks, 0, a, b, c, d⟩, ⟨kp, 0, g0, g1, g2, 0⟩] wr ∧ Nums wr kl n n (fun j => beV (L j).toList) ∧ Nums wr kr n n (fun j => beV (M j).toList) ∧ Hid (Four (.agg #[.int .u64 (a : Int), .int .u64 (b : Int), .int .u64 (c : Int), .int .u64 (d : Int)]) (dsum P (fun j => beV (L j).toList) (fun j => beV (M j).toList) i)))
        case atStart =>
          exact ⟨0, 0, 0, 0, 0, Nat.zero_add _, rfl, KS, NL4, NR4, Four.mk (by decide) (by decide) (by decide) (by decide) rfl⟩
        case round =>
          clear KS NL4 NR4
          obtain ⟨i, a, b, c, d, hi, rfl, KP0, NL, NR, HF⟩ := hrel
          by_cases hlt : i < n
          · have hlt' : (i : Int) < (n : Int) := by omega
            obtain ⟨la, lb, lc, ld, BL, hFL⟩ := NL i hlt
            obtain ⟨ra, rb, rc, rd, BR, hFR⟩ := NR i hlt
            have HFL : Hid (Four _ (beV (L i).toList)) := hFL hlt
            have HFR : Hid (Four _ (beV (M i).toList)) := hFR hlt
            have nsl : ks ≠ kl := HSL.out (by omega)
            have nsr : ks ≠ kr := HSR.out (by omega)
            have KP : Kept w w.heap.size [⟨ks, 0, a, b, c, d⟩, ⟨kp, 0, g0, g1, g2, 0⟩, ⟨kl, i * 4, la, lb, lc, ld⟩, ⟨kr, i * 4, ra, rb, rc, rd⟩] wr := ((((Kept.mk1 KP0.bl KP0.le).cons BR).cons BL).cons KP0.tail.head).cons KP0.head
            clear KP0 BL BR hFL hFR
            obtain ⟨f, hf⟩ : ∃ f, (fun j => beV (L j).toList) = f := ⟨_, rfl⟩
            obtain ⟨h, hh⟩ : ∃ h, (fun j => beV (M j).toList) = h := ⟨_, rfl⟩
            have efi : beV (L i).toList = f i := by rw [← hf]
            have ehi : beV (M i).toList = h i := by rw [← hh]
            rw [efi] at HFL
            rw [ehi] at HFR
            rw [hf, hh] at HF
            rw [hf] at NL
            rw [hh] at NR
            have HFF : Hid ((fun j => beV (L j).toList) = f ∧ (fun j => beV (M j).toList) = h) := ⟨hf, hh⟩
            have HLF : Hid (f i < P ∧ h i < P) := ⟨efi ▸ (HL.out i hlt).2, ehi ▸ (HR.out i hlt).2⟩
            clear hf hh efi ehi
            go_upto_region 18 with fail
            refine anyTill.begin (fun w' => w'.cell? ⟨kp, 0, none⟩ = some (.int .u64 (g0 : Int)) ∧ w'.cell? ⟨kp, 1, none⟩ = some (.int .u64 (g1 : Int)) ∧ w'.cell? ⟨kp, 2, none⟩ = some (.int .u64 (g2 : Int)) ∧ w'.cell? ⟨kp, 3, none⟩ = some (.int .u64 0) ∧ w'.cell? ⟨ks, 0, none⟩ = some (.int .u64 (a : Int)) ∧ w'.cell? ⟨ks, 1, none⟩ = some (.int .u64 (b : Int)) ∧ w'.cell? ⟨ks, 2, none⟩ = some (.int .u64 (c : Int)) ∧ w'.cell? ⟨ks, 3, none⟩ = some (.int .u64 (d : Int)) ∧ w'.cell? ⟨kl, i * 4, none⟩ = some (.int .u64 (la : Int)) ∧ w'.cell? ⟨kl, i * 4 + 1, none⟩ = some (.int .u64 (lb : Int)) ∧ w'.cell? ⟨kl, i * 4 + 2, none⟩ = some (.int .u64 (lc : Int)) ∧ w'.cell? ⟨kl, i * 4 + 3, none⟩ = some (.int .u64 (ld : Int)) ∧ w'.cell? ⟨kr, i * 4, none⟩ = some (.int .u64 (ra : Int)) ∧ w'.cell? ⟨kr, i * 4 + 1, none⟩ = some (.int .u64 (rb : Int)) ∧ w'.cell? ⟨kr, i * 4 + 2, none⟩ = some (.int .u64 (rc : Int)) ∧ w'.cell? ⟨kr, i * 4 + 3, none⟩ = some (.int .u64 (rd : Int)) ∧ Kept w w.heap.size [⟨ks, 0, a, b, c, d⟩, ⟨kp, 0, g0, g1, g2, 0⟩, ⟨kl, i * 4, la, lb, lc, ld⟩, ⟨kr, i * 4, ra, rb, rc, rd⟩] w' ∧ Nums w' kl n n f ∧ Nums w' kr n n h) 13 mixed (dotS_of KP.drew NL.drew NR.drew) (fun hS => ?_)
            refine anyTill.take (i := 0) (v := ?_) rfl (by kernel_rfl) (by kernel_rfl) (by kernel_rfl) (by kernel_rfl) (by kernel_rfl) (fun _ _ _ h => h) (Or.inl ⟨by rfl, ?_⟩) hS ?_
            rotate_left
            · intro w hSw
              (try dsimp only at hSw)
              go_simp
              try (with_reducible rfl)
            simp only [Act.put, List.setIfInBounds_toArray]
            refine anyTill.take (i := 1) (v := ?_) rfl (by kernel_rfl) (by kernel_rfl) (by kernel_rfl) (by kernel_rfl) (by kernel_rfl) (fun _ _ _ h => h) (Or.inl ⟨by rfl, ?_⟩) hS ?_
            rotate_left
            · intro w hSw
              (try dsimp only at hSw)
              go_simp
              try (with_reducible rfl)
            simp only [Act.put]
            refine anyTill.take (i := 2) (v := ?_) rfl (by kernel_rfl) (by kernel_rfl) (by kernel_rfl) (by kernel_rfl) (by kernel_rfl) (fun _ _ _ h => h) (Or.inl ⟨by rfl, ?_⟩) hS ?_
            rotate_left
            · intro w hSw
              (try dsimp only at hSw)
              go_simp
              try (with_reducible rfl)
            simp only [Act.put]
            refine anyTill.take (i := 3) (v := ?_) rfl (by kernel_rfl) (by kernel_rfl) (by kernel_rfl) (by kernel_rfl) (by kernel_rfl) (fun _ _ _ h => h) (Or.inl ⟨by rfl, ?_⟩) hS ?_
            rotate_left
            · intro w hSw
              (try dsimp only at hSw)
              go_simp
              try (with_reducible rfl)
            simp only [Act.put]
            refine anyTill.take (i := 4) (v := ?_) rfl (by kernel_rfl) (by kernel_rfl) (by kernel_rfl) (by kernel_rfl) (by kernel_rfl) (fun _ _ _ h => h) (Or.inl ⟨by rfl, ?_⟩) hS ?_
            rotate_left
            · intro w hSw
              (try dsimp only at hSw)
              go_simp
              try (with_reducible rfl)
            simp only [Act.put]
            refine anyTill.take (i := 5) (v := ?_) rfl (by kernel_rfl) (by kernel_rfl) (by kernel_rfl) (by kernel_rfl) (by kernel_rfl) (fun _ _ _ h => h) (Or.inl ⟨by rfl, ?_⟩) hS ?_
            rotate_left
            · intro w hSw
              (try dsimp only at hSw)
              go_simp
              try (with_reducible rfl)
            simp only [Act.put]
            refine anyTill.take (i := 6) (v := ?_) rfl (by kernel_rfl) (by kernel_rfl) (by kernel_rfl) (by kernel_rfl) (by kernel_rfl) (fun _ _ _ h => h) (Or.inl ⟨by rfl, ?_⟩) hS ?_
            rotate_left
            · intro w hSw
              (try dsimp only at hSw)
              go_simp
              try (with_reducible rfl)
            simp only [Act.put]
            refine anyTill.take (i := 7) (v := ?_) rfl (by kernel_rfl) (by kernel_rfl) (by kernel_rfl) (by kernel_rfl) (by kernel_rfl) (fun _ _ _ h => h) (Or.inl ⟨by rfl, ?_⟩) hS ?_
            rotate_left
            · intro w hSw
              (try dsimp only at hSw)
              go_simp
              try (with_reducible rfl)
            simp only [Act.put]
            refine anyTill.take (i := 8) (v := ?_) rfl (by kernel_rfl) (by kernel_rfl) (by kernel_rfl) (by kernel_rfl) (by kernel_rfl) (fun _ _ _ h => h) (Or.inl ⟨by rfl, ?_⟩) hS ?_
            rotate_left
            · intro w hSw
              (try dsimp only at hSw)
              go_simp
              try (with_reducible rfl)
            simp only [Act.put]
            refine anyTill.take (i := 9) (v := ?_) rfl (by kernel_rfl) (by kernel_rfl) (by kernel_rfl) (by kernel_rfl) (by kernel_rfl) (fun _ _ _ h => h) (Or.inl ⟨by rfl, ?_⟩) hS ?_
            rotate_left
            · intro w hSw
              (try dsimp only at hSw)
              go_simp
              try (with_reducible rfl)
            simp only [Act.put]
            refine anyTill.take (i := 10) (v := ?_) rfl (by kernel_rfl) (by kernel_rfl) (by kernel_rfl) (by kernel_rfl) (by kernel_rfl) (fun _ _ _ h => h) (Or.inl ⟨by rfl, ?_⟩) hS ?_
            rotate_left
            · intro w hSw
              (try dsimp only at hSw)
              go_simp
              try (with_reducible rfl)
            simp only [Act.put]
            try simp only [List.set_cons_zero, List.set_cons_succ]
            refine anyTill.step (i := 11) rfl (by kernel_rfl) (fun K hK => ?_)
            go_simp
            refine (Times_any g0 g1 g2 P _ _ _ _ HG.out HFL.out HFR.out _).mono ?_
            rintro e w6 ⟨v, rfl, hb6, hF3⟩
            obtain ⟨ua, ub, uc, ud, rfl, -⟩ := id hF3
            have HFU : Hid (Four _ _) := hF3
            clear hF3 hS
            have KP6 := KP.drew.call hb6
            have NL6 := NL.drew.call hb6
            have NR6 := NR.drew.call hb6
            clear hb6 KP NL NR
            refine hK.out _ _ (fun _ => dotS_of KP6 NL6 NR6) ?_
            clear hK K
            try simp only [Act.put, List.setIfInBounds_toArray, List.set_cons_zero, List.set_cons_succ]
            refine anyTill.step (i := 12) rfl (by kernel_rfl) (fun K hK => ?_)
            go_simp
            refine (Plus_any g0 g1 g2 P _ _ _ _ HG.out HF.out HFU.out (dsum_lt HPOS.out _ _ _) (Nat.mod_lt _ HPOS.out) _).mono ?_
            rintro e w7 ⟨v, rfl, hb7, hF3⟩
            obtain ⟨va, vb, vc, vd, rfl, -⟩ := id hF3
            have HFV : Hid (Four _ (dsum P f h (i + 1))) := hF3
            clear hF3 HF HFU
            have KP7 := KP6.call hb7
            have NL7 := NL6.call hb7
            have NR7 := NR6.call hb7
            clear hb7 KP6 NL6 NR6
            refine hK.out _ _ (fun _ => dotS_of KP7 NL7 NR7) ?_
            clear hK K
            try simp only [Act.put, List.setIfInBounds_toArray, List.set_cons_zero, List.set_cons_succ]
            obtain ⟨tc0, tc1, tc2, tc3, tf⟩ := KP7.head.at4
            have zt := KP7.head.lt
            refine anyTill.step (i := 13) rfl (by kernel_rfl) (fun K hK => ?_)
            go_simp
            refine hK.out _ _ (fun h => Bool.noConfusion h) ?_
            clear hK K
            try simp only [Act.put, List.setIfInBounds_toArray, List.set_cons_zero, List.set_cons_succ]
            refine anyTill.done (by kernel_rfl) ?_ _
            clear tc0 tc1 tc2 tc3 tf zt
            go_wp2
            go_roundg (gk - 1)
            case measure => omega
            case rel =>
              rw [HFF.out.1, HFF.out.2]
              have K8 : Kept w w.heap.size [⟨ks, 0, a, b, c, d⟩, ⟨kp, 0, g0, g1, g2, 0⟩] w7 := ((Kept.mk1 KP7.bl KP7.le).cons KP7.tail.head).cons KP7.head
              exact ⟨i + 1, va, vb, vc, vd, by omega, rfl, K8.put QS.out (by intro x hx; rw [List.mem_singleton.1 hx]; exact nsp) va vb vc vd, NL7.other4 nsl _ _ _ _, NR7.other4 nsr _ _ _ _, HFV⟩
          · have hge : ¬ (i : Int) < (n : Int) := by omega
            have HIN : Hid (i = n) := by unfold Hid; omega
            obtain ⟨tc0, tc1, tc2, tc3, tf⟩ := KP0.head.at4
            have zt := KP0.head.lt
            go_wp2_with fail
            clear tc0 tc1 tc2 tc3 tf zt
            refine (bytes_of _ _ _ HF.out).mono ?_
            rintro e w8 ⟨v, rfl, hb8, hv⟩
            obtain ⟨g', x', y', z', u', rfl, h2⟩ := id hv
            clear h2
            rw [HIN.out] at hv
            have HV : Hid (IsBytes _ _ _ _) := hv
            clear hv
            go_wp2
            go_ret2
            exact ⟨_, rfl, KP0.bl.trans (hb8.mono KP0.le), Or.inl ⟨HL.out, HR.out, rfl, _, rfl, HV.out.mono KP0.le⟩⟩
      · have hnm' : ¬ (n : Int) = (m : Int) := by omega
        have HNM : Hid (¬ n = m) := hnm
        clear hnm
        go_wp2
        go_ret2
        exact ⟨_, rfl, KP.bl, Or.inr (Or.inl ⟨HL.out, HR.out, HNM.out, rfl⟩)⟩
    · have HN : Hid _ := hno
      clear hno
      go_wp2
      go_ret2
      exact ⟨_, rfl, KP.bl, Or.inr (Or.inr ⟨Or.inr HN.out, rfl⟩)⟩
  · have HN : Hid _ := hno
    clear hno
    go_wp2
    go_ret2
    exact ⟨_, rfl, KP.bl, Or.inr (Or.inr ⟨Or.inl HN.out, rfl⟩)⟩

set_option maxHeartbeats 1000000 in
theorem Dot_long (k : Int) (g0 g1 g2 n m ca cb : Nat) (qa qb : Option Addr) (w : World) (hn : 256 < n ∨ 256 < m) (hp : PrimeOf k g0 g1 g2) :
    Calls Try.prog 26 #[.int .i64 k, .slice qa n ca, .slice qb m cb] w (Ret fun e w' => Below w.heap.size w w' ∧ e = .tuple #[.slice none 0 0, .int .i64 1]) := by
  have HP : Hid (PrimeOf k g0 g1 g2) := hp
  clear hp
  by_cases h0 : 256 < n
  · have h0' : (256 : Int) < (n : Int) := by omega
    go_enter Try.func26, Try.ntmps26
    go_wp2_with fail
    refine (HP.out _).mono ?_
    rintro e w1 ⟨v, rfl, hb1, rfl⟩
    go_wp2
    go_ret2
    exact ⟨_, rfl, hb1.alloc hb1.size _, rfl⟩
  · have h0' : ¬ (256 : Int) < (n : Int) := by omega
    have h1' : (256 : Int) < (m : Int) := by omega
    go_enter Try.func26, Try.ntmps26
    go_wp2_with fail
    refine (HP.out _).mono ?_
    rintro e w1 ⟨v, rfl, hb1, rfl⟩
    go_wp2
    go_ret2
    exact ⟨_, rfl, hb1.alloc hb1.size _, rfl⟩
set_option maxHeartbeats 1000000 in
theorem Dot_no (k : Int) (hk : k < 0 ∨ 2 ≤ k) (va vb : Value) (w : World) :
    Calls Try.prog 26 #[.int .i64 k, va, vb] w (Ret fun e w' => Below w.heap.size w w' ∧ e = .tuple #[.slice none 0 0, .int .i64 2]) := by
  go_enter Try.func26, Try.ntmps26
  go_wp2_with fail
  refine (primeOf_n k hk _).mono ?_
  rintro e w1 ⟨v, rfl, hb1, rfl⟩
  go_wp2
  go_ret2
  exact ⟨_, rfl, hb1.alloc hb1.size _, rfl⟩
end Go.Proofs.Ytppdcphfphcbbab
