import Derived.Test.YtdeidgbknlmhjabR4
import Derived.Test.YtdeidgbknlmhjabJ8
import Derived.Test.YtdeidgbknlmhjabK2
import Derived.Deep.LoopGhost
import Derived.Deep.RegionHeld3
namespace Go.Proofs.Ytdeidgbknlmhjab
open Go.RowKit Go.Sort Go.Deep

theorem or_high (v t r : Nat) (hr : r < 64) (hv : v < 2 ^ r) (ht : t < 2) : bits .or .u64 (v : Int) ((t * 2 ^ r : Nat) : Int) = ((v + t * 2 ^ r : Nat) : Int) ∧ v + t * 2 ^ r < 18446744073709551616 := by
  have h1 : 2 ^ r ≤ 2 ^ 63 := Nat.pow_le_pow_right (by decide) (by omega)
  have h2 : t * 2 ^ r ≤ 1 * 2 ^ r := Nat.mul_le_mul_right _ (by omega)
  have h3 : (2 : Nat) ^ 63 = 9223372036854775808 := by decide
  have e := Nat.two_pow_add_eq_or_of_lt hv t
  refine ⟨?_, by omega⟩
  rw [bits_or_u64_nat _ _ (by omega) (by omega), Nat.or_comm, Nat.mul_comm t, ← e, Nat.add_comm]

/-- The word that gets a bit of a quarter is empty from there on. -/
theorem quart_word {a b c d Q i : Nat} (ha : a < 18446744073709551616) (hb : b < 18446744073709551616) (hc : c < 18446744073709551616) (hd : d < 18446744073709551616) (hi : i < 256) (hv : val a b c d = Q % 2 ^ i) : wd a b c d (i / 64) < 2 ^ (i % 64) := by
  rw [wd_eq (i / 64) (by omega) ha hb hc hd, hv]
  refine Nat.lt_of_le_of_lt (Nat.mod_le _ _) ?_
  refine Nat.div_lt_of_lt_mul ?_
  rw [← Nat.pow_add, show 64 * (i / 64) + i % 64 = i by omega]
  exact Nat.mod_lt _ (Nat.pow_pos (by decide))
theorem quart_step {a b c d Q i t o : Nat} (hi : i < 256) (hv : val a b c d = Q % 2 ^ i) (ht : t = Q / 2 ^ i % 2) (ho : o = wd a b c d (i / 64) + t * 2 ^ (i % 64)) :
    val (if i / 64 = 0 then o else a) (if i / 64 = 1 then o else b) (if i / 64 = 2 then o else c) (if i / 64 = 3 then o else d) = Q % 2 ^ (i + 1) := by
  have h := val_set a b c d (i / 64) o (by omega)
  have e : (2 : Nat) ^ i = 2 ^ (64 * (i / 64)) * 2 ^ (i % 64) := by
    rw [← Nat.pow_add, show 64 * (i / 64) + i % 64 = i by omega]
  rw [ho, Nat.mul_add, ← Nat.mul_assoc, Nat.mul_comm (2 ^ (64 * (i / 64))) t, Nat.mul_assoc, ← e] at h
  rw [ho, Nat.pow_succ, Nat.mod_mul, ← ht, Nat.mul_comm (2 ^ i)]
  omega

theorem sqS_of {w W : World} {k0 k1 k2 k3 j v p0 p1 p2 p3 c0 c1 c2 c3 a b c d qa qb qc qd : Nat} (h : Kept w k0 (⟨k3, 0, qa, qb, qc, qd⟩ :: [⟨k0, 0, p0, p1, p2, p3⟩, ⟨k0, 4, c0, c1, c2, c3⟩, ⟨k1, 0, a, b, c, d⟩, ⟨k2, 0, 0, 0, 0, 0⟩]) W) (hx : W.cell? ⟨k3, j, none⟩ = some (.int .u64 (v : Int))) : W.cell? ⟨k0, 0, none⟩ = some (.int .u64 (p0 : Int)) ∧ W.cell? ⟨k0, 1, none⟩ = some (.int .u64 (p1 : Int)) ∧ W.cell? ⟨k0, 2, none⟩ = some (.int .u64 (p2 : Int)) ∧ W.cell? ⟨k0, 3, none⟩ = some (.int .u64 (p3 : Int)) ∧ W.cell? ⟨k3, j, none⟩ = some (.int .u64 (v : Int)) ∧ Kept w k0 (⟨k3, 0, qa, qb, qc, qd⟩ :: [⟨k0, 0, p0, p1, p2, p3⟩, ⟨k0, 4, c0, c1, c2, c3⟩, ⟨k1, 0, a, b, c, d⟩, ⟨k2, 0, 0, 0, 0, 0⟩]) W :=
  ⟨h.tail.head.c0, h.tail.head.c1, h.tail.head.c2, h.tail.head.c3, hx, h⟩
theorem sqrS_of {w W : World} {k0 k1 k2 k8 p0 p1 p2 p3 c0 c1 c2 c3 a b c d ra rb rc rd : Nat} (h : Kept w k0 (⟨k8, 0, ra, rb, rc, rd⟩ :: [⟨k0, 0, p0, p1, p2, p3⟩, ⟨k0, 4, c0, c1, c2, c3⟩, ⟨k1, 0, a, b, c, d⟩, ⟨k2, 0, 0, 0, 0, 0⟩]) W) : W.cell? ⟨k0, 0, none⟩ = some (.int .u64 (p0 : Int)) ∧ W.cell? ⟨k0, 1, none⟩ = some (.int .u64 (p1 : Int)) ∧ W.cell? ⟨k0, 2, none⟩ = some (.int .u64 (p2 : Int)) ∧ W.cell? ⟨k0, 3, none⟩ = some (.int .u64 (p3 : Int)) ∧ W.cell? ⟨k0, 4, none⟩ = some (.int .u64 (c0 : Int)) ∧ W.cell? ⟨k0, 5, none⟩ = some (.int .u64 (c1 : Int)) ∧ W.cell? ⟨k0, 6, none⟩ = some (.int .u64 (c2 : Int)) ∧ W.cell? ⟨k0, 7, none⟩ = some (.int .u64 (c3 : Int)) ∧ W.cell? ⟨k8, 0, none⟩ = some (.int .u64 (ra : Int)) ∧ W.cell? ⟨k8, 1, none⟩ = some (.int .u64 (rb : Int)) ∧ W.cell? ⟨k8, 2, none⟩ = some (.int .u64 (rc : Int)) ∧ W.cell? ⟨k8, 3, none⟩ = some (.int .u64 (rd : Int)) ∧ W.cell? ⟨k1, 0, none⟩ = some (.int .u64 (a : Int)) ∧ W.cell? ⟨k1, 1, none⟩ = some (.int .u64 (b : Int)) ∧ W.cell? ⟨k1, 2, none⟩ = some (.int .u64 (c : Int)) ∧ W.cell? ⟨k1, 3, none⟩ = some (.int .u64 (d : Int)) ∧ Kept w k0 (⟨k8, 0, ra, rb, rc, rd⟩ :: [⟨k0, 0, p0, p1, p2, p3⟩, ⟨k0, 4, c0, c1, c2, c3⟩, ⟨k1, 0, a, b, c, d⟩, ⟨k2, 0, 0, 0, 0, 0⟩]) W :=
  ⟨h.tail.head.c0, h.tail.head.c1, h.tail.head.c2, h.tail.head.c3, h.tail.tail.head.c0, h.tail.tail.head.c1, h.tail.tail.head.c2, h.tail.tail.head.c3, h.head.c0, h.head.c1, h.head.c2, h.head.c3, h.tail.tail.tail.head.c0, h.tail.tail.tail.head.c1, h.tail.tail.tail.head.c2, h.tail.tail.tail.head.c3, h⟩

set_option maxHeartbeats 8000000 in
set_option maxRecDepth 100000 in
theorem rSqrt_any (p0 p1 p2 p3 c0 c1 c2 c3 P : Nat) (x : Value) (m : Nat) (hR : RefP p0 p1 p2 p3 c0 c1 c2 c3 P) (hP1 : P / 4 % 18446744073709551616 < 18446744073709551615) (hx : Four x m) (w : World) :
    Calls Try.prog 24 #[.agg #[.int .u64 (p0 : Int), .int .u64 (p1 : Int), .int .u64 (p2 : Int), .int .u64 (p3 : Int), .int .u64 (c0 : Int), .int .u64 (c1 : Int), .int .u64 (c2 : Int), .int .u64 (c3 : Int)], x] w (Ret fun e w' => Below w.heap.size w w' ∧ RootR P m (m ^ (P / 4 + 1) % P) e) := by
  obtain ⟨a, b, c, d, rfl, ha, hb, hc, hd, em⟩ := id hx
  have HX : Hid (Four _ m) := hx
  have HR : Hid (RefP p0 p1 p2 p3 c0 c1 c2 c3 P) := hR
  have HP1 : Hid (P / 4 % 18446744073709551616 < 18446744073709551615) := hP1
  have HP4 : Hid (Four (.agg #[.int .u64 (p0 : Int), .int .u64 (p1 : Int), .int .u64 (p2 : Int), .int .u64 (p3 : Int)]) P) := Four.mk hR.hp0 hR.hp1 hR.hp2 hR.hp3 hR.eP
  obtain ⟨R, hRe⟩ : ∃ R, m ^ (P / 4 + 1) % P = R := ⟨_, rfl⟩
  have hRP : R < P := by
    rw [← hRe]
    refine Nat.mod_lt _ ?_
    have := hR.hP2
    omega
  rw [hRe]
  have HRE : Hid (m ^ (P / 4 + 1) % P = R) := hRe
  have HRP : Hid (R < P) := hRP
  clear em hx ha hb hc hd hR hRe hRP hP1
  go_enter Try.func24, Try.ntmps24
  go_wp2
  have K0 := keptF2 w p0 p1 p2 p3 c0 c1 c2 c3 a b c d
  have K1 := (K0.alloc (.cells #[.int .u64 0, .int .u64 0, .int .u64 0, .int .u64 0] 33)).cons (At4.made _ 33 0 0 0 0 rfl).blk
  have hz : (((w.alloc (.cells #[.int .u64 (p0 : Int), .int .u64 (p1 : Int), .int .u64 (p2 : Int), .int .u64 (p3 : Int), .int .u64 (c0 : Int), .int .u64 (c1 : Int), .int .u64 (c2 : Int), .int .u64 (c3 : Int)] 35)).alloc (.cells #[.int .u64 (a : Int), .int .u64 (b : Int), .int .u64 (c : Int), .int .u64 (d : Int)] 33)).alloc (.cells #[.int .u64 0, .int .u64 0, .int .u64 0, .int .u64 0] 33)).heap.size = w.heap.size + 1 + 1 + 1 := by simp
  rw [hz] at K1
  clear K0 hz
  generalize World.alloc _ _ = W0 at K1 ⊢
  generalize h3 : w.heap.size + 1 + 1 + 1 = k3 at K1 ⊢
  generalize h2 : w.heap.size + 1 + 1 = k2 at K1 ⊢
  generalize h1 : w.heap.size + 1 = k1 at K1 ⊢
  have Q2 : Hid (w.heap.size ≤ k2) := by unfold Hid; omega
  have Q3 : Hid (w.heap.size ≤ k3) := by unfold Hid; omega
  generalize h0 : w.heap.size = k0 at K1 Q2 Q3 ⊢
  have H0 : Hid (w.heap.size = k0) := h0
  have n30 : k3 ≠ k0 := by omega
  have n31 : k3 ≠ k1 := by omega
  have n32 : k3 ≠ k2 := by omega
  clear h0 h1 h2 h3
  have hl3 : ∀ x ∈ ([⟨k0, 0, p0, p1, p2, p3⟩, ⟨k0, 4, c0, c1, c2, c3⟩, ⟨k1, 0, a, b, c, d⟩, ⟨k2, 0, 0, 0, 0, 0⟩] : List Blk), k3 ≠ x.k := by simp only [List.mem_cons, List.not_mem_nil, or_false]; rintro x (rfl | rfl | rfl | rfl); exact n30; exact n30; exact n31; exact n32
  go_loopg [7] 254 (fun gk s7 wr => ∃ i qa qb qc qd : Nat, i + gk = 254 ∧ s7 = .int .i64 (i : Int) ∧ Kept w k0 (⟨k3, 0, qa, qb, qc, qd⟩ :: [⟨k0, 0, p0, p1, p2, p3⟩, ⟨k0, 4, c0, c1, c2, c3⟩, ⟨k1, 0, a, b, c, d⟩, ⟨k2, 0, 0, 0, 0, 0⟩]) wr ∧ Hid (Four (.agg #[.int .u64 (qa : Int), .int .u64 (qb : Int), .int .u64 (qc : Int), .int .u64 (qd : Int)]) (P / 4 % 2 ^ i)))
  case atStart =>
    refine ⟨0, 0, 0, 0, 0, rfl, rfl, K1, ?_⟩
    rw [Nat.pow_zero, Nat.mod_one]
    exact Four.mk (by decide) (by decide) (by decide) (by decide) rfl
  case round =>
    clear K1
    obtain ⟨i, qa, qb, qc, qd, hi, rfl, KP, HF⟩ := hrel
    by_cases hlt : i < 254
    · have hF : val qa qb qc qd = P / 4 % 2 ^ i ∧ qa < 18446744073709551616 ∧ qb < 18446744073709551616 ∧ qc < 18446744073709551616 ∧ qd < 18446744073709551616 := by
        obtain ⟨a', b', c', d', e', h1, h2, h3, h4, h5⟩ := HF.out
        obtain ⟨rfl, rfl, rfl, rfl⟩ : a' = qa ∧ b' = qb ∧ c' = qc ∧ d' = qd := by
          simp only [Value.agg.injEq, Array.mk.injEq, List.cons.injEq, Value.int.injEq, true_and, and_true, Int.ofNat_inj] at e'
          exact ⟨e'.1.symm, e'.2.1.symm, e'.2.2.1.symm, e'.2.2.2.symm⟩
        exact ⟨h5.symm, h1, h2, h3, h4⟩
      have hwl := quart_word hF.2.1 hF.2.2.1 hF.2.2.2.1 hF.2.2.2.2 (i := i) (by omega) hF.1
      have xw := KP.head.at4.wd (i / 64) (by omega)
      obtain ⟨t, ht⟩ : ∃ t, P / 2 ^ (i + 2) % 2 = t := ⟨_, rfl⟩
      have ht2 : t < 2 := by omega
      have htq : t = P / 4 / 2 ^ i % 2 := by rw [← ht, Nat.div_div_eq_div_mul, show 4 * 2 ^ i = 2 ^ (i + 2) by rw [Nat.pow_add, Nat.mul_comm]]
      obtain ⟨o, ho⟩ : ∃ o, wd qa qb qc qd (i / 64) + t * 2 ^ (i % 64) = o := ⟨_, rfl⟩
      have hst := quart_step (i := i) (by omega) hF.1 htq ho.symm
      obtain ⟨hor, hol⟩ := or_high _ t (i % 64) (by omega) hwl ht2
      rw [ho] at hor hol
      have HST : Hid (Four (.agg #[.int .u64 ((if i / 64 = 0 then o else qa : Nat) : Int), .int .u64 ((if i / 64 = 1 then o else qb : Nat) : Int), .int .u64 ((if i / 64 = 2 then o else qc : Nat) : Int), .int .u64 ((if i / 64 = 3 then o else qd : Nat) : Int)]) (P / 4 % 2 ^ (i + 1))) := by
        refine Four.mk ?_ ?_ ?_ ?_ hst.symm
        · split; exact hol; exact hF.2.1
        · split; exact hol; exact hF.2.2.1
        · split; exact hol; exact hF.2.2.2.1
        · split; exact hol; exact hF.2.2.2.2
      obtain ⟨y, hy⟩ : ∃ y, t * 2 ^ (i % 64) = y := ⟨_, rfl⟩
      have hyl : y < 18446744073709551616 := by omega
      rw [hy] at hor
      obtain ⟨v, hv⟩ : ∃ v, wd qa qb qc qd (i / 64) = v := ⟨_, rfl⟩
      rw [hv] at hor xw
      obtain ⟨j, hj⟩ : ∃ j, i / 64 = j := ⟨_, rfl⟩
      obtain ⟨r, hr⟩ : ∃ r, i % 64 = r := ⟨_, rfl⟩
      obtain ⟨i2, hi2⟩ : ∃ i2, i + 2 = i2 := ⟨_, rfl⟩
      rw [hj] at xw HST
      have hsh : IntKind.u64.wrap ((t : Int) * 2 ^ r) = (y : Int) := by
        rw [← hr, ← hy, Int.natCast_mul, Int.natCast_pow]
        have := wrapN (t * 2 ^ (i % 64)) (by omega)
        rw [Int.natCast_mul, Int.natCast_pow] at this
        exact this
      have HBT : Hid (∀ w, Calls Try.prog 65 #[.agg #[.int .u64 (p0 : Int), .int .u64 (p1 : Int), .int .u64 (p2 : Int), .int .u64 (p3 : Int)], .int .i64 (i2 : Int)] w (Ret fun e w' => Below w.heap.size w w' ∧ ∃ t : Nat, e = .int .u64 (t : Int) ∧ t = P / 2 ^ i2 % 2)) := fun w => rBit_any _ P i2 HP4.out (by omega) w
      have HT : Hid (P / 2 ^ i2 % 2 = t) := by unfold Hid; rw [← hi2]; exact ht
      have e1 : (i : Int).tdiv 64 = (j : Int) := by rw [Int.tdiv_eq_ediv_of_nonneg (by omega)]; omega
      have e2 : (i : Int).tmod 64 = (r : Int) := by rw [Int.tmod_eq_emod_of_nonneg (by omega)]; omega
      have e3 : (j : Int) < 4 := by omega
      have e4 : IntKind.i64.wrap (j : Int) = (j : Int) := wrap_i _ (by omega)
      have e5 : IntKind.i64.wrap (r : Int) = (r : Int) := wrap_i _ (by omega)
      have e6 : (i : Int) + 2 = (i2 : Int) := by omega
      have e7 : IntKind.i64.wrap (i2 : Int) = (i2 : Int) := wrap_i _ (by omega)
      have e8 : (r : Int) < 64 := by omega
      have e9 : r < 64 := by omega
      have hlt' : (i : Int) < 254 := by omega
      have T1 := fun W (h : At4 W k3 qa qb qc qd) => At4.setq h j o (by omega)
      have hj4 : j < 4 := by omega
      have XJ := fun W (h : At4 W k3 qa qb qc qd) => At4.wd h j hj4
      rw [← hj, hv, hj] at XJ
      have HJ : Hid (j < 4) := hj4
      clear hy hv hj hr ho hst hF ht htq hwl hi2 HF hj4
      go_upto_region 5 with fail
      refine anyTill.begin (fun w' => w'.cell? ⟨k0, 0, none⟩ = some (.int .u64 (p0 : Int)) ∧ w'.cell? ⟨k0, 1, none⟩ = some (.int .u64 (p1 : Int)) ∧ w'.cell? ⟨k0, 2, none⟩ = some (.int .u64 (p2 : Int)) ∧ w'.cell? ⟨k0, 3, none⟩ = some (.int .u64 (p3 : Int)) ∧ w'.cell? ⟨k3, j, none⟩ = some (.int .u64 (v : Int)) ∧ Kept w k0 (⟨k3, 0, qa, qb, qc, qd⟩ :: [⟨k0, 0, p0, p1, p2, p3⟩, ⟨k0, 4, c0, c1, c2, c3⟩, ⟨k1, 0, a, b, c, d⟩, ⟨k2, 0, 0, 0, 0, 0⟩]) w') 16 mixed (sqS_of KP.drew (XJ _ KP.head.at4.drew)) (fun hS => ?_)
      refine anyTill.take (i := 0) (v := ?_) rfl (by kernel_rfl) (by kernel_rfl) (by kernel_rfl) (by kernel_rfl) (by kernel_rfl) (fun _ _ _ h => h) (Or.inl ⟨by rfl, ?_⟩) hS ?_
      rotate_left
      · intro w hSw
        (try dsimp only at hSw)
        go_simp
        try (with_reducible rfl)
      simp only [Act.put, List.setIfInBounds_toArray]
      refine anyTill.take (i := 1) (v := ?_) rfl (by kernel_rfl) (by kernel_rfl) (by kernel_rfl) (by kernel_rfl) (by kernel_rfl) (fun _ _ _ h => h) (Or.inl ⟨by rfl, ?_⟩) hS ?_
      rotate_left
      · intro w hSw
        (try dsimp only at hSw)
        go_simp
        try (with_reducible rfl)
      simp only [Act.put]
      refine anyTill.take (i := 2) (v := ?_) rfl (by kernel_rfl) (by kernel_rfl) (by kernel_rfl) (by kernel_rfl) (by kernel_rfl) (fun _ _ _ h => h) (Or.inl ⟨by rfl, ?_⟩) hS ?_
      rotate_left
      · intro w hSw
        (try dsimp only at hSw)
        go_simp
        try (with_reducible rfl)
      simp only [Act.put]
      refine anyTill.take (i := 3) (v := ?_) rfl (by kernel_rfl) (by kernel_rfl) (by kernel_rfl) (by kernel_rfl) (by kernel_rfl) (fun _ _ _ h => h) (Or.inl ⟨by rfl, ?_⟩) hS ?_
      rotate_left
      · intro w hSw
        (try dsimp only at hSw)
        go_simp
        try (with_reducible rfl)
      simp only [Act.put]
      refine anyTill.take (i := 4) (v := ?_) rfl (by kernel_rfl) (by kernel_rfl) (by kernel_rfl) (by kernel_rfl) (by kernel_rfl) (fun _ _ _ h => h) (Or.inl ⟨by rfl, ?_⟩) hS ?_
      rotate_left
      · intro w hSw
        (try dsimp only at hSw)
        go_simp
        try (with_reducible rfl)
      simp only [Act.put]
      refine anyTill.take (i := 5) (v := ?_) rfl (by kernel_rfl) (by kernel_rfl) (by kernel_rfl) (by kernel_rfl) (by kernel_rfl) (fun _ _ _ h => h) (Or.inl ⟨by rfl, ?_⟩) hS ?_
      rotate_left
      · intro w hSw
        (try dsimp only at hSw)
        go_simp
        try (with_reducible rfl)
      simp only [Act.put]
      refine anyTill.take (i := 6) (v := ?_) rfl (by kernel_rfl) (by kernel_rfl) (by kernel_rfl) (by kernel_rfl) (by kernel_rfl) (fun _ _ _ h => h) (Or.inl ⟨by rfl, ?_⟩) hS ?_
      rotate_left
      · intro w hSw
        (try dsimp only at hSw)
        go_simp
        try (with_reducible rfl)
      simp only [Act.put]
      refine anyTill.take (i := 7) (v := ?_) rfl (by kernel_rfl) (by kernel_rfl) (by kernel_rfl) (by kernel_rfl) (by kernel_rfl) (fun _ _ _ h => h) (Or.inl ⟨by rfl, ?_⟩) hS ?_
      rotate_left
      · intro w hSw
        (try dsimp only at hSw)
        go_simp
        try (with_reducible rfl)
      simp only [Act.put]
      refine anyTill.take (i := 8) (v := ?_) rfl (by kernel_rfl) (by kernel_rfl) (by kernel_rfl) (by kernel_rfl) (by kernel_rfl) (fun _ _ _ h => h) (Or.inl ⟨by rfl, ?_⟩) hS ?_
      rotate_left
      · intro w hSw
        (try dsimp only at hSw)
        go_simp
        try (with_reducible rfl)
      simp only [Act.put]
      refine anyTill.take (i := 9) (v := ?_) rfl (by kernel_rfl) (by kernel_rfl) (by kernel_rfl) (by kernel_rfl) (by kernel_rfl) (fun _ _ _ h => h) (Or.inl ⟨by rfl, ?_⟩) hS ?_
      rotate_left
      · intro w hSw
        (try dsimp only at hSw)
        go_simp
        try (with_reducible rfl)
      simp only [Act.put]
      refine anyTill.take (i := 11) (v := ?_) rfl (by kernel_rfl) (by kernel_rfl) (by kernel_rfl) (by kernel_rfl) (by kernel_rfl) (fun _ _ _ h => h) (Or.inl ⟨by rfl, ?_⟩) hS ?_
      rotate_left
      · intro w hSw
        (try dsimp only at hSw)
        go_simp
        try (with_reducible rfl)
      simp only [Act.put]
      refine anyTill.take (i := 12) (v := ?_) rfl (by kernel_rfl) (by kernel_rfl) (by kernel_rfl) (by kernel_rfl) (by kernel_rfl) (fun _ _ _ h => h) (Or.inl ⟨by rfl, ?_⟩) hS ?_
      rotate_left
      · intro w hSw
        (try dsimp only at hSw)
        go_simp
        try (with_reducible rfl)
      simp only [Act.put]
      try simp only [List.set_cons_zero, List.set_cons_succ]
      refine anyTill.step (i := 10) rfl (by kernel_rfl) (fun K hK => ?_)
      go_simp
      refine (HBT.out _).mono ?_
      rintro e w1 ⟨v', rfl, hb1, t', rfl, ht'⟩
      rw [HT.out] at ht'
      subst ht'
      clear hS
      have KP1 := KP.drew.call hb1
      clear hb1 KP
      refine hK.out _ _ (fun _ => sqS_of KP1 (XJ _ KP1.head.at4)) ?_
      clear hK K
      try simp only [Act.put, List.setIfInBounds_toArray, List.set_cons_zero, List.set_cons_succ]
      have cj := XJ _ KP1.head.at4
      have cf := KP1.head.f
      have cz := KP1.head.lt
      refine anyTill.step (i := 13) rfl (by kernel_rfl) (fun K hK => ?_)
      go_simp
      refine hK.out _ _ (fun _ => sqS_of KP1 (XJ _ KP1.head.at4)) ?_
      clear hK K
      try simp only [Act.put, List.setIfInBounds_toArray, List.set_cons_zero, List.set_cons_succ]
      refine anyTill.step (i := 14) rfl (by kernel_rfl) (fun K hK => ?_)
      go_simp
      refine hK.out _ _ (fun _ => sqS_of KP1 (XJ _ KP1.head.at4)) ?_
      clear hK K
      try simp only [Act.put, List.setIfInBounds_toArray, List.set_cons_zero, List.set_cons_succ]
      refine anyTill.step (i := 15) rfl (by kernel_rfl) (fun K hK => ?_)
      go_simp
      refine hK.out _ _ (fun _ => sqS_of KP1 (XJ _ KP1.head.at4)) ?_
      clear hK K
      try simp only [Act.put, List.setIfInBounds_toArray, List.set_cons_zero, List.set_cons_succ]
      refine anyTill.step (i := 16) rfl (by kernel_rfl) (fun K hK => ?_)
      go_simp
      refine hK.out _ _ (fun h => Bool.noConfusion h) ?_
      clear hK K
      try simp only [Act.put, List.setIfInBounds_toArray, List.set_cons_zero, List.set_cons_succ]
      refine anyTill.done (by kernel_rfl) ?_ _
      clear cj cf cz
      go_wp2
      go_roundg (gk - 1)
      case measure => omega
      case rel =>
        refine ⟨i + 1, _, _, _, _, by omega, rfl, ?_, HST⟩
        exact (KP1.tail.set (j := k3) (i := j) Q3.out hl3 _).cons (T1 _ KP1.head.at4).blk
    · have hi254 : i = 254 := by omega
      subst hi254
      have hF := HF.out
      have hPt := HP4.out.lt
      rw [Nat.mod_eq_of_lt (show P / 4 < 2 ^ 254 by unfold top at hPt; omega)] at hF
      have hq : val qa qb qc qd = P / 4 ∧ qa < 18446744073709551615 ∧ qb < 18446744073709551616 ∧ qc < 18446744073709551616 ∧ qd < 18446744073709551616 := by
        obtain ⟨a', b', c', d', e', h1, h2, h3, h4, h5⟩ := hF
        obtain ⟨rfl, rfl, rfl, rfl⟩ : a' = qa ∧ b' = qb ∧ c' = qc ∧ d' = qd := by
          simp only [Value.agg.injEq, Array.mk.injEq, List.cons.injEq, Value.int.injEq, true_and, and_true, Int.ofNat_inj] at e'
          exact ⟨e'.1.symm, e'.2.1.symm, e'.2.2.1.symm, e'.2.2.2.symm⟩
        refine ⟨h5.symm, ?_, h2, h3, h4⟩
        have h6 := HP1.out
        rw [h5] at h6
        unfold val at h6
        omega
      obtain ⟨qe, hqe'⟩ : ∃ qe, qa + 1 = qe := ⟨_, rfl⟩
      have HE : Hid (Four (.agg #[.int .u64 (qe : Int), .int .u64 (qb : Int), .int .u64 (qc : Int), .int .u64 (qd : Int)]) (P / 4 + 1)) := by
        refine Four.mk (by omega) hq.2.2.1 hq.2.2.2.1 hq.2.2.2.2 ?_
        rw [← hq.1, ← hqe']; unfold val; omega
      have hadd : (qa : Int) + 1 = (qe : Int) := by omega
      have hw := wrapN qe (by omega)
      clear hq hF hPt HF hqe'
      obtain ⟨qc0, qc1, qc2, qc3, qf⟩ := KP.head.at4
      have zq := KP.head.lt
      obtain ⟨xc0, xc1, xc2, xc3, xf⟩ := KP.tail.tail.tail.head.at4
      have zx := KP.tail.tail.tail.head.lt
      obtain ⟨fc0, fc1, fc2, fc3, ff⟩ := KP.tail.head.at4
      have fb := KP.tail.tail.head
      have fd0 : wr.cell? ⟨k0, 4, none⟩ = some (.int .u64 (c0 : Int)) := fb.c0
      have fd1 : wr.cell? ⟨k0, 5, none⟩ = some (.int .u64 (c1 : Int)) := fb.c1
      have fd2 : wr.cell? ⟨k0, 6, none⟩ = some (.int .u64 (c2 : Int)) := fb.c2
      have fd3 : wr.cell? ⟨k0, 7, none⟩ = some (.int .u64 (c3 : Int)) := fb.c3
      have zf := KP.tail.head.lt
      go_wp2_with fail
      clear qc0 qc1 qc2 qc3 qf zq xc0 xc1 xc2 xc3 xf zx fc0 fc1 fc2 fc3 ff fb fd0 fd1 fd2 fd3 zf
      have KP2 := KP.tail.set (j := k3) (i := 0) Q3.out hl3 (.int .u64 (qe : Int))
      clear KP
      generalize World.setCell _ _ _ = WS at KP2 ⊢
      refine (rPow_any p0 p1 p2 p3 c0 c1 c2 c3 P _ _ _ _ HR.out HX.out HE.out _).mono ?_
      rintro e w3 ⟨v, rfl, hb3, hF⟩
      have K := KP2.call hb3
      clear hb3 KP2 HE hadd hw
      obtain ⟨ra, rb, rc, rd, rfl, -⟩ := id hF
      rw [HRE.out] at hF
      have HF : Hid (Four _ R) := hF
      clear hF
      go_upto_region 8 with fail
      have KP : Kept w k0 (⟨w3.heap.size, 0, ra, rb, rc, rd⟩ :: [⟨k0, 0, p0, p1, p2, p3⟩, ⟨k0, 4, c0, c1, c2, c3⟩, ⟨k1, 0, a, b, c, d⟩, ⟨k2, 0, 0, 0, 0, 0⟩]) _ := (K.alloc (.cells #[.int .u64 (ra : Int), .int .u64 (rb : Int), .int .u64 (rc : Int), .int .u64 (rd : Int)] 33)).cons (At4.made w3 33 ra rb rc rd rfl).blk
      have n80 : w3.heap.size ≠ k0 := Nat.ne_of_gt K.head.lt
      have n81 : w3.heap.size ≠ k1 := Nat.ne_of_gt K.tail.tail.head.lt
      have n82 : w3.heap.size ≠ k2 := Nat.ne_of_gt K.tail.tail.tail.head.lt
      have Q8 : Hid (k0 ≤ w3.heap.size) := K.le
      clear K
      generalize World.alloc _ _ = W4 at KP ⊢
      generalize w3.heap.size = k8 at KP n80 n81 n82 Q8 ⊢
      by_cases heq : R * R % P = m
      · have hsame := same_R a b c d
        go_region_held3 (fun w' => w'.cell? ⟨k0, 0, none⟩ = some (.int .u64 (p0 : Int)) ∧ w'.cell? ⟨k0, 1, none⟩ = some (.int .u64 (p1 : Int)) ∧ w'.cell? ⟨k0, 2, none⟩ = some (.int .u64 (p2 : Int)) ∧ w'.cell? ⟨k0, 3, none⟩ = some (.int .u64 (p3 : Int)) ∧ w'.cell? ⟨k0, 4, none⟩ = some (.int .u64 (c0 : Int)) ∧ w'.cell? ⟨k0, 5, none⟩ = some (.int .u64 (c1 : Int)) ∧ w'.cell? ⟨k0, 6, none⟩ = some (.int .u64 (c2 : Int)) ∧ w'.cell? ⟨k0, 7, none⟩ = some (.int .u64 (c3 : Int)) ∧ w'.cell? ⟨k8, 0, none⟩ = some (.int .u64 (ra : Int)) ∧ w'.cell? ⟨k8, 1, none⟩ = some (.int .u64 (rb : Int)) ∧ w'.cell? ⟨k8, 2, none⟩ = some (.int .u64 (rc : Int)) ∧ w'.cell? ⟨k8, 3, none⟩ = some (.int .u64 (rd : Int)) ∧ w'.cell? ⟨k1, 0, none⟩ = some (.int .u64 (a : Int)) ∧ w'.cell? ⟨k1, 1, none⟩ = some (.int .u64 (b : Int)) ∧ w'.cell? ⟨k1, 2, none⟩ = some (.int .u64 (c : Int)) ∧ w'.cell? ⟨k1, 3, none⟩ = some (.int .u64 (d : Int)) ∧ Kept w k0 (⟨k8, 0, ra, rb, rc, rd⟩ :: [⟨k0, 0, p0, p1, p2, p3⟩, ⟨k0, 4, c0, c1, c2, c3⟩, ⟨k1, 0, a, b, c, d⟩, ⟨k2, 0, 0, 0, 0, 0⟩]) w') (first | (with_reducible exact sqrS_of KP) | (with_reducible exact sqrS_of KP.drew) | fail) (first | (go_at_call 20; refine (rMul_R HR.out HF.out HF.out _).mono ?_; rintro e w5 ⟨v, rfl, hb1, hF3⟩; rw [heq] at hF3; obtain rfl := hF3.inj HX.out; clear hF3; (first | (with_reducible (have KP1 := KP.drew.call hb1)) | (with_reducible (have KP1 := KP.call hb1)) | fail); clear KP hb1; have KP := KP1; clear KP1))
        have HEQ : Hid (R * R % P = m) := heq
        clear heq
        rename_i hHeld
        clear hHeld
        obtain ⟨ra', rb', rc', rd', e', hra, -⟩ := id HF.out
        obtain ⟨rfl, -⟩ : ra' = ra ∧ True := by
          simp only [Value.agg.injEq, Array.mk.injEq, List.cons.injEq, Value.int.injEq, true_and, and_true, Int.ofNat_inj] at e'
          exact ⟨e'.1.symm, trivial⟩
        clear e'
        have hodd2 : R % 2 = ra' % 2 := by
          obtain ⟨x1, x2, x3, x4, e', -, -, -, -, h5⟩ := id HF.out
          simp only [Value.agg.injEq, Array.mk.injEq, List.cons.injEq, Value.int.injEq, true_and, and_true, Int.ofNat_inj] at e'
          rw [h5, ← e'.1]
          unfold val
          omega
        have hand := and_one ra' hra
        obtain ⟨tc0, tc1, tc2, tc3, tf⟩ := KP.head.at4
        have zt := KP.head.lt
        obtain ⟨uc0, uc1, uc2, uc3, uf⟩ := KP.tail.tail.tail.tail.head.at4
        have zu := KP.tail.tail.tail.tail.head.lt
        have h2 : ra' % 2 = 0 ∨ ra' % 2 = 1 := by omega
        rcases h2 with h | h
        · rw [h] at hand hodd2
          have HF8 : Hid (Four (.agg #[.int .u64 (ra' : Int), .int .u64 (rb : Int), .int .u64 (rc : Int), .int .u64 (rd : Int)]) (even P R)) := by
            have h1 : even P R = R := by unfold even; rw [if_neg (by omega)]
            unfold Hid
            rw [h1]
            exact HF.out
          clear h hodd2 hra
          go_wp2
          have RF := KP.tail.tail.tail.tail.head.at4.self4 ra' rb rc rd
          unfold set4 at RF
          refine bodyPost_ret (v := ?v) ?hr rfl ?hR
          case hr => simp [results, Try.results24, go_sem, RF.c0, RF.c1, RF.c2, RF.c3]; rfl
          refine ⟨_, rfl, ?_, RootR.yes HEQ.out HF8.out⟩
          rw [H0.out]
          exact below_set4 KP.bl Q2.out _ _ _ _
        · rw [h] at hand hodd2
          have HO : Hid (R % 2 = 1) := hodd2
          clear h hodd2 hra
          obtain ⟨fc0, fc1, fc2, fc3, ff⟩ := KP.tail.head.at4
          have fb := KP.tail.tail.head
          have fd0 : w5.cell? ⟨k0, 4, none⟩ = some (.int .u64 (c0 : Int)) := fb.c0
          have fd1 : w5.cell? ⟨k0, 5, none⟩ = some (.int .u64 (c1 : Int)) := fb.c1
          have fd2 : w5.cell? ⟨k0, 6, none⟩ = some (.int .u64 (c2 : Int)) := fb.c2
          have fd3 : w5.cell? ⟨k0, 7, none⟩ = some (.int .u64 (c3 : Int)) := fb.c3
          have zf := KP.tail.head.lt
          go_wp2_with fail
          clear tc0 tc1 tc2 tc3 tf zt uc0 uc1 uc2 uc3 uf zu fc0 fc1 fc2 fc3 ff fb fd0 fd1 fd2 fd3 zf hand
          refine (rNeg_any p0 p1 p2 p3 c0 c1 c2 c3 P _ _ HR.out HF.out HRP.out _).mono ?_
          rintro e w8 ⟨v, rfl, hb8, hF8⟩
          obtain ⟨sa, sb, sc, sd, rfl, -⟩ := id hF8
          have HF8 : Hid (Four (.agg #[.int .u64 (sa : Int), .int .u64 (sb : Int), .int .u64 (sc : Int), .int .u64 (sd : Int)]) (even P R)) := by
            have h1 : (P - R) % P = even P R := by
              unfold even
              rw [if_pos HO.out]
              exact Nat.mod_eq_of_lt (by have := HRP.out; have := HO.out; omega)
            unfold Hid
            rw [← h1]
            exact hF8
          replace KP := KP.call hb8
          clear hb8 hF8
          obtain ⟨tc0, tc1, tc2, tc3, tf⟩ := KP.head.at4
          have zt := KP.head.lt
          obtain ⟨uc0, uc1, uc2, uc3, uf⟩ := KP.tail.tail.tail.tail.head.at4
          have zu := KP.tail.tail.tail.tail.head.lt
          go_wp2
          have RF := (KP.tail.tail.tail.tail.head.at4.other4 n82 (.int .u64 (sa : Int)) (.int .u64 (sb : Int)) (.int .u64 (sc : Int)) (.int .u64 (sd : Int))).self4 sa sb sc sd
          unfold set4 at RF
          refine bodyPost_ret (v := ?v2) ?hr2 rfl ?hR2
          case hr2 => simp [results, Try.results24, go_sem, RF.c0, RF.c1, RF.c2, RF.c3]; rfl
          refine ⟨_, rfl, ?_, RootR.yes HEQ.out HF8.out⟩
          rw [H0.out]
          exact below_set4 (below_set4 KP.bl Q8.out _ _ _ _) Q2.out _ _ _ _
      · go_region_held3 (fun w' => w'.cell? ⟨k0, 0, none⟩ = some (.int .u64 (p0 : Int)) ∧ w'.cell? ⟨k0, 1, none⟩ = some (.int .u64 (p1 : Int)) ∧ w'.cell? ⟨k0, 2, none⟩ = some (.int .u64 (p2 : Int)) ∧ w'.cell? ⟨k0, 3, none⟩ = some (.int .u64 (p3 : Int)) ∧ w'.cell? ⟨k0, 4, none⟩ = some (.int .u64 (c0 : Int)) ∧ w'.cell? ⟨k0, 5, none⟩ = some (.int .u64 (c1 : Int)) ∧ w'.cell? ⟨k0, 6, none⟩ = some (.int .u64 (c2 : Int)) ∧ w'.cell? ⟨k0, 7, none⟩ = some (.int .u64 (c3 : Int)) ∧ w'.cell? ⟨k8, 0, none⟩ = some (.int .u64 (ra : Int)) ∧ w'.cell? ⟨k8, 1, none⟩ = some (.int .u64 (rb : Int)) ∧ w'.cell? ⟨k8, 2, none⟩ = some (.int .u64 (rc : Int)) ∧ w'.cell? ⟨k8, 3, none⟩ = some (.int .u64 (rd : Int)) ∧ w'.cell? ⟨k1, 0, none⟩ = some (.int .u64 (a : Int)) ∧ w'.cell? ⟨k1, 1, none⟩ = some (.int .u64 (b : Int)) ∧ w'.cell? ⟨k1, 2, none⟩ = some (.int .u64 (c : Int)) ∧ w'.cell? ⟨k1, 3, none⟩ = some (.int .u64 (d : Int)) ∧ Kept w k0 (⟨k8, 0, ra, rb, rc, rd⟩ :: [⟨k0, 0, p0, p1, p2, p3⟩, ⟨k0, 4, c0, c1, c2, c3⟩, ⟨k1, 0, a, b, c, d⟩, ⟨k2, 0, 0, 0, 0, 0⟩]) w') (first | (with_reducible exact sqrS_of KP) | (with_reducible exact sqrS_of KP.drew) | fail) (first | (go_at_call 20; refine (rMul_R HR.out HF.out HF.out _).mono ?_; rintro e w5 ⟨v, rfl, hb1, hF3⟩; obtain ⟨ta, tb, tc, td, rfl, hne⟩ := four_ne hF3 HX.out heq; have hoth := other_R hne; clear hF3; (first | (with_reducible (have KP1 := KP.drew.call hb1)) | (with_reducible (have KP1 := KP.call hb1)) | fail); clear KP hb1; have KP := KP1; clear KP1))
        have HEQ : Hid (¬ R * R % P = m) := heq
        clear heq
        rename_i hHeld
        clear hHeld
        obtain ⟨uc0, uc1, uc2, uc3, uf⟩ := KP.tail.tail.tail.tail.head.at4
        have zu := KP.tail.tail.tail.tail.head.lt
        go_wp2
        have RF : At4 (set4 w5 k2 (.int .u64 0) (.int .u64 0) (.int .u64 0) (.int .u64 0)) k2 0 0 0 0 := KP.tail.tail.tail.tail.head.at4.self4 0 0 0 0
        unfold set4 at RF
        refine bodyPost_ret (v := ?v3) ?hr3 rfl ?hR3
        case hr3 => simp [results, Try.results24, go_sem, RF.c0, RF.c1, RF.c2, RF.c3]; rfl
        refine ⟨_, rfl, ?_, RootR.no HEQ.out⟩
        rw [H0.out]
        exact below_set4 KP.bl Q2.out _ _ _ _
end Go.Proofs.Ytdeidgbknlmhjab
