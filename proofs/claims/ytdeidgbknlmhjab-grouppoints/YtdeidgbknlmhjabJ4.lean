import Derived.Test.YtdeidgbknlmhjabQ0
import Derived.Test.YtdeidgbknlmhjabK1
import Derived.Deep.LoopGhost
import Derived.Laws.BitsLemmas
namespace Go.Proofs.Ytdeidgbknlmhjab
open Go.RowKit Go.Sort

theorem At4.wd {w : World} {k a b c d : Nat} (h : At4 w k a b c d) (q : Nat) (hq : q < 4) : w.cell? ⟨k, q, none⟩ = some (.int .u64 (wd a b c d q : Int)) := by
  have h' : q = 0 ∨ q = 1 ∨ q = 2 ∨ q = 3 := by omega
  rcases h' with rfl | rfl | rfl | rfl
  · exact h.c0
  · exact h.c1
  · exact h.c2
  · exact h.c3

theorem wrap_i (n : Nat) (h : n < 9223372036854775808) : IntKind.i64.wrap (n : Int) = (n : Int) := by rw [IntKind.wrap_i64]; omega

theorem or_bit (b t : Nat) (hb : b < 4294967296) (ht : t < 2) : bits .or .i64 ((2 * b : Nat) : Int) (t : Int) = ((2 * b + t : Nat) : Int) := by
  rw [(bits_nat .i64 40 (by decide) (fun n h0 h1 => by rw [IntKind.wrap_i64]; omega) (2 * b) t (by omega) (by omega)).2]
  have := Nat.two_pow_add_eq_or_of_lt (i := 1) (b := t) (by omega) b
  rw [show 2 ^ 1 * b = 2 * b from rfl] at this
  rw [← this]

theorem and_one (v : Nat) (hv : v < 18446744073709551616) : bits .and .u64 (v : Int) 1 = ((v % 2 : Nat) : Int) := by
  have := bits_and_u64_nat v 1 hv (by omega)
  rw [show v &&& 1 = v % 2 from Nat.and_one_is_mod v] at this
  exact this

theorem bits_start {m f c g : Nat} (hm : m < top) (h : g = c ∨ f + g = 256) : m / 2 ^ (f + g) % 2 ^ (c - g) = 0 := by
  rcases h with rfl | h
  · rw [Nat.sub_self, Nat.pow_zero, Nat.mod_one]
  · rw [h, Nat.div_eq_of_lt (by exact hm), Nat.zero_mod]

theorem bits_next {m f g c : Nat} (hg : 0 < g) (hc : g ≤ c) : m / 2 ^ (f + (g - 1)) % 2 ^ (c - (g - 1)) = 2 * (m / 2 ^ (f + g) % 2 ^ (c - g)) + m / 2 ^ (f + (g - 1)) % 2 := by
  rw [show c - (g - 1) = c - g + 1 by omega, bit_step, show f + (g - 1) + 1 = f + g by omega]

set_option maxHeartbeats 2000000 in
set_option maxRecDepth 100000 in
theorem Bits_any (x : Value) (m f c : Nat) (hx : Four x m) (hf : f ≤ 256) (hc : c ≤ 32) (w : World) :
    Calls Try.prog 112 #[x, .int .i64 (f : Int), .int .i64 (c : Int)] w (Ret fun e w' => Below w.heap.size w w' ∧ e = .int .i64 ((m / 2 ^ f % 2 ^ c : Nat) : Int)) := by
  obtain ⟨x0, x1, x2, x3, rfl, hx0, hx1, hx2, hx3, em⟩ := id hx
  have HX : Hid (Four _ m) := hx
  have HL : Hid (x0 < 18446744073709551616 ∧ x1 < 18446744073709551616 ∧ x2 < 18446744073709551616 ∧ x3 < 18446744073709551616 ∧ m = val x0 x1 x2 x3) := ⟨hx0, hx1, hx2, hx3, em⟩
  clear hx hx0 hx1 hx2 hx3 em
  have HM : Hid (m < top) := HX.out.lt
  clear HX
  obtain ⟨R, hR⟩ : ∃ R, m / 2 ^ f % 2 ^ c = R := ⟨_, rfl⟩
  have HR : Hid (m / 2 ^ f % 2 ^ c = R) := hR
  rw [hR]
  clear hR
  by_cases hle : (f : Int) + (c : Int) ≤ 256
  · have hle2 : ¬ (256 : Int) < (f : Int) + (c : Int) := by omega
    go_enter Try.func112, Try.ntmps112
    go_wp2
    have X := At4.made w 85 x0 x1 x2 x3 rfl
    have BL : Hid (Below w.heap.size w _) := below1 w (.cells #[.int .u64 (x0 : Int), .int .u64 (x1 : Int), .int .u64 (x2 : Int), .int .u64 (x3 : Int)] 85)
    generalize World.alloc _ _ = W0 at X BL ⊢
    go_loopg [7, 8] (c) (fun gk s7 s8 wr => gk ≤ c ∧ f + gk ≤ 256 ∧ s7 = .int .i64 ((m / 2 ^ (f + gk) % 2 ^ (c - gk) : Nat) : Int) ∧ s8 = .int .i64 ((f : Int) + (gk : Int) - 1) ∧ W0 = wr)
    case atStart => exact ⟨by omega, by omega, by rw [bits_start HM.out (Or.inl rfl)]; rfl, by congr 1 <;> omega, rfl⟩
    case round =>
      obtain ⟨hg1, hg2, rfl, rfl, rfl⟩ := hrel
      by_cases hz : gk = 0
      · subst hz
        have d1 : ¬ (f : Int) ≤ (f : Int) + ((0 : Nat) : Int) - 1 := by omega
        rw [Nat.add_zero, Nat.sub_zero, HR.out]
        go_wp2
        go_ret
        exact ⟨_, rfl, BL.out, rfl⟩
      · obtain ⟨i, hi⟩ : ∃ i, f + (gk - 1) = i := ⟨_, rfl⟩
        have e1 : (f : Int) + (gk : Int) - 1 = (i : Int) := by omega
        have d1 : (f : Int) ≤ (i : Int) := by omega
        have hi2 : i < 256 := by omega
        have xw := X.wd (i / 64) (by omega)
        have hwl : wd x0 x1 x2 x3 (i / 64) < 18446744073709551616 := wd_lt _ HL.out.1 HL.out.2.1 HL.out.2.2.1 HL.out.2.2.2.1
        have hbit : wd x0 x1 x2 x3 (i / 64) / 2 ^ (i % 64) % 2 = m / 2 ^ i % 2 := by rw [HL.out.2.2.2.2]; exact wd_bit i hi2 HL.out.1 HL.out.2.1 HL.out.2.2.1 HL.out.2.2.2.1
        have i2 : (i : Int).tdiv 64 = ((i / 64 : Nat) : Int) := by rw [Int.tdiv_eq_ediv_of_nonneg (by omega)]; omega
        have i3 : (i : Int).tmod 64 = ((i % 64 : Nat) : Int) := by rw [Int.tmod_eq_emod_of_nonneg (by omega)]; omega
        have i4 : (i / 64 : Nat) < 4 := by omega
        generalize wd x0 x1 x2 x3 (i / 64) = v at xw hwl hbit
        have hvl : v / 2 ^ (i % 64) < 18446744073709551616 := Nat.lt_of_le_of_lt (Nat.div_le_self _ _) hwl
        have hand : bits .and .u64 ((v : Int) / 2 ^ (i % 64)) 1 = ((m / 2 ^ i % 2 : Nat) : Int) := by
          have := and_one (v / 2 ^ (i % 64)) hvl
          rw [hbit] at this
          rw [← this, Int.natCast_ediv, Int.natCast_pow]
          rfl
        obtain ⟨t, ht⟩ : ∃ t, m / 2 ^ i % 2 = t := ⟨_, rfl⟩
        have ht2 : t < 2 := by omega
        have hN := bits_next (m := m) (f := f) (g := gk) (c := c) (by omega) hg1
        rw [hi, ht] at hN
        have hbl : m / 2 ^ (f + gk) % 2 ^ (c - gk) < 4294967296 := Nat.lt_of_lt_of_le (Nat.mod_lt _ (Nat.pow_pos (by decide))) (show 2 ^ (c - gk) ≤ 2 ^ 32 from Nat.pow_le_pow_right (by decide) (by omega))
        rw [ht] at hand
        generalize m / 2 ^ (f + gk) % 2 ^ (c - gk) = B at hN hbl ⊢
        have hor := or_bit B t hbl ht2
        have hsh : IntKind.i64.wrap ((B : Int) * 2) = ((2 * B : Nat) : Int) := by rw [show (B : Int) * 2 = ((2 * B : Nat) : Int) by omega]; exact wrap_i _ (by omega)
        have hct : IntKind.i64.wrap (t : Int) = (t : Int) := wrap_i _ (by omega)
        have HN : Hid (_ = _) := hN
        have HI : Hid (f + (gk - 1) = i) := hi
        have zx := X.lt
        clear hN hi hbit ht hvl
        rw [e1]
        clear e1
        go_wp2
        go_roundg (gk - 1)
        case measure => omega
        case rel =>
          refine ⟨by omega, by omega, ?_, ?_, rfl⟩
          · rw [HI.out, HN.out, ← hor, Int.natCast_mul]; rfl
          · congr 1; have := HI.out; omega
  · have hlt : (256 : Int) < (f : Int) + (c : Int) := by omega
    go_enter Try.func112, Try.ntmps112
    go_wp2
    have X := At4.made w 85 x0 x1 x2 x3 rfl
    have BL : Hid (Below w.heap.size w _) := below1 w (.cells #[.int .u64 (x0 : Int), .int .u64 (x1 : Int), .int .u64 (x2 : Int), .int .u64 (x3 : Int)] 85)
    generalize World.alloc _ _ = W0 at X BL ⊢
    go_loopg [7, 8] (256 - f) (fun gk s7 s8 wr => gk ≤ c ∧ f + gk ≤ 256 ∧ s7 = .int .i64 ((m / 2 ^ (f + gk) % 2 ^ (c - gk) : Nat) : Int) ∧ s8 = .int .i64 ((f : Int) + (gk : Int) - 1) ∧ W0 = wr)
    case atStart => exact ⟨by omega, by omega, by rw [bits_start HM.out (Or.inr (by omega))]; rfl, by congr 1 <;> omega, rfl⟩
    case round =>
      obtain ⟨hg1, hg2, rfl, rfl, rfl⟩ := hrel
      by_cases hz : gk = 0
      · subst hz
        have d1 : ¬ (f : Int) ≤ (f : Int) + ((0 : Nat) : Int) - 1 := by omega
        rw [Nat.add_zero, Nat.sub_zero, HR.out]
        go_wp2
        go_ret
        exact ⟨_, rfl, BL.out, rfl⟩
      · obtain ⟨i, hi⟩ : ∃ i, f + (gk - 1) = i := ⟨_, rfl⟩
        have e1 : (f : Int) + (gk : Int) - 1 = (i : Int) := by omega
        have d1 : (f : Int) ≤ (i : Int) := by omega
        have hi2 : i < 256 := by omega
        have xw := X.wd (i / 64) (by omega)
        have hwl : wd x0 x1 x2 x3 (i / 64) < 18446744073709551616 := wd_lt _ HL.out.1 HL.out.2.1 HL.out.2.2.1 HL.out.2.2.2.1
        have hbit : wd x0 x1 x2 x3 (i / 64) / 2 ^ (i % 64) % 2 = m / 2 ^ i % 2 := by rw [HL.out.2.2.2.2]; exact wd_bit i hi2 HL.out.1 HL.out.2.1 HL.out.2.2.1 HL.out.2.2.2.1
        have i2 : (i : Int).tdiv 64 = ((i / 64 : Nat) : Int) := by rw [Int.tdiv_eq_ediv_of_nonneg (by omega)]; omega
        have i3 : (i : Int).tmod 64 = ((i % 64 : Nat) : Int) := by rw [Int.tmod_eq_emod_of_nonneg (by omega)]; omega
        have i4 : (i / 64 : Nat) < 4 := by omega
        generalize wd x0 x1 x2 x3 (i / 64) = v at xw hwl hbit
        have hvl : v / 2 ^ (i % 64) < 18446744073709551616 := Nat.lt_of_le_of_lt (Nat.div_le_self _ _) hwl
        have hand : bits .and .u64 ((v : Int) / 2 ^ (i % 64)) 1 = ((m / 2 ^ i % 2 : Nat) : Int) := by
          have := and_one (v / 2 ^ (i % 64)) hvl
          rw [hbit] at this
          rw [← this, Int.natCast_ediv, Int.natCast_pow]
          rfl
        obtain ⟨t, ht⟩ : ∃ t, m / 2 ^ i % 2 = t := ⟨_, rfl⟩
        have ht2 : t < 2 := by omega
        have hN := bits_next (m := m) (f := f) (g := gk) (c := c) (by omega) hg1
        rw [hi, ht] at hN
        have hbl : m / 2 ^ (f + gk) % 2 ^ (c - gk) < 4294967296 := Nat.lt_of_lt_of_le (Nat.mod_lt _ (Nat.pow_pos (by decide))) (show 2 ^ (c - gk) ≤ 2 ^ 32 from Nat.pow_le_pow_right (by decide) (by omega))
        rw [ht] at hand
        generalize m / 2 ^ (f + gk) % 2 ^ (c - gk) = B at hN hbl ⊢
        have hor := or_bit B t hbl ht2
        have hsh : IntKind.i64.wrap ((B : Int) * 2) = ((2 * B : Nat) : Int) := by rw [show (B : Int) * 2 = ((2 * B : Nat) : Int) by omega]; exact wrap_i _ (by omega)
        have hct : IntKind.i64.wrap (t : Int) = (t : Int) := wrap_i _ (by omega)
        have HN : Hid (_ = _) := hN
        have HI : Hid (f + (gk - 1) = i) := hi
        have zx := X.lt
        clear hN hi hbit ht hvl
        rw [e1]
        clear e1
        go_wp2
        go_roundg (gk - 1)
        case measure => omega
        case rel =>
          refine ⟨by omega, by omega, ?_, ?_, rfl⟩
          · rw [HI.out, HN.out, ← hor, Int.natCast_mul]; rfl
          · congr 1; have := HI.out; omega
end Go.Proofs.Ytdeidgbknlmhjab
