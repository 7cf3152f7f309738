import Derived.Test.YtdeidgbknlmhjabJ4
import Derived.Test.YtdeidgbknlmhjabE7
import Derived.Test.YtdeidgbknlmhjabH3
namespace Go.Proofs.Ytdeidgbknlmhjab
open Go.RowKit Go.Sort Go.Deep

theorem At4.setq {w : World} {k a b c d : Nat} (h : At4 w k a b c d) (q o : Nat) (hq : q < 4) :
    At4 (w.setCell ⟨k, q, none⟩ (.int .u64 (o : Int))) k (if q = 0 then o else a) (if q = 1 then o else b) (if q = 2 then o else c) (if q = 3 then o else d) := by
  have h' : q = 0 ∨ q = 1 ∨ q = 2 ∨ q = 3 := by omega
  rcases h' with rfl | rfl | rfl | rfl
  · exact h.set0 o
  · exact h.set1 o
  · exact h.set2 o
  · exact h.set3 o

theorem of_word {a b c d M k B : Nat} (ha : a < 18446744073709551616) (hb : b < 18446744073709551616) (hc : c < 18446744073709551616) (hd : d < 18446744073709551616) (hk : k < 32) (hB : B < 256) (hv : val a b c d = M * 256 ^ (k + 1)) :
    bits .or .u64 (wd a b c d (k / 8) : Int) ((B * 2 ^ (8 * (k % 8)) : Nat) : Int) = ((wd a b c d (k / 8) + B * 2 ^ (8 * (k % 8)) : Nat) : Int) ∧ wd a b c d (k / 8) + B * 2 ^ (8 * (k % 8)) < 18446744073709551616 := by
  have h1 : wd a b c d (k / 8) = 256 ^ (k % 8 + 1) * (M % 256 ^ (7 - k % 8)) := by
    rw [wd_eq (k / 8) (by omega) ha hb hc hd, hv, of_div rfl rfl]
  obtain ⟨h2, h3⟩ := of_or (y := M % 256 ^ (7 - k % 8)) (x := B) (r := k % 8) (by omega) hB (Nat.mod_lt _ (Nat.pow_pos (by decide)))
  rw [h1]
  refine ⟨?_, h3⟩
  rw [bits_or_u64_nat _ _ (by omega) (by omega), h2]

theorem of_step {a b c d k B o : Nat} (hk : k < 32) (ho : o = wd a b c d (k / 8) + B * 2 ^ (8 * (k % 8))) :
    val (if k / 8 = 0 then o else a) (if k / 8 = 1 then o else b) (if k / 8 = 2 then o else c) (if k / 8 = 3 then o else d) = val a b c d + B * 256 ^ k := by
  have h := val_set a b c d (k / 8) o (by omega)
  have e : (256 : Nat) ^ k = 2 ^ (64 * (k / 8)) * 2 ^ (8 * (k % 8)) := by
    rw [← Nat.pow_add, show 64 * (k / 8) + 8 * (k % 8) = 8 * k by omega, Nat.pow_mul]
  rw [ho, Nat.mul_add, ← Nat.mul_assoc, Nat.mul_comm (2 ^ (64 * (k / 8))) B, Nat.mul_assoc, ← e] at h
  rw [ho]
  omega

theorem beV_next (s : ByteArray) (i : Nat) (hi : i < s.size) : beV (s.data.extract 0 (i + 1)).toList = beV (s.data.extract 0 i).toList * 256 + s[i].toNat := by
  have e : (s.data.extract 0 (i + 1)).toList = (s.data.extract 0 i).toList ++ [s[i]] := by
    rw [Array.extract_succ_right (by omega) hi, Array.toList_push]
    rfl
  rw [e, beV_append]
  simp [beV]

set_option maxHeartbeats 4000000 in
set_option maxRecDepth 100000 in
theorem rOf_any (s : ByteArray) (hs : s.size = 32) (w : World) :
    Calls Try.prog 53 #[.string s] w (Ret fun e w' => Below w.heap.size w w' ∧ Four e (beV s.data.toList)) := by
  go_enter Try.func53, Try.ntmps53
  go_wp2
  have KP := ((Kept.mk1 (below2 w (.cells #[.int .u64 0, .int .u64 0, .int .u64 0, .int .u64 0] 33) (.cells #[.int .u64 0, .int .u64 0, .int .u64 0, .int .u64 0] 33)) (below2 w _ _).size).cons ((At4.made w 33 0 0 0 0 rfl).alloc (.cells #[.int .u64 0, .int .u64 0, .int .u64 0, .int .u64 0] 33)).blk).cons (At4.made (w.alloc (.cells #[.int .u64 0, .int .u64 0, .int .u64 0, .int .u64 0] 33)) 33 0 0 0 0 (World.size_alloc _ _)).blk
  generalize World.alloc _ _ = W0 at KP ⊢
  generalize h1 : w.heap.size + 1 = k1 at KP ⊢
  have n10 : k1 ≠ w.heap.size := by omega
  have Q1 : Hid (w.heap.size ≤ k1) := by unfold Hid; omega
  clear h1
  go_loopg [4] 32 (fun gk s4 wr => ∃ i a b c d : Nat, i + gk = 32 ∧ s4 = .int .i64 (i : Int) ∧ Kept w w.heap.size [⟨k1, 0, a, b, c, d⟩, ⟨w.heap.size, 0, 0, 0, 0, 0⟩] wr ∧ Hid (Four (.agg #[.int .u64 (a : Int), .int .u64 (b : Int), .int .u64 (c : Int), .int .u64 (d : Int)]) (beV (s.data.extract 0 i).toList * 256 ^ (32 - i))))
  case atStart =>
    refine ⟨0, 0, 0, 0, 0, rfl, rfl, KP, ?_⟩
    have : beV (s.data.extract 0 0).toList = 0 := by simp [beV]
    rw [this, Nat.zero_mul]
    exact Four.mk (by decide) (by decide) (by decide) (by decide) rfl
  case round =>
    clear KP
    obtain ⟨i, a, b, c, d, hi, rfl, KP, HF⟩ := hrel
    by_cases hlt : i < 32
    · obtain ⟨k, hk⟩ : ∃ k, 31 - i = k := ⟨_, rfl⟩
      have hk32 : k < 32 := by omega
      have hi32 : i < s.size := by omega
      have hF : val a b c d = beV (s.data.extract 0 i).toList * 256 ^ (k + 1) ∧ a < 18446744073709551616 ∧ b < 18446744073709551616 ∧ c < 18446744073709551616 ∧ d < 18446744073709551616 := by
        obtain ⟨a', b', c', d', e', h1, h2, h3, h4, h5⟩ := HF.out
        obtain ⟨rfl, rfl, rfl, rfl⟩ : a' = a ∧ b' = b ∧ c' = c ∧ d' = d := by
          simp only [Value.agg.injEq, Array.mk.injEq, List.cons.injEq, Value.int.injEq, true_and, and_true, Int.ofNat_inj] at e'
          exact ⟨e'.1.symm, e'.2.1.symm, e'.2.2.1.symm, e'.2.2.2.symm⟩
        exact ⟨by rw [← h5, show 32 - i = k + 1 by omega], h1, h2, h3, h4⟩
      obtain ⟨B, hB⟩ : ∃ B, s[i].toNat = B := ⟨_, rfl⟩
      have hB256 : B < 256 := hB ▸ s[i].toNat_lt
      have hsb : IntKind.u64.wrap (s[i].toNat : Int) = (B : Int) := by rw [hB]; exact wrapN _ (by omega)
      obtain ⟨hor, hol⟩ := of_word hF.2.1 hF.2.2.1 hF.2.2.2.1 hF.2.2.2.2 hk32 hB256 hF.1
      have xw := KP.head.at4.wd (k / 8) (by omega)
      obtain ⟨o, ho⟩ : ∃ o, wd a b c d (k / 8) + B * 2 ^ (8 * (k % 8)) = o := ⟨_, rfl⟩
      rw [ho] at hor hol
      have hst := of_step (a := a) (b := b) (c := c) (d := d) hk32 ho.symm
      have HST : Hid (Four (.agg #[.int .u64 ((if k / 8 = 0 then o else a : Nat) : Int), .int .u64 ((if k / 8 = 1 then o else b : Nat) : Int), .int .u64 ((if k / 8 = 2 then o else c : Nat) : Int), .int .u64 ((if k / 8 = 3 then o else d : Nat) : Int)]) (beV (s.data.extract 0 (i + 1)).toList * 256 ^ (32 - (i + 1)))) := by
        refine Four.mk ?_ ?_ ?_ ?_ ?_
        · split; exact hol; exact hF.2.1
        · split; exact hol; exact hF.2.2.1
        · split; exact hol; exact hF.2.2.2.1
        · split; exact hol; exact hF.2.2.2.2
        · rw [hst, hF.1, beV_next s i hi32, hB, show 32 - (i + 1) = k by omega, Nat.add_mul, Nat.pow_succ, Nat.mul_assoc, Nat.mul_comm (256 ^ k) 256]
      obtain ⟨y, hy⟩ : ∃ y, B * 2 ^ (8 * (k % 8)) = y := ⟨_, rfl⟩
      have hyl : y < 18446744073709551616 := by omega
      rw [hy] at hor
      obtain ⟨v, hv⟩ : ∃ v, wd a b c d (k / 8) = v := ⟨_, rfl⟩
      rw [hv] at hor xw
      obtain ⟨q, hq⟩ : ∃ q, k / 8 = q := ⟨_, rfl⟩
      obtain ⟨r, hr⟩ : ∃ r, k % 8 = r := ⟨_, rfl⟩
      obtain ⟨t, ht⟩ : ∃ t, 8 * r = t := ⟨_, rfl⟩
      have hq4 : q < 4 := by omega
      have PT := fun (v : Value) => KP.tail.set (j := k1) (i := q) Q1.out (by simp only [List.mem_cons, List.not_mem_nil, or_false]; rintro x rfl; exact n10) v
      rw [hq] at xw HST
      have hsh : IntKind.u64.wrap ((B : Int) * 2 ^ t) = (y : Int) := by
        rw [← ht, ← hr, ← hy, Int.natCast_mul, Int.natCast_pow]
        have := wrapN (B * 2 ^ (8 * (k % 8))) (by omega)
        rw [Int.natCast_mul, Int.natCast_pow] at this
        exact this
      have i1 : (31 : Int) - (i : Int) = (k : Int) := by omega
      have i2 : (k : Int).tdiv 8 = (q : Int) := by rw [Int.tdiv_eq_ediv_of_nonneg (by omega)]; omega
      have i3 : (k : Int).tmod 8 = (r : Int) := by rw [Int.tmod_eq_emod_of_nonneg (by omega)]; omega
      have i4 : (q : Int) < 4 := by omega
      have i5 : IntKind.i64.wrap (q : Int) = (q : Int) := wrap_i _ (by omega)
      have i6 : IntKind.i64.wrap (r : Int) = (r : Int) := wrap_i _ (by omega)
      have i7 : (8 : Int) * (r : Int) = (t : Int) := by omega
      have i8 : IntKind.i64.wrap (t : Int) = (t : Int) := wrap_i _ (by omega)
      have i9 : t < 64 := by omega
      have i10 : (t : Int) < 64 := by omega
      have hlt' : (i : Int) < 32 := by omega
      have T1 := KP.head.at4.setq q o hq4
      have z1 := KP.head.lt
      have xf := KP.head.f
      have HSB : Hid (s[i].toNat = B) := hB
      have H4 : Hid (q < 4) := hq4
      clear hy hv hq hr ht ho hst hF hB HF
      go_wp2
      go_region
      go_wp2
      go_roundg (gk - 1)
      case measure => omega
      case rel =>
        refine ⟨i + 1, _, _, _, _, by omega, rfl, ?_, HST⟩
        exact ((PT _).cons T1.blk).drew
    · have hi32 : i = 32 := by omega
      subst hi32
      have hse : s.data.extract 0 32 = s.data := by
        have h2 : s.data.size = 32 := hs
        rw [← h2]
        exact Array.extract_size
      have h1 := HF.out
      rw [Nat.sub_self, Nat.pow_zero, Nat.mul_one, hse] at h1
      have HFE : Hid (Four _ _) := h1
      clear h1 hse
      obtain ⟨nc0, nc1, nc2, nc3, nf⟩ := KP.head.at4
      obtain ⟨rc0, rc1, rc2, rc3, rf⟩ := KP.tail.head.at4
      have z1 := KP.head.lt
      have z0 := KP.tail.head.lt
      clear HF
      go_wp2
      have RF := KP.tail.head.at4.self4 a b c d
      unfold set4 at RF
      refine bodyPost_ret (v := ?v) ?hr rfl ?hR
      case hr => simp [results, Try.results53, go_sem, RF.c0, RF.c1, RF.c2, RF.c3]; rfl
      exact ⟨_, rfl, below_set4 KP.bl (Nat.le_refl _) _ _ _ _, HFE.out⟩
end Go.Proofs.Ytdeidgbknlmhjab
