import Derived.Test.YtdeidgbknlmhjabB1
namespace Go.Proofs.Ytdeidgbknlmhjab
open Go.RowKit Go.Sort

/-- It returned a value, of which something holds. -/
def Ret (Q : Value → World → Prop) (e : Ending) (w : World) : Prop := ∃ v, e = .returned v ∧ Q v w

theorem below1 (w : World) (o1 : Obj) : Below w.heap.size w (w.alloc o1) := (Below.refl _ _).alloc (Nat.le_refl _) o1
theorem below2 (w : World) (o1 o2 : Obj) : Below w.heap.size w ((w.alloc o1).alloc o2) := (below1 w o1).alloc (by simp) o2
theorem below3 (w : World) (o1 o2 o3 : Obj) : Below w.heap.size w (((w.alloc o1).alloc o2).alloc o3) := (below2 w o1 o2).alloc (by simp; omega) o3
theorem below4 (w : World) (o1 o2 o3 o4 : Obj) : Below w.heap.size w ((((w.alloc o1).alloc o2).alloc o3).alloc o4) := (below3 w o1 o2 o3).alloc (by simp; omega) o4

set_option maxHeartbeats 1000000 in
theorem plus_any (x y : Value) (m n : Nat) (hx : Four x m) (hy : Four y n) (w : World) :
    Calls Try.prog 109 #[x, y] w (Ret fun e w' => Below w.heap.size w w' ∧ ∃ (v : Value) (s k : Nat), e = .tuple #[v, .int .u64 (k : Int)] ∧ Four v s ∧ k ≤ 1 ∧ s + top * k = m + n) := by
  obtain ⟨a, b, c, d, rfl, ha, hb, hc, hd, em⟩ := hx
  obtain ⟨p, q, r, s, rfl, hp, hq, hr, hs, en⟩ := hy
  obtain ⟨s0, k0, a0, hs0, hk0, e0⟩ := add64z a p ha hp
  obtain ⟨s1, k1, a1, hs1, hk1, e1⟩ := add64 b q k0 hb hq hk0
  obtain ⟨s2, k2, a2, hs2, hk2, e2⟩ := add64 c r k1 hc hr hk1
  obtain ⟨s3, k3, a3, hs3, hk3, e3⟩ := add64 d s k2 hd hs hk2
  have hv : val s0 s1 s2 s3 + top * k3 = m + n := by rw [em, en]; unfold val top; omega
  clear e0 e1 e2 e3 em en
  go_enter Try.func109, Try.ntmps109
  go_wp2_with (first | simp only [a0] | simp only [a1] | simp only [a2] | simp only [a3])
  refine bodyPost_ret (v := ?v) ?hr rfl ?hR
  case hr => simp [results, Try.results109, go_sem]; rfl
  exact ⟨_, rfl, below3 _ _ _ _, _, _, k3, rfl, Four.mk hs0 hs1 hs2 hs3 rfl, hk3, hv⟩

set_option maxHeartbeats 1000000 in
theorem minus_any (x y : Value) (m n : Nat) (hx : Four x m) (hy : Four y n) (w : World) :
    Calls Try.prog 110 #[x, y] w (Ret fun e w' => Below w.heap.size w w' ∧ ∃ (v : Value) (s k : Nat), e = .tuple #[v, .int .u64 (k : Int)] ∧ Four v s ∧ k ≤ 1 ∧ s + n = m + top * k) := by
  obtain ⟨a, b, c, d, rfl, ha, hb, hc, hd, em⟩ := hx
  obtain ⟨p, q, r, s, rfl, hp, hq, hr, hs, en⟩ := hy
  obtain ⟨s0, k0, a0, hs0, hk0, e0⟩ := sub64z a p ha hp
  obtain ⟨s1, k1, a1, hs1, hk1, e1⟩ := sub64 b q k0 hb hq hk0
  obtain ⟨s2, k2, a2, hs2, hk2, e2⟩ := sub64 c r k1 hc hr hk1
  obtain ⟨s3, k3, a3, hs3, hk3, e3⟩ := sub64 d s k2 hd hs hk2
  have hv : val s0 s1 s2 s3 + n = m + top * k3 := by rw [em, en]; unfold val top; omega
  clear e0 e1 e2 e3 em en
  go_enter Try.func110, Try.ntmps110
  go_wp2_with (first | simp only [a0] | simp only [a1] | simp only [a2] | simp only [a3])
  refine bodyPost_ret (v := ?v) ?hr rfl ?hR
  case hr => simp [results, Try.results110, go_sem]; rfl
  exact ⟨_, rfl, below3 _ _ _ _, _, _, k3, rfl, Four.mk hs0 hs1 hs2 hs3 rfl, hk3, hv⟩

theorem four_any (x : Value) (m : Nat) (hx : Four x m) (w : World) :
    Calls Try.prog 84 #[x] w (Ret fun e w' => Below w.heap.size w w' ∧ e = x) := by
  obtain ⟨a, b, c, d, rfl, ha, hb, hc, hd, em⟩ := hx
  clear em
  go_enter Try.func84, Try.ntmps84
  go_wp2
  refine bodyPost_ret (v := ?v) ?hr rfl ?hR
  case hr => simp [results, Try.results84, go_sem]; rfl
  exact ⟨_, rfl, below2 _ _ _, rfl⟩

theorem number_any (x : Value) (m : Nat) (hx : Four x m) (w : World) :
    Calls Try.prog 85 #[x] w (Ret fun e w' => Below w.heap.size w w' ∧ e = x) := by
  obtain ⟨a, b, c, d, rfl, ha, hb, hc, hd, em⟩ := hx
  clear em
  go_enter Try.func85, Try.ntmps85
  go_wp2
  refine bodyPost_ret (v := ?v) ?hr rfl ?hR
  case hr => simp [results, Try.results85, go_sem]; rfl
  exact ⟨_, rfl, below2 _ _ _, rfl⟩

theorem mul_val (x a b c d : Nat) : x * val a b c d = val (x * a) (x * b) (x * c) (x * d) := by
  unfold val
  rw [Nat.mul_add, Nat.mul_add, Nat.mul_add, Nat.mul_left_comm x _ b, Nat.mul_left_comm x _ c, Nat.mul_left_comm x _ d]

theorem row_sum {x a b c d p q r s l0 l1 l2 l3 h0 h1 h2 h3 m n : Nat} (em : m = val a b c d) (en : n = val p q r s)
    (e0 : l0 + 18446744073709551616 * h0 = x * a + p + 0) (e1 : l1 + 18446744073709551616 * h1 = x * b + q + h0)
    (e2 : l2 + 18446744073709551616 * h2 = x * c + r + h1) (e3 : l3 + 18446744073709551616 * h3 = x * d + s + h2) :
    l0 + 18446744073709551616 * val l1 l2 l3 h3 = x * m + n := by
  rw [em, en, mul_val x a b c d]
  generalize x * a = xa at *
  generalize x * b = xb at *
  generalize x * c = xc at *
  generalize x * d = xd at *
  unfold val
  omega

set_option maxHeartbeats 1000000 in
theorem row_any (x : Nat) (y z : Value) (m n : Nat) (hx : x < 18446744073709551616) (hy : Four y m) (hz : Four z n) (w : World) :
    Calls Try.prog 111 #[.int .u64 (x : Int), y, z] w (Ret fun e w' => Below w.heap.size w w' ∧ ∃ (l : Nat) (v : Value) (s : Nat), e = .tuple #[.int .u64 (l : Int), v] ∧ l < 18446744073709551616 ∧ Four v s ∧ l + 18446744073709551616 * s = x * m + n) := by
  obtain ⟨a, b, c, d, rfl, ha, hb, hc, hd, em⟩ := hy
  obtain ⟨p, q, r, s, rfl, hp, hq, hr, hs, en⟩ := hz
  go_enter Try.func111, Try.ntmps111
  go_wp2_with fail
  refine (cell_any x a p 0 hx ha hp (by decide) _).mono ?_
  rintro e w1 ⟨rfl, l0, h0, rfl, hh0, hl0, e0⟩
  go_wp2_with fail
  refine (cell_any x b q h0 hx hb hq hh0 _).mono ?_
  rintro e w1 ⟨rfl, l1, h1, rfl, hh1, hl1, e1⟩
  go_wp2_with fail
  refine (cell_any x c r h1 hx hc hr hh1 _).mono ?_
  rintro e w1 ⟨rfl, l2, h2, rfl, hh2, hl2, e2⟩
  go_wp2_with fail
  refine (cell_any x d s h2 hx hd hs hh2 _).mono ?_
  rintro e w1 ⟨rfl, l3, h3, rfl, hh3, hl3, e3⟩
  go_wp2
  refine bodyPost_ret (v := ?v) ?hr rfl ?hR
  case hr => simp [results, Try.results111, go_sem]; rfl
  exact ⟨_, rfl, below3 _ _ _ _, l0, _, _, rfl, hl0, Four.mk hl1 hl2 hl3 hh3 rfl, row_sum em en e0 e1 e2 e3⟩
end Go.Proofs.Ytdeidgbknlmhjab
