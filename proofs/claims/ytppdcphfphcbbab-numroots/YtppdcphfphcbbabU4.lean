import Derived.Test.YtppdcphfphcbbabL4
import Derived.Test.YtppdcphfphcbbabR5
import Derived.Test.YtppdcphfphcbbabN3
import Derived.Test.YtppdcphfphcbbabV1
namespace Go.Proofs.Ytppdcphfphcbbab
open Go.RowKit Go.Sort Go.Deep

theorem conv_arg {w w1 : World} {s : ByteArray} {g cap : Nat} (hc : s.size ≤ cap) (hg : g < w.heap.size) (hH : Holds encB w g 0 s.data) (hb : Below w.heap.size w w1) : Arg w1 (.slice (some ⟨g, 0, none⟩) s.size cap) s.data :=
  ⟨_, _, _, rfl, rfl, fun h => ⟨g, 0, rfl, by omega, Nat.lt_of_lt_of_le hg hb.size, Holds.below hH hb hg⟩⟩

/-- What Sqrt answers, as a law reads it. -/
theorem sqrt_ans {w w' : World} {P R : Nat} {s : Bs} {e : Value} (h : SqrtR w P s R e w') : ∃ (p : Option Addr) (n c : Nat) (ep : Int), e = .tuple #[.slice p n c, .int .i64 ep] ∧
    ((IsNum P s ∧ R * R % P = beV s.toList ∧ ep = 0 ∧ IsBytes w' 0 (.slice p n c) (even P R)) ∨ (IsNum P s ∧ ¬ R * R % P = beV s.toList ∧ ep = 6 ∧ n = 0) ∨ (¬ IsNum P s ∧ ep = 3 ∧ n = 0)) := by
  rcases h with ⟨h1, h2, v, rfl, h3⟩ | ⟨h1, h2, rfl⟩ | ⟨h1, rfl⟩
  · obtain ⟨g, a, b, c, d, rfl, h4⟩ := h3
    exact ⟨_, _, _, 0, rfl, Or.inl ⟨h1, h2, rfl, ⟨g, a, b, c, d, rfl, Nat.zero_le _, h4.2⟩⟩⟩
  · exact ⟨none, 0, 0, 6, rfl, Or.inr (Or.inl ⟨h1, h2, rfl, rfl⟩)⟩
  · exact ⟨none, 0, 0, 3, rfl, Or.inr (Or.inr ⟨h1, rfl, rfl⟩)⟩

set_option maxHeartbeats 4000000 in
set_option maxRecDepth 100000 in
theorem roots_0 (s : ByteArray) (hs : s.size ≤ 16384) (w0 : World) :
    Calls Try.prog 4 #[.int .i64 0, .string s] w0 fun e w' => e = .returned (.bool true) ∧ Below w0.heap.size w0 w' := by
  obtain ⟨P, hP⟩ : ∃ P, P = Go.Proofs.Ytppdcphfphcbbab.p0 := ⟨_, rfl⟩
  have hx : ∃ p0 p1 p2 p3 c0 c1 c2 c3 : Nat, RefP p0 p1 p2 p3 c0 c1 c2 c3 P ∧ ∀ w, Calls Try.prog 16 #[.int .i64 0] w (Ret fun e w' => Below w.heap.size w w' ∧ e = .agg #[.int .u64 (p0 : Int), .int .u64 (p1 : Int), .int .u64 (p2 : Int), .int .u64 (p3 : Int), .int .u64 (c0 : Int), .int .u64 (c1 : Int), .int .u64 (c2 : Int), .int .u64 (c3 : Int)]) :=
    ⟨_, _, _, _, _, _, _, _, by rw [hP]; exact refP0, rMake0⟩
  obtain ⟨p0, p1, p2, p3, c0, c1, c2, c3, hR, hmk⟩ := hx
  have HR : Hid (RefP p0 p1 p2 p3 c0 c1 c2 c3 P) := hR
  have HMK : Hid _ := hmk
  have HQ : Hid (P / 4 % 18446744073709551616 < 18446744073709551615) := by unfold Hid; rw [hP]; exact quarter0
  have HSQ : Hid (∀ (va : Value) (s : Bs) (w : World), Arg w va s → Calls Try.prog 23 #[.int .i64 0, va] w (Ret fun e w' => Below w.heap.size w w' ∧ SqrtR w P s (beV s.toList ^ (P / 4 + 1) % P) e w')) := by
    unfold Hid
    rw [hP]
    exact Sqrt_any
  clear hR hmk hP
  have h1 : ¬ (16384 : Int) < (s.size : Int) := by omega
  obtain ⟨cap, wc, hcv, hcap, hbc, hH, hlt⟩ := conv_of s w0
  have HBC : Hid (Below w0.heap.size w0 wc) := hbc
  have HARG : Hid (Arg wc (.slice (some ⟨w0.heap.size, 0, none⟩) s.size cap) s.data) := conv_arg hcap hlt hH (Below.refl _ _)
  clear hbc hH hlt hcap
  go_enter Try.func4, Try.ntmps4
  go_wp2_with fail
  clear hcv
  refine (HSQ.out _ _ _ HARG.out).mono ?_
  rintro e w1 ⟨v, rfl, hb1, hr⟩
  obtain ⟨q, n, c, ep, rfl, hans⟩ := sqrt_ans hr
  obtain ⟨R, hRe⟩ : ∃ R, beV s.data.toList ^ (P / 4 + 1) % P = R := ⟨_, rfl⟩
  rw [hRe] at hans
  have HRE : Hid (beV s.data.toList ^ (P / 4 + 1) % P = R) := hRe
  have HANS : Hid _ := hans
  have HB : Hid (Below w0.heap.size w0 w1) := HBC.out.trans (hb1.mono HBC.out.size)
  clear hRe hr hb1 HBC HARG
  go_wp2_with fail
  refine (HMK.out _).mono ?_
  rintro e w2 ⟨v, rfl, hb2, rfl⟩
  go_wp2_with fail
  have A7 := At8.made w2 35 p0 p1 p2 p3 c0 c1 c2 c3 rfl
  have K : Kept w1 w1.heap.size [⟨w2.heap.size, 0, p0, p1, p2, p3⟩, ⟨w2.heap.size, 4, c0, c1, c2, c3⟩] _ := (((Kept.mk1 hb2 hb2.size).alloc (.cells #[.int .u64 (p0 : Int), .int .u64 (p1 : Int), .int .u64 (p2 : Int), .int .u64 (p3 : Int), .int .u64 (c0 : Int), .int .u64 (c1 : Int), .int .u64 (c2 : Int), .int .u64 (c3 : Int)] 35)).cons (x := ⟨w2.heap.size, 4, c0, c1, c2, c3⟩) ⟨A7.c4, A7.c5, A7.c6, A7.c7, A7.fz⟩).cons (x := ⟨w2.heap.size, 0, p0, p1, p2, p3⟩) ⟨A7.c0, A7.c1, A7.c2, A7.c3, A7.fz⟩
  clear A7 hb2
  generalize World.alloc _ _ = W2 at K ⊢
  generalize w2.heap.size = kF at K ⊢
  refine (rNumber_any p0 p1 p2 p3 c0 c1 c2 c3 P s HR.out _).mono ?_
  rintro e w3 ⟨v, rfl, hb3, xa, xb, xc, xd, am, rfl, ham, hnm⟩
  replace K := K.call hb3
  clear hb3
  cases am with
  | false =>
    have hno := hnm rfl
    have he : ep = 3 ∧ n = 0 := by
      rcases HANS.out with h | h | h
      · exact absurd h.1 hno
      · exact absurd h.1 hno
      · exact h.2
    obtain ⟨rfl, rfl⟩ := he
    clear ham hnm hans hno HANS
    go_wp2
    go_ret
    exact ⟨by simp, HB.out.trans ((K.alloc _).bl.mono HB.out.size)⟩
  | true =>
    have HM : Hid _ := ham rfl
    clear ham hnm
    have fb := K.tail.head
    obtain ⟨fc0, fc1, fc2, fc3, ff⟩ := K.head.at4
    have fd0 : w3.cell? ⟨kF, 4, none⟩ = some (.int .u64 (c0 : Int)) := fb.c0
    have fd1 : w3.cell? ⟨kF, 5, none⟩ = some (.int .u64 (c1 : Int)) := fb.c1
    have fd2 : w3.cell? ⟨kF, 6, none⟩ = some (.int .u64 (c2 : Int)) := fb.c2
    have fd3 : w3.cell? ⟨kF, 7, none⟩ = some (.int .u64 (c3 : Int)) := fb.c3
    have zf := K.head.lt
    have nF : kF ≠ w3.heap.size := Nat.ne_of_lt zf
    clear hans
    go_wp2_with fail
    clear fb fc0 fc1 fc2 fc3 ff fd0 fd1 fd2 fd3 zf nF
    refine (rSqrt_any p0 p1 p2 p3 c0 c1 c2 c3 P _ _ HR.out HQ.out HM.out.2 _).mono ?_
    rintro e w4 ⟨v, rfl, hb4, hr⟩
    rw [HRE.out] at hr
    obtain ⟨ya, yb, yc, yd, ok, rfl, hyes, hno⟩ := hr
    replace K := (K.alloc _).call hb4
    clear hb4
    cases ok with
    | false =>
      have hn := hno rfl
      have he : ep = 6 ∧ n = 0 := by
        rcases HANS.out with h | h | h
        · exact absurd h.2.1 hn
        · exact h.2.2
        · exact absurd HM.out.1 h.1
      obtain ⟨rfl, rfl⟩ := he
      clear hyes hno hn HANS
      go_wp2
      go_ret
      exact ⟨by simp, HB.out.trans ((K.alloc _).bl.mono HB.out.size)⟩
    | true =>
      have HY : Hid _ := hyes rfl
      have he : ep = 0 ∧ IsBytes w1 0 (.slice q n c) (even P R) := by
        rcases HANS.out with h | h | h
        · exact h.2.2
        · exact absurd HY.out.1 h.2.1
        · exact absurd HM.out.1 h.1
      obtain ⟨rfl, hib⟩ := he
      have HIB : Hid (IsBytes w1 0 (.slice q n c) (even P R)) := hib
      clear hyes hno HANS hib
      go_wp2_with fail
      have K5 := K.alloc (.cells #[.int .u64 (ya : Int), .int .u64 (yb : Int), .int .u64 (yc : Int), .int .u64 (yd : Int)] 33)
      refine (told_ok _ _ _ 0 _ (HIB.out.call K5.bl) HY.out.2).mono ?_
      rintro e w5 ⟨v, rfl, hb5, rfl⟩
      go_wp2
      go_ret
      exact ⟨by simp, HB.out.trans ((K5.call hb5).bl.mono HB.out.size)⟩

set_option maxHeartbeats 2000000 in
set_option maxRecDepth 100000 in
theorem roots_any (k : Int) (s : ByteArray) (w0 : World) :
    Calls Try.prog 4 #[.int .i64 k, .string s] w0 fun e w' => e = .returned (.bool true) ∧ Below w0.heap.size w0 w' := by
  by_cases hs : s.size ≤ 16384
  · by_cases h0 : k = 0
    · subst h0
      exact roots_0 s hs w0
    · have h1 : ¬ (16384 : Int) < (s.size : Int) := by omega
      have HK : Hid (¬ k = 0) := h0
      obtain ⟨cap, wc, hcv, hcap, hbc, hH, hlt⟩ := conv_of s w0
      have HBC : Hid (Below w0.heap.size w0 wc) := hbc
      clear hbc hH hlt hcap
      go_enter Try.func4, Try.ntmps4
      go_wp2_with fail
      clear hcv
      refine (Sqrt_no k HK.out _ _).mono ?_
      rintro e w1 ⟨v, rfl, hb1, rfl⟩
      have HB : Hid (Below w0.heap.size w0 w1) := HBC.out.trans (hb1.mono HBC.out.size)
      clear hb1 HBC
      go_wp2
      go_ret
      exact ⟨by simp, HB.out⟩
  · have h1 : (16384 : Int) < (s.size : Int) := by omega
    go_enter Try.func4, Try.ntmps4
    go_wp2
    go_ret
    exact ⟨rfl, Below.refl _ _⟩
end Go.Proofs.Ytppdcphfphcbbab
