import Derived.Test.YtppdcphfphcbbabL4
import Derived.Test.YtppdcphfphcbbabNL
namespace Go.Proofs.Ytppdcphfphcbbab
open Go.RowKit Go.Sort Go.Deep

theorem w8_be8 (x : Nat) (hx : x < 18446744073709551616) :
    w8 (UInt8.ofNat (x / 72057594037927936)) (UInt8.ofNat (x / 281474976710656)) (UInt8.ofNat (x / 1099511627776)) (UInt8.ofNat (x / 4294967296)) (UInt8.ofNat (x / 16777216)) (UInt8.ofNat (x / 65536)) (UInt8.ofNat (x / 256)) (UInt8.ofNat x) = x := by
  unfold w8
  simp only [UInt8.toNat_ofNat']
  omega

theorem be32_list (a b c d : Nat) : (be32 a b c d).toList = [UInt8.ofNat (d / 72057594037927936), UInt8.ofNat (d / 281474976710656), UInt8.ofNat (d / 1099511627776), UInt8.ofNat (d / 4294967296), UInt8.ofNat (d / 16777216), UInt8.ofNat (d / 65536), UInt8.ofNat (d / 256), UInt8.ofNat d, UInt8.ofNat (c / 72057594037927936), UInt8.ofNat (c / 281474976710656), UInt8.ofNat (c / 1099511627776), UInt8.ofNat (c / 4294967296), UInt8.ofNat (c / 16777216), UInt8.ofNat (c / 65536), UInt8.ofNat (c / 256), UInt8.ofNat c, UInt8.ofNat (b / 72057594037927936), UInt8.ofNat (b / 281474976710656), UInt8.ofNat (b / 1099511627776), UInt8.ofNat (b / 4294967296), UInt8.ofNat (b / 16777216), UInt8.ofNat (b / 65536), UInt8.ofNat (b / 256), UInt8.ofNat b, UInt8.ofNat (a / 72057594037927936), UInt8.ofNat (a / 281474976710656), UInt8.ofNat (a / 1099511627776), UInt8.ofNat (a / 4294967296), UInt8.ofNat (a / 16777216), UInt8.ofNat (a / 65536), UInt8.ofNat (a / 256), UInt8.ofNat a] := by
  simp only [be32, be8, Array.toList_append, List.cons_append, List.nil_append]
theorem val_congr {a b c d p q r s : Nat} (h1 : a = p) (h2 : b = q) (h3 : c = r) (h4 : d = s) : val a b c d = val p q r s := by subst h1 h2 h3 h4; rfl
theorem beV_be32 (a b c d : Nat) (ha : a < 18446744073709551616) (hb : b < 18446744073709551616) (hc : c < 18446744073709551616) (hd : d < 18446744073709551616) : beV (be32 a b c d).toList = val a b c d :=
  (congrArg beV (be32_list a b c d)).trans ((beV_32 _ _ _ _ _ _ _ _ _ _ _ _ _ _ _ _ _ _ _ _ _ _ _ _ _ _ _ _ _ _ _ _).trans (val_congr (w8_be8 a ha) (w8_be8 b hb) (w8_be8 c hc) (w8_be8 d hd)))

/-- The 32 bytes of a number. -/
def bytesOf (n : Nat) : Bs := be32 (n % 18446744073709551616) (n / 18446744073709551616 % 18446744073709551616) (n / 340282366920938463463374607431768211456 % 18446744073709551616) (n / 6277101735386680763835789423207666416102355444464034512896)
theorem bytesOf_eq {a b c d n : Nat} (ha : a < 18446744073709551616) (hb : b < 18446744073709551616) (hc : c < 18446744073709551616) (hn : n = val a b c d) : be32 a b c d = bytesOf n := by
  unfold bytesOf
  unfold val at hn
  congr 1 <;> omega
theorem bytesOf_size (n : Nat) : (bytesOf n).size = 32 := be32_size _ _ _ _
theorem bytesOf_val {n : Nat} (hn : n < top) : beV (bytesOf n).toList = n := by
  unfold bytesOf
  unfold top at hn
  rw [beV_be32 _ _ _ _ (by omega) (by omega) (by omega) (by omega)]
  unfold val
  omega

/-- The bytes of a number in a block. -/
def At32 (W : World) (g n : Nat) : Prop := n < top ∧ Holds encB W g 0 (bytesOf n)
theorem At32.call {W w1 : World} {g n : Nat} (h : At32 W g n) (hb : Below W.heap.size W w1) : At32 w1 g n :=
  ⟨h.1, Holds.below h.2 hb (Holds.lt h.2 (by rw [bytesOf_size]; omega))⟩
theorem At32.of {W : World} {B n : Nat} {v : Value} (h : IsBytes W B v n) : ∃ g, v = .slice (some ⟨g, 0, none⟩) 32 32 ∧ At32 W g n := by
  obtain ⟨g, a, b, c, d, rfl, -, hF, hH⟩ := h
  refine ⟨g, rfl, hF.lt, ?_⟩
  obtain ⟨a', b', c', d', e, h1, h2, h3, h4, h5⟩ := hF
  simp only [Value.agg.injEq, Array.mk.injEq, List.cons.injEq, Value.int.injEq, true_and, and_true, Int.ofNat_inj] at e
  obtain ⟨rfl, rfl, rfl, rfl⟩ := e
  rw [← bytesOf_eq h1 h2 h3 h5]
  exact hH
theorem At32.arg {W : World} {g n : Nat} (h : At32 W g n) : Arg W (.slice (some ⟨g, 0, none⟩) 32 32) (bytesOf n) :=
  ⟨_, _, _, rfl, bytesOf_size n, fun _ => ⟨g, 0, rfl, Nat.le_refl _, Holds.lt h.2 (by rw [bytesOf_size]; omega), h.2⟩⟩
theorem At32.num {W : World} {g n P : Nat} (h : At32 W g n) (hn : n < P) : IsNum P (bytesOf n) := ⟨bytesOf_size n, by rw [bytesOf_val h.1]; exact hn⟩
theorem At32.str {W : World} {g n : Nat} (h : At32 W g n) : (convert 23 9 (.slice (some ⟨g, 0, none⟩) 32 32)).run Try.prog W = .ok (.string ⟨bytesOf n⟩) W :=
  conv_str Try.prog 23 9 5 slice22 int5 str9 W g 0 32 32 _ h.2 (bytesOf_size n)
theorem bytesOf_inj {m n : Nat} (hm : m < top) (hn : n < top) (h : bytesOf m = bytesOf n) : m = n := by
  rw [← bytesOf_val hm, ← bytesOf_val hn, h]

/-- Numbers in blocks. -/
def Env (W : World) (l : List (Nat × Nat)) : Prop := ∀ x ∈ l, At32 W x.1 x.2
theorem Env.call {W w1 : World} {l : List (Nat × Nat)} (h : Env W l) (hb : Below W.heap.size W w1) : Env w1 l := fun x hx => (h x hx).call hb
theorem Env.cons {W : World} {l : List (Nat × Nat)} {g n : Nat} (h : Env W l) (hx : At32 W g n) : Env W ((g, n) :: l) := fun x hx' => by
  rcases List.mem_cons.1 hx' with rfl | h2
  · exact hx
  · exact h x h2
theorem Env.nil {W : World} : Env W [] := fun _ h => by cases h

/-- An operation's answer as a number in a block. -/
def Gives (w : World) (x : Nat) (e : Value) (w' : World) : Prop := Below w.heap.size w w' ∧ ∃ g, e = .tuple #[.slice (some ⟨g, 0, none⟩) 32 32, .int .i64 0] ∧ At32 w' g x

theorem two_gives {w w' : World} {P x : Nat} {s t : Bs} {e : Value} (h : TwoR w P s t x e w') (hs : IsNum P s) (ht : IsNum P t) (hb : Below w.heap.size w w') : Gives w x e w' := by
  rcases h with ⟨-, -, v, rfl, h3⟩ | ⟨h1, -⟩
  · obtain ⟨g, rfl, h4⟩ := At32.of h3
    exact ⟨hb, g, rfl, h4⟩
  · exact absurd ⟨hs, ht⟩ h1

theorem Add_nb {k : Int} {g0 g1 g2 P g h a b : Nat} (hG : Gap g0 g1 g2 P) (hp : PrimeOf k g0 g1 g2) (w : World) (hA : At32 w g a) (hB : At32 w h b) (ha : a < P) (hb : b < P) :
    Calls Try.prog 10 #[.int .i64 k, .slice (some ⟨g, 0, none⟩) 32 32, .slice (some ⟨h, 0, none⟩) 32 32] w (Ret (Gives w ((a + b) % P))) := by
  refine (Add_any k g0 g1 g2 P _ _ _ _ hG w hp hA.arg hB.arg).mono ?_
  rintro e w' ⟨v, rfl, hb', h⟩
  rw [bytesOf_val hA.1, bytesOf_val hB.1] at h
  exact ⟨_, rfl, two_gives h (hA.num ha) (hB.num hb) hb'⟩
theorem Sub_nb {k : Int} {g0 g1 g2 P g h a b : Nat} (hG : Gap g0 g1 g2 P) (hp : PrimeOf k g0 g1 g2) (w : World) (hA : At32 w g a) (hB : At32 w h b) (ha : a < P) (hb : b < P) :
    Calls Try.prog 11 #[.int .i64 k, .slice (some ⟨g, 0, none⟩) 32 32, .slice (some ⟨h, 0, none⟩) 32 32] w (Ret (Gives w ((a + P - b) % P))) := by
  refine (Sub_any k g0 g1 g2 P _ _ _ _ hG w hp hA.arg hB.arg).mono ?_
  rintro e w' ⟨v, rfl, hb', h⟩
  rw [bytesOf_val hA.1, bytesOf_val hB.1] at h
  exact ⟨_, rfl, two_gives h (hA.num ha) (hB.num hb) hb'⟩
theorem Mul_nb {k : Int} {g0 g1 g2 P g h a b : Nat} (hG : Gap g0 g1 g2 P) (hp : PrimeOf k g0 g1 g2) (w : World) (hA : At32 w g a) (hB : At32 w h b) (ha : a < P) (hb : b < P) :
    Calls Try.prog 12 #[.int .i64 k, .slice (some ⟨g, 0, none⟩) 32 32, .slice (some ⟨h, 0, none⟩) 32 32] w (Ret (Gives w (a * b % P))) := by
  refine (Mul_any k g0 g1 g2 P _ _ _ _ hG w hp hA.arg hB.arg).mono ?_
  rintro e w' ⟨v, rfl, hb', h⟩
  rw [bytesOf_val hA.1, bytesOf_val hB.1] at h
  exact ⟨_, rfl, two_gives h (hA.num ha) (hB.num hb) hb'⟩
theorem Inv_nb {k : Int} {g0 g1 g2 P g a : Nat} (hG : Gap g0 g1 g2 P) (hP2 : 2 ≤ P % 18446744073709551616) (hp : PrimeOf k g0 g1 g2) (w : World) (hA : At32 w g a) (ha : a < P) :
    Calls Try.prog 13 #[.int .i64 k, .slice (some ⟨g, 0, none⟩) 32 32] w (Ret (Gives w (a ^ (P - 2) % P))) := by
  refine (Inv_any k g0 g1 g2 P _ _ hG hP2 w hp hA.arg).mono ?_
  rintro e w' ⟨v, rfl, hb', h⟩
  rw [bytesOf_val hA.1] at h
  rcases h with ⟨-, v, rfl, h3⟩ | ⟨h1, -⟩
  · obtain ⟨g, rfl, h4⟩ := At32.of h3
    exact ⟨_, rfl, hb', g, rfl, h4⟩
  · exact absurd (hA.num ha) h1
theorem Sqrt_nb {g a : Nat} (w : World) (hA : At32 w g a) (ha : a < Go.Proofs.Ytppdcphfphcbbab.p0) (hr : a ^ (Go.Proofs.Ytppdcphfphcbbab.p0 / 4 + 1) % Go.Proofs.Ytppdcphfphcbbab.p0 * (a ^ (Go.Proofs.Ytppdcphfphcbbab.p0 / 4 + 1) % Go.Proofs.Ytppdcphfphcbbab.p0) % Go.Proofs.Ytppdcphfphcbbab.p0 = a) :
    Calls Try.prog 23 #[.int .i64 0, .slice (some ⟨g, 0, none⟩) 32 32] w (Ret (Gives w (even Go.Proofs.Ytppdcphfphcbbab.p0 (a ^ (Go.Proofs.Ytppdcphfphcbbab.p0 / 4 + 1) % Go.Proofs.Ytppdcphfphcbbab.p0)))) := by
  refine (Sqrt_any _ _ w hA.arg).mono ?_
  rintro e w' ⟨v, rfl, hb', h⟩
  rw [bytesOf_val hA.1] at h
  rcases h with ⟨-, -, v, rfl, h3⟩ | ⟨-, h1, -⟩ | ⟨h1, -⟩
  · obtain ⟨g, rfl, h4⟩ := At32.of h3
    exact ⟨_, rfl, hb', g, rfl, h4⟩
  · exact absurd (by rw [bytesOf_val hA.1]; exact hr) h1
  · exact absurd (hA.num ha) h1
end Go.Proofs.Ytppdcphfphcbbab
