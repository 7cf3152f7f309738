import Derived.Test.YtppdcphfphcbbabW2
namespace Go.Proofs.Ytppdcphfphcbbab
open Go.RowKit Go.Sort Go.Deep

theorem bytes_0 : bytesOf 0 = Array.replicate 32 0 := by decide +kernel
theorem bytes_1 : bytesOf 1 = (Array.replicate 32 0).setIfInBounds 31 1 := by decide +kernel
theorem be32_last (a b c d : Nat) : (be32 a b c d)[31]! = UInt8.ofNat a := by
  have h : (be32 a b c d).toList[31]! = UInt8.ofNat a := by rw [be32_list]; rfl
  rw [← h, Array.getElem!_toList]
theorem last_byte (n : Nat) : (bytesOf n)[31]! = UInt8.ofNat (n % 18446744073709551616) := by
  unfold bytesOf
  exact be32_last _ _ _ _
theorem and_u8 (v : Nat) (hv : v < 256) : bits .and .u8 (v : Int) 1 = ((v % 2 : Nat) : Int) := by
  have := (bits_nat .u8 8 (by decide) (fun n h0 h1 => by rw [IntKind.wrap_u8]; omega) v 1 hv (by decide)).1
  rw [show v &&& 1 = v % 2 from Nat.and_one_is_mod v] at this
  exact this

/-- zero and one, made. -/
theorem made_01 {W : World} {l : List (Nat × Nat)} (h : Env W l) :
    Env (((W.alloc (.cells (madeCells #[.int .u8 0] 32) 5)).alloc (.cells (madeCells #[.int .u8 0] 32) 5)).setCell ⟨W.heap.size + 1, 31, none⟩ (.int .u8 1)) ((W.heap.size + 1, 1) :: (W.heap.size, 0) :: l) ∧
    Below W.heap.size W (((W.alloc (.cells (madeCells #[.int .u8 0] 32) 5)).alloc (.cells (madeCells #[.int .u8 0] 32) 5)).setCell ⟨W.heap.size + 1, 31, none⟩ (.int .u8 1)) := by
  have hb : Below W.heap.size W (((W.alloc (.cells (madeCells #[.int .u8 0] 32) 5)).alloc (.cells (madeCells #[.int .u8 0] 32) 5)).setCell ⟨W.heap.size + 1, 31, none⟩ (.int .u8 1)) := (below2 W _ _).setCell (p := ⟨W.heap.size + 1, 31, none⟩) (Nat.le_succ _) _
  refine ⟨((h.call hb).cons ⟨by decide, ?_⟩).cons ⟨by decide, ?_⟩, hb⟩
  · rw [bytes_0]
    have h1 := Holds.made (enc := encB) W 5 32 0
    have h2 : Below (W.alloc (.cells (madeCells #[.int .u8 0] 32) 5)).heap.size (W.alloc (.cells (madeCells #[.int .u8 0] 32) 5)) (((W.alloc (.cells (madeCells #[.int .u8 0] 32) 5)).alloc (.cells (madeCells #[.int .u8 0] 32) 5)).setCell ⟨W.heap.size + 1, 31, none⟩ (.int .u8 1)) :=
      (below1 _ _).setCell (p := ⟨W.heap.size + 1, 31, none⟩) (by simp) _
    exact Holds.below h1 h2 (by simp)
  · rw [bytes_1]
    have h1 := Holds.made (enc := encB) (W.alloc (.cells (madeCells #[.int .u8 0] 32) 5)) 5 32 0
    rw [World.size_alloc] at h1
    have := Holds.set h1 (i := 31) (by simp) 1
    rw [Nat.zero_add] at this
    exact this

/-- What a field is, at three of its numbers. -/
theorem field_facts {P a b c : Nat} (ha : a < P) (hb : b < P) (_ : c < P) : ∃ AB BC L1 M BM L2 AC L3 : Nat, (AB < P ∧ BC < P ∧ L1 < P ∧ M < P ∧ BM < P ∧ L2 < P ∧ AC < P ∧ L3 < P) ∧
    (a + b) % P = AB ∧ (b + a) % P = AB ∧ (b + c) % P = BC ∧ (AB + c) % P = L1 ∧ (a + BC) % P = L1 ∧
    a * b % P = M ∧ b * a % P = M ∧ b * c % P = BM ∧ M * c % P = L2 ∧ a * BM % P = L2 ∧
    a * c % P = AC ∧ a * BC % P = L3 ∧ (M + AC) % P = L3 ∧ (AB + P - b) % P = a ∧ (a + P - a) % P = 0 ∧ a * 1 % P = a := by
  have hP : 0 < P := by omega
  refine ⟨_, _, _, _, _, _, _, _, ⟨?_, ?_, ?_, ?_, ?_, ?_, ?_, ?_⟩, rfl, ?_, rfl, rfl, ?_, rfl, ?_, rfl, rfl, ?_, rfl, rfl, ?_, add_sub_mod ha hb, sub_self_mod ha, ?_⟩
  · exact Nat.mod_lt _ hP
  · exact Nat.mod_lt _ hP
  · exact Nat.mod_lt _ hP
  · exact Nat.mod_lt _ hP
  · exact Nat.mod_lt _ hP
  · exact Nat.mod_lt _ hP
  · exact Nat.mod_lt _ hP
  · exact Nat.mod_lt _ hP
  · rw [Nat.add_comm]
  · exact (add_assoc_mod a b c P).symm
  · rw [Nat.mul_comm]
  · exact (mul_assoc_mod a b c P).symm
  · exact (distrib_mod a b c P).symm
  · rw [Nat.mul_one, Nat.mod_eq_of_lt ha]

theorem even_facts {P R a : Nat} (h : NT.IsP P) (hodd : P % 2 = 1) (ha : a < P) (hR : R < P) (he : R * R % P = a * a % P) : even P R < P ∧ even P R % 2 = 0 ∧ (even P R = a ∨ even P R = (0 + P - a) % P) := by
  have hr := root_is h ha hR he
  unfold even
  by_cases h1 : R % 2 = 1
  · rw [if_pos h1]
    refine ⟨by omega, by omega, ?_⟩
    rcases hr with h2 | h2
    · right
      rw [Nat.zero_add, Nat.mod_eq_of_lt (by omega), h2]
    · left; omega
  · rw [if_neg h1]
    refine ⟨hR, by omega, ?_⟩
    rcases hr with h2 | h2
    · left; exact h2
    · right
      by_cases h3 : a = 0
      · omega
      · rw [Nat.zero_add, Nat.mod_eq_of_lt (by omega)]; omega

theorem str_ne {a b : Bs} (h : ¬ a = b) : ((⟨a⟩ : ByteArray).toList == (⟨b⟩ : ByteArray).toList) = false := by
  rw [ByteArray.toList_eq, ByteArray.toList_eq]
  simp only [beq_eq_false_iff_ne, ne_eq]
  exact fun e => h (Array.toList_inj.1 e)
theorem p4 {P : Nat} (h : P = Go.Proofs.Ytppdcphfphcbbab.p0) : P % 4 = 3 := by rw [h]; decide +kernel
theorem p2 {P : Nat} (h : P = Go.Proofs.Ytppdcphfphcbbab.p0) : P % 2 = 1 := by rw [h]; decide +kernel
theorem Sqrt_P {P g a : Nat} (h : P = Go.Proofs.Ytppdcphfphcbbab.p0) (w : World) (hA : At32 w g a) (ha : a < P) (hr : a ^ (P / 4 + 1) % P * (a ^ (P / 4 + 1) % P) % P = a) :
    Calls Try.prog 23 #[.int .i64 0, .slice (some ⟨g, 0, none⟩) 32 32] w (Ret (Gives w (even P (a ^ (P / 4 + 1) % P)))) := by
  rw [h] at ha hr ⊢
  exact Sqrt_nb w hA ha hr
theorem one_cell (W : World) : (((W.alloc (.cells (madeCells #[.int .u8 0] 32) 5)).alloc (.cells (madeCells #[.int .u8 0] 32) 5))).cell? ⟨W.heap.size + 1, 31, none⟩ = some (.int .u8 0) ∧ (∀ o, (((W.alloc (.cells (madeCells #[.int .u8 0] 32) 5)).alloc (.cells (madeCells #[.int .u8 0] 32) 5))).frozen? ⟨W.heap.size + 1, o, none⟩ = false) := by
  have h1 := Holds.made (enc := encB) (W.alloc (.cells (madeCells #[.int .u8 0] 32) 5)) 5 32 0
  rw [World.size_alloc] at h1
  have h2 := (h1 31 (by simp)).1
  have h3 := World.frozen?_alloc_new (W.alloc (.cells (madeCells #[.int .u8 0] 32) 5)) (madeCells #[.int .u8 0] 32) 5
  rw [World.size_alloc] at h3
  exact ⟨h2, fun o => h3 o⟩
end Go.Proofs.Ytppdcphfphcbbab
