import Derived.Test.YtfclmmkgmhlbbaaQ
import Derived.KernelRfl
namespace Go.Proofs.Ytfclmmkgmhlbbaa

theorem con_eq : ∀ k : Fin 24, conL k.val = rcC (rcAt k.val) := by decide +kernel

theorem offsets_eq : offsetsL = #[0, 1, 62, 28, 27, 36, 44, 6, 55, 20, 3, 10, 43, 25, 39, 41, 45, 15, 21, 8, 18, 2, 61, 56, 14] := by decide +kernel

theorem rol_zero (x : BitVec 64) : rol x 0 = x := by
  unfold rol
  rw [BitVec.shiftLeft_zero, Nat.sub_zero, BitVec.ushiftRight_eq_zero (Nat.le_refl 64), BitVec.or_zero]

theorem zx (x : BitVec 64) : 0 ^^^ x = x := BitVec.zero_xor

theorem col_one (a0 a1 a2 a3 a4 a5 a6 a7 a8 a9 a10 a11 a12 a13 a14 a15 a16 a17 a18 a19 a20 a21 a22 a23 a24 : BitVec 64) : colTo #[a0, a1, a2, a3, a4, a5, a6, a7, a8, a9, a10, a11, a12, a13, a14, a15, a16, a17, a18, a19, a20, a21, a22, a23, a24] 5 = #[0 ^^^ a0 ^^^ a5 ^^^ a10 ^^^ a15 ^^^ a20, 0 ^^^ a1 ^^^ a6 ^^^ a11 ^^^ a16 ^^^ a21, 0 ^^^ a2 ^^^ a7 ^^^ a12 ^^^ a17 ^^^ a22, 0 ^^^ a3 ^^^ a8 ^^^ a13 ^^^ a18 ^^^ a23, 0 ^^^ a4 ^^^ a9 ^^^ a14 ^^^ a19 ^^^ a24] := by kernel_rfl
theorem sums_one (a0 a1 a2 a3 a4 a5 a6 a7 a8 a9 a10 a11 a12 a13 a14 a15 a16 a17 a18 a19 a20 a21 a22 a23 a24 : BitVec 64) : sumsTo #[a0, a1, a2, a3, a4, a5, a6, a7, a8, a9, a10, a11, a12, a13, a14, a15, a16, a17, a18, a19, a20, a21, a22, a23, a24] 5 = #[a0 ^^^ a5 ^^^ a10 ^^^ a15 ^^^ a20, a1 ^^^ a6 ^^^ a11 ^^^ a16 ^^^ a21, a2 ^^^ a7 ^^^ a12 ^^^ a17 ^^^ a22, a3 ^^^ a8 ^^^ a13 ^^^ a18 ^^^ a23, a4 ^^^ a9 ^^^ a14 ^^^ a19 ^^^ a24] := by kernel_rfl
theorem col_eq (a0 a1 a2 a3 a4 a5 a6 a7 a8 a9 a10 a11 a12 a13 a14 a15 a16 a17 a18 a19 a20 a21 a22 a23 a24 : BitVec 64) : colTo #[a0, a1, a2, a3, a4, a5, a6, a7, a8, a9, a10, a11, a12, a13, a14, a15, a16, a17, a18, a19, a20, a21, a22, a23, a24] 5 = sumsTo #[a0, a1, a2, a3, a4, a5, a6, a7, a8, a9, a10, a11, a12, a13, a14, a15, a16, a17, a18, a19, a20, a21, a22, a23, a24] 5 := by
  rw [col_one, sums_one]
  simp only [zx]

theorem mov_one (S : St) (a0 a1 a2 a3 a4 a5 a6 a7 a8 a9 a10 a11 a12 a13 a14 a15 a16 a17 a18 a19 a20 a21 a22 a23 a24 : BitVec 64) : movTo #[a0, a1, a2, a3, a4, a5, a6, a7, a8, a9, a10, a11, a12, a13, a14, a15, a16, a17, a18, a19, a20, a21, a22, a23, a24] #[0, 1, 62, 28, 27, 36, 44, 6, 55, 20, 3, 10, 43, 25, 39, 41, 45, 15, 21, 8, 18, 2, 61, 56, 14] S 5 = #[rol (a0 ^^^ dcol S 0) 0, rol (a6 ^^^ dcol S 1) 44, rol (a12 ^^^ dcol S 2) 43, rol (a18 ^^^ dcol S 3) 21, rol (a24 ^^^ dcol S 4) 14, rol (a3 ^^^ dcol S 3) 28, rol (a9 ^^^ dcol S 4) 20, rol (a10 ^^^ dcol S 0) 3, rol (a16 ^^^ dcol S 1) 45, rol (a22 ^^^ dcol S 2) 61, rol (a1 ^^^ dcol S 1) 1, rol (a7 ^^^ dcol S 2) 6, rol (a13 ^^^ dcol S 3) 25, rol (a19 ^^^ dcol S 4) 8, rol (a20 ^^^ dcol S 0) 18, rol (a4 ^^^ dcol S 4) 27, rol (a5 ^^^ dcol S 0) 36, rol (a11 ^^^ dcol S 1) 10, rol (a17 ^^^ dcol S 2) 15, rol (a23 ^^^ dcol S 3) 56, rol (a2 ^^^ dcol S 2) 62, rol (a8 ^^^ dcol S 3) 55, rol (a14 ^^^ dcol S 4) 39, rol (a15 ^^^ dcol S 0) 41, rol (a21 ^^^ dcol S 1) 2] := by kernel_rfl
theorem rho_one (S : St) (a0 a1 a2 a3 a4 a5 a6 a7 a8 a9 a10 a11 a12 a13 a14 a15 a16 a17 a18 a19 a20 a21 a22 a23 a24 : BitVec 64) : rhopi (thetaTo S #[a0, a1, a2, a3, a4, a5, a6, a7, a8, a9, a10, a11, a12, a13, a14, a15, a16, a17, a18, a19, a20, a21, a22, a23, a24] 5) = #[a0 ^^^ dcol S 0, rol (a6 ^^^ dcol S 1) 44, rol (a12 ^^^ dcol S 2) 43, rol (a18 ^^^ dcol S 3) 21, rol (a24 ^^^ dcol S 4) 14, rol (a3 ^^^ dcol S 3) 28, rol (a9 ^^^ dcol S 4) 20, rol (a10 ^^^ dcol S 0) 3, rol (a16 ^^^ dcol S 1) 45, rol (a22 ^^^ dcol S 2) 61, rol (a1 ^^^ dcol S 1) 1, rol (a7 ^^^ dcol S 2) 6, rol (a13 ^^^ dcol S 3) 25, rol (a19 ^^^ dcol S 4) 8, rol (a20 ^^^ dcol S 0) 18, rol (a4 ^^^ dcol S 4) 27, rol (a5 ^^^ dcol S 0) 36, rol (a11 ^^^ dcol S 1) 10, rol (a17 ^^^ dcol S 2) 15, rol (a23 ^^^ dcol S 3) 56, rol (a2 ^^^ dcol S 2) 62, rol (a8 ^^^ dcol S 3) 55, rol (a14 ^^^ dcol S 4) 39, rol (a15 ^^^ dcol S 0) 41, rol (a21 ^^^ dcol S 1) 2] := by kernel_rfl
theorem mov_eq (S : St) (a0 a1 a2 a3 a4 a5 a6 a7 a8 a9 a10 a11 a12 a13 a14 a15 a16 a17 a18 a19 a20 a21 a22 a23 a24 : BitVec 64) : movTo #[a0, a1, a2, a3, a4, a5, a6, a7, a8, a9, a10, a11, a12, a13, a14, a15, a16, a17, a18, a19, a20, a21, a22, a23, a24] offsetsL S 5 = rhopi (thetaTo S #[a0, a1, a2, a3, a4, a5, a6, a7, a8, a9, a10, a11, a12, a13, a14, a15, a16, a17, a18, a19, a20, a21, a22, a23, a24] 5) := by
  rw [offsets_eq, mov_one, rho_one, rol_zero]

theorem out_eq (a0 a1 a2 a3 a4 a5 a6 a7 a8 a9 a10 a11 a12 a13 a14 a15 a16 a17 a18 a19 a20 a21 a22 a23 a24 : BitVec 64) : outTo #[a0, a1, a2, a3, a4, a5, a6, a7, a8, a9, a10, a11, a12, a13, a14, a15, a16, a17, a18, a19, a20, a21, a22, a23, a24] 5 = chi #[a0, a1, a2, a3, a4, a5, a6, a7, a8, a9, a10, a11, a12, a13, a14, a15, a16, a17, a18, a19, a20, a21, a22, a23, a24] := by kernel_rfl

theorem list25 {α : Type} (l : List α) (h : l.length = 25) : ∃ a0 a1 a2 a3 a4 a5 a6 a7 a8 a9 a10 a11 a12 a13 a14 a15 a16 a17 a18 a19 a20 a21 a22 a23 a24, l = [a0, a1, a2, a3, a4, a5, a6, a7, a8, a9, a10, a11, a12, a13, a14, a15, a16, a17, a18, a19, a20, a21, a22, a23, a24] := by
  match l, h with
  | [a0, a1, a2, a3, a4, a5, a6, a7, a8, a9, a10, a11, a12, a13, a14, a15, a16, a17, a18, a19, a20, a21, a22, a23, a24], _ => exact ⟨_, _, _, _, _, _, _, _, _, _, _, _, _, _, _, _, _, _, _, _, _, _, _, _, _, rfl⟩

theorem arr25 {α : Type} (d : Array α) (h : d.size = 25) : ∃ a0 a1 a2 a3 a4 a5 a6 a7 a8 a9 a10 a11 a12 a13 a14 a15 a16 a17 a18 a19 a20 a21 a22 a23 a24, d = #[a0, a1, a2, a3, a4, a5, a6, a7, a8, a9, a10, a11, a12, a13, a14, a15, a16, a17, a18, a19, a20, a21, a22, a23, a24] := by
  obtain ⟨l⟩ := d
  obtain ⟨a0, a1, a2, a3, a4, a5, a6, a7, a8, a9, a10, a11, a12, a13, a14, a15, a16, a17, a18, a19, a20, a21, a22, a23, a24, rfl⟩ := list25 l h
  exact ⟨_, _, _, _, _, _, _, _, _, _, _, _, _, _, _, _, _, _, _, _, _, _, _, _, _, rfl⟩

theorem out_chi (m : St) (h : m.size = 25) : outTo m 5 = chi m := by
  obtain ⟨a0, a1, a2, a3, a4, a5, a6, a7, a8, a9, a10, a11, a12, a13, a14, a15, a16, a17, a18, a19, a20, a21, a22, a23, a24, rfl⟩ := arr25 m h
  exact out_eq _ _ _ _ _ _ _ _ _ _ _ _ _ _ _ _ _ _ _ _ _ _ _ _ _

theorem round_eq (d : St) (h : d.size = 25) (c : BitVec 64) : refRound d offsetsL c = kround d c := by
  have hm : movTo d offsetsL (colTo d 5) 5 = rhopi (theta d) := by
    obtain ⟨a0, a1, a2, a3, a4, a5, a6, a7, a8, a9, a10, a11, a12, a13, a14, a15, a16, a17, a18, a19, a20, a21, a22, a23, a24, rfl⟩ := arr25 d h
    rw [col_eq, mov_eq]
    rfl
  unfold refRound kround
  rw [hm, out_chi _ (rhopi_size _ (by rw [theta_size, h]))]

theorem refTo_eq (d : St) (h : d.size = 25) (k : Nat) (hk : k ≤ 24) : refTo d k = permTo d k := by
  induction k with
  | zero => rfl
  | succ k ih =>
    show refRound (refTo d k) offsetsL (conL k) = kround (permTo d k) (rcC (rcAt k))
    rw [ih (by omega), con_eq ⟨k, by omega⟩, round_eq _ (permTo_size d h k)]
theorem offsets_lt : ∀ i, i < 25 → offsetsL[i]! < 64 := by
  intro i hi
  have H : ∀ j : Fin 25, offsetsL[j.val]! < 64 := by decide +kernel
  exact H ⟨i, hi⟩
theorem offsets_size : offsetsL.size = 25 := by rw [offsets_eq]; rfl
end Go.Proofs.Ytfclmmkgmhlbbaa
