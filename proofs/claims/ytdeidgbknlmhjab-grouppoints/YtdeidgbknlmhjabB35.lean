import Derived.Test.YtdeidgbknlmhjabCZ
import Derived.Test.YtdeidgbknlmhjabBY
import Derived.Test.YtdeidgbknlmhjabM1
import Derived.Great.BuildSlice
namespace Go.Proofs.Ytdeidgbknlmhjab
open Go.RowKit Go.Sort Go.Deep
variable {P : Nat} [NeZero P]
theorem rBytes_c (C : Fld P) (x : Fin P) : Gives 61 #[fv x] (.string ⟨bx x.val⟩) := fun w =>
  (rBytes_any _ _ w (C.four x)).mono (by
    rintro e w' ⟨v, rfl, hb, a, b, c, d, he, rfl⟩
    refine ⟨_, rfl, hb, ?_⟩
    have h2 : fv x = .agg #[.int .u64 ((x.val % 18446744073709551616 : Nat) : Int), .int .u64 ((x.val / 18446744073709551616 % 18446744073709551616 : Nat) : Int), .int .u64 ((x.val / 340282366920938463463374607431768211456 % 18446744073709551616 : Nat) : Int), .int .u64 ((x.val / 6277101735386680763835789423207666416102355444464034512896 % 18446744073709551616 : Nat) : Int)] := rfl
    rw [h2] at he
    simp only [Value.agg.injEq, Array.mk.injEq, List.cons.injEq, Value.int.injEq, true_and, and_true, Int.ofNat_inj] at he
    obtain ⟨rfl, rfl, rfl, rfl⟩ := he
    rfl)
theorem u31 : (Try.prog.underlying 31).map (·.isRow) = some false := by kernel_rfl
theorem and1 (n r : Nat) (hr : n % 2 = r) (w : World) : (binOp .and 31 (.int .u64 ((n % 18446744073709551616 : Nat) : Int)) (.int .u64 1)).run Try.prog w = .ok (.int .u64 (r : Int)) w := by
  have h := and_one (n % 18446744073709551616) (Nat.mod_lt _ (by decide))
  rw [show n % 18446744073709551616 % 2 = r by omega] at h
  generalize n % 18446744073709551616 = k at h ⊢
  go_simp
theorem cat (m : UInt8) (n : Nat) (w : World) : (binOp .add 9 (.string ⟨#[m]⟩) (.string ⟨bx n⟩)).run Try.prog w = .ok (.string ⟨#[m] ++ bx n⟩) w := by
  have h := bx_size n
  generalize bx n = b at h ⊢
  have h2 : (⟨#[m]⟩ : ByteArray) ++ ⟨b⟩ = ⟨#[m] ++ b⟩ := by
    have h3 : ((⟨#[m]⟩ : ByteArray) ++ ⟨b⟩).data = #[m] ++ b := ByteArray.data_append
    rw [← h3]
  go_simp
theorem bs1 (m : Int) (w : World) : (Instr.buildSlice 23 1 #[(0, .int .u8 m)]).run Try.prog w = .ok (.slice (some ⟨w.heap.size, 0, none⟩) 1 1) (w.alloc (.cells #[.int .u8 m] 5)) := by
  obtain ⟨ie, hie, he⟩ := Option.map_eq_some_iff.1 info5b
  simp only [Prod.mk.injEq] at he
  obtain ⟨h1, h2, -⟩ := he
  exact run_buildSlice w 23 5 1 _ #[.int .u8 m] ie (.int .u8 0) und23 hie h1 (by rw [h2]; omega) (by rw [h2]; omega) (by rw [h2]; kernel_rfl)
theorem str1 (m : UInt8) (w : World) (k : Nat) (h : w.rangeAt k 0 [.int .u8 (ub m)]) : (convert 23 9 (.slice (some ⟨k, 0, none⟩) 1 1)).run Try.prog w = .ok (.string ⟨#[m]⟩) w := by
  have h2 := run_convert_bytes_back (P := Try.prog) w 23 9 5 ⟨k, 0, none⟩ 1 [m] slice22 int5 str9 (fun j hj => by
    obtain rfl : j = 0 := by simpa using hj
    have h3 := h 0 _ rfl
    have e1 : (⟨k, 0, none⟩ : Addr).add 0 = ⟨k, 0, none⟩ := rfl
    rw [e1, h3]
    simp [ub])
  simpa using h2
omit [NeZero P] in
theorem words3 (x y z : Fin P) : ∃ a1 b1 c1 d1 a2 b2 c2 d2 a3 b3 c3 d3 : Nat, rv x y z = .agg #[.int .u64 (a1 : Int), .int .u64 (b1 : Int), .int .u64 (c1 : Int), .int .u64 (d1 : Int), .int .u64 (a2 : Int), .int .u64 (b2 : Int), .int .u64 (c2 : Int), .int .u64 (d2 : Int), .int .u64 (a3 : Int), .int .u64 (b3 : Int), .int .u64 (c3 : Int), .int .u64 (d3 : Int)] :=
  ⟨_, _, _, _, _, _, _, _, _, _, _, _, rfl⟩
set_option maxHeartbeats 2000000 in
set_option maxRecDepth 100000 in
theorem rWr_z (C : Fl3 P) (x y z : Fin P) (hz : z = 0) : Gives 38 #[rv x y z] (.string ⟨zs33⟩) := by
  intro w
  have hI := Is_t_c C x y z hz
  obtain ⟨a1, b1, c1, d1, a2, b2, c2, d2, a3, b3, c3, d3, e⟩ := words3 x y z
  rw [e] at hI ⊢
  have hmk := mk33
  go_enter Try.func38, Try.ntmps38
  go_wp2_with fail
  refine (hI _).mono ?_
  rintro e w1 ⟨v, rfl, hb1, rfl⟩
  have HB : Hid (Below w.heap.size w w1) := (below1 w _).trans (hb1.mono (by simp))
  have hcv : (convert 23 9 (.slice (some ⟨w1.heap.size, 0, none⟩) 33 33)).run Try.prog (w1.alloc (.cells (madeCells #[.int .u8 0] 33) 5)) = .ok (.string ⟨zs33⟩) (w1.alloc (.cells (madeCells #[.int .u8 0] 33) 5)) :=
    conv_str Try.prog 23 9 5 slice22 int5 str9 _ _ 0 33 33 _ (Holds.made (enc := encB) w1 5 33 (0 : UInt8)) (by decide)
  clear hb1 hI
  go_wp2
  go_ret
  exact ⟨_, rfl, HB.out.trans ((below1 w1 _).mono HB.out.size), rfl⟩
end Go.Proofs.Ytdeidgbknlmhjab
