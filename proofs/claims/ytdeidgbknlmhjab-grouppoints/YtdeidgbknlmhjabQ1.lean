import Derived.Test.YtdeidgbknlmhjabB1
namespace Go.Proofs.Ytdeidgbknlmhjab
open Go.RowKit Go.Sort

theorem und64 : Try.prog.underlying 31 = some (.int .u64) := by kernel_rfl
theorem sz64 : ∀ w, (sizeOf 31).run Try.prog w = .ok 1 w := fun _ => by kernel_rfl

theorem undP : Try.prog.underlying 85 = some (.array 4 31) := by kernel_rfl
theorem eqP_d (D : Nat) (a b c d p q r s : Nat) (w : World) :
    (Op.equalIn (D + 1 + 1) 85 (.agg #[.int .u64 (a : Int), .int .u64 (b : Int), .int .u64 (c : Int), .int .u64 (d : Int)]) (.agg #[.int .u64 (p : Int), .int .u64 (q : Int), .int .u64 (r : Int), .int .u64 (s : Int)])).run Try.prog w = .ok (decide (a = p ∧ b = q ∧ c = r ∧ d = s)) w := by
  have hi := fun (x y : Nat) => run_equalIn_int (P := Try.prog) w D 31 .u64 .u64 (x : Int) (y : Int) und64
  rw [Op.equalIn]
  simp only [Sem.run_bind, run_underlying undP, Result.andThen_ok, sz64]
  simp only [Std.Legacy.Range.forIn_eq_forIn_range', Std.Legacy.Range.size, List.range', List.forIn_cons, List.forIn_nil]
  by_cases h0 : a = p
  · by_cases h1 : b = q
    · by_cases h2 : c = r
      · by_cases h3 : d = s
        · simp [h0, h1, h2, h3, part, hi]
        · simp [h0, h1, h2, h3, part, hi]; omega
      · simp [h0, h1, h2, part, hi]; omega
    · simp [h0, h1, part, hi]; omega
  · simp [h0, part, hi]; omega
theorem neqP (a b c d p q r s : Nat) (w : World) :
    (binOp .neq 85 (.agg #[.int .u64 (a : Int), .int .u64 (b : Int), .int .u64 (c : Int), .int .u64 (d : Int)]) (.agg #[.int .u64 (p : Int), .int .u64 (q : Int), .int .u64 (r : Int), .int .u64 (s : Int)])).run Try.prog w = .ok (.bool (!decide (a = p ∧ b = q ∧ c = r ∧ d = s))) w := by
  rw [run_neq_struct, eqP_d 9998]
  rfl
theorem undR : Try.prog.underlying 33 = some (.array 4 31) := by kernel_rfl
theorem eqR_d (D : Nat) (a b c d p q r s : Nat) (w : World) :
    (Op.equalIn (D + 1 + 1) 33 (.agg #[.int .u64 (a : Int), .int .u64 (b : Int), .int .u64 (c : Int), .int .u64 (d : Int)]) (.agg #[.int .u64 (p : Int), .int .u64 (q : Int), .int .u64 (r : Int), .int .u64 (s : Int)])).run Try.prog w = .ok (decide (a = p ∧ b = q ∧ c = r ∧ d = s)) w := by
  have hi := fun (x y : Nat) => run_equalIn_int (P := Try.prog) w D 31 .u64 .u64 (x : Int) (y : Int) und64
  rw [Op.equalIn]
  simp only [Sem.run_bind, run_underlying undR, Result.andThen_ok, sz64]
  simp only [Std.Legacy.Range.forIn_eq_forIn_range', Std.Legacy.Range.size, List.range', List.forIn_cons, List.forIn_nil]
  by_cases h0 : a = p
  · by_cases h1 : b = q
    · by_cases h2 : c = r
      · by_cases h3 : d = s
        · simp [h0, h1, h2, h3, part, hi]
        · simp [h0, h1, h2, h3, part, hi]; omega
      · simp [h0, h1, h2, part, hi]; omega
    · simp [h0, h1, part, hi]; omega
  · simp [h0, part, hi]; omega
theorem neqR (a b c d p q r s : Nat) (w : World) :
    (binOp .neq 33 (.agg #[.int .u64 (a : Int), .int .u64 (b : Int), .int .u64 (c : Int), .int .u64 (d : Int)]) (.agg #[.int .u64 (p : Int), .int .u64 (q : Int), .int .u64 (r : Int), .int .u64 (s : Int)])).run Try.prog w = .ok (.bool (!decide (a = p ∧ b = q ∧ c = r ∧ d = s))) w := by
  rw [run_neq_struct, eqR_d 9998]
  rfl

theorem same_P (a b c d : Nat) (w : World) : (binOp .neq 85 (.agg #[.int .u64 (a : Int), .int .u64 (b : Int), .int .u64 (c : Int), .int .u64 (d : Int)]) (.agg #[.int .u64 (a : Int), .int .u64 (b : Int), .int .u64 (c : Int), .int .u64 (d : Int)])).run Try.prog w = .ok (.bool false) w := by
  rw [neqP, decide_eq_true ⟨rfl, rfl, rfl, rfl⟩]
  rfl
theorem other_P {a b c d p q r s : Nat} (h : ¬ (a = p ∧ b = q ∧ c = r ∧ d = s)) (w : World) : (binOp .neq 85 (.agg #[.int .u64 (a : Int), .int .u64 (b : Int), .int .u64 (c : Int), .int .u64 (d : Int)]) (.agg #[.int .u64 (p : Int), .int .u64 (q : Int), .int .u64 (r : Int), .int .u64 (s : Int)])).run Try.prog w = .ok (.bool true) w := by
  rw [neqP, decide_eq_false h]
  rfl
theorem same_R (a b c d : Nat) (w : World) : (binOp .neq 33 (.agg #[.int .u64 (a : Int), .int .u64 (b : Int), .int .u64 (c : Int), .int .u64 (d : Int)]) (.agg #[.int .u64 (a : Int), .int .u64 (b : Int), .int .u64 (c : Int), .int .u64 (d : Int)])).run Try.prog w = .ok (.bool false) w := by
  rw [neqR, decide_eq_true ⟨rfl, rfl, rfl, rfl⟩]
  rfl
theorem other_R {a b c d p q r s : Nat} (h : ¬ (a = p ∧ b = q ∧ c = r ∧ d = s)) (w : World) : (binOp .neq 33 (.agg #[.int .u64 (a : Int), .int .u64 (b : Int), .int .u64 (c : Int), .int .u64 (d : Int)]) (.agg #[.int .u64 (p : Int), .int .u64 (q : Int), .int .u64 (r : Int), .int .u64 (s : Int)])).run Try.prog w = .ok (.bool true) w := by
  rw [neqR, decide_eq_false h]
  rfl
end Go.Proofs.Ytdeidgbknlmhjab
