import Derived.Test.YtdeidgbknlmhjabF0
import Derived.Test.YtdeidgbknlmhjabE2
import Derived.Test.YtdeidgbknlmhjabC3
namespace Go.Proofs.Ytdeidgbknlmhjab
open Go.RowKit Go.Sort

def gv0 : Value := .agg #[.int .u64 4294968273, .int .u64 0, .int .u64 0, .int .u64 0]
def gv1 : Value := .agg #[.int .u64 4624529908474429119, .int .u64 4994812053365940164, .int .u64 1, .int .u64 0]

theorem gap0 : Gap 4294968273 0 0 p0 := ⟨by decide, by decide, by decide, Or.inl ⟨rfl, rfl⟩, by decide +kernel, by decide +kernel, by decide +kernel⟩
theorem gap1 : Gap 4624529908474429119 4994812053365940164 1 p1 := ⟨by decide, by decide, by decide, Or.inr ⟨4994812053365940165, by decide +kernel, by decide⟩, by decide +kernel, by decide +kernel, by decide +kernel⟩

theorem Coordinates_any (w : World) :
    Calls Try.prog 63 #[] w fun e w' => e = .returned (.agg #[.int .u64 4294968273, .int .u64 0, .int .u64 0, .int .u64 0]) ∧ w' = w.alloc (.cells #[.int .u64 4294968273, .int .u64 0, .int .u64 0, .int .u64 0] 79) := by
  go_enter Try.func63, Try.ntmps63
  go_wp2
  refine bodyPost_ret (v := ?v) ?hr rfl ?hR
  case hr => simp [results, Try.results63, go_sem]; rfl
  exact ⟨rfl, rfl⟩

theorem Scalars_any (w : World) :
    Calls Try.prog 88 #[] w fun e w' => e = .returned (.agg #[.int .u64 4624529908474429119, .int .u64 4994812053365940164, .int .u64 1, .int .u64 0]) ∧ w' = w.alloc (.cells #[.int .u64 4624529908474429119, .int .u64 4994812053365940164, .int .u64 1, .int .u64 0] 79) := by
  go_enter Try.func88, Try.ntmps88
  go_wp2
  refine bodyPost_ret (v := ?v) ?hr rfl ?hR
  case hr => simp [results, Try.results88, go_sem]; rfl
  exact ⟨rfl, rfl⟩

set_option maxHeartbeats 1000000 in
theorem byKind_no (k : Int) (a : Option Addr) (n : Nat) (hk : k < 0 ∨ (n : Int) ≤ k) (w : World) :
    Calls Try.prog 62 #[.int .i64 k, .slice a n n] w (Ret fun e w' => Below w.heap.size w w' ∧ e = .tuple #[.agg #[.int .u64 0, .int .u64 0, .int .u64 0, .int .u64 0], .int .i64 2]) := by
  by_cases h0 : k < 0
  · have d1 : decide (k < 0) = true := decide_eq_true h0
    go_enter Try.func62, Try.ntmps62
    go_wp2
    refine bodyPost_ret (v := ?v) ?hr rfl ?hR
    case hr => simp [results, Try.results62, go_sem]; rfl
    exact ⟨_, rfl, below2 _ _ _, rfl⟩
  · have d1 : decide (k < 0) = false := decide_eq_false h0
    have h1 : (n : Int) ≤ k := hk.resolve_left h0
    have d2 : decide ((n : Int) ≤ k) = true := decide_eq_true h1
    go_enter Try.func62, Try.ntmps62
    go_wp2
    refine bodyPost_ret (v := ?v2) ?hr2 rfl ?hR2
    case hr2 => simp [results, Try.results62, go_sem]; rfl
    exact ⟨_, rfl, below2 _ _ _, rfl⟩

set_option maxHeartbeats 1000000 in
theorem byKind_0 (g n a b c d : Nat) (hn : 0 < n) (w : World) (A : At4 w g a b c d) :
    Calls Try.prog 62 #[.int .i64 0, .slice (some ⟨g, 0, none⟩) n n] w (Ret fun e w' => Below w.heap.size w w' ∧ e = .tuple #[.agg #[.int .u64 (a : Int), .int .u64 (b : Int), .int .u64 (c : Int), .int .u64 (d : Int)], .int .i64 0]) := by
  obtain ⟨c0, c1, c2, c3, cf⟩ := id A
  have z := A.lt
  have h1 : ¬ (n : Int) ≤ 0 := by omega
  have h2 : (0 : Int) < (n : Int) := by omega
  have d2 : decide ((n : Int) ≤ 0) = false := decide_eq_false h1
  go_enter Try.func62, Try.ntmps62
  go_wp2
  refine bodyPost_ret (v := ?v) ?hr rfl ?hR
  case hr => simp [results, Try.results62, go_sem]; rfl
  exact ⟨_, rfl, below1 _ _, rfl⟩

set_option maxHeartbeats 1000000 in
theorem byKind_1 (g n a b c d : Nat) (hn : 1 < n) (w : World) (z : g < w.heap.size) (c0 : w.cell? ⟨g, 4, none⟩ = some (.int .u64 (a : Int))) (c1 : w.cell? ⟨g, 5, none⟩ = some (.int .u64 (b : Int)))
    (c2 : w.cell? ⟨g, 6, none⟩ = some (.int .u64 (c : Int))) (c3 : w.cell? ⟨g, 7, none⟩ = some (.int .u64 (d : Int))) :
    Calls Try.prog 62 #[.int .i64 1, .slice (some ⟨g, 0, none⟩) n n] w (Ret fun e w' => Below w.heap.size w w' ∧ e = .tuple #[.agg #[.int .u64 (a : Int), .int .u64 (b : Int), .int .u64 (c : Int), .int .u64 (d : Int)], .int .i64 0]) := by
  have h1 : ¬ (n : Int) ≤ 1 := by omega
  have h2 : (1 : Int) < (n : Int) := by omega
  have d2 : decide ((n : Int) ≤ 1) = false := decide_eq_false h1
  go_enter Try.func62, Try.ntmps62
  go_wp2
  refine bodyPost_ret (v := ?v) ?hr rfl ?hR
  case hr => simp [results, Try.results62, go_sem]; rfl
  exact ⟨_, rfl, below1 _ _, rfl⟩

set_option maxHeartbeats 1000000 in
theorem primeOf_0 (w : World) : Calls Try.prog 48 #[.int .i64 0] w (Ret fun e w' => Below w.heap.size w w' ∧ e = .tuple #[.agg #[.int .u64 4294968273, .int .u64 0, .int .u64 0, .int .u64 0], .int .i64 0]) := by
  go_enter Try.func48, Try.ntmps48
  go_wp2_with fail
  refine (Coordinates_any _).mono ?_
  rintro e w1 ⟨rfl, rfl⟩
  go_wp2_with fail
  refine (Scalars_any _).mono ?_
  rintro e w1 ⟨rfl, rfl⟩
  go_wp2_with fail
  have R := ((((At4.made w 79 0 0 0 0 rfl).alloc (.cells #[.int .u64 4294968273, .int .u64 0, .int .u64 0, .int .u64 0] 79)).alloc (.cells #[.int .u64 4624529908474429119, .int .u64 4994812053365940164, .int .u64 1, .int .u64 0] 79)).alloc (.cells #[.int .u64 4294968273, .int .u64 0, .int .u64 0, .int .u64 0, .int .u64 4624529908474429119, .int .u64 4994812053365940164, .int .u64 1, .int .u64 0] 79))
  have BL := below4 w (.cells #[.int .u64 0, .int .u64 0, .int .u64 0, .int .u64 0] 79) (.cells #[.int .u64 4294968273, .int .u64 0, .int .u64 0, .int .u64 0] 79) (.cells #[.int .u64 4624529908474429119, .int .u64 4994812053365940164, .int .u64 1, .int .u64 0] 79) (.cells #[.int .u64 4294968273, .int .u64 0, .int .u64 0, .int .u64 0, .int .u64 4624529908474429119, .int .u64 4994812053365940164, .int .u64 1, .int .u64 0] 79)
  have A := At8.made (((w.alloc (.cells #[.int .u64 0, .int .u64 0, .int .u64 0, .int .u64 0] 79)).alloc (.cells #[.int .u64 4294968273, .int .u64 0, .int .u64 0, .int .u64 0] 79)).alloc (.cells #[.int .u64 4624529908474429119, .int .u64 4994812053365940164, .int .u64 1, .int .u64 0] 79)) 79 4294968273 0 0 0 4624529908474429119 4994812053365940164 1 0 (k := w.heap.size + 1 + 1 + 1) (by simp)
  generalize World.alloc _ _ = W0 at R BL A ⊢
  refine (byKind_0 _ 2 4294968273 0 0 0 (by decide) _ ⟨A.c0, A.c1, A.c2, A.c3, A.fz⟩).mono ?_
  rintro e w1 ⟨v, rfl, hb1, rfl⟩
  replace R := R.call hb1
  have HB : Hid (Below w.heap.size w w1) := BL.trans (hb1.mono BL.size)
  clear BL A hb1
  obtain ⟨rc0, rc1, rc2, rc3, rf⟩ := id R
  have z := R.lt
  go_wp2
  have RF : At4 (set4 w1 w.heap.size (.int .u64 4294968273) (.int .u64 0) (.int .u64 0) (.int .u64 0)) w.heap.size 4294968273 0 0 0 := R.self4 4294968273 0 0 0
  unfold set4 at RF
  refine bodyPost_ret (v := ?v) ?hr rfl ?hR
  case hr => simp [results, Try.results48, go_sem, RF.c0, RF.c1, RF.c2, RF.c3]; rfl
  exact ⟨_, rfl, below_set4 HB.out (Nat.le_refl _) _ _ _ _, rfl⟩

set_option maxHeartbeats 1000000 in
theorem primeOf_1 (w : World) : Calls Try.prog 48 #[.int .i64 1] w (Ret fun e w' => Below w.heap.size w w' ∧ e = .tuple #[.agg #[.int .u64 4624529908474429119, .int .u64 4994812053365940164, .int .u64 1, .int .u64 0], .int .i64 0]) := by
  go_enter Try.func48, Try.ntmps48
  go_wp2_with fail
  refine (Coordinates_any _).mono ?_
  rintro e w1 ⟨rfl, rfl⟩
  go_wp2_with fail
  refine (Scalars_any _).mono ?_
  rintro e w1 ⟨rfl, rfl⟩
  go_wp2_with fail
  have R := ((((At4.made w 79 0 0 0 0 rfl).alloc (.cells #[.int .u64 4294968273, .int .u64 0, .int .u64 0, .int .u64 0] 79)).alloc (.cells #[.int .u64 4624529908474429119, .int .u64 4994812053365940164, .int .u64 1, .int .u64 0] 79)).alloc (.cells #[.int .u64 4294968273, .int .u64 0, .int .u64 0, .int .u64 0, .int .u64 4624529908474429119, .int .u64 4994812053365940164, .int .u64 1, .int .u64 0] 79))
  have BL := below4 w (.cells #[.int .u64 0, .int .u64 0, .int .u64 0, .int .u64 0] 79) (.cells #[.int .u64 4294968273, .int .u64 0, .int .u64 0, .int .u64 0] 79) (.cells #[.int .u64 4624529908474429119, .int .u64 4994812053365940164, .int .u64 1, .int .u64 0] 79) (.cells #[.int .u64 4294968273, .int .u64 0, .int .u64 0, .int .u64 0, .int .u64 4624529908474429119, .int .u64 4994812053365940164, .int .u64 1, .int .u64 0] 79)
  have A := At8.made (((w.alloc (.cells #[.int .u64 0, .int .u64 0, .int .u64 0, .int .u64 0] 79)).alloc (.cells #[.int .u64 4294968273, .int .u64 0, .int .u64 0, .int .u64 0] 79)).alloc (.cells #[.int .u64 4624529908474429119, .int .u64 4994812053365940164, .int .u64 1, .int .u64 0] 79)) 79 4294968273 0 0 0 4624529908474429119 4994812053365940164 1 0 (k := w.heap.size + 1 + 1 + 1) (by simp)
  generalize World.alloc _ _ = W0 at R BL A ⊢
  refine (byKind_1 _ 2 4624529908474429119 4994812053365940164 1 0 (by decide) _ A.lt A.c4 A.c5 A.c6 A.c7).mono ?_
  rintro e w1 ⟨v, rfl, hb1, rfl⟩
  replace R := R.call hb1
  have HB : Hid (Below w.heap.size w w1) := BL.trans (hb1.mono BL.size)
  clear BL A hb1
  obtain ⟨rc0, rc1, rc2, rc3, rf⟩ := id R
  have z := R.lt
  go_wp2
  have RF : At4 (set4 w1 w.heap.size (.int .u64 4624529908474429119) (.int .u64 4994812053365940164) (.int .u64 1) (.int .u64 0)) w.heap.size 4624529908474429119 4994812053365940164 1 0 := R.self4 4624529908474429119 4994812053365940164 1 0
  unfold set4 at RF
  refine bodyPost_ret (v := ?v) ?hr rfl ?hR
  case hr => simp [results, Try.results48, go_sem, RF.c0, RF.c1, RF.c2, RF.c3]; rfl
  exact ⟨_, rfl, below_set4 HB.out (Nat.le_refl _) _ _ _ _, rfl⟩

set_option maxHeartbeats 1000000 in
theorem primeOf_n (k : Int) (hk : k < 0 ∨ 2 ≤ k) (w : World) : Calls Try.prog 48 #[.int .i64 k] w (Ret fun e w' => Below w.heap.size w w' ∧ e = .tuple #[.agg #[.int .u64 0, .int .u64 0, .int .u64 0, .int .u64 0], .int .i64 2]) := by
  go_enter Try.func48, Try.ntmps48
  go_wp2_with fail
  refine (Coordinates_any _).mono ?_
  rintro e w1 ⟨rfl, rfl⟩
  go_wp2_with fail
  refine (Scalars_any _).mono ?_
  rintro e w1 ⟨rfl, rfl⟩
  go_wp2_with fail
  have R := ((((At4.made w 79 0 0 0 0 rfl).alloc (.cells #[.int .u64 4294968273, .int .u64 0, .int .u64 0, .int .u64 0] 79)).alloc (.cells #[.int .u64 4624529908474429119, .int .u64 4994812053365940164, .int .u64 1, .int .u64 0] 79)).alloc (.cells #[.int .u64 4294968273, .int .u64 0, .int .u64 0, .int .u64 0, .int .u64 4624529908474429119, .int .u64 4994812053365940164, .int .u64 1, .int .u64 0] 79))
  have BL := below4 w (.cells #[.int .u64 0, .int .u64 0, .int .u64 0, .int .u64 0] 79) (.cells #[.int .u64 4294968273, .int .u64 0, .int .u64 0, .int .u64 0] 79) (.cells #[.int .u64 4624529908474429119, .int .u64 4994812053365940164, .int .u64 1, .int .u64 0] 79) (.cells #[.int .u64 4294968273, .int .u64 0, .int .u64 0, .int .u64 0, .int .u64 4624529908474429119, .int .u64 4994812053365940164, .int .u64 1, .int .u64 0] 79)
  generalize World.alloc _ _ = W0 at R BL ⊢
  refine (byKind_no k _ 2 hk _).mono ?_
  rintro e w1 ⟨v, rfl, hb1, rfl⟩
  replace R := R.call hb1
  have HB : Hid (Below w.heap.size w w1) := BL.trans (hb1.mono BL.size)
  clear BL hb1
  obtain ⟨rc0, rc1, rc2, rc3, rf⟩ := id R
  have z := R.lt
  go_wp2
  have RF : At4 (set4 w1 w.heap.size (.int .u64 0) (.int .u64 0) (.int .u64 0) (.int .u64 0)) w.heap.size 0 0 0 0 := R.self4 0 0 0 0
  unfold set4 at RF
  refine bodyPost_ret (v := ?v) ?hr rfl ?hR
  case hr => simp [results, Try.results48, go_sem, RF.c0, RF.c1, RF.c2, RF.c3]; rfl
  exact ⟨_, rfl, below_set4 HB.out (Nat.le_refl _) _ _ _ _, rfl⟩
end Go.Proofs.Ytdeidgbknlmhjab
