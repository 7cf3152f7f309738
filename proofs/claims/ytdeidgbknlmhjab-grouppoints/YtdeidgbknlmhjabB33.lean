import Derived.Test.YtdeidgbknlmhjabCV
import Derived.Test.YtdeidgbknlmhjabRG8
import Derived.Test.YtdeidgbknlmhjabL1
import Derived.ChangeKeysEq
namespace Go.Proofs.Ytdeidgbknlmhjab
open Go.RowKit Go.Sort

theorem u131 : (Try.prog.underlying 131).map (·.isRow) = some true := by kernel_rfl
theorem i131 : (Try.prog.info? 131).map (·.size) = some 33 := by kernel_rfl
theorem u5 : (Try.prog.underlying 5).map (·.isRow) = some false := by kernel_rfl
theorem und131 : Try.prog.underlying 131 = some (.array 33 5) := by kernel_rfl
theorem und5 : Try.prog.underlying 5 = some (.int .u8) := by kernel_rfl
theorem cells5 : Try.prog.cellsOf 5 = 1 := by kernel_rfl
theorem sl33 (g o cap : Nat) (hc : 33 ≤ cap) (w : World) : (Instr.sliceAt 23 (.slice (some ⟨g, o, none⟩) 33 cap) (some (.int .i64 1)) none none).run Try.prog w = .ok (.slice (some ⟨g, o + 1, none⟩) 32 (cap - 1)) w := by
  go_simp
  omega
theorem arr33 (g o cap : Nat) (w : World) : (Instr.arrayAt 131 (.slice (some ⟨g, o, none⟩) 33 cap)).run Try.prog w = .ok (.pointer (some ⟨g, o, none⟩)) w := by kernel_rfl
theorem at23 (g o n cap : Nat) (hn : 0 < n) (w : World) : (Instr.indexAt 23 (.slice (some ⟨g, o, none⟩) n cap) (.int .i64 0)).run Try.prog w = .ok (.pointer (some ⟨g, o, none⟩)) w := by
  have h : (0 : Int) < (n : Int) := by omega
  go_simp
theorem part5 (xs : Array Value) (i : Nat) (v : Value) (h : xs[i]? = some v) (w : World) : (part 5 xs i).run Try.prog w = .ok v w := by
  go_simp
theorem eqI (xs ys : Array Value) (a b : Nat → Int) (D : Nat) (w : World) : ∀ (is : List Nat), (∀ i ∈ is, xs[i]? = some (.int .u8 (a i))) → (∀ i ∈ is, ys[i]? = some (.int .u8 (b i))) →
    (Op.eqItems (D + 1) 5 1 xs ys is).run Try.prog w = .ok (decide (∀ i ∈ is, a i = b i)) w
  | [], _, _ => by
    rw [Op.eqItems]
    simp
  | i :: is, hx, hy => by
    have ih := eqI xs ys a b D w is (fun j hj => hx j (List.mem_cons_of_mem _ hj)) (fun j hj => hy j (List.mem_cons_of_mem _ hj))
    have p1 := part5 xs (i * 1) _ (by rw [Nat.mul_one]; exact hx i List.mem_cons_self) w
    have p2 := part5 ys (i * 1) _ (by rw [Nat.mul_one]; exact hy i List.mem_cons_self) w
    have p3 := run_equalIn_int (P := Try.prog) w D 5 .u8 .u8 (a i) (b i) und5
    rw [Op.eqItems]
    simp only [Sem.run_bind, p1, p2, p3, Result.andThen_ok]
    by_cases h : a i = b i
    · simp only [h, beq_self_eq_true, Bool.not_true, Bool.false_eq_true, if_false, ih, List.forall_mem_cons, true_and]
    · have h2 : (a i == b i) = false := by simpa using h
      simp only [h2, Bool.not_false, if_true, Sem.run_pure, List.forall_mem_cons, h, false_and, decide_false]
/-- 33 bytes as cells. -/
def bl33 (bs : Bs) : List Value := bs.toList.map encB
def z33 : List Value := List.replicate 33 (.int .u8 0)
theorem bl33_at (bs : Bs) (i : Nat) (h : i < bs.size) : (bl33 bs)[i]? = some (.int .u8 (ub bs[i]!)) := by
  unfold bl33
  rw [List.getElem?_map, Array.getElem?_toList, Array.getElem?_eq_getElem h, getElem!_pos bs i h]
  rfl
theorem eqz (bs : Bs) (h : bs.size = 33) (w : World) : (binOp .eql 131 (.agg (bl33 bs).toArray) (.agg z33.toArray)).run Try.prog w = .ok (.bool (decide (∀ i ∈ List.range 33, ub bs[i]! = 0))) w := by
  have hi : (Try.prog.info? 5).isSome = true := by kernel_rfl
  obtain ⟨inf, hinf⟩ := Option.isSome_iff_exists.1 hi
  rw [run_eql_struct, run_equalIn_array w 9999 _ _ und131 hinf, cells5,
    eqI _ _ (fun i => ub bs[i]!) (fun _ => 0) 9998 w (List.range 33) (fun i hi => by
      rw [List.getElem?_toArray]
      exact bl33_at bs i (by rw [h]; exact List.mem_range.1 hi)) (fun i hi => by
      rw [List.getElem?_toArray]
      unfold z33
      rw [List.getElem?_replicate, if_pos (List.mem_range.1 hi)])]
  rfl
@[reducible] def Zero33 (bs : Bs) : Prop := ∀ i ∈ List.range 33, ub bs[i]! = 0
theorem eqz_t {bs : Bs} (h : bs.size = 33) (hz : Zero33 bs) (w : World) : (binOp .eql 131 (.agg (bl33 bs).toArray) (.agg z33.toArray)).run Try.prog w = .ok (.bool true) w := by rw [eqz bs h, decide_eq_true (show ∀ i ∈ List.range 33, ub bs[i]! = 0 from hz)]
theorem eqz_f {bs : Bs} (h : bs.size = 33) (hz : ¬ Zero33 bs) (w : World) : (binOp .eql 131 (.agg (bl33 bs).toArray) (.agg z33.toArray)).run Try.prog w = .ok (.bool false) w := by rw [eqz bs h, decide_eq_false (show ¬ ∀ i ∈ List.range 33, ub bs[i]! = 0 from hz)]
theorem bl33_length {bs : Bs} (h : bs.size = 33) : (bl33 bs).length = 33 := by unfold bl33; rw [List.length_map, Array.length_toList, h]
theorem bl33_range {bs : Bs} {w : World} {g o : Nat} (hB : Holds encB w g o bs) : w.rangeAt g o (bl33 bs) := fun j v hv => by
  have hj : j < bs.size := by
    have := (List.getElem?_eq_some_iff.1 hv).1
    unfold bl33 at this
    rwa [List.length_map, Array.length_toList] at this
  rw [bl33_at bs j hj] at hv
  rw [(hB j hj).1]
  exact hv
/-- All but the first. -/
def tl33 (bs : Bs) : Bs := bs.extract 1 33
theorem tl33_size {bs : Bs} (h : bs.size = 33) : (tl33 bs).size = 32 := by unfold tl33; rw [Array.size_extract, h]; rfl
theorem tl33_holds {bs : Bs} {w : World} {g o : Nat} (h : bs.size = 33) (hB : Holds encB w g o bs) : Holds encB w g (o + 1) (tl33 bs) :=
  Holds.part hB (by rw [tl33_size h, h]; decide) (fun j hj => by
    rw [tl33_size h] at hj
    unfold tl33
    rw [getElem!_pos _ j (by rw [Array.size_extract, h]; omega), getElem!_pos _ (1 + j) (by rw [h]; omega), Array.getElem_extract])

variable {P : Nat} [NeZero P]
theorem Read_y (C : Fld P) {g o cap : Nat} {bs : Bs} (hs : bs.size = 32) (hc : 32 ≤ cap) {x : Fin P} (hx : beV bs.toList = x.val) {w : World} (hg : g < w.heap.size) (hB : Holds encB w g o bs) :
    Calls Try.prog 89 #[gv0, .slice (some ⟨g, o, none⟩) 32 cap] w (Ret fun e w' => Below w.heap.size w w' ∧ e = .tuple #[fv x, .bool true]) :=
  (Read_any 4294968273 0 0 P g o cap bs C.gap w hs hc hg hB).mono (by
    rintro e w' ⟨v, rfl, hb, ⟨hl, v', rfl, h8⟩ | ⟨hl, rfl⟩⟩
    · refine ⟨_, rfl, hb, ?_⟩
      rw [hx] at h8
      rw [h8.nv]
    · have := x.isLt
      omega)
theorem Read_n (C : Fld P) {g o cap : Nat} {bs : Bs} (hs : bs.size = 32) (hc : 32 ≤ cap) (hx : ¬ beV bs.toList < P) {w : World} (hg : g < w.heap.size) (hB : Holds encB w g o bs) :
    Calls Try.prog 89 #[gv0, .slice (some ⟨g, o, none⟩) 32 cap] w (Ret fun e w' => Below w.heap.size w w' ∧ e = .tuple #[fv (0 : Fin P), .bool false]) :=
  (Read_any 4294968273 0 0 P g o cap bs C.gap w hs hc hg hB).mono (by
    rintro e w' ⟨v, rfl, hb, ⟨hl, v', rfl, h8⟩ | ⟨hl, rfl⟩⟩
    · exact absurd hl hx
    · refine ⟨_, rfl, hb, ?_⟩
      rw [← zero_fv])
/-- Bytes as a pair. -/
def rdx (P : Nat) [NeZero P] (bs : Bs) : Fin P := Fin.ofNat P (beV (tl33 bs).toList)
def rd (P : Nat) [NeZero P] (bs : Bs) : Option (Fin P × Fin P) :=
  if bs.size = 33 then
    if Zero33 bs then some (0, 0) else
    if ub bs[0]! = 2 ∨ ub bs[0]! = 3 then
      if beV (tl33 bs).toList < P then
        (rt (rdx P bs * rdx P bs * rdx P bs + 7)).map (fun y => (rdx P bs, if ub bs[0]! = 3 then 0 - y else y))
      else none
    else none
  else none
def rdV : Option (Fin P × Fin P) → Value
  | none => .tuple #[pv (0 : Fin P) 0, .bool false]
  | some p => .tuple #[pv p.1 p.2, .bool true]
end Go.Proofs.Ytdeidgbknlmhjab
