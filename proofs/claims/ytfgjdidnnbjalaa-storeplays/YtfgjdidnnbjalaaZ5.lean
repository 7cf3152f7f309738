import Derived.ChangeKeysEq
import Derived.Deep.AppendSrc
import Derived.Lib.AppendZeros
import Derived.Lib.SlBytesConst
import Derived.Laws.OwnMore
import Derived.Test.YtfgjdidnnbjalaaZ4
set_option linter.unusedVariables false
set_option linter.unusedSimpArgs false
namespace Go.Proofs.Ytfgjdidnnbjalaa
open Go.RowKit Go.Sort
theorem u5 : (Try.prog.underlying 5).map (·.isRow) = some false := by kernel_rfl
theorem und5 : Try.prog.underlying 5 = some (.int .u8) := by kernel_rfl
theorem cells5 : Try.prog.cellsOf 5 = 1 := by kernel_rfl
theorem sl33 (g o cap : Nat) (hc : 33 ≤ cap) (w : World) : (Instr.sliceAt 32 (.slice (some ⟨g, o, none⟩) 33 cap) (some (.int .i64 1)) none none).run Try.prog w = .ok (.slice (some ⟨g, o + 1, none⟩) 32 (cap - 1)) w := by
  go_simp
  omega
theorem at23 (g o n cap : Nat) (hn : 0 < n) (w : World) : (Instr.indexAt 32 (.slice (some ⟨g, o, none⟩) n cap) (.int .i64 0)).run Try.prog w = .ok (.pointer (some ⟨g, o, none⟩)) w := by
  have h : (0 : Int) < (n : Int) := by omega
  go_simp
theorem part5 (xs : Array Value) (i : Nat) (v : Value) (h : xs[i]? = some v) (w : World) : (part 5 xs i).run Try.prog w = .ok v w := by
  go_simp
theorem eqI (xs ys : Array Value) (a b : Nat → Int) (D : Nat) (w : World) : ∀ (is : List Nat), (∀ i ∈ is, xs[i]? = some (.int .u8 (a i))) → (∀ i ∈ is, ys[i]? = some (.int .u8 (b i))) →
    (Op.eqItems (D + 1) 5 1 xs ys is).run Try.prog w = .ok (decide (∀ i ∈ is, a i = b i)) w
  | [], _, _ => by
    rw [Op.eqItems]
    simp
  | i :: is, hx, hy => by
    have ih := eqI xs ys a b D w is (fun j hj => hx j (List.mem_cons_of_mem _ hj)) (fun j hj => hy j (List.mem_cons_of_mem _ hj))
    have p1 := part5 xs (i * 1) _ (by rw [Nat.mul_one]; exact hx i List.mem_cons_self) w
    have p2 := part5 ys (i * 1) _ (by rw [Nat.mul_one]; exact hy i List.mem_cons_self) w
    have p3 := run_equalIn_int (P := Try.prog) w D 5 .u8 .u8 (a i) (b i) und5
    rw [Op.eqItems]
    simp only [Sem.run_bind, p1, p2, p3, Result.andThen_ok]
    by_cases h : a i = b i
    · simp only [h, beq_self_eq_true, Bool.not_true, Bool.false_eq_true, if_false, ih, List.forall_mem_cons, true_and]
    · have h2 : (a i == b i) = false := by simpa using h
      simp only [h2, Bool.not_false, if_true, Sem.run_pure, List.forall_mem_cons, h, false_and, decide_false]
/-- 33 bytes as cells. -/
def bl33 (bs : Bs) : List Value := bs.toList.map encB
def z33 : List Value := List.replicate 33 (.int .u8 0)
theorem bl33_at (bs : Bs) (i : Nat) (h : i < bs.size) : (bl33 bs)[i]? = some (.int .u8 (ub bs[i]!)) := by
  unfold bl33
  rw [List.getElem?_map, Array.getElem?_toList, Array.getElem?_eq_getElem h, getElem!_pos bs i h]
  rfl
@[reducible] def Zero33 (bs : Bs) : Prop := ∀ i ∈ List.range 33, ub bs[i]! = 0
theorem bl33_length {bs : Bs} (h : bs.size = 33) : (bl33 bs).length = 33 := by unfold bl33; rw [List.length_map, Array.length_toList, h]
theorem bl33_range {bs : Bs} {w : World} {g o : Nat} (hB : Holds encB w g o bs) : w.rangeAt g o (bl33 bs) := fun j v hv => by
  have hj : j < bs.size := by
    have := (List.getElem?_eq_some_iff.1 hv).1
    unfold bl33 at this
    rwa [List.length_map, Array.length_toList] at this
  rw [bl33_at bs j hj] at hv
  rw [(hB j hj).1]
  exact hv
/-- All but the first. -/
def tl33 (bs : Bs) : Bs := bs.extract 1 33
theorem tl33_size {bs : Bs} (h : bs.size = 33) : (tl33 bs).size = 32 := by unfold tl33; rw [Array.size_extract, h]; rfl
theorem tl33_holds {bs : Bs} {w : World} {g o : Nat} (h : bs.size = 33) (hB : Holds encB w g o bs) : Holds encB w g (o + 1) (tl33 bs) :=
  Holds.part hB (by rw [tl33_size h, h]; decide) (fun j hj => by
    rw [tl33_size h] at hj
    unfold tl33
    rw [getElem!_pos _ j (by rw [Array.size_extract, h]; omega), getElem!_pos _ (1 + j) (by rw [h]; omega), Array.getElem_extract])
variable {P : Nat} [NeZero P]
/-- Bytes as a pair. -/
def rdx (P : Nat) [NeZero P] (bs : Bs) : Fin P := Fin.ofNat P (beV (tl33 bs).toList)
def rd (P : Nat) [NeZero P] (bs : Bs) : Option (Fin P × Fin P) :=
  if bs.size = 33 then
    if Zero33 bs then some (0, 0) else
    if ub bs[0]! = 2 ∨ ub bs[0]! = 3 then
      if beV (tl33 bs).toList < P then
        (rt (rdx P bs * rdx P bs * rdx P bs + 7)).map (fun y => (rdx P bs, if ub bs[0]! = 3 then 0 - y else y))
      else none
    else none
  else none
def rdV : Option (Fin P × Fin P) → Value
  | none => .tuple #[pv (0 : Fin P) 0, .bool false]
  | some p => .tuple #[pv p.1 p.2, .bool true]
end Go.Proofs.Ytfgjdidnnbjalaa
namespace Go.Proofs.Ytfgjdidnnbjalaa
open Go.RowKit Go.Sort
variable {P : Nat} [NeZero P]
abbrev v33 (g o cap : Nat) : Value := .slice (some ⟨g, o, none⟩) 33 cap
/-- Bytes as an argument: where there are 33, they lie there. -/
def Arg33 (w : World) (v : Value) (bs : Bs) : Prop := ∃ (p : Option Addr) (n cap : Nat), v = .slice p n cap ∧ bs.size = n ∧ (n = 33 → ∃ g o, p = some ⟨g, o, none⟩ ∧ 33 ≤ cap ∧ g < w.heap.size ∧ Holds encB w g o bs)
theorem Arg33.below {w w1 : World} {v : Value} {bs : Bs} (h : Arg33 w v bs) (hb : Below w.heap.size w w1) : Arg33 w1 v bs := by
  obtain ⟨p, n, cap, rfl, hs, h1⟩ := h
  refine ⟨p, n, cap, rfl, hs, fun h2 => ?_⟩
  obtain ⟨g, o, h3, h4, h6, h7⟩ := h1 h2
  exact ⟨g, o, h3, h4, Nat.lt_of_lt_of_le h6 hb.size, Holds.below h7 hb h6⟩
end Go.Proofs.Ytfgjdidnnbjalaa
namespace Go.Proofs.Ytfgjdidnnbjalaa
open Go.RowKit Go.Sort Go.Deep
variable {P : Nat} [NeZero P]
/-- A number's 32 bytes. -/
def bx (n : Nat) : Bs := be32 (n % 18446744073709551616) (n / 18446744073709551616 % 18446744073709551616) (n / 340282366920938463463374607431768211456 % 18446744073709551616) (n / 6277101735386680763835789423207666416102355444464034512896 % 18446744073709551616)
theorem bx_size (n : Nat) : (bx n).size = 32 := by unfold bx; exact be32_size _ _ _ _
def mark (n : Nat) : UInt8 := if n % 2 = 1 then 3 else 2
/-- A point's 33 bytes. -/
def by33 (x y : Fin P) : Bs := if x = 0 ∧ y = 0 then Array.replicate 33 0 else #[mark y.val] ++ bx x.val
theorem info5b : (Try.prog.info? 5).map (fun i => (i.zero, i.size, i.bytes)) = some (some (.int .u8 0), 1, 1) := by kernel_rfl
theorem und23 : Try.prog.underlying 32 = some (.slice 5) := by kernel_rfl
/-- What bytes answers. -/
def BytesR (w : World) (T : Bs) (e : Value) (w' : World) : Prop := ∃ g cap, e = .slice (some ⟨g, 0, none⟩) 33 cap ∧ 33 ≤ cap ∧ w.heap.size ≤ g ∧ g < w'.heap.size ∧ Holds encB w' g 0 T
theorem mk33 (w : World) : (Instr.makeSlice 32 (.int .i64 33) (.int .i64 33)).run Try.prog w = .ok (.slice (some ⟨w.heap.size, 0, none⟩) 33 33) (w.alloc (.cells (madeCells #[.int .u8 0] 33) 5)) :=
  run_make_row' (P := Try.prog) 32 5 (.int .u8 0) 1 und23 info5b rfl .i64 .i64 33 (by decide) (by decide) w
theorem made33 (w : World) (o : Obj) : Holds encB ((w.alloc o).alloc (.cells (madeCells #[.int .u8 0] 33) 5)) (w.heap.size + 1) 0 (Array.replicate 33 0) := by
  have h := Holds.made (enc := encB) (w.alloc o) 5 33 (0 : UInt8)
  rw [World.size_alloc] at h
  exact h
omit [NeZero P] in
theorem pv_words (x y : Fin P) : pv x y = .agg #[.int .u64 ((x.val % 18446744073709551616 : Nat) : Int), .int .u64 ((x.val / 18446744073709551616 % 18446744073709551616 : Nat) : Int), .int .u64 ((x.val / 340282366920938463463374607431768211456 % 18446744073709551616 : Nat) : Int), .int .u64 ((x.val / 6277101735386680763835789423207666416102355444464034512896 % 18446744073709551616 : Nat) : Int), .int .u64 ((y.val % 18446744073709551616 : Nat) : Int), .int .u64 ((y.val / 18446744073709551616 % 18446744073709551616 : Nat) : Int), .int .u64 ((y.val / 340282366920938463463374607431768211456 % 18446744073709551616 : Nat) : Int), .int .u64 ((y.val / 6277101735386680763835789423207666416102355444464034512896 % 18446744073709551616 : Nat) : Int)] := rfl
theorem grow33 (w : World) (k g m : Nat) (B : Bs) (hB : B.size = 32) (hc : w.cell? ⟨k, 0, none⟩ = some (.int .u8 (m : Int))) (hH : Holds encB w g 0 B) (hm : m < 256 := by decide) :
    ∃ (w' : World) (cap : Nat), (Builtin.append_ #[32, 32] 32 #[.slice (some ⟨k, 0, none⟩) 1 1, .slice (some ⟨g, 0, none⟩) 32 32]).run Try.prog w = .ok (.slice (some ⟨w.heap.size, 0, none⟩) 33 cap) w' ∧ Below w.heap.size w w' ∧ 33 ≤ cap ∧ w.heap.size < w'.heap.size ∧ Holds encB w' w.heap.size 0 (#[UInt8.ofNat m] ++ B) := by
  obtain ⟨i, hi, hzz⟩ := Option.map_eq_some_iff.1 info5b
  simp only [Prod.mk.injEq] at hzz
  obtain ⟨hz, hs, hb⟩ := hzz
  have hap := run_append_grow (P := Try.prog) w 32 32 5 i (.int .u8 0) und23 hi hz ⟨k, 0, none⟩ 1 1 [.int .u8 (m : Int)] (by rw [hs]; rfl) (fun j v hj => by
      cases j with
      | zero =>
        obtain rfl : Value.int .u8 (m : Int) = v := by simpa using hj
        rw [Addr.add_mid]
        exact hc
      | succ j => simp at hj) ⟨g, 0, none⟩ 32 32 (B.toList.map encB) (by rw [hs, List.length_map, Array.length_toList, hB]) (fun j v hj => by
      have hj' : j < B.size := by
        have := (List.getElem?_eq_some_iff.1 hj).1
        rwa [List.length_map, Array.length_toList] at this
      rw [Addr.add_mid, (hH j hj').1]
      rw [List.getElem?_map, Array.getElem?_toList, Array.getElem?_eq_getElem hj'] at hj
      rw [getElem!_pos B j hj']
      exact hj) (by decide) (by decide) (by rw [hb]; decide)
  refine ⟨_, _, hap, ?_, ?_, ?_, ?_⟩
  · exact (Below.refl _ w).drew.trans (below1 w.drew _)
  · exact grownCap_ge w (1 + 32) 1 5
  · show w.drew.heap.size < (w.drew.alloc _).heap.size
    rw [World.size_alloc]
    exact Nat.lt_succ_self _
  · intro j hj
    have hsz : (#[UInt8.ofNat m] ++ B).size = 33 := by rw [Array.size_append, hB]; rfl
    have hj' : j < 33 := by rw [← hsz]; exact hj
    refine ⟨?_, World.frozen?_alloc_new w.drew _ _ _⟩
    show (w.drew.alloc _).cell? ⟨w.drew.heap.size, 0 + j, none⟩ = _
    rw [Nat.zero_add, World.cell?_alloc_new, getElem!_pos _ j hj, Array.getElem?_append_left (by
      rw [Array.size_append, List.size_toArray, List.size_toArray, List.length_map, Array.length_toList]
      show j < 1 + B.size
      omega)]
    cases j with
    | zero =>
      rw [Array.getElem?_append_left (by simp), Array.getElem_append_left (by simp)]
      show some (Value.int .u8 (m : Int)) = some (encB (UInt8.ofNat m))
      unfold encB
      rw [ub_ofNat, Nat.mod_eq_of_lt hm]
    | succ i =>
      rw [Array.getElem?_append_right (by simp), Array.getElem_append_right (by simp), List.getElem?_toArray, List.getElem?_map, Array.getElem?_toList]
      show Option.map encB B[i]? = some (encB B[i])
      rw [Array.getElem?_eq_getElem (by omega)]
      rfl
end Go.Proofs.Ytfgjdidnnbjalaa
namespace Go.Proofs.Ytfgjdidnnbjalaa
open Go.RowKit Go.Sort Go.Deep
theorem u23 : (Try.prog.underlying 32).map (·.isRow) = some false := by kernel_rfl
theorem at46 (k o n c i : Nat) (hi : i < n) (w : World) : (Instr.indexAt 72 (.slice (some ⟨k, o, none⟩) n c) (.int .i64 (i : Int))).run Try.prog w = .ok (.pointer (some ⟨k, o + i, none⟩)) w := by
  have h1 : ¬ (i : Int) < 0 := by omega
  have h2 : (i : Int) < n := by omega
  go_simp
/-- Rows of sz cells: m of them are there. -/
structure Rows (sz N : Nat) (cell : Nat → List Value) (m : Nat) (C : List Value) : Prop where
  len : C.length = sz * N
  row : ∀ j r, j < m → r < sz → C[sz * j + r]? = (cell j)[r]?
theorem Rows.next {sz N m : Nat} {cell : Nat → List Value} {C : List Value} (h : Rows sz N cell m C) (hm : m < N) (hc : (cell m).length = sz) : Rows sz N cell (m + 1) (RG.rep C (0 + sz * m) (cell m)) := by
  have hlen := h.len
  have hb : sz * m + sz ≤ sz * N := by rw [← Nat.mul_succ]; exact Nat.mul_le_mul_left _ hm
  have hl : 0 + sz * m + (cell m).length ≤ C.length := by rw [hc]; omega
  refine ⟨by rw [RG.rep_length hl]; exact hlen, fun j r hj hr => ?_⟩
  rw [RG.rep_at hl]
  by_cases hjm : j = m
  · subst hjm
    rw [if_pos (by rw [hc]; omega), show sz * j + r - (0 + sz * j) = r by omega]
  · have h2 : sz * j + sz ≤ sz * m := by rw [← Nat.mul_succ]; exact Nat.mul_le_mul_left _ (by omega)
    rw [if_neg (by rw [hc]; omega)]
    exact h.row j r (by omega) hr
/-- Bytes as a number of the order. -/
def rq (N : Nat) (bs : Bs) : Option Nat := if bs.size = 32 ∧ beV bs.toList < N then some (beV bs.toList) else none
def rqV : Option Nat → Value
  | none => .tuple #[nv 0, .bool false]
  | some n => .tuple #[nv n, .bool true]
end Go.Proofs.Ytfgjdidnnbjalaa
namespace Go.Proofs.Ytfgjdidnnbjalaa
open Go.RowKit Go.Sort Go.Deep
def Texts (w : World) (q : Option Addr) (n : Nat) (S : Nat → ByteArray) : Prop := 0 < n → ∃ gg oo, q = some ⟨gg, oo, none⟩ ∧ gg < w.heap.size ∧ ∀ j, j < n → w.cell? ⟨gg, oo + j, none⟩ = some (.string (S j))
theorem Texts.below {w w1 : World} {q : Option Addr} {n : Nat} {S : Nat → ByteArray} (h : Texts w q n S) (hb : Below w.heap.size w w1) : Texts w1 q n S := fun hn => by
  obtain ⟨gg, oo, h1, h2, h3⟩ := h hn
  exact ⟨gg, oo, h1, Nat.lt_of_lt_of_le h2 hb.size, fun j hj => by rw [hb.cell (p := ⟨gg, oo + j, none⟩) h2]; exact h3 j hj⟩
/-- A list of bytes' slices that grows, each made of a text. -/
def AL (W : World) (B k : Nat) (v : Value) (S : Nat → ByteArray) : Prop :=
  (k = 0 ∧ v = .slice none 0 0) ∨ ∃ g cap vs cur, v = .slice (some ⟨g, 0, none⟩) k cap ∧ vs.length = k ∧ 0 < k ∧ B ≤ g ∧ ListAt W g cap vs cur ∧ ∀ j, j < k → ∃ gx c, vs[j]! = .slice (some ⟨gx, 0, none⟩) (S j).size c ∧ (S j).size ≤ c ∧ gx ≠ g ∧ gx < W.heap.size ∧ Holds encB W gx 0 (S j).data
theorem AL.below {W w1 : World} {B k : Nat} {v : Value} {S : Nat → ByteArray} (h : AL W B k v S) (hb : Below W.heap.size W w1) : AL w1 B k v S := by
  rcases h with h | ⟨g, cap, vs, cur, h1, h2, h3, h4, h5, h6⟩
  · exact Or.inl h
  · refine Or.inr ⟨g, cap, vs, cur, h1, h2, h3, h4, h5.below hb, fun j hj => ?_⟩
    obtain ⟨gx, c, e1, e2, e3, e4, e5⟩ := h6 j hj
    exact ⟨gx, c, e1, e2, e3, Nat.lt_of_lt_of_le e4 hb.size, Holds.below e5 hb e4⟩
theorem Holds.other0 {W w1 : World} {b o m g : Nat} {T : Bs} (h : Holds encB W g 0 T) (k : Only b o m W w1) (hne : g ≠ b) : Holds encB w1 g 0 T := by
  by_cases h0 : 0 < T.size
  · exact Holds.other h k hne h0
  · exact fun j hj => absurd hj (by omega)
theorem AL.push {wr W : World} {B k cap : Nat} {v : Value} {s : ByteArray} {S : Nat → ByteArray} (h : AL wr B k v S) (hB : B ≤ wr.heap.size) (hk : k ≤ 1048576) (hb : Below wr.heap.size wr W) (hlt : wr.heap.size < W.heap.size) (hc : s.size ≤ cap) (hH : Holds encB W wr.heap.size 0 s.data) (hs : s = S k) :
    ∃ v' w', (Builtin.append_ #[72, 72] 72 #[v, .slice (some ⟨W.heap.size, 0, none⟩) 1 1]).run Try.prog (W.alloc (.cells #[.slice (some ⟨wr.heap.size, 0, none⟩) s.size cap] 32)) = .ok v' w' ∧ AL w' B (k + 1) v' S ∧ Below B wr w' := by
  have hr : (W.alloc (.cells #[.slice (some ⟨wr.heap.size, 0, none⟩) s.size cap] 32)).cell? ⟨W.heap.size, 0, none⟩ = some (.slice (some ⟨wr.heap.size, 0, none⟩) s.size cap) := by simp
  have hb0 : Below W.heap.size W (W.alloc (.cells #[.slice (some ⟨wr.heap.size, 0, none⟩) s.size cap] 32)) := (Below.refl _ _).alloc (Nat.le_refl _) _
  have hs0 : (W.alloc (.cells #[.slice (some ⟨wr.heap.size, 0, none⟩) s.size cap] 32)).heap.size = W.heap.size + 1 := by simp
  have hx1 : (Value.slice (some ⟨wr.heap.size, 0, none⟩) s.size cap).oneCell' = true := rfl
  have hb1 : Below wr.heap.size wr (W.alloc (.cells #[.slice (some ⟨wr.heap.size, 0, none⟩) s.size cap] 32)) := hb.trans (hb0.mono (by omega))
  have hH1 := Holds.below hH hb0 hlt
  rcases h with ⟨rfl, rfl⟩ | ⟨g, cp, vs, cur, rfl, h2, h3, h4, h5, h6⟩
  · obtain ⟨cap', cur', w', hap, hL, hb2⟩ := append_firstL slice46 info23 rfl hr hx1
    refine ⟨_, w', hap, Or.inr ⟨_, cap', _, cur', rfl, rfl, by omega, by omega, hL, fun j hj => ?_⟩, (hb1.mono hB).trans (hb2.mono (by omega))⟩
    have hj0 : j = 0 := by omega
    subst hj0
    have := hb2.size
    exact ⟨wr.heap.size, cap, by rw [← hs]; rfl, by rw [← hs]; exact hc, by omega, by omega, by rw [← hs]; exact Holds.below hH1 hb2 (by omega)⟩
  · have hg := h5.lt
    have h5' := h5.below hb1
    subst h2
    obtain ⟨g', cap', cur', w', hap, hL, hO, hg'⟩ := append_valL slice46 info23 rfl h5' hr hx1 hk
    have hsz := hO.size
    refine ⟨_, w', hap, Or.inr ⟨g', cap', _, cur', rfl, by rw [List.length_append]; rfl, by omega, by omega, hL, fun j hj => ?_⟩, (hb1.mono hB).trans (hO.below (by omega) h4)⟩
    by_cases hj1 : j = vs.length
    · subst hj1
      rw [val_last, ← hs]
      exact ⟨wr.heap.size, cap, rfl, hc, by omega, by omega, Holds.other0 hH1 hO (by omega)⟩
    · obtain ⟨gy, d, e1, e2, e3, e4, e5⟩ := h6 j (by omega)
      rw [val_front _ _ _ (by omega)]
      exact ⟨gy, d, e1, e2, by omega, by omega, Holds.other0 (Holds.below e5 hb1 e4) hO e3⟩
end Go.Proofs.Ytfgjdidnnbjalaa
namespace Go.Proofs.Ytfgjdidnnbjalaa
open Go.RowKit Go.Sort Go.Deep
def sumB (S : Nat → ByteArray) : Nat → Nat
  | 0 => 0
  | i + 1 => sumB S i + (S i).size
theorem sumB_le (S : Nat → ByteArray) {m : Nat} (h : ∀ j, j < m → (S j).size ≤ 140737488355328) : ∀ i, i ≤ m → sumB S i ≤ 140737488355328 * i
  | 0, _ => Nat.le_refl _
  | i + 1, hi => by
    have h1 := sumB_le S h i (by omega)
    have h2 := h i (by omega)
    rw [sumB, Nat.mul_succ]
    omega
theorem sumB_at (S : Nat → ByteArray) : ∀ {m i : Nat}, i < m → (S i).size ≤ sumB S m
  | m + 1, i, h => by
    rw [sumB]
    by_cases e : i = m
    · subst e; omega
    · have := sumB_at S (show i < m by omega); omega
theorem conv_a (w : World) : SP.PartOk (w.alloc (.cells #[.int .u8 97] 5 (1, 2))) (.slice (some ⟨w.heap.size, 0, none⟩) 1 1) [97] := by
  have hh : (w.alloc (.cells #[.int .u8 97] 5 (1, 2))).heap[w.heap.size]? = some (.cells #[.int .u8 97] 5 (1, 2)) := Array.getElem?_push_size
  refine ⟨_, w.heap.size, 0, 1, #[97], rfl, rfl, Nat.le_refl _, by decide, Or.inr ⟨rfl, fun j hj => ?_⟩⟩
  obtain rfl : j = 0 := by simpa using hj
  exact ⟨by unfold World.cell?; simp only [hh]; rfl, by unfold World.frozen?; simp only [hh]; rfl⟩
theorem idxS (gg oo m c i : Nat) (hi : i < m) (w : World) : (Instr.indexAt 38 (.slice (some ⟨gg, oo, none⟩) m c) (.int .i64 (i : Int))).run Try.prog w = .ok (.pointer (some ⟨gg, oo + i, none⟩)) w := by
  have h1 : ¬ (i : Int) < 0 := by omega
  have h2 : (i : Int) < (m : Int) := by omega
  go_simp
def kb (K : List ByteArray) : List (List UInt8) := K.map fun s => s.data.toList
/-- What is kept while texts are added to the journal. -/
structure LB (w0 W : World) (b : Nat) (v : Value) (K : List ByteArray) (n : Nat) (j : Jr) (X : Nat → Prop) : Prop where
  bl : Below w0.heap.size w0 W
  st : PSj X W b j
  xb : ∀ k, X k → w0.heap.size ≤ k
  ji : JI j (kb K) n
  kw : W.ownsRow 0 9 1 v K.length (strV K)
  kx : ∀ k, v.ownBlock = some k → w0.heap.size ≤ k ∧ ¬ X k
theorem kb_app (K : List ByteArray) (s : ByteArray) : kb (K ++ [s]) = kb K ++ [s.data.toList] := by unfold kb; rw [List.map_append]; rfl
theorem kb_len (K : List ByteArray) : (kb K).length = K.length := List.length_map _
theorem LB.below {w0 W W' : World} {b : Nat} {v : Value} {K : List ByteArray} {n : Nat} {j : Jr} {X : Nat → Prop} (h : LB w0 W b v K n j X) (hb : Below W.heap.size W W') : LB w0 W' b v K n j X := by
  obtain ⟨u1, u2, hu⟩ := h.st
  exact ⟨h.bl.trans (hb.mono h.bl.size), ⟨u1, u2, hu.below hb⟩, h.xb, h.ji, own_below h.kw hb, h.kx⟩
/-- Behind an Add. -/
theorem LB.add {w0 W W' : World} {b : Nat} {v : Value} {K : List ByteArray} {n : Nat} {j : Jr} {X : Nat → Prop} (h : LB w0 W b v K n j X) (s : ByteArray) (hl : Lv X W b (j.add s.data.toList).2 W') :
    ∃ X', ((j.add s.data.toList).1 ≠ 0 → LB w0 W' b v K (n + s.size + 12) (j.add s.data.toList).2 X') ∧ ((j.add s.data.toList).1 = 0 → PSj X' W' b (j.add s.data.toList).2 ∧ JI (j.add s.data.toList).2 (kb (K ++ [s])) (n + s.size + 12) ∧ Below w0.heap.size w0 W' ∧ (∀ k, X' k → w0.heap.size ≤ k) ∧ W'.ownsRow 0 9 1 v K.length (strV K) ∧ (∀ k, v.ownBlock = some k → w0.heap.size ≤ k ∧ ¬ X' k)) := by
  obtain ⟨hf, X', hX', hP⟩ := hl
  have hji := h.ji.add s.data.toList
  have hsz : s.data.toList.length = s.size := Array.length_toList
  rw [hsz] at hji
  have hbl : Below w0.heap.size w0 W' := h.bl.trans (hf.below h.xb h.bl.size)
  have hxb : ∀ k, X' k → w0.heap.size ≤ k := fun k hk => by
    rcases hX' k hk with e | e
    · exact h.xb k e
    · exact Nat.le_trans h.bl.size e
  have hkw : W'.ownsRow 0 9 1 v K.length (strV K) := own_at h.kw (fun k hk => hf.block k (h.kw.lt k hk).2 (h.kx k hk).2)
  have hkx : ∀ k, v.ownBlock = some k → w0.heap.size ≤ k ∧ ¬ X' k := fun k hk => ⟨(h.kx k hk).1, fun hx => by
    rcases hX' k hx with e | e
    · exact (h.kx k hk).2 e
    · have := (h.kw.lt k hk).2; omega⟩
  refine ⟨X', fun hne => ?_, fun h0 => ?_⟩
  · rw [if_neg hne] at hji
    exact ⟨hbl, hP, hxb, hji, hkw, hkx⟩
  · rw [if_pos h0, ← kb_app] at hji
    exact ⟨hP, hji, hbl, hxb, hkw, hkx⟩
theorem psj_grown {X : Nat → Prop} {A B : World} {b : Nat} {j : Jr} {row : Option Nat} (h : PSj X A b j) (hg : A.grownBy B row) (hr : ∀ k, row = some k → ¬ X k) : PSj X B b j := by
  obtain ⟨u1, u2, hu⟩ := h
  exact ⟨u1, u2, hu.kept hg.size (fun k hk => hg.block k (hu.ins k hk) (fun e => hr k e.symm hk))⟩
theorem own_partD {B n : Nat} {w : World} {v : Value} {x : List UInt8} (h : w.ownsRow B 5 1 v n (cbs x)) (hn : n ≤ 1099511627776) : ∃ q c db, v = .slice q n c ∧ (q = none ∨ db < w.heap.size) ∧ PartD db w v x := by
  have hp := own_part h hn
  rcases id h with ⟨-, ⟨rfl, h0⟩ | ⟨g, cap, cur, rfl, -⟩⟩
  · subst h0
    exact ⟨none, 0, 0, rfl, Or.inl rfl, Or.inl ⟨rfl, List.length_eq_zero_iff.1 hp.2⟩⟩
  · exact ⟨some ⟨g, 0, none⟩, cap, g, rfl, Or.inr (h.lt g rfl).2, Or.inr ⟨0, n, cap, rfl, hp.1⟩⟩
/-- Disk, and Open of what it tells: the records. -/
structure LC (w0 W : World) (b : Nat) (v : Value) (K : List ByteArray) (left : Nat) (X : Nat → Prop) : Prop where
  bl : Below w0.heap.size w0 W
  st : PSj X W b (jF (kb K) 1048576 left)
  xb : ∀ k, X k → w0.heap.size ≤ k
  small : ∀ r ∈ kb K, r.length ≤ 16384
  kw : W.ownsRow 0 9 1 v K.length (strV K)
  kx : ∀ k, v.ownBlock = some k → w0.heap.size ≤ k ∧ ¬ X k
set_option maxHeartbeats 4000000 in
set_option maxRecDepth 100000 in
theorem storeT_core (q : Option Addr) (m c : Nat) (S : Nat → ByteArray) (n : Int) (more : ByteArray) (w0 : World) (hn : -9223372036854775808 ≤ n ∧ n ≤ 9223372036854775807) (hm : m ≤ 140737488355328) (hmo : more.size ≤ 140737488355328) (hS : ∀ j, j < m → (S j).size ≤ 140737488355328) (hL : Texts w0 q m S) :
    Calls Try.prog 4 #[.slice q m c, .int .i64 n, .string more] w0 fun e w' => e = .returned (.bool true) ∧ Below w0.heap.size w0 w' := by
  have HL := Hid.mk2 hL
  have HS := Hid.mk2 hS
  clear hL hS
  have hN : Calls Try.prog 5 #[.int .i64 64] w0 (Ret (NewR w0 64)) := new_y 64 (by decide) (by decide) w0
  go_enter Try.func4, Try.ntmps4
  go_wp2_with fail
  refine hN.mono ?_
  rintro e w1 ⟨v1, rfl, hb1, b, rfl, hbb, hP1⟩
  have hcv := Lib.run_convert_bytes_const (P := Try.prog) w1 32 5 #[.int .u8 97] 1 1 undU SP.int5
  have hb2 : Below w1.heap.size w1 (w1.alloc (.cells #[.int .u8 97] 5 (1, 2))) := (Below.refl _ _).alloc (Nat.le_refl _) _
  have hj1 : PSj (fun k => k = b) (w1.alloc (.cells #[.int .u8 97] 5 (1, 2))) b (jF [] 64 64) := ⟨_, _, hP1.below hb2⟩
  have hA := add_c (jF_ok [] 64 64 (by decide) (by decide) (by decide) (by decide)) (some ⟨w1.heap.size, 0, none⟩) 1 1 [97] (conv_a w1) (by decide) hj1
  rw [add_fr [] 64 64 [97] (by decide) (by decide) (by decide)] at hA
  have K1 : Hid (Below w0.heap.size w0 (w1.alloc (.cells #[.int .u8 97] 5 (1, 2))) ∧ w0.heap.size ≤ b) := ⟨hb1.trans (hb2.mono hb1.size), hbb⟩
  clear hb1 hb2 hP1 hj1 hN hbb
  go_wp2_with fail
  refine hA.mono ?_
  rintro e w3 ⟨v3, rfl, rfl, hf3, Y, hY, hP3⟩
  have HKR : Hid (recB (jF [[97]] 64 (64 - 13)) 0 = [97]) := rec_fr 64 (64 - 13) false [[97]] 0 (by decide)
  have hR : Calls Try.prog 16 #[.pointer (some ⟨b, 0, none⟩), .int .i64 0] w3 (Ret (RecR w3 (jF [[97]] 64 (64 - 13)) 0)) := record_c (jF_ok [[97]] 64 (64 - 13) (by decide) (by decide) (by rw [fr_cons, fr_nil, List.append_nil, frameB_len]; decide) (by decide)) 0 hP3
  have K3 : Hid (Below w0.heap.size w0 w3 ∧ PSj Y w3 b (jF [[97]] 64 (64 - 13))) := ⟨K1.out.1.trans (hf3.below (B := w0.heap.size) (fun k hk => by rw [hk]; exact K1.out.2) K1.out.1.size), hP3⟩
  clear hf3 hY hP3 hA hcv K1
  go_wp2_with fail
  refine hR.mono ?_
  rintro e w4 ⟨v4, rfl, hb4, hv4⟩
  obtain ⟨vx, rfl, hox⟩ : ∃ v, v4 = .tuple #[v, .int .i64 0] ∧ w4.ownsRow w3.heap.size 5 1 v 1 (cbs [97]) := by
    rcases hv4 with ⟨h, -⟩ | ⟨-, v, h1, h2⟩
    · exact absurd ⟨by decide, by show (0 : Int) < ((extF [[97]] 1).length : Int); rw [extF_len]; decide⟩ h
    · refine ⟨v, h1, ?_⟩
      rw [show (0 : Int).toNat = 0 from rfl, HKR.out] at h2
      exact h2
  obtain ⟨u1, u2, hU⟩ := K3.out.2
  have hLn := len_c (hU.below hb4)
  have hel : ((jF [[97]] 64 (64 - 13)).E.length : Int) = 1 := by show ((extF [[97]] 1).length : Int) = 1; rw [extF_len]; rfl
  rw [hel] at hLn
  obtain ⟨qx, cx, rfl, -⟩ := own_slice hox
  have hcx := part_conv (b := #[97]) (own_part hox (by decide)).1
  have K4 : Hid (Below w0.heap.size w0 w4) := K3.out.1.trans (hb4.mono K3.out.1.size)
  clear hv4 hox hU hb4 K3 hR hel HKR
  go_wp2_with fail
  refine hLn.mono ?_
  rintro e w5 ⟨v5, rfl, rfl, rfl⟩
  clear hLn hcx
  go_wp2_with fail
  go_loopg [12, 13] m (fun g s12 s13 W => ∃ (i : Nat) (t : Int), i + g = m ∧ s12 = .int .i64 t ∧ s13 = .int .i64 (i : Int) ∧ w4 = W ∧ Hid (m ≤ 64 → t = ((more.size + sumB S i : Nat) : Int)))
  case atStart => exact ⟨0, _, by omega, rfl, rfl, rfl, fun _ => rfl⟩
  case round =>
    obtain ⟨i, t, hig, rfl, rfl, rfl, HT⟩ := hrel
    by_cases hi : i < m
    · have hi' : (i : Int) < (m : Int) := by omega
      obtain ⟨gg, oo, rfl, hgg, hc0⟩ := HL.out (by omega)
      have hcS : w4.cell? ⟨gg, oo + i, none⟩ = some (.string (S i)) := by rw [K4.out.cell (p := ⟨gg, oo + i, none⟩) hgg]; exact hc0 i hi
      have hix := idxS gg oo m c i hi
      have HT' : Hid (m ≤ 64 → IntKind.i64.wrap (t + ((S i).size : Int)) = ((more.size + sumB S (i + 1) : Nat) : Int)) := fun h64 => by
        have h1 := HT.out h64
        have h2 := sumB_le S HS.out (i + 1) (by omega)
        rw [sumB] at h2 ⊢
        rw [IntKind.wrap_i64, h1]
        omega
      clear hc0 hgg HT
      obtain ⟨t', ht'⟩ : ∃ t', IntKind.i64.wrap (t + ((S i).size : Int)) = t' := ⟨_, rfl⟩
      rw [ht'] at HT'
      generalize S i = s at *
      go_wp2
      go_roundg (gk - 1)
      case measure => omega
      case rel => exact ⟨i + 1, t', by omega, rfl, rfl, rfl, HT'⟩
    · have hi' : ¬ (i : Int) < (m : Int) := by omega
      obtain rfl : i = m := by omega
      by_cases h64 : i ≤ 64
      · have ht := HT.out h64
        have g64 : ¬ (64 : Int) < (i : Int) := by omega
        by_cases hto : more.size + sumB S i ≤ 65536
        · have gto : ¬ (65536 : Int) < t := by omega
          by_cases hmm : more.size ≤ 16384
          · have gmm : ¬ (16384 : Int) < (more.size : Int) := by omega
            clear ht HT
            have hN : Calls Try.prog 5 #[.int .i64 1048576] w4 (Ret (NewR w4 1048576)) := new_y 1048576 (by decide) (by decide) w4
            go_wp2_with fail
            refine hN.mono ?_
            rintro e w6 ⟨v6, rfl, hb6, b2, rfl, hbb2, hP6⟩
            have hAr := arm_c n hP6
            have K6 : Hid (Below w0.heap.size w0 w6 ∧ w0.heap.size ≤ b2) := ⟨K4.out.trans (hb6.mono K4.out.size), Nat.le_trans K4.out.size hbb2⟩
            clear hN hb6 hbb2 hP6 K4
            go_wp2_with fail
            refine hAr.mono ?_
            rintro e w7 ⟨rfl, hf7, hP7⟩
            have hok0 : (⟨[], [], 1048576, armL 1048576 n, false⟩ : Jr).Ok := Jr.arm_ok (j := ⟨[], [], 1048576, 1048576, false⟩) ⟨by decide, by decide, by decide, by decide, by decide, fun p hp => by cases hp⟩ n hn.2
            have K7 : Hid (LB w0 w7 b2 (.slice none 0 0) [] (sumB S 0 + 12 * 0) ⟨[], [], 1048576, armL 1048576 n, false⟩ (fun k => k = b2)) :=
              ⟨K6.out.1.trans (hf7.below (fun k hk => by rw [hk]; exact K6.out.2) K6.out.1.size), ⟨_, _, hP7⟩, fun k hk => by rw [hk]; exact K6.out.2, ⟨hok0, rfl, fun r hr => (by cases hr), rfl, Nat.zero_le _, [], rfl, frs_nil _, fun _ => rfl⟩, World.ownsRow_nil _ _ _ _, fun k hk => (by cases hk)⟩
            clear hAr hf7 hP7 K6 hok0
            go_wp2_with fail
            go_loopg [15, 16] i (fun g s15 s16 W => ∃ (i2 : Nat) (K : List ByteArray) (j : Jr) (X : Nat → Prop), i2 + g = i ∧ s16 = .int .i64 (i2 : Int) ∧ K.length ≤ i2 ∧ Hid (LB w0 W b2 s15 K (sumB S i2 + 12 * i2) j X))
            case atStart => exact ⟨0, [], _, _, by omega, rfl, Nat.zero_le _, K7⟩
            case round =>
              clear K7
              obtain ⟨i2, K, j, X, hig2, rfl, hK2, KM⟩ := hrel
              by_cases hi2 : i2 < i
              · have hi2' : (i2 : Int) < (i : Int) := by omega
                obtain ⟨gg, oo, rfl, hgg, hc0⟩ := HL.out (by omega)
                have hcS : wr.cell? ⟨gg, oo + i2, none⟩ = some (.string (S i2)) := by rw [KM.out.bl.cell (p := ⟨gg, oo + i2, none⟩) hgg]; exact hc0 i2 hi2
                have hix := idxS gg oo i c i2 hi2
                obtain ⟨cap1, wc, hcv1, hcc1, hbc, hHc, hltc⟩ := conv_of (S i2) wr
                have hs16 : (S i2).size ≤ 65536 := by have := sumB_at S hi2; omega
                have hpart : SP.PartOk wc (.slice (some ⟨wr.heap.size, 0, none⟩) (S i2).size cap1) (S i2).data.toList := ⟨_, wr.heap.size, 0, cap1, (S i2).data, rfl, rfl, hcc1, Nat.le_trans hs16 (by decide), Or.inr ⟨rfl, hHc⟩⟩
                have hLc := KM.out.below hbc
                have hA := add_c hLc.ji.ok (some ⟨wr.heap.size, 0, none⟩) (S i2).size cap1 (S i2).data.toList hpart (by omega) hLc.st
                have HC0 : Hid (gg < w0.heap.size ∧ w0.cell? ⟨gg, oo + i2, none⟩ = some (.string (S i2))) := ⟨hgg, hc0 i2 hi2⟩
                have hstep := fun W' => hLc.add (S i2) (W' := W')
                have hsum : sumB S i2 + 12 * i2 + (S i2).size + 12 = sumB S (i2 + 1) + 12 * (i2 + 1) := by rw [sumB]; omega
                rw [hsum] at hstep
                have HST := Hid.mk2 hstep
                clear hstep hsum hLc hpart hHc hltc hbc hcc1 hc0 hs16 KM
                obtain ⟨ee, hee⟩ : ∃ ee, Hid ((j.add (S i2).data.toList).1 = ee) := ⟨_, rfl⟩
                obtain ⟨j', hj'⟩ : ∃ j', Hid ((j.add (S i2).data.toList).2 = j') := ⟨_, rfl⟩
                rw [hee.out, hj'.out] at hA HST
                clear hee hj'
                generalize hsv : S i2 = s at *
                clear hsv
                by_cases h0 : ee = 0
                · subst h0
                  go_wp2_with fail
                  refine hA.mono ?_
                  rintro e w8 ⟨v8, rfl, rfl, hLv⟩
                  obtain ⟨X', -, hX'⟩ := HST.out w8 hLv
                  obtain ⟨x1, x2, x3, x4, x5, x6⟩ := hX' trivial
                  have hcS8 : w8.cell? ⟨gg, oo + i2, none⟩ = some (.string s) := by rw [x3.cell (p := ⟨gg, oo + i2, none⟩) HC0.out.1]; exact HC0.out.2
                  have hba : Below w8.heap.size w8 (w8.alloc (.cells #[.string s] 9)) := (Below.refl _ _).alloc (Nat.le_refl _) _
                  obtain ⟨q9, n9, c9, w9, r1, r2, r3, r4⟩ := app_str (own_below x5 hba) s (by omega) (r := w8.heap.size) ((RG.Made.alloc w8 [.string s] 9).range 0 _ rfl)
                  have HAP : Hid ((Builtin.append_ #[38, 38] 38 #[u15, .slice (some ⟨w8.heap.size, 0, none⟩) 1 1]).run Try.prog (w8.alloc (.cells #[.string s] 9)) = .ok (.slice q9 n9 c9) w9) := r1
                  have hins : ∀ k, X' k → k < w8.heap.size := by obtain ⟨z1, z2, hz⟩ := x1; exact hz.ins
                  have K9 : Hid (LB w0 w9 b2 (.slice q9 n9 c9) (K ++ [s]) (sumB S (i2 + 1) + 12 * (i2 + 1)) j' X') := by
                    have hb9 : Below w0.heap.size w0 w9 := (x3.trans (hba.mono x3.size)).grown r3 (Nat.le_trans x3.size hba.size) (fun k hk => (x6 k hk).1)
                    have hPa : PSj X' (w8.alloc (.cells #[.string s] 9)) b2 j' := by obtain ⟨z1, z2, hz⟩ := x1; exact ⟨z1, z2, hz.below hba⟩
                    refine ⟨hb9, psj_grown hPa r3 (fun k hk => (x6 k hk).2), x4, x2, r2, fun k hk => ?_⟩
                    rcases r4 with e | e
                    · rw [e] at hk; exact x6 k hk
                    · rw [e] at hk
                      obtain rfl := Option.some.inj hk
                      rw [World.size_alloc]
                      exact ⟨by have := x3.size; omega, fun hx => by have := hins _ hx; omega⟩
                  obtain ⟨q15, c15, hq15, -⟩ := own_slice x5
                  have hKl : (K ++ [s]).length ≤ i2 + 1 := by rw [List.length_append, List.length_singleton]; omega
                  clear hLv hX' hA HST hcS hcv1 x1 x2 x3 x4 x5 x6 hba r1 r2 r3 r4 hins HC0
                  subst hq15
                  go_wp2_with (at_builtin; refine Lib.wpList_append_run _ rfl _ _ _ _ rfl _ _ rfl rfl _ _ HAP.out ?_)
                  go_roundg (gk - 1)
                  case measure => omega
                  case rel => exact ⟨i2 + 1, K ++ [s], j', X', by omega, rfl, hKl, K9⟩
                · have he1 : ¬ (ee : Int) = 0 := by omega
                  have he0 : ((ee : Int) == 0) = false := by simpa using he1
                  go_wp2_with fail
                  refine hA.mono ?_
                  rintro e w8 ⟨v8, rfl, rfl, hLv⟩
                  obtain ⟨X', hX', -⟩ := HST.out w8 hLv
                  have K8 : Hid (LB w0 w8 b2 u15 K (sumB S (i2 + 1) + 12 * (i2 + 1)) j' X') := hX' h0
                  clear hLv hX' hA HST hcS hcv1
                  go_wp2
                  go_roundg (gk - 1)
                  case measure => omega
                  case rel => exact ⟨i2 + 1, K, j', X', by omega, rfl, by omega, K8⟩
              · have hi2' : ¬ (i2 : Int) < (i : Int) := by omega
                obtain rfl : i2 = i := by omega
                have hBl : j.B.length ≤ 66304 := by have := KM.out.ji.le; omega
                obtain ⟨z1, z2, hZ⟩ := KM.out.st
                have hDk := disk_c (by omega) hZ
                obtain ⟨p, hBp, hpn, -⟩ := KM.out.ji.is
                have hfrl : (fr 0 (kb K)).length ≤ 66304 := by
                  have h := congrArg List.length hBp
                  rw [List.length_append] at h
                  omega
                have hop := open_fr 1048576 (kb K) p KM.out.ji.small hpn (by omega)
                rw [← hBp] at hop
                obtain ⟨q15, c15, hq15, -⟩ := own_slice KM.out.kw
                have HOP : Hid (openJ 1048576 j.B = jF (kb K) 1048576 (1048576 - (fr 0 (kb K)).length)) := hop
                have HFL := Hid.mk2 hfrl
                clear hZ hBp hpn hop
                subst hq15
                go_wp2_with fail
                refine hDk.mono ?_
                rintro e w9 ⟨v9, rfl, hb9, ho9⟩
                obtain ⟨q9, c9, db9, rfl, hd9, hPD9⟩ := own_partD ho9 (by omega)
                have hOp : Calls Try.prog 18 #[.slice q9 j.B.length c9, .int .i64 1048576] w9 (Ret (OpenR w9 1048576 j.B)) := open_y 1048576 (by decide) (by decide) q9 j.B.length c9 j.B w9 db9 hd9 hPD9 (by omega)
                have KM9 := Hid.mk2 (KM.out.below hb9)
                clear hDk hb9 ho9 hd9 hPD9 KM
                generalize hjl : j.B.length = jl at hOp hBl ⊢
                clear hjl
                go_wp2_with fail
                refine hOp.mono ?_
                rintro e w10 ⟨v10, rfl, hb10, b3, X3, rfl, hX3, hP10⟩
                rw [HOP.out] at hP10
                have KN : Hid (LC w0 w10 b3 (.slice q15 K.length c15) K (1048576 - (fr 0 (kb K)).length) X3) := by
                  have h9 := KM9.out
                  refine ⟨h9.bl.trans (hb10.mono h9.bl.size), hP10, fun k hk => Nat.le_trans h9.bl.size (hX3 k hk), h9.ji.small, own_below h9.kw hb10, fun k hk => ⟨(h9.kx k hk).1, fun hx => ?_⟩⟩
                  have h1 := hX3 k hx
                  have h2 := (h9.kw.lt k hk).2
                  omega
                clear hb10 hX3 hP10 hOp KM9 HOP
                obtain ⟨z1, z2, hZ⟩ := KN.out.st
                have hLn := len_c hZ
                have hEl : (jF (kb K) 1048576 (1048576 - (fr 0 (kb K)).length)).E.length = K.length := by show (extF (kb K) (kb K).length).length = _; rw [extF_len, kb_len]
                rw [hEl] at hLn
                clear hZ hEl
                go_wp2_with fail
                refine hLn.mono ?_
                rintro e w11 ⟨v11, rfl, rfl, rfl⟩
                clear hLn
                obtain ⟨capm, wc, hcvm, hccm, hbc, hHc, hltc⟩ := conv_of more w10
                have hpart : SP.PartOk wc (.slice (some ⟨w10.heap.size, 0, none⟩) more.size capm) more.data.toList := ⟨_, w10.heap.size, 0, capm, more.data, rfl, rfl, hccm, Nat.le_trans hmm (by decide), Or.inr ⟨rfl, hHc⟩⟩
                have hPc : PSj X3 wc b3 (jF (kb K) 1048576 (1048576 - (fr 0 (kb K)).length)) := by obtain ⟨y1, y2, hy⟩ := KN.out.st; exact ⟨y1, y2, hy.below hbc⟩
                have hmsz : more.data.toList.length = more.size := Array.length_toList
                have hfl := HFL.out
                have hA := add_c (jF_ok (kb K) 1048576 (1048576 - (fr 0 (kb K)).length) (by decide) (by decide) (by omega) (by omega)) (some ⟨w10.heap.size, 0, none⟩) more.size capm more.data.toList hpart (by omega) hPc
                rw [add_fr (kb K) 1048576 (1048576 - (fr 0 (kb K)).length) more.data.toList (by omega) (by omega) (by omega), ← kb_app] at hA
                obtain ⟨lf2, hlf2⟩ : ∃ lf2, Hid (1048576 - (fr 0 (kb K)).length - (more.data.toList.length + 12) = lf2) := ⟨_, rfl⟩
                rw [hlf2.out] at hA
                have HL2 : Hid (lf2 ≤ 1048576 ∧ (fr 0 (kb (K ++ [more]))).length ≤ 100000) := by
                  refine ⟨by rw [← hlf2.out]; omega, ?_⟩
                  rw [kb_app, fr_snoc, List.length_append, frameB_len, hmsz]
                  omega
                have KC : Hid (LC w0 wc b3 (.slice q15 K.length c15) K (1048576 - (fr 0 (kb K)).length) X3) := ⟨KN.out.bl.trans (hbc.mono KN.out.bl.size), hPc, KN.out.xb, KN.out.small, own_below KN.out.kw hbc, KN.out.kx⟩
                clear hPc hpart hHc hltc hccm hbc KN hfl hlf2
                go_wp2_with fail
                refine hA.mono ?_
                rintro e w12 ⟨v12, rfl, rfl, hf12, X4, hX4, hP12⟩
                have hbl12 : Below w0.heap.size w0 w12 := KC.out.bl.trans (hf12.below KC.out.xb KC.out.bl.size)
                have hkw12 : w12.ownsRow 0 9 1 (.slice q15 K.length c15) K.length (strV K) := own_at KC.out.kw (fun k hk => hf12.block k (KC.out.kw.lt k hk).2 (KC.out.kx k hk).2)
                have hkx12 : ∀ k, (Value.slice q15 K.length c15).ownBlock = some k → w0.heap.size ≤ k ∧ ¬ X4 k := fun k hk => ⟨(KC.out.kx k hk).1, fun hx => by
                  rcases hX4 k hx with e | e
                  · exact (KC.out.kx k hk).2 e
                  · have := (KC.out.kw.lt k hk).2; omega⟩
                have hxb12 : ∀ k, X4 k → w0.heap.size ≤ k := fun k hk => by
                  rcases hX4 k hk with e | e
                  · exact KC.out.xb k e
                  · exact Nat.le_trans KC.out.bl.size e
                have hba : Below w12.heap.size w12 (w12.alloc (.cells #[.string more] 9)) := (Below.refl _ _).alloc (Nat.le_refl _) _
                obtain ⟨q13, n13, c13, w13, r1, r2, r3, r4⟩ := app_str (own_below hkw12 hba) more (by omega) (r := w12.heap.size) ((RG.Made.alloc w12 [.string more] 9).range 0 _ rfl)
                have HAP : Hid ((Builtin.append_ #[38, 38] 38 #[.slice q15 K.length c15, .slice (some ⟨w12.heap.size, 0, none⟩) 1 1]).run Try.prog (w12.alloc (.cells #[.string more] 9)) = .ok (.slice q13 n13 c13) w13) := r1
                have hn13 : n13 = (K ++ [more]).length := by
                  obtain ⟨qq, cc, h, -⟩ := own_slice r2
                  injection h
                have hins : ∀ k, X4 k → k < w12.heap.size := by obtain ⟨y1, y2, hy⟩ := hP12; exact hy.ins
                have K13 : Hid (LC w0 w13 b3 (.slice q13 n13 c13) (K ++ [more]) lf2 X4) := by
                  have hPa : PSj X4 (w12.alloc (.cells #[.string more] 9)) b3 (jF (kb (K ++ [more])) 1048576 lf2) := by obtain ⟨y1, y2, hy⟩ := hP12; exact ⟨y1, y2, hy.below hba⟩
                  refine ⟨(hbl12.trans (hba.mono hbl12.size)).grown r3 (Nat.le_trans hbl12.size hba.size) (fun k hk => (hkx12 k hk).1), psj_grown hPa r3 (fun k hk => (hkx12 k hk).2), hxb12, ?_, r2, fun k hk => ?_⟩
                  · intro r hr
                    rw [kb_app] at hr
                    rcases List.mem_append.1 hr with hr | hr
                    · exact KC.out.small r hr
                    · rw [List.mem_singleton.1 hr, hmsz]; exact hmm
                  · rcases r4 with e | e
                    · rw [e] at hk; exact hkx12 k hk
                    · rw [e] at hk
                      obtain rfl := Option.some.inj hk
                      rw [World.size_alloc]
                      exact ⟨by have := hbl12.size; omega, fun hx => by have := hins _ hx; omega⟩
                clear hbl12 hkw12 hkx12 hxb12 hba r1 r2 r3 r4 hins hA hf12 hX4 hP12 KC hcvm hmsz
                have hkl : Hid ((K ++ [more]).length ≤ 1000) := by
                  show _ ≤ _
                  rw [List.length_append, List.length_singleton]
                  omega
                generalize hK2 : K ++ [more] = K2 at K13 HL2 hn13 hkl
                clear hK2
                subst hn13
                go_wp2_with (at_builtin; refine Lib.wpList_append_run _ rfl _ _ _ _ rfl _ _ rfl rfl _ _ HAP.out ?_)
                obtain ⟨y1, y2, hY3⟩ := K13.out.st
                have hLn := len_c hY3
                have hDk := disk_c (by have := HL2.out.2; show (fr 0 (kb K2)).length ≤ _; omega) hY3
                have hEl : (jF (kb K2) 1048576 lf2).E.length = K2.length := by show (extF (kb K2) (kb K2).length).length = _; rw [extF_len, kb_len]
                rw [hEl] at hLn
                have hBB : (jF (kb K2) 1048576 lf2).B = fr 0 (kb K2) := rfl
                rw [hBB] at hDk
                have hop := open_fr 1048576 (kb K2) [] K13.out.small (frs_nil _) (by have := HL2.out.2; omega)
                rw [List.append_nil] at hop
                have HOP : Hid (openJ 1048576 (fr 0 (kb K2)) = jF (kb K2) 1048576 (1048576 - (fr 0 (kb K2)).length)) := hop
                obtain ⟨xs, hxs⟩ : ∃ xs, Hid (fr 0 (kb K2) = xs) := ⟨_, rfl⟩
                rw [hxs.out] at hDk HOP
                have hxl : xs.length ≤ 100000 := by rw [← hxs.out]; exact HL2.out.2
                clear hY3 hEl hop hBB HAP
                refine hLn.mono ?_
                rintro e w14 ⟨v14, rfl, rfl, rfl⟩
                clear hLn
                go_wp2_with fail
                refine hDk.mono ?_
                rintro e w15 ⟨v15, rfl, hb15, ho15⟩
                obtain ⟨q15', c15', db15, rfl, hd15, hPD15⟩ := own_partD ho15 (by omega)
                have hOp : Calls Try.prog 18 #[.slice q15' xs.length c15', .int .i64 1048576] w15 (Ret (OpenR w15 1048576 xs)) := open_y 1048576 (by decide) (by decide) q15' xs.length c15' xs w15 db15 hd15 hPD15 (by omega)
                have KM15 : Hid (Below w0.heap.size w0 w15 ∧ w15.ownsRow 0 9 1 (.slice q13 K2.length c13) K2.length (strV K2) ∧ (∀ k, (Value.slice q13 K2.length c13).ownBlock = some k → w0.heap.size ≤ k) ∧ ∀ r ∈ kb K2, r.length ≤ 16384) := ⟨K13.out.bl.trans (hb15.mono K13.out.bl.size), own_below K13.out.kw hb15, fun k hk => (K13.out.kx k hk).1, K13.out.small⟩
                clear hDk hb15 ho15 hd15 hPD15 K13
                generalize hjl : xs.length = jl at hOp hxl ⊢
                clear hjl
                go_wp2_with fail
                refine hOp.mono ?_
                rintro e w16 ⟨v16, rfl, hb16, b4, X5, rfl, hX5, hP16⟩
                rw [HOP.out] at hP16
                have K16 : Hid (LC w0 w16 b4 (.slice q13 K2.length c13) K2 (1048576 - xs.length) X5) := by
                  obtain ⟨h1, h2, h3, h4⟩ := KM15.out
                  refine ⟨h1.trans (hb16.mono h1.size), hP16, fun k hk => Nat.le_trans h1.size (hX5 k hk), h4, own_below h2 hb16, fun k hk => ⟨h3 k hk, fun hx => ?_⟩⟩
                  have e1 := hX5 k hx
                  have e2 := (h2.lt k hk).2
                  omega
                clear hb16 hX5 hP16 hOp KM15 HOP
                obtain ⟨y1, y2, hY4⟩ := K16.out.st
                have hLn := len_c hY4
                have hEl : (jF (kb K2) 1048576 (1048576 - xs.length)).E.length = K2.length := by show (extF (kb K2) (kb K2).length).length = _; rw [extF_len, kb_len]
                rw [hEl] at hLn
                clear hY4 hEl
                go_wp2_with fail
                refine hLn.mono ?_
                rintro e w17 ⟨v17, rfl, rfl, rfl⟩
                clear hLn
                have HOK : Hid ((jF (kb K2) 1048576 (1048576 - xs.length)).Ok) := jF_ok (kb K2) 1048576 _ (by decide) (by decide) (by have := HL2.out.2; omega) (by omega)
                go_wp2_with fail
                go_loopg [20] K2.length (fun g s20 W => ∃ i3 : Nat, i3 + g = K2.length ∧ s20 = .int .i64 (i3 : Int) ∧ Hid (LC w0 W b4 (.slice q13 K2.length c13) K2 (1048576 - xs.length) X5))
                case atStart => exact ⟨0, by omega, rfl, K16⟩
                case round =>
                  clear K16
                  obtain ⟨i3, hig3, rfl, KM⟩ := hrel
                  by_cases hi3 : i3 < K2.length
                  · have hi3' : (i3 : Int) < (K2.length : Int) := by omega
                    have hw3 : Hid (wrap64 ((i3 : Int) + 1) = ((i3 + 1 : Nat) : Int)) := by
                      show _ = _
                      have := hkl.out
                      unfold wrap64
                      omega
                    have hR := record_c HOK.out (i3 : Int) KM.out.st
                    have HRB : Hid (recB (jF (kb K2) 1048576 (1048576 - xs.length)) i3 = (K2[i3]).data.toList) := by
                      show _ = _
                      refine (rec_fr 1048576 (1048576 - xs.length) false (kb K2) i3 (by rw [kb_len]; exact hi3)).trans ?_
                      unfold kb
                      rw [List.getD_eq_getElem?_getD, List.getElem?_map, List.getElem?_eq_getElem hi3]
                      rfl
                    obtain ⟨g13, hq13, hc13⟩ : ∃ g13, q13 = some ⟨g13, 0, none⟩ ∧ g13 < wr.heap.size := by
                      rcases KM.out.kw.2 with ⟨-, h⟩ | ⟨g, cap, cur, h, -⟩
                      · omega
                      · injection h with h1 h2 h3
                        exact ⟨g, h1, (KM.out.kw.lt g (by rw [h1]; rfl)).2⟩
                    subst hq13
                    go_wp2_with fail
                    refine hR.mono ?_
                    rintro e w18 ⟨v18, rfl, hb18, hv18⟩
                    obtain ⟨vr, rfl, hor⟩ : ∃ v, v18 = .tuple #[v, .int .i64 0] ∧ w18.ownsRow wr.heap.size 5 1 v (K2[i3]).data.toList.length (cbs (K2[i3]).data.toList) := by
                      rcases hv18 with ⟨h, -⟩ | ⟨-, v, h1, h2⟩
                      · exact absurd ⟨by omega, by show (i3 : Int) < ((extF (kb K2) (kb K2).length).length : Int); rw [extF_len, kb_len]; omega⟩ h
                      · refine ⟨v, h1, ?_⟩
                        rw [Int.toNat_natCast, HRB.out] at h2
                        exact h2
                    have K18 : Hid (LC w0 w18 b4 (.slice (some ⟨g13, 0, none⟩) K2.length c13) K2 (1048576 - xs.length) X5) := by
                      obtain ⟨h1, h2, h3, h4, h5, h6⟩ := KM.out
                      exact ⟨h1.trans (hb18.mono h1.size), by obtain ⟨e1, e2, e3⟩ := h2; exact ⟨e1, e2, e3.below hb18⟩, h3, h4, own_below h5 hb18, h6⟩
                    have hk18 : w18.cell? ⟨g13, i3, none⟩ = some (.string K2[i3]) := by
                      have := K18.out.kw.cells (g := g13) rfl i3 (.string K2[i3]) (by unfold strV; rw [List.getElem?_map, List.getElem?_eq_getElem hi3]; rfl)
                      rw [addS0, Nat.zero_add] at this
                      exact this
                    have hsm : (K2[i3]).data.toList.length ≤ 16384 := K18.out.small _ (by unfold kb; exact List.mem_map.2 ⟨K2[i3], List.getElem_mem _, rfl⟩)
                    obtain ⟨qr, cr, rfl, -⟩ := own_slice hor
                    have hprt := (own_part hor (by omega)).1
                    have hdr : ∀ k, Below w18.heap.size w18 (w18.drewN k) := fun k => ⟨rfl, rfl, rfl, Nat.le_refl _, fun _ _ => rfl⟩
                    have hcvr : ∀ k, (convert 32 9 (.slice qr (K2[i3]).data.toList.length cr)).run Try.prog (w18.drewN k) = .ok (.string K2[i3]) (w18.drewN k) := fun k => part_conv (b := (K2[i3]).data) (hprt.below (hdr k))
                    have HE18 : Hid (∀ k, LC w0 (w18.drewN k) b4 (.slice (some ⟨g13, 0, none⟩) K2.length c13) K2 (1048576 - xs.length) X5) := fun k => by
                      obtain ⟨h1, h2, h3, h4, h5, h6⟩ := K18.out
                      exact ⟨h1.trans ((hdr k).mono h1.size), by obtain ⟨e1, e2, e3⟩ := h2; exact ⟨e1, e2, e3.below (hdr k)⟩, h3, h4, own_below h5 (hdr k), h6⟩
                    have hix := idxS g13 0 K2.length c13 i3 hi3
                    rw [Nat.zero_add] at hix
                    clear hv18 hor hb18 hprt hdr hsm K18 KM hR HRB
                    generalize K2[i3] = s at hk18 hcvr
                    generalize s.data.toList.length = sl at hcvr ⊢
                    go_wp2_with fail
                    go_quiet (fail)
                    go_wp2
                    go_roundg (gk - 1)
                    case measure => omega
                    case rel => exact ⟨i3 + 1, by omega, by rw [hw3.out], HE18.out _⟩
                  · have hi3' : ¬ (i3 : Int) < (K2.length : Int) := by omega
                    have K19 := Hid.mk2 KM.out.bl
                    clear KM
                    go_wp2
                    go_ret
                    exact ⟨rfl, K19.out⟩
          · have gmm : (16384 : Int) < (more.size : Int) := by omega
            clear ht HT
            go_wp2
            go_ret
            exact ⟨rfl, K4.out⟩
        · have gto : (65536 : Int) < t := by omega
          clear ht HT
          go_wp2
          go_ret
          exact ⟨rfl, K4.out⟩
      · have g64 : (64 : Int) < (i : Int) := by omega
        clear HT
        by_cases gto : (65536 : Int) < t
        · go_wp2
          go_ret
          exact ⟨rfl, K4.out⟩
        · go_wp2
          go_ret
          exact ⟨rfl, K4.out⟩
end Go.Proofs.Ytfgjdidnnbjalaa
namespace Go.Proofs.Ytfgjdidnnbjalaa
open Go.RowKit Go.Sort Go.Deep
/-- The five cells of the reference's store. -/
def rsc (lim : Nat) (B : ByteArray) (v : Value) (left : Int) (off : Bool) : List Value := [.int .i64 (lim : Int), .string B, v, .int .i64 left, .bool off]
/-- The reference's store in memory: its blocks are in X. -/
structure RSv (X : Nat → Prop) (W : World) (b : Nat) (B : ByteArray) (R : List ByteArray) (lim : Nat) (left : Int) (off : Bool) (v : Value) : Prop where
  row : RowS W b (rsc lim B v left off)
  o : W.ownsRow 0 9 1 v R.length (strV R)
  xb : X b
  x1 : ∀ k, v.ownBlock = some k → X k ∧ k ≠ b
  ins : ∀ k, X k → k < W.heap.size
variable {X Y : Nat → Prop} {W W' : World} {b lim : Nat} {B : ByteArray} {R : List ByteArray} {left : Int} {off : Bool} {v : Value}
theorem RSv.kept (h : RSv X W b B R lim left off v) (hs : W.heap.size ≤ W'.heap.size) (hk : ∀ k, X k → W'.heap[k]? = W.heap[k]?) : RSv X W' b B R lim left off v :=
  ⟨h.row.at hs (hk b h.xb), own_at h.o (fun k hk1 => hk k (h.x1 k hk1).1), h.xb, h.x1, fun k hX => Nat.lt_of_lt_of_le (h.ins k hX) hs⟩
theorem RSv.below (h : RSv X W b B R lim left off v) (hb : Below W.heap.size W W') : RSv X W' b B R lim left off v :=
  h.kept hb.size (fun k hk => hb.block k (h.ins k hk))
theorem RSv.frx (h : RSv X W b B R lim left off v) (hb : FrX Y W W') (hd : ∀ k, X k → ¬ Y k) : RSv X W' b B R lim left off v :=
  h.kept hb.size (fun k hk => hb.block k (h.ins k hk) (hd k hk))
theorem RSv.set {i : Nat} {u : Value} (h : RSv X W b B R lim left off v) (B' : ByteArray) (left' : Int) (off' : Bool) (hv : (rsc lim B v left off).set i u = rsc lim B' v left' off') (hi : i < 5) : RSv X (W.setCell ⟨b, i, none⟩ u) b B' R lim left' off' v := by
  have hk : ∀ k, k ≠ b → (W.setCell ⟨b, i, none⟩ u).heap[k]? = W.heap[k]? := fun k hk => blk_setCell_other W ⟨b, i, none⟩ u k hk
  refine ⟨?_, own_at h.o (fun k hk1 => hk k (h.x1 k hk1).2), h.xb, h.x1, fun k hX => by rw [World.size_setCell]; exact h.ins k hX⟩
  rw [← hv]
  exact h.row.set i u hi
/-- What the reference's New answers. -/
def RNewR (w : World) (lim : Nat) (e : Value) (w' : World) : Prop := Below w.heap.size w w' ∧ ∃ b, e = .tuple #[.pointer (some ⟨b, 0, none⟩), .int .i64 0] ∧ w.heap.size ≤ b ∧ RSv (fun k => k = b) w' b ⟨#[]⟩ [] lim (-1) false (.slice none 0 0)
theorem rnew_y (lim : Nat) (h1 : 64 ≤ lim) (h2 : lim ≤ 1048576) (w : World) : Calls Try.prog 6 #[.int .i64 (lim : Int)] w (Ret (RNewR w lim)) := by
  have g1 : ¬ (lim : Int) < 64 := by omega
  have g2 : ¬ (1048576 : Int) < (lim : Int) := by omega
  have K : Hid (RNewR w lim (.tuple #[.pointer (some ⟨w.heap.size, 0, none⟩), .int .i64 0]) (w.alloc (.cells #[.int .i64 (lim : Int), .string ⟨#[]⟩, .slice none 0 0, .int .i64 (-1), .bool false] 40))) := by
    refine ⟨(Below.refl _ _).alloc (Nat.le_refl _) _, w.heap.size, rfl, Nat.le_refl _, ?_⟩
    exact ⟨rowS_new w (rsc lim ⟨#[]⟩ (.slice none 0 0) (-1) false) _, World.ownsRow_nil _ _ _ _, rfl, (fun k h => by cases h), (fun k h => by rw [h, World.size_alloc]; omega)⟩
  go_enter Try.func6, Try.ntmps6
  go_wp2
  go_ret2
  exact ⟨_, rfl, K.out⟩
theorem rnew_n (lim : Int) (h : lim < 64 ∨ 1048576 < lim) (w : World) : Calls Try.prog 6 #[.int .i64 lim] w (Ret fun e w' => w = w' ∧ e = .tuple #[.pointer none, .int .i64 7]) := by
  by_cases g1 : lim < 64
  · go_enter Try.func6, Try.ntmps6
    go_wp2
    go_ret2
    exact ⟨_, rfl, rfl, rfl⟩
  · have g2 : 1048576 < lim := by omega
    go_enter Try.func6, Try.ntmps6
    go_wp2
    go_ret2
    exact ⟨_, rfl, rfl, rfl⟩
/-- What the reference's Arm does. -/
def rarm (n : Int) : Int := if n < 0 then -1 else n
set_option maxHeartbeats 1000000 in
theorem rarm_c (n : Int) (h : RSv X W b B R lim left off v) : Calls Try.prog 12 #[.pointer (some ⟨b, 0, none⟩), .int .i64 n] W fun e w' => e = .returned (.tuple #[]) ∧ FrX X W w' ∧ RSv X w' b B R lim (rarm n) off v := by
  have h1 : RSv X (W.setCell ⟨b, 3, none⟩ (.int .i64 n)) b B R lim n off v := h.set B n off rfl (by decide)
  have f1 : FrX X W (W.setCell ⟨b, 3, none⟩ (.int .i64 n)) := frx_set (W := W) (b := b) (.int .i64 n) 3 h.xb
  have c3 := h.row.cell 3 _ rfl
  have z3 := h.row.free 3 (by decide : 3 < 5)
  by_cases hn : n < 0
  · have e : rarm n = -1 := if_pos hn
    rw [e]
    have HS : Hid (RSv X ((W.setCell ⟨b, 3, none⟩ (.int .i64 n)).setCell ⟨b, 3, none⟩ (.int .i64 (-1))) b B R lim (-1) off v) := h1.set B (-1) off rfl (by decide)
    have HF : Hid (FrX X W ((W.setCell ⟨b, 3, none⟩ (.int .i64 n)).setCell ⟨b, 3, none⟩ (.int .i64 (-1)))) := f1.setCell (a := ⟨b, 3, none⟩) h.xb _
    have c4 := h1.row.cell 3 _ rfl
    have z4 := h1.row.free 3 (by decide : 3 < 5)
    clear h h1 f1
    go_enter Try.func12, Try.ntmps12
    go_wp2
    exact ⟨rfl, .tuple #[], results_none rfl _ _ _, rfl, HF.out, HS.out⟩
  · have e : rarm n = n := if_neg hn
    rw [e]
    have HS := Hid.mk2 h1
    have HF := Hid.mk2 f1
    clear h h1 f1
    go_enter Try.func12, Try.ntmps12
    go_wp2
    exact ⟨rfl, .tuple #[], results_none rfl _ _ _, rfl, HF.out, HS.out⟩
end Go.Proofs.Ytfgjdidnnbjalaa
set_option linter.unusedVariables false
set_option linter.unusedSimpArgs false
namespace Go.Proofs.Ytfgjdidnnbjalaa.RG
open Go Go.RowKit
variable {P : Program} {ops : Array Oper} {Q : Exit → Act → World → Prop} {w : World} {a0 : Act} {L : Array Bool}
/-- A region as a flow: what holds of each operation's value, what holds at first, what each does to the world, who ends what holds. -/
structure Flow where
  R : Nat → Value → World → Prop
  B : Nat → World → Prop
  E : Nat → World → World → Prop
  kill : Nat → List Nat
  killB : Nat → List Nat
def dstOf (ops : Array Oper) (i : Nat) : Option Tmp := (ops[i]?).bind (·.dst)
def depOn (ops : Array Oper) (x k : Nat) : Bool := match ops[x]? with | some o => depB o k | none => true
def okK (ops : Array Oper) (k : Nat) (l : List Nat) : Bool := l.all (fun x => x == k || depOn ops x k)
/-- Slot t is filled by operations alone that wait for k. -/
def freeF (ops : Array Oper) (k : Nat) (t : Tmp) : Bool := (List.range ops.size).all (fun i => dstOf ops i != some t || i == k || depOn ops i k)
structure InvF (F : Flow) (ops : Array Oper) (a0 : Act) (L : Array Bool) (a : Act) (w : World) : Prop where
  size : L.size = ops.size
  cl : ∀ (i : Nat) (o : Oper), ops[i]? = some o → on L i = true → ∀ e ∈ o.after, Region.binds .any e = true → on L e.on = true
  def' : a.defers = a0.defers
  sz : a.tmps.size = a0.tmps.size
  rest : ∀ t : Tmp, (∀ i, on L i = true → dstOf ops i ≠ some t) → a.tmps[t]? = a0.tmps[t]?
  all : ∃ V : Nat → Value, (∀ i d, on L i = true → dstOf ops i = some d → a.tmps[d]? = some (V i)) ∧ (∀ i, on L i = true → (∀ x ∈ F.kill i, on L x = false) → F.R i (V i) w)
  base : ∀ b, (∀ x ∈ F.killB b, on L x = false) → F.B b w
/-- What an operation is asked for. -/
def CertF (P : Program) (Q : Exit → Act → World → Prop) (F : Flow) (ops : Array Oper) (a0 : Act) (k : Nat) (o : Oper) : Prop :=
  ∀ (a : Act) (w : World) (K : Act → World → Prop),
    (∀ j d, depB o j = true → okK ops k (F.kill j) = true → dstOf ops j = some d → F.R j (a.eval (.tmp d)) w) →
    (∀ t, freeF ops k t = true → a.eval (.tmp t) = a0.eval (.tmp t)) →
    (∀ b, okK ops k (F.killB b) = true → F.B b w) →
    (∀ v w', F.E k w w' → F.R k v w' → K (a.put o.dst v) w') → o.wp P a w K Q
/-- An operation that may be guarded: it is wanted, or it is passed by. -/
def CertH (P : Program) (Q : Exit → Act → World → Prop) (F : Flow) (ops : Array Oper) (a0 : Act) (k : Nat) (o : Oper) : Prop :=
  match o.guard with
  | none => CertF P Q F ops a0 k o
  | some (j, want) => depB o j = true ∧ (dstOf ops j).isSome = true ∧ okK ops k (F.kill j) = true ∧
    (((∀ v w, F.R j v w → v = .bool want) ∧ CertF P Q F ops a0 k o) ∨ ((∀ v w, F.R j v w → v = .bool (!want)) ∧ ∀ w, F.E k w w ∧ F.R k undef w))
def chkF (ops : Array Oper) (n : Nat) : Bool :=
  (List.range ops.size).all (fun i => match ops[i]? with
    | some o => o.after.all (fun e => !Region.binds .any e || e.on < i) && (match o.dst with | none => true | some d => decide (d < n) && (List.range ops.size).all (fun j => j == i || dstOf ops j != some d))
    | none => false)
structure RegF (P : Program) (Q : Exit → Act → World → Prop) (F : Flow) (ops : Array Oper) (a0 : Act) (m : Nat) : Prop where
  chk : chkF ops a0.tmps.size = true
  cert : ∀ k o, k < m → ops[k]? = some o → CertH P Q F ops a0 k o
  stab : ∀ i j, i < m → j < m → i ≠ j → (F.kill j).contains i = false → depOn ops j i = false → ∀ v w w', F.E i w w' → F.R j v w → F.R j v w'
  stabB : ∀ i b, i < m → (F.killB b).contains i = false → ∀ w w', F.E i w w' → F.B b w → F.B b w'
variable {F : Flow} {m : Nat}
theorem RegF.of {k : Nat} {o : Oper} (h : RegF P Q F ops a0 m) (ho : ops[k]? = some o) : (∀ e ∈ o.after, Region.binds .any e = true → e.on < k) ∧ ∀ d, o.dst = some d → d < a0.tmps.size ∧ ∀ j, dstOf ops j = some d → j = k := by
  have hk : k < ops.size := (Array.getElem?_eq_some_iff.1 ho).1
  have h1 := List.all_eq_true.1 h.chk k (List.mem_range.2 hk)
  rw [ho] at h1
  simp only [Bool.and_eq_true] at h1
  obtain ⟨h2, h3⟩ := h1
  refine ⟨fun e he hb => ?_, fun d hd => ?_⟩
  · have := Array.all_eq_true'.1 h2 e he
    simpa [hb] using this
  · rw [hd] at h3
    simp only [Bool.and_eq_true, decide_eq_true_eq] at h3
    refine ⟨h3.1, fun j hj => ?_⟩
    have hjs : j < ops.size := by
      unfold dstOf at hj
      cases hx : ops[j]? with
      | none => rw [hx] at hj; cases hj
      | some x => exact (Array.getElem?_eq_some_iff.1 hx).1
    have := List.all_eq_true.1 h3.2 j (List.mem_range.2 hjs)
    simpa [hj] using this
theorem dstOf_some {i : Nat} {o : Oper} (ho : ops[i]? = some o) : dstOf ops i = o.dst := by unfold dstOf; rw [ho]; rfl
theorem dep_on {a : Act} {x k : Nat} {o : Oper} (h : InvF F ops a0 L a w) {ho : ops[x]? = some o} (hd : depB o k = true) (hx : on L x = true) : on L k = true := by
  obtain ⟨e, he, hb⟩ := Array.any_eq_true'.1 hd
  simp only [Bool.and_eq_true, beq_iff_eq] at hb
  rw [← hb.2]
  exact h.cl x o ho hx e he hb.1
theorem on_lt {L : Array Bool} {x : Nat} (h : on L x = true) : x < L.size := by
  rcases Nat.lt_or_ge x L.size with h1 | h1
  · exact h1
  · unfold on at h
    rw [Array.getD_eq_getD_getElem?, Array.getElem?_eq_none h1] at h
    cases h
theorem stepF {k : Nat} {o : Oper} {a : Act} (R : RegF P Q F ops a0 m) (hkm : k < m) (hlt : ∀ i, on L i = true → i < m) (ho : ops[k]? = some o) (hun : on L k = false) (hdep : ∀ e ∈ o.after, Region.binds .any e = true → on L e.on = true) (h : InvF F ops a0 L a w) :
    wpOp P ops Q k (InvF F ops a0 (L.setIfInBounds k true)) a w := by
  obtain ⟨hback, hdst⟩ := R.of ho
  have hks : k < ops.size := (Array.getElem?_eq_some_iff.1 ho).1
  have hkL : k < L.size := by rw [h.size]; exact hks
  have hdo : dstOf ops k = o.dst := dstOf_some ho
  have hnot : ∀ x, (x == k || depOn ops x k) = true → on L x = false := fun x hx => by
    cases hon : on L x with
    | false => rfl
    | true =>
      rcases Bool.or_eq_true _ _ ▸ hx with h1 | h1
      · rw [show x = k by simpa using h1, hun] at hon; cases hon
      · unfold depOn at h1
        have hxs : x < ops.size := by rw [← h.size]; exact on_lt hon
        have hox : ops[x]? = some ops[x] := Array.getElem?_eq_getElem hxs
        rw [hox] at h1
        have := dep_on (ho := hox) h h1 hon
        rw [hun] at this; cases this
  obtain ⟨V, hV1, hV2⟩ := h.all
  have hp1 : ∀ j d, depB o j = true → okK ops k (F.kill j) = true → dstOf ops j = some d → a.tmps[d]? = some (V j) ∧ F.R j (V j) w := fun j d hj hok hd => by
    obtain ⟨e, he, hb⟩ := Array.any_eq_true'.1 hj
    simp only [Bool.and_eq_true, beq_iff_eq] at hb
    have hjon : on L j = true := by rw [← hb.2]; exact hdep e he hb.1
    exact ⟨hV1 j d hjon hd, hV2 j hjon fun x hx => hnot x (List.all_eq_true.1 hok x hx)⟩
  have hpre1 : ∀ j d, depB o j = true → okK ops k (F.kill j) = true → dstOf ops j = some d → F.R j (a.eval (.tmp d)) w := fun j d hj hok hd => by
    rw [eval_of (hp1 j d hj hok hd).1]
    exact (hp1 j d hj hok hd).2
  have hpre2 : ∀ t, freeF ops k t = true → a.eval (.tmp t) = a0.eval (.tmp t) := fun t hf => by
    have h1 := h.rest t fun i hi hd => by
      have his : i < ops.size := by rw [← h.size]; exact on_lt hi
      have h2 := List.all_eq_true.1 hf i (List.mem_range.2 his)
      rw [hd] at h2
      have h3 : (i == k || depOn ops i k) = true := by simpa using h2
      rw [hnot i h3] at hi; cases hi
    show a.tmps.getD t undef = a0.tmps.getD t undef
    rw [Array.getD_eq_getD_getElem?, Array.getD_eq_getD_getElem?, h1]
  have hpre3 : ∀ b, okK ops k (F.killB b) = true → F.B b w := fun b hb => h.base b fun x hx => hnot x (List.all_eq_true.1 hb x hx)
  have hpost : ∀ v w', F.E k w w' → F.R k v w' → InvF F ops a0 (L.setIfInBounds k true) (a.put o.dst v) w' := fun v w' hE hR => by
    have hon : ∀ x, on (L.setIfInBounds k true) x = (on L x || k == x) := fun x => on_set hkL
    refine ⟨by rw [Array.size_setIfInBounds]; exact h.size, fun i oi hoi hi e he hb => ?_, ?_, ?_, fun t ht => ?_, ⟨fun x => if x = k then v else V x, fun i d hi hd => ?_, fun i hi hkl => ?_⟩, fun b hb => ?_⟩
    · rw [hon] at hi ⊢
      by_cases hik : k = i
      · subst hik
        rw [ho] at hoi
        obtain rfl := Option.some.inj hoi
        rw [hdep e he hb, Bool.true_or]
      · rw [h.cl i oi hoi (by simpa [hik] using hi) e he hb, Bool.true_or]
    · rw [← h.def']; cases o.dst <;> rfl
    · rw [put_size]; exact h.sz
    · have h1 : o.dst ≠ some t := fun hd => ht k (by rw [hon]; simp) (by rw [hdo]; exact hd)
      rw [put_other a v h1]
      exact h.rest t fun i hi => ht i (by rw [hon, hi, Bool.true_or])
    · rw [hon] at hi
      by_cases hik : i = k
      · subst hik
        rw [hdo] at hd
        rw [hd]
        show (a.tmps.setIfInBounds d v)[d]? = some (if i = i then v else V i)
        rw [if_pos (rfl : i = i)]
        rw [Array.getElem?_setIfInBounds, if_pos rfl, if_pos (by rw [h.sz]; exact (hdst d hd).1)]
      · have hne : o.dst ≠ some d := fun hd2 => hik ((hdst d hd2).2 i hd)
        rw [put_other a v hne]
        show _ = some (if i = k then v else V i)
        rw [if_neg hik]
        have hik' : ¬ k = i := fun e => hik e.symm
        exact hV1 i d (by simpa [hik'] using hi) hd
    · rw [hon] at hi
      by_cases hik : i = k
      · subst hik
        show F.R i (if i = i then v else V i) w'
        rw [if_pos rfl]; exact hR
      · show F.R i (if i = k then v else V i) w'
        rw [if_neg hik]
        have hik' : ¬ k = i := fun e => hik e.symm
        have hi' : on L i = true := by simpa [hik'] using hi
        have h1 : ∀ x ∈ F.kill i, on L x = false := fun x hx => by
          have := hkl x hx
          rw [hon, Bool.or_eq_false_iff] at this
          exact this.1
        have h2 : (F.kill i).contains k = false := by
          cases hc : (F.kill i).contains k with
          | false => rfl
          | true =>
            have := hkl k (by simpa using hc)
            rw [hon] at this
            simp at this
        have his : i < ops.size := by rw [← h.size]; exact on_lt hi'
        have h3 : depOn ops i k = false := by
          cases hc : depOn ops i k with
          | false => rfl
          | true => rw [hnot i (by rw [hc, Bool.or_true])] at hi'; cases hi'
        exact R.stab k i hkm (hlt i hi') (Ne.symm hik) h2 h3 _ _ _ hE (hV2 i hi' h1)
    · have h1 : ∀ x ∈ F.killB b, on L x = false := fun x hx => by
        have := hb x hx
        rw [hon, Bool.or_eq_false_iff] at this
        exact this.1
      have h2 : (F.killB b).contains k = false := by
        cases hc : (F.killB b).contains k with
        | false => rfl
        | true =>
          have := hb k (by simpa using hc)
          rw [hon] at this
          simp at this
      exact R.stabB k b hkm h2 _ _ hE (h.base b h1)
  have hC := R.cert k o hkm ho
  unfold CertH at hC
  unfold wpOp
  rw [ho]
  dsimp only
  cases hg : o.guard with
  | none =>
    rw [hg] at hC
    rw [wanted_none hg, if_pos rfl]
    left
    exact hC a w _ hpre1 hpre2 hpre3 hpost
  | some jw =>
    obtain ⟨j, want⟩ := jw
    rw [hg] at hC
    obtain ⟨hd1, hd2, hd3, hcase⟩ := hC
    obtain ⟨d, hd⟩ := Option.isSome_iff_exists.1 hd2
    obtain ⟨hs, hRj⟩ := hp1 j d hd1 hd3 hd
    have hy : ∀ b, V j = .bool b → Region.wanted o (yielded ops a.tmps) = (b == want) := fun b hb => by
      have h4 : yielded ops a.tmps j = some b := by
        unfold dstOf at hd
        unfold yielded
        cases hoj : ops[j]? with
        | none => rw [hoj] at hd; cases hd
        | some oj =>
          rw [hoj] at hd
          show (match oj.dst.bind (a.tmps[·]?) with | some (.bool b) => some b | _ => none) = _
          rw [show oj.dst = some d from hd]
          show (match a.tmps[d]? with | some (.bool b) => some b | _ => none) = _
          rw [hs, hb]
      unfold Region.wanted
      rw [hg]
      show (yielded ops a.tmps j == some want) = _
      rw [h4]
      cases b <;> cases want <;> rfl
    rcases hcase with ⟨hw, hc⟩ | ⟨hw, hsk⟩
    · rw [hy _ (hw _ _ hRj), show (want == want) = true by cases want <;> rfl, if_pos rfl]
      left
      exact hc a w _ hpre1 hpre2 hpre3 hpost
    · rw [hy _ (hw _ _ hRj), show ((!want) == want) = false by cases want <;> rfl]
      exact hpost undef w (hsk w).1 (hsk w).2
/-- All slots that were filled. -/
def putV (V : Nat → Value) : List Oper → Nat → Act → Act
  | [], _, a => a
  | o :: r, i, a => putV V r (i + 1) (a.put o.dst (V i))
theorem putV_defers (V : Nat → Value) : ∀ (l : List Oper) (i : Nat) (a : Act), (putV V l i a).defers = a.defers
  | [], _, _ => rfl
  | o :: r, i, a => by
    rw [putV, putV_defers V r]
    cases o.dst <;> rfl
theorem putV_other (V : Nat → Value) : ∀ (l : List Oper) (i : Nat) (a : Act) (t : Tmp), (∀ o ∈ l, o.dst ≠ some t) → (putV V l i a).tmps[t]? = a.tmps[t]?
  | [], _, _, _, _ => rfl
  | o :: r, i, a, t, h => by
    rw [putV, putV_other V r _ _ t (fun x hx => h x (List.mem_cons_of_mem _ hx)), put_other a _ (h o List.mem_cons_self)]
theorem putV_same (V : Nat → Value) : ∀ (l : List Oper) (i : Nat) (a : Act) (j : Nat) (o : Oper) (d : Tmp), l[j]? = some o → o.dst = some d → (∀ j' o', l[j']? = some o' → o'.dst = some d → j' = j) → d < a.tmps.size → (putV V l i a).tmps[d]? = some (V (i + j))
  | [], _, _, _, _, _, h, _, _, _ => by simp at h
  | x :: r, i, a, 0, o, d, h, hd, hu, hs => by
    obtain rfl : x = o := by simpa using h
    rw [putV, putV_other V r _ _ d (fun y hy hyd => by
      obtain ⟨j', hj'⟩ := List.getElem?_of_mem hy
      have := hu (j' + 1) y (by simpa using hj') hyd
      omega), hd]
    show (a.tmps.setIfInBounds d _)[d]? = _
    rw [Array.getElem?_setIfInBounds, if_pos rfl, if_pos hs]
    rfl
  | x :: r, i, a, j + 1, o, d, h, hd, hu, hs => by
    rw [putV, putV_same V r (i + 1) _ j o d (by simpa using h) hd (fun j' o' h' hd' => by
      have := hu (j' + 1) o' (by simpa using h') hd'
      omega) (by rw [put_size]; exact hs)]
    congr 2
    omega
theorem InvF.done {a : Act} (R : RegF P Q F ops a0 m) (h : InvF F ops a0 L a w) (hall : ∀ i, i < ops.size → on L i = true)
    (hp : ∀ (V : Nat → Value), (∀ i, i < ops.size → F.kill i = [] → F.R i (V i) w) → (∀ b, F.killB b = [] → F.B b w) → Q .normal (putV V ops.toList 0 a0) w) : Q .normal a w := by
  obtain ⟨V, hV1, hV2⟩ := h.all
  have e : a = putV V ops.toList 0 a0 := by
    refine Act.ext' ?_ (by rw [putV_defers]; exact h.def')
    apply Array.ext_getElem?
    intro t
    by_cases ht : ∃ (i : Nat) (o : Oper), ops[i]? = some o ∧ o.dst = some t
    · obtain ⟨i, o, ho, hd⟩ := ht
      rw [hV1 i t (hall i (Array.getElem?_eq_some_iff.1 ho).1) (by rw [dstOf_some ho]; exact hd)]
      rw [putV_same V ops.toList 0 a0 i o t (by rw [Array.getElem?_toList]; exact ho) hd (fun j' o' hj' hd' => ((R.of ho).2 t hd).2 j' (by rw [Array.getElem?_toList] at hj'; rw [dstOf_some hj']; exact hd')) ((R.of ho).2 t hd).1, Nat.zero_add]
    · rw [h.rest t (fun i hi hd => ?_), putV_other V ops.toList 0 a0 t (fun o hm hd => ?_)]
      · obtain ⟨i, hi⟩ := List.getElem?_of_mem hm
        rw [Array.getElem?_toList] at hi
        exact ht ⟨i, o, hi, hd⟩
      · unfold dstOf at hd
        cases hx : ops[i]? with
        | none => rw [hx] at hd; cases hd
        | some x => rw [hx] at hd; exact ht ⟨i, x, hx, hd⟩
  rw [e]
  exact hp V (fun i hi hk => hV2 i (hall i hi) (by rw [hk]; simp)) (fun b hb => h.base b (by rw [hb]; simp))
theorem InvF.full {a : Act} (R : RegF P Q F ops a0 m) (h : InvF F ops a0 L a w) (hr : Region.ready .any ops L = []) : ∀ i, i < ops.size → on L i = true := by
  intro i
  induction i using Nat.strongRecOn with
  | ind i ih =>
    intro hi
    have ho : ops[i]? = some ops[i] := Array.getElem?_eq_getElem _
    cases hon : on L i with
    | true => rfl
    | false =>
      have : i ∈ Region.ready .any ops L := mem_ready.2 ⟨?_, _, ho, fun e he hb => ?_⟩
      · rw [hr] at this; cases this
      · unfold on at hon
        rw [Array.getD_eq_getD_getElem?, Array.getElem?_eq_getElem (by rw [h.size]; exact hi)] at hon ⊢
        exact hon
      · have hlt := (R.of ho).1 e he hb
        exact ih e.on hlt (Nat.lt_trans hlt hi)
/-- THE LAW of flows, for a region that draws its order. -/
theorem flow_draws {id : Nat} (F : Flow) (hm : P.follows .mixedOrders = true) (R : RegF P Q F ops a0 ops.size) (hB : ∀ b, F.B b w.drew)
    (hp : ∀ (V : Nat → Value) (w' : World), (∀ i, i < ops.size → F.kill i = [] → F.R i (V i) w') → (∀ b, F.killB b = [] → F.B b w') → Q .normal (putV V ops.toList 0 a0) w') : (Code.region id ops true).wp P Q a0 w := by
  have key : ∀ (fuel : Nat) (L : Array Bool) (a : Act) (w : World), unl L = fuel → InvF F ops a0 L a w → wpAny P .any ops Q fuel L a w := by
    intro fuel
    induction fuel with
    | zero =>
      intro L a w hu hI
      have hall : ∀ i, i < ops.size → on L i = true := fun i hi => unl_zero hu i (by rw [hI.size]; exact hi)
      refine ⟨?_, hI.done R hall (fun V => hp V w)⟩
      apply List.eq_nil_iff_forall_not_mem.2
      intro i hi
      obtain ⟨h1, o, ho, -⟩ := mem_ready.1 hi
      have h2 := hall i (Array.getElem?_eq_some_iff.1 ho).1
      unfold on at h2
      rw [Array.getD_eq_getD_getElem?] at h1 h2
      cases hh : L[i]? with
      | none => rw [hh] at h1; cases h1
      | some b => rw [hh] at h1 h2; rw [show b = false from h1] at h2; cases h2
    | succ fuel ih =>
      intro L a w hu hI
      refine ⟨fun hr => hI.done R (hI.full R hr) (fun V => hp V w), fun i hi => ?_⟩
      obtain ⟨h1, o, ho, hdep⟩ := mem_ready.1 hi
      have hoff : on L i = false := by
        unfold on
        rw [Array.getD_eq_getD_getElem?] at h1 ⊢
        cases hh : L[i]? with
        | none => rfl
        | some b => rw [hh] at h1; exact h1
      exact wpOp_mono (fun a' w' hI' => ih _ a' w' (by have := unl_set h1; omega) hI') (stepF R (Array.getElem?_eq_some_iff.1 ho).1 (fun i hi => by rw [← hI.size]; exact on_lt hi) ho hoff hdep hI)
  have hoff : ∀ i, on (Array.replicate ops.size false) i = false := fun i => by
    unfold on
    rw [Array.getD_eq_getD_getElem?, Array.getElem?_replicate]
    by_cases h : i < ops.size
    · rw [if_pos h]; rfl
    · rw [if_neg h]; rfl
  refine wp_region_any hm (key _ _ a0 _ ?_ ⟨Array.size_replicate, (fun i o _ h => by rw [hoff] at h; cases h), rfl, rfl, fun _ _ => rfl, ⟨fun _ => undef, fun i d h => (by rw [hoff] at h; cases h), fun i h => (by rw [hoff] at h; cases h)⟩, fun b _ => hB b⟩)
  unfold unl
  rw [Array.toList_replicate, List.countP_replicate]
  simp
theorem putV_size (V : Nat → Value) : ∀ (l : List Oper) (i : Nat) (a : Act), (putV V l i a).tmps.size = a.tmps.size
  | [], _, _ => rfl
  | o :: r, i, a => by rw [putV, putV_size V r, put_size]
theorem RegF.slot {V : Nat → Value} (R : RegF P Q F ops a0 m) {i : Nat} {d : Tmp} (hd : dstOf ops i = some d) : (putV V ops.toList 0 a0).tmps[d]? = some (V i) := by
  cases ho : ops[i]? with
  | none => unfold dstOf at hd; rw [ho] at hd; cases hd
  | some o =>
    have hd' : o.dst = some d := by rw [← dstOf_some ho]; exact hd
    rw [putV_same V ops.toList 0 a0 i o d (by rw [Array.getElem?_toList]; exact ho) hd' (fun j' o' hj' hdj => ((R.of ho).2 d hd').2 j' (by rw [Array.getElem?_toList] at hj'; rw [dstOf_some hj']; exact hdj)) ((R.of ho).2 d hd').1, Nat.zero_add]
/-- What an operation may lean on. -/
structure PreF (F : Flow) (ops : Array Oper) (a0 : Act) (k : Nat) (o : Oper) (a : Act) (w : World) : Prop where
  n : ∀ j d, depB o j = true → okK ops k (F.kill j) = true → dstOf ops j = some d → F.R j (a.eval (.tmp d)) w
  o : ∀ t, freeF ops k t = true → a.eval (.tmp t) = a0.eval (.tmp t)
  b : ∀ b, okK ops k (F.killB b) = true → F.B b w
def CertsF (P : Program) (Q : Exit → Act → World → Prop) (F : Flow) (ops : Array Oper) (a0 : Act) : Nat → List Oper → Prop
  | _, [] => True
  | k, o :: r => CertH P Q F ops a0 k o ∧ CertsF P Q F ops a0 (k + 1) r
theorem certs_go : ∀ (l : List Oper) (i : Nat), CertsF P Q F ops a0 i l → ∀ k o, l[k]? = some o → CertH P Q F ops a0 (i + k) o
  | [], _, _, k, o, h => by simp at h
  | x :: r, i, hc, 0, o, h => by
    obtain rfl : x = o := by simpa using h
    exact hc.1
  | x :: r, i, hc, k + 1, o, h => by
    have := certs_go r (i + 1) hc.2 k o (by simpa using h)
    rwa [show i + 1 + k = i + (k + 1) by omega] at this
theorem certs_of (h : CertsF P Q F ops a0 0 ops.toList) : ∀ k o, k < ops.size → ops[k]? = some o → CertH P Q F ops a0 k o := fun k o _ ho => by
  have := certs_go ops.toList 0 h k o (by rw [Array.getElem?_toList]; exact ho)
  rwa [Nat.zero_add] at this
def evo (ev : Tmp → Value) : Operand → Value
  | .tmp t => ev t
  | .const v => v
  | .global g => .pointer (some ⟨g, 0, none⟩)
  | .func f => .func (.func f) #[] #[]
def seenT (T : List Tmp) (o : Oper) : Bool :=
  (match o.op with | .select _ _ => false | _ => true) && o.op.operands.all (fun x => match x with | .tmp t => T.contains t | _ => true)
theorem exec_ev {a : Act} {o : Oper} (ev : Tmp → Value) (T : List Tmp) (h : seenT T o = true) (he : ∀ t ∈ T, a.eval (.tmp t) = ev t) : execOp a.eval o = execOp (evo ev) o := by
  simp only [seenT, Bool.and_eq_true] at h
  refine execOp_congr o (fun cs b he => ?_) (fun x hx => ?_)
  · rw [he] at h; exact absurd h.1 (by simp)
  · have h1 := Array.all_eq_true'.1 h.2 x hx
    cases x with
    | tmp t => exact he t (by simpa using h1)
    | const v => rfl
    | global g => rfl
    | func f => rfl
/-- An operation that is run. -/
theorem cf_val {k : Nat} {o : Oper} (h : ∀ (a : Act) (w : World), PreF F ops a0 k o a w → ∃ v w', (execOp a.eval o).run P w = .ok (.value v) w' ∧ F.E k w w' ∧ F.R k v w') : CertF P Q F ops a0 k o := by
  intro a w K h1 h2 h3 hK
  obtain ⟨v, w', hr, hE, hR⟩ := h a w ⟨h1, h2, h3⟩
  unfold Oper.wp
  rw [hr]
  exact hK v w' hE hR
/-- An operation over one slot. -/
theorem cf_one {k : Nat} {o : Oper} (t : Tmp) (h : ∀ (a : Act) (w : World), PreF F ops a0 k o a w → ∃ v w', (seenT [t] o = true) ∧ (execOp (evo fun _ => a.eval (.tmp t)) o).run P w = .ok (.value v) w' ∧ F.E k w w' ∧ F.R k v w') : CertF P Q F ops a0 k o := by
  refine cf_val fun a w hp => ?_
  obtain ⟨v, w', hs, hr, hE⟩ := h a w hp
  refine ⟨v, w', ?_, hE⟩
  rw [exec_ev (fun _ => a.eval (.tmp t)) [t] hs (fun x hx => by rw [show x = t by simpa using hx])]
  exact hr
/-- A call. -/
theorem cf_call {k : Nat} {o : Oper} (t : Tmp) (h : ∀ (a : Act) (w : World), PreF F ops a0 k o a w → ∃ f args, (seenT [t] o = true) ∧ (execOp (evo fun _ => a.eval (.tmp t)) o).run P w = .ok (.enter f args) w ∧ Calls P f args w (Ret fun e w' => F.E k w w' ∧ F.R k e w')) : CertF P Q F ops a0 k o := by
  intro a w K h1 h2 h3 hK
  obtain ⟨f, args, hs, hr, hc⟩ := h a w ⟨h1, h2, h3⟩
  unfold Oper.wp
  rw [exec_ev (fun _ => a.eval (.tmp t)) [t] hs (fun x hx => by rw [show x = t by simpa using hx]), hr, Oper.upon_enter]
  refine hc.mono ?_
  rintro e w' ⟨v, rfl, hE, hR⟩
  exact hK _ _ hE hR
/-- A row is loaded. -/
theorem cf_load {k : Nat} {o : Oper} (T : TypeId) (t : Tmp) (ho : o.op = .load T (.tmp t)) (hu : (P.underlying T).map (·.isRow) = some true)
    (h : ∀ (a : Act) (w : World), PreF F ops a0 k o a w → ∃ g off cs, a.eval (.tmp t) = .pointer (some ⟨g, off, none⟩) ∧ w.rangeAt g off cs ∧ (P.info? T).map (·.size) = some cs.length ∧ F.E k w w ∧ F.R k (.agg cs.toArray) w) : CertF P Q F ops a0 k o := by
  intro a w K h1 h2 h3 hK
  obtain ⟨g, off, cs, he, hr, hi, hE, hR⟩ := h a w ⟨h1, h2, h3⟩
  obtain ⟨d, hu, hd⟩ := Option.map_eq_some_iff.1 hu
  exact wp_load_mid T (.tmp t) ho g off he cs d hr hu hd hi (hK _ _ hE hR)
/-- A list is appended to another. -/
theorem cf_app {k : Nat} {o : Oper} (s u : Tmp) (t : TypeId) (ho : o.op = .call { callee := .builtin .append, args := #[.tmp s, .tmp u], argTypes := #[t, t] })
    (h : ∀ (a : Act) (w : World), PreF F ops a0 k o a w → ∃ v w', (Builtin.append_ #[t, t] o.type #[a.eval (.tmp s), a.eval (.tmp u)]).run P w = .ok v w' ∧ F.E k w w' ∧ F.R k v w') : CertF P Q F ops a0 k o := by
  intro a w K h1 h2 h3 hK
  obtain ⟨v, w', hr, hE, hR⟩ := h a w ⟨h1, h2, h3⟩
  unfold Oper.wp execOp
  simp only [ho, resolve, invoke, builtin, Sem.run_bind, Sem.run_pure, Result.andThen_ok, List.map_toArray, List.map_cons, List.map_nil, hr]
  exact hK _ _ hE hR
theorem certs_but (h : CertsF P Q F ops a0 0 (ops.toList.take m)) : ∀ k o, k < m → ops[k]? = some o → CertH P Q F ops a0 k o := fun k o hk ho => by
  have := certs_go (ops.toList.take m) 0 h k o (by rw [List.getElem?_take, if_pos hk, Array.getElem?_toList]; exact ho)
  rwa [Nat.zero_add] at this
theorem InvF.act {a : Act} (R : RegF P Q F ops a0 m) (h : InvF F ops a0 L a w) (hm : m ≤ ops.size) (hall : ∀ i, on L i = true ↔ i < m) {V : Nat → Value} (hV1 : ∀ i d, on L i = true → dstOf ops i = some d → a.tmps[d]? = some (V i)) : a = putV V (ops.toList.take m) 0 a0 := by
  refine Act.ext' ?_ (by rw [putV_defers]; exact h.def')
  apply Array.ext_getElem?
  intro t
  by_cases ht : ∃ (i : Nat) (o : Oper), i < m ∧ ops[i]? = some o ∧ o.dst = some t
  · obtain ⟨i, o, him, ho, hd⟩ := ht
    rw [hV1 i t ((hall i).2 him) (by rw [dstOf_some ho]; exact hd)]
    rw [putV_same V (ops.toList.take m) 0 a0 i o t (by rw [List.getElem?_take, if_pos him, Array.getElem?_toList]; exact ho) hd (fun j' o' hj' hd' => ((R.of ho).2 t hd).2 j' (by
      rw [List.getElem?_take] at hj'
      split at hj'
      · rw [Array.getElem?_toList] at hj'; rw [dstOf_some hj']; exact hd'
      · cases hj')) ((R.of ho).2 t hd).1, Nat.zero_add]
  · rw [h.rest t (fun i hi hd => ?_), putV_other V (ops.toList.take m) 0 a0 t (fun o hm' hd => ?_)]
    · obtain ⟨i, hi⟩ := List.getElem?_of_mem hm'
      rw [List.getElem?_take] at hi
      split at hi
      · rename_i him
        rw [Array.getElem?_toList] at hi
        exact ht ⟨i, o, him, hi, hd⟩
      · cases hi
    · unfold dstOf at hd
      cases hx : ops[i]? with
      | none => rw [hx] at hd; cases hd
      | some x => rw [hx] at hd; exact ht ⟨i, x, (hall i).1 hi, hx, hd⟩
/-- THE LAW of flows, for a region whose last operation waits for all others. -/
theorem flow_last {id : Nat} (F : Flow) (n : Nat) (hn : ops.size = n + 1) (hd : (List.range n).all (fun j => depOn ops n j || (List.range n).any (fun i => depOn ops n i && depOn ops i j)) = true) (hm : P.follows .mixedOrders = true) (R : RegF P Q F ops a0 n) (hB : ∀ b, F.B b w.drew)
    (hp : ∀ (V : Nat → Value) (w' : World), (∀ i, i < n → F.kill i = [] → F.R i (V i) w') → (∀ b, F.killB b = [] → F.B b w') → wpList P ops Q (ops.toList.drop n) (putV V (ops.toList.take n) 0 a0) w') : (Code.region id ops true).wp P Q a0 w := by
  have hon' : ops[n]? = some (ops[n]'(by omega)) := Array.getElem?_eq_getElem _
  have key : ∀ (fuel : Nat) (L : Array Bool) (a : Act) (w : World), unl L = fuel → on L n = false → InvF F ops a0 L a w → wpAny P .any ops Q fuel L a w := by
    intro fuel
    induction fuel with
    | zero =>
      intro L a w hu hoff hI
      have := unl_zero hu n (by rw [hI.size]; omega)
      rw [hoff] at this; cases this
    | succ fuel ih =>
      intro L a w hu hoff hI
      refine ⟨fun hr => ?_, fun i hi => ?_⟩
      · have := hI.full R hr n (by omega)
        rw [hoff] at this; cases this
      · obtain ⟨h1, o, ho, hdep⟩ := mem_ready.1 hi
        have his : i < ops.size := (Array.getElem?_eq_some_iff.1 ho).1
        have hoi : on L i = false := by
          unfold on
          rw [Array.getD_eq_getD_getElem?] at h1 ⊢
          cases hh : L[i]? with
          | none => rfl
          | some b => rw [hh] at h1; exact h1
        by_cases hin : i = n
        · subst hin
          have hall : ∀ j, on L j = true ↔ j < i := fun j => by
            constructor
            · intro hj
              have h2 : j < ops.size := by rw [← hI.size]; exact on_lt hj
              rcases Nat.lt_or_ge j i with h | h
              · exact h
              · obtain rfl : j = i := by omega
                rw [hoff] at hj; cases hj
            · intro hj
              have hdir : ∀ j, depOn ops i j = true → on L j = true := fun j h2 => by
                unfold depOn at h2
                rw [ho] at h2
                obtain ⟨e, he, hb⟩ := Array.any_eq_true'.1 h2
                simp only [Bool.and_eq_true, beq_iff_eq] at hb
                have := hdep e he hb.1
                rw [hb.2] at this
                exact this
              have h2 := List.all_eq_true.1 hd j (List.mem_range.2 hj)
              rw [Bool.or_eq_true] at h2
              rcases h2 with h2 | h2
              · exact hdir j h2
              · obtain ⟨x, hx, h3⟩ := List.any_eq_true.1 h2
                rw [Bool.and_eq_true] at h3
                have hxo := hdir x h3.1
                have hxs : x < ops.size := by have := List.mem_range.1 hx; omega
                have hox : ops[x]? = some ops[x] := Array.getElem?_eq_getElem hxs
                have h4 := h3.2
                unfold depOn at h4
                rw [hox] at h4
                exact dep_on (ho := hox) hI h4 hxo
          obtain ⟨V, hV1, hV2⟩ := hI.all
          have ha := hI.act R (by omega) hall hV1
          have hkl : ∀ l : List Nat, l = [] → ∀ x ∈ l, on L x = false := fun l hl x hx => by rw [hl] at hx; cases hx
          have hfin := hp V w (fun j hj hk => hV2 j ((hall j).2 hj) (hkl _ hk)) (fun b hb => hI.base b (hkl _ hb))
          have hdrop : ops.toList.drop i = [o] := by
            have hlen : ops.toList.length = i + 1 := by rw [Array.length_toList]; exact hn
            rw [List.drop_eq_getElem_cons (by omega), List.drop_of_length_le (by omega)]
            have : ops.toList[i]? = some o := by rw [Array.getElem?_toList]; exact ho
            rw [List.getElem?_eq_getElem (by omega)] at this
            rw [Option.some.inj this]
          rw [hdrop, ← ha] at hfin
          have hop : wpOp P ops Q i (fun a' w' => Q .normal a' w') a w := by
            unfold wpOp
            rw [ho]
            exact hfin
          refine wpOp_mono (fun a' w' hq => ?_) hop
          have hon2 : ∀ j, j < ops.size → on (L.setIfInBounds i true) j = true := fun j hj => by
            rw [on_set (by rw [hI.size]; omega)]
            by_cases h : j < i
            · rw [(hall j).2 h, Bool.true_or]
            · rw [show j = i by omega]; simp
          have hr : Region.ready .any ops (L.setIfInBounds i true) = [] := by
            apply List.eq_nil_iff_forall_not_mem.2
            intro j hj
            obtain ⟨h1, o', ho', -⟩ := mem_ready.1 hj
            have h2 := hon2 j (Array.getElem?_eq_some_iff.1 ho').1
            unfold on at h2
            rw [Array.getD_eq_getD_getElem?] at h1 h2
            cases hh : (L.setIfInBounds i true)[j]? with
            | none => rw [hh] at h1; cases h1
            | some b => rw [hh] at h1 h2; rw [show b = false from h1] at h2; cases h2
          cases fuel with
          | zero => exact ⟨hr, hq⟩
          | succ f => exact ⟨fun _ => hq, fun j hj => by rw [hr] at hj; cases hj⟩
        · refine wpOp_mono (fun a' w' hI' => ih _ a' w' (by have := unl_set h1; omega) ?_ hI') (stepF R (by omega) (fun j hj => ?_) ho hoi hdep hI)
          · rw [on_set (by rw [hI.size]; exact his), hoff]
            simpa using hin
          · have h2 : j < ops.size := by rw [← hI.size]; exact on_lt hj
            rcases Nat.lt_or_ge j n with h | h
            · exact h
            · obtain rfl : j = n := by omega
              rw [hoff] at hj; cases hj
  have hoff : ∀ i, on (Array.replicate ops.size false) i = false := fun i => by
    unfold on
    rw [Array.getD_eq_getD_getElem?, Array.getElem?_replicate]
    by_cases h : i < ops.size
    · rw [if_pos h]; rfl
    · rw [if_neg h]; rfl
  refine wp_region_any hm (key _ _ a0 _ ?_ (hoff n) ⟨Array.size_replicate, (fun i o _ h => by rw [hoff] at h; cases h), rfl, rfl, fun _ _ => rfl, ⟨fun _ => undef, fun i d h => (by rw [hoff] at h; cases h), fun i h => (by rw [hoff] at h; cases h)⟩, fun b _ => hB b⟩)
  unfold unl
  rw [Array.toList_replicate, List.countP_replicate]
  simp
end Go.Proofs.Ytfgjdidnnbjalaa.RG
set_option linter.unusedVariables false
set_option linter.unusedSimpArgs false
namespace Go.Proofs.Ytfgjdidnnbjalaa.RG
open Go Go.RowKit
variable {P : Program} {ops : Array Oper} {Q : Exit → Act → World → Prop} {w : World} {a0 : Act}
def AllE (a : Act) : List (Tmp × Value) → Prop
  | [] => True
  | x :: r => a.eval (.tmp x.1) = x.2 ∧ AllE a r
def evl (ps : List (Tmp × Value)) (t : Tmp) : Value := match ps.find? (fun x => x.1 == t) with | some x => x.2 | none => undef
theorem AllE.mem {a : Act} : ∀ {ps : List (Tmp × Value)}, AllE a ps → ∀ x ∈ ps, a.eval (.tmp x.1) = x.2
  | [], _, x, hx => by cases hx
  | y :: r, h, x, hx => by
    rcases List.mem_cons.1 hx with rfl | hx
    · exact h.1
    · exact AllE.mem h.2 x hx
theorem AllE.ev {a : Act} {ps : List (Tmp × Value)} (h : AllE a ps) : ∀ t ∈ ps.map (·.1), a.eval (.tmp t) = evl ps t := fun t ht => by
  obtain ⟨x, hx, rfl⟩ := List.mem_map.1 ht
  unfold evl
  cases hf : ps.find? (fun y => y.1 == x.1) with
  | none =>
    have := List.find?_eq_none.1 hf x hx
    simp at this
  | some y =>
    have h1 := List.mem_of_find?_eq_some hf
    have h2 : y.1 = x.1 := by simpa using List.find?_some hf
    have := h.mem y h1
    rw [h2] at this
    exact this
/-- A region of operations that only make the world grow. -/
structure Gw where
  R : Nat → Value → World → Prop
  B : World → Prop
  sR : ∀ i v w w', Below w.heap.size w w' → R i v w → R i v w'
  sB : ∀ w w', Below w.heap.size w w' → B w → B w'
def Gw.flow (G : Gw) : Flow := ⟨G.R, fun _ => G.B, fun _ w w' => Below w.heap.size w w', fun _ => [], fun _ => []⟩
/-- What an operation may lean on. -/
structure PreG (G : Gw) (ops : Array Oper) (a0 : Act) (k : Nat) (o : Oper) (a : Act) (w : World) : Prop where
  n : ∀ j d, depB o j = true → dstOf ops j = some d → G.R j (a.eval (.tmp d)) w
  o : ∀ t, freeF ops k t = true → a.eval (.tmp t) = a0.eval (.tmp t)
  b : G.B w
variable {G : Gw}
theorem pre_of {k : Nat} {o : Oper} {a : Act} (h : PreF G.flow ops a0 k o a w) : PreG G ops a0 k o a w := ⟨fun j d hj hd => h.n j d hj rfl hd, h.o, h.b 0 rfl⟩
theorem gw_val {k : Nat} {o : Oper} (h : ∀ (a : Act) (w : World), PreG G ops a0 k o a w → ∃ (ps : List (Tmp × Value)) (v : Value) (w' : World), AllE a ps ∧ (seenT (ps.map (·.1)) o, (execOp (evo (evl ps)) o).run P w) = (true, .ok (.value v) w') ∧ Below w.heap.size w w' ∧ G.R k v w') : CertF P Q G.flow ops a0 k o :=
  cf_val fun a w hp => by
    obtain ⟨ps, v, w', he, hs, hE⟩ := h a w (pre_of hp)
    simp only [Prod.mk.injEq] at hs
    refine ⟨v, w', ?_, hE⟩
    rw [exec_ev (evl ps) (ps.map (·.1)) hs.1 he.ev]
    exact hs.2
theorem gw_call {k : Nat} {o : Oper} (h : ∀ (a : Act) (w : World), PreG G ops a0 k o a w → ∃ (ps : List (Tmp × Value)) (f : FuncId) (args : Array Value), AllE a ps ∧ (seenT (ps.map (·.1)) o, (execOp (evo (evl ps)) o).run P w) = (true, .ok (.enter f args) w) ∧ Calls P f args w (Ret fun e w' => Below w.heap.size w w' ∧ G.R k e w')) : CertF P Q G.flow ops a0 k o := by
  intro a w K h1 h2 h3 hK
  obtain ⟨ps, f, args, he, hs, hc⟩ := h a w (pre_of ⟨h1, h2, h3⟩)
  simp only [Prod.mk.injEq] at hs
  unfold Oper.wp
  rw [exec_ev (evl ps) (ps.map (·.1)) hs.1 he.ev, hs.2, Oper.upon_enter]
  refine hc.mono ?_
  rintro e w' ⟨v, rfl, hE, hR⟩
  exact hK _ _ hE hR
theorem gw_load {k : Nat} {o : Oper} (T : TypeId) (t : Tmp) (ho : o.op = .load T (.tmp t)) (hu : (P.underlying T).map (·.isRow) = some true)
    (h : ∀ (a : Act) (w : World), PreG G ops a0 k o a w → ∃ g off cs, a.eval (.tmp t) = .pointer (some ⟨g, off, none⟩) ∧ w.rangeAt g off cs ∧ (P.info? T).map (·.size) = some cs.length ∧ G.R k (.agg cs.toArray) w) : CertF P Q G.flow ops a0 k o :=
  cf_load T t ho hu fun a w hp => by
    obtain ⟨g, off, cs, h1, h2, h3, h4⟩ := h a w (pre_of hp)
    exact ⟨g, off, cs, h1, h2, h3, Below.refl _ _, h4⟩
theorem gw_bin {k : Nat} {o : Oper} (op : BinOp) (T T' : TypeId) (t1 t2 : Tmp) (ho : o.op = .binOp op T (.tmp t1) (.tmp t2) T')
    (h : ∀ (a : Act) (w : World), PreG G ops a0 k o a w → ∃ v1 v2 v, a.eval (.tmp t1) = v1 ∧ a.eval (.tmp t2) = v2 ∧ (eqGuard op T (.tmp t1) (.tmp t2) v1 v2).run P w = .ok () w ∧ (binOp op T v1 v2).run P w = .ok v w ∧ G.R k v w) : CertF P Q G.flow ops a0 k o :=
  cf_val fun a w hp => by
    obtain ⟨v1, v2, v, h1, h2, hg, hb, hR⟩ := h a w (pre_of hp)
    refine ⟨v, w, ?_, Below.refl _ _, hR⟩
    unfold execOp
    rw [ho]
    dsimp only
    rw [h1, h2, Sem.run_bind, Sem.run_bind, hg]
    dsimp only [Result.andThen]
    rw [hb]
    rfl
/-- An operation that is passed by. -/
theorem gw_pass {k : Nat} {o : Oper} {j : Nat} {want : Bool} (hg : o.guard = some (j, want)) (h : (depB o j, (dstOf ops j).isSome) = (true, true)) (hw : ∀ v w, G.R j v w → v = .bool (!want)) (hR : ∀ w, G.R k undef w) : CertH P Q G.flow ops a0 k o := by
  unfold CertH
  rw [hg]
  simp only [Prod.mk.injEq] at h
  exact ⟨h.1, h.2, rfl, Or.inr ⟨hw, fun w => ⟨Below.refl _ _, hR w⟩⟩⟩
theorem gw_want {k : Nat} {o : Oper} {j : Nat} {want : Bool} (hg : o.guard = some (j, want)) (h : (depB o j, (dstOf ops j).isSome) = (true, true)) (hw : ∀ v w, G.R j v w → v = .bool want) (hc : CertF P Q G.flow ops a0 k o) : CertH P Q G.flow ops a0 k o := by
  unfold CertH
  rw [hg]
  simp only [Prod.mk.injEq] at h
  exact ⟨h.1, h.2, rfl, Or.inl ⟨hw, hc⟩⟩
theorem Gw.reg {m : Nat} (hc : chkF ops a0.tmps.size = true) (h : CertsF P Q G.flow ops a0 0 (ops.toList.take m)) : RegF P Q G.flow ops a0 m :=
  ⟨hc, certs_but h, fun i j _ _ _ _ _ v w w' hE hR => G.sR j v w w' hE hR, fun i b _ _ w w' hE hB => G.sB w w' hE hB⟩
theorem Gw.draws {id : Nat} (G : Gw) (hm : P.follows .mixedOrders = true) (hc : chkF ops a0.tmps.size = true) (h : CertsF P Q G.flow ops a0 0 (ops.toList.take ops.size)) (hB : G.B w.drew)
    (hp : ∀ (V : Nat → Value) (w' : World), (∀ i, i < ops.size → G.R i (V i) w') → G.B w' → Q .normal (putV V ops.toList 0 a0) w') : (Code.region id ops true).wp P Q a0 w :=
  flow_draws G.flow hm (Gw.reg hc h) (fun _ => hB) fun V w' h1 h2 => hp V w' (fun i hi => h1 i hi rfl) (h2 0 rfl)
theorem Gw.last {id : Nat} (G : Gw) (n : Nat) (hn : ((ops.size == n + 1) && (List.range n).all (fun j => depOn ops n j || (List.range n).any (fun i => depOn ops n i && depOn ops i j))) = true) (hm : P.follows .mixedOrders = true) (hc : chkF ops a0.tmps.size = true) (h : CertsF P Q G.flow ops a0 0 (ops.toList.take n)) (hB : G.B w.drew)
    (hp : ∀ (V : Nat → Value) (w' : World), (∀ i, i < n → G.R i (V i) w') → G.B w' → wpList P ops Q (ops.toList.drop n) (putV V (ops.toList.take n) 0 a0) w') : (Code.region id ops true).wp P Q a0 w := by
  rw [Bool.and_eq_true, beq_iff_eq] at hn
  exact flow_last G.flow n hn.1 hn.2 hm (Gw.reg hc h) (fun _ => hB) fun V w' h1 h2 => hp V w' (fun i hi => h1 i hi rfl) (h2 0 rfl)
end Go.Proofs.Ytfgjdidnnbjalaa.RG
namespace Go.Proofs.Ytfgjdidnnbjalaa
open Go.RowKit Go.Sort Go.Deep
theorem framesJ (l x y : List UInt8) : (SP.framesL l [x, y]).length = l.length + x.length + y.length + 12 := by
  unfold SP.framesL
  simp [SP.frameL_length]
  omega
/-- The reference's Tag of two texts that lie in a row. -/
theorem rtagJ (lab s t : ByteArray) (hlab : lab.size ≤ 16) (hs : s.size ≤ 65536) (ht : t.size ≤ 65536) (r : Nat) (w : World) (hr : w.rangeAt r 0 [.string s, .string t]) :
    Calls Try.prog 33 #[.string lab, .slice (some ⟨r, 0, none⟩) 2 2] w (Ret fun e w' => Below w.heap.size w w' ∧ e = .string ⟨SP.tagL lab.data.toList [s.data.toList, t.data.toList]⟩) := by
  have hl : s.data.toList.length = s.size := by rw [Array.length_toList]; rfl
  have hl2 : t.data.toList.length = t.size := by rw [Array.length_toList]; rfl
  have hl3 : lab.data.toList.length = lab.size := by rw [Array.length_toList]; rfl
  refine (SP.refTag_any lab (some ⟨r, 0, none⟩) 2 [s, t] _ (by omega) (Nat.le_of_ble_eq_true rfl) (Or.inr ⟨_, _, rfl, fun j hj => ?_⟩) (fun j hj => ?_) ?_).mono ?_
  · have hj2 : j = 0 ∨ j = 1 := by simp at hj; omega
    rcases hj2 with rfl | rfl
    · exact hr 0 _ rfl
    · exact hr 1 _ rfl
  · have hj2 : j = 0 ∨ j = 1 := by simp at hj; omega
    rcases hj2 with rfl | rfl
    · show s.size ≤ _; omega
    · show t.size ≤ _; omega
  · show (SP.framesL lab.data.toList [s.data.toList, t.data.toList]).length ≤ _
    rw [framesJ, hl, hl2, hl3]
    omega
  · rintro e w2 ⟨rfl, hb⟩
    exact ⟨_, rfl, hb, rfl⟩
theorem numA4_is (n : Nat) : numA 4 n 4 = #[SP.lenB n 16777216, SP.lenB n 65536, SP.lenB n 256, SP.lenB n 1] := rfl
theorem numA8_is (n : Nat) : numA 8 n 8 = #[SP.lenB n 72057594037927936, SP.lenB n 281474976710656, SP.lenB n 1099511627776, SP.lenB n 4294967296, SP.lenB n 16777216, SP.lenB n 65536, SP.lenB n 256, SP.lenB n 1] := by
  have h0 : numA 8 n 0 = #[0, 0, 0, 0, 0, 0, 0, 0] := rfl
  have h1 : numA 8 n 1 = #[0, 0, 0, 0, 0, 0, 0, SP.lenB n 1] := by rw [numA, h0]; rfl
  have h2 : numA 8 n 2 = #[0, 0, 0, 0, 0, 0, SP.lenB n 256, SP.lenB n 1] := by rw [numA, h1]; rfl
  have h3 : numA 8 n 3 = #[0, 0, 0, 0, 0, SP.lenB n 65536, SP.lenB n 256, SP.lenB n 1] := by rw [numA, h2]; rfl
  have h4 : numA 8 n 4 = #[0, 0, 0, 0, SP.lenB n 16777216, SP.lenB n 65536, SP.lenB n 256, SP.lenB n 1] := by rw [numA, h3]; rfl
  have h5 : numA 8 n 5 = #[0, 0, 0, SP.lenB n 4294967296, SP.lenB n 16777216, SP.lenB n 65536, SP.lenB n 256, SP.lenB n 1] := by rw [numA, h4]; rfl
  have h6 : numA 8 n 6 = #[0, 0, SP.lenB n 1099511627776, SP.lenB n 4294967296, SP.lenB n 16777216, SP.lenB n 65536, SP.lenB n 256, SP.lenB n 1] := by rw [numA, h5]; rfl
  have h7 : numA 8 n 7 = #[0, SP.lenB n 281474976710656, SP.lenB n 1099511627776, SP.lenB n 4294967296, SP.lenB n 16777216, SP.lenB n 65536, SP.lenB n 256, SP.lenB n 1] := by rw [numA, h6]; rfl
  have h8 : numA 8 n 8 = #[SP.lenB n 72057594037927936, SP.lenB n 281474976710656, SP.lenB n 1099511627776, SP.lenB n 4294967296, SP.lenB n 16777216, SP.lenB n 65536, SP.lenB n 256, SP.lenB n 1] := by rw [numA, h7]; rfl
  exact h8
theorem holds_eight (w : World) (x0 x1 x2 x3 x4 x5 x6 x7 : UInt8) : Holds SP.encB (w.alloc (.cells #[.int .u8 (SP.ub x0), .int .u8 (SP.ub x1), .int .u8 (SP.ub x2), .int .u8 (SP.ub x3), .int .u8 (SP.ub x4), .int .u8 (SP.ub x5), .int .u8 (SP.ub x6), .int .u8 (SP.ub x7)] 5)) w.heap.size 0 #[x0, x1, x2, x3, x4, x5, x6, x7] := by
  have h := Holds.new (enc := SP.encB) w 5 #[x0, x1, x2, x3, x4, x5, x6, x7]
  have e : Array.map SP.encB #[x0, x1, x2, x3, x4, x5, x6, x7] = #[.int .u8 (SP.ub x0), .int .u8 (SP.ub x1), .int .u8 (SP.ub x2), .int .u8 (SP.ub x3), .int .u8 (SP.ub x4), .int .u8 (SP.ub x5), .int .u8 (SP.ub x6), .int .u8 (SP.ub x7)] := by simp [SP.encB]
  rw [e] at h
  exact h
theorem gw_binc {P : Program} {ops : Array Oper} {Q : Exit → Act → World → Prop} {a0 : Act} {G : RG.Gw} {k : Nat} {o : Oper} (op : BinOp) (T T' : TypeId) (t1 : Tmp) (c : Value) (ho : o.op = .binOp op T (.tmp t1) (.const c) T')
    (h : ∀ (a : Act) (w : World), RG.PreG G ops a0 k o a w → ∃ v1 v, a.eval (.tmp t1) = v1 ∧ (eqGuard op T (.tmp t1) (.const c) v1 c).run P w = .ok () w ∧ (binOp op T v1 c).run P w = .ok v w ∧ G.R k v w) : RG.CertF P Q G.flow ops a0 k o :=
  RG.cf_val fun a w hp => by
    obtain ⟨v1, v, h1, hg, hb, hR⟩ := h a w (RG.pre_of hp)
    refine ⟨v, w, ?_, Below.refl _ _, hR⟩
    have h2 : a.eval (.const c) = c := rfl
    unfold execOp
    rw [ho]
    dsimp only
    rw [h1, h2, Sem.run_bind, Sem.run_bind, hg]
    dsimp only [Result.andThen]
    rw [hb]
    rfl
theorem gw_cnv {P : Program} {ops : Array Oper} {Q : Exit → Act → World → Prop} {a0 : Act} {G : RG.Gw} {k : Nat} {o : Oper} (T T' : TypeId) (t : Tmp) (ho : o.op = .convert T T' (.tmp t))
    (h : ∀ (a : Act) (w : World), RG.PreG G ops a0 k o a w → ∃ v1 v, a.eval (.tmp t) = v1 ∧ (convert T T' v1).run P w = .ok v w ∧ G.R k v w) : RG.CertF P Q G.flow ops a0 k o :=
  RG.cf_val fun a w hp => by
    obtain ⟨v1, v, h1, h3, hR⟩ := h a w (RG.pre_of hp)
    refine ⟨v, w, ?_, Below.refl _ _, hR⟩
    unfold execOp
    rw [ho]
    dsimp only
    rw [h1, Sem.run_bind, h3]
    rfl
theorem holds_kept {w w' : World} {r n : Nat} {x : Bs} (hb : Below w.heap.size w w') (hr : r < w.heap.size) (h : Holds SP.encB w r n x) : Holds SP.encB w' r n x := Holds.below h hb hr
theorem gw_slc {P : Program} {ops : Array Oper} {Q : Exit → Act → World → Prop} {a0 : Act} {G : RG.Gw} {k : Nat} {o : Oper} (T : TypeId) (t : Tmp) (c : Value) (ho : o.op = .slice T (.tmp t) none (some (.const c)) none)
    (h : ∀ (a : Act) (w : World), RG.PreG G ops a0 k o a w → ∃ v1 v, a.eval (.tmp t) = v1 ∧ (Instr.sliceAt T v1 none (some c) none).run P w = .ok v w ∧ G.R k v w) : RG.CertF P Q G.flow ops a0 k o :=
  RG.cf_val fun a w hp => by
    obtain ⟨v1, v, h1, h3, hR⟩ := h a w (RG.pre_of hp)
    refine ⟨v, w, ?_, Below.refl _ _, hR⟩
    have h2 : a.eval (.const c) = c := rfl
    unfold execOp
    rw [ho]
    dsimp only [Option.map]
    rw [h1, h2, Sem.run_bind, h3]
    rfl
/-- The values of the last region of the reference's frame. -/
def GF (ns v1 v3 v4 : Int) (y0 y1 y2 y3 : UInt8) (s num D E1 E2 : ByteArray) (w0 : World) : RG.Gw where
  R i v w := if i = 11 then ∃ r, v = .slice (some ⟨r, 0, none⟩) 4 4 ∧ r < w.heap.size ∧ Holds SP.encB w r 0 #[y0, y1, y2, y3]
    else if i = 17 then ∃ r, v = .slice (some ⟨r, 0, none⟩) 2 2 ∧ r < w.heap.size ∧ w.rangeAt r 0 [.string num, .string s]
    else v = ([.int .i64 ns, .int .i64 v1, .int .u8 (SP.ub y0), .int .i64 ns, .int .i64 v3, .int .u8 (SP.ub y1), .int .i64 ns, .int .i64 v4, .int .u8 (SP.ub y2), .int .i64 ns, .int .u8 (SP.ub y3), undef, .string ⟨#[y0, y1, y2, y3]⟩, .string s, .string E1, .string num, .string s, undef, .string D, .string (D.extract 0 8), .string E2, .string E2]).getD i undef
  B w := Below w0.heap.size w0 w
  sR i v w w' hb h := by
    split
    · rename_i e
      rw [if_pos e] at h
      obtain ⟨r, h1, h2, h3⟩ := h
      exact ⟨r, h1, Nat.lt_of_lt_of_le h2 hb.size, holds_kept hb h2 h3⟩
    · rename_i e
      rw [if_neg e] at h
      split
      · rename_i e2
        rw [if_pos e2] at h
        obtain ⟨r, h1, h2, h3⟩ := h
        exact ⟨r, h1, Nat.lt_of_lt_of_le h2 hb.size, fun j v hj => by rw [hb.cell (p := ⟨r, 0 + j, none⟩) h2]; exact h3 j v hj⟩
      · rename_i e2
        rw [if_neg e2] at h
        exact h
  sB w w' hb h := h.trans (hb.mono h.size)
set_option maxRecDepth 20000 in
set_option maxHeartbeats 1000000 in
theorem rframe_c (i : Nat) (hi : i < 1099511627776) (s : ByteArray) (hs : s.size ≤ 16384) (w : World) : Calls Try.prog 24 #[.int .i64 (i : Int), .string s] w (Ret fun e w' => Below w.heap.size w w' ∧ e = .string ⟨(frameB i s.data.toList).toArray⟩) := by
  have f0 : (s.size : Int) / 16777216 % 256 = SP.ub (SP.lenB s.size 16777216) := SP.lenB_int s.size 16777216
  have f1 : (s.size : Int) / 65536 % 256 = SP.ub (SP.lenB s.size 65536) := SP.lenB_int s.size 65536
  have f2 : (s.size : Int) / 256 % 256 = SP.ub (SP.lenB s.size 256) := SP.lenB_int s.size 256
  have f3 : (s.size : Int) % 256 = SP.ub (SP.lenB s.size 1) := SP.lenB_one s.size
  have s24 : ∀ w : World, (binOp .shr 3 (.int .i64 (s.size : Int)) (.int .u64 24)).run Try.prog w = .ok (.int .i64 ((s.size : Int) / 16777216)) w := fun w => by go_simp
  have s16 : ∀ w : World, (binOp .shr 3 (.int .i64 (s.size : Int)) (.int .u64 16)).run Try.prog w = .ok (.int .i64 ((s.size : Int) / 65536)) w := fun w => by go_simp
  have s8 : ∀ w : World, (binOp .shr 3 (.int .i64 (s.size : Int)) (.int .u64 8)).run Try.prog w = .ok (.int .i64 ((s.size : Int) / 256)) w := fun w => by go_simp
  have t24 : ∀ w : World, (convert 3 5 (.int .i64 ((s.size : Int) / 16777216))).run Try.prog w = .ok (.int .u8 (SP.ub (SP.lenB s.size 16777216))) w := fun w => by rw [← f0]; go_simp; rfl
  have t16 : ∀ w : World, (convert 3 5 (.int .i64 ((s.size : Int) / 65536))).run Try.prog w = .ok (.int .u8 (SP.ub (SP.lenB s.size 65536))) w := fun w => by rw [← f1]; go_simp; rfl
  have t8 : ∀ w : World, (convert 3 5 (.int .i64 ((s.size : Int) / 256))).run Try.prog w = .ok (.int .u8 (SP.ub (SP.lenB s.size 256))) w := fun w => by rw [← f2]; go_simp; rfl
  have t0 : ∀ w : World, (convert 3 5 (.int .i64 (s.size : Int))).run Try.prog w = .ok (.int .u8 (SP.ub (SP.lenB s.size 1))) w := fun w => by go_simp; exact f3
  clear f0 f1 f2 f3
  obtain ⟨D, hD⟩ : ∃ D : ByteArray, Hid (D = ⟨SP.tagL [102, 114, 97, 109, 101] [(numA 8 i 8).toList, s.data.toList]⟩) := ⟨_, rfl⟩
  have sl : ∀ w : World, (Instr.sliceAt 9 (.string D) none (some (.int .i64 8)) none).run Try.prog w = .ok (.string (D.extract 0 8)) w := fun w => by
    have h : D.size = 32 := by rw [hD.out]; exact SP.tagL_size _ _
    go_simp
  have hD8 : (D.extract 0 8).size = 8 := by
    have h : D.size = 32 := by rw [hD.out]; exact SP.tagL_size _ _
    rw [ByteArray.size_extract, h]; rfl
  obtain ⟨E1, hE1⟩ : ∃ E1 : ByteArray, Hid (E1 = ⟨numA 4 s.size 4⟩ ++ s) := ⟨_, rfl⟩
  obtain ⟨E2, hE2⟩ : ∃ E2 : ByteArray, Hid (E2 = E1 ++ D.extract 0 8) := ⟨_, rfl⟩
  have ad1 : ∀ w : World, (binOp .add 9 (.string ⟨numA 4 s.size 4⟩) (.string s)).run Try.prog w = .ok (.string E1) w := fun w => by
    rw [hE1.out]
    have h : (⟨numA 4 s.size 4⟩ : ByteArray).size = 4 := numA_size _ _ _
    generalize (⟨numA 4 s.size 4⟩ : ByteArray) = x at *
    have h2 : x.size + s.size ≤ 9223372036854775807 := by omega
    clear h
    go_simp
  have ad2 : ∀ w : World, (binOp .add 9 (.string E1) (.string (D.extract 0 8))).run Try.prog w = .ok (.string E2) w := fun w => by
    rw [hE2.out]
    have h : E1.size = 4 + s.size := by
      rw [hE1.out, ByteArray.size_append]
      have h : (⟨numA 4 s.size 4⟩ : ByteArray).size = 4 := numA_size _ _ _
      rw [h]
    generalize D.extract 0 8 = x at *
    have h2 : E1.size + x.size ≤ 9223372036854775807 := by omega
    clear h hD8
    go_simp
  have HT : Hid (∀ (r : Nat) (W : World), W.rangeAt r 0 [.string ⟨numA 8 i 8⟩, .string s] → Calls Try.prog 33 #[.string ⟨#[102, 114, 97, 109, 101]⟩, .slice (some ⟨r, 0, none⟩) 2 2] W (Ret fun e w' => Below W.heap.size W w' ∧ e = .string D)) := fun r W h => by
    rw [hD.out]
    exact rtagJ ⟨#[102, 114, 97, 109, 101]⟩ ⟨numA 8 i 8⟩ s (by decide) (by show (numA 8 i 8).size ≤ _; rw [numA_size]; decide) (by omega) r W h
  have HE : Hid ((⟨(frameB i s.data.toList).toArray⟩ : ByteArray) = E2) := by
    show _ = _
    rw [hE2.out, hE1.out, hD.out]
    apply ByteArray.ext
    apply Array.ext'
    have e : s.data.toList.length = s.size := by rw [Array.length_toList]; rfl
    unfold frameB
    rw [e]
    simp [ByteArray.data_append, ByteArray.data_extract, List.extract]
  rw [HE.out]
  rw [numA4_is] at ad1
  rw [numA8_is] at HT
  clear HE hE1 hE2 hD hD8
  generalize SP.lenB s.size 16777216 = y0 at *
  generalize SP.lenB s.size 65536 = y1 at *
  generalize SP.lenB s.size 256 = y2 at *
  generalize SP.lenB s.size 1 = y3 at *
  have hk : (i : Int) % 18446744073709551616 = (i : Int) := by omega
  have c7 : (i : Int) / 72057594037927936 % 256 = SP.ub (SP.lenB i 72057594037927936) := SP.lenB_int i 72057594037927936
  have b7 : (i : Int) / 72057594037927936 = SP.ub (SP.lenB i 72057594037927936) := by omega
  clear c7
  have c6 : (i : Int) / 281474976710656 % 256 = SP.ub (SP.lenB i 281474976710656) := SP.lenB_int i 281474976710656
  have b6 : (i : Int) / 281474976710656 = SP.ub (SP.lenB i 281474976710656) := by omega
  clear c6
  have c5 : (i : Int) / 1099511627776 % 256 = SP.ub (SP.lenB i 1099511627776) := SP.lenB_int i 1099511627776
  have b5 : (i : Int) / 1099511627776 = SP.ub (SP.lenB i 1099511627776) := by omega
  clear c5
  have c4 : (i : Int) / 4294967296 % 256 = SP.ub (SP.lenB i 4294967296) := SP.lenB_int i 4294967296
  have b4 : (i : Int) / 4294967296 = SP.ub (SP.lenB i 4294967296) := by omega
  clear c4
  have b3 : (i : Int) / 16777216 % 256 = SP.ub (SP.lenB i 16777216) := SP.lenB_int i 16777216
  have b2 : (i : Int) / 65536 % 256 = SP.ub (SP.lenB i 65536) := SP.lenB_int i 65536
  have b1 : (i : Int) / 256 % 256 = SP.ub (SP.lenB i 256) := SP.lenB_int i 256
  have b0 : (i : Int) % 256 = SP.ub (SP.lenB i 1) := SP.lenB_one i
  have h8 := holds_eight w (SP.lenB i 72057594037927936) (SP.lenB i 281474976710656) (SP.lenB i 1099511627776) (SP.lenB i 4294967296) (SP.lenB i 16777216) (SP.lenB i 65536) (SP.lenB i 256) (SP.lenB i 1)
  have hcv := SP.conv_str Try.prog 32 9 5 slice22 int5 str9 _ _ 0 8 8 _ h8 rfl
  generalize SP.lenB i 72057594037927936 = x0 at *
  generalize SP.lenB i 281474976710656 = x1 at *
  generalize SP.lenB i 1099511627776 = x2 at *
  generalize SP.lenB i 4294967296 = x3 at *
  generalize SP.lenB i 16777216 = x4 at *
  generalize SP.lenB i 65536 = x5 at *
  generalize SP.lenB i 256 = x6 at *
  generalize SP.lenB i 1 = x7 at *
  have K0 : Hid (Below w.heap.size w (w.alloc (.cells #[.int .u8 (SP.ub x0), .int .u8 (SP.ub x1), .int .u8 (SP.ub x2), .int .u8 (SP.ub x3), .int .u8 (SP.ub x4), .int .u8 (SP.ub x5), .int .u8 (SP.ub x6), .int .u8 (SP.ub x7)] 5))) := (Below.refl _ _).alloc (Nat.le_refl _) _
  clear h8
  go_enter Try.func24, Try.ntmps24
  go_wp2_with fail
  have s4 : Hid (Below w.heap.size w (w.alloc (.cells #[.int .u8 (SP.ub x0), .int .u8 (SP.ub x1), .int .u8 (SP.ub x2), .int .u8 (SP.ub x3), .int .u8 (SP.ub x4), .int .u8 (SP.ub x5), .int .u8 (SP.ub x6), .int .u8 (SP.ub x7)] 5)).drew) := K0.out.drew
  refine RG.Gw.draws (GF (s.size : Int) ((s.size : Int) / 16777216) ((s.size : Int) / 65536) ((s.size : Int) / 256) y0 y1 y2 y3 s ⟨#[x0, x1, x2, x3, x4, x5, x6, x7]⟩ D E1 E2 w) (by kernel_rfl) (by kernel_rfl) ?_ s4.out ?_
  · exact ⟨RG.gw_val fun a W hp => ⟨[(5, .int .i64 (s.size : Int))], .int .i64 (s.size : Int), W, ⟨hp.o 5 (by kernel_rfl), trivial⟩, by kernel_rfl, Below.refl _ _, rfl⟩,
      gw_binc .shr 3 75 37 (.int .u64 24) rfl fun a W hp => ⟨_, _, hp.n 0 37 (by kernel_rfl) (by kernel_rfl), by kernel_rfl, s24 W, rfl⟩,
      gw_cnv 3 5 38 rfl fun a W hp => ⟨_, _, hp.n 1 38 (by kernel_rfl) (by kernel_rfl), t24 W, rfl⟩,
      RG.gw_val fun a W hp => ⟨[(5, .int .i64 (s.size : Int))], .int .i64 (s.size : Int), W, ⟨hp.o 5 (by kernel_rfl), trivial⟩, by kernel_rfl, Below.refl _ _, rfl⟩,
      gw_binc .shr 3 75 40 (.int .u64 16) rfl fun a W hp => ⟨_, _, hp.n 3 40 (by kernel_rfl) (by kernel_rfl), by kernel_rfl, s16 W, rfl⟩,
      gw_cnv 3 5 41 rfl fun a W hp => ⟨_, _, hp.n 4 41 (by kernel_rfl) (by kernel_rfl), t16 W, rfl⟩,
      RG.gw_val fun a W hp => ⟨[(5, .int .i64 (s.size : Int))], .int .i64 (s.size : Int), W, ⟨hp.o 5 (by kernel_rfl), trivial⟩, by kernel_rfl, Below.refl _ _, rfl⟩,
      gw_binc .shr 3 75 43 (.int .u64 8) rfl fun a W hp => ⟨_, _, hp.n 6 43 (by kernel_rfl) (by kernel_rfl), by kernel_rfl, s8 W, rfl⟩,
      gw_cnv 3 5 44 rfl fun a W hp => ⟨_, _, hp.n 7 44 (by kernel_rfl) (by kernel_rfl), t8 W, rfl⟩,
      RG.gw_val fun a W hp => ⟨[(5, .int .i64 (s.size : Int))], .int .i64 (s.size : Int), W, ⟨hp.o 5 (by kernel_rfl), trivial⟩, by kernel_rfl, Below.refl _ _, rfl⟩,
      gw_cnv 3 5 46 rfl fun a W hp => ⟨_, _, hp.n 9 46 (by kernel_rfl) (by kernel_rfl), t0 W, rfl⟩,
      RG.gw_val fun a W hp => ⟨[(39, .int .u8 (SP.ub y0)), (42, .int .u8 (SP.ub y1)), (45, .int .u8 (SP.ub y2)), (47, .int .u8 (SP.ub y3))], .slice (some ⟨W.heap.size, 0, none⟩) 4 4, W.alloc (.cells #[.int .u8 (SP.ub y0), .int .u8 (SP.ub y1), .int .u8 (SP.ub y2), .int .u8 (SP.ub y3)] 5), ⟨hp.n 2 39 (by kernel_rfl) (by kernel_rfl), hp.n 5 42 (by kernel_rfl) (by kernel_rfl), hp.n 8 45 (by kernel_rfl) (by kernel_rfl), hp.n 10 47 (by kernel_rfl) (by kernel_rfl), trivial⟩, by kernel_rfl, (Below.refl _ _).alloc (Nat.le_refl _) _, ⟨W.heap.size, rfl, by rw [World.size_alloc]; omega, SP.holds_four W y0 y1 y2 y3⟩⟩,
      gw_cnv 32 9 48 rfl fun a W hp => by
        obtain ⟨r, h1, h2, h3⟩ := hp.n 11 48 (by kernel_rfl) (by kernel_rfl)
        exact ⟨_, _, h1, SP.conv_str Try.prog 32 9 5 slice22 int5 str9 W r 0 4 4 _ h3 rfl, rfl⟩,
      RG.gw_val fun a W hp => ⟨[(1, .string s)], .string s, W, ⟨hp.o 1 (by kernel_rfl), trivial⟩, by kernel_rfl, Below.refl _ _, rfl⟩,
      RG.gw_bin .add 9 9 49 50 rfl fun a W hp => ⟨_, _, _, hp.n 12 49 (by kernel_rfl) (by kernel_rfl), hp.n 13 50 (by kernel_rfl) (by kernel_rfl), by kernel_rfl, ad1 W, rfl⟩,
      RG.gw_val fun a W hp => ⟨[(7, .string ⟨#[x0, x1, x2, x3, x4, x5, x6, x7]⟩)], .string ⟨#[x0, x1, x2, x3, x4, x5, x6, x7]⟩, W, ⟨hp.o 7 (by kernel_rfl), trivial⟩, by kernel_rfl, Below.refl _ _, rfl⟩,
      RG.gw_val fun a W hp => ⟨[(1, .string s)], .string s, W, ⟨hp.o 1 (by kernel_rfl), trivial⟩, by kernel_rfl, Below.refl _ _, rfl⟩,
      RG.gw_val fun a W hp => ⟨[(52, .string ⟨#[x0, x1, x2, x3, x4, x5, x6, x7]⟩), (53, .string s)], .slice (some ⟨W.heap.size, 0, none⟩) 2 2, W.alloc (.cells #[.string ⟨#[x0, x1, x2, x3, x4, x5, x6, x7]⟩, .string s] 9), ⟨hp.n 15 52 (by kernel_rfl) (by kernel_rfl), hp.n 16 53 (by kernel_rfl) (by kernel_rfl), trivial⟩, by kernel_rfl, (Below.refl _ _).alloc (Nat.le_refl _) _, ⟨W.heap.size, rfl, by rw [World.size_alloc]; omega, (RG.Made.alloc W [.string ⟨#[x0, x1, x2, x3, x4, x5, x6, x7]⟩, .string s] 9).range⟩⟩,
      RG.gw_call fun a W hp => by
        obtain ⟨r, h1, h2, h3⟩ := hp.n 17 54 (by kernel_rfl) (by kernel_rfl)
        exact ⟨[(54, .slice (some ⟨r, 0, none⟩) 2 2)], 33, #[.string ⟨#[102, 114, 97, 109, 101]⟩, .slice (some ⟨r, 0, none⟩) 2 2], ⟨h1, trivial⟩, by kernel_rfl, (HT.out r W h3).mono (by
          rintro e' W' ⟨u, rfl, hb, rfl⟩
          exact ⟨_, rfl, hb, rfl⟩)⟩,
      gw_slc 9 55 (.int .i64 8) rfl fun a W hp => ⟨_, _, hp.n 18 55 (by kernel_rfl) (by kernel_rfl), sl W, rfl⟩,
      RG.gw_bin .add 9 9 51 56 rfl fun a W hp => ⟨_, _, _, hp.n 14 51 (by kernel_rfl) (by kernel_rfl), hp.n 19 56 (by kernel_rfl) (by kernel_rfl), by kernel_rfl, ad2 W, rfl⟩,
      RG.gw_val fun a W hp => ⟨[(57, .string E2)], .string E2, W, ⟨hp.n 20 57 (by kernel_rfl) (by kernel_rfl), trivial⟩, by kernel_rfl, Below.refl _ _, rfl⟩,
      trivial⟩
  · intro V w5 hV hB
    have h21 : V 21 = .string E2 := hV 21 (Nat.lt_of_succ_le (Nat.le_of_ble_eq_true (by kernel_rfl)))
    have K5 : Hid (Below w.heap.size w w5) := hB
    dsimp only [RG.putV, Nat.reduceAdd]
    simp only [Act.put, List.setIfInBounds_toArray, List.set_cons_succ, List.set_cons_zero]
    rw [h21]
    clear hV hB s4 HT K0
    go_wp2
    go_ret
    exact ⟨_, rfl, K5.out, rfl⟩
end Go.Proofs.Ytfgjdidnnbjalaa
namespace Go.Proofs.Ytfgjdidnnbjalaa
open Go.RowKit Go.Sort Go.Deep
variable {X : Nat → Prop} {W : World} {b lim : Nat} {B : ByteArray} {R : List ByteArray} {left : Int} {off : Bool} {v : Value}
/-- What the reference's Add leaves of its store. -/
def RLv (X : Nat → Prop) (W : World) (b : Nat) (B : ByteArray) (R : List ByteArray) (lim : Nat) (left : Int) (off : Bool) (w' : World) : Prop := FrX X W w' ∧ ∃ (Y : Nat → Prop) (v : Value), (∀ k, Y k → X k ∨ W.heap.size ≤ k) ∧ RSv Y w' b B R lim left off v
theorem drewN_bel (w : World) (k : Nat) : Below w.heap.size w (w.drewN k) := ⟨rfl, rfl, rfl, Nat.le_refl _, fun _ _ => rfl⟩
theorem radd_off (x : ByteArray) (h : RSv X W b B R lim left true v) : Calls Try.prog 9 #[.pointer (some ⟨b, 0, none⟩), .string x] W (Ret fun e w' => e = .int .i64 15 ∧ RLv X W b B R lim left true w') := by
  have c4 := h.row.cell 4 _ rfl
  have H : Hid (RLv X W b B R lim left true W) := ⟨FrX.refl _ _, X, v, (fun k hk => Or.inl hk), h⟩
  clear h
  go_enter Try.func9, Try.ntmps9
  go_wp2
  go_ret
  exact ⟨_, rfl, rfl, H.out⟩
theorem radd_long (x : ByteArray) (hx : 16384 < x.size) (h : RSv X W b B R lim left false v) : Calls Try.prog 9 #[.pointer (some ⟨b, 0, none⟩), .string x] W (Ret fun e w' => e = .int .i64 1 ∧ RLv X W b B R lim left false w') := by
  have c4 := h.row.cell 4 _ rfl
  have g : (16384 : Int) < (x.size : Int) := by omega
  have H : Hid (RLv X W b B R lim left false W) := ⟨FrX.refl _ _, X, v, (fun k hk => Or.inl hk), h⟩
  clear h
  go_enter Try.func9, Try.ntmps9
  go_wp2
  go_ret
  exact ⟨_, rfl, rfl, H.out⟩
set_option maxHeartbeats 1000000 in
theorem radd_full (x : ByteArray) (hx : x.size ≤ 16384) (hB : B.size ≤ 1048576) (hf : lim < B.size + x.size + 12) (h : RSv X W b B R lim left false v) : Calls Try.prog 9 #[.pointer (some ⟨b, 0, none⟩), .string x] W (Ret fun e w' => e = .int .i64 14 ∧ RLv X W b B R lim left false w') := by
  have c4 := h.row.cell 4 _ rfl
  have c0 := h.row.cell 0 _ rfl
  have c1 := h.row.cell 1 _ rfl
  have g : ¬ (16384 : Int) < (x.size : Int) := by omega
  have g2 : (lim : Int) < (B.size : Int) + (x.size : Int) + 12 := by omega
  have H : Hid (∀ k, RLv X W b B R lim left false (W.drewN k)) := fun k => ⟨FrX.of (drewN_bel W k), X, v, (fun k hk => Or.inl hk), h.below (drewN_bel W k)⟩
  clear h
  go_enter Try.func9, Try.ntmps9
  go_wp2_with fail
  go_region
  go_wp2
  go_ret
  exact ⟨_, rfl, rfl, H.out _⟩
theorem frame_size (i : Nat) (x : ByteArray) : (⟨(frameB i x.data.toList).toArray⟩ : ByteArray).size = x.size + 12 := by
  show (frameB i x.data.toList).toArray.size = x.data.size + 12
  rw [List.size_toArray, frameB_len, Array.length_toList]
set_option maxRecDepth 20000 in
set_option maxHeartbeats 1000000 in
theorem radd_cut (x : ByteArray) (hx : x.size ≤ 16384) (hl : lim ≤ 1048576) (hR : R.length ≤ 100000) (hf : B.size + x.size + 12 ≤ lim) (F : ByteArray) (hF : Hid (F = ⟨(frameB R.length x.data.toList).toArray⟩)) (n : Nat) (hn : n < F.size) (S : ByteArray) (hS : Hid (F.extract 0 n = S)) (h : RSv X W b B R lim (n : Int) false v) :
    Calls Try.prog 9 #[.pointer (some ⟨b, 0, none⟩), .string x] W (Ret fun e w' => e = .int .i64 15 ∧ RLv X W b (B ++ S) R lim (n : Int) true w') := by
  have hFs : F.size = x.size + 12 := by rw [hF.out]; exact frame_size _ _
  have hfr : ∀ w, Calls Try.prog 24 #[.int .i64 (R.length : Int), .string x] w (Ret fun e w' => Below w.heap.size w w' ∧ e = .string F) := fun w => by rw [hF.out]; exact rframe_c R.length (by omega) x hx w
  have hSz : S.size ≤ 20000 := by rw [← hS.out, ByteArray.size_extract]; omega
  have hsl : ∀ w : World, (Instr.sliceAt 9 (.string F) none (some (.int .i64 (n : Int))) none).run Try.prog w = .ok (.string S) w := fun w => by
    rw [← hS.out]
    have e1 : ¬ (n : Int) < 0 := by omega
    have e2 : (n : Int) ≤ (F.size : Int) := by omega
    clear hS hSz hF hFs hfr hf
    go_simp
  have hBS : B.size + S.size ≤ 9223372036854775807 := by omega
  have g5 : (0 : Int) ≤ (n : Int) := by omega
  have g6 : (n : Int) < (F.size : Int) := by omega
  have c4 := h.row.cell 4 _ rfl
  have c0 := h.row.cell 0 _ rfl
  have c1 := h.row.cell 1 _ rfl
  have c2 := h.row.cell 2 _ rfl
  obtain ⟨q, c, rfl, -⟩ := own_slice h.o
  have g : ¬ (16384 : Int) < (x.size : Int) := by omega
  have g2 : ¬ (lim : Int) < (B.size : Int) + (x.size : Int) + 12 := by omega
  have H := Hid.mk2 h
  have HF := Hid.mk2 hfr
  clear h hfr hF hS hFs
  go_enter Try.func9, Try.ntmps9
  go_wp2_with fail
  go_region
  go_wp2_with fail
  refine (HF.out _).mono ?_
  rintro e w1 ⟨v1, rfl, hb1, rfl⟩
  have hb0 : Below W.heap.size W w1 := (drewN_bel W 1).trans hb1
  have h1 := H.out.below hb0
  have d1 := h1.row.cell 1 _ rfl
  have d3 := h1.row.cell 3 _ rfl
  have z1 := h1.row.free 1 (by decide : 1 < 5)
  have K1 : Hid (FrX X W w1 ∧ RSv X w1 b B R lim (n : Int) false (.slice q R.length c)) := ⟨FrX.of hb0, h1⟩
  clear hb1 hb0 h1 c0 c1 c2 c4 H HF hSz
  go_wp2_with fail
  go_region
  have h2 : RSv X (w1.setCell ⟨b, 1, none⟩ (.string (B ++ S))) b (B ++ S) R lim (n : Int) false (.slice q R.length c) := K1.out.2.set (B ++ S) (n : Int) false rfl (by decide)
  have f2 : FrX X W (w1.setCell ⟨b, 1, none⟩ (.string (B ++ S))) := K1.out.1.setCell (a := ⟨b, 1, none⟩) K1.out.2.xb _
  have h3 := h2.below (drewN_bel _ 1)
  have f3 := f2.trans (FrX.of (X := X) (drewN_bel _ 1)) (fun k hk => Or.inl hk)
  change RSv X (w1.setCell ⟨b, 1, none⟩ (.string (B ++ S))).drew b (B ++ S) R lim (n : Int) false (.slice q R.length c) at h3
  change FrX X W (w1.setCell ⟨b, 1, none⟩ (.string (B ++ S))).drew at f3
  clear h2 f2 K1 d1 d3 z1
  generalize (w1.setCell ⟨b, 1, none⟩ (.string (B ++ S))).drew = w2 at *
  have d4 := h3.row.cell 4 _ rfl
  have z4 := h3.row.free 4 (by decide : 4 < 5)
  have HR : Hid (RLv X W b (B ++ S) R lim (n : Int) true (w2.setCell ⟨b, 4, none⟩ (.bool true))) := ⟨f3.setCell (a := ⟨b, 4, none⟩) h3.xb _, X, _, (fun k hk => Or.inl hk), h3.set (B ++ S) (n : Int) true rfl (by decide)⟩
  clear h3 f3
  go_wp2
  go_ret
  exact ⟨_, rfl, rfl, HR.out⟩
theorem RSv.put {v' : Value} {w1 w2 : World} (h : RSv X w1 b B R lim left off v) (hg : w1.grownBy w2 v.ownBlock) (s : ByteArray) (ho : w2.ownsRow 0 9 1 v' (R ++ [s]).length (strV (R ++ [s]))) (hv : v'.ownBlock = v.ownBlock ∨ v'.ownBlock = some w1.heap.size) :
    RSv (fun k => X k ∨ v'.ownBlock = some k) (w2.setCell ⟨b, 2, none⟩ v') b B (R ++ [s]) lim left off v' ∧ ∀ k, v'.ownBlock = some k → X k ∨ w1.heap.size ≤ k := by
  have hX : ∀ k, v'.ownBlock = some k → (X k ∨ w1.heap.size ≤ k) ∧ k ≠ b := fun k hk => by
    rcases hv with e | e
    · rw [e] at hk; exact ⟨Or.inl (h.x1 k hk).1, (h.x1 k hk).2⟩
    · rw [e] at hk
      obtain rfl := Option.some.inj hk
      have := h.ins b h.xb
      exact ⟨Or.inr (Nat.le_refl _), by omega⟩
  have hk : ∀ k, k ≠ b → (w2.setCell ⟨b, 2, none⟩ v').heap[k]? = w2.heap[k]? := fun k hk => blk_setCell_other w2 ⟨b, 2, none⟩ v' k hk
  have hrow : RowS w2 b (rsc lim B v left off) := h.row.at hg.size (hg.block b (h.ins b h.xb) (fun e => (h.x1 b e.symm).2 rfl))
  refine ⟨⟨?_, own_at ho (fun k hk1 => hk k (hX k hk1).2), Or.inl h.xb, fun k hk1 => ⟨Or.inr hk1, (hX k hk1).2⟩, fun k hk1 => ?_⟩, fun k hk1 => (hX k hk1).1⟩
  · exact hrow.set 2 v' (show 2 < 5 by decide)
  · rw [World.size_setCell]
    rcases hk1 with hk1 | hk1
    · exact Nat.lt_of_lt_of_le (h.ins k hk1) hg.size
    · exact (ho.lt k hk1).2
end Go.Proofs.Ytfgjdidnnbjalaa
namespace Go.Proofs.Ytfgjdidnnbjalaa
open Go.RowKit Go.Sort Go.Deep
variable {X : Nat → Prop} {W : World} {b lim : Nat} {B : ByteArray} {R : List ByteArray} {left : Int} {off : Bool} {v : Value}
/-- A record is put behind the others. -/
theorem rput (w2 : World) (x : ByteArray) (f2 : FrX X W w2) (h2 : RSv X w2 b B R lim left off v) (hR : R.length ≤ 100000) :
    ∃ q' n' c' w4, (Builtin.append_ #[38, 38] 38 #[v, .slice (some ⟨w2.heap.size, 0, none⟩) 1 1]).run Try.prog (w2.alloc (.cells #[.string x] 9)) = .ok (.slice q' n' c') w4 ∧ w4.cell? ⟨b, 2, none⟩ = some v ∧ w4.frozen? ⟨b, 2, none⟩ = false ∧ RLv X W b B (R ++ [x]) lim left off (w4.setCell ⟨b, 2, none⟩ (.slice q' n' c')) := by
  have hba : Below w2.heap.size w2 (w2.alloc (.cells #[.string x] 9)) := (Below.refl _ _).alloc (Nat.le_refl _) _
  have h3 := h2.below hba
  obtain ⟨q', n', c', w4, r1, r2, r3, r4⟩ := app_str h3.o x hR (r := w2.heap.size) ((RG.Made.alloc w2 [.string x] 9).range 0 _ rfl)
  obtain ⟨p1, p2⟩ := h3.put r3 x r2 r4
  have hrow : RowS w4 b (rsc lim B v left off) := h3.row.at r3.size (r3.block b (h3.ins b h3.xb) (fun e => (h3.x1 b e.symm).2 rfl))
  have f3 : FrX X W (w2.alloc (.cells #[.string x] 9)) := f2.trans (FrX.of (X := X) hba) (fun k hk => Or.inl hk)
  have f4 : FrX X W w4 := f3.grown r3 (fun k hk => Or.inl (h3.x1 k hk).1)
  refine ⟨q', n', c', w4, r1, hrow.cell 2 _ rfl, hrow.free 2 (show 2 < 5 by decide), f4.setCell (a := ⟨b, 2, none⟩) h3.xb _, _, _, fun k hk => ?_, p1⟩
  rcases hk with hk | hk
  · exact Or.inl hk
  · rcases p2 k hk with h | h
    · exact Or.inl h
    · exact Or.inr (Nat.le_trans f3.size h)
set_option maxRecDepth 20000 in
set_option maxHeartbeats 1000000 in
theorem radd_any (x : ByteArray) (hx : x.size ≤ 16384) (hl : lim ≤ 1048576) (hR : R.length ≤ 100000) (hf : B.size + x.size + 12 ≤ lim) (F : ByteArray) (hF : Hid (F = ⟨(frameB R.length x.data.toList).toArray⟩)) (hn : left < 0) (h : RSv X W b B R lim left false v) :
    Calls Try.prog 9 #[.pointer (some ⟨b, 0, none⟩), .string x] W (Ret fun e w' => e = .int .i64 0 ∧ RLv X W b (B ++ F) (R ++ [x]) lim left false w') := by
  have hFs : F.size = x.size + 12 := by rw [hF.out]; exact frame_size _ _
  have hfr : ∀ w, Calls Try.prog 24 #[.int .i64 (R.length : Int), .string x] w (Ret fun e w' => Below w.heap.size w w' ∧ e = .string F) := fun w => by rw [hF.out]; exact rframe_c R.length (by omega) x hx w
  have hBS : B.size + F.size ≤ 9223372036854775807 := by omega
  have g5 : ¬ (0 : Int) ≤ left := by omega
  have c4 := h.row.cell 4 _ rfl
  have c0 := h.row.cell 0 _ rfl
  have c1 := h.row.cell 1 _ rfl
  have c2 := h.row.cell 2 _ rfl
  obtain ⟨q, c, rfl, -⟩ := own_slice h.o
  have g : ¬ (16384 : Int) < (x.size : Int) := by omega
  have g2 : ¬ (lim : Int) < (B.size : Int) + (x.size : Int) + 12 := by omega
  have H := Hid.mk2 h
  have HF := Hid.mk2 hfr
  clear h hfr hF hFs
  go_enter Try.func9, Try.ntmps9
  go_wp2_with fail
  go_region
  go_wp2_with fail
  refine (HF.out _).mono ?_
  rintro e w1 ⟨v1, rfl, hb1, rfl⟩
  have hb0 : Below W.heap.size W w1 := (drewN_bel W 1).trans hb1
  have h1 := H.out.below hb0
  have d1 := h1.row.cell 1 _ rfl
  have d3 := h1.row.cell 3 _ rfl
  have z1 := h1.row.free 1 (by decide : 1 < 5)
  have h2 : RSv X (w1.setCell ⟨b, 1, none⟩ (.string (B ++ F))) b (B ++ F) R lim left false (.slice q R.length c) := h1.set (B ++ F) left false rfl (by decide)
  have f2 : FrX X W (w1.setCell ⟨b, 1, none⟩ (.string (B ++ F))) := (FrX.of hb0).setCell (a := ⟨b, 1, none⟩) h1.xb _
  have e2 := h2.row.cell 2 _ rfl
  obtain ⟨q', n', c', w4, r1, r2, r3, r4⟩ := rput _ x f2 h2 hR
  rw [World.size_setCell] at r1
  have HAP := Hid.mk2 r1
  have HR := Hid.mk2 r4
  clear hb1 hb0 h1 h2 f2 r1 r4 c0 c1 c2 c4 H HF
  go_wp2_with (at_builtin; refine Lib.wpList_append_run _ rfl _ _ _ _ rfl _ _ rfl rfl _ _ HAP.out ?_)
  go_ret
  exact ⟨_, rfl, rfl, HR.out⟩
end Go.Proofs.Ytfgjdidnnbjalaa
namespace Go.Proofs.Ytfgjdidnnbjalaa
open Go.RowKit Go.Sort Go.Deep
variable {X : Nat → Prop} {W : World} {b lim : Nat} {B : ByteArray} {R : List ByteArray} {left : Int} {off : Bool} {v : Value}
set_option maxRecDepth 20000 in
set_option maxHeartbeats 1000000 in
theorem radd_some (x : ByteArray) (hx : x.size ≤ 16384) (hl : lim ≤ 1048576) (hR : R.length ≤ 100000) (hf : B.size + x.size + 12 ≤ lim) (F : ByteArray) (hF : Hid (F = ⟨(frameB R.length x.data.toList).toArray⟩)) (n m : Nat) (hm : n = F.size + m) (hn : n ≤ 9223372036854775807) (h : RSv X W b B R lim (n : Int) false v) :
    Calls Try.prog 9 #[.pointer (some ⟨b, 0, none⟩), .string x] W (Ret fun e w' => e = .int .i64 0 ∧ RLv X W b (B ++ F) (R ++ [x]) lim (m : Int) false w') := by
  have hFs : F.size = x.size + 12 := by rw [hF.out]; exact frame_size _ _
  have hfr : ∀ w, Calls Try.prog 24 #[.int .i64 (R.length : Int), .string x] w (Ret fun e w' => Below w.heap.size w w' ∧ e = .string F) := fun w => by rw [hF.out]; exact rframe_c R.length (by omega) x hx w
  have hBS : B.size + F.size ≤ 9223372036854775807 := by omega
  have g5 : (0 : Int) ≤ (n : Int) := by omega
  have g6 : ¬ (n : Int) < (F.size : Int) := by omega
  have g7 : wrap64 ((n : Int) - (F.size : Int)) = (m : Int) := by unfold wrap64; omega
  have g8 : (n : Int) - (F.size : Int) = (m : Int) := by omega
  clear hm
  have c4 := h.row.cell 4 _ rfl
  have c0 := h.row.cell 0 _ rfl
  have c1 := h.row.cell 1 _ rfl
  have c2 := h.row.cell 2 _ rfl
  obtain ⟨q, c, rfl, -⟩ := own_slice h.o
  have g : ¬ (16384 : Int) < (x.size : Int) := by omega
  have g2 : ¬ (lim : Int) < (B.size : Int) + (x.size : Int) + 12 := by omega
  have H := Hid.mk2 h
  have HF := Hid.mk2 hfr
  clear h hfr hF hFs
  go_enter Try.func9, Try.ntmps9
  go_wp2_with fail
  go_region
  go_wp2_with fail
  refine (HF.out _).mono ?_
  rintro e w1 ⟨v1, rfl, hb1, rfl⟩
  have hb0 : Below W.heap.size W w1 := (drewN_bel W 1).trans hb1
  have h1 := H.out.below hb0
  have d1 := h1.row.cell 1 _ rfl
  have d3 := h1.row.cell 3 _ rfl
  have z1 := h1.row.free 1 (by decide : 1 < 5)
  have z3 := h1.row.free 3 (by decide : 3 < 5)
  have h1' : RSv X (w1.setCell ⟨b, 3, none⟩ (.int .i64 (m : Int))) b B R lim (m : Int) false (.slice q R.length c) := h1.set B (m : Int) false rfl (by decide)
  have f1 : FrX X W (w1.setCell ⟨b, 3, none⟩ (.int .i64 (m : Int))) := (FrX.of hb0).setCell (a := ⟨b, 3, none⟩) h1.xb _
  have y1 := h1'.row.cell 1 _ rfl
  have y3 := h1'.row.free 1 (by decide : 1 < 5)
  have h2 : RSv X ((w1.setCell ⟨b, 3, none⟩ (.int .i64 (m : Int))).setCell ⟨b, 1, none⟩ (.string (B ++ F))) b (B ++ F) R lim (m : Int) false (.slice q R.length c) := h1'.set (B ++ F) (m : Int) false rfl (by decide)
  have f2 : FrX X W ((w1.setCell ⟨b, 3, none⟩ (.int .i64 (m : Int))).setCell ⟨b, 1, none⟩ (.string (B ++ F))) := f1.setCell (a := ⟨b, 1, none⟩) h1.xb _
  have e2 := h2.row.cell 2 _ rfl
  obtain ⟨q', n', c', w4, r1, r2, r3, r4⟩ := rput _ x f2 h2 hR
  rw [World.size_setCell, World.size_setCell] at r1
  have HAP := Hid.mk2 r1
  have HR := Hid.mk2 r4
  clear hb1 hb0 h1 h1' f1 h2 f2 r1 r4 c0 c1 c2 c4 H HF
  go_wp2_with (at_builtin; refine Lib.wpList_append_run _ rfl _ _ _ _ rfl _ _ rfl rfl _ _ HAP.out ?_)
  go_ret
  exact ⟨_, rfl, rfl, HR.out⟩
end Go.Proofs.Ytfgjdidnnbjalaa
namespace Go.Proofs.Ytfgjdidnnbjalaa
open Go.RowKit Go.Sort Go.Deep
theorem open_range (d : Value) (lim : Int) (h : lim < 64 ∨ 1048576 < lim) (w : World) : Calls Try.prog 18 #[d, .int .i64 lim] w (Ret fun e w' => Below w.heap.size w w' ∧ e = .tuple #[.pointer none, .int .i64 7]) := by
  have hN := new_n lim h w
  go_enter Try.func18, Try.ntmps18
  go_wp2_with fail
  refine hN.mono ?_
  rintro e w1 ⟨v1, rfl, rfl, rfl⟩
  clear hN
  go_wp2
  go_ret2
  exact ⟨_, rfl, (Below.refl _ _).alloc (Nat.le_refl _) _, rfl⟩
theorem ropen_range (d : ByteArray) (lim : Int) (h : lim < 64 ∨ 1048576 < lim) (w : World) : Calls Try.prog 26 #[.string d, .int .i64 lim] w (Ret fun e w' => w = w' ∧ e = .tuple #[.pointer none, .int .i64 7]) := by
  have hN := rnew_n lim h w
  go_enter Try.func26, Try.ntmps26
  go_wp2_with fail
  refine hN.mono ?_
  rintro e w1 ⟨v1, rfl, rfl, rfl⟩
  clear hN
  go_wp2
  go_ret2
  exact ⟨_, rfl, rfl, rfl⟩
theorem open_long (q : Option Addr) (n c lim : Nat) (h1 : 64 ≤ lim) (h2 : lim ≤ 1048576) (hn : lim < n) (w : World) : Calls Try.prog 18 #[.slice q n c, .int .i64 (lim : Int)] w (Ret fun e w' => Below w.heap.size w w' ∧ e = .tuple #[.pointer none, .int .i64 1]) := by
  have hN := new_y lim h1 h2 w
  have g : (lim : Int) < (n : Int) := by omega
  go_enter Try.func18, Try.ntmps18
  go_wp2_with fail
  refine hN.mono ?_
  rintro e w1 ⟨v1, rfl, hb, b, rfl, -, -⟩
  have K := Hid.mk2 hb
  clear hN hb
  go_wp2
  go_ret2
  exact ⟨_, rfl, K.out.alloc K.out.size _, rfl⟩
theorem ropen_long (d : ByteArray) (lim : Nat) (h1 : 64 ≤ lim) (h2 : lim ≤ 1048576) (hn : lim < d.size) (w : World) : Calls Try.prog 26 #[.string d, .int .i64 (lim : Int)] w (Ret fun e w' => Below w.heap.size w w' ∧ e = .tuple #[.pointer none, .int .i64 1]) := by
  have hN := rnew_y lim h1 h2 w
  have g : (lim : Int) < (d.size : Int) := by omega
  go_enter Try.func26, Try.ntmps26
  go_wp2_with fail
  refine hN.mono ?_
  rintro e w1 ⟨v1, rfl, hb, b, rfl, -, -⟩
  have K := Hid.mk2 hb
  clear hN hb
  go_wp2
  go_ret2
  exact ⟨_, rfl, K.out, rfl⟩
end Go.Proofs.Ytfgjdidnnbjalaa
namespace Go.Proofs.Ytfgjdidnnbjalaa.SP
open Go.RowKit Go.Sort Go.Deep
set_option maxHeartbeats 1000000 in
set_option maxRecDepth 100000 in
theorem LentJ (s : ByteArray) (w : World) (hs : s.size ≤ 1048576) :
    Calls Try.prog 7 #[.string s] w fun e w' => e = .returned (.slice (some ⟨w.heap.size, 0, none⟩) (s.size + 160) (s.size + 160)) ∧ Below w.heap.size w w' ∧ Holds encB w' w.heap.size 0 (lent s) := by
  obtain ⟨n, hn⟩ : ∃ n, s.size + 160 = n := ⟨_, rfl⟩
  have hmk := run_make_row' (P := Try.prog) 32 5 (.int .u8 0) 1 slice22 info5 rfl .i64 .i64 n (by omega) (by omega)
  rw [← hn, show ((s.size + 160 : Nat) : Int) = (s.size : Int) + 160 from by omega, hn] at hmk
  have hH0 : Holds encB (w.alloc (.cells (madeCells #[.int .u8 0] n) 5)) w.heap.size 0 (Array.replicate n 0) := Holds.made (enc := encB) w 5 n 0
  have hcp := run_copy_string (P := Try.prog) (w.alloc (.cells (madeCells #[.int .u8 0] n) 5)) 32 9 3 5 w.heap.size 0 n n s slice22 size5 (by omega)
    (fun j hj => by rw [(hH0 j (by rw [Array.size_replicate]; omega)).1]; rfl) (fun j hj => (hH0 j (by rw [Array.size_replicate]; omega)).2)
  have hH1 : Holds encB ((w.alloc (.cells (madeCells #[.int .u8 0] n) 5)).setCells w.heap.size 0 (s.data.toList.map fun x => Value.int .u8 (x.toNat : Int))) w.heap.size 0 (lentTo s 0) := by
    exact holds_lent0 s n hn hH0
  have hb1 : Below w.heap.size w ((w.alloc (.cells (madeCells #[.int .u8 0] n) 5)).setCells w.heap.size 0 (s.data.toList.map fun x => Value.int .u8 (x.toNat : Int))) :=
    below_setCells (Nat.le_refl _) _ _ _ ((Below.refl _ _).alloc (Nat.le_refl _) _)
  have hsz : w.heap.size < ((w.alloc (.cells (madeCells #[.int .u8 0] n) 5)).setCells w.heap.size 0 (s.data.toList.map fun x => Value.int .u8 (x.toNat : Int))).heap.size := by
    have := (below_setCells (B := 0) (b := w.heap.size) (Nat.zero_le _) (s.data.toList.map fun x => Value.int .u8 (x.toNat : Int)) 0 (w.alloc (.cells (madeCells #[.int .u8 0] n) 5)) (Below.refl 0 _)).size
    rw [World.size_alloc] at this
    omega
  go_enter Try.func7, Try.ntmps7
  go_wp2
  generalize World.setCells _ _ _ _ = W2 at hH1 hb1 hsz ⊢
  clear hmk hcp hH0
  have n160 : (n : Int) = (s.size : Int) + 160 := by omega
  have Hn : Hid (s.size + 160 = n) := hn
  have hnb : n ≤ 1048736 := by omega
  have hsn : s.size ≤ n := by omega
  clear hn n160
  go_loopg [4] 160 (fun g s4 wr => ∃ (k : Nat) (bs : Bs), k + g = 160 ∧ s4 = .int .i64 ((s.size + k : Nat) : Int) ∧ Holds encB wr w.heap.size 0 bs ∧ Only w.heap.size 0 n W2 wr ∧ Hid (bs = lentTo s k))
  case atStart => exact ⟨0, _, rfl, rfl, hH1, Only.refl _ _ _ _, rfl⟩
  case round =>
    obtain ⟨k, bs, hk, rfl, hB, hO, HE⟩ := hrel
    have hbs : bs.size = n := by rw [HE.out, lentTo_size]; exact Hn.out
    obtain ⟨i, hi⟩ : ∃ i, s.size + k = i := ⟨_, rfl⟩
    have Hi : Hid (s.size + k = i) := hi
    rw [hi]
    clear hi
    by_cases hlt : k < 160
    · have hin : i < n := by have := Hi.out; have := Hn.out; omega
      obtain ⟨c0, f0⟩ := hB i (by omega)
      rw [Nat.zero_add] at c0 f0
      have hin' : (i : Int) < (n : Int) := by omega
      have hf := fill_int i
      go_wp2
      go_roundg (gk - 1)
      case measure => omega
      case rel =>
        refine ⟨k + 1, bs.setIfInBounds i (fill i), by omega, ?_, ?_, ?_, ?_⟩
        · rw [← Hi.out]; go_num
        · have := Holds.set hB (i := i) (by omega) (fill i)
          rw [Nat.zero_add] at this
          exact this
        · exact hO.setCell (o := i) (by omega) (by omega) _
        · show _ = lentTo s (k + 1)
          rw [lent_step, Hi.out, HE.out]
    · have hin : (n : Int) ≤ (i : Int) := by have := Hi.out; have := Hn.out; omega
      have hk0 : k = 160 := by omega
      go_wp2
      go_ret
      refine ⟨?_, hb1.trans (hO.below (by omega) (Nat.le_refl _)), ?_⟩
      · rw [Hn.out]; rfl
      · unfold lent
        rw [HE.out, hk0] at hB
        exact hB
set_option maxHeartbeats 1000000 in
set_option maxRecDepth 100000 in
theorem StillJ (b : Nat) (bs : Bs) (s : ByteArray) (w : World) (hs : s.size ≤ 1048576) (hB : Holds encB w b 0 bs) (hbs : bs = lent s) :
    Calls Try.prog 10 #[.slice (some ⟨b, 0, none⟩) (s.size + 160) (s.size + 160), .string s] w fun e w' => e = .returned (.bool true) ∧ Below w.heap.size w w' := by
  have hb := Holds.lt hB (by rw [hbs, lent_size]; omega)
  go_enter Try.func10, Try.ntmps10
  go_wp2_with fail
  refine (LentJ s _ hs).mono ?_
  rintro e w1 ⟨rfl, hb1, hL⟩
  have k1 := conv_str Try.prog 32 9 5 slice22 int5 str9 w1 b 0 (s.size + 160) (s.size + 160) _ (Holds.below hB hb1 hb) (by rw [hbs, lent_size])
  have k2 := conv_str Try.prog 32 9 5 slice22 int5 str9 w1 w.heap.size 0 (s.size + 160) (s.size + 160) _ hL (lent_size s)
  rw [hbs] at k1
  go_wp2
  go_ret
  exact ⟨rfl, hb1⟩
end Go.Proofs.Ytfgjdidnnbjalaa.SP
namespace Go.Proofs.Ytfgjdidnnbjalaa
open Go.RowKit Go.Sort Go.Deep
variable {X Y : Nat → Prop} {W : World} {b b' lim : Nat} {B : ByteArray} {R : List ByteArray} {left : Int} {off : Bool} {v : Value} {j : Jr}
/-- The law's record, where there is none. -/
theorem recordL_n (hj : j.Ok) (i : Int) (hi : ¬ (0 ≤ i ∧ i < (R.length : Int))) (hR : R.length = j.E.length) (h : PSj X W b j) (hr : RSv Y W b' B R lim left off v) : Calls Try.prog 14 #[.pointer (some ⟨b, 0, none⟩), .pointer (some ⟨b', 0, none⟩), .int .i64 i] W (Ret fun e w' => Below W.heap.size W w' ∧ e = .bool true) := by
  have hC := record_c hj i h
  have HR := Hid.mk2 hr
  obtain ⟨q, c, rfl, -⟩ := own_slice hr.o
  clear hr h
  by_cases h0 : i < 0
  · go_enter Try.func14, Try.ntmps14
    go_wp2_with fail
    refine hC.mono ?_
    rintro e w1 ⟨v1, rfl, hb, ⟨-, rfl⟩ | ⟨h1, -⟩⟩
    · have K := Hid.mk2 hb
      clear hb hC
      go_wp2
      go_ret
      exact ⟨_, rfl, K.out, rfl⟩
    · omega
  · have h1 : ¬ i < (R.length : Int) := by omega
    have h2 : (R.length : Int) ≤ i := by omega
    go_enter Try.func14, Try.ntmps14
    go_wp2_with fail
    refine hC.mono ?_
    rintro e w1 ⟨v1, rfl, hb, ⟨-, rfl⟩ | ⟨h1, -⟩⟩
    · have K := Hid.mk2 hb
      have c2 := (HR.out.below hb).row.cell 2 _ rfl
      clear hb hC
      go_wp2
      go_ret
      exact ⟨_, rfl, K.out, rfl⟩
    · omega
end Go.Proofs.Ytfgjdidnnbjalaa
namespace Go.Proofs.Ytfgjdidnnbjalaa
open Go.RowKit Go.Sort Go.Deep
variable {X Y : Nat → Prop} {W : World} {b b' lim : Nat} {B : ByteArray} {R : List ByteArray} {left : Int} {off : Bool} {v : Value} {j : Jr}
theorem idxB (g n c i : Nat) (hi : i < n) (w : World) : (Instr.indexAt 32 (.slice (some ⟨g, 0, none⟩) n c) (.int .i64 (i : Int))).run Try.prog w = .ok (.pointer (some ⟨g, i, none⟩)) w := by
  have h1 : ¬ (i : Int) < 0 := by omega
  have h2 : (i : Int) < (n : Int) := by omega
  go_simp
set_option maxRecDepth 20000 in
set_option maxHeartbeats 1000000 in
/-- The law's record, where there is one. -/
theorem recordL_y (hj : j.Ok) (n : Nat) (hn : n < R.length) (hR : R.length = j.E.length) (s : ByteArray) (hs : R[n]? = some s) (hsb : Hid (recB j n = s.data.toList)) (hsz : s.size ≤ 1048576) (h : PSj X W b j) (hr : RSv Y W b' B R lim left off v) : Calls Try.prog 14 #[.pointer (some ⟨b, 0, none⟩), .pointer (some ⟨b', 0, none⟩), .int .i64 (n : Int)] W (Ret fun e w' => Below W.heap.size W w' ∧ e = .bool true) := by
  have hC := record_c hj (n : Int) h
  have HR := Hid.mk2 hr
  obtain ⟨g, c, rfl⟩ : ∃ g c, v = .slice (some ⟨g, 0, none⟩) R.length c := by
    rcases hr.o.2 with ⟨rfl, h0⟩ | ⟨g, cap, cur, rfl, -⟩
    · omega
    · exact ⟨g, cap, rfl⟩
  clear hr h
  have h1 : ¬ (n : Int) < 0 := by omega
  have h2 : (n : Int) < (R.length : Int) := by omega
  go_enter Try.func14, Try.ntmps14
  go_wp2_with fail
  refine hC.mono ?_
  rintro e w1 ⟨v1, rfl, hb, ⟨h3, -⟩ | ⟨-, u, rfl, hu⟩⟩
  · omega
  · rw [Int.toNat_natCast, hsb.out] at hu
    have hl : s.data.toList.length = s.size := by rw [Array.length_toList]; rfl
    rw [hl] at hu
    have h4 := HR.out.below hb
    have c2 := h4.row.cell 2 _ rfl
    have cn : w1.cell? ⟨g, n, none⟩ = some (.string s) := by
      have := h4.o.cells (g := g) rfl n (.string s) (by unfold strV; rw [List.getElem?_map, hs]; rfl)
      rw [addS0, Nat.zero_add] at this
      exact this
    obtain ⟨qr, cr, rfl, -⟩ := own_slice hu
    have hprt := (own_part hu (by omega)).1
    have hdr : ∀ k, Below w1.heap.size w1 (w1.drewN k) := fun k => drewN_bel w1 k
    have hcvr : (convert 32 9 (.slice qr s.size cr)).run Try.prog w1.drew = .ok (.string s) w1.drew := part_conv (b := s.data) (hprt.below (hdr 1))
    have hix := idxS g 0 R.length c n hn
    rw [Nat.zero_add] at hix
    have KU : Hid (Below W.heap.size W w1.drew ∧ w1.drew.ownsRow W.heap.size 5 1 (.slice qr s.size cr) s.size (cbs s.data.toList)) := ⟨hb.trans ((hdr 1).mono hb.size), hu⟩
    clear hC HR hsb hb hu hl h4 hprt hdr hs
    go_wp2_with fail
    go_region
    have KL : Hid (∃ xs : List Value, Below W.heap.size W w1.drew ∧ w1.drew.ownsRow W.heap.size 5 1 (.slice qr s.size cr) s.size xs) := ⟨_, KU.out⟩
    clear KU c2 cn hcvr hix
    generalize w1.drew = w2 at KL ⊢
    go_wp2_with fail
    go_loopg [10] s.size (fun gk s10 wr => ∃ i : Nat, i + gk = s.size ∧ s10 = .int .i64 (i : Int) ∧ Hid (∃ xs : List Value, Below W.heap.size W wr ∧ wr.ownsRow W.heap.size 5 1 (.slice qr s.size cr) s.size xs))
    case atStart => exact ⟨0, by omega, rfl, KL⟩
    case round =>
      clear KL
      obtain ⟨i, hig, rfl, KM⟩ := hrel
      by_cases hi : i < s.size
      · have hi' : (i : Int) < (s.size : Int) := by omega
        have hw : wrap64 ((i : Int) + 1) = ((i + 1 : Nat) : Int) := by unfold wrap64; omega
        have HW := Hid.mk2 hw
        clear hw
        obtain ⟨xs, k1, k2⟩ := KM.out
        obtain ⟨gx, rfl⟩ : ∃ gx, qr = some ⟨gx, 0, none⟩ := by
          rcases k2.2 with ⟨-, h0⟩ | ⟨gx, cap, cur, h0, -⟩
          · omega
          · injection h0 with h0; exact ⟨gx, h0⟩
        have hix := idxB gx s.size cr i hi
        have z1 := k2.frozenAt i
        have z2 : ∃ u, wr.cell? ⟨gx, i, none⟩ = some u := by
          have := k2.cellAt i (by omega)
          rw [this, List.getElem?_eq_getElem (by have := k2.1; omega)]
          exact ⟨_, rfl⟩
        obtain ⟨u, z2⟩ := z2
        have KN : Hid (∃ xs : List Value, Below W.heap.size W (wr.setCell ⟨gx, i, none⟩ (.int .u8 5)) ∧ (wr.setCell ⟨gx, i, none⟩ (.int .u8 5)).ownsRow W.heap.size 5 1 (.slice (some ⟨gx, 0, none⟩) s.size cr) s.size xs) :=
          ⟨_, k1.setCell (k2.lt gx rfl).1 _, (k2.stored i (.int .u8 5)).1⟩
        clear k1 k2 KM
        go_wp2
        go_roundg (gk - 1)
        case measure => omega
        case rel => exact ⟨i + 1, by omega, rfl, KN⟩
      · have hi' : ¬ (i : Int) < (s.size : Int) := by omega
        go_wp2
        go_ret
        obtain ⟨xs, k1, -⟩ := KM.out
        exact ⟨_, rfl, k1, rfl⟩
end Go.Proofs.Ytfgjdidnnbjalaa
namespace Go.Proofs.Ytfgjdidnnbjalaa
open Go.RowKit Go.Sort Go.Deep
theorem ixR (y : List UInt8) (k : Nat) (hk : k < y.length) (c : Int) (hc : c = (k : Int)) (w : World) : (Instr.index 9 (.string (bA y)) (.int .i64 c)).run Try.prog w = .ok (.int .u8 (SP.ub (y.getD k 0))) w := by
  subst hc
  have hs := bA_size y
  have hk2 : k < (bA y).size := by omega
  have e : ((bA y)[k]'hk2) = y.getD k 0 := by
    rw [List.getD_eq_getElem?_getD, List.getElem?_eq_getElem hk]
    rfl
  rw [run_index_string (t := 9) (s := bA y) (k := .i64) (i := (k : Int)) (h := str9)]
  simp [hk2, e, SP.ub]
theorem gw_ixc {P : Program} {ops : Array Oper} {Q : Exit → Act → World → Prop} {a0 : Act} {G : RG.Gw} {k : Nat} {o : Oper} (T : TypeId) (t : Tmp) (c : Value) (ho : o.op = .index T (.tmp t) (.const c))
    (h : ∀ (a : Act) (w : World), RG.PreG G ops a0 k o a w → ∃ v1 v, a.eval (.tmp t) = v1 ∧ (Instr.index T v1 c).run P w = .ok v w ∧ G.R k v w) : RG.CertF P Q G.flow ops a0 k o :=
  RG.cf_val fun a w hp => by
    obtain ⟨v1, v, h1, h3, hR⟩ := h a w (RG.pre_of hp)
    refine ⟨v, w, ?_, Below.refl _ _, hR⟩
    have h2 : a.eval (.const c) = c := rfl
    unfold execOp
    rw [ho]
    dsimp only
    rw [h1, h2, Sem.run_bind, h3]
    rfl
theorem gw_cbin {P : Program} {ops : Array Oper} {Q : Exit → Act → World → Prop} {a0 : Act} {G : RG.Gw} {k : Nat} {o : Oper} (op : BinOp) (T T' : TypeId) (t1 : Tmp) (c : Value) (ho : o.op = .binOp op T (.const c) (.tmp t1) T')
    (h : ∀ (a : Act) (w : World), RG.PreG G ops a0 k o a w → ∃ v1 v, a.eval (.tmp t1) = v1 ∧ (eqGuard op T (.const c) (.tmp t1) c v1).run P w = .ok () w ∧ (binOp op T c v1).run P w = .ok v w ∧ G.R k v w) : RG.CertF P Q G.flow ops a0 k o :=
  RG.cf_val fun a w hp => by
    obtain ⟨v1, v, h1, hg, hb, hR⟩ := h a w (RG.pre_of hp)
    refine ⟨v, w, ?_, Below.refl _ _, hR⟩
    have h2 : a.eval (.const c) = c := rfl
    unfold execOp
    rw [ho]
    dsimp only
    rw [h1, h2, Sem.run_bind, Sem.run_bind, hg]
    dsimp only [Result.andThen]
    rw [hb]
    rfl
theorem gw_slm {P : Program} {ops : Array Oper} {Q : Exit → Act → World → Prop} {a0 : Act} {G : RG.Gw} {k : Nat} {o : Oper} (T : TypeId) (t u : Tmp) (c : Value) (ho : o.op = .slice T (.tmp t) (some (.const c)) (some (.tmp u)) none)
    (h : ∀ (a : Act) (w : World), RG.PreG G ops a0 k o a w → ∃ v1 v2 v, a.eval (.tmp t) = v1 ∧ a.eval (.tmp u) = v2 ∧ (Instr.sliceAt T v1 (some c) (some v2) none).run P w = .ok v w ∧ G.R k v w) : RG.CertF P Q G.flow ops a0 k o :=
  RG.cf_val fun a w hp => by
    obtain ⟨v1, v2, v, h1, h4, h3, hR⟩ := h a w (RG.pre_of hp)
    refine ⟨v, w, ?_, Below.refl _ _, hR⟩
    have h2 : a.eval (.const c) = c := rfl
    unfold execOp
    rw [ho]
    dsimp only [Option.map]
    rw [h1, h2, h4, Sem.run_bind, h3]
    rfl
theorem ldS {P : Program} {T : TypeId} {t : Tmp} {o : Oper} {a : Act} {w : World} {r off : Nat} {v : Value} (ho : o.op = .load T (.tmp t)) (hu : (P.underlying T).map (·.isRow) = some false) (he : a.eval (.tmp t) = .pointer (some ⟨r, off, none⟩)) (hc : w.cell? ⟨r, off, none⟩ = some v) : (execOp a.eval o).run P w = .ok (.value v) w := by
  unfold execOp
  rw [ho]
  dsimp only
  rw [he, Sem.run_bind, RG.run_load1 hc hu]
  rfl
/-- The values of region 9. -/
def GR9 (y : ByteArray) (u0 u1 u2 u3 s0 s1 s2 o1 o2 n : Int) (w0 : World) : RG.Gw where
  R i v _ := v = ([.string y, .int .u8 u0, .int .i64 u0, .int .i64 s0, .string y, .int .u8 u1, .int .i64 u1, .int .i64 s1, .int .i64 o1, .string y, .int .u8 u2, .int .i64 u2, .int .i64 s2, .int .i64 o2, .string y, .int .u8 u3, .int .i64 u3, .int .i64 n, .int .i64 n]).getD i undef
  B w := Below w0.heap.size w0 w
  sR _ _ _ _ _ h := h
  sB w w' hb h := h.trans (hb.mono h.size)
/-- The values of region 12. -/
def GR12 (b : Nat) (q : Option Addr) (k c : Nat) (y r F : ByteArray) (n : Nat) (w0 : World) : RG.Gw where
  R i v _ := v = ([.pointer (some ⟨b, 0, none⟩), .pointer (some ⟨b, 0, none⟩), .pointer (some ⟨b, 2, none⟩), .slice q k c, .int .i64 (k : Int), .string y, .int .i64 (n : Int), .int .i64 ((4 + n : Nat) : Int), .string r, .string F, .string F]).getD i undef
  B w := b < w0.heap.size ∧ Below w0.heap.size w0 w ∧ w.cell? ⟨b, 2, none⟩ = some (.slice q k c)
  sR _ _ _ _ _ h := h
  sB w w' hb h := ⟨h.1, h.2.1.trans (hb.mono h.2.1.size), by rw [hb.cell (p := ⟨b, 2, none⟩) (Nat.lt_of_lt_of_le h.1 h.2.1.size)]; exact h.2.2⟩
theorem shl24 (x : UInt8) (w : World) : (binOp .shl 3 (.int .i64 (SP.ub x)) (.int .u64 24)).run Try.prog w = .ok (.int .i64 ((x.toNat * 16777216 : Nat) : Int)) w := by
  have hx := x.toNat_lt
  have e : IntKind.i64.wrap (SP.ub x * 16777216) = ((x.toNat * 16777216 : Nat) : Int) := by rw [IntKind.wrap_i64]; unfold SP.ub; omega
  rw [← e]
  go_simp
theorem shl16 (x : UInt8) (w : World) : (binOp .shl 3 (.int .i64 (SP.ub x)) (.int .u64 16)).run Try.prog w = .ok (.int .i64 ((x.toNat * 65536 : Nat) : Int)) w := by
  have hx := x.toNat_lt
  have e : IntKind.i64.wrap (SP.ub x * 65536) = ((x.toNat * 65536 : Nat) : Int) := by rw [IntKind.wrap_i64]; unfold SP.ub; omega
  rw [← e]
  go_simp
theorem shl8 (x : UInt8) (w : World) : (binOp .shl 3 (.int .i64 (SP.ub x)) (.int .u64 8)).run Try.prog w = .ok (.int .i64 ((x.toNat * 256 : Nat) : Int)) w := by
  have hx := x.toNat_lt
  have e : IntKind.i64.wrap (SP.ub x * 256) = ((x.toNat * 256 : Nat) : Int) := by rw [IntKind.wrap_i64]; unfold SP.ub; omega
  rw [← e]
  go_simp
theorem cnvB (x : UInt8) (w : World) : (convert 5 3 (.int .u8 (SP.ub x))).run Try.prog w = .ok (.int .i64 (SP.ub x)) w := by
  have h1 := SP.ub_lt x
  have h2 := SP.ub_nonneg x
  have e : IntKind.i64.wrap (SP.ub x) = SP.ub x := by rw [IntKind.wrap_i64]; omega
  go_simp
theorem orI (x y : Int) (w : World) : (binOp .or 3 (.int .i64 x) (.int .i64 y)).run Try.prog w = .ok (.int .i64 (bits .or .i64 x y)) w := by go_simp
end Go.Proofs.Ytfgjdidnnbjalaa
namespace Go.Proofs.Ytfgjdidnnbjalaa
open Go.RowKit Go.Sort Go.Deep
theorem nineF (y : List UInt8) (hl : 4 ≤ y.length) (n : Nat) (hn : n = be4L y) : ∃ t0 t1 t2 t3 s0 s1 s2 o1 o2 : Int,
    (∀ w : World, (Instr.index 9 (.string (bA y)) (.int .i64 0)).run Try.prog w = .ok (.int .u8 t0) w) ∧
    (∀ w : World, (Instr.index 9 (.string (bA y)) (.int .i64 1)).run Try.prog w = .ok (.int .u8 t1) w) ∧
    (∀ w : World, (Instr.index 9 (.string (bA y)) (.int .i64 2)).run Try.prog w = .ok (.int .u8 t2) w) ∧
    (∀ w : World, (Instr.index 9 (.string (bA y)) (.int .i64 3)).run Try.prog w = .ok (.int .u8 t3) w) ∧
    (∀ w : World, (convert 5 3 (.int .u8 t0)).run Try.prog w = .ok (.int .i64 t0) w) ∧
    (∀ w : World, (convert 5 3 (.int .u8 t1)).run Try.prog w = .ok (.int .i64 t1) w) ∧
    (∀ w : World, (convert 5 3 (.int .u8 t2)).run Try.prog w = .ok (.int .i64 t2) w) ∧
    (∀ w : World, (convert 5 3 (.int .u8 t3)).run Try.prog w = .ok (.int .i64 t3) w) ∧
    (∀ w : World, (binOp .shl 3 (.int .i64 t0) (.int .u64 24)).run Try.prog w = .ok (.int .i64 s0) w) ∧
    (∀ w : World, (binOp .shl 3 (.int .i64 t1) (.int .u64 16)).run Try.prog w = .ok (.int .i64 s1) w) ∧
    (∀ w : World, (binOp .shl 3 (.int .i64 t2) (.int .u64 8)).run Try.prog w = .ok (.int .i64 s2) w) ∧
    (∀ w : World, (binOp .or 3 (.int .i64 s0) (.int .i64 s1)).run Try.prog w = .ok (.int .i64 o1) w) ∧
    (∀ w : World, (binOp .or 3 (.int .i64 o1) (.int .i64 s2)).run Try.prog w = .ok (.int .i64 o2) w) ∧
    (∀ w : World, (binOp .or 3 (.int .i64 o2) (.int .i64 t3)).run Try.prog w = .ok (.int .i64 (n : Int)) w) :=
  ⟨_, _, _, _, _, _, _, _, _, ixR y 0 (by omega) 0 rfl, ixR y 1 (by omega) 1 rfl, ixR y 2 (by omega) 2 rfl, ixR y 3 (by omega) 3 rfl, cnvB _, cnvB _, cnvB _, cnvB _, shl24 _, shl16 _, shl8 _, orI _ _, orI _ _, fun w => by
    rw [orI, hn]
    exact congrArg (fun k => Result.ok (Value.int .i64 k) w) (be4_or .i64 bits_or_i64_nat (y.getD 0 0) (y.getD 1 0) (y.getD 2 0) (y.getD 3 0))⟩
theorem sl_mid (s : ByteArray) (a z : Nat) (h1 : a ≤ z) (h2 : z ≤ s.size) (r : ByteArray) (e : s.extract a z = r) (w : World) : (Instr.sliceAt 9 (.string s) (some (.int .i64 (a : Int))) (some (.int .i64 (z : Int))) none).run Try.prog w = .ok (.string r) w := by
  subst e
  have g1 : ¬ (a : Int) < 0 := by omega
  have g2 : (a : Int) ≤ (z : Int) := by omega
  have g3 : (z : Int) ≤ (s.size : Int) := by omega
  go_simp
theorem sl_hi (s : ByteArray) (z : Nat) (h2 : z ≤ s.size) (r : ByteArray) (e : s.extract 0 z = r) (w : World) : (Instr.sliceAt 9 (.string s) none (some (.int .i64 (z : Int))) none).run Try.prog w = .ok (.string r) w := by
  subst e
  have g1 : ¬ (z : Int) < 0 := by omega
  have g3 : (z : Int) ≤ (s.size : Int) := by omega
  go_simp
/-- What is known behind the append of a record. -/
def RpA (X : Nat → Prop) (W : World) (b : Nat) (B : ByteArray) (R : List ByteArray) (lim : Nat) (left : Int) (off : Bool) (v v' : Value) (W' : World) : Prop := W'.cell? ⟨b, 2, none⟩ = some v ∧ W'.frozen? ⟨b, 2, none⟩ = false ∧ RLv X W b B R lim left off (W'.setCell ⟨b, 2, none⟩ v')
/-- What the reference's Open answers. -/
def ROpR (w : World) (lim : Nat) (x : List UInt8) (e : Value) (w' : World) : Prop := Below w.heap.size w w' ∧ ∃ (b : Nat) (Y : Nat → Prop) (v : Value), e = .tuple #[.pointer (some ⟨b, 0, none⟩), .int .i64 0] ∧ (∀ k, Y k → w.heap.size ≤ k) ∧ RSv Y w' b (bA (catF (recs x) (recs x).length)) ((recs x).map bA) lim (-1) false v
/-- What holds at the beginning of round i. -/
def OpI (w : World) (b lim : Nat) (x : List UInt8) (i : Nat) (wr : World) : Prop := Below w.heap.size w wr ∧ ∃ (Y : Nat → Prop) (v : Value), (∀ k, Y k → w.heap.size ≤ k) ∧ RSv Y wr b (bA (catF (recs x) i)) (((recs x).take i).map bA) lim (-1) false v
theorem OpI.fin {w wr w' : World} {b lim i : Nat} {x : List UInt8} (h : OpI w b lim x i wr) (hb : Below wr.heap.size wr w') (hi : i = (recs x).length) : ROpR w lim x (.tuple #[.pointer (some ⟨b, 0, none⟩), .int .i64 0]) w' := by
  obtain ⟨h1, Y, v, h2, h3⟩ := h
  subst hi
  rw [List.take_of_length_le (Nat.le_refl _)] at h3
  exact ⟨h1.trans (hb.mono h1.size), b, Y, v, rfl, h2, h3.below hb⟩
set_option maxRecDepth 100000 in
set_option maxHeartbeats 4000000 in
theorem ropen_b (x : List UInt8) (lim : Nat) (h1 : 64 ≤ lim) (h2 : lim ≤ 1048576) (hx : x.length ≤ lim) (w : World) : Calls Try.prog 26 #[.string (bA x), .int .i64 (lim : Int)] w (Ret (ROpR w lim x)) := by
  have hN := rnew_y lim h1 h2 w
  obtain ⟨D, hD⟩ : ∃ D, Hid (D = bA x) := ⟨_, rfl⟩
  have HDs : Hid (D.size = x.length) := by show _ = _; rw [hD.out]; exact bA_size x
  have g : ¬ (lim : Int) < (D.size : Int) := by have := HDs.out; omega
  rw [← hD.out]
  go_enter Try.func26, Try.ntmps26
  go_wp2_with fail
  refine hN.mono ?_
  rintro e w1 ⟨v1, rfl, hb, b, rfl, hbb, hR⟩
  have K0 : Hid (OpI w b lim x 0 w1) := ⟨hb, _, _, fun k hk => by rw [hk]; exact hbb, hR⟩
  clear hN hb hR hbb
  go_wp2_with fail
  simp only [show decide (lim < D.size) = false from decide_eq_false (by have := HDs.out; omega)]
  go_loopg [8, 9, 10] (recs x).length (fun gk s8 s9 s10 wr => ∃ i : Nat, i + gk = (recs x).length ∧ Hid (OpI w b lim x i wr))
  case atStart => exact ⟨0, by omega, K0⟩
  case round =>
    clear K0
    obtain ⟨i, hig, KM⟩ := hrel
    obtain ⟨hb, Y, v, hY, hR⟩ := KM.out
    have hL : upTo x i ≤ x.length := (scan_at x i (show i ≤ (recs x).length by omega)).2.1
    obtain ⟨BB, hBB⟩ : ∃ BB, Hid (BB = bA (catF (recs x) i)) := ⟨_, rfl⟩
    have HBs : Hid (BB.size = upTo x i) := by show _ = _; rw [hBB.out]; exact bA_size _
    rw [← hBB.out] at hR
    obtain ⟨y, hy⟩ : ∃ y, Hid (y = x.drop (upTo x i)) := ⟨_, rfl⟩
    obtain ⟨yb, hyb⟩ : ∃ yb, Hid (yb = bA y) := ⟨_, rfl⟩
    have Hys : Hid (yb.size = y.length) := by show _ = _; rw [hyb.out]; exact bA_size y
    have hsl : ∀ w : World, (Instr.sliceAt 9 (.string D) (some (.int .i64 (BB.size : Int))) none none).run Try.prog w = .ok (.string yb) w := fun w => by
      have e : D.extract BB.size D.size = yb := by
        rw [HBs.out, HDs.out, hD.out, hyb.out, hy.out, bA_ext, List.take_of_length_le (Nat.le_refl _)]
      have g1 : ¬ (BB.size : Int) < 0 := by omega
      have g2 : (BB.size : Int) ≤ (D.size : Int) := by have h3 := HBs.out; have h4 := HDs.out; omega
      go_simp
      first | done | rw [e]
    have HEnd : Hid (frs i y = none → i = (recs x).length) := fun h => recs_end (x := x) (by omega) (by rw [← hy.out]; exact h)
    have c1 := hR.row.cell 1 _ rfl
    by_cases hA : y.length < 4
    · have gA : (yb.size : Int) < 4 := by have := Hys.out; omega
      have hi := HEnd.out (frs_few hA)
      go_wp2
      go_ret2
      exact ⟨_, rfl, KM.out.fin (Below.refl _ _) hi⟩
    · have gA : ¬ (yb.size : Int) < 4 := by have := Hys.out; omega
      obtain ⟨n, hn⟩ : ∃ n, Hid (n = be4L y) := ⟨_, rfl⟩
      obtain ⟨t0, t1, t2, t3, s0, s1, s2, o1, o2, ix0, ix1, ix2, ix3, d0, d1, d2, d3, a0, a1, a2, or1, or2, or3⟩ := nineF y (by omega) n hn.out
      rw [← hyb.out] at ix0 ix1 ix2 ix3
      go_wp2_with fail
      refine RG.Gw.draws (GR9 yb t0 t1 t2 t3 s0 s1 s2 o1 o2 (n : Int) wr) (by kernel_rfl) (by kernel_rfl) ?_ (Below.refl wr.heap.size wr).drew ?_
      · exact ⟨RG.gw_val fun a W hp => ⟨[(8, .string yb)], .string yb, W, ⟨hp.o 8 (by kernel_rfl), trivial⟩, by kernel_rfl, Below.refl _ _, rfl⟩,
          gw_ixc 9 34 (.int .i64 0) rfl fun a W hp => ⟨_, _, hp.n 0 34 (by kernel_rfl) (by kernel_rfl), ix0 W, rfl⟩,
          gw_cnv 5 3 35 rfl fun a W hp => ⟨_, _, hp.n 1 35 (by kernel_rfl) (by kernel_rfl), d0 W, rfl⟩,
          gw_binc .shl 3 75 36 (.int .u64 24) rfl fun a W hp => ⟨_, _, hp.n 2 36 (by kernel_rfl) (by kernel_rfl), by kernel_rfl, a0 W, rfl⟩,
          RG.gw_val fun a W hp => ⟨[(8, .string yb)], .string yb, W, ⟨hp.o 8 (by kernel_rfl), trivial⟩, by kernel_rfl, Below.refl _ _, rfl⟩,
          gw_ixc 9 38 (.int .i64 1) rfl fun a W hp => ⟨_, _, hp.n 4 38 (by kernel_rfl) (by kernel_rfl), ix1 W, rfl⟩,
          gw_cnv 5 3 39 rfl fun a W hp => ⟨_, _, hp.n 5 39 (by kernel_rfl) (by kernel_rfl), d1 W, rfl⟩,
          gw_binc .shl 3 75 40 (.int .u64 16) rfl fun a W hp => ⟨_, _, hp.n 6 40 (by kernel_rfl) (by kernel_rfl), by kernel_rfl, a1 W, rfl⟩,
          RG.gw_bin .or 3 3 37 41 rfl fun a W hp => ⟨_, _, _, hp.n 3 37 (by kernel_rfl) (by kernel_rfl), hp.n 7 41 (by kernel_rfl) (by kernel_rfl), by kernel_rfl, or1 W, rfl⟩,
          RG.gw_val fun a W hp => ⟨[(8, .string yb)], .string yb, W, ⟨hp.o 8 (by kernel_rfl), trivial⟩, by kernel_rfl, Below.refl _ _, rfl⟩,
          gw_ixc 9 43 (.int .i64 2) rfl fun a W hp => ⟨_, _, hp.n 9 43 (by kernel_rfl) (by kernel_rfl), ix2 W, rfl⟩,
          gw_cnv 5 3 44 rfl fun a W hp => ⟨_, _, hp.n 10 44 (by kernel_rfl) (by kernel_rfl), d2 W, rfl⟩,
          gw_binc .shl 3 75 45 (.int .u64 8) rfl fun a W hp => ⟨_, _, hp.n 11 45 (by kernel_rfl) (by kernel_rfl), by kernel_rfl, a2 W, rfl⟩,
          RG.gw_bin .or 3 3 42 46 rfl fun a W hp => ⟨_, _, _, hp.n 8 42 (by kernel_rfl) (by kernel_rfl), hp.n 12 46 (by kernel_rfl) (by kernel_rfl), by kernel_rfl, or2 W, rfl⟩,
          RG.gw_val fun a W hp => ⟨[(8, .string yb)], .string yb, W, ⟨hp.o 8 (by kernel_rfl), trivial⟩, by kernel_rfl, Below.refl _ _, rfl⟩,
          gw_ixc 9 48 (.int .i64 3) rfl fun a W hp => ⟨_, _, hp.n 14 48 (by kernel_rfl) (by kernel_rfl), ix3 W, rfl⟩,
          gw_cnv 5 3 49 rfl fun a W hp => ⟨_, _, hp.n 15 49 (by kernel_rfl) (by kernel_rfl), d3 W, rfl⟩,
          RG.gw_bin .or 3 3 47 50 rfl fun a W hp => ⟨_, _, _, hp.n 13 47 (by kernel_rfl) (by kernel_rfl), hp.n 16 50 (by kernel_rfl) (by kernel_rfl), by kernel_rfl, or3 W, rfl⟩,
          RG.gw_val fun a W hp => ⟨[(51, .int .i64 (n : Int))], .int .i64 (n : Int), W, ⟨hp.n 17 51 (by kernel_rfl) (by kernel_rfl), trivial⟩, by kernel_rfl, Below.refl _ _, rfl⟩,
          trivial⟩
      · intro V w5 hV hB
        have h18 : V 18 = .int .i64 (n : Int) := hV 18 (Nat.lt_of_succ_le (Nat.le_of_ble_eq_true (by kernel_rfl)))
        have KB : Hid (Below wr.heap.size wr w5) := hB
        dsimp only [RG.putV, Nat.reduceAdd]
        simp only [Act.put, List.setIfInBounds_toArray, List.set_cons_succ, List.set_cons_zero]
        rw [h18]
        clear hV hB h18 ix0 ix1 ix2 ix3 or1 or2 or3 a0 a1 a2 d0 d1 d2 d3
        by_cases hn1 : 16384 < n
        · have gn : (16384 : Int) < (n : Int) := by omega
          have hi := HEnd.out (frs_big (by rw [← hn.out]; exact hn1))
          go_wp2
          go_ret2
          exact ⟨_, rfl, KM.out.fin KB.out hi⟩
        · have gn : ¬ (16384 : Int) < (n : Int) := by omega
          have hw12 : IntKind.i64.wrap (12 + (n : Int)) = ((12 + n : Nat) : Int) := by rw [IntKind.wrap_i64]; omega
          by_cases hn2 : y.length < 12 + n
          · have gn2 : (yb.size : Int) < ((12 + n : Nat) : Int) := by have := Hys.out; omega
            have hi := HEnd.out (frs_cutoff (by rw [← hn.out]; exact hn2))
            go_wp2
            go_ret2
            exact ⟨_, rfl, KM.out.fin KB.out hi⟩
          · have gn2 : ¬ (yb.size : Int) < ((12 + n : Nat) : Int) := by have := Hys.out; omega
            have hi0 : i ≤ (recs x).length := by omega
            have hlen : (((recs x).take i).map bA).length = i := by rw [List.length_map, List.length_take]; omega
            have hfew := recs_few x i hi0
            obtain ⟨q, c, rfl, -⟩ := own_slice hR.o
            rw [hlen] at hR
            obtain ⟨rb, hrb⟩ : ∃ rb, Hid (rb = bA ((y.drop 4).take n)) := ⟨_, rfl⟩
            obtain ⟨F, hF⟩ : ∃ F, Hid (F = bA (frameB i ((y.drop 4).take n))) := ⟨_, rfl⟩
            obtain ⟨S, hS⟩ : ∃ S, Hid (S = bA (y.take (12 + n))) := ⟨_, rfl⟩
            have hrl : rb.size ≤ 16384 := by rw [hrb.out, bA_size, List.length_take]; omega
            have HFr : Hid (∀ w, Calls Try.prog 24 #[.int .i64 (i : Int), .string rb] w (Ret fun e w' => Below w.heap.size w w' ∧ e = .string F)) := fun w => by
              have h := rframe_c i (by omega) rb hrl w
              have e : (⟨(frameB i rb.data.toList).toArray⟩ : ByteArray) = F := by rw [hF.out, hrb.out, bA_list]; rfl
              rw [e] at h
              exact h
            have add4 : ∀ w : World, (binOp .add 3 (.int .i64 4) (.int .i64 (n : Int))).run Try.prog w = .ok (.int .i64 ((4 + n : Nat) : Int)) w := fun w => by
              have e : IntKind.i64.wrap (4 + (n : Int)) = ((4 + n : Nat) : Int) := by rw [IntKind.wrap_i64]; omega
              rw [← e]
              go_simp
            have sl12 : ∀ w : World, (Instr.sliceAt 9 (.string yb) (some (.int .i64 4)) (some (.int .i64 ((4 + n : Nat) : Int))) none).run Try.prog w = .ok (.string rb) w := fun w => by
              have e : yb.extract 4 (4 + n) = rb := by rw [hyb.out, hrb.out, bA_ext, List.drop_take]; congr 2; omega
              exact sl_mid yb 4 (4 + n) (by omega) (by have := Hys.out; omega) rb e w
            have sl13 : yb.extract 0 (12 + n) = S := by rw [hyb.out, hS.out, bA_ext, List.drop_zero]
            have h5 := hR.below KB.out
            have s12 : Hid (b < w5.heap.size ∧ Below w5.heap.size w5 w5.drew ∧ w5.drew.cell? ⟨b, 2, none⟩ = some (.slice q i c)) := ⟨h5.ins b h5.xb, (Below.refl _ _).drew, h5.row.cell 2 _ rfl⟩
            go_wp2_with fail
            refine RG.Gw.draws (GR12 b q i c yb rb F n w5) (by kernel_rfl) (by kernel_rfl) ?_ s12.out ?_
            · exact ⟨RG.gw_val fun a W hp => ⟨[(6, .pointer (some ⟨b, 0, none⟩))], .pointer (some ⟨b, 0, none⟩), W, ⟨hp.o 6 (by kernel_rfl), trivial⟩, by kernel_rfl, Below.refl _ _, rfl⟩,
                RG.gw_val fun a W hp => ⟨[(62, .pointer (some ⟨b, 0, none⟩))], .pointer (some ⟨b, 0, none⟩), W, ⟨hp.n 0 62 (by kernel_rfl) (by kernel_rfl), trivial⟩, by kernel_rfl, Below.refl _ _, rfl⟩,
                RG.gw_val fun a W hp => ⟨[(63, .pointer (some ⟨b, 0, none⟩))], .pointer (some ⟨b, 2, none⟩), W, ⟨hp.n 1 63 (by kernel_rfl) (by kernel_rfl), trivial⟩, by kernel_rfl, Below.refl _ _, rfl⟩,
                RG.cf_val fun a W hp => ⟨.slice q i c, W, ldS (T := 38) (t := 64) rfl (by kernel_rfl) ((RG.pre_of hp).n 2 64 (by kernel_rfl) (by kernel_rfl)) (RG.pre_of hp).b.2.2, Below.refl _ _, rfl⟩,
                RG.gw_val fun a W hp => ⟨[(65, .slice q i c)], .int .i64 (i : Int), W, ⟨hp.n 3 65 (by kernel_rfl) (by kernel_rfl), trivial⟩, by kernel_rfl, Below.refl _ _, rfl⟩,
                RG.gw_val fun a W hp => ⟨[(8, .string yb)], .string yb, W, ⟨hp.o 8 (by kernel_rfl), trivial⟩, by kernel_rfl, Below.refl _ _, rfl⟩,
                RG.gw_val fun a W hp => ⟨[(9, .int .i64 (n : Int))], .int .i64 (n : Int), W, ⟨hp.o 9 (by kernel_rfl), trivial⟩, by kernel_rfl, Below.refl _ _, rfl⟩,
                gw_cbin .add 3 3 68 (.int .i64 4) rfl fun a W hp => ⟨_, _, hp.n 6 68 (by kernel_rfl) (by kernel_rfl), by kernel_rfl, add4 W, rfl⟩,
                gw_slm 9 67 69 (.int .i64 4) rfl fun a W hp => ⟨_, _, _, hp.n 5 67 (by kernel_rfl) (by kernel_rfl), hp.n 7 69 (by kernel_rfl) (by kernel_rfl), sl12 W, rfl⟩,
                RG.gw_call fun a W hp => ⟨[(66, .int .i64 (i : Int)), (70, .string rb)], 24, #[.int .i64 (i : Int), .string rb], ⟨hp.n 4 66 (by kernel_rfl) (by kernel_rfl), hp.n 8 70 (by kernel_rfl) (by kernel_rfl), trivial⟩, by kernel_rfl, (HFr.out W).mono (by
                  rintro e' W' ⟨u, rfl, hb, rfl⟩
                  exact ⟨_, rfl, hb, rfl⟩)⟩,
                RG.gw_val fun a W hp => ⟨[(71, .string F)], .string F, W, ⟨hp.n 9 71 (by kernel_rfl) (by kernel_rfl), trivial⟩, by kernel_rfl, Below.refl _ _, rfl⟩,
                trivial⟩
            · intro V2 w6 hV hB
              have h10 : V2 10 = .string F := hV 10 (Nat.lt_of_succ_le (Nat.le_of_ble_eq_true (by kernel_rfl)))
              have KB6 : Hid (Below wr.heap.size wr w6) := KB.out.trans (hB.2.1.mono KB.out.size)
              dsimp only [RG.putV, Nat.reduceAdd]
              simp only [Act.put, List.setIfInBounds_toArray, List.set_cons_succ, List.set_cons_zero]
              rw [h10]
              clear hV hB h10 s12 h5
              have Hfrs : Hid (frs i y = if S = F then some ((y.drop 4).take n) else none) := by
                show _ = _
                have e := frs_is (i := i) (x := y) (by rw [← hn.out]; omega) (by rw [← hn.out]; omega)
                rw [← hn.out] at e
                rw [e]
                by_cases g : y.take (12 + n) = frameB i ((y.drop 4).take n)
                · rw [if_pos g, if_pos (by rw [hS.out, hF.out, g])]
                · rw [if_neg g, if_neg (fun h => g (bA_inj (by rw [← hS.out, ← hF.out, h])))]
              by_cases hq : S = F
              · have hqq : (S.toList == F.toList) = true := by rw [hq]; simp
                rw [if_pos hq] at Hfrs
                have h6 := hR.below KB6.out
                have d1 := h6.row.cell 1 _ rfl
                have z1 := h6.row.free 1 (by decide : 1 < 5)
                have hBS : BB.size + F.size ≤ 9223372036854775807 := by
                  have h3 := HBs.out
                  have h4 : F.size = n + 12 := by rw [hF.out, bA_size, frameB_len, List.length_take, List.length_drop]; omega
                  omega
                have h7 : RSv Y (w6.setCell ⟨b, 1, none⟩ (.string (BB ++ F))) b (BB ++ F) (((recs x).take i).map bA) lim (-1) false (.slice q i c) := h6.set (BB ++ F) (-1) false rfl (by decide)
                have b7 : Below w.heap.size w (w6.setCell ⟨b, 1, none⟩ (.string (BB ++ F))) := (hb.trans (KB6.out.mono hb.size)).setCell (hY b h6.xb) _
                have K7 := Hid.mk2 h7
                have KB7 := Hid.mk2 b7
                clear hq h7 b7 h6 hR hb KB KB6
                go_wp2_with fail
                generalize w6.setCell ⟨b, 1, none⟩ (.string (BB ++ F)) = w7 at K7 KB7 ⊢
                have e2 := K7.out.row.cell 2 _ rfl
                have e2b : (w7.alloc (.cells #[.string rb] 9)).cell? ⟨b, 2, none⟩ = some (.slice q i c) := (K7.out.below ((Below.refl _ _).alloc (Nat.le_refl _) _)).row.cell 2 _ rfl
                have hap : Hid (∃ q' n' c' w4, (Builtin.append_ #[38, 38] 38 #[.slice q i c, .slice (some ⟨w7.heap.size, 0, none⟩) 1 1]).run Try.prog (w7.alloc (.cells #[.string rb] 9)).drew = .ok (.slice q' n' c') w4 ∧ RpA Y w7.drew b (BB ++ F) (((recs x).take i).map bA ++ [rb]) lim (-1) false (.slice q i c) (.slice q' n' c') w4) := rput w7.drew rb (FrX.of (Below.refl _ _)) (K7.out.below (Below.refl _ _).drew) (by rw [hlen]; have := HBs.out; omega)
                have hw4 : IntKind.i64.wrap (4 + (n : Int)) = 4 + (n : Int) := by rw [IntKind.wrap_i64]; omega
                have g41 : (0 : Int) ≤ 4 + (n : Int) := by omega
                have g42 : 4 + (n : Int) ≤ (yb.size : Int) := by omega
                have g43 : (4 : Int) ≤ 4 + (n : Int) := by omega
                have g44 : (4 + (n : Int)).toNat = 4 + n := by omega
                have e16 : yb.extract 4 (4 + n) = rb := by rw [hyb.out, hrb.out, bA_ext, List.drop_take]; congr 2; omega
                go_region_law (refine step_append_ex rfl (.tmp 92) (.tmp 97) 38 38 rfl (.slice q i c) (.slice (some ⟨w7.heap.size, 0, none⟩) 1 1) (by simp [Act.eval, Act.put]) (by simp [Act.eval, Act.put]) hap.out ?_; intro q' n' c' W' r2; have f2 := r2.1; have f3 := r2.2.1; have R2 := Hid.mk2 r2; clear r2)
                all_goals
                  have HN : Hid (OpI w b lim x (i + 1) (W'.setCell ⟨b, 2, none⟩ (.slice q' n' c'))) := by
                    obtain ⟨r1, r2, hf, Y2, v2, hY2, hR2⟩ := R2.out
                    obtain ⟨k1, k2, k3, k4⟩ := recs_next (x := x) (r := (y.drop 4).take n) hi0 (by rw [← hy.out]; exact Hfrs.out)
                    rw [hBB.out, hF.out, bA_app, ← k4, hrb.out] at hR2
                    have e3 : ((recs x).take i).map bA ++ [bA ((y.drop 4).take n)] = ((recs x).take (i + 1)).map bA := by rw [k3, List.map_append]; rfl
                    rw [e3] at hR2
                    refine ⟨KB7.out.drew.trans (hf.below (B := w.heap.size) hY KB7.out.size), Y2, v2, fun k hk => ?_, hR2⟩
                    rcases hY2 k hk with h | h
                    · exact hY k h
                    · exact Nat.le_trans KB7.out.size h
                  have hig2 : i < (recs x).length := (recs_next (x := x) (r := (y.drop 4).take n) hi0 (by rw [← hy.out]; exact Hfrs.out)).1
                  clear R2 hap K7 KB7 HEnd Hfrs HFr
                  go_wp2
                  go_roundg (gk - 1)
                  case measure => omega
                  case rel => exact ⟨i + 1, by omega, HN⟩
              · have hqq : (S.toList == F.toList) = false := by
                  rw [ByteArray.toList_eq, ByteArray.toList_eq, beq_eq_false_iff_ne]
                  intro h
                  exact hq (by cases S; cases F; simp only [ByteArray.mk.injEq]; exact Array.toList_inj.1 h)
                have hi := HEnd.out (by rw [Hfrs.out, if_neg hq])
                clear Hfrs hq
                go_wp2
                go_ret2
                exact ⟨_, rfl, KM.out.fin KB6.out hi⟩
end Go.Proofs.Ytfgjdidnnbjalaa
namespace Go.Proofs.Ytfgjdidnnbjalaa
open Go.RowKit Go.Sort Go.Deep
variable {X Y : Nat → Prop} {W : World} {b b' lim : Nat} {B : ByteArray} {R : List ByteArray} {left : Int} {off : Bool} {v : Value} {j : Jr}
/-- The values of region 2 of the law's same. -/
def GSm (b b' : Nat) (q : Option Addr) (m c : Nat) (D : ByteArray) (qr : Option Addr) (k cr : Nat) (w0 : World) : RG.Gw where
  R i v _ := v = ([.slice q m c, .string D, .pointer (some ⟨b', 0, none⟩), .pointer (some ⟨b', 0, none⟩), .pointer (some ⟨b', 1, none⟩), .string D, .bool false, .bool false, .pointer (some ⟨b, 0, none⟩), .int .i64 (k : Int), .pointer (some ⟨b', 0, none⟩), .pointer (some ⟨b', 0, none⟩), .pointer (some ⟨b', 2, none⟩), .slice qr k cr, .int .i64 (k : Int), .bool false, .bool false]).getD i undef
  B w := Below w0.heap.size w0 w
  sR _ _ _ _ _ h := h
  sB w w' hb h := h.trans (hb.mono h.size)
theorem neqS (D : ByteArray) (w : World) : (binOp .neq 9 (.string D) (.string D)).run Try.prog w = .ok (.bool false) w := by go_simp
theorem neqI (k : Int) (w : World) : (binOp .neq 3 (.int .i64 k) (.int .i64 k)).run Try.prog w = .ok (.bool false) w := by go_simp
set_option maxRecDepth 20000 in
set_option maxHeartbeats 1000000 in
/-- The law's same. -/
theorem sameL (hj : j.Ok) (hB : B = bA j.B) (hR : R.length = j.E.length) (h : PSj X W b j) (hr : RSv Y W b' B R lim left off v) : Calls Try.prog 15 #[.pointer (some ⟨b, 0, none⟩), .pointer (some ⟨b', 0, none⟩)] W (Ret fun e w' => Below W.heap.size W w' ∧ e = .bool true) := by
  obtain ⟨u1, u2, hu⟩ := h
  have hC := disk_c (by have := hj.fits; have := hj.lim2; omega) hu
  have HU := Hid.mk2 hu
  have HR := Hid.mk2 hr
  obtain ⟨qr, cr, rfl, -⟩ := own_slice hr.o
  have hsz : B.size = j.B.length := by rw [hB]; exact bA_size _
  have hfit : j.B.length ≤ 1048576 := Nat.le_trans hj.fits hj.lim2
  clear hr hu
  go_enter Try.func15, Try.ntmps15
  go_wp2_with fail
  refine hC.mono ?_
  rintro e w1 ⟨v1, rfl, hb, ho⟩
  rw [← hsz] at ho
  have hfB : B.size ≤ 1048576 := by omega
  obtain ⟨q, c, rfl, -⟩ := own_slice ho
  have hprt := (own_part ho (by omega)).1
  have hcv : ∀ W', Below w1.heap.size w1 W' → (convert 32 9 (.slice q B.size c)).run Try.prog W' = .ok (.string B) W' := fun W' hb' => by
    have h := part_conv (b := j.B.toArray) (q := q) (n := B.size) (c := c) (w := W') (by simpa using hprt.below hb')
    rw [hB]
    rw [hB] at h
    exact h
  have h1 := HR.out.below hb
  have hc1 : ∀ W', Below w1.heap.size w1 W' → W'.cell? ⟨b', 1, none⟩ = some (.string B) := fun W' hb' => (h1.below hb').row.cell 1 _ rfl
  have hc2 : ∀ W', Below w1.heap.size w1 W' → W'.cell? ⟨b', 2, none⟩ = some (.slice qr R.length cr) := fun W' hb' => (h1.below hb').row.cell 2 _ rfl
  have HLn : Hid (∀ W', Below w1.heap.size w1 W' → Calls Try.prog 17 #[.pointer (some ⟨b, 0, none⟩)] W' (Ret fun e w' => W' = w' ∧ e = .int .i64 (R.length : Int))) := fun W' hb' => by
    have h := len_c ((HU.out.below hb).below hb')
    rw [← hR] at h
    exact h
  have KU : Hid (Below W.heap.size W w1 ∧ w1.ownsRow W.heap.size 5 1 (.slice q B.size c) B.size (cbs j.B)) := ⟨hb, ho⟩
  clear hC HU HR hb ho hprt h1 hB hR hj hsz hfit
  go_wp2_with fail
  refine RG.Gw.draws (GSm b b' q B.size c B qr R.length cr w1) (by kernel_rfl) (by kernel_rfl) ?_ (Below.refl w1.heap.size w1).drew ?_
  · exact ⟨RG.gw_val fun a W hp => ⟨[(5, .slice q B.size c)], .slice q B.size c, W, ⟨hp.o 5 (by kernel_rfl), trivial⟩, by kernel_rfl, Below.refl _ _, rfl⟩,
      gw_cnv 32 9 9 rfl fun a W hp => ⟨_, _, hp.n 0 9 (by kernel_rfl) (by kernel_rfl), hcv W hp.b, rfl⟩,
      RG.gw_val fun a W hp => ⟨[(1, .pointer (some ⟨b', 0, none⟩))], .pointer (some ⟨b', 0, none⟩), W, ⟨hp.o 1 (by kernel_rfl), trivial⟩, by kernel_rfl, Below.refl _ _, rfl⟩,
      RG.gw_val fun a W hp => ⟨[(11, .pointer (some ⟨b', 0, none⟩))], .pointer (some ⟨b', 0, none⟩), W, ⟨hp.n 2 11 (by kernel_rfl) (by kernel_rfl), trivial⟩, by kernel_rfl, Below.refl _ _, rfl⟩,
      RG.gw_val fun a W hp => ⟨[(12, .pointer (some ⟨b', 0, none⟩))], .pointer (some ⟨b', 1, none⟩), W, ⟨hp.n 3 12 (by kernel_rfl) (by kernel_rfl), trivial⟩, by kernel_rfl, Below.refl _ _, rfl⟩,
      RG.cf_val fun a W hp => ⟨.string B, W, ldS (T := 9) (t := 13) rfl (by kernel_rfl) ((RG.pre_of hp).n 4 13 (by kernel_rfl) (by kernel_rfl)) (hc1 W (RG.pre_of hp).b), Below.refl _ _, rfl⟩,
      RG.gw_bin .neq 9 9 10 14 rfl fun a W hp => ⟨_, _, _, hp.n 1 10 (by kernel_rfl) (by kernel_rfl), hp.n 5 14 (by kernel_rfl) (by kernel_rfl), by kernel_rfl, neqS B W, rfl⟩,
      RG.gw_val fun a W hp => ⟨[(15, .bool false)], .bool false, W, ⟨hp.n 6 15 (by kernel_rfl) (by kernel_rfl), trivial⟩, by kernel_rfl, Below.refl _ _, rfl⟩,
      RG.gw_want rfl (by kernel_rfl) (fun _ _ h => h) (RG.gw_val fun a W hp => ⟨[(0, .pointer (some ⟨b, 0, none⟩))], .pointer (some ⟨b, 0, none⟩), W, ⟨hp.o 0 (by kernel_rfl), trivial⟩, by kernel_rfl, Below.refl _ _, rfl⟩),
      RG.gw_want rfl (by kernel_rfl) (fun _ _ h => h) (RG.gw_call fun a W hp => ⟨[(17, .pointer (some ⟨b, 0, none⟩))], 17, #[.pointer (some ⟨b, 0, none⟩)], ⟨hp.n 8 17 (by kernel_rfl) (by kernel_rfl), trivial⟩, by kernel_rfl, (HLn.out W hp.b).mono (by
        rintro e' W' ⟨u, rfl, rfl, rfl⟩
        exact ⟨_, rfl, Below.refl _ _, rfl⟩)⟩),
      RG.gw_want rfl (by kernel_rfl) (fun _ _ h => h) (RG.gw_val fun a W hp => ⟨[(1, .pointer (some ⟨b', 0, none⟩))], .pointer (some ⟨b', 0, none⟩), W, ⟨hp.o 1 (by kernel_rfl), trivial⟩, by kernel_rfl, Below.refl _ _, rfl⟩),
      RG.gw_want rfl (by kernel_rfl) (fun _ _ h => h) (RG.gw_val fun a W hp => ⟨[(19, .pointer (some ⟨b', 0, none⟩))], .pointer (some ⟨b', 0, none⟩), W, ⟨hp.n 10 19 (by kernel_rfl) (by kernel_rfl), trivial⟩, by kernel_rfl, Below.refl _ _, rfl⟩),
      RG.gw_want rfl (by kernel_rfl) (fun _ _ h => h) (RG.gw_val fun a W hp => ⟨[(20, .pointer (some ⟨b', 0, none⟩))], .pointer (some ⟨b', 2, none⟩), W, ⟨hp.n 11 20 (by kernel_rfl) (by kernel_rfl), trivial⟩, by kernel_rfl, Below.refl _ _, rfl⟩),
      RG.gw_want rfl (by kernel_rfl) (fun _ _ h => h) (RG.cf_val fun a W hp => ⟨.slice qr R.length cr, W, ldS (T := 38) (t := 21) rfl (by kernel_rfl) ((RG.pre_of hp).n 12 21 (by kernel_rfl) (by kernel_rfl)) (hc2 W (RG.pre_of hp).b), Below.refl _ _, rfl⟩),
      RG.gw_want rfl (by kernel_rfl) (fun _ _ h => h) (RG.gw_val fun a W hp => ⟨[(22, .slice qr R.length cr)], .int .i64 (R.length : Int), W, ⟨hp.n 13 22 (by kernel_rfl) (by kernel_rfl), trivial⟩, by kernel_rfl, Below.refl _ _, rfl⟩),
      RG.gw_want rfl (by kernel_rfl) (fun _ _ h => h) (RG.gw_bin .neq 3 3 18 23 rfl fun a W hp => ⟨_, _, _, hp.n 9 18 (by kernel_rfl) (by kernel_rfl), hp.n 14 23 (by kernel_rfl) (by kernel_rfl), by kernel_rfl, neqI (R.length : Int) W, rfl⟩),
      RG.gw_val fun a W hp => ⟨[(16, .bool false), (24, .bool false)], .bool false, W, ⟨hp.n 7 16 (by kernel_rfl) (by kernel_rfl), hp.n 15 24 (by kernel_rfl) (by kernel_rfl), trivial⟩, by kernel_rfl, Below.refl _ _, rfl⟩,
      trivial⟩
  · intro V w5 hV hB
    have h16 : V 16 = .bool false := hV 16 (Nat.lt_of_succ_le (Nat.le_of_ble_eq_true (by kernel_rfl)))
    have KL : Hid (∃ xs : List Value, Below W.heap.size W w5 ∧ w5.ownsRow W.heap.size 5 1 (.slice q B.size c) B.size xs) := ⟨_, KU.out.1.trans (hB.mono KU.out.1.size), own_below KU.out.2 hB⟩
    dsimp only [RG.putV, Nat.reduceAdd]
    simp only [Act.put, List.setIfInBounds_toArray, List.set_cons_succ, List.set_cons_zero]
    rw [h16]
    clear hV hB h16 hcv hc1 hc2 HLn KU
    go_wp2_with fail
    go_loopg [6] B.size (fun gk s6 wr => ∃ i : Nat, i + gk = B.size ∧ s6 = .int .i64 (i : Int) ∧ Hid (∃ xs : List Value, Below W.heap.size W wr ∧ wr.ownsRow W.heap.size 5 1 (.slice q B.size c) B.size xs))
    case atStart => exact ⟨0, by omega, rfl, KL⟩
    case round =>
      clear KL
      obtain ⟨i, hig, rfl, KM⟩ := hrel
      by_cases hi : i < B.size
      · have hi' : (i : Int) < (B.size : Int) := by omega
        have hw : wrap64 ((i : Int) + 1) = ((i + 1 : Nat) : Int) := by unfold wrap64; omega
        have HW := Hid.mk2 hw
        clear hw
        obtain ⟨xs, k1, k2⟩ := KM.out
        obtain ⟨gx, rfl⟩ : ∃ gx, q = some ⟨gx, 0, none⟩ := by
          rcases k2.2 with ⟨-, h0⟩ | ⟨gx, cap, cur, h0, -⟩
          · omega
          · injection h0 with h0; exact ⟨gx, h0⟩
        have hix := idxB gx B.size c i hi
        have z1 := k2.frozenAt i
        have z2 : ∃ u, wr.cell? ⟨gx, i, none⟩ = some u := by
          have := k2.cellAt i (by omega)
          rw [this, List.getElem?_eq_getElem (by have := k2.1; omega)]
          exact ⟨_, rfl⟩
        obtain ⟨u, z2⟩ := z2
        have KN : Hid (∃ xs : List Value, Below W.heap.size W (wr.setCell ⟨gx, i, none⟩ (.int .u8 9)) ∧ (wr.setCell ⟨gx, i, none⟩ (.int .u8 9)).ownsRow W.heap.size 5 1 (.slice (some ⟨gx, 0, none⟩) B.size c) B.size xs) :=
          ⟨_, k1.setCell (k2.lt gx rfl).1 _, (k2.stored i (.int .u8 9)).1⟩
        clear k1 k2 KM
        go_wp2
        go_roundg (gk - 1)
        case measure => omega
        case rel => exact ⟨i + 1, by omega, rfl, KN⟩
      · have hi' : ¬ (i : Int) < (B.size : Int) := by omega
        go_wp2
        go_ret
        obtain ⟨xs, k1, -⟩ := KM.out
        exact ⟨_, rfl, k1, rfl⟩
end Go.Proofs.Ytfgjdidnnbjalaa
namespace Go.Proofs.Ytfgjdidnnbjalaa
open Go.RowKit Go.Sort Go.Deep
variable {X Y : Nat → Prop} {W : World} {b b' lim : Nat} {B : ByteArray} {R : List ByteArray} {left : Int} {off : Bool} {v : Value} {j : Jr}
theorem slLentJ (k n : Nat) (hn : n ≤ 1048576) (w : World) : (Instr.sliceAt 32 (.slice (some ⟨k, 0, none⟩) (n + 160) (n + 160)) none (some (.int .i64 (n : Int))) none).run Try.prog w = .ok (.slice (some ⟨k, 0, none⟩) n (n + 160)) w := by
  have h1 : ¬ (n : Int) < 0 := by omega
  have h2 : (n : Int) ≤ (n : Int) + 160 := by omega
  go_simp
theorem lent_partJ {W : World} {k : Nat} {s : ByteArray} (h : Holds SP.encB W k 0 (SP.lent s)) (hs : s.size ≤ 1048576) : SP.PartOk W (.slice (some ⟨k, 0, none⟩) s.size (s.size + 160)) s.data.toList :=
  ⟨_, k, 0, s.size + 160, s.data, rfl, rfl, by show s.size ≤ _; omega, by show s.size ≤ _; omega, Or.inr ⟨rfl, SP.holds_text s h⟩⟩
/-- What a caller's bytes, written over, leave alone. -/
structure Wp (g n : Nat) (w3 wr : World) : Prop where
  bl : Below g w3 wr
  sz : wr.heap.size = w3.heap.size
  ot : ∀ k, k ≠ g → wr.heap[k]? = w3.heap[k]?
  hb : ∃ bs : Bs, bs.size = n ∧ Holds SP.encB wr g 0 bs
theorem Wp.set {g n i : Nat} {w3 wr : World} (h : Wp g n w3 wr) (hi : i < n) : Wp g n w3 (wr.setCell ⟨g, i, none⟩ (.int .u8 7)) := by
  obtain ⟨bs, h1, h2⟩ := h.hb
  refine ⟨h.bl.setCell (Nat.le_refl _) _, by rw [World.size_setCell]; exact h.sz, fun k hk => by rw [blk_setCell_other wr ⟨g, i, none⟩ _ k hk]; exact h.ot k hk, bs.setIfInBounds i 7, by rw [Array.size_setIfInBounds]; exact h1, ?_⟩
  have := Holds.set h2 (i := i) (by omega) 7
  rw [Nat.zero_add] at this
  exact this
theorem Wp.psj {g n : Nat} {w3 wr : World} (h : Wp g n w3 wr) (hp : PSj X w3 b j) (hx : ∀ k, X k → k ≠ g) : PSj X wr b j := by
  obtain ⟨u1, u2, hu⟩ := hp
  exact ⟨u1, u2, hu.kept (Nat.le_of_eq h.sz.symm) (fun k hk => h.ot k (hx k hk))⟩
theorem Wp.rsv {g n : Nat} {w3 wr : World} (h : Wp g n w3 wr) (hp : RSv X w3 b B R lim left off v) (hx : ∀ k, X k → k ≠ g) : RSv X wr b B R lim left off v :=
  hp.kept (Nat.le_of_eq h.sz.symm) (fun k hk => h.ot k (hx k hk))
set_option maxRecDepth 20000 in
set_option maxHeartbeats 1000000 in
/-- The law's open, where there is none. -/
theorem openL_n (d : ByteArray) (hd : d.size ≤ 1048576) (n k : Int) (hOp : ∀ (g c : Nat) (W : World), Calls Try.prog 18 #[.slice (some ⟨g, 0, none⟩) d.size c, .int .i64 n] W (Ret fun e w' => Below W.heap.size W w' ∧ e = .tuple #[.pointer none, .int .i64 k]))
    (hRf : ∀ W : World, Calls Try.prog 26 #[.string d, .int .i64 n] W (Ret fun e w' => Below W.heap.size W w' ∧ e = .tuple #[.pointer none, .int .i64 k])) (w : World) :
    Calls Try.prog 13 #[.string d, .int .i64 n] w (Ret fun e w' => Below w.heap.size w w' ∧ e = .tuple #[.pointer none, .pointer none, .bool true]) := by
  have hL := SP.LentJ d w hd
  go_enter Try.func13, Try.ntmps13
  go_wp2_with fail
  refine hL.mono ?_
  rintro e w1 ⟨rfl, hb1, hH1⟩
  have hg1 : w.heap.size < w1.heap.size := Holds.lt hH1 (by rw [SP.lent_size]; omega)
  have hsl := slLentJ w.heap.size d.size hd
  have hA := hOp w.heap.size (d.size + 160) w1
  have K1 : Hid (Below w.heap.size w w1 ∧ Holds SP.encB w1 w.heap.size 0 (SP.lent d) ∧ w.heap.size < w1.heap.size) := ⟨hb1, hH1, hg1⟩
  clear hL hb1 hH1 hg1
  generalize hgg : w.heap.size = g at *
  go_wp2_with fail
  refine hA.mono ?_
  rintro e w2 ⟨v2, rfl, hb2, rfl⟩
  have hH2 : Holds SP.encB w2 g 0 (SP.lent d) := Holds.below K1.out.2.1 hb2 K1.out.2.2
  have hS := SP.StillJ g (SP.lent d) d w2 hd hH2 rfl
  have K2 : Hid (Below g w w2 ∧ Holds SP.encB w2 g 0 (SP.lent d) ∧ g < w1.heap.size ∧ w1.heap.size ≤ w2.heap.size) := ⟨K1.out.1.trans (hb2.mono (Nat.le_of_lt K1.out.2.2)), hH2, K1.out.2.2, hb2.size⟩
  clear hA hb2 hH2 K1 hsl
  go_wp2_with fail
  refine hS.mono ?_
  rintro e w3 ⟨rfl, hb3⟩
  have K3 : Hid (Below g w w3 ∧ w2.heap.size ≤ w3.heap.size ∧ Wp g (d.size + 160) w3 w3) := ⟨K2.out.1.trans (hb3.mono (Nat.le_of_lt (Nat.lt_of_lt_of_le K2.out.2.2.1 K2.out.2.2.2))), hb3.size, ⟨Below.refl _ _, rfl, fun _ _ => rfl, _, SP.lent_size d, Holds.below K2.out.2.1 hb3 (Nat.lt_of_lt_of_le K2.out.2.2.1 K2.out.2.2.2)⟩⟩
  clear hS hb3
  go_wp2_with fail
  go_loopg [11] (d.size + 160) (fun gk s11 wr => ∃ i : Nat, i + gk = d.size + 160 ∧ s11 = .int .i64 (i : Int) ∧ Hid (Wp g (d.size + 160) w3 wr))
  case atStart => exact ⟨0, by omega, rfl, K3.out.2.2⟩
  case round =>
    obtain ⟨i, hig, rfl, KM⟩ := hrel
    by_cases hi : i < d.size + 160
    · have hi' : (i : Int) < ((d.size + 160 : Nat) : Int) := by omega
      have hw : wrap64 ((i : Int) + 1) = ((i + 1 : Nat) : Int) := by unfold wrap64; omega
      have HW := Hid.mk2 hw
      clear hw
      have hix := idxB g (d.size + 160) (d.size + 160) i hi
      obtain ⟨bs, h1, h2⟩ := KM.out.hb
      have z1 : wr.frozen? ⟨g, i, none⟩ = false := by have := (h2 i (by omega)).2; rw [Nat.zero_add] at this; exact this
      have z2 : wr.cell? ⟨g, i, none⟩ = some (SP.encB bs[i]!) := by have := (h2 i (by omega)).1; rw [Nat.zero_add] at this; exact this
      have KN : Hid (Wp g (d.size + 160) w3 (wr.setCell ⟨g, i, none⟩ (.int .u8 7))) := KM.out.set hi
      clear h2 KM
      go_wp2
      go_roundg (gk - 1)
      case measure => omega
      case rel => exact ⟨i + 1, by omega, rfl, KN⟩
    · have hi' : ¬ (i : Int) < ((d.size + 160 : Nat) : Int) := by omega
      have hR := hRf wr
      have K4 : Hid (Below g w wr ∧ g < wr.heap.size) := ⟨K3.out.1.trans KM.out.bl, by have h1 := K2.out.2.2.1; have h2 := K2.out.2.2.2; have h3 := K3.out.2.1; have h4 := KM.out.sz; omega⟩
      clear K2 K3 KM hOp hRf
      go_wp2_with fail
      refine hR.mono ?_
      rintro e w5 ⟨v5, rfl, hb5, rfl⟩
      have K5 : Hid (Below w.heap.size w w5) := by
        show Below _ _ _
        rw [hgg]
        exact K4.out.1.trans (hb5.mono (Nat.le_of_lt K4.out.2))
      clear hR hb5 K4
      go_wp2
      go_ret3
      exact ⟨_, rfl, K5.out, rfl⟩
/-- What the law's open answers, where there is one. -/
def OpL (w : World) (lim : Nat) (x : List UInt8) (e : Value) (w' : World) : Prop := Below w.heap.size w w' ∧ ∃ (b b' : Nat) (X Y : Nat → Prop) (v : Value), e = .tuple #[.pointer (some ⟨b, 0, none⟩), .pointer (some ⟨b', 0, none⟩), .bool true] ∧ (∀ k, X k → w.heap.size ≤ k) ∧ (∀ k, Y k → w.heap.size ≤ k) ∧ (∀ k, X k → ¬ Y k) ∧ PSj X w' b (openJ lim x) ∧ RSv Y w' b' (bA (catF (recs x) (recs x).length)) ((recs x).map bA) lim (-1) false v
set_option maxRecDepth 20000 in
set_option maxHeartbeats 1000000 in
theorem openL_y (d : ByteArray) (lim : Nat) (h1 : 64 ≤ lim) (h2 : lim ≤ 1048576) (hdl : d.size ≤ lim) (w : World) :
    Calls Try.prog 13 #[.string d, .int .i64 (lim : Int)] w (Ret (OpL w lim d.data.toList)) := by
  have hd : d.size ≤ 1048576 := by omega
  have hRf : ∀ W : World, Calls Try.prog 26 #[.string d, .int .i64 (lim : Int)] W (Ret (ROpR W lim d.data.toList)) := fun W => by
    have h := ropen_b d.data.toList lim h1 h2 (by rw [Array.length_toList]; exact hdl) W
    rw [bA_of] at h
    exact h
  have HRf := Hid.mk2 hRf
  clear hRf
  have hL := SP.LentJ d w hd
  go_enter Try.func13, Try.ntmps13
  go_wp2_with fail
  refine hL.mono ?_
  rintro e w1 ⟨rfl, hb1, hH1⟩
  have hg1 : w.heap.size < w1.heap.size := Holds.lt hH1 (by rw [SP.lent_size]; omega)
  have hsl := slLentJ w.heap.size d.size hd
  have hA := open_y lim h1 h2 (some ⟨w.heap.size, 0, none⟩) d.size (d.size + 160) d.data.toList w1 w.heap.size (Or.inr hg1) (Or.inr ⟨0, d.size, d.size + 160, rfl, lent_partJ hH1 hd⟩) (by rw [Array.length_toList]; exact hdl)
  have K1 : Hid (Below w.heap.size w w1 ∧ Holds SP.encB w1 w.heap.size 0 (SP.lent d) ∧ w.heap.size < w1.heap.size) := ⟨hb1, hH1, hg1⟩
  clear hL hb1 hH1 hg1
  generalize hgg : w.heap.size = g at *
  go_wp2_with fail
  refine hA.mono ?_
  rintro e w2 ⟨v2, rfl, hb2, b, X, rfl, hX, hP2⟩
  have hH2 : Holds SP.encB w2 g 0 (SP.lent d) := Holds.below K1.out.2.1 hb2 K1.out.2.2
  have hS := SP.StillJ g (SP.lent d) d w2 hd hH2 rfl
  have K2 : Hid (Below g w w2 ∧ Holds SP.encB w2 g 0 (SP.lent d) ∧ g < w1.heap.size ∧ w1.heap.size ≤ w2.heap.size) := ⟨K1.out.1.trans (hb2.mono (Nat.le_of_lt K1.out.2.2)), hH2, K1.out.2.2, hb2.size⟩
  clear hA hb2 hH2 K1 hsl
  go_wp2_with fail
  refine hS.mono ?_
  rintro e w3 ⟨rfl, hb3⟩
  have K3 : Hid (Below g w w3 ∧ w2.heap.size ≤ w3.heap.size ∧ Wp g (d.size + 160) w3 w3) := ⟨K2.out.1.trans (hb3.mono (Nat.le_of_lt (Nat.lt_of_lt_of_le K2.out.2.2.1 K2.out.2.2.2))), hb3.size, ⟨Below.refl _ _, rfl, fun _ _ => rfl, _, SP.lent_size d, Holds.below K2.out.2.1 hb3 (Nat.lt_of_lt_of_le K2.out.2.2.1 K2.out.2.2.2)⟩⟩
  have KP : Hid ((∀ k, X k → w1.heap.size ≤ k ∧ k < w3.heap.size) ∧ PSj X w3 b (openJ lim d.data.toList)) := by
    obtain ⟨u1, u2, hu⟩ := hP2
    exact ⟨fun k hk => ⟨hX k hk, Nat.lt_of_lt_of_le (hu.ins k hk) hb3.size⟩, u1, u2, hu.below hb3⟩
  clear hX hP2
  clear hS hb3
  go_wp2_with fail
  go_loopg [11] (d.size + 160) (fun gk s11 wr => ∃ i : Nat, i + gk = d.size + 160 ∧ s11 = .int .i64 (i : Int) ∧ Hid (Wp g (d.size + 160) w3 wr))
  case atStart => exact ⟨0, by omega, rfl, K3.out.2.2⟩
  case round =>
    obtain ⟨i, hig, rfl, KM⟩ := hrel
    by_cases hi : i < d.size + 160
    · have hi' : (i : Int) < ((d.size + 160 : Nat) : Int) := by omega
      have hw : wrap64 ((i : Int) + 1) = ((i + 1 : Nat) : Int) := by unfold wrap64; omega
      have HW := Hid.mk2 hw
      clear hw
      have hix := idxB g (d.size + 160) (d.size + 160) i hi
      obtain ⟨bs, h1, h2⟩ := KM.out.hb
      have z1 : wr.frozen? ⟨g, i, none⟩ = false := by have := (h2 i (by omega)).2; rw [Nat.zero_add] at this; exact this
      have z2 : wr.cell? ⟨g, i, none⟩ = some (SP.encB bs[i]!) := by have := (h2 i (by omega)).1; rw [Nat.zero_add] at this; exact this
      have KN : Hid (Wp g (d.size + 160) w3 (wr.setCell ⟨g, i, none⟩ (.int .u8 7))) := KM.out.set hi
      clear h2 KM
      go_wp2
      go_roundg (gk - 1)
      case measure => omega
      case rel => exact ⟨i + 1, by omega, rfl, KN⟩
    · have hi' : ¬ (i : Int) < ((d.size + 160 : Nat) : Int) := by omega
      have hR := HRf.out wr
      have K4 : Hid (Below g w wr ∧ g < w1.heap.size ∧ w1.heap.size ≤ wr.heap.size ∧ (∀ k, X k → w1.heap.size ≤ k ∧ k < wr.heap.size) ∧ PSj X wr b (openJ lim d.data.toList)) := by
        have e1 := K2.out.2.2.1
        have e2 := K2.out.2.2.2
        have e3 := K3.out.2.1
        have e4 := KM.out.sz
        refine ⟨K3.out.1.trans KM.out.bl, e1, by omega, fun k hk => ?_, KM.out.psj KP.out.2 (fun k hk => ?_)⟩
        · have := KP.out.1 k hk; omega
        · have := KP.out.1 k hk; omega
      clear K2 K3 KM HRf KP
      go_wp2_with fail
      refine hR.mono ?_
      rintro e w5 ⟨v5, rfl, hb5, b', Y, v, rfl, hY, hR5⟩
      have K5 : Hid (OpL w lim d.data.toList (.tuple #[.pointer (some ⟨b, 0, none⟩), .pointer (some ⟨b', 0, none⟩), .bool true]) w5) := by
        obtain ⟨k1, k2, k3, k4, u1, u2, k5⟩ := K4.out
        refine ⟨by rw [hgg]; exact k1.trans (hb5.mono (by omega)), b, b', X, Y, v, rfl, fun k hk => ?_, fun k hk => ?_, fun k hk hy => ?_, ⟨u1, u2, k5.below hb5⟩, hR5⟩
        · have := k4 k hk; omega
        · have := hY k hk; omega
        · have := k4 k hk; have := hY k hy; omega
      clear hR hb5 K4 hY hR5
      go_wp2
      go_ret3
      exact ⟨_, rfl, K5.out⟩
end Go.Proofs.Ytfgjdidnnbjalaa
