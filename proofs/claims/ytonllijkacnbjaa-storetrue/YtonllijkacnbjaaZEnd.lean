import Derived.Deep.AppendSrc
import Derived.Lib.AppendZeros
import Derived.Lib.SlBytesConst
import Derived.ChangeOld
import Derived.Below
import Derived.WalkKit
import Derived.ProofKit
import Derived.OpenShut
import Derived.ShutString
import Derived.SliceStrings
import Derived.SizedLaws
import Derived.Test.YtonllijkacnbjaaZ4
set_option linter.unusedVariables false
set_option linter.unusedSimpArgs false
namespace Go.Proofs.Ytonllijkacnbjaa
open Go.RowKit Go.Sort Go.Deep
variable {P : Nat} [NeZero P]
/-- A number's 32 bytes. -/
def bx (n : Nat) : Bs := be32 (n % 18446744073709551616) (n / 18446744073709551616 % 18446744073709551616) (n / 340282366920938463463374607431768211456 % 18446744073709551616) (n / 6277101735386680763835789423207666416102355444464034512896 % 18446744073709551616)
theorem bx_size (n : Nat) : (bx n).size = 32 := by unfold bx; exact be32_size _ _ _ _
def mark (n : Nat) : UInt8 := if n % 2 = 1 then 3 else 2
/-- A point's 33 bytes. -/
def by33 (x y : Fin P) : Bs := if x = 0 ∧ y = 0 then Array.replicate 33 0 else #[mark y.val] ++ bx x.val
theorem info5b : (Try.prog.info? 5).map (fun i => (i.zero, i.size, i.bytes)) = some (some (.int .u8 0), 1, 1) := by kernel_rfl
theorem und23 : Try.prog.underlying 32 = some (.slice 5) := by kernel_rfl
/-- What bytes answers. -/
def BytesR (w : World) (T : Bs) (e : Value) (w' : World) : Prop := ∃ g cap, e = .slice (some ⟨g, 0, none⟩) 33 cap ∧ 33 ≤ cap ∧ w.heap.size ≤ g ∧ g < w'.heap.size ∧ Holds encB w' g 0 T
theorem mk33 (w : World) : (Instr.makeSlice 32 (.int .i64 33) (.int .i64 33)).run Try.prog w = .ok (.slice (some ⟨w.heap.size, 0, none⟩) 33 33) (w.alloc (.cells (madeCells #[.int .u8 0] 33) 5)) :=
  run_make_row' (P := Try.prog) 32 5 (.int .u8 0) 1 und23 info5b rfl .i64 .i64 33 (by decide) (by decide) w
theorem made33 (w : World) (o : Obj) : Holds encB ((w.alloc o).alloc (.cells (madeCells #[.int .u8 0] 33) 5)) (w.heap.size + 1) 0 (Array.replicate 33 0) := by
  have h := Holds.made (enc := encB) (w.alloc o) 5 33 (0 : UInt8)
  rw [World.size_alloc] at h
  exact h
omit [NeZero P] in
theorem pv_words (x y : Fin P) : pv x y = .agg #[.int .u64 ((x.val % 18446744073709551616 : Nat) : Int), .int .u64 ((x.val / 18446744073709551616 % 18446744073709551616 : Nat) : Int), .int .u64 ((x.val / 340282366920938463463374607431768211456 % 18446744073709551616 : Nat) : Int), .int .u64 ((x.val / 6277101735386680763835789423207666416102355444464034512896 % 18446744073709551616 : Nat) : Int), .int .u64 ((y.val % 18446744073709551616 : Nat) : Int), .int .u64 ((y.val / 18446744073709551616 % 18446744073709551616 : Nat) : Int), .int .u64 ((y.val / 340282366920938463463374607431768211456 % 18446744073709551616 : Nat) : Int), .int .u64 ((y.val / 6277101735386680763835789423207666416102355444464034512896 % 18446744073709551616 : Nat) : Int)] := rfl
theorem grow33 (w : World) (k g m : Nat) (B : Bs) (hB : B.size = 32) (hc : w.cell? ⟨k, 0, none⟩ = some (.int .u8 (m : Int))) (hH : Holds encB w g 0 B) (hm : m < 256 := by decide) :
    ∃ (w' : World) (cap : Nat), (Builtin.append_ #[32, 32] 32 #[.slice (some ⟨k, 0, none⟩) 1 1, .slice (some ⟨g, 0, none⟩) 32 32]).run Try.prog w = .ok (.slice (some ⟨w.heap.size, 0, none⟩) 33 cap) w' ∧ Below w.heap.size w w' ∧ 33 ≤ cap ∧ w.heap.size < w'.heap.size ∧ Holds encB w' w.heap.size 0 (#[UInt8.ofNat m] ++ B) := by
  obtain ⟨i, hi, hzz⟩ := Option.map_eq_some_iff.1 info5b
  simp only [Prod.mk.injEq] at hzz
  obtain ⟨hz, hs, hb⟩ := hzz
  have hap := run_append_grow (P := Try.prog) w 32 32 5 i (.int .u8 0) und23 hi hz ⟨k, 0, none⟩ 1 1 [.int .u8 (m : Int)] (by rw [hs]; rfl) (fun j v hj => by
      cases j with
      | zero =>
        obtain rfl : Value.int .u8 (m : Int) = v := by simpa using hj
        rw [Addr.add_mid]
        exact hc
      | succ j => simp at hj) ⟨g, 0, none⟩ 32 32 (B.toList.map encB) (by rw [hs, List.length_map, Array.length_toList, hB]) (fun j v hj => by
      have hj' : j < B.size := by
        have := (List.getElem?_eq_some_iff.1 hj).1
        rwa [List.length_map, Array.length_toList] at this
      rw [Addr.add_mid, (hH j hj').1]
      rw [List.getElem?_map, Array.getElem?_toList, Array.getElem?_eq_getElem hj'] at hj
      rw [getElem!_pos B j hj']
      exact hj) (by decide) (by decide) (by rw [hb]; decide)
  refine ⟨_, _, hap, ?_, ?_, ?_, ?_⟩
  · exact (Below.refl _ w).drew.trans (below1 w.drew _)
  · exact grownCap_ge w (1 + 32) 1 5
  · show w.drew.heap.size < (w.drew.alloc _).heap.size
    rw [World.size_alloc]
    exact Nat.lt_succ_self _
  · intro j hj
    have hsz : (#[UInt8.ofNat m] ++ B).size = 33 := by rw [Array.size_append, hB]; rfl
    have hj' : j < 33 := by rw [← hsz]; exact hj
    refine ⟨?_, World.frozen?_alloc_new w.drew _ _ _⟩
    show (w.drew.alloc _).cell? ⟨w.drew.heap.size, 0 + j, none⟩ = _
    rw [Nat.zero_add, World.cell?_alloc_new, getElem!_pos _ j hj, Array.getElem?_append_left (by
      rw [Array.size_append, List.size_toArray, List.size_toArray, List.length_map, Array.length_toList]
      show j < 1 + B.size
      omega)]
    cases j with
    | zero =>
      rw [Array.getElem?_append_left (by simp), Array.getElem_append_left (by simp)]
      show some (Value.int .u8 (m : Int)) = some (encB (UInt8.ofNat m))
      unfold encB
      rw [ub_ofNat, Nat.mod_eq_of_lt hm]
    | succ i =>
      rw [Array.getElem?_append_right (by simp), Array.getElem_append_right (by simp), List.getElem?_toArray, List.getElem?_map, Array.getElem?_toList]
      show Option.map encB B[i]? = some (encB B[i])
      rw [Array.getElem?_eq_getElem (by omega)]
      rfl
end Go.Proofs.Ytonllijkacnbjaa
namespace Go.Proofs.Ytonllijkacnbjaa
open Go.RowKit Go.Sort Go.Deep
theorem u23 : (Try.prog.underlying 32).map (·.isRow) = some false := by kernel_rfl
theorem at46 (k o n c i : Nat) (hi : i < n) (w : World) : (Instr.indexAt 72 (.slice (some ⟨k, o, none⟩) n c) (.int .i64 (i : Int))).run Try.prog w = .ok (.pointer (some ⟨k, o + i, none⟩)) w := by
  have h1 : ¬ (i : Int) < 0 := by omega
  have h2 : (i : Int) < n := by omega
  go_simp
/-- Rows of sz cells: m of them are there. -/
structure Rows (sz N : Nat) (cell : Nat → List Value) (m : Nat) (C : List Value) : Prop where
  len : C.length = sz * N
  row : ∀ j r, j < m → r < sz → C[sz * j + r]? = (cell j)[r]?
theorem Rows.next {sz N m : Nat} {cell : Nat → List Value} {C : List Value} (h : Rows sz N cell m C) (hm : m < N) (hc : (cell m).length = sz) : Rows sz N cell (m + 1) (RG.rep C (0 + sz * m) (cell m)) := by
  have hlen := h.len
  have hb : sz * m + sz ≤ sz * N := by rw [← Nat.mul_succ]; exact Nat.mul_le_mul_left _ hm
  have hl : 0 + sz * m + (cell m).length ≤ C.length := by rw [hc]; omega
  refine ⟨by rw [RG.rep_length hl]; exact hlen, fun j r hj hr => ?_⟩
  rw [RG.rep_at hl]
  by_cases hjm : j = m
  · subst hjm
    rw [if_pos (by rw [hc]; omega), show sz * j + r - (0 + sz * j) = r by omega]
  · have h2 : sz * j + sz ≤ sz * m := by rw [← Nat.mul_succ]; exact Nat.mul_le_mul_left _ (by omega)
    rw [if_neg (by rw [hc]; omega)]
    exact h.row j r (by omega) hr
/-- Bytes as a number of the order. -/
def rq (N : Nat) (bs : Bs) : Option Nat := if bs.size = 32 ∧ beV bs.toList < N then some (beV bs.toList) else none
def rqV : Option Nat → Value
  | none => .tuple #[nv 0, .bool false]
  | some n => .tuple #[nv n, .bool true]
end Go.Proofs.Ytonllijkacnbjaa
namespace Go.Proofs.Ytonllijkacnbjaa
open Go.RowKit Go.Sort Go.Deep
def Texts (w : World) (q : Option Addr) (n : Nat) (S : Nat → ByteArray) : Prop := 0 < n → ∃ gg oo, q = some ⟨gg, oo, none⟩ ∧ gg < w.heap.size ∧ ∀ j, j < n → w.cell? ⟨gg, oo + j, none⟩ = some (.string (S j))
theorem Texts.below {w w1 : World} {q : Option Addr} {n : Nat} {S : Nat → ByteArray} (h : Texts w q n S) (hb : Below w.heap.size w w1) : Texts w1 q n S := fun hn => by
  obtain ⟨gg, oo, h1, h2, h3⟩ := h hn
  exact ⟨gg, oo, h1, Nat.lt_of_lt_of_le h2 hb.size, fun j hj => by rw [hb.cell (p := ⟨gg, oo + j, none⟩) h2]; exact h3 j hj⟩
/-- A list of bytes' slices that grows, each made of a text. -/
def AL (W : World) (B k : Nat) (v : Value) (S : Nat → ByteArray) : Prop :=
  (k = 0 ∧ v = .slice none 0 0) ∨ ∃ g cap vs cur, v = .slice (some ⟨g, 0, none⟩) k cap ∧ vs.length = k ∧ 0 < k ∧ B ≤ g ∧ ListAt W g cap vs cur ∧ ∀ j, j < k → ∃ gx c, vs[j]! = .slice (some ⟨gx, 0, none⟩) (S j).size c ∧ (S j).size ≤ c ∧ gx ≠ g ∧ gx < W.heap.size ∧ Holds encB W gx 0 (S j).data
theorem AL.below {W w1 : World} {B k : Nat} {v : Value} {S : Nat → ByteArray} (h : AL W B k v S) (hb : Below W.heap.size W w1) : AL w1 B k v S := by
  rcases h with h | ⟨g, cap, vs, cur, h1, h2, h3, h4, h5, h6⟩
  · exact Or.inl h
  · refine Or.inr ⟨g, cap, vs, cur, h1, h2, h3, h4, h5.below hb, fun j hj => ?_⟩
    obtain ⟨gx, c, e1, e2, e3, e4, e5⟩ := h6 j hj
    exact ⟨gx, c, e1, e2, e3, Nat.lt_of_lt_of_le e4 hb.size, Holds.below e5 hb e4⟩
theorem Holds.other0 {W w1 : World} {b o m g : Nat} {T : Bs} (h : Holds encB W g 0 T) (k : Only b o m W w1) (hne : g ≠ b) : Holds encB w1 g 0 T := by
  by_cases h0 : 0 < T.size
  · exact Holds.other h k hne h0
  · exact fun j hj => absurd hj (by omega)
theorem AL.push {wr W : World} {B k cap : Nat} {v : Value} {s : ByteArray} {S : Nat → ByteArray} (h : AL wr B k v S) (hB : B ≤ wr.heap.size) (hk : k ≤ 1048576) (hb : Below wr.heap.size wr W) (hlt : wr.heap.size < W.heap.size) (hc : s.size ≤ cap) (hH : Holds encB W wr.heap.size 0 s.data) (hs : s = S k) :
    ∃ v' w', (Builtin.append_ #[72, 72] 72 #[v, .slice (some ⟨W.heap.size, 0, none⟩) 1 1]).run Try.prog (W.alloc (.cells #[.slice (some ⟨wr.heap.size, 0, none⟩) s.size cap] 32)) = .ok v' w' ∧ AL w' B (k + 1) v' S ∧ Below B wr w' := by
  have hr : (W.alloc (.cells #[.slice (some ⟨wr.heap.size, 0, none⟩) s.size cap] 32)).cell? ⟨W.heap.size, 0, none⟩ = some (.slice (some ⟨wr.heap.size, 0, none⟩) s.size cap) := by simp
  have hb0 : Below W.heap.size W (W.alloc (.cells #[.slice (some ⟨wr.heap.size, 0, none⟩) s.size cap] 32)) := (Below.refl _ _).alloc (Nat.le_refl _) _
  have hs0 : (W.alloc (.cells #[.slice (some ⟨wr.heap.size, 0, none⟩) s.size cap] 32)).heap.size = W.heap.size + 1 := by simp
  have hx1 : (Value.slice (some ⟨wr.heap.size, 0, none⟩) s.size cap).oneCell' = true := rfl
  have hb1 : Below wr.heap.size wr (W.alloc (.cells #[.slice (some ⟨wr.heap.size, 0, none⟩) s.size cap] 32)) := hb.trans (hb0.mono (by omega))
  have hH1 := Holds.below hH hb0 hlt
  rcases h with ⟨rfl, rfl⟩ | ⟨g, cp, vs, cur, rfl, h2, h3, h4, h5, h6⟩
  · obtain ⟨cap', cur', w', hap, hL, hb2⟩ := append_firstL slice46 info23 rfl hr hx1
    refine ⟨_, w', hap, Or.inr ⟨_, cap', _, cur', rfl, rfl, by omega, by omega, hL, fun j hj => ?_⟩, (hb1.mono hB).trans (hb2.mono (by omega))⟩
    have hj0 : j = 0 := by omega
    subst hj0
    have := hb2.size
    exact ⟨wr.heap.size, cap, by rw [← hs]; rfl, by rw [← hs]; exact hc, by omega, by omega, by rw [← hs]; exact Holds.below hH1 hb2 (by omega)⟩
  · have hg := h5.lt
    have h5' := h5.below hb1
    subst h2
    obtain ⟨g', cap', cur', w', hap, hL, hO, hg'⟩ := append_valL slice46 info23 rfl h5' hr hx1 hk
    have hsz := hO.size
    refine ⟨_, w', hap, Or.inr ⟨g', cap', _, cur', rfl, by rw [List.length_append]; rfl, by omega, by omega, hL, fun j hj => ?_⟩, (hb1.mono hB).trans (hO.below (by omega) h4)⟩
    by_cases hj1 : j = vs.length
    · subst hj1
      rw [val_last, ← hs]
      exact ⟨wr.heap.size, cap, rfl, hc, by omega, by omega, Holds.other0 hH1 hO (by omega)⟩
    · obtain ⟨gy, d, e1, e2, e3, e4, e5⟩ := h6 j (by omega)
      rw [val_front _ _ _ (by omega)]
      exact ⟨gy, d, e1, e2, by omega, by omega, Holds.other0 (Holds.below e5 hb1 e4) hO e3⟩
end Go.Proofs.Ytonllijkacnbjaa
namespace Go.Proofs.Ytonllijkacnbjaa
open Go.RowKit Go.Sort Go.Deep
def sumB (S : Nat → ByteArray) : Nat → Nat
  | 0 => 0
  | i + 1 => sumB S i + (S i).size
theorem sumB_le (S : Nat → ByteArray) {m : Nat} (h : ∀ j, j < m → (S j).size ≤ 140737488355328) : ∀ i, i ≤ m → sumB S i ≤ 140737488355328 * i
  | 0, _ => Nat.le_refl _
  | i + 1, hi => by
    have h1 := sumB_le S h i (by omega)
    have h2 := h i (by omega)
    rw [sumB, Nat.mul_succ]
    omega
theorem sumB_at (S : Nat → ByteArray) : ∀ {m i : Nat}, i < m → (S i).size ≤ sumB S m
  | m + 1, i, h => by
    rw [sumB]
    by_cases e : i = m
    · subst e; omega
    · have := sumB_at S (show i < m by omega); omega
theorem conv_a (w : World) : SP.PartOk (w.alloc (.cells #[.int .u8 97] 5 (1, 2))) (.slice (some ⟨w.heap.size, 0, none⟩) 1 1) [97] := by
  have hh : (w.alloc (.cells #[.int .u8 97] 5 (1, 2))).heap[w.heap.size]? = some (.cells #[.int .u8 97] 5 (1, 2)) := Array.getElem?_push_size
  refine ⟨_, w.heap.size, 0, 1, #[97], rfl, rfl, Nat.le_refl _, by decide, Or.inr ⟨rfl, fun j hj => ?_⟩⟩
  obtain rfl : j = 0 := by simpa using hj
  exact ⟨by unfold World.cell?; simp only [hh]; rfl, by unfold World.frozen?; simp only [hh]; rfl⟩
theorem idxS (gg oo m c i : Nat) (hi : i < m) (w : World) : (Instr.indexAt 38 (.slice (some ⟨gg, oo, none⟩) m c) (.int .i64 (i : Int))).run Try.prog w = .ok (.pointer (some ⟨gg, oo + i, none⟩)) w := by
  have h1 : ¬ (i : Int) < 0 := by omega
  have h2 : (i : Int) < (m : Int) := by omega
  go_simp
def kb (K : List ByteArray) : List (List UInt8) := K.map fun s => s.data.toList
/-- What is kept while texts are added to the journal. -/
structure LB (w0 W : World) (b : Nat) (v : Value) (K : List ByteArray) (n : Nat) (j : Jr) (X : Nat → Prop) : Prop where
  bl : Below w0.heap.size w0 W
  st : PSj X W b j
  xb : ∀ k, X k → w0.heap.size ≤ k
  ji : JI j (kb K) n
  kw : W.ownsRow 0 9 1 v K.length (strV K)
  kx : ∀ k, v.ownBlock = some k → w0.heap.size ≤ k ∧ ¬ X k
theorem kb_app (K : List ByteArray) (s : ByteArray) : kb (K ++ [s]) = kb K ++ [s.data.toList] := by unfold kb; rw [List.map_append]; rfl
theorem kb_len (K : List ByteArray) : (kb K).length = K.length := List.length_map _
theorem LB.below {w0 W W' : World} {b : Nat} {v : Value} {K : List ByteArray} {n : Nat} {j : Jr} {X : Nat → Prop} (h : LB w0 W b v K n j X) (hb : Below W.heap.size W W') : LB w0 W' b v K n j X := by
  obtain ⟨u1, u2, hu⟩ := h.st
  exact ⟨h.bl.trans (hb.mono h.bl.size), ⟨u1, u2, hu.below hb⟩, h.xb, h.ji, own_below h.kw hb, h.kx⟩
/-- Behind an Add. -/
theorem LB.add {w0 W W' : World} {b : Nat} {v : Value} {K : List ByteArray} {n : Nat} {j : Jr} {X : Nat → Prop} (h : LB w0 W b v K n j X) (s : ByteArray) (hl : Lv X W b (j.add s.data.toList).2 W') :
    ∃ X', ((j.add s.data.toList).1 ≠ 0 → LB w0 W' b v K (n + s.size + 12) (j.add s.data.toList).2 X') ∧ ((j.add s.data.toList).1 = 0 → PSj X' W' b (j.add s.data.toList).2 ∧ JI (j.add s.data.toList).2 (kb (K ++ [s])) (n + s.size + 12) ∧ Below w0.heap.size w0 W' ∧ (∀ k, X' k → w0.heap.size ≤ k) ∧ W'.ownsRow 0 9 1 v K.length (strV K) ∧ (∀ k, v.ownBlock = some k → w0.heap.size ≤ k ∧ ¬ X' k)) := by
  obtain ⟨hf, X', hX', hP⟩ := hl
  have hji := h.ji.add s.data.toList
  have hsz : s.data.toList.length = s.size := Array.length_toList
  rw [hsz] at hji
  have hbl : Below w0.heap.size w0 W' := h.bl.trans (hf.below h.xb h.bl.size)
  have hxb : ∀ k, X' k → w0.heap.size ≤ k := fun k hk => by
    rcases hX' k hk with e | e
    · exact h.xb k e
    · exact Nat.le_trans h.bl.size e
  have hkw : W'.ownsRow 0 9 1 v K.length (strV K) := own_at h.kw (fun k hk => hf.block k (h.kw.lt k hk).2 (h.kx k hk).2)
  have hkx : ∀ k, v.ownBlock = some k → w0.heap.size ≤ k ∧ ¬ X' k := fun k hk => ⟨(h.kx k hk).1, fun hx => by
    rcases hX' k hx with e | e
    · exact (h.kx k hk).2 e
    · have := (h.kw.lt k hk).2; omega⟩
  refine ⟨X', fun hne => ?_, fun h0 => ?_⟩
  · rw [if_neg hne] at hji
    exact ⟨hbl, hP, hxb, hji, hkw, hkx⟩
  · rw [if_pos h0, ← kb_app] at hji
    exact ⟨hP, hji, hbl, hxb, hkw, hkx⟩
theorem psj_grown {X : Nat → Prop} {A B : World} {b : Nat} {j : Jr} {row : Option Nat} (h : PSj X A b j) (hg : A.grownBy B row) (hr : ∀ k, row = some k → ¬ X k) : PSj X B b j := by
  obtain ⟨u1, u2, hu⟩ := h
  exact ⟨u1, u2, hu.kept hg.size (fun k hk => hg.block k (hu.ins k hk) (fun e => hr k e.symm hk))⟩
theorem own_partD {B n : Nat} {w : World} {v : Value} {x : List UInt8} (h : w.ownsRow B 5 1 v n (cbs x)) (hn : n ≤ 1099511627776) : ∃ q c db, v = .slice q n c ∧ (q = none ∨ db < w.heap.size) ∧ PartD db w v x := by
  have hp := own_part h hn
  rcases id h with ⟨-, ⟨rfl, h0⟩ | ⟨g, cap, cur, rfl, -⟩⟩
  · subst h0
    exact ⟨none, 0, 0, rfl, Or.inl rfl, Or.inl ⟨rfl, List.length_eq_zero_iff.1 hp.2⟩⟩
  · exact ⟨some ⟨g, 0, none⟩, cap, g, rfl, Or.inr (h.lt g rfl).2, Or.inr ⟨0, n, cap, rfl, hp.1⟩⟩
/-- Disk, and Open of what it tells: the records. -/
structure LC (w0 W : World) (b : Nat) (v : Value) (K : List ByteArray) (left : Nat) (X : Nat → Prop) : Prop where
  bl : Below w0.heap.size w0 W
  st : PSj X W b (jF (kb K) 1048576 left)
  xb : ∀ k, X k → w0.heap.size ≤ k
  small : ∀ r ∈ kb K, r.length ≤ 16384
  kw : W.ownsRow 0 9 1 v K.length (strV K)
  kx : ∀ k, v.ownBlock = some k → w0.heap.size ≤ k ∧ ¬ X k
set_option maxHeartbeats 4000000 in
set_option maxRecDepth 100000 in
theorem storeT_core (q : Option Addr) (m c : Nat) (S : Nat → ByteArray) (n : Int) (more : ByteArray) (w0 : World) (hn : -9223372036854775808 ≤ n ∧ n ≤ 9223372036854775807) (hm : m ≤ 140737488355328) (hmo : more.size ≤ 140737488355328) (hS : ∀ j, j < m → (S j).size ≤ 140737488355328) (hL : Texts w0 q m S) :
    Calls Try.prog 4 #[.slice q m c, .int .i64 n, .string more] w0 fun e w' => e = .returned (.bool true) ∧ Below w0.heap.size w0 w' := by
  have HL := Hid.mk2 hL
  have HS := Hid.mk2 hS
  clear hL hS
  have hN : Calls Try.prog 5 #[.int .i64 64] w0 (Ret (NewR w0 64)) := new_y 64 (by decide) (by decide) w0
  go_enter Try.func4, Try.ntmps4
  go_wp2_with fail
  refine hN.mono ?_
  rintro e w1 ⟨v1, rfl, hb1, b, rfl, hbb, hP1⟩
  have hcv := Lib.run_convert_bytes_const (P := Try.prog) w1 32 5 #[.int .u8 97] 1 1 undU SP.int5
  have hb2 : Below w1.heap.size w1 (w1.alloc (.cells #[.int .u8 97] 5 (1, 2))) := (Below.refl _ _).alloc (Nat.le_refl _) _
  have hj1 : PSj (fun k => k = b) (w1.alloc (.cells #[.int .u8 97] 5 (1, 2))) b (jF [] 64 64) := ⟨_, _, hP1.below hb2⟩
  have hA := add_c (jF_ok [] 64 64 (by decide) (by decide) (by decide) (by decide)) (some ⟨w1.heap.size, 0, none⟩) 1 1 [97] (conv_a w1) (by decide) hj1
  rw [add_fr [] 64 64 [97] (by decide) (by decide) (by decide)] at hA
  have K1 : Hid (Below w0.heap.size w0 (w1.alloc (.cells #[.int .u8 97] 5 (1, 2))) ∧ w0.heap.size ≤ b) := ⟨hb1.trans (hb2.mono hb1.size), hbb⟩
  clear hb1 hb2 hP1 hj1 hN hbb
  go_wp2_with fail
  refine hA.mono ?_
  rintro e w3 ⟨v3, rfl, rfl, hf3, Y, hY, hP3⟩
  have HKR : Hid (recB (jF [[97]] 64 (64 - 13)) 0 = [97]) := rec_fr 64 (64 - 13) false [[97]] 0 (by decide)
  have hR : Calls Try.prog 16 #[.pointer (some ⟨b, 0, none⟩), .int .i64 0] w3 (Ret (RecR w3 (jF [[97]] 64 (64 - 13)) 0)) := record_c (jF_ok [[97]] 64 (64 - 13) (by decide) (by decide) (by rw [fr_cons, fr_nil, List.append_nil, frameB_len]; decide) (by decide)) 0 hP3
  have K3 : Hid (Below w0.heap.size w0 w3 ∧ PSj Y w3 b (jF [[97]] 64 (64 - 13))) := ⟨K1.out.1.trans (hf3.below (B := w0.heap.size) (fun k hk => by rw [hk]; exact K1.out.2) K1.out.1.size), hP3⟩
  clear hf3 hY hP3 hA hcv K1
  go_wp2_with fail
  refine hR.mono ?_
  rintro e w4 ⟨v4, rfl, hb4, hv4⟩
  obtain ⟨vx, rfl, hox⟩ : ∃ v, v4 = .tuple #[v, .int .i64 0] ∧ w4.ownsRow w3.heap.size 5 1 v 1 (cbs [97]) := by
    rcases hv4 with ⟨h, -⟩ | ⟨-, v, h1, h2⟩
    · exact absurd ⟨by decide, by show (0 : Int) < ((extF [[97]] 1).length : Int); rw [extF_len]; decide⟩ h
    · refine ⟨v, h1, ?_⟩
      rw [show (0 : Int).toNat = 0 from rfl, HKR.out] at h2
      exact h2
  obtain ⟨u1, u2, hU⟩ := K3.out.2
  have hLn := len_c (hU.below hb4)
  have hel : ((jF [[97]] 64 (64 - 13)).E.length : Int) = 1 := by show ((extF [[97]] 1).length : Int) = 1; rw [extF_len]; rfl
  rw [hel] at hLn
  obtain ⟨qx, cx, rfl, -⟩ := own_slice hox
  have hcx := part_conv (b := #[97]) (own_part hox (by decide)).1
  have K4 : Hid (Below w0.heap.size w0 w4) := K3.out.1.trans (hb4.mono K3.out.1.size)
  clear hv4 hox hU hb4 K3 hR hel HKR
  go_wp2_with fail
  refine hLn.mono ?_
  rintro e w5 ⟨v5, rfl, rfl, rfl⟩
  clear hLn hcx
  go_wp2_with fail
  go_loopg [12, 13] m (fun g s12 s13 W => ∃ (i : Nat) (t : Int), i + g = m ∧ s12 = .int .i64 t ∧ s13 = .int .i64 (i : Int) ∧ w4 = W ∧ Hid (m ≤ 64 → t = ((more.size + sumB S i : Nat) : Int)))
  case atStart => exact ⟨0, _, by omega, rfl, rfl, rfl, fun _ => rfl⟩
  case round =>
    obtain ⟨i, t, hig, rfl, rfl, rfl, HT⟩ := hrel
    by_cases hi : i < m
    · have hi' : (i : Int) < (m : Int) := by omega
      obtain ⟨gg, oo, rfl, hgg, hc0⟩ := HL.out (by omega)
      have hcS : w4.cell? ⟨gg, oo + i, none⟩ = some (.string (S i)) := by rw [K4.out.cell (p := ⟨gg, oo + i, none⟩) hgg]; exact hc0 i hi
      have hix := idxS gg oo m c i hi
      have HT' : Hid (m ≤ 64 → IntKind.i64.wrap (t + ((S i).size : Int)) = ((more.size + sumB S (i + 1) : Nat) : Int)) := fun h64 => by
        have h1 := HT.out h64
        have h2 := sumB_le S HS.out (i + 1) (by omega)
        rw [sumB] at h2 ⊢
        rw [IntKind.wrap_i64, h1]
        omega
      clear hc0 hgg HT
      obtain ⟨t', ht'⟩ : ∃ t', IntKind.i64.wrap (t + ((S i).size : Int)) = t' := ⟨_, rfl⟩
      rw [ht'] at HT'
      generalize S i = s at *
      go_wp2
      go_roundg (gk - 1)
      case measure => omega
      case rel => exact ⟨i + 1, t', by omega, rfl, rfl, rfl, HT'⟩
    · have hi' : ¬ (i : Int) < (m : Int) := by omega
      obtain rfl : i = m := by omega
      by_cases h64 : i ≤ 64
      · have ht := HT.out h64
        have g64 : ¬ (64 : Int) < (i : Int) := by omega
        by_cases hto : more.size + sumB S i ≤ 65536
        · have gto : ¬ (65536 : Int) < t := by omega
          by_cases hmm : more.size ≤ 16384
          · have gmm : ¬ (16384 : Int) < (more.size : Int) := by omega
            clear ht HT
            have hN : Calls Try.prog 5 #[.int .i64 1048576] w4 (Ret (NewR w4 1048576)) := new_y 1048576 (by decide) (by decide) w4
            go_wp2_with fail
            refine hN.mono ?_
            rintro e w6 ⟨v6, rfl, hb6, b2, rfl, hbb2, hP6⟩
            have hAr := arm_c n hP6
            have K6 : Hid (Below w0.heap.size w0 w6 ∧ w0.heap.size ≤ b2) := ⟨K4.out.trans (hb6.mono K4.out.size), Nat.le_trans K4.out.size hbb2⟩
            clear hN hb6 hbb2 hP6 K4
            go_wp2_with fail
            refine hAr.mono ?_
            rintro e w7 ⟨rfl, hf7, hP7⟩
            have hok0 : (⟨[], [], 1048576, armL 1048576 n, false⟩ : Jr).Ok := Jr.arm_ok (j := ⟨[], [], 1048576, 1048576, false⟩) ⟨by decide, by decide, by decide, by decide, by decide, fun p hp => by cases hp⟩ n hn.2
            have K7 : Hid (LB w0 w7 b2 (.slice none 0 0) [] (sumB S 0 + 12 * 0) ⟨[], [], 1048576, armL 1048576 n, false⟩ (fun k => k = b2)) :=
              ⟨K6.out.1.trans (hf7.below (fun k hk => by rw [hk]; exact K6.out.2) K6.out.1.size), ⟨_, _, hP7⟩, fun k hk => by rw [hk]; exact K6.out.2, ⟨hok0, rfl, fun r hr => (by cases hr), rfl, Nat.zero_le _, [], rfl, frs_nil _, fun _ => rfl⟩, World.ownsRow_nil _ _ _ _, fun k hk => (by cases hk)⟩
            clear hAr hf7 hP7 K6 hok0
            go_wp2_with fail
            go_loopg [15, 16] i (fun g s15 s16 W => ∃ (i2 : Nat) (K : List ByteArray) (j : Jr) (X : Nat → Prop), i2 + g = i ∧ s16 = .int .i64 (i2 : Int) ∧ K.length ≤ i2 ∧ Hid (LB w0 W b2 s15 K (sumB S i2 + 12 * i2) j X))
            case atStart => exact ⟨0, [], _, _, by omega, rfl, Nat.zero_le _, K7⟩
            case round =>
              clear K7
              obtain ⟨i2, K, j, X, hig2, rfl, hK2, KM⟩ := hrel
              by_cases hi2 : i2 < i
              · have hi2' : (i2 : Int) < (i : Int) := by omega
                obtain ⟨gg, oo, rfl, hgg, hc0⟩ := HL.out (by omega)
                have hcS : wr.cell? ⟨gg, oo + i2, none⟩ = some (.string (S i2)) := by rw [KM.out.bl.cell (p := ⟨gg, oo + i2, none⟩) hgg]; exact hc0 i2 hi2
                have hix := idxS gg oo i c i2 hi2
                obtain ⟨cap1, wc, hcv1, hcc1, hbc, hHc, hltc⟩ := conv_of (S i2) wr
                have hs16 : (S i2).size ≤ 65536 := by have := sumB_at S hi2; omega
                have hpart : SP.PartOk wc (.slice (some ⟨wr.heap.size, 0, none⟩) (S i2).size cap1) (S i2).data.toList := ⟨_, wr.heap.size, 0, cap1, (S i2).data, rfl, rfl, hcc1, Nat.le_trans hs16 (by decide), Or.inr ⟨rfl, hHc⟩⟩
                have hLc := KM.out.below hbc
                have hA := add_c hLc.ji.ok (some ⟨wr.heap.size, 0, none⟩) (S i2).size cap1 (S i2).data.toList hpart (by omega) hLc.st
                have HC0 : Hid (gg < w0.heap.size ∧ w0.cell? ⟨gg, oo + i2, none⟩ = some (.string (S i2))) := ⟨hgg, hc0 i2 hi2⟩
                have hstep := fun W' => hLc.add (S i2) (W' := W')
                have hsum : sumB S i2 + 12 * i2 + (S i2).size + 12 = sumB S (i2 + 1) + 12 * (i2 + 1) := by rw [sumB]; omega
                rw [hsum] at hstep
                have HST := Hid.mk2 hstep
                clear hstep hsum hLc hpart hHc hltc hbc hcc1 hc0 hs16 KM
                obtain ⟨ee, hee⟩ : ∃ ee, Hid ((j.add (S i2).data.toList).1 = ee) := ⟨_, rfl⟩
                obtain ⟨j', hj'⟩ : ∃ j', Hid ((j.add (S i2).data.toList).2 = j') := ⟨_, rfl⟩
                rw [hee.out, hj'.out] at hA HST
                clear hee hj'
                generalize hsv : S i2 = s at *
                clear hsv
                by_cases h0 : ee = 0
                · subst h0
                  go_wp2_with fail
                  refine hA.mono ?_
                  rintro e w8 ⟨v8, rfl, rfl, hLv⟩
                  obtain ⟨X', -, hX'⟩ := HST.out w8 hLv
                  obtain ⟨x1, x2, x3, x4, x5, x6⟩ := hX' trivial
                  have hcS8 : w8.cell? ⟨gg, oo + i2, none⟩ = some (.string s) := by rw [x3.cell (p := ⟨gg, oo + i2, none⟩) HC0.out.1]; exact HC0.out.2
                  have hba : Below w8.heap.size w8 (w8.alloc (.cells #[.string s] 9)) := (Below.refl _ _).alloc (Nat.le_refl _) _
                  obtain ⟨q9, n9, c9, w9, r1, r2, r3, r4⟩ := app_str (own_below x5 hba) s (by omega) (r := w8.heap.size) ((RG.Made.alloc w8 [.string s] 9).range 0 _ rfl)
                  have HAP : Hid ((Builtin.append_ #[38, 38] 38 #[u15, .slice (some ⟨w8.heap.size, 0, none⟩) 1 1]).run Try.prog (w8.alloc (.cells #[.string s] 9)) = .ok (.slice q9 n9 c9) w9) := r1
                  have hins : ∀ k, X' k → k < w8.heap.size := by obtain ⟨z1, z2, hz⟩ := x1; exact hz.ins
                  have K9 : Hid (LB w0 w9 b2 (.slice q9 n9 c9) (K ++ [s]) (sumB S (i2 + 1) + 12 * (i2 + 1)) j' X') := by
                    have hb9 : Below w0.heap.size w0 w9 := (x3.trans (hba.mono x3.size)).grown r3 (Nat.le_trans x3.size hba.size) (fun k hk => (x6 k hk).1)
                    have hPa : PSj X' (w8.alloc (.cells #[.string s] 9)) b2 j' := by obtain ⟨z1, z2, hz⟩ := x1; exact ⟨z1, z2, hz.below hba⟩
                    refine ⟨hb9, psj_grown hPa r3 (fun k hk => (x6 k hk).2), x4, x2, r2, fun k hk => ?_⟩
                    rcases r4 with e | e
                    · rw [e] at hk; exact x6 k hk
                    · rw [e] at hk
                      obtain rfl := Option.some.inj hk
                      rw [World.size_alloc]
                      exact ⟨by have := x3.size; omega, fun hx => by have := hins _ hx; omega⟩
                  obtain ⟨q15, c15, hq15, -⟩ := own_slice x5
                  have hKl : (K ++ [s]).length ≤ i2 + 1 := by rw [List.length_append, List.length_singleton]; omega
                  clear hLv hX' hA HST hcS hcv1 x1 x2 x3 x4 x5 x6 hba r1 r2 r3 r4 hins HC0
                  subst hq15
                  go_wp2_with (at_builtin; refine Lib.wpList_append_run _ rfl _ _ _ _ rfl _ _ rfl rfl _ _ HAP.out ?_)
                  go_roundg (gk - 1)
                  case measure => omega
                  case rel => exact ⟨i2 + 1, K ++ [s], j', X', by omega, rfl, hKl, K9⟩
                · have he1 : ¬ (ee : Int) = 0 := by omega
                  have he0 : ((ee : Int) == 0) = false := by simpa using he1
                  go_wp2_with fail
                  refine hA.mono ?_
                  rintro e w8 ⟨v8, rfl, rfl, hLv⟩
                  obtain ⟨X', hX', -⟩ := HST.out w8 hLv
                  have K8 : Hid (LB w0 w8 b2 u15 K (sumB S (i2 + 1) + 12 * (i2 + 1)) j' X') := hX' h0
                  clear hLv hX' hA HST hcS hcv1
                  go_wp2
                  go_roundg (gk - 1)
                  case measure => omega
                  case rel => exact ⟨i2 + 1, K, j', X', by omega, rfl, by omega, K8⟩
              · have hi2' : ¬ (i2 : Int) < (i : Int) := by omega
                obtain rfl : i2 = i := by omega
                have hBl : j.B.length ≤ 66304 := by have := KM.out.ji.le; omega
                obtain ⟨z1, z2, hZ⟩ := KM.out.st
                have hDk := disk_c (by omega) hZ
                obtain ⟨p, hBp, hpn, -⟩ := KM.out.ji.is
                have hfrl : (fr 0 (kb K)).length ≤ 66304 := by
                  have h := congrArg List.length hBp
                  rw [List.length_append] at h
                  omega
                have hop := open_fr 1048576 (kb K) p KM.out.ji.small hpn (by omega)
                rw [← hBp] at hop
                obtain ⟨q15, c15, hq15, -⟩ := own_slice KM.out.kw
                have HOP : Hid (openJ 1048576 j.B = jF (kb K) 1048576 (1048576 - (fr 0 (kb K)).length)) := hop
                have HFL := Hid.mk2 hfrl
                clear hZ hBp hpn hop
                subst hq15
                go_wp2_with fail
                refine hDk.mono ?_
                rintro e w9 ⟨v9, rfl, hb9, ho9⟩
                obtain ⟨q9, c9, db9, rfl, hd9, hPD9⟩ := own_partD ho9 (by omega)
                have hOp : Calls Try.prog 18 #[.slice q9 j.B.length c9, .int .i64 1048576] w9 (Ret (OpenR w9 1048576 j.B)) := open_y 1048576 (by decide) (by decide) q9 j.B.length c9 j.B w9 db9 hd9 hPD9 (by omega)
                have KM9 := Hid.mk2 (KM.out.below hb9)
                clear hDk hb9 ho9 hd9 hPD9 KM
                generalize hjl : j.B.length = jl at hOp hBl ⊢
                clear hjl
                go_wp2_with fail
                refine hOp.mono ?_
                rintro e w10 ⟨v10, rfl, hb10, b3, X3, rfl, hX3, hP10⟩
                rw [HOP.out] at hP10
                have KN : Hid (LC w0 w10 b3 (.slice q15 K.length c15) K (1048576 - (fr 0 (kb K)).length) X3) := by
                  have h9 := KM9.out
                  refine ⟨h9.bl.trans (hb10.mono h9.bl.size), hP10, fun k hk => Nat.le_trans h9.bl.size (hX3 k hk), h9.ji.small, own_below h9.kw hb10, fun k hk => ⟨(h9.kx k hk).1, fun hx => ?_⟩⟩
                  have h1 := hX3 k hx
                  have h2 := (h9.kw.lt k hk).2
                  omega
                clear hb10 hX3 hP10 hOp KM9 HOP
                obtain ⟨z1, z2, hZ⟩ := KN.out.st
                have hLn := len_c hZ
                have hEl : (jF (kb K) 1048576 (1048576 - (fr 0 (kb K)).length)).E.length = K.length := by show (extF (kb K) (kb K).length).length = _; rw [extF_len, kb_len]
                rw [hEl] at hLn
                clear hZ hEl
                go_wp2_with fail
                refine hLn.mono ?_
                rintro e w11 ⟨v11, rfl, rfl, rfl⟩
                clear hLn
                obtain ⟨capm, wc, hcvm, hccm, hbc, hHc, hltc⟩ := conv_of more w10
                have hpart : SP.PartOk wc (.slice (some ⟨w10.heap.size, 0, none⟩) more.size capm) more.data.toList := ⟨_, w10.heap.size, 0, capm, more.data, rfl, rfl, hccm, Nat.le_trans hmm (by decide), Or.inr ⟨rfl, hHc⟩⟩
                have hPc : PSj X3 wc b3 (jF (kb K) 1048576 (1048576 - (fr 0 (kb K)).length)) := by obtain ⟨y1, y2, hy⟩ := KN.out.st; exact ⟨y1, y2, hy.below hbc⟩
                have hmsz : more.data.toList.length = more.size := Array.length_toList
                have hfl := HFL.out
                have hA := add_c (jF_ok (kb K) 1048576 (1048576 - (fr 0 (kb K)).length) (by decide) (by decide) (by omega) (by omega)) (some ⟨w10.heap.size, 0, none⟩) more.size capm more.data.toList hpart (by omega) hPc
                rw [add_fr (kb K) 1048576 (1048576 - (fr 0 (kb K)).length) more.data.toList (by omega) (by omega) (by omega), ← kb_app] at hA
                obtain ⟨lf2, hlf2⟩ : ∃ lf2, Hid (1048576 - (fr 0 (kb K)).length - (more.data.toList.length + 12) = lf2) := ⟨_, rfl⟩
                rw [hlf2.out] at hA
                have HL2 : Hid (lf2 ≤ 1048576 ∧ (fr 0 (kb (K ++ [more]))).length ≤ 100000) := by
                  refine ⟨by rw [← hlf2.out]; omega, ?_⟩
                  rw [kb_app, fr_snoc, List.length_append, frameB_len, hmsz]
                  omega
                have KC : Hid (LC w0 wc b3 (.slice q15 K.length c15) K (1048576 - (fr 0 (kb K)).length) X3) := ⟨KN.out.bl.trans (hbc.mono KN.out.bl.size), hPc, KN.out.xb, KN.out.small, own_below KN.out.kw hbc, KN.out.kx⟩
                clear hPc hpart hHc hltc hccm hbc KN hfl hlf2
                go_wp2_with fail
                refine hA.mono ?_
                rintro e w12 ⟨v12, rfl, rfl, hf12, X4, hX4, hP12⟩
                have hbl12 : Below w0.heap.size w0 w12 := KC.out.bl.trans (hf12.below KC.out.xb KC.out.bl.size)
                have hkw12 : w12.ownsRow 0 9 1 (.slice q15 K.length c15) K.length (strV K) := own_at KC.out.kw (fun k hk => hf12.block k (KC.out.kw.lt k hk).2 (KC.out.kx k hk).2)
                have hkx12 : ∀ k, (Value.slice q15 K.length c15).ownBlock = some k → w0.heap.size ≤ k ∧ ¬ X4 k := fun k hk => ⟨(KC.out.kx k hk).1, fun hx => by
                  rcases hX4 k hx with e | e
                  · exact (KC.out.kx k hk).2 e
                  · have := (KC.out.kw.lt k hk).2; omega⟩
                have hxb12 : ∀ k, X4 k → w0.heap.size ≤ k := fun k hk => by
                  rcases hX4 k hk with e | e
                  · exact KC.out.xb k e
                  · exact Nat.le_trans KC.out.bl.size e
                have hba : Below w12.heap.size w12 (w12.alloc (.cells #[.string more] 9)) := (Below.refl _ _).alloc (Nat.le_refl _) _
                obtain ⟨q13, n13, c13, w13, r1, r2, r3, r4⟩ := app_str (own_below hkw12 hba) more (by omega) (r := w12.heap.size) ((RG.Made.alloc w12 [.string more] 9).range 0 _ rfl)
                have HAP : Hid ((Builtin.append_ #[38, 38] 38 #[.slice q15 K.length c15, .slice (some ⟨w12.heap.size, 0, none⟩) 1 1]).run Try.prog (w12.alloc (.cells #[.string more] 9)) = .ok (.slice q13 n13 c13) w13) := r1
                have hn13 : n13 = (K ++ [more]).length := by
                  obtain ⟨qq, cc, h, -⟩ := own_slice r2
                  injection h
                have hins : ∀ k, X4 k → k < w12.heap.size := by obtain ⟨y1, y2, hy⟩ := hP12; exact hy.ins
                have K13 : Hid (LC w0 w13 b3 (.slice q13 n13 c13) (K ++ [more]) lf2 X4) := by
                  have hPa : PSj X4 (w12.alloc (.cells #[.string more] 9)) b3 (jF (kb (K ++ [more])) 1048576 lf2) := by obtain ⟨y1, y2, hy⟩ := hP12; exact ⟨y1, y2, hy.below hba⟩
                  refine ⟨(hbl12.trans (hba.mono hbl12.size)).grown r3 (Nat.le_trans hbl12.size hba.size) (fun k hk => (hkx12 k hk).1), psj_grown hPa r3 (fun k hk => (hkx12 k hk).2), hxb12, ?_, r2, fun k hk => ?_⟩
                  · intro r hr
                    rw [kb_app] at hr
                    rcases List.mem_append.1 hr with hr | hr
                    · exact KC.out.small r hr
                    · rw [List.mem_singleton.1 hr, hmsz]; exact hmm
                  · rcases r4 with e | e
                    · rw [e] at hk; exact hkx12 k hk
                    · rw [e] at hk
                      obtain rfl := Option.some.inj hk
                      rw [World.size_alloc]
                      exact ⟨by have := hbl12.size; omega, fun hx => by have := hins _ hx; omega⟩
                clear hbl12 hkw12 hkx12 hxb12 hba r1 r2 r3 r4 hins hA hf12 hX4 hP12 KC hcvm hmsz
                have hkl : Hid ((K ++ [more]).length ≤ 1000) := by
                  show _ ≤ _
                  rw [List.length_append, List.length_singleton]
                  omega
                generalize hK2 : K ++ [more] = K2 at K13 HL2 hn13 hkl
                clear hK2
                subst hn13
                go_wp2_with (at_builtin; refine Lib.wpList_append_run _ rfl _ _ _ _ rfl _ _ rfl rfl _ _ HAP.out ?_)
                obtain ⟨y1, y2, hY3⟩ := K13.out.st
                have hLn := len_c hY3
                have hDk := disk_c (by have := HL2.out.2; show (fr 0 (kb K2)).length ≤ _; omega) hY3
                have hEl : (jF (kb K2) 1048576 lf2).E.length = K2.length := by show (extF (kb K2) (kb K2).length).length = _; rw [extF_len, kb_len]
                rw [hEl] at hLn
                have hBB : (jF (kb K2) 1048576 lf2).B = fr 0 (kb K2) := rfl
                rw [hBB] at hDk
                have hop := open_fr 1048576 (kb K2) [] K13.out.small (frs_nil _) (by have := HL2.out.2; omega)
                rw [List.append_nil] at hop
                have HOP : Hid (openJ 1048576 (fr 0 (kb K2)) = jF (kb K2) 1048576 (1048576 - (fr 0 (kb K2)).length)) := hop
                obtain ⟨xs, hxs⟩ : ∃ xs, Hid (fr 0 (kb K2) = xs) := ⟨_, rfl⟩
                rw [hxs.out] at hDk HOP
                have hxl : xs.length ≤ 100000 := by rw [← hxs.out]; exact HL2.out.2
                clear hY3 hEl hop hBB HAP
                refine hLn.mono ?_
                rintro e w14 ⟨v14, rfl, rfl, rfl⟩
                clear hLn
                go_wp2_with fail
                refine hDk.mono ?_
                rintro e w15 ⟨v15, rfl, hb15, ho15⟩
                obtain ⟨q15', c15', db15, rfl, hd15, hPD15⟩ := own_partD ho15 (by omega)
                have hOp : Calls Try.prog 18 #[.slice q15' xs.length c15', .int .i64 1048576] w15 (Ret (OpenR w15 1048576 xs)) := open_y 1048576 (by decide) (by decide) q15' xs.length c15' xs w15 db15 hd15 hPD15 (by omega)
                have KM15 : Hid (Below w0.heap.size w0 w15 ∧ w15.ownsRow 0 9 1 (.slice q13 K2.length c13) K2.length (strV K2) ∧ (∀ k, (Value.slice q13 K2.length c13).ownBlock = some k → w0.heap.size ≤ k) ∧ ∀ r ∈ kb K2, r.length ≤ 16384) := ⟨K13.out.bl.trans (hb15.mono K13.out.bl.size), own_below K13.out.kw hb15, fun k hk => (K13.out.kx k hk).1, K13.out.small⟩
                clear hDk hb15 ho15 hd15 hPD15 K13
                generalize hjl : xs.length = jl at hOp hxl ⊢
                clear hjl
                go_wp2_with fail
                refine hOp.mono ?_
                rintro e w16 ⟨v16, rfl, hb16, b4, X5, rfl, hX5, hP16⟩
                rw [HOP.out] at hP16
                have K16 : Hid (LC w0 w16 b4 (.slice q13 K2.length c13) K2 (1048576 - xs.length) X5) := by
                  obtain ⟨h1, h2, h3, h4⟩ := KM15.out
                  refine ⟨h1.trans (hb16.mono h1.size), hP16, fun k hk => Nat.le_trans h1.size (hX5 k hk), h4, own_below h2 hb16, fun k hk => ⟨h3 k hk, fun hx => ?_⟩⟩
                  have e1 := hX5 k hx
                  have e2 := (h2.lt k hk).2
                  omega
                clear hb16 hX5 hP16 hOp KM15 HOP
                obtain ⟨y1, y2, hY4⟩ := K16.out.st
                have hLn := len_c hY4
                have hEl : (jF (kb K2) 1048576 (1048576 - xs.length)).E.length = K2.length := by show (extF (kb K2) (kb K2).length).length = _; rw [extF_len, kb_len]
                rw [hEl] at hLn
                clear hY4 hEl
                go_wp2_with fail
                refine hLn.mono ?_
                rintro e w17 ⟨v17, rfl, rfl, rfl⟩
                clear hLn
                have HOK : Hid ((jF (kb K2) 1048576 (1048576 - xs.length)).Ok) := jF_ok (kb K2) 1048576 _ (by decide) (by decide) (by have := HL2.out.2; omega) (by omega)
                go_wp2_with fail
                go_loopg [20] K2.length (fun g s20 W => ∃ i3 : Nat, i3 + g = K2.length ∧ s20 = .int .i64 (i3 : Int) ∧ Hid (LC w0 W b4 (.slice q13 K2.length c13) K2 (1048576 - xs.length) X5))
                case atStart => exact ⟨0, by omega, rfl, K16⟩
                case round =>
                  clear K16
                  obtain ⟨i3, hig3, rfl, KM⟩ := hrel
                  by_cases hi3 : i3 < K2.length
                  · have hi3' : (i3 : Int) < (K2.length : Int) := by omega
                    have hw3 : Hid (wrap64 ((i3 : Int) + 1) = ((i3 + 1 : Nat) : Int)) := by
                      show _ = _
                      have := hkl.out
                      unfold wrap64
                      omega
                    have hR := record_c HOK.out (i3 : Int) KM.out.st
                    have HRB : Hid (recB (jF (kb K2) 1048576 (1048576 - xs.length)) i3 = (K2[i3]).data.toList) := by
                      show _ = _
                      refine (rec_fr 1048576 (1048576 - xs.length) false (kb K2) i3 (by rw [kb_len]; exact hi3)).trans ?_
                      unfold kb
                      rw [List.getD_eq_getElem?_getD, List.getElem?_map, List.getElem?_eq_getElem hi3]
                      rfl
                    obtain ⟨g13, hq13, hc13⟩ : ∃ g13, q13 = some ⟨g13, 0, none⟩ ∧ g13 < wr.heap.size := by
                      rcases KM.out.kw.2 with ⟨-, h⟩ | ⟨g, cap, cur, h, -⟩
                      · omega
                      · injection h with h1 h2 h3
                        exact ⟨g, h1, (KM.out.kw.lt g (by rw [h1]; rfl)).2⟩
                    subst hq13
                    go_wp2_with fail
                    refine hR.mono ?_
                    rintro e w18 ⟨v18, rfl, hb18, hv18⟩
                    obtain ⟨vr, rfl, hor⟩ : ∃ v, v18 = .tuple #[v, .int .i64 0] ∧ w18.ownsRow wr.heap.size 5 1 v (K2[i3]).data.toList.length (cbs (K2[i3]).data.toList) := by
                      rcases hv18 with ⟨h, -⟩ | ⟨-, v, h1, h2⟩
                      · exact absurd ⟨by omega, by show (i3 : Int) < ((extF (kb K2) (kb K2).length).length : Int); rw [extF_len, kb_len]; omega⟩ h
                      · refine ⟨v, h1, ?_⟩
                        rw [Int.toNat_natCast, HRB.out] at h2
                        exact h2
                    have K18 : Hid (LC w0 w18 b4 (.slice (some ⟨g13, 0, none⟩) K2.length c13) K2 (1048576 - xs.length) X5) := by
                      obtain ⟨h1, h2, h3, h4, h5, h6⟩ := KM.out
                      exact ⟨h1.trans (hb18.mono h1.size), by obtain ⟨e1, e2, e3⟩ := h2; exact ⟨e1, e2, e3.below hb18⟩, h3, h4, own_below h5 hb18, h6⟩
                    have hk18 : w18.cell? ⟨g13, i3, none⟩ = some (.string K2[i3]) := by
                      have := K18.out.kw.cells (g := g13) rfl i3 (.string K2[i3]) (by unfold strV; rw [List.getElem?_map, List.getElem?_eq_getElem hi3]; rfl)
                      rw [addS0, Nat.zero_add] at this
                      exact this
                    have hsm : (K2[i3]).data.toList.length ≤ 16384 := K18.out.small _ (by unfold kb; exact List.mem_map.2 ⟨K2[i3], List.getElem_mem _, rfl⟩)
                    obtain ⟨qr, cr, rfl, -⟩ := own_slice hor
                    have hprt := (own_part hor (by omega)).1
                    have hdr : ∀ k, Below w18.heap.size w18 (w18.drewN k) := fun k => ⟨rfl, rfl, rfl, Nat.le_refl _, fun _ _ => rfl⟩
                    have hcvr : ∀ k, (convert 32 9 (.slice qr (K2[i3]).data.toList.length cr)).run Try.prog (w18.drewN k) = .ok (.string K2[i3]) (w18.drewN k) := fun k => part_conv (b := (K2[i3]).data) (hprt.below (hdr k))
                    have HE18 : Hid (∀ k, LC w0 (w18.drewN k) b4 (.slice (some ⟨g13, 0, none⟩) K2.length c13) K2 (1048576 - xs.length) X5) := fun k => by
                      obtain ⟨h1, h2, h3, h4, h5, h6⟩ := K18.out
                      exact ⟨h1.trans ((hdr k).mono h1.size), by obtain ⟨e1, e2, e3⟩ := h2; exact ⟨e1, e2, e3.below (hdr k)⟩, h3, h4, own_below h5 (hdr k), h6⟩
                    have hix := idxS g13 0 K2.length c13 i3 hi3
                    rw [Nat.zero_add] at hix
                    clear hv18 hor hb18 hprt hdr hsm K18 KM hR HRB
                    generalize K2[i3] = s at hk18 hcvr
                    generalize s.data.toList.length = sl at hcvr ⊢
                    go_wp2_with fail
                    go_quiet (fail)
                    go_wp2
                    go_roundg (gk - 1)
                    case measure => omega
                    case rel => exact ⟨i3 + 1, by omega, by rw [hw3.out], HE18.out _⟩
                  · have hi3' : ¬ (i3 : Int) < (K2.length : Int) := by omega
                    have K19 := Hid.mk2 KM.out.bl
                    clear KM
                    go_wp2
                    go_ret
                    exact ⟨rfl, K19.out⟩
          · have gmm : (16384 : Int) < (more.size : Int) := by omega
            clear ht HT
            go_wp2
            go_ret
            exact ⟨rfl, K4.out⟩
        · have gto : (65536 : Int) < t := by omega
          clear ht HT
          go_wp2
          go_ret
          exact ⟨rfl, K4.out⟩
      · have g64 : (64 : Int) < (i : Int) := by omega
        clear HT
        by_cases gto : (65536 : Int) < t
        · go_wp2
          go_ret
          exact ⟨rfl, K4.out⟩
        · go_wp2
          go_ret
          exact ⟨rfl, K4.out⟩
end Go.Proofs.Ytonllijkacnbjaa
/-
  THE ROW OF 'StoreTrue' round its walk: a slice of texts, a number, a text.
-/
namespace Go.Proofs.Ytonllijkacnbjaa.storeTrue
open Go.ChangeShapes Go.WideShapes Go.ChangeAt Go.RowKit
open Go.ChangeMaps (open_string shut_string)
theorem own : ownKnob Try.prog.godebug = none := by kernel_rfl
theorem laidOut : laidOutB Try.prog = true := by kernel_rfl
theorem cells9 : Try.prog.cellsOf 9 = 1 := by kernel_rfl
theorem bytes9 : Try.prog.bytesOf 9 = 16 := by kernel_rfl
theorem strs_weigh {H : Type} {P : Program} {e : TypeId} {x : ByteArray} : ∀ {ss : List ByteArray}, x ∈ ss → x.size ∈ DataW.weightsAll (H := H) P e (strs ss)
  | s :: r, h => by
    show x.size ∈ DataW.weights P e (.lit (.string s.data.toList)) ++ DataW.weightsAll P e (strs r)
    rw [List.mem_append]
    rcases List.mem_cons.1 h with rfl | h
    · left
      simp [DataW.weights]
    · exact Or.inr (strs_weigh h)
theorem sized_strs {H : Type} {P : Program} {ts : List TypeId} {ds : List (DataW H)} (h : (DataW.weightsEach P ts ds).all (· ≤ reachBytes) = true) {j : Nat} {t e : TypeId} {a b : List ByteArray} (ht : ts[j]? = some t) (hd : ds[j]? = some (.slice (strs a) (strs b))) (hu : P.underlying t = some (.slice e))
    (x : ByteArray) (hx : x ∈ a) : x.size ≤ reachBytes := by
  have := List.all_eq_true.1 h _ (DataW.weights_mem_each ht hd x.size (by
    simp only [DataW.weights, hu]
    exact List.mem_cons_of_mem _ (List.mem_append_left _ (strs_weigh hx))))
  simpa using this
theorem sized_str {H : Type} {P : Program} {ts : List TypeId} {ds : List (DataW H)} (h : (DataW.weightsEach P ts ds).all (· ≤ reachBytes) = true) {j : Nat} {t : TypeId} {s : ByteArray} (ht : ts[j]? = some t) (hd : ds[j]? = some (.lit (.string s.data.toList))) : s.size ≤ reachBytes := by
  have := List.all_eq_true.1 h _ (DataW.weights_mem_each ht hd s.size (by simp [DataW.weights]))
  simpa using this
theorem range64 {n : Int} (h : (Lit.int .i64 n).wf = true) : -9223372036854775808 ≤ n ∧ n ≤ 9223372036854775807 := by
  simp only [Lit.wf, Bool.and_eq_true, decide_eq_true_eq] at h
  exact h
set_option maxRecDepth 100000 in
theorem lifted (os : Os) (started : os.Started) (H : Type) (enc : TypeId × Value → H) :
    ReturnsInHanded {} Try.checked os 4 .any (Rows.storeTrueSpec.pre6 enc Try.prog Try.f4 Rows.storeTrueRow.domain false) (Rows.storeTrueSpec.post enc Try.prog Try.f4 false true false false) := by
  refine returnsInHanded_of_change_sized (C := Try.checked) own started (by kernel_rfl) Try.func4
    (ChangeSpec.witness6 (enc := enc) (C := Try.checked) false ⟨#[], #[.slice none 0 0, .int .i64 0, .string ByteArray.empty], []⟩ 8 (by kernel_rfl) (by kernel_rfl) (by kernel_rfl) (by kernel_rfl)) ?_
  intro W base args ds gs before hval0 hW _ hsz0 _
  have hsz : (DataW.weightsEach Try.prog (Try.f4.params.toList ++ Rows.storeTrueSpec.plain.varTypes Try.prog) (ds ++ gs)).all (· ≤ reachBytes) = true := hsz0
  clear hsz0
  have hval : ∀ (j : Nat) t v, Try.f4.params[j]? = some t → args[j]? = some v → Value.okWide Try.prog W .any base t v := hval0
  have hW' := hW
  obtain ⟨p, q, hA0, hV, rfl, hfz, hnd⟩ := hW
  have hA : DataW.TrodAll enc Try.prog W 0 (fun _ => true) true Try.f4.params.toList args.toList ds p := hA0
  rw [Try.params4] at hA hval hsz
  obtain ⟨v0, vs0, d0, ds0, p0, q0, hargs, rfl, rfl, h0, r0⟩ := trodAll_cons hA
  obtain ⟨v1, vs1, d1, ds1, p1, q1, rfl, rfl, rfl, h1, r1⟩ := trodAll_cons r0
  obtain ⟨v2, vs2, d2, ds2, p2, q2, rfl, rfl, rfl, h2, r2⟩ := trodAll_cons r1
  obtain ⟨rfl, rfl, rfl⟩ := trodAll_nil r2
  obtain rfl : args = #[v0, v1, v2] := by cases args; simp_all
  obtain ⟨rfl, rfl⟩ := trodVars_none hV
  obtain ⟨a1, rfl, rfl, rfl, w1⟩ := open_int Try.underlying3 (hval 1 3 v1 rfl rfl) h1
  obtain ⟨a2, rfl, rfl, rfl, w2⟩ := open_string Try.underlying9 (hval 2 9 v2 rfl rfl) h2
  obtain ⟨a3, len3, cap3, rfl⟩ := okWide_slice Try.underlying38 (hval 0 38 v0 rfl rfl)
  have k3 := h0
  have lt3 : ∀ x ∈ p0, x.block < W.heap.size := by obtain ⟨m, hm⟩ := k3; exact DataW.trod_lt m _ _ _ hm
  have z2 : a2.size ≤ reachBytes := sized_str hsz (j := 2) (t := 9) rfl rfl
  unfold reachBytes at z2
  have hx3 : ∃ S : Nat → ByteArray, Texts W a3 len3 S ∧ (∀ j, j < len3 → (S j).size ≤ 140737488355328) ∧ len3 ≤ 140737488355328 ∧ len3 ≤ cap3 := by
    obtain ⟨fuel, hf⟩ := h0
    rcases open_strings Try.underlying38 Try.underlying9 cells9 hf with ⟨hcs, hx⟩ | ⟨a, l, c, ss, hcs, _, hl, hm, hz, hx, hcell, hws⟩
    · simp [Value.cells] at hcs
      obtain ⟨rfl, rfl, rfl⟩ := hcs
      exact ⟨fun _ => ByteArray.empty, fun h => absurd h (by omega), fun j hj => absurd hj (by omega), by omega, by omega⟩
    · simp [Value.cells] at hcs
      obtain ⟨rfl, rfl, rfl⟩ := hcs
      simp only [Prod.mk.injEq] at hx
      obtain ⟨rfl, rfl⟩ := hx
      simp only [if_true] at hz
      have hn : (ss.take len3).length = len3 := by rw [List.length_take]; omega
      have hat : ∀ j, j < len3 → (ss.take len3)[j]! = ss.getD j ByteArray.empty := fun j hj => by
        rw [getElem!_pos (ss.take len3) j (by omega), List.getElem_take, List.getD_eq_getElem?_getD, List.getElem?_eq_getElem (by omega)]
        rfl
      have hreach : len3 * 16 ≤ 140737488355328 := by
        have := sized_slice hsz (j := 0) (t := 38) (e := 9) rfl rfl Try.underlying38
        rw [bytes9] at this
        simp only [strs, List.length_map, List.length_take, List.length_drop, reachBytes] at this
        omega
      have hs : ∀ j, j < len3 → ((ss.take len3)[j]!).size ≤ 140737488355328 := fun j hj => by
        have := sized_strs hsz (j := 0) (t := 38) (e := 9) (a := ss.take len3) (b := ss.drop len3) rfl rfl Try.underlying38 (ss.take len3)[j]! (by rw [getElem!_pos (ss.take len3) j (by omega)]; exact List.getElem_mem _)
        unfold reachBytes at this
        omega
      refine ⟨fun j => (ss.take len3)[j]!, fun h00 => ?_, hs, by omega, by omega⟩
      obtain ⟨b, off, spot⟩ := a
      have hspot : spot = none := by simpa [Addr.add] using World.cell?_spot (hcell 0 (by omega))
      subst hspot
      have hP : ∀ j, j < len3 → W.cell? ⟨b, off + j, none⟩ = some (.string (ss.take len3)[j]!) := fun j hj => by
        rw [hat j hj, ← hcell j (by omega)]
        congr 1
        unfold Addr.add
        by_cases hj0 : j = 0
        · subst hj0; rfl
        · rw [if_neg hj0]
      exact ⟨b, off, rfl, World.block_lt_of_cell? _ _ (hP 0 h00), hP⟩
  obtain ⟨S, hS, hSs, hSl, hSc⟩ := hx3
  refine (storeT_core a3 len3 cap3 S a1 a2 W (range64 w1) hSl (by omega) hSs hS).mono fun e W' ⟨he, bel⟩ => ?_
  subst he
  exact ⟨_, rfl, _, _, _, [], _, [], hW', trodAll_mk1 (shut_bool Try.underlying4 _), (trodAll_cons_mk (Below.trod laidOut (by kernel_rfl) (of_decide_eq_true (by kernel_rfl)) k3 bel lt3) (trodAll_cons_mk (shut_int Try.underlying3 w1) (trodAll_cons_mk (shut_string Try.underlying9 w2) trodAll_mk0))), rfl, bel.frame _, fun h => by cases h⟩
theorem over : Rows.storeTrueRow.holds Try.pinned (OpenSpec.ofChange Rows.storeTrueSpec) :=
  OpenClaim.holds_of_wide 4 Try.f4 rfl rfl rfl rfl rfl rfl rfl ⟨rfl, rfl, rfl, rfl, rfl⟩ rfl rfl rfl rfl rfl (by kernel_rfl) Try.func4 (by kernel_rfl)
    (of_decide_eq_true (by kernel_rfl)) (by unfold Func.isWrapper; first | (rw [if_pos (by decide +kernel)]; kernel_rfl) | (rw [if_neg (by decide +kernel)]; exact ⟨rfl, rfl⟩))
    (fun os started H enc _ => lifted os started H enc)
theorem proved : Rows.StoreTrueSaid :=
  over
end Go.Proofs.Ytonllijkacnbjaa.storeTrue
namespace Go.Proofs.Ytonllijkacnbjaa
/-- THE STATEMENT. -/
theorem storeTrue_holds : Rows.StoreTrueSaid := storeTrue.proved
#print axioms storeTrue_holds
end Go.Proofs.Ytonllijkacnbjaa
