import Derived.Test.YtfkgfcggcfkkiaaDoorRows
import Derived.Shelf.Strings.Builder1
import Derived.Laws.Bits64b
import Derived.Laws.Externs
import Derived.Laws.Unary
import Derived.Laws.AppendOwn
import Derived.Laws.OwnMore
import Derived.Lib.AppendZeros
import Derived.WalkKit
import Derived.Sort.Row
import Derived.Below
import Derived.Deep.LoopGhost
import Derived.Deep.QuietTactic
import Derived.StillTailTactics
import Derived.BigRegion
import Derived.BigQuiet
import Derived.Defers
import Derived.Recover
import Derived.WalkLawsBesides
import Derived.Laws.Pointers
import Derived.ProofKit
import Derived.Deep.AppendSrc
import Derived.Deep.Heap
import Derived.Deep.MidRow
import Derived.Carry
import Derived.RangeFuncRecord
import Derived.Deep.RegionLaw
set_option linter.unusedVariables false
set_option linter.unusedSimpArgs false
namespace Go.Proofs.YtfkgfcggcfkkiaaDoor.WL
/-- Bit k of bytes, the highest of the first one first. -/
def bt (x : List UInt8) (k : Nat) : Nat := (x.getD (k / 8) 0).toNat / 2 ^ (7 - k % 8) % 2
/-- Six bits as a number. -/
def six (x : List UInt8) (i : Nat) : Nat := 32 * bt x (6 * i) + 16 * bt x (6 * i + 1) + 8 * bt x (6 * i + 2) + 4 * bt x (6 * i + 3) + 2 * bt x (6 * i + 4) + bt x (6 * i + 5)
def nl (n : Nat) : Nat := (8 * n + 5) / 6
def sixes (x : List UInt8) : List Nat := (List.range (nl x.length)).map (six x)
def alph : List UInt8 := [65, 66, 67, 68, 69, 70, 71, 72, 73, 74, 75, 76, 77, 78, 79, 80, 81, 82, 83, 84, 85, 86, 87, 88, 89, 90, 97, 98, 99, 100, 101, 102, 103, 104, 105, 106, 107, 108, 109, 110, 111, 112, 113, 114, 115, 116, 117, 118, 119, 120, 121, 122, 48, 49, 50, 51, 52, 53, 54, 55, 56, 57, 45, 95]
def ltr (n : Nat) : UInt8 := alph.getD n 0
def letters (x : List UInt8) : List UInt8 := (sixes x).map ltr
/-- Bit k of numbers of six bits. -/
def lb (y : List Nat) (k : Nat) : Nat := y.getD (k / 6) 0 / 2 ^ (5 - k % 6) % 2
def oct (y : List Nat) (e : Nat) : Nat := 128 * lb y (8 * e) + 64 * lb y (8 * e + 1) + 32 * lb y (8 * e + 2) + 16 * lb y (8 * e + 3) + 8 * lb y (8 * e + 4) + 4 * lb y (8 * e + 5) + 2 * lb y (8 * e + 6) + lb y (8 * e + 7)
def octs (y : List Nat) : List UInt8 := (List.range (6 * y.length / 8)).map fun e => UInt8.ofNat (oct y e)
/-- The place of a letter; 64: it is none. -/
def plc (c : UInt8) : Nat := alph.findIdx (· == c)
theorem bt_lt (x : List UInt8) (k : Nat) : bt x k < 2 := Nat.mod_lt _ (by decide)
theorem lb_lt (y : List Nat) (k : Nat) : lb y k < 2 := Nat.mod_lt _ (by decide)
theorem six_lt (x : List UInt8) (i : Nat) : six x i < 64 := by
  have h0 := bt_lt x (6 * i); have h1 := bt_lt x (6 * i + 1); have h2 := bt_lt x (6 * i + 2); have h3 := bt_lt x (6 * i + 3); have h4 := bt_lt x (6 * i + 4); have h5 := bt_lt x (6 * i + 5)
  unfold six
  omega
theorem oct_lt (y : List Nat) (e : Nat) : oct y e < 256 := by
  have h0 := lb_lt y (8 * e); have h1 := lb_lt y (8 * e + 1); have h2 := lb_lt y (8 * e + 2); have h3 := lb_lt y (8 * e + 3); have h4 := lb_lt y (8 * e + 4); have h5 := lb_lt y (8 * e + 5); have h6 := lb_lt y (8 * e + 6); have h7 := lb_lt y (8 * e + 7)
  unfold oct
  omega
theorem plc_ltr : ∀ n : Fin 64, plc (ltr n.val) = n.val := by decide +kernel
theorem ltr_plc : ∀ c : Fin 256, plc (UInt8.ofNat c.val) < 64 → ltr (plc (UInt8.ofNat c.val)) = UInt8.ofNat c.val := by decide +kernel
theorem plc_le : ∀ c : Fin 256, plc (UInt8.ofNat c.val) ≤ 64 := by decide +kernel
theorem of_toNat (c : UInt8) : UInt8.ofNat c.toNat = c := by simp
theorem six_bit (x : List UInt8) (i : Nat) : six x i / 32 % 2 = bt x (6 * i) ∧ six x i / 16 % 2 = bt x (6 * i + 1) ∧ six x i / 8 % 2 = bt x (6 * i + 2) ∧ six x i / 4 % 2 = bt x (6 * i + 3) ∧ six x i / 2 % 2 = bt x (6 * i + 4) ∧ six x i % 2 = bt x (6 * i + 5) := by
  have h0 := bt_lt x (6 * i); have h1 := bt_lt x (6 * i + 1); have h2 := bt_lt x (6 * i + 2); have h3 := bt_lt x (6 * i + 3); have h4 := bt_lt x (6 * i + 4); have h5 := bt_lt x (6 * i + 5)
  unfold six
  omega
theorem sixes_get (x : List UInt8) (i : Nat) (h : i < nl x.length) : (sixes x).getD i 0 = six x i := by
  unfold sixes
  rw [List.getD_eq_getElem?_getD, List.getElem?_map, List.getElem?_range h]
  rfl
theorem lb_sixes (x : List UInt8) (k : Nat) (h : k < 6 * nl x.length) : lb (sixes x) k = bt x k := by
  unfold lb
  rw [sixes_get x (k / 6) (by omega)]
  obtain ⟨b0, b1, b2, b3, b4, b5⟩ := six_bit x (k / 6)
  have hk : k = 6 * (k / 6) + k % 6 := by omega
  have hm : k % 6 = 0 ∨ k % 6 = 1 ∨ k % 6 = 2 ∨ k % 6 = 3 ∨ k % 6 = 4 ∨ k % 6 = 5 := by omega
  rcases hm with e | e | e | e | e | e <;> rw [e] at hk ⊢
  · rw [show 2 ^ (5 - 0) = 32 from rfl, b0]; congr 1; omega
  · rw [show 2 ^ (5 - 1) = 16 from rfl, b1]; congr 1; omega
  · rw [show 2 ^ (5 - 2) = 8 from rfl, b2]; congr 1; omega
  · rw [show 2 ^ (5 - 3) = 4 from rfl, b3]; congr 1; omega
  · rw [show 2 ^ (5 - 4) = 2 from rfl, b4]; congr 1; omega
  · rw [show 2 ^ (5 - 5) = 1 from rfl, Nat.div_one, b5]; congr 1; omega
theorem bt_at (x : List UInt8) (e t : Nat) (ht : t < 8) : bt x (8 * e + t) = (x.getD e 0).toNat / 2 ^ (7 - t) % 2 := by
  unfold bt
  rw [show (8 * e + t) / 8 = e by omega, show (8 * e + t) % 8 = t by omega]
theorem byte_bits (v : Nat) (h : v < 256) : 128 * (v / 2 ^ 7 % 2) + 64 * (v / 2 ^ 6 % 2) + 32 * (v / 2 ^ 5 % 2) + 16 * (v / 2 ^ 4 % 2) + 8 * (v / 2 ^ 3 % 2) + 4 * (v / 2 ^ 2 % 2) + 2 * (v / 2 ^ 1 % 2) + v / 2 ^ 0 % 2 = v := by
  simp only [Nat.reducePow, Nat.div_one]
  omega
theorem octs_sixes (x : List UInt8) : octs (sixes x) = x := by
  have hl : (sixes x).length = nl x.length := by unfold sixes; rw [List.length_map, List.length_range]
  unfold octs
  rw [hl, show 6 * nl x.length / 8 = x.length by unfold nl; omega]
  apply List.ext_getElem?
  intro e
  rw [List.getElem?_map]
  by_cases he : e < x.length
  · rw [List.getElem?_range he, List.getElem?_eq_getElem he]
    have hb : ∀ t, t < 8 → lb (sixes x) (8 * e + t) = (x.getD e 0).toNat / 2 ^ (7 - t) % 2 := fun t ht => by rw [lb_sixes x _ (by unfold nl; omega), bt_at x e t ht]
    have h0 := hb 0 (by decide)
    rw [Nat.add_zero] at h0
    have hx : x.getD e 0 = x[e] := by rw [List.getD_eq_getElem?_getD, List.getElem?_eq_getElem he]; rfl
    have ho : oct (sixes x) e = (x.getD e 0).toNat := by
      unfold oct
      rw [h0, hb 1 (by decide), hb 2 (by decide), hb 3 (by decide), hb 4 (by decide), hb 5 (by decide), hb 6 (by decide), hb 7 (by decide)]
      exact byte_bits _ (x.getD e 0).toNat_lt
    show some (UInt8.ofNat (oct (sixes x) e)) = _
    rw [ho, hx, of_toNat]
  · rw [List.getElem?_eq_none (by rw [List.length_range]; omega), List.getElem?_eq_none (by omega)]
    rfl
/-- What a text of letters stands for. -/
def dec (s : List UInt8) : Option (List UInt8) := if (∀ c ∈ s, plc c < 64) ∧ letters (octs (s.map plc)) = s then some (octs (s.map plc)) else none
theorem plc_letters (x : List UInt8) : (letters x).map plc = sixes x := by
  unfold letters
  rw [List.map_map]
  have : ∀ n ∈ sixes x, (plc ∘ ltr) n = n := fun n hn => by
    unfold sixes at hn
    obtain ⟨i, -, rfl⟩ := List.mem_map.1 hn
    exact plc_ltr ⟨six x i, six_lt x i⟩
  rw [List.map_congr_left this, List.map_id']
theorem letters_ok (x : List UInt8) : ∀ c ∈ letters x, plc c < 64 := fun c hc => by
  unfold letters at hc
  obtain ⟨n, hn, rfl⟩ := List.mem_map.1 hc
  unfold sixes at hn
  obtain ⟨i, -, rfl⟩ := List.mem_map.1 hn
  rw [plc_ltr ⟨six x i, six_lt x i⟩]
  exact six_lt x i
theorem dec_letters (x : List UInt8) : dec (letters x) = some x := by
  unfold dec
  rw [plc_letters, octs_sixes, if_pos ⟨letters_ok x, rfl⟩]
theorem letters_len (x : List UInt8) : (letters x).length = nl x.length := by unfold letters sixes; rw [List.length_map, List.length_map, List.length_range]
/-- What the low bits of the word that the program holds are. -/
def Hh (f : Nat → Nat) (n h : Nat) : Prop := ∀ t, t < 16 → t < n → h / 2 ^ t % 2 = f (n - 1 - t)
theorem bit_add (h v s t : Nat) (hv : v < 2 ^ s) : (h * 2 ^ s + v) / 2 ^ (s + t) % 2 = h / 2 ^ t % 2 := by
  rw [Nat.pow_add, ← Nat.div_div_eq_div_mul, Nat.mul_comm h, Nat.mul_add_div (Nat.two_pow_pos s), Nat.div_eq_of_lt hv, Nat.add_zero]
theorem bit_low (h v s t : Nat) (ht : t < s) : (h * 2 ^ s + v) / 2 ^ t % 2 = v / 2 ^ t % 2 := by
  obtain ⟨d, rfl⟩ : ∃ d, s = t + 1 + d := ⟨s - t - 1, by omega⟩
  rw [show h * 2 ^ (t + 1 + d) = 2 ^ t * (2 * (h * 2 ^ d)) by rw [Nat.pow_add, Nat.pow_succ]; ac_rfl, Nat.mul_add_div (Nat.two_pow_pos t)]
  omega
theorem bit_wrap (h t : Nat) (ht : t < 64) : h % 18446744073709551616 / 2 ^ t % 2 = h / 2 ^ t % 2 := by
  have e : h = (h / 18446744073709551616) * 2 ^ 64 + h % 18446744073709551616 := by rw [show (2 : Nat) ^ 64 = 18446744073709551616 from rfl]; omega
  have := bit_low (h / 18446744073709551616) (h % 18446744073709551616) 64 t ht
  rw [← e] at this
  exact this.symm
/-- The word takes s more bits in. -/
theorem Hh.push {f : Nat → Nat} {n h : Nat} (H : Hh f n h) (s v : Nat) (hs : s ≤ 8) (hv : v < 2 ^ s) (hf : ∀ t, t < s → v / 2 ^ t % 2 = f (n + s - 1 - t)) : Hh f (n + s) ((h * 2 ^ s + v) % 18446744073709551616) := by
  intro t ht hn
  rw [bit_wrap _ _ (by omega)]
  by_cases hts : t < s
  · rw [bit_low h v s t hts]; exact hf t hts
  · obtain ⟨d, rfl⟩ : ∃ d, t = s + d := ⟨t - s, by omega⟩
    rw [bit_add h v s d hv, H d (by omega) (by omega)]
    congr 1
    omega
theorem Hh.six {f : Nat → Nat} {n h b : Nat} (H : Hh f n h) (hb : b < 8) (hn : b + 6 ≤ n) : h / 2 ^ b % 64 = 32 * f (n - b - 6) + 16 * f (n - b - 6 + 1) + 8 * f (n - b - 6 + 2) + 4 * f (n - b - 6 + 3) + 2 * f (n - b - 6 + 4) + f (n - b - 6 + 5) := by
  have key : ∀ s, s < 6 → h / 2 ^ b / 2 ^ s % 2 = f (n - b - 6 + (5 - s)) := fun s hs => by
    rw [Nat.div_div_eq_div_mul, ← Nat.pow_add, H (b + s) (by omega) (by omega)]
    congr 1
    omega
  have k0 := key 0 (by decide); have k1 := key 1 (by decide); have k2 := key 2 (by decide); have k3 := key 3 (by decide); have k4 := key 4 (by decide); have k5 := key 5 (by decide)
  generalize h / 2 ^ b = y at *
  simp only [Nat.reducePow, Nat.div_one, Nat.reduceSub, Nat.add_zero] at k0 k1 k2 k3 k4 k5
  omega
theorem Hh.oct {f : Nat → Nat} {n h b : Nat} (H : Hh f n h) (hb : b < 8) (hn : b + 8 ≤ n) : h / 2 ^ b % 256 = 128 * f (n - b - 8) + 64 * f (n - b - 8 + 1) + 32 * f (n - b - 8 + 2) + 16 * f (n - b - 8 + 3) + 8 * f (n - b - 8 + 4) + 4 * f (n - b - 8 + 5) + 2 * f (n - b - 8 + 6) + f (n - b - 8 + 7) := by
  have key : ∀ s, s < 8 → h / 2 ^ b / 2 ^ s % 2 = f (n - b - 8 + (7 - s)) := fun s hs => by
    rw [Nat.div_div_eq_div_mul, ← Nat.pow_add, H (b + s) (by omega) (by omega)]
    congr 1
    omega
  have k0 := key 0 (by decide); have k1 := key 1 (by decide); have k2 := key 2 (by decide); have k3 := key 3 (by decide); have k4 := key 4 (by decide); have k5 := key 5 (by decide); have k6 := key 6 (by decide); have k7 := key 7 (by decide)
  generalize h / 2 ^ b = y at *
  simp only [Nat.reducePow, Nat.div_one, Nat.reduceSub, Nat.add_zero] at k0 k1 k2 k3 k4 k5 k6 k7
  omega
end Go.Proofs.YtfkgfcggcfkkiaaDoor.WL
namespace Go.Proofs.YtfkgfcggcfkkiaaDoor
open Go.RowKit
/-- Where the program's own numbers are. -/
def rB : Go.Shelf.Ren := ⟨fun n => if n = 167 then 75 else if n = 240 then 98 else if n = 276 then 102 else if n = 169 then 76 else 0, fun n => if n = 0 then 0 else if n = 3 then 3 else if n = 4 then 4 else if n = 5 then 5 else if n = 9 then 9 else if n = 20 then 20 else if n = 37 then 22 else if n = 70 then 129 else if n = 72 then 131 else if n = 75 then 133 else if n = 80 then 75 else if n = 164 then 146 else if n = 127 then 142 else 0, fun _ => 0⟩
theorem laysWB : Go.Proofs.Lays.n167 Tryd.prog rB := by
  constructor <;> first | kernel_rfl | (intro w; kernel_rfl)
theorem laysStr : Go.Proofs.Lays.n169 Tryd.prog rB := by
  constructor <;> first | kernel_rfl | (intro w; kernel_rfl)
theorem extB : Go.Proofs.Builder.Extra Tryd.prog rB := by
  constructor <;> first | kernel_rfl | (intro w; kernel_rfl) | decide | (constructor <;> first | kernel_rfl | (intro w; kernel_rfl))
abbrev IsB (B b : Nat) (l : List UInt8) (w : World) : Prop := Lib.IsBuilder 131 5 B b (Lib.byteCells l) w
theorem byteCells_snoc (l : List UInt8) (c : UInt8) : Lib.byteCells (l ++ [c]) = Lib.byteCells l ++ [.int .u8 (c.toNat : Int)] := by
  rw [Lib.byteCells_append]
  rfl
theorem wbyte_c (B b : Nat) (l : List UInt8) (c : UInt8) (w : World) (h : IsB B b l w) (hl : l.length ≤ 1000000) (hB : B ≤ w.heap.size) :
    Calls Tryd.prog 75 #[.pointer (some ⟨b, 0, none⟩), .int .u8 (c.toNat : Int)] w fun e w' => e = .returned .nilIface ∧ IsB B b (l ++ [c]) w' ∧ Below B w w' := by
  refine (Go.Proofs.Any.Builder_WriteByte laysWB extB B b (Lib.byteCells l) (c.toNat : Int) w h (by rw [Lib.byteCells_length]; omega) hB).mono ?_
  rintro e w' ⟨rfl, h1, h2⟩
  exact ⟨rfl, by unfold IsB; rw [byteCells_snoc]; exact Or.inr h1, h2⟩
theorem str_c (B b : Nat) (l : List UInt8) (w : World) (h : IsB B b l w) (hB : B ≤ w.heap.size) :
    Calls Tryd.prog 76 #[.pointer (some ⟨b, 0, none⟩)] w fun e w' => e = .returned (.string ⟨l.toArray⟩) ∧ Below B w w' :=
  Go.Proofs.Any.Builder_String_any laysStr extB B b l w h hB
end Go.Proofs.YtfkgfcggcfkkiaaDoor
namespace Go.Proofs.YtfkgfcggcfkkiaaDoor
open Go.RowKit Go.Sort
open WL
/-- It returned a value, of which something holds. -/
def RetW (Q : Value → World → Prop) (e : Ending) (w : World) : Prop := ∃ v, e = .returned v ∧ Q v w
theorem hidW {p : Prop} (h : p) : Hid p := h
theorem str9W : Tryd.prog.underlying 9 = some .string := by kernel_rfl
/-- Bytes in memory. -/
def PB (w : World) (v : Value) (x : List UInt8) : Prop := ∃ q c, v = .slice q x.length c ∧ (x = [] ∨ ∃ b o, q = some ⟨b, o, none⟩ ∧ ∀ j u, x[j]? = some u → w.cell? ⟨b, o + j, none⟩ = some (.int .u8 (u.toNat : Int)))
theorem PB.below {w w' : World} {v : Value} {x : List UInt8} (h : PB w v x) (hb : Below w.heap.size w w') : PB w' v x := by
  obtain ⟨q, c, h1, h2 | ⟨b, o, h2, h3⟩⟩ := h
  · exact ⟨q, c, h1, Or.inl h2⟩
  · refine ⟨q, c, h1, Or.inr ⟨b, o, h2, fun j u hj => ?_⟩⟩
    have := h3 j u hj
    rw [hb.cell (p := ⟨b, o + j, none⟩) (World.block_lt_of_cell? _ _ this)]
    exact this
section
variable {P : Program} {ops : Array Oper} {rest : List Oper} {op : Oper} {a : Act} {w : World} {Q : Exit → Act → World → Prop}
theorem wpList_ixc (v : Value) (hgd : op.guard = none) (c : Value) (t : Tmp) (T : TypeId) (ho : op.op = .index T (.const c) (.tmp t)) (hr : (Instr.index T c (a.eval (.tmp t))).run P w = .ok v w) (h : wpList P ops Q rest (a.put op.dst v) w) : wpList P ops Q (op :: rest) a w :=
  wpList_plain hgd fun K hK => by
    unfold Oper.wp
    have : (execOp a.eval op).run P w = .ok (.value v) w := by
      unfold execOp
      rw [ho]
      show ((Instr.index T c (a.eval (.tmp t))) >>= fun v => pure (Next.value v)).run P w = _
      rw [Sem.run_bind, hr]
      rfl
    rw [this]
    exact hK _ _ h
end
theorem alph_at : ∀ n : Fin 64, ∀ h : n.val < (⟨#[65, 66, 67, 68, 69, 70, 71, 72, 73, 74, 75, 76, 77, 78, 79, 80, 81, 82, 83, 84, 85, 86, 87, 88, 89, 90, 97, 98, 99, 100, 101, 102, 103, 104, 105, 106, 107, 108, 109, 110, 111, 112, 113, 114, 115, 116, 117, 118, 119, 120, 121, 122, 48, 49, 50, 51, 52, 53, 54, 55, 56, 57, 45, 95]⟩ : ByteArray).size, ((⟨#[65, 66, 67, 68, 69, 70, 71, 72, 73, 74, 75, 76, 77, 78, 79, 80, 81, 82, 83, 84, 85, 86, 87, 88, 89, 90, 97, 98, 99, 100, 101, 102, 103, 104, 105, 106, 107, 108, 109, 110, 111, 112, 113, 114, 115, 116, 117, 118, 119, 120, 121, 122, 48, 49, 50, 51, 52, 53, 54, 55, 56, 57, 45, 95]⟩ : ByteArray)[n.val]'h).toNat = (ltr n.val).toNat := by decide +kernel
theorem ixL (k : IntKind) (n : Nat) (hn : n < 64) (w : World) : (Instr.index 9 (.string ⟨#[65, 66, 67, 68, 69, 70, 71, 72, 73, 74, 75, 76, 77, 78, 79, 80, 81, 82, 83, 84, 85, 86, 87, 88, 89, 90, 97, 98, 99, 100, 101, 102, 103, 104, 105, 106, 107, 108, 109, 110, 111, 112, 113, 114, 115, 116, 117, 118, 119, 120, 121, 122, 48, 49, 50, 51, 52, 53, 54, 55, 56, 57, 45, 95]⟩) (.int k (n : Int))).run Tryd.prog w = .ok (.int .u8 ((ltr n).toNat : Int)) w := by
  have hs : n < (⟨#[65, 66, 67, 68, 69, 70, 71, 72, 73, 74, 75, 76, 77, 78, 79, 80, 81, 82, 83, 84, 85, 86, 87, 88, 89, 90, 97, 98, 99, 100, 101, 102, 103, 104, 105, 106, 107, 108, 109, 110, 111, 112, 113, 114, 115, 116, 117, 118, 119, 120, 121, 122, 48, 49, 50, 51, 52, 53, 54, 55, 56, 57, 45, 95]⟩ : ByteArray).size := hn
  have h := alph_at ⟨n, hn⟩ hs
  rw [run_index_string (t := 9) (k := k) (i := (n : Int)) (h := str9W)]
  generalize (⟨#[65, 66, 67, 68, 69, 70, 71, 72, 73, 74, 75, 76, 77, 78, 79, 80, 81, 82, 83, 84, 85, 86, 87, 88, 89, 90, 97, 98, 99, 100, 101, 102, 103, 104, 105, 106, 107, 108, 109, 110, 111, 112, 113, 114, 115, 116, 117, 118, 119, 120, 121, 122, 48, 49, 50, 51, 52, 53, 54, 55, 56, 57, 45, 95]⟩ : ByteArray) = s at *
  simp [hs, h]
theorem or_u64 (h v s m : Nat) (hm : m = 2 ^ s) (hv : v < m) (hs : s ≤ 8) : bits .or .u64 ((h * m % 18446744073709551616 : Nat) : Int) (v : Int) = (((h * m + v) % 18446744073709551616 : Nat) : Int) := by
  subst hm
  have hv2 : v < 256 := by
    have : (2 : Nat) ^ s ≤ 2 ^ 8 := Nat.pow_le_pow_right (by decide) hs
    omega
  obtain ⟨k, hk⟩ : ∃ k, h * 2 ^ s % 18446744073709551616 = k * 2 ^ s := by
    refine ⟨h % 2 ^ (64 - s), ?_⟩
    rw [show (18446744073709551616 : Nat) = 2 ^ (64 - s) * 2 ^ s by rw [← Nat.pow_add, show 64 - s + s = 64 by omega], Nat.mul_mod_mul_right]
  have hor : k * 2 ^ s ||| v = k * 2 ^ s + v := by rw [Nat.mul_comm, ← Nat.two_pow_add_eq_or_of_lt hv]
  have hlt : h * 2 ^ s % 18446744073709551616 < 18446744073709551616 := Nat.mod_lt _ (by decide)
  have hbv : bits .or .u64 ((h * 2 ^ s % 18446744073709551616 : Nat) : Int) (v : Int) = ((h * 2 ^ s % 18446744073709551616 ||| v : Nat) : Int) := by
    have h1 : (BitVec.ofInt 64 ((h * 2 ^ s % 18446744073709551616 : Nat) : Int)).toNat = h * 2 ^ s % 18446744073709551616 := by
      rw [BitVec.ofInt_natCast, BitVec.toNat_ofNat]; exact Nat.mod_eq_of_lt (by omega)
    have h2 : (BitVec.ofInt 64 (v : Int)).toNat = v := by
      rw [BitVec.ofInt_natCast, BitVec.toNat_ofNat]; exact Nat.mod_eq_of_lt (by omega)
    have hx : h * 2 ^ s % 18446744073709551616 ||| v < 2 ^ 64 := Nat.or_lt_two_pow (by omega) (by omega)
    show IntKind.u64.wrap ((BitVec.ofInt 64 ((h * 2 ^ s % 18446744073709551616 : Nat) : Int) ||| BitVec.ofInt 64 (v : Int)).toNat : Int) = _
    rw [BitVec.toNat_or, h1, h2, IntKind.wrap_u64]
    omega
  rw [hbv, hk, hor, ← hk]
  congr 1
  have hfit : h * 2 ^ s % 18446744073709551616 + v < 18446744073709551616 := by
    rw [hk, show (18446744073709551616 : Nat) = 2 ^ (64 - s) * 2 ^ s by rw [← Nat.pow_add, show 64 - s + s = 64 by omega]] at *
    have hkl : k < 2 ^ (64 - s) := Nat.lt_of_mul_lt_mul_right hlt
    have c1 : k * 2 ^ s + v < (k + 1) * 2 ^ s := by rw [Nat.add_mul, Nat.one_mul]; omega
    exact Nat.lt_of_lt_of_le c1 (Nat.mul_le_mul_right _ hkl)
  generalize h * 2 ^ s = z at *
  omega
end Go.Proofs.YtfkgfcggcfkkiaaDoor
namespace Go.Proofs.YtfkgfcggcfkkiaaDoor
open Go.RowKit Go.Sort
open WL
def pre (x : List UInt8) (e : Nat) : List UInt8 := (List.range e).map fun i => ltr (six x i)
theorem pre_succ (x : List UInt8) (e : Nat) : pre x (e + 1) = pre x e ++ [ltr (six x e)] := by unfold pre; rw [List.range_succ, List.map_append]; rfl
theorem pre_len (x : List UInt8) (e : Nat) : (pre x e).length = e := by unfold pre; rw [List.length_map, List.length_range]
theorem pre_all (x : List UInt8) : pre x (nl x.length) = letters x := by unfold pre letters sixes; rw [List.map_map]; rfl
theorem and63 (y : Nat) (hy : y < 18446744073709551616) : bits .and .u64 (y : Int) 63 = ((y % 64 : Nat) : Int) := by
  have h := bits_and_u64_nat y 63 hy (by omega)
  rw [show (63 : Nat) = 2 ^ 6 - 1 from rfl, Nat.and_two_pow_sub_one_eq_mod] at h
  exact h
theorem divp (a i : Nat) : (a : Int) / (2 : Int) ^ i = ((a / 2 ^ i : Nat) : Int) := by
  rw [Int.natCast_ediv, Int.natCast_pow]
  rfl
theorem idxW (gg oo m c i : Nat) (hi : i < m) (w : World) : (Instr.indexAt 22 (.slice (some ⟨gg, oo, none⟩) m c) (.int .i64 (i : Int))).run Tryd.prog w = .ok (.pointer (some ⟨gg, oo + i, none⟩)) w := by
  have h1 : ¬ (i : Int) < 0 := by omega
  have h2 : (i : Int) < (m : Int) := by omega
  go_simp
theorem bt_end (x : List UInt8) (k : Nat) (h : 8 * x.length ≤ k) : bt x k = 0 := by
  unfold bt
  rw [List.getD_eq_getElem?_getD, List.getElem?_eq_none (by omega)]
  simp
theorem six_end2 (x : List UInt8) (j e h : Nat) (hj : j = x.length) (hn : 8 * j = 6 * e + 2) (H : Hh (bt x) (8 * j) h) : six x e = h % 4 * 16 := by
  have h0 := H 0 (by decide) (by omega)
  have h1 := H 1 (by decide) (by omega)
  rw [show 8 * j - 1 - 0 = 6 * e + 1 by omega] at h0
  rw [show 8 * j - 1 - 1 = 6 * e by omega] at h1
  unfold six
  rw [bt_end x (6 * e + 2) (by omega), bt_end x (6 * e + 3) (by omega), bt_end x (6 * e + 4) (by omega), bt_end x (6 * e + 5) (by omega), ← h0, ← h1]
  simp only [Nat.reducePow, Nat.div_one]
  omega
theorem six_end4 (x : List UInt8) (j e h : Nat) (hj : j = x.length) (hn : 8 * j = 6 * e + 4) (H : Hh (bt x) (8 * j) h) : six x e = h % 16 * 4 := by
  have h0 := H 0 (by decide) (by omega)
  have h1 := H 1 (by decide) (by omega)
  have h2 := H 2 (by decide) (by omega)
  have h3 := H 3 (by decide) (by omega)
  rw [show 8 * j - 1 - 0 = 6 * e + 3 by omega] at h0
  rw [show 8 * j - 1 - 1 = 6 * e + 2 by omega] at h1
  rw [show 8 * j - 1 - 2 = 6 * e + 1 by omega] at h2
  rw [show 8 * j - 1 - 3 = 6 * e by omega] at h3
  unfold six
  rw [bt_end x (6 * e + 4) (by omega), bt_end x (6 * e + 5) (by omega), ← h0, ← h1, ← h2, ← h3]
  simp only [Nat.reducePow, Nat.div_one]
  omega
/-- What the loop keeps, behind j bytes. -/
structure Lt (w : World) (x : List UInt8) (j e b : Nat) (h : Nat) (W : World) : Prop where
  hn : 8 * j = 6 * e + b
  hb : b ≤ 13
  hh : Hh (bt x) (8 * j) h
  hl : h < 18446744073709551616
  bl : Below w.heap.size w W
  sb : IsB w.heap.size w.heap.size (pre x e) W
set_option maxHeartbeats 2000000 in
set_option maxRecDepth 20000 in
theorem lettersOf_c (v : Value) (x : List UInt8) (hx : x.length ≤ 200000) (w : World) (hP : PB w v x) : Calls Tryd.prog 50 #[v] w (RetW fun e w' => Below w.heap.size w w' ∧ e = .string ⟨(letters x).toArray⟩) := by
  obtain ⟨q, c, rfl, hq⟩ := hP
  have HQ := hidW hq
  clear hq
  have hz : ∀ w : World, (zeroValue 131).run Tryd.prog w = .ok (.agg #[.pointer none, .slice none 0 0]) w := fun _ => by kernel_rfl
  have K0 : Hid (Lt w x 0 0 0 0 (w.alloc (.cells #[.pointer none, .slice none 0 0] 131))) := ⟨rfl, Nat.zero_le _, fun t _ ht => absurd ht (Nat.not_lt_zero _), by decide, (Below.refl _ _).alloc (Nat.le_refl _) _, Lib.fresh_isBuilder _ _ w⟩
  go_enter Tryd.func50, Tryd.ntmps50
  go_wp2_with fail
  go_loopg [4, 5, 10] x.length (fun gk s4 s5 s10 wr => ∃ j e b h : Nat, j + gk = x.length ∧ b < 6 ∧ s4 = .int .u64 (h : Int) ∧ s5 = .int .i64 (b : Int) ∧ s10 = .int .i64 (j : Int) ∧ Hid (Lt w x j e b h wr))
  case atStart => exact ⟨0, 0, 0, 0, by omega, by decide, rfl, rfl, rfl, K0⟩
  case round =>
    clear K0
    obtain ⟨j, e, b, h, hj, hb6, rfl, rfl, rfl, KM⟩ := hrel
    by_cases hjl : j < x.length
    · have hj' : (j : Int) < (x.length : Int) := by omega
      obtain ⟨u, hu⟩ : ∃ u, x[j]? = some u := ⟨_, List.getElem?_eq_getElem hjl⟩
      obtain ⟨bb, o, rfl, hcl⟩ : ∃ b o, q = some ⟨b, o, none⟩ ∧ ∀ j u, x[j]? = some u → w.cell? ⟨b, o + j, none⟩ = some (.int .u8 (u.toNat : Int)) := by
        rcases HQ.out with h0 | h0
        · rw [h0] at hjl; exact absurd hjl (Nat.not_lt_zero _)
        · exact h0
      have hc0 := hcl j u hu
      have hcu : wr.cell? ⟨bb, o + j, none⟩ = some (.int .u8 (u.toNat : Int)) := by rw [KM.out.bl.cell (p := ⟨bb, o + j, none⟩) (World.block_lt_of_cell? _ _ hc0)]; exact hc0
      have hix := idxW bb o x.length c j hjl
      have hul := u.toNat_lt
      have hhl := KM.out.hl
      obtain ⟨h2, hh2⟩ : ∃ h2, h2 = (h * 256 + u.toNat) % 18446744073709551616 := ⟨_, rfl⟩
      have wsh : IntKind.u64.wrap ((h : Int) * 256) = ((h * 256 % 18446744073709551616 : Nat) : Int) := by rw [IntKind.wrap_u64]; omega
      have wu : IntKind.u64.wrap (u.toNat : Int) = (u.toNat : Int) := by rw [IntKind.wrap_u64]; omega
      have hor : bits .or .u64 ((h * 256 % 18446744073709551616 : Nat) : Int) (u.toNat : Int) = (h2 : Int) := by rw [hh2]; exact or_u64 h u.toNat 8 256 rfl hul (by decide)
      have K1 : Hid (Lt w x (j + 1) e (b + 8) h2 wr) := by
        have k := KM.out
        have kn := k.hn
        have hget : x.getD j 0 = u := by rw [List.getD_eq_getElem?_getD, hu]; rfl
        refine ⟨by omega, by omega, ?_, by omega, k.bl, k.sb⟩
        rw [hh2]
        exact k.hh.push 8 u.toNat (by decide) hul (fun t ht => by
          rw [show 8 * j + 8 - 1 - t = 8 * j + (7 - t) by omega, bt_at x j (7 - t) (by omega), hget, show 7 - (7 - t) = t by omega])
      clear KM hc0 hh2 hu hcl
      generalize (h * 256 % 18446744073709551616 : Nat) = hm at *
      go_wp2_with fail
      go_loopg [5] 13 (fun gk2 s5 wr2 => ∃ e b : Nat, s5 = .int .i64 (b : Int) ∧ b ≤ gk2 ∧ b ≤ 13 ∧ Hid (Lt w x (j + 1) e b h2 wr2))
      case atStart => exact ⟨e, b + 8, rfl, by omega, by omega, K1⟩
      case round =>
        clear K1 hcu
        obtain ⟨e2, b2, rfl, hbg, hb13, KM2⟩ := hrel
        by_cases h6 : 6 ≤ b2
        · obtain ⟨b3, rfl⟩ : ∃ b3, b2 = b3 + 6 := ⟨b2 - 6, by omega⟩
          have g6 : (6 : Int) ≤ (b3 : Int) + 6 := by omega
          obtain ⟨n, hn⟩ : ∃ n, n = six x e2 := ⟨_, rfl⟩
          have hn64 : n < 64 := by rw [hn]; exact six_lt x e2
          have hand : bits .and .u64 ((h2 : Int) / (2 : Int) ^ b3) 63 = (n : Int) := by
            have k := KM2.out
            have kn := k.hn
            have kb := k.hb
            rw [divp, and63 _ (Nat.lt_of_le_of_lt (Nat.div_le_self _ _) k.hl), k.hh.six (b := b3) (by omega) (by omega), hn]
            unfold six
            rw [show 8 * (j + 1) - b3 - 6 = 6 * e2 by omega]
          have hW := wbyte_c w.heap.size w.heap.size (pre x e2) (ltr n) wr KM2.out.sb (by rw [pre_len]; have := KM2.out.hn; omega) KM2.out.bl.size
          have KP : Hid (∀ w', IsB w.heap.size w.heap.size (pre x e2 ++ [ltr n]) w' → Below w.heap.size wr w' → Lt w x (j + 1) (e2 + 1) b3 h2 w') := fun w' h1 hb1 => by
            have k := KM2.out
            have kn := k.hn
            have kb := k.hb
            exact ⟨by omega, by omega, k.hh, k.hl, k.bl.trans hb1, by rw [pre_succ, ← hn]; exact h1⟩
          clear KM2 hn
          go_wp2_with (refine wpList_ixc (.int .u8 ((ltr n).toNat : Int)) rfl _ 28 9 rfl ?_ ?_; (exact ixL .u64 n hn64 _))
          refine hW.mono ?_
          rintro e' w3 ⟨rfl, hs3, hb3⟩
          have KN : Hid (Lt w x (j + 1) (e2 + 1) b3 h2 w3) := KP.out w3 hs3 hb3
          clear hW KP hs3 hb3
          go_wp2
          go_roundg (gk - 1)
          case measure => omega
          case rel => exact ⟨e2 + 1, b3, rfl, by omega, by omega, KN⟩
        · have g6 : ¬ (6 : Int) ≤ (b2 : Int) := by omega
          go_wp2
          go_roundg (x.length - (j + 1))
          case measure => omega
          case rel => exact ⟨j + 1, e2, b2, h2, by omega, by omega, rfl, rfl, rfl, KM2⟩
    · have hj' : ¬ (j : Int) < (x.length : Int) := by omega
      obtain rfl : j = x.length := by omega
      have kn := KM.out.hn
      have hhl := KM.out.hl
      by_cases hb0 : b = 0
      · subst hb0
        have hnl : nl x.length = e := by unfold nl; omega
        have hS := str_c w.heap.size w.heap.size (letters x) wr (by rw [← pre_all, hnl]; exact KM.out.sb) KM.out.bl.size
        have K3 := hidW KM.out.bl
        clear KM
        go_wp2_with fail
        refine hS.mono ?_
        rintro e' w4 ⟨rfl, hb4⟩
        have K4 : Hid (Below w.heap.size w w4) := K3.out.trans hb4
        clear hS hb4 K3
        go_wp2
        go_ret
        exact ⟨_, rfl, K4.out, rfl⟩
      have hnl : nl x.length = e + 1 := by unfold nl; omega
      obtain ⟨n, hn⟩ : ∃ n, n = six x e := ⟨_, rfl⟩
      have hn64 : n < 64 := by rw [hn]; exact six_lt x e
      have hW := wbyte_c w.heap.size w.heap.size (pre x e) (ltr n) wr KM.out.sb (by rw [pre_len]; omega) KM.out.bl.size
      have HP : Hid (∀ w', IsB w.heap.size w.heap.size (pre x e ++ [ltr n]) w' → IsB w.heap.size w.heap.size (letters x) w') := fun w' h1 => by rw [← pre_all, hnl, pre_succ, ← hn]; exact h1
      have HB : Hid (∀ w', Below w.heap.size wr w' → Below w.heap.size w w') := fun w' h1 => KM.out.bl.trans h1
      have hb24 : b = 2 ∨ b = 4 := by omega
      rcases hb24 with rfl | rfl
      · skip
        have wsh : IntKind.u64.wrap ((h : Int) * 16) = ((h * 16 % 18446744073709551616 : Nat) : Int) := by rw [IntKind.wrap_u64]; omega
        have hand : bits .and .u64 ((h * 16 % 18446744073709551616 : Nat) : Int) 63 = (n : Int) := by rw [and63 _ (Nat.mod_lt _ (by decide)), hn, six_end2 x x.length e h rfl KM.out.hn KM.out.hh]; congr 1; omega
        generalize (h * 16 % 18446744073709551616 : Nat) = hm at *
        clear KM hn
        go_wp2_with (refine wpList_ixc (.int .u8 ((ltr n).toNat : Int)) rfl _ 38 9 rfl ?_ ?_; (exact ixL .u64 n hn64 _))
        refine hW.mono ?_
        rintro e' w3 ⟨rfl, hs3, hb3⟩
        have hS := str_c w.heap.size w.heap.size (letters x) w3 (HP.out _ hs3) (HB.out _ hb3).size
        have K3 := hidW (HB.out _ hb3)
        clear hW hs3 hb3
        go_wp2_with fail
        refine hS.mono ?_
        rintro e' w4 ⟨rfl, hb4⟩
        have K4 : Hid (Below w.heap.size w w4) := K3.out.trans hb4
        clear hS hb4 K3
        go_wp2
        go_ret
        exact ⟨_, rfl, K4.out, rfl⟩
      · skip
        have wsh : IntKind.u64.wrap ((h : Int) * 4) = ((h * 4 % 18446744073709551616 : Nat) : Int) := by rw [IntKind.wrap_u64]; omega
        have hand : bits .and .u64 ((h * 4 % 18446744073709551616 : Nat) : Int) 63 = (n : Int) := by rw [and63 _ (Nat.mod_lt _ (by decide)), hn, six_end4 x x.length e h rfl KM.out.hn KM.out.hh]; congr 1; omega
        generalize (h * 4 % 18446744073709551616 : Nat) = hm at *
        clear KM hn
        go_wp2_with (refine wpList_ixc (.int .u8 ((ltr n).toNat : Int)) rfl _ 38 9 rfl ?_ ?_; (exact ixL .u64 n hn64 _))
        refine hW.mono ?_
        rintro e' w3 ⟨rfl, hs3, hb3⟩
        have hS := str_c w.heap.size w.heap.size (letters x) w3 (HP.out _ hs3) (HB.out _ hb3).size
        have K3 := hidW (HB.out _ hb3)
        clear hW hs3 hb3
        go_wp2_with fail
        refine hS.mono ?_
        rintro e' w4 ⟨rfl, hb4⟩
        have K4 : Hid (Below w.heap.size w w4) := K3.out.trans hb4
        clear hS hb4 K3
        go_wp2
        go_ret
        exact ⟨_, rfl, K4.out, rfl⟩
end Go.Proofs.YtfkgfcggcfkkiaaDoor
namespace Go.Proofs.YtfkgfcggcfkkiaaDoor
open Go.RowKit Go.Sort
open WL
/-- What IndexByte answers of the letters. -/
def pl (c : UInt8) : Int := if plc c < 64 then (plc c : Int) else -1
theorem first_at : ∀ c : Fin 256, firstIdx ⟨#[65, 66, 67, 68, 69, 70, 71, 72, 73, 74, 75, 76, 77, 78, 79, 80, 81, 82, 83, 84, 85, 86, 87, 88, 89, 90, 97, 98, 99, 100, 101, 102, 103, 104, 105, 106, 107, 108, 109, 110, 111, 112, 113, 114, 115, 116, 117, 118, 119, 120, 121, 122, 48, 49, 50, 51, 52, 53, 54, 55, 56, 57, 45, 95]⟩ (UInt8.ofNat c.val) = pl (UInt8.ofNat c.val) := by decide +kernel
theorem ixb_run (c : UInt8) (w : World) : (callFunc 105 #[.string ⟨#[65, 66, 67, 68, 69, 70, 71, 72, 73, 74, 75, 76, 77, 78, 79, 80, 81, 82, 83, 84, 85, 86, 87, 88, 89, 90, 97, 98, 99, 100, 101, 102, 103, 104, 105, 106, 107, 108, 109, 110, 111, 112, 113, 114, 115, 116, 117, 118, 119, 120, 121, 122, 48, 49, 50, 51, 52, 53, 54, 55, 56, 57, 45, 95]⟩, .int .u8 (c.toNat : Int)]).run Tryd.prog w = .ok (.value (.int .i64 (pl c))) w := by
  rw [run_callFunc_extern (e := Extern.BytealgIndexByte.indexByte) Tryd.func105 (by kernel_rfl) (by kernel_rfl) (by kernel_rfl) (by kernel_rfl), run_indexByte_string]
  have h := first_at ⟨c.toNat, c.toNat_lt⟩
  simp only [of_toNat] at h
  have e : (c.toNat : Int).toNat.toUInt8 = c := by rw [Int.toNat_natCast]; exact of_toNat c
  rw [e, h]
  rfl
theorem ixb_c (c : UInt8) (w : World) : Calls Tryd.prog 100 #[.string ⟨#[65, 66, 67, 68, 69, 70, 71, 72, 73, 74, 75, 76, 77, 78, 79, 80, 81, 82, 83, 84, 85, 86, 87, 88, 89, 90, 97, 98, 99, 100, 101, 102, 103, 104, 105, 106, 107, 108, 109, 110, 111, 112, 113, 114, 115, 116, 117, 118, 119, 120, 121, 122, 48, 49, 50, 51, 52, 53, 54, 55, 56, 57, 45, 95]⟩, .int .u8 (c.toNat : Int)] w fun e w' => e = .returned (.int .i64 (pl c)) ∧ w' = w := by
  have h := ixb_run c
  generalize (⟨#[65, 66, 67, 68, 69, 70, 71, 72, 73, 74, 75, 76, 77, 78, 79, 80, 81, 82, 83, 84, 85, 86, 87, 88, 89, 90, 97, 98, 99, 100, 101, 102, 103, 104, 105, 106, 107, 108, 109, 110, 111, 112, 113, 114, 115, 116, 117, 118, 119, 120, 121, 122, 48, 49, 50, 51, 52, 53, 54, 55, 56, 57, 45, 95]⟩ : ByteArray) = A at *
  go_enter Tryd.func100, Tryd.ntmps100
  go_wp2
  go_ret
  exact ⟨rfl, rfl⟩
theorem must_y (w : World) : Calls Tryd.prog 43 #[.bool true] w fun e w' => e = .returned (.tuple #[]) ∧ w' = w := by
  go_enter Tryd.func43, Tryd.ntmps43
  go_wp2
  first | go_end0 | go_ret
  exact ⟨rfl, rfl⟩
theorem must_n (w : World) : Calls Tryd.prog 43 #[.bool false] w fun e w' => e = .panicked [{ v := .iface 28 (.int .i64 2), recovered := false }] ∧ w' = w := by
  go_enter Tryd.func43, Tryd.ntmps43
  go_wp2
  simp [bodyPost]
/-- What fromLetters does. -/
def FlR (w : World) (s : List UInt8) (e : Ending) (w' : World) : Prop := Below w.heap.size w w' ∧ ((dec s = none ∧ e = .panicked [{ v := .iface 28 (.int .i64 2), recovered := false }]) ∨ ∃ y v, dec s = some y ∧ e = .returned v ∧ w'.ownsRow w.heap.size 5 1 v y.length (Lib.byteCells y))
def plcs (s : List UInt8) : List Nat := s.map plc
def preo (y : List Nat) (e : Nat) : List UInt8 := (List.range e).map fun i => UInt8.ofNat (oct y i)
theorem preo_succ (y : List Nat) (e : Nat) : preo y (e + 1) = preo y e ++ [UInt8.ofNat (oct y e)] := by unfold preo; rw [List.range_succ, List.map_append]; rfl
theorem preo_len (y : List Nat) (e : Nat) : (preo y e).length = e := by unfold preo; rw [List.length_map, List.length_range]
theorem preo_all (y : List Nat) : preo y (6 * y.length / 8) = octs y := rfl
/-- What its loop keeps, behind j letters. -/
structure Ft (w : World) (s : List UInt8) (j e b h : Nat) (v : Value) (W : World) : Prop where
  hn : 6 * j = 8 * e + b
  hh : Hh (lb (plcs s)) (6 * j) h
  hl : h < 18446744073709551616
  bl : Below w.heap.size w W
  ow : W.ownsRow w.heap.size 5 1 v (preo (plcs s) e).length (Lib.byteCells (preo (plcs s) e))
  ok : ∀ i c, i < j → s[i]? = some c → plc c < 64
theorem slice_own {B n : Nat} {W : World} {v : Value} {xs : List Value} (h : W.ownsRow B 5 1 v n xs) : ∃ q c, v = .slice q n c := by
  rcases h.2 with ⟨rfl, h0⟩ | ⟨g, cap, cur, rfl, -⟩
  · exact ⟨none, 0, by rw [h0]⟩
  · exact ⟨_, _, rfl⟩
theorem own_pb {B : Nat} {W : World} {v : Value} {x : List UInt8} (h : W.ownsRow B 5 1 v x.length (Lib.byteCells x)) : PB W v x := by
  rcases id h with ⟨-, ⟨rfl, h0⟩ | ⟨g, cap, cur, rfl, -⟩⟩
  · exact ⟨none, 0, by rw [h0], Or.inl (List.length_eq_zero_iff.1 h0)⟩
  · refine ⟨_, _, rfl, Or.inr ⟨g, 0, rfl, fun j u hj => ?_⟩⟩
    have := h.cells (g := g) rfl j (.int .u8 (u.toNat : Int)) (by unfold Lib.byteCells; rw [List.getElem?_map, hj]; rfl)
    have e : (⟨g, 0, none⟩ : Addr).add j = ⟨g, 0 + j, none⟩ := by
      unfold Addr.add
      by_cases h0 : j = 0
      · subst h0; rfl
      · rw [if_neg h0]
    rw [e] at this
    exact this
theorem undB : Tryd.prog.underlying 22 = some (.slice 5) := by kernel_rfl
theorem infoB : (Tryd.prog.info? 5).map (fun i => (i.size, i.bytes, i.zero.map fun z => z.cells.size)) = some (1, 1, some 1) := by kernel_rfl
/-- 'append(b, x)'. -/
theorem push_b {B : Nat} {W0 W : World} {v : Value} {l : List UInt8} (hB : B = W0.heap.size) (hb : Below B W0 W) (h : W.ownsRow B 5 1 v l.length (Lib.byteCells l)) (hl : l.length ≤ 1000000) (c : UInt8) :
    ∃ q' n' c' W', (∀ ty, (Builtin.append_ #[22, 22] ty #[v, .slice (some ⟨W.heap.size, 0, none⟩) 1 1]).run Tryd.prog (W.alloc (.cells #[.int .u8 (c.toNat : Int)] 5)) = .ok (.slice q' n' c') W') ∧ Below B W0 W' ∧ W'.ownsRow B 5 1 (.slice q' n' c') (l ++ [c]).length (Lib.byteCells (l ++ [c])) := by
  obtain ⟨i, hi1, hi2⟩ := Option.map_eq_some_iff.1 infoB
  simp only [Prod.mk.injEq] at hi2
  obtain ⟨h1, h2, h3⟩ := hi2
  obtain ⟨z, hz, hz2⟩ := Option.map_eq_some_iff.1 h3
  have hs : B ≤ W.heap.size := by rw [hB]; exact Nat.le_trans (by rw [hB] at hb; exact hb.size) (Nat.le_refl _)
  have hba : Below W.heap.size W (W.alloc (.cells #[.int .u8 (c.toNat : Int)] 5)) := (Below.refl _ _).alloc (Nat.le_refl _) _
  have how := h.alloc (.cells #[.int .u8 (c.toNat : Int)] 5)
  have hr := fun ty => run_append_own (P := Tryd.prog) (W.alloc (.cells #[.int .u8 (c.toNat : Int)] 5)) B 22 ty 5 i z 1 1 undB hi1 hz h1 h2 hz2 (by decide) v l.length _ how ⟨W.heap.size, 0, none⟩ 1 1 [.int .u8 (c.toNat : Int)] rfl (fun j u hj => by
    have hj0 : j = 0 := by have := (List.getElem?_eq_some_iff.1 hj).1; simp at this; omega
    subst hj0
    obtain rfl := Option.some.inj hj
    simp [Addr.add]) (fun u hu => by rw [List.mem_singleton.1 hu]; rfl) (by unfold maxLen; omega) (by omega) (by rw [World.size_alloc]; omega)
  obtain ⟨v', W', r1, r2, r3, -⟩ := hr 22
  obtain ⟨q', c', rfl⟩ := slice_own r2
  refine ⟨q', _, c', W', fun ty => r1, ?_, ?_⟩
  · have hb2 : Below B W0 (W.alloc (.cells #[.int .u8 (c.toNat : Int)] 5)) := hb.trans (hba.mono hs)
    refine ⟨by rw [r3.os, hb2.os], by rw [r3.tape, hb2.tape], by rw [r3.output, hb2.output], Nat.le_trans hb2.size r3.size, fun k hk => ?_⟩
    rw [r3.block k (by rw [World.size_alloc]; omega) (fun e => ?_)]
    · exact hb2.block k hk
    · have := (h.lt k e.symm).1
      omega
  · rw [List.length_append, byteCells_snoc]
    exact r2
end Go.Proofs.YtfkgfcggcfkkiaaDoor
namespace Go.Proofs.YtfkgfcggcfkkiaaDoor
open Go.RowKit Go.Sort
open WL
theorem ixS (s : List UInt8) (i : Nat) (c : UInt8) (hc : s[i]? = some c) (w : World) : (Instr.index 9 (.string ⟨s.toArray⟩) (.int .i64 (i : Int))).run Tryd.prog w = .ok (.int .u8 (c.toNat : Int)) w := by
  have hi : i < s.length := (List.getElem?_eq_some_iff.1 hc).1
  have hs : i < (⟨s.toArray⟩ : ByteArray).size := by show i < s.toArray.size; simpa using hi
  have e : (⟨s.toArray⟩ : ByteArray)[i]'hs = c := by
    rw [List.getElem?_eq_getElem hi] at hc
    exact Option.some.inj hc
  rw [run_index_string (t := 9) (k := .i64) (i := (i : Int)) (h := str9W)]
  simp [hs, e]
theorem sizeS (s : List UInt8) : (⟨s.toArray⟩ : ByteArray).size = s.length := by show s.toArray.size = _; simp
theorem dec_bad {s : List UInt8} {i : Nat} {c : UInt8} (h : s[i]? = some c) (hc : ¬ plc c < 64) : dec s = none := by
  unfold dec
  rw [if_neg (fun h2 => hc (h2.1 c (List.mem_of_getElem? h)))]
theorem lb_at (y : List Nat) (j t : Nat) (ht : t < 6) : lb y (6 * j + t) = y.getD j 0 / 2 ^ (5 - t) % 2 := by
  unfold lb
  rw [show (6 * j + t) / 6 = j by omega, show (6 * j + t) % 6 = t by omega]
set_option maxHeartbeats 2000000 in
set_option maxRecDepth 20000 in
theorem fromLetters_c (s : List UInt8) (hs : s.length ≤ 131072) (w : World) : Calls Tryd.prog 79 #[.string ⟨s.toArray⟩] w (FlR w s) := by
  obtain ⟨S, hS⟩ : ∃ S, Hid (S = (⟨s.toArray⟩ : ByteArray)) := ⟨_, rfl⟩
  have hsz : S.size = s.length := by rw [hS.out]; exact sizeS s
  rw [← hS.out]
  have K0 : Hid (Ft w s 0 0 0 0 (.slice none 0 0) w) := ⟨rfl, fun t _ ht => absurd ht (Nat.not_lt_zero _), by decide, Below.refl _ _, World.ownsRow_nil _ _ _ _, fun i c h => absurd h (Nat.not_lt_zero _)⟩
  go_enter Tryd.func79, Tryd.ntmps79
  go_wp2_with fail
  go_loopg [3, 4, 5, 10] s.length (fun gk s3 s4 s5 s10 wr => ∃ j e b h : Nat, j + gk = s.length ∧ b < 8 ∧ s4 = .int .u64 (h : Int) ∧ s5 = .int .i64 (b : Int) ∧ s10 = .int .i64 (j : Int) ∧ Hid (Ft w s j e b h s3 wr))
  case atStart => exact ⟨0, 0, 0, 0, by omega, by decide, rfl, rfl, rfl, K0⟩
  case round =>
    clear K0
    obtain ⟨j, e, b, h, hj, hb8, rfl, rfl, rfl, KM⟩ := hrel
    by_cases hjl : j < s.length
    · have hj' : (j : Int) < (s.length : Int) := by omega
      obtain ⟨c, hc⟩ : ∃ c, s[j]? = some c := ⟨_, List.getElem?_eq_getElem hjl⟩
      have hix : ∀ w : World, (Instr.index 9 (.string S) (.int .i64 (j : Int))).run Tryd.prog w = .ok (.int .u8 (c.toNat : Int)) w := fun w => by rw [hS.out]; exact ixS s j c hc w
      have hI := ixb_c c wr
      obtain ⟨qs, cs, hv⟩ := slice_own KM.out.ow
      by_cases hp : plc c < 64
      · have hpl : pl c = (plc c : Int) := if_pos hp
        rw [hpl] at hI
        obtain ⟨n, hn⟩ : ∃ n, n = plc c := ⟨_, rfl⟩
        rw [← hn] at hI hp
        have g0 : (0 : Int) ≤ (n : Int) := by omega
        have hM := must_y wr
        have hhl := KM.out.hl
        obtain ⟨h2, hh2⟩ : ∃ h2, h2 = (h * 64 + n) % 18446744073709551616 := ⟨_, rfl⟩
        have wsh : IntKind.u64.wrap ((h : Int) * 64) = ((h * 64 % 18446744073709551616 : Nat) : Int) := by rw [IntKind.wrap_u64]; omega
        have wu : IntKind.u64.wrap (n : Int) = (n : Int) := by rw [IntKind.wrap_u64]; omega
        have hor : bits .or .u64 ((h * 64 % 18446744073709551616 : Nat) : Int) (n : Int) = (h2 : Int) := by rw [hh2]; exact or_u64 h n 6 64 rfl hp (by decide)
        have K1 : Hid (Ft w s (j + 1) e (b + 6) h2 (.slice qs (preo (plcs s) e).length cs) wr) := by
          have k := KM.out
          have kn := k.hn
          have hget : (plcs s).getD j 0 = n := by unfold plcs; rw [List.getD_eq_getElem?_getD, List.getElem?_map, hc, hn]; rfl
          refine ⟨by omega, ?_, by omega, k.bl, by rw [← hv]; exact k.ow, fun i c' hi hc' => ?_⟩
          · rw [hh2]
            exact k.hh.push 6 n (by decide) hp (fun t ht => by
              rw [show 6 * j + 6 - 1 - t = 6 * j + (5 - t) by omega, lb_at (plcs s) j (5 - t) (by omega), hget, show 5 - (5 - t) = t by omega])
          · by_cases hij : i < j
            · exact k.ok i c' hij hc'
            · obtain rfl : i = j := by omega
              rw [hc] at hc'
              obtain rfl := Option.some.inj hc'
              rw [← hn]; exact hp
        subst hv
        clear KM hh2 hn hc hpl
        generalize (h * 64 % 18446744073709551616 : Nat) = hm at *
        go_wp2_with fail
        refine hI.mono ?_
        rintro e' w' ⟨rfl, rfl⟩
        clear hI
        go_wp2_with fail
        refine hM.mono ?_
        rintro e' w' ⟨rfl, rfl⟩
        clear hM hix
        by_cases h8 : 8 ≤ b + 6
        · obtain ⟨b3, hb3⟩ : ∃ b3, b + 6 = b3 + 8 := ⟨b + 6 - 8, by omega⟩
          have hb6 : (b : Int) + 6 = (b3 : Int) + 8 := by omega
          obtain ⟨c2, hc2⟩ : ∃ c2, c2 = UInt8.ofNat (oct (plcs s) e) := ⟨_, rfl⟩
          have ho : (h2 : Int) / (2 : Int) ^ b3 % 256 = (c2.toNat : Int) := by
            have k := K1.out
            have kn := k.hn
            have h3 := k.hh.oct (b := b3) (by omega) (by omega)
            rw [show 6 * (j + 1) - b3 - 8 = 8 * e by omega] at h3
            have h4 : h2 / 2 ^ b3 % 256 = c2.toNat := by
              rw [h3, hc2]
              have := oct_lt (plcs s) e
              unfold oct at this ⊢
              rw [UInt8.toNat_ofNat', Nat.mod_eq_of_lt this]
            rw [divp, ← h4]
            omega
          have hk1 : (preo (plcs s) e).length ≤ 1000000 := by rw [preo_len]; have := K1.out.hn; omega
          obtain ⟨q', n', c', W', hap, hbl', how'⟩ := push_b (W0 := w) rfl K1.out.bl K1.out.ow hk1 c2
          have HAP := hidW (hap 22)
          have KN : Hid (Ft w s (j + 1) (e + 1) b3 h2 (.slice q' n' c') W') := by
            have k := K1.out
            have kn := k.hn
            exact ⟨by omega, k.hh, k.hl, hbl', by rw [preo_succ, ← hc2]; exact how', k.ok⟩
          clear K1 hap hbl' how' hc2
          go_wp2_with (at_builtin; refine Lib.wpList_append_run _ rfl _ _ _ _ rfl _ _ rfl rfl _ _ HAP.out ?_)
          go_roundg (gk - 1)
          case measure => omega
          case rel => exact ⟨j + 1, e + 1, b3, h2, by omega, by omega, rfl, rfl, rfl, KN⟩
        · have g8 : ¬ (8 : Int) ≤ (b : Int) + 6 := by omega
          go_wp2
          go_roundg (gk - 1)
          case measure => omega
          case rel => exact ⟨j + 1, e, b + 6, h2, by omega, by omega, rfl, rfl, rfl, K1⟩
      · have hpl : pl c = -1 := if_neg hp
        rw [hpl] at hI
        have hM := must_n wr
        have KF : Hid (FlR w s (.panicked [{ v := .iface 28 (.int .i64 2), recovered := false }]) wr) := ⟨KM.out.bl, Or.inl ⟨dec_bad hc hp, rfl⟩⟩
        clear KM hc
        go_wp2_with fail
        refine hI.mono ?_
        rintro e' w' ⟨rfl, rfl⟩
        clear hI
        go_wp2_with fail
        refine hM.mono ?_
        rintro e' w' ⟨rfl, rfl⟩
        clear hM hix
        simp [Exit.inBlock, Exit.then, bodyPost]
        exact KF.out
    · have hj' : ¬ (j : Int) < (s.length : Int) := by omega
      obtain rfl : j = s.length := by omega
      have kn := KM.out.hn
      have hpl : (plcs s).length = s.length := by unfold plcs; exact List.length_map _
      have hoc : preo (plcs s) e = octs (plcs s) := by
        have : e = 6 * (plcs s).length / 8 := by rw [hpl]; omega
        rw [this]; exact preo_all _
      have how := KM.out.ow
      rw [hoc] at how
      obtain ⟨qs, cs, rfl⟩ := slice_own how
      have hL := lettersOf_c (.slice qs (octs (plcs s)).length cs) (octs (plcs s)) (by rw [← hoc, preo_len]; omega) wr (own_pb how)
      have hok : ∀ c ∈ s, plc c < 64 := fun c hc => by
        obtain ⟨i, hi⟩ := List.getElem?_of_mem hc
        exact KM.out.ok i c (List.getElem?_eq_some_iff.1 hi).1 hi
      have K1 : Hid (Below w.heap.size w wr ∧ wr.ownsRow w.heap.size 5 1 (.slice qs (octs (plcs s)).length cs) (octs (plcs s)).length (Lib.byteCells (octs (plcs s))) ∧ (∀ c ∈ s, plc c < 64)) := ⟨KM.out.bl, how, hok⟩
      clear KM how hok hoc
      go_wp2_with fail
      refine hL.mono ?_
      rintro e' w3 ⟨v3, rfl, hb3, rfl⟩
      have K3 : Hid (Below w.heap.size w w3 ∧ w3.ownsRow w.heap.size 5 1 (.slice qs (octs (plcs s)).length cs) (octs (plcs s)).length (Lib.byteCells (octs (plcs s)))) := by
        obtain ⟨k1, k2, -⟩ := K1.out
        refine ⟨k1.trans (hb3.mono k1.size), ?_⟩
        obtain ⟨m1, m2⟩ := k2
        refine ⟨m1, ?_⟩
        rcases m2 with m2 | ⟨g, cap, cur, m3, m4, m5, m6⟩
        · exact Or.inl m2
        · exact Or.inr ⟨g, cap, cur, m3, m4, by rw [hb3.block g (Array.getElem?_eq_some_iff.1 m5).1]; exact m5, m6⟩
      obtain ⟨T, hT⟩ : ∃ T, Hid (T = (⟨(letters (octs (plcs s))).toArray⟩ : ByteArray)) := ⟨_, rfl⟩
      rw [← hT.out]
      clear hL hb3
      by_cases hq : letters (octs (plcs s)) = s
      · have hqq : (T.toList == S.toList) = true := by rw [hT.out, hS.out, hq]; simp
        have hM := must_y w3
        have KF : Hid (FlR w s (.returned (.slice qs (octs (plcs s)).length cs)) w3) := ⟨K3.out.1, Or.inr ⟨octs (plcs s), _, by unfold dec; rw [if_pos ⟨K1.out.2.2, hq⟩]; rfl, rfl, K3.out.2⟩⟩
        clear K1 K3 hq
        go_wp2_with fail
        refine hM.mono ?_
        rintro e' w' ⟨rfl, rfl⟩
        clear hM
        go_wp2
        go_ret
        exact KF.out
      · have hqq : (T.toList == S.toList) = false := by
          rw [hT.out, hS.out, ByteArray.toList_eq, ByteArray.toList_eq, beq_eq_false_iff_ne]
          intro h
          exact hq (by simpa using h)
        have hM := must_n w3
        have KF : Hid (FlR w s (.panicked [{ v := .iface 28 (.int .i64 2), recovered := false }]) w3) := ⟨K3.out.1, Or.inl ⟨by unfold dec; rw [if_neg (fun h => hq h.2)], rfl⟩⟩
        clear K1 K3 hq
        go_wp2_with fail
        refine hM.mono ?_
        rintro e' w' ⟨rfl, rfl⟩
        clear hM
        simp [Exit.inBlock, Exit.then, bodyPost]
        exact KF.out
end Go.Proofs.YtfkgfcggcfkkiaaDoor
namespace Go.Proofs.YtfkgfcggcfkkiaaDoor
open Go.RowKit Go.Sort
open WL
theorem catch_p (p : Addr) (x : Int) (u : TypeId) (pv : Value) (older : List PanicEntry) (w : World) (hc : w.cell? p = some (.int .i64 x)) (hz : w.frozen? p = false) :
    CallsD Tryd.prog 44 #[.pointer (some p)] (.panicking ({ v := .iface u pv, recovered := false } :: older)) w fun e u' w' =>
      e = .returned (.tuple #[]) ∧ u' = .panicking ({ v := .iface u pv, recovered := true } :: older) ∧ w' = w.setCell p (.int .i64 2) := by
  refine callsD_of_wpS Tryd.func44 rfl fun c₀ cs hu => ?_
  apply wpS_seq
  apply wpS_region
  simp [wpOpsS, go_sem, recoverD, hu, Tryd.ntmps44, Exit.thenS]
  refine wpS_cond (t := true) (by simp [Act.eval, Array.replicate]) ?_
  simp only [if_true]
  apply wpS_region
  simp [wpOpsS, go_sem, hc, hz, bodyPostS, results, Tryd.results44]
theorem catch_i (p : Addr) (w : World) :
    CallsD Tryd.prog 44 #[.pointer (some p)] .returning w fun e u' w' => e = .returned (.tuple #[]) ∧ u' = .returning ∧ w' = w := by
  refine callsD_of_wpS Tryd.func44 rfl fun c₀ cs hu => ?_
  apply wpS_seq
  apply wpS_region
  simp [wpOpsS, go_sem, recoverD, hu, Tryd.ntmps44, Exit.thenS]
  refine wpS_cond (t := false) (by simp [Act.eval, Array.replicate]) ?_
  simp only [Bool.false_eq_true, if_false]
  refine wpS_of_wp (wp_skip ?_)
  cases c₀
  simp_all [bodyPostS, results, Tryd.results44]
theorem fl1_c (s : List UInt8) (hs : s.length ≤ 131072) (bx : Nat) (w : World) (hc : w.cell? ⟨bx, 0, none⟩ = some (.string ⟨s.toArray⟩)) : Calls Tryd.prog 78 #[.pointer (some ⟨bx, 0, none⟩)] w (FlR w s) := by
  have hF := fromLetters_c s hs w
  obtain ⟨S, hS⟩ : ∃ S, Hid (S = (⟨s.toArray⟩ : ByteArray)) := ⟨_, rfl⟩
  rw [← hS.out] at hF hc
  go_enter Tryd.func78, Tryd.ntmps78
  go_wp2_with fail
  refine hF.mono ?_
  rintro e w1 ⟨hb, ⟨hd, rfl⟩ | ⟨y, v, hd, rfl, how⟩⟩
  · have KF : Hid (FlR w s (.panicked [{ v := .iface 28 (.int .i64 2), recovered := false }]) w1) := ⟨hb, Or.inl ⟨hd, rfl⟩⟩
    clear hF hb hd
    simp [Exit.inBlock, Exit.then, bodyPost]
    exact KF.out
  · have KF : Hid (FlR w s (.returned v) w1) := ⟨hb, Or.inr ⟨y, v, hd, rfl, how⟩⟩
    clear hF hb hd how
    go_wp2
    go_ret
    exact KF.out
/-- What FromLetters answers, of a text that is not too long. -/
def FrR (w : World) (s : List UInt8) (e : Value) (w' : World) : Prop := Below w.heap.size w w' ∧ ((dec s = none ∧ e = .tuple #[.slice none 0 0, .int .i64 2]) ∨ ∃ y v, dec s = some y ∧ e = .tuple #[v, .int .i64 0] ∧ w'.ownsRow w.heap.size 5 1 v y.length (Lib.byteCells y))
set_option maxHeartbeats 1000000 in
theorem caught_c (s : List UInt8) (hs : s.length ≤ 131072) (bx : Nat) (w : World) (hc : w.cell? ⟨bx, 0, none⟩ = some (.string ⟨s.toArray⟩)) : Calls Tryd.prog 27 #[.func (.func 78) #[] #[.pointer (some ⟨bx, 0, none⟩)]] w (RetW (FrR w s)) := by
  have hmf : ∀ (fn : Fn) (first cap : Array Value) (w : World), (Instr.makeFunc fn first cap).run Tryd.prog w = .ok (.func fn first cap) w := fun _ _ _ _ => rfl
  have hb0 : Below w.heap.size w (w.alloc (.cells #[.int .i64 0] 28)) := (Below.refl _ _).alloc (Nat.le_refl _) _
  have hF := fl1_c s hs bx (w.alloc (.cells #[.int .i64 0] 28)) (by rw [hb0.cell (p := ⟨bx, 0, none⟩) (World.block_lt_of_cell? _ _ hc)]; exact hc)
  have hs1 : (w.alloc (.cells #[.int .i64 0] 28)).heap.size = w.heap.size + 1 := World.size_alloc _ _
  have c0 : (w.alloc (.cells #[.int .i64 0] 28)).cell? ⟨w.heap.size, 0, none⟩ = some (.int .i64 0) := by simp
  have z0 : (w.alloc (.cells #[.int .i64 0] 28)).frozen? ⟨w.heap.size, 0, none⟩ = false := by simp
  clear hc
  go_enter_defers Tryd.func27, Tryd.ntmps27
  go_wp2_with fail
  refine hF.mono ?_
  rintro e w2 ⟨hb, ⟨hd, rfl⟩ | ⟨y, v, hd, rfl, how⟩⟩
  · have hlt : w.heap.size < (w.alloc (.cells #[.int .i64 0] 28)).heap.size := by omega
    have c2 : w2.cell? ⟨w.heap.size, 0, none⟩ = some (.int .i64 0) := by rw [hb.cell (p := ⟨w.heap.size, 0, none⟩) hlt]; exact c0
    have z2 : w2.frozen? ⟨w.heap.size, 0, none⟩ = false := by rw [World.frozen?_of_block (a := ⟨w.heap.size, 0, none⟩) (hb.block w.heap.size hlt)]; exact z0
    have KF : Hid (FrR w s (.tuple #[.slice none 0 0, .int .i64 2]) (w2.setCell ⟨w.heap.size, 0, none⟩ (.int .i64 2))) := ⟨(hb0.trans (hb.mono (by omega))).setCell (p := ⟨w.heap.size, 0, none⟩) (Nat.le_refl _) _, Or.inl ⟨hd, rfl⟩⟩
    have c3 : (w2.setCell ⟨w.heap.size, 0, none⟩ (.int .i64 2)).cell? ⟨w.heap.size, 0, none⟩ = some (.int .i64 2) := World.cell?_setCell_same _ _ _ c2
    clear hF hb hd hb0 c0 z0
    show bodyPostD _ _ _ _ _ _
    refine leaves_cons (f := 44) (args := #[.pointer (some ⟨w.heap.size, 0, none⟩)]) (by simp) (by simp [go_sem]) ?_
    refine (catch_p ⟨w.heap.size, 0, none⟩ 0 28 _ [] _ c2 z2).mono ?_
    rintro e u' w'' ⟨rfl, rfl, rfl⟩
    simp [Leaves, settle, results, Tryd.results27, go_sem, c3]
    exact ⟨_, rfl, KF.out⟩
  · have hlt : w.heap.size < (w.alloc (.cells #[.int .i64 0] 28)).heap.size := by omega
    have c2 : w2.cell? ⟨w.heap.size, 0, none⟩ = some (.int .i64 0) := by rw [hb.cell (p := ⟨w.heap.size, 0, none⟩) hlt]; exact c0
    have z2 : w2.frozen? ⟨w.heap.size, 0, none⟩ = false := by rw [World.frozen?_of_block (a := ⟨w.heap.size, 0, none⟩) (hb.block w.heap.size hlt)]; exact z0
    have KF : Hid (FrR w s (.tuple #[v, .int .i64 0]) (w2.setCell ⟨w.heap.size, 0, none⟩ (.int .i64 0))) := by
      refine ⟨(hb0.trans (hb.mono (by omega))).setCell (p := ⟨w.heap.size, 0, none⟩) (Nat.le_refl _) _, Or.inr ⟨y, v, hd, rfl, ?_⟩⟩
      obtain ⟨m1, m2⟩ := how
      refine ⟨m1, ?_⟩
      rcases m2 with m2 | ⟨g, cap, cur, m3, m4, m5, m6⟩
      · exact Or.inl m2
      · refine Or.inr ⟨g, cap, cur, m3, by omega, ?_, m6⟩
        rw [heap_setCell_other w2 ⟨w.heap.size, 0, none⟩ g _ (by show g ≠ w.heap.size; omega)]
        exact m5
    have c3 : (w2.setCell ⟨w.heap.size, 0, none⟩ (.int .i64 0)).cell? ⟨w.heap.size, 0, none⟩ = some (.int .i64 0) := World.cell?_setCell_same _ _ _ c2
    clear hF hb hd hb0 c0 z0 how
    go_wp2
    refine leaves_cons (f := 44) (args := #[.pointer (some ⟨w.heap.size, 0, none⟩)]) (by simp) (by simp [go_sem]) ?_
    refine (catch_i ⟨w.heap.size, 0, none⟩ _).mono ?_
    rintro e u' w'' ⟨rfl, rfl, rfl⟩
    simp [Leaves, settle, results, Tryd.results27, go_sem, c3]
    exact ⟨_, rfl, KF.out⟩
theorem from_c (s : List UInt8) (hs : s.length ≤ 131072) (w : World) : Calls Tryd.prog 55 #[.string ⟨s.toArray⟩] w (RetW (FrR w s)) := by
  obtain ⟨S, hS⟩ : ∃ S, Hid (S = (⟨s.toArray⟩ : ByteArray)) := ⟨_, rfl⟩
  have hsz : S.size = s.length := by rw [hS.out]; exact sizeS s
  have hmf : ∀ (fn : Fn) (first cap : Array Value) (w : World), (Instr.makeFunc fn first cap).run Tryd.prog w = .ok (.func fn first cap) w := fun _ _ _ _ => rfl
  have hb0 : Below w.heap.size w (w.alloc (.cells #[.string S] 9)) := (Below.refl _ _).alloc (Nat.le_refl _) _
  have hC := caught_c s hs w.heap.size (w.alloc (.cells #[.string S] 9)) (by rw [← hS.out]; simp)
  have g : ¬ (131072 : Int) < (s.length : Int) := by omega
  rw [← hS.out]
  go_enter Tryd.func55, Tryd.ntmps55
  go_wp2_with fail
  refine hC.mono ?_
  rintro e w2 ⟨v2, rfl, hb, h⟩
  have hs1 : (w.alloc (.cells #[.string S] 9)).heap.size = w.heap.size + 1 := World.size_alloc _ _
  rcases h with ⟨hd, rfl⟩ | ⟨y, v, hd, rfl, how⟩
  · have KF : Hid (FrR w s (.tuple #[.slice none 0 0, .int .i64 2]) w2) := ⟨hb0.trans (hb.mono (by omega)), Or.inl ⟨hd, rfl⟩⟩
    clear hC hb hd hb0
    go_wp2
    go_ret2
    exact ⟨_, rfl, KF.out⟩
  · have KF : Hid (FrR w s (.tuple #[v, .int .i64 0]) w2) := by
      refine ⟨hb0.trans (hb.mono (by omega)), Or.inr ⟨y, v, hd, rfl, ?_⟩⟩
      obtain ⟨m1, m2⟩ := how
      refine ⟨m1, ?_⟩
      rcases m2 with m2 | ⟨g, cap, cur, m3, m4, m6⟩
      · exact Or.inl m2
      · exact Or.inr ⟨g, cap, cur, m3, by omega, m6⟩
    obtain ⟨q, c, rfl⟩ := slice_own how
    clear hC hb hd hb0 how
    go_wp2
    go_ret2
    exact ⟨_, rfl, KF.out⟩
theorem from_n (S : ByteArray) (hs : 131072 < S.size) (w : World) : Calls Tryd.prog 55 #[.string S] w (RetW fun e w' => Below w.heap.size w w' ∧ e = .tuple #[.slice none 0 0, .int .i64 1]) := by
  have g : (131072 : Int) < (S.size : Int) := by omega
  have hb0 : Below w.heap.size w (w.alloc (.cells #[.string S] 9)) := (Below.refl _ _).alloc (Nat.le_refl _) _
  go_enter Tryd.func55, Tryd.ntmps55
  go_wp2
  go_ret2
  exact ⟨_, rfl, hb0, rfl⟩
end Go.Proofs.YtfkgfcggcfkkiaaDoor
namespace Go.Proofs.YtfkgfcggcfkkiaaDoor
namespace WI
/-- An item, as it is. -/
inductive Itm where
  | mk (k : Int) (n : Nat) (d : List UInt8) (l : List Itm)
/-- So many bytes of a number, the highest first. -/
def beN : Nat → Nat → List UInt8
  | 0, _ => []
  | s + 1, n => UInt8.ofNat (n / 256 ^ s) :: beN s n
/-- In how many bytes a head's number follows; what the five lowest bits say then. -/
def hsz (n : Nat) : Nat := if n < 256 then 1 else if n < 65536 then 2 else if n < 4294967296 then 4 else 8
def hlo (n : Nat) : Nat := if n < 256 then 24 else if n < 65536 then 25 else if n < 4294967296 then 26 else 27
/-- The head. -/
def hd (k n : Nat) : List UInt8 := if n < 24 then [UInt8.ofNat (32 * k + n)] else UInt8.ofNat (32 * k + hlo n) :: beN (hsz n) n
/-- The keys among bytes: those at the even places rise. -/
def ltB : List UInt8 → List UInt8 → Bool
  | [], [] => false
  | [], _ :: _ => true
  | _ :: _, [] => false
  | a :: r, b :: s => if a < b then true else if a = b then ltB r s else false
def rise : List UInt8 → List (List UInt8) → Bool
  | last, k :: _ :: r => ltB last k && rise k r
  | last, [k] => ltB last k
  | _, [] => true
mutual
/-- The bytes of an item, whatever it is. -/
def byt : Itm → List UInt8
  | .mk k n d l => if k = 2 ∨ k = 3 then hd k.toNat d.length ++ d else if k = 4 then hd 4 l.length ++ (byts l).flatten else if k = 5 then hd 5 (l.length / 2) ++ (byts l).flatten else hd k.toNat n
def byts : List Itm → List (List UInt8)
  | [] => []
  | i :: r => byt i :: byts r
end
mutual
def dep : Itm → Nat
  | .mk _ _ _ l => deps l + 1
def deps : List Itm → Nat
  | [] => 0
  | i :: r => max (dep i) (deps r)
end
mutual
def cnt : Itm → Nat
  | .mk _ _ _ l => cnts l + 1
def cnts : List Itm → Nat
  | [] => 0
  | i :: r => cnt i + cnts r
end
/-- What an item's own fields tell. -/
def own (u : List UInt8 → Bool) (k : Int) (n : Nat) (d : List UInt8) (m : Nat) : Bool :=
  if k = 0 ∨ k = 1 then d.length == 0 && m == 0
  else if k = 2 then n == 0 && m == 0
  else if k = 3 then n == 0 && m == 0 && u d
  else if k = 4 then n == 0 && d.length == 0
  else if k = 5 then n == 0 && d.length == 0 && m % 2 == 0
  else if k = 7 then d.length == 0 && m == 0 && (n == 20 || n == 21 || n == 22)
  else false
mutual
def shp (u : List UInt8 → Bool) : Itm → Bool
  | .mk k n d l => own u k n d l.length && (k != 5 || rise [] (byts l)) && shps u l
def shps (u : List UInt8 → Bool) : List Itm → Bool
  | [] => true
  | i :: r => shp u i && shps u r
end
/-- Whether it can be written, behind what is written. -/
def wok (u : List UInt8 → Bool) (i : Itm) (d n o : Nat) : Prop := shp u i = true ∧ d + dep i ≤ 16 ∧ n + cnt i ≤ 4096 ∧ o + (byt i).length ≤ 65536
theorem byts_length : ∀ l : List Itm, (byts l).length = l.length
  | [] => rfl
  | i :: r => by rw [byts, List.length_cons, List.length_cons, byts_length r]
theorem byts_take : ∀ (l : List Itm) (j : Nat), byts (l.take j) = (byts l).take j
  | [], j => by simp [byts]
  | i :: r, 0 => by simp [byts]
  | i :: r, j + 1 => by rw [List.take_succ_cons, byts, byts, List.take_succ_cons, byts_take r j]
theorem byts_append : ∀ (l m : List Itm), byts (l ++ m) = byts l ++ byts m
  | [], m => by simp [byts]
  | i :: r, m => by rw [List.cons_append, byts, byts, byts_append r m, List.cons_append]
theorem cnts_append : ∀ (l m : List Itm), cnts (l ++ m) = cnts l + cnts m
  | [], m => by simp [cnts]
  | i :: r, m => by rw [List.cons_append, cnts, cnts, cnts_append r m]; omega
theorem deps_append : ∀ (l m : List Itm), deps (l ++ m) = max (deps l) (deps m)
  | [], m => by simp [deps]
  | i :: r, m => by rw [List.cons_append, deps, deps, deps_append r m]; omega
theorem shps_append (u : List UInt8 → Bool) : ∀ (l m : List Itm), shps u (l ++ m) = (shps u l && shps u m)
  | [], m => by simp [shps]
  | i :: r, m => by rw [List.cons_append, shps, shps, shps_append u r m, Bool.and_assoc]
theorem beN_length : ∀ s n, (beN s n).length = s
  | 0, _ => rfl
  | s + 1, n => by rw [beN, List.length_cons, beN_length s n]
theorem hd_pos (k n : Nat) : 0 < (hd k n).length := by
  unfold hd
  split <;> simp
theorem hd_le (k n : Nat) : (hd k n).length ≤ 9 := by
  unfold hd
  split
  · simp
  · rw [List.length_cons, beN_length]
    unfold hsz
    split <;> (try split) <;> (try split) <;> omega
theorem byt_pos (i : Itm) : 0 < (byt i).length := by
  cases i with
  | mk k n d l =>
    unfold byt
    split
    · have := hd_pos k.toNat d.length
      rw [List.length_append]; omega
    · split
      · have := hd_pos 4 l.length
        rw [List.length_append]; omega
      · split
        · have := hd_pos 5 (l.length / 2)
          rw [List.length_append]; omega
        · exact hd_pos _ _
theorem flat_snoc (L : List (List UInt8)) (b : List UInt8) : (L ++ [b]).flatten = L.flatten ++ b := by simp
/-- Whether a list's items can be written, one behind the other. -/
def wokS (u : List UInt8 → Bool) (l : List Itm) (d n o : Nat) : Prop := shps u l = true ∧ (l ≠ [] → d + deps l ≤ 16) ∧ n + cnts l ≤ 4096 ∧ o + (byts l).flatten.length ≤ 65536
theorem dep_pos (i : Itm) : 1 ≤ dep i := by
  cases i with
  | mk k n d l => rw [dep]; omega
theorem cnt_pos (i : Itm) : 1 ≤ cnt i := by
  cases i with
  | mk k n d l => rw [cnt]; omega
theorem wokS_nil (u : List UInt8 → Bool) (d n o : Nat) (hn : n ≤ 4096) (ho : o ≤ 65536) : wokS u [] d n o := ⟨rfl, fun h => absurd rfl h, by rw [cnts]; omega, by rw [byts]; simpa using ho⟩
theorem wokS_snoc (u : List UInt8 → Bool) (l : List Itm) (i : Itm) (d n o : Nat) : wokS u (l ++ [i]) d n o ↔ wokS u l d n o ∧ wok u i d (n + cnts l) (o + (byts l).flatten.length) := by
  unfold wokS wok
  rw [shps_append, cnts_append, byts_append, deps_append]
  simp only [shps, cnts, deps, byts, Bool.and_true, Bool.and_eq_true, List.flatten_append, List.length_append, List.flatten_cons, List.flatten_nil, List.append_nil, ne_eq, List.append_eq_nil_iff, List.cons_ne_nil, and_false, not_false_eq_true, forall_const]
  constructor
  · rintro ⟨⟨h1, h2⟩, h3, h4, h5⟩
    exact ⟨⟨h1, fun _ => by omega, by omega, by omega⟩, h2, by omega, by omega, by omega⟩
  · rintro ⟨⟨h1, h3, h4, h5⟩, h2, h6, h7, h8⟩
    refine ⟨⟨h1, h2⟩, ?_, by omega, by omega⟩
    cases l with
    | nil => rw [deps]; omega
    | cons a r => have := h3 (by simp); omega
theorem wokS_app (u : List UInt8 → Bool) (l m : List Itm) (d n o : Nat) (h : wokS u (l ++ m) d n o) : wokS u l d n o := by
  unfold wokS at h ⊢
  rw [shps_append, cnts_append, byts_append, deps_append] at h
  simp only [Bool.and_eq_true, List.flatten_append, List.length_append] at h
  obtain ⟨⟨h1, h2⟩, h3, h4, h5⟩ := h
  refine ⟨h1, fun hl => ?_, by omega, by omega⟩
  have := h3 (by simp [hl])
  omega
/-- The last key. -/
def lastK : List UInt8 → List (List UInt8) → List UInt8
  | _, k :: _ :: r => lastK k r
  | a, _ => a
theorem rise_app2 (k v : List UInt8) : ∀ (L : List (List UInt8)) (a : List UInt8), L.length % 2 = 0 → rise a (L ++ [k, v]) = (rise a L && ltB (lastK a L) k)
  | [], a, _ => by simp [rise, lastK]
  | [x], a, h => by simp at h
  | x :: y :: r, a, h => by
    have h2 : r.length % 2 = 0 := by simp at h; omega
    rw [List.cons_append, List.cons_append, rise, rise, lastK, rise_app2 k v r x h2, Bool.and_assoc]
theorem lastK_app2 (k v : List UInt8) : ∀ (L : List (List UInt8)) (a : List UInt8), L.length % 2 = 0 → lastK a (L ++ [k, v]) = k
  | [], a, _ => by simp [lastK]
  | [x], a, h => by simp at h
  | x :: y :: r, a, h => by
    have h2 : r.length % 2 = 0 := by simp at h; omega
    rw [List.cons_append, List.cons_append, lastK, lastK_app2 k v r x h2]
theorem rise_app (m : List (List UInt8)) : ∀ (L : List (List UInt8)) (a : List UInt8), L.length % 2 = 0 → rise a (L ++ m) = (rise a L && rise (lastK a L) m)
  | [], a, _ => by simp [rise, lastK]
  | [x], a, h => by simp at h
  | x :: y :: r, a, h => by
    have h2 : r.length % 2 = 0 := by simp at h; omega
    rw [List.cons_append, List.cons_append, rise, rise, lastK, rise_app m r x h2, Bool.and_assoc]
/-- An item with items: what it takes. -/
theorem wok_list (u : List UInt8 → Bool) (k : Int) (n : Nat) (dd : List UInt8) (l : List Itm) (d m o : Nat) (hk : k = 4 ∨ k = 5) :
    wok u (.mk k n dd l) d m o ↔ (own u k n dd l.length = true ∧ d + 1 ≤ 16 ∧ m + 1 ≤ 4096 ∧ o + (hd k.toNat (if k = 5 then l.length / 2 else l.length)).length ≤ 65536) ∧ (k = 5 → rise [] (byts l) = true) ∧ wokS u l (d + 1) (m + 1) (o + (hd k.toNat (if k = 5 then l.length / 2 else l.length)).length) := by
  unfold wok wokS
  have hb : byt (.mk k n dd l) = hd k.toNat (if k = 5 then l.length / 2 else l.length) ++ (byts l).flatten := by
    rcases hk with rfl | rfl <;> simp [byt]
  rw [hb, shp, dep, cnt, List.length_append]
  have h5 : ((k != 5 || rise [] (byts l)) = true) ↔ (k = 5 → rise [] (byts l) = true) := by
    rcases hk with rfl | rfl <;> simp
  simp only [Bool.and_eq_true, h5]
  constructor
  · rintro ⟨⟨⟨h1, h2⟩, h3⟩, h4, h6, h7⟩
    exact ⟨⟨h1, by omega, by omega, by omega⟩, h2, h3, fun _ => by omega, by omega, by omega⟩
  · rintro ⟨⟨h1, h4, h6, h7⟩, h2, h3, h8, h9, h10⟩
    refine ⟨⟨⟨h1, h2⟩, h3⟩, ?_, by omega, by omega⟩
    cases l with
    | nil => rw [deps]; omega
    | cons a r => have := h8 (by simp); omega
/-- An item without. -/
theorem wok_leaf (u : List UInt8 → Bool) (k : Int) (n : Nat) (dd : List UInt8) (l : List Itm) (d m o : Nat) (hk : k = 0 ∨ k = 1 ∨ k = 2 ∨ k = 3 ∨ k = 7) :
    wok u (.mk k n dd l) d m o ↔ own u k n dd l.length = true ∧ d + 1 ≤ 16 ∧ m + 1 ≤ 4096 ∧ o + (hd k.toNat (if k = 2 ∨ k = 3 then dd.length else n)).length + (if k = 2 ∨ k = 3 then dd.length else 0) ≤ 65536 := by
  unfold wok
  have hb : (byt (.mk k n dd l)).length = (hd k.toNat (if k = 2 ∨ k = 3 then dd.length else n)).length + (if k = 2 ∨ k = 3 then dd.length else 0) := by
    rcases hk with rfl | rfl | rfl | rfl | rfl <;> simp [byt]
  rw [hb, shp, dep, cnt]
  have hl : own u k n dd l.length = true → l = [] := by
    intro h
    rcases hk with rfl | rfl | rfl | rfl | rfl <;> (simp [own] at h; simp_all)
  have h5 : (k != 5 || rise [] (byts l)) = true := by
    rcases hk with rfl | rfl | rfl | rfl | rfl <;> simp
  simp only [Bool.and_eq_true, h5, and_true]
  constructor
  · rintro ⟨⟨h1, h3⟩, h4, h6, h7⟩
    exact ⟨h1, by omega, by omega, by omega⟩
  · rintro ⟨h1, h4, h6, h7⟩
    have := hl h1
    subst this
    refine ⟨⟨h1, rfl⟩, ?_, ?_, by omega⟩
    · rw [deps]; omega
    · rw [cnts]; omega
theorem own_kind (u : List UInt8 → Bool) (k : Int) (n : Nat) (dd : List UInt8) (m : Nat) (h : own u k n dd m = true) : k = 0 ∨ k = 1 ∨ k = 2 ∨ k = 3 ∨ k = 4 ∨ k = 5 ∨ k = 7 := by
  unfold own at h
  split at h
  · omega
  · repeat (first | omega | (split at h))
    exact absurd h (by decide)
end WI
end Go.Proofs.YtfkgfcggcfkkiaaDoor
namespace Go.Proofs.YtfkgfcggcfkkiaaDoor
open Go.RowKit Go.Sort Go.Deep
namespace WI
/-- All blocks but those of X are as they were. -/
structure FrX (X : Nat → Prop) (w w' : World) : Prop where
  os : w'.os = w.os
  tape : w'.tape = w.tape
  output : w'.output = w.output
  size : w.heap.size ≤ w'.heap.size
  block : ∀ k, k < w.heap.size → ¬ X k → w'.heap[k]? = w.heap[k]?
theorem FrX.of {X : Nat → Prop} {w w' : World} (h : Below w.heap.size w w') : FrX X w w' := ⟨h.os, h.tape, h.output, h.size, fun k hk _ => h.block k hk⟩
theorem FrX.refl (X : Nat → Prop) (w : World) : FrX X w w := ⟨rfl, rfl, rfl, Nat.le_refl _, fun _ _ _ => rfl⟩
theorem FrX.trans {X Y : Nat → Prop} {a b c : World} (h : FrX X a b) (k : FrX Y b c) (hY : ∀ k, Y k → X k ∨ a.heap.size ≤ k) : FrX X a c :=
  ⟨k.os.trans h.os, k.tape.trans h.tape, k.output.trans h.output, Nat.le_trans h.size k.size, fun i hi hx => (k.block i (Nat.lt_of_lt_of_le hi h.size) (fun hy => by
    rcases hY i hy with h1 | h1
    · exact hx h1
    · omega)).trans (h.block i hi hx)⟩
theorem FrX.below {X : Nat → Prop} {w w' : World} {B : Nat} (h : FrX X w w') (hX : ∀ k, X k → B ≤ k) (hB : B ≤ w.heap.size) : Below B w w' :=
  ⟨h.os, h.tape, h.output, h.size, fun k hk => h.block k (by omega) (fun hx => by have := hX k hx; omega)⟩
theorem blk_other (w : World) (a : Addr) (v : Value) (k : Nat) (h : k ≠ a.block) : (w.setCell a v).heap[k]? = w.heap[k]? := heap_setCell_other w a k v h
theorem FrX.setCell {X : Nat → Prop} {w w' : World} (h : FrX X w w') {a : Addr} (ha : X a.block ∨ w.heap.size ≤ a.block) (v : Value) : FrX X w (w'.setCell a v) :=
  ⟨h.os, h.tape, h.output, by rw [World.size_setCell]; exact h.size, fun k hk hx => by
    rw [blk_other w' a v k (fun e => by
      rcases ha with ha | ha
      · exact hx (by rw [e]; exact ha)
      · omega)]
    exact h.block k hk hx⟩
theorem FrX.grown {X : Nat → Prop} {a w w' : World} {row : Option Nat} (h : FrX X a w) (hg : w.grownBy w' row) (hr : ∀ k, row = some k → X k ∨ a.heap.size ≤ k) : FrX X a w' :=
  ⟨hg.os.trans h.os, hg.tape.trans h.tape, hg.output.trans h.output, Nat.le_trans h.size hg.size, fun k hk hx => by
    rw [hg.block k (Nat.lt_of_lt_of_le hk h.size) (fun e => by
      rcases hr k e.symm with h1 | h1
      · exact hx h1
      · omega)]
    exact h.block k hk hx⟩
theorem FrX.belowTo {X : Nat → Prop} {a w w' : World} (h : FrX X a w) (hb : Below w.heap.size w w') : FrX X a w' := h.trans (FrX.of (X := X) hb) (fun _ hk => Or.inl hk)
/-- A row of cells that lies in a block, and may be written. -/
def RowS (W : World) (k : Nat) (vs : List Value) : Prop := k < W.heap.size ∧ W.rangeAt k 0 vs ∧ W.there k 0 vs.length
theorem RowS.at {W W' : World} {k : Nat} {vs : List Value} (h : RowS W k vs) (hs : W.heap.size ≤ W'.heap.size) (e : W'.heap[k]? = W.heap[k]?) : RowS W' k vs := by
  refine ⟨Nat.lt_of_lt_of_le h.1 hs, fun j v hj => ?_, fun j hj => ?_⟩
  · rw [World.cell?_of_block (a := ⟨k, 0 + j, none⟩) e]; exact h.2.1 j v hj
  · have := h.2.2 j hj
    rw [World.cell?_of_block (a := ⟨k, 0 + j, none⟩) e, World.frozen?_of_block (a := ⟨k, 0 + j, none⟩) e]
    exact this
theorem RowS.cell {W : World} {k : Nat} {vs : List Value} (h : RowS W k vs) (i : Nat) (v : Value) (hv : vs[i]? = some v) : W.cell? ⟨k, i, none⟩ = some v := by
  have := h.2.1 i v hv
  rw [Nat.zero_add] at this
  exact this
theorem RowS.free {W : World} {k : Nat} {vs : List Value} (h : RowS W k vs) (i : Nat) (hi : i < vs.length) : W.frozen? ⟨k, i, none⟩ = false := by
  have := (h.2.2 i hi).2
  rw [Nat.zero_add] at this
  exact this
theorem own_at {B n size : Nat} {e : TypeId} {w w' : World} {v : Value} {xs : List Value} (h : w.ownsRow B e size v n xs) (hb : ∀ k, v.ownBlock = some k → w'.heap[k]? = w.heap[k]?) : w'.ownsRow B e size v n xs := by
  rcases h with ⟨h0, h1 | ⟨g, cap, cur, h1, h2, h3, h4⟩⟩
  · exact ⟨h0, Or.inl h1⟩
  · refine ⟨h0, Or.inr ⟨g, cap, cur, h1, h2, ?_, h4⟩⟩
    rw [hb g (by rw [h1]; rfl)]
    exact h3
theorem own_lt {B n size : Nat} {e : TypeId} {w : World} {v : Value} {xs : List Value} (h : w.ownsRow B e size v n xs) (k : Nat) (hk : v.ownBlock = some k) : B ≤ k ∧ k < w.heap.size := h.lt k hk
theorem addS0 (g o j : Nat) : (⟨g, o, none⟩ : Addr).add j = ⟨g, o + j, none⟩ := by
  unfold Addr.add
  by_cases h0 : j = 0
  · subst h0; rw [if_pos rfl]; rfl
  · rw [if_neg h0]
theorem nextcap_le (n c : Nat) (h : c < n) : Builtin.nextslicecap n c ≤ 2 * n + 768 := by
  unfold Builtin.nextslicecap
  split
  · omega
  · split
    · omega
    · simp only [Builtin.growBy]
      repeat' split
      all_goals omega
/-- 'append(l, x...)', l a row of one's own: where the new row lies. -/
theorem own_block {base n m size c : Nat} {T e : TypeId} {i : TypeInfo} {z : Value} {W W' : World} {v v' : Value} {xs news : List Value} {a : Addr} (hT : Tryd.prog.underlying T = some (.slice e)) (hi : Tryd.prog.info? e = some i) (hz : i.zero = some z) (hsz : i.size = size) (hby : i.bytes ≤ 1000)
    (hown : W.ownsRow base e size v n xs) (hs : Src Tryd.prog size T (.slice (some a) m c) m news W) (hn : n + m ≤ 1000000000)
    (hr : (Builtin.append_ #[T, T] T #[v, .slice (some a) m c]).run Tryd.prog W = .ok v' W') : v'.ownBlock = v.ownBlock ∨ (v'.ownBlock = some W.heap.size ∧ Below W.heap.size W W') := by
  subst hsz
  have hgrow : ∀ (q : Option Addr) (cap : Nat) (olds : List Value), v = .slice q n cap → cap < n + m → (Builtin.firstCells i.size n (.slice q n cap)).run Tryd.prog W.drew = .ok olds.toArray W.drew → v'.ownBlock = v.ownBlock ∨ (v'.ownBlock = some W.heap.size ∧ Below W.heap.size W W') := fun q cap olds hv hc hold => by
    have h1 := nextcap_le (n + m) cap hc
    have h2 : Builtin.nextslicecap (n + m) cap * i.bytes ≤ (2 * (n + m) + 768) * 1000 := Nat.mul_le_mul h1 hby
    have hap := run_append_grow_src (P := Tryd.prog) W T T T e i z hT hi hz q n cap olds hold (.slice (some a) m c) m news hs hc (by omega) (Nat.le_trans h2 (by clear h1 h2; omega))
    rw [hv, hap] at hr
    injection hr with hr1 hr2
    right
    refine ⟨by rw [← hr1]; rfl, ?_⟩
    rw [← hr2]
    exact (⟨rfl, rfl, rfl, Nat.le_refl _, fun _ _ => rfl⟩ : Below W.heap.size W W.drew).trans ((Below.refl _ W.drew).alloc (Nat.le_refl _) _)
  rcases id hown with ⟨-, ⟨rfl, rfl⟩ | ⟨g, cap, cur, rfl, g1, g2, g3, g4, g5, g6⟩⟩
  · by_cases hm : m = 0
    · subst hm
      have hr' := hr
      obtain ⟨w1, hr2⟩ : ∃ w1, (Builtin.append_ #[T, T] T #[.slice none 0 0, .slice (some a) 0 c]).run Tryd.prog W = .ok (.slice none 0 0) w1 := by
        rcases hs.kind with ⟨e', hk⟩ | hk <;> exact ⟨_, by simp [Builtin.append_, run_underlying hT, run_underlying hk, sizeOf, typeInfo, hi, hs.len, hs.cells]; rfl⟩
      rw [hr2] at hr
      injection hr with hr1 hr2
      left
      rw [← hr1]
    · exact hgrow none 0 [] rfl (by omega) (run_firstCells_none W.drew i.size 0 0 0)
  · by_cases hroom : n + m ≤ cap
    · have hap := run_append_room_src (P := Tryd.prog) W T T T e i hT hi g 0 n cap (.slice (some a) m c) m news hs hroom
        (fun j hj => by
          have hj2 : n * i.size + j < cur.size := by
            rw [g5]
            have h1 : j < m * i.size := by rw [← hs.newsLen]; exact hj
            have h2 : (n + m) * i.size ≤ cap * i.size := Nat.mul_le_mul_right _ hroom
            rw [Nat.add_mul] at h2
            omega
          simp [World.cell?, g2, Nat.zero_add, Array.getElem?_eq_getElem hj2])
        (fun j hj => by simp [World.frozen?, g2])
      rw [hap] at hr
      injection hr with hr1 hr2
      left
      rw [← hr1]
      rfl
    · refine hgrow (some ⟨g, 0, none⟩) cap xs rfl (by omega) ?_
      exact run_firstCells_some W.drew i.size n ⟨g, 0, none⟩ n cap xs hown.1 (fun j u hj => by rw [World.cell?_drew]; exact hown.cells (g := g) rfl j u hj)
theorem bc_one (l : List UInt8) : ∀ v ∈ Lib.byteCells l, v.oneCell' = true := by
  intro v hv
  simp only [Lib.byteCells, List.mem_map] at hv
  obtain ⟨b, _, rfl⟩ := hv
  rfl
/-- 'append(l, x...)', l a row of bytes of one's own, x any bytes; not both nil. -/
theorem own_appW {base : Nat} {q : Option Addr} {m c : Nat} {W : World} {v : Value} {xs x : List UInt8} (hown : W.ownsRow base 5 1 v xs.length (Lib.byteCells xs)) (hx : PB W (.slice q m c) x) (hv : v.ownBlock ≠ none ∨ q ≠ none) (hn : xs.length + x.length ≤ 1000000000) (hb : base ≤ W.heap.size) :
    ∃ q' n' c' W', (Builtin.append_ #[22, 22] 22 #[v, .slice q m c]).run Tryd.prog W = .ok (.slice q' n' c') W' ∧ W'.ownsRow base 5 1 (.slice q' n' c') (xs ++ x).length (Lib.byteCells (xs ++ x)) ∧ W.grownBy W' v.ownBlock ∧ ((Value.slice q' n' c').ownBlock = v.ownBlock ∨ ((Value.slice q' n' c').ownBlock = some W.heap.size ∧ Below W.heap.size W W')) ∧ (0 < (xs ++ x).length → (Value.slice q' n' c').ownBlock ≠ none) := by
  obtain ⟨i, hi, he⟩ := Option.map_eq_some_iff.1 infoB
  simp only [Prod.mk.injEq] at he
  obtain ⟨h1, h2, h3⟩ := he
  obtain ⟨z, hz, hz2⟩ := Option.map_eq_some_iff.1 h3
  obtain ⟨q0, c0, hqe, hs⟩ := hx
  obtain ⟨rfl, rfl, rfl⟩ : q = q0 ∧ m = x.length ∧ c = c0 := by simpa using hqe
  rw [Lib.byteCells_append, List.length_append]
  cases q with
  | none =>
    obtain rfl : x = [] := by
      rcases hs with h | ⟨b, o, h, -⟩
      · exact h
      · cases h
    have hv' : v.ownBlock ≠ none := by
      rcases hv with h | h
      · exact h
      · exact absurd rfl h
    rcases id hown with ⟨-, ⟨rfl, h0⟩ | ⟨g, cap, cur, rfl, g1, g2, g3, g4⟩⟩
    · exact absurd rfl hv'
    · have hap := run_append_room_src (P := Tryd.prog) W 22 22 22 5 i undB hi g 0 xs.length cap (.slice none 0 c) 0 [] (Src.ofNil (e' := 5) _ undB c) g3 (fun j hj => by cases hj) (fun j hj => by cases hj)
      refine ⟨_, _, _, _, hap, ?_, ⟨rfl, rfl, rfl, Nat.le_refl _, fun _ _ _ => rfl⟩, Or.inl rfl, fun _ => by simp [Value.ownBlock]⟩
      show W.ownsRow _ _ _ _ _ (Lib.byteCells xs ++ [])
      rw [List.append_nil]
      exact hown
  | some a =>
    have hc : ∀ j u, (Lib.byteCells x)[j]? = some u → W.cell? (a.add j) = some u := fun j u hj => by
      rcases hs with rfl | ⟨b, o, hq, hc⟩
      · cases hj
      · obtain rfl := Option.some.inj hq
        rw [addS0]
        unfold Lib.byteCells at hj
        rw [List.getElem?_map] at hj
        obtain ⟨y, hy, rfl⟩ := Option.map_eq_some_iff.1 hj
        exact hc j y hy
    obtain ⟨v', W', r1, r2, r3, r4⟩ := run_append_own (P := Tryd.prog) W base 22 22 5 i z 1 1 undB hi hz h1 h2 hz2 (by decide) v xs.length (Lib.byteCells xs) hown a x.length c (Lib.byteCells x) (by rw [Lib.byteCells_length]; omega) hc (fun u hu => bc_one x u hu) (by unfold maxLen; omega) (by omega) hb
    obtain ⟨q', c', rfl⟩ := slice_own r2
    have hsrc : Src Tryd.prog 1 22 (.slice (some a) x.length c) x.length (Lib.byteCells x) W := Src.ofSlice (e' := 5) _ undB a x.length c (Lib.byteCells x) (by rw [Lib.byteCells_length, Nat.mul_one]) hc (fun u hu => bc_one x u hu)
    refine ⟨q', _, c', W', r1, r2, r3, own_block undB hi hz h1 (by rw [h2]; decide) hown hsrc hn r1, fun h0 => ?_⟩
    rcases r2.2 with ⟨-, h⟩ | ⟨g, cap, cur, hE, -⟩
    · omega
    · rw [hE]; simp [Value.ownBlock]
end WI
end Go.Proofs.YtfkgfcggcfkkiaaDoor
namespace Go.Proofs.YtfkgfcggcfkkiaaDoor
open Go.RowKit Go.Sort Go.Deep
namespace WI
/-- A function's value; a closure's, with what it has captured. -/
abbrev fnv (f : FuncId) : Value := .func (.func f) #[] #[]
abbrev clo (f : FuncId) (b : Nat) : Value := .func (.func f) #[] #[.pointer (some ⟨b, 0, none⟩)]
def kNum (b : Nat) : Value := .agg #[clo 80 b, fnv 81, fnv 82, fnv 83]
def kDat (b : Nat) : Value := .agg #[clo 84 b, fnv 85, fnv 86, fnv 87]
def kLst (b : Nat) : Value := .agg #[clo 90 b, clo 91 b, clo 92 (b + 1), clo 93 (b + 2)]
theorem alloc_below (w : World) (o : Obj) : Below w.heap.size w (w.alloc o) := (Below.refl _ _).alloc (Nat.le_refl _) _
/-- What it gives: a kind; one box. -/
def OfR (w : World) (n : Nat) (v : Value) (cs : List Value) (e : Value) (w' : World) : Prop := e = v ∧ Below w.heap.size w w' ∧ w'.heap.size = w.heap.size + n ∧ ∀ i c, cs[i]? = some c → w'.cell? ⟨w.heap.size + i, 0, none⟩ = some c
theorem al_c (w : World) (cs : Array Value) (T : TypeId) (k j : Nat) (v : Value) (hk : w.heap.size = k) (h : cs[j]? = some v) : (w.alloc (.cells cs T)).cell? ⟨k, j, none⟩ = some v := by
  subst hk
  unfold World.alloc World.cell?
  simp [h]
theorem al_z (w : World) (cs : Array Value) (T : TypeId) (k j : Nat) (hk : w.heap.size = k) : (w.alloc (.cells cs T)).frozen? ⟨k, j, none⟩ = false := by
  subst hk
  simp
theorem al_old (w : World) (o : Obj) (a : Addr) (v : Value) (h : w.cell? a = some v) : (w.alloc o).cell? a = some v := by
  rw [(alloc_below w o).cell (p := a) (World.block_lt_of_cell? _ _ h)]
  exact h
theorem results_c1 {P : Program} {fn : Func} {tmps : Array Value} {W : World} {k : Nat} {vs : List Value} (t : Tmp) (T : TypeId) (hr : fn.results = #[.cell t T]) (h : W.rangeAt k 0 vs) (ht : tmps[t]? = some (.pointer (some ⟨k, 0, none⟩)))
    (hu : (P.underlying T).map (·.isRow) = some true) (hi : (P.info? T).map (·.size) = some vs.length) : (results fn tmps).run P W = .ok (.agg vs.toArray) W := by
  obtain ⟨d, hu, hd⟩ := Option.map_eq_some_iff.1 hu
  have h1 := run_loadVar_mid (P := P) W k 0 T vs d h hu hd hi
  have h2 : tmps.getD t undef = .pointer (some ⟨k, 0, none⟩) := by rw [Array.getD_eq_getD_getElem?, ht]; rfl
  unfold results
  rw [hr]
  simp only [Array.mapM_eq_mapM_toList, List.mapM_cons, List.mapM_nil, h2, asAddr]
  simp [Sem.run_bind, h1]
theorem uKd : (Tryd.prog.underlying 108).map (·.isRow) = some true := by kernel_rfl
theorem iKd : (Tryd.prog.info? 108).map (·.size) = some 4 := by kernel_rfl
theorem al_r (w : World) (cs : List Value) (T : TypeId) (k : Nat) (hk : w.heap.size = k) : (w.alloc (.cells cs.toArray T)).rangeAt k 0 cs := fun j v hj => by
  rw [Nat.zero_add]
  exact al_c w _ T k j v hk (by simpa using hj)
theorem st_fn (P : Program) (w : World) (a : Addr) (m : Mode) (f : Fn) (x y : Array Value) : (store a (.func f x y) m).run P w = stored P w a (.func f x y) m := run_store P w a _ m rfl
attribute [local go_sem] st_fn
theorem ofNumber_c (f : FuncId) (w : World) : Calls Tryd.prog 59 #[fnv f] w (RetW (OfR w 2 (kNum w.heap.size) [fnv f])) := by
  have hmf : ∀ (fn : Fn) (first cap : Array Value) (w : World), (Instr.makeFunc fn first cap).run Tryd.prog w = .ok (.func fn first cap) w := fun _ _ _ _ => rfl
  go_enter Tryd.func59, Tryd.ntmps59
  go_wp2
  refine bodyPost_ret (results_c1 2 108 rfl (al_r _ _ _ (w.heap.size + 1) (World.size_alloc _ _)) rfl uKd iKd) rfl ?_
  refine ⟨_, rfl, rfl, (alloc_below w _).trans ((alloc_below _ _).mono (by rw [World.size_alloc]; omega)), by rw [World.size_alloc, World.size_alloc], fun i c hi => ?_⟩
  cases i with
  | zero =>
    obtain rfl := Option.some.inj hi
    exact al_old _ _ _ _ (al_c w _ _ _ 0 _ rfl rfl)
  | succ i => cases hi
theorem ofData_c (f : FuncId) (w : World) : Calls Tryd.prog 61 #[fnv f] w (RetW (OfR w 2 (kDat w.heap.size) [fnv f])) := by
  have hmf : ∀ (fn : Fn) (first cap : Array Value) (w : World), (Instr.makeFunc fn first cap).run Tryd.prog w = .ok (.func fn first cap) w := fun _ _ _ _ => rfl
  go_enter Tryd.func61, Tryd.ntmps61
  go_wp2
  refine bodyPost_ret (results_c1 2 108 rfl (al_r _ _ _ (w.heap.size + 1) (World.size_alloc _ _)) rfl uKd iKd) rfl ?_
  refine ⟨_, rfl, rfl, (alloc_below w _).trans ((alloc_below _ _).mono (by rw [World.size_alloc]; omega)), by rw [World.size_alloc, World.size_alloc], fun i c hi => ?_⟩
  cases i with
  | zero =>
    obtain rfl := Option.some.inj hi
    exact al_old _ _ _ _ (al_c w _ _ _ 0 _ rfl rfl)
  | succ i => cases hi
theorem ofItems_c (n : Int) (f g : FuncId) (w : World) : Calls Tryd.prog 63 #[.int .i64 n, fnv f, fnv g] w (RetW (OfR w 4 (kLst w.heap.size) [.int .i64 n, fnv f, fnv g])) := by
  have hmf : ∀ (fn : Fn) (first cap : Array Value) (w : World), (Instr.makeFunc fn first cap).run Tryd.prog w = .ok (.func fn first cap) w := fun _ _ _ _ => rfl
  go_enter Tryd.func63, Tryd.ntmps63
  go_wp2
  refine bodyPost_ret (results_c1 6 108 rfl (al_r _ _ _ (w.heap.size + 3) (by simp only [World.size_alloc])) rfl uKd iKd) rfl ?_
  refine ⟨_, rfl, rfl, (((Below.refl _ w).alloc (Nat.le_refl _) _).alloc (by simp only [World.size_alloc]; omega) _ |>.alloc (by simp only [World.size_alloc]; omega) _).alloc (by simp only [World.size_alloc]; omega) _, by simp only [World.size_alloc], fun i c hi => ?_⟩
  match i, hi with
  | 0, hi =>
    obtain rfl := Option.some.inj hi
    exact al_old _ _ _ _ (al_old _ _ _ _ (al_old _ _ _ _ (al_c w _ _ _ 0 _ rfl rfl)))
  | 1, hi =>
    obtain rfl := Option.some.inj hi
    exact al_old _ _ _ _ (al_old _ _ _ _ (al_c _ _ _ _ 0 _ (World.size_alloc _ _) rfl))
  | 2, hi =>
    obtain rfl := Option.some.inj hi
    exact al_old _ _ _ _ (al_c _ _ _ _ 0 _ (by rw [World.size_alloc, World.size_alloc]) rfl)
  | i + 3, hi => cases hi
/-- The map's entries. -/
def kEnt (k : Int) (v : Value) (c : Nat) : MapEntry := { key := .int .i64 k, val := v, born := c }
theorem undKM : Tryd.prog.underlying 81 = some (.map 3 108) := by kernel_rfl
theorem und3 : Tryd.prog.underlying 3 = some (.int .i64) := by kernel_rfl
theorem chk3 (b : Bool) (k : Int) (w : World) : (Instr.checkKey b 10000 3 (.int .i64 k)).run Tryd.prog w = .ok () w := by
  rw [show (10000 : Nat) = 9999 + 1 from rfl, Instr.checkKey]
  simp [run_underlying und3]
theorem ins_run (m c : Nat) (es : Array MapEntry) (k : Int) (v : Value) (w : World) (hm : w.heap[m]? = some (.map es c)) (hk : Instr.findNow (.int .i64) (.int .i64 k) es.toList 0 = some none) :
    (Instr.mapUpdate 81 (.map (some m)) (.int .i64 k) v).run Tryd.prog w = .ok () (w.putObj m (.map (es.push (kEnt k v c)) (c + 1))) := by
  have h1 := run_underlying undKM w
  have h3 : (Instr.findKey 3 (.int .i64 k) es.toList).run Tryd.prog w = .ok none w := by
    unfold Instr.findKey
    simp only [Sem.run_bind, run_underlying und3 w, Result.andThen_ok, hk, Sem.run_pure]
  have h4 : (getObj m).run Tryd.prog w = .ok (.map es c) w := by simp [getObj, Sem.run, hm]
  unfold Instr.mapUpdate
  simp only [Sem.run_bind, h1, Result.andThen_ok, h4, Sem.run_pure, chk3, h3]
  simp [setObj, Sem.run, hm, World.putObj, kEnt]
def orZ (r : Option (Nat × Value)) (z : Value) : Value := match r with | some x => x.2 | none => z
theorem look_run (m c : Nat) (es : Array MapEntry) (k : Int) (r : Option (Nat × Value)) (z : Value) (w : World) (hm : w.heap[m]? = some (.map es c)) (hk : Instr.findNow (.int .i64) (.int .i64 k) es.toList 0 = some r) (hz : (zeroValue 108).run Tryd.prog w = .ok z w) :
    (Instr.lookup 81 (.map (some m)) (.int .i64 k) true).run Tryd.prog w = .ok (.tuple #[orZ r z, .bool r.isSome]) w := by
  have h1 := run_underlying undKM w
  have h3 : (Instr.findKey 3 (.int .i64 k) es.toList).run Tryd.prog w = .ok r w := by
    unfold Instr.findKey
    simp only [Sem.run_bind, run_underlying und3 w, Result.andThen_ok, hk, Sem.run_pure]
  have h4 : (getObj m).run Tryd.prog w = .ok (.map es c) w := by simp [getObj, Sem.run, hm]
  unfold Instr.lookup
  simp only [Sem.run_bind, h1, Result.andThen_ok, h4, Sem.run_pure, chk3, h3]
  cases r with
  | none => simp [Sem.run_bind, hz, orZ]
  | some x => simp [orZ]
/-- The entries of 'kinds', its map at h. -/
def kEs (h : Nat) : Array MapEntry := #[kEnt 0 (kNum (h + 1)) 0, kEnt 1 (kNum (h + 3)) 1, kEnt 2 (kDat (h + 5)) 2, kEnt 3 (kDat (h + 7)) 3, kEnt 4 (kLst (h + 9)) 4, kEnt 5 (kLst (h + 13)) 5, kEnt 7 (kNum (h + 17)) 6]
/-- What the kinds hold, wherever they are. -/
structure KS (w : World) (h : Nat) : Prop where
  lt : h + 18 < w.heap.size
  m : w.heap[h]? = some (.map (kEs h) 7)
  c0 : w.cell? ⟨h + 1, 0, none⟩ = some (fnv 60)
  c1 : w.cell? ⟨h + 3, 0, none⟩ = some (fnv 60)
  c2 : w.cell? ⟨h + 5, 0, none⟩ = some (fnv 62)
  c3 : w.cell? ⟨h + 7, 0, none⟩ = some (fnv 46)
  c4 : w.cell? ⟨h + 9, 0, none⟩ = some (.int .i64 1)
  c4w : w.cell? ⟨h + 10, 0, none⟩ = some (fnv 64)
  c4r : w.cell? ⟨h + 11, 0, none⟩ = some (fnv 65)
  c5 : w.cell? ⟨h + 13, 0, none⟩ = some (.int .i64 2)
  c5w : w.cell? ⟨h + 14, 0, none⟩ = some (fnv 66)
  c5r : w.cell? ⟨h + 15, 0, none⟩ = some (fnv 67)
  c7 : w.cell? ⟨h + 17, 0, none⟩ = some (fnv 68)
theorem KS.at {w w' : World} {h : Nat} (K : KS w h) (hs : w.heap.size ≤ w'.heap.size) (hb : ∀ k, h ≤ k → k < h + 19 → w'.heap[k]? = w.heap[k]?) : KS w' h := by
  have hc : ∀ j, j < 19 → w'.cell? ⟨h + j, 0, none⟩ = w.cell? ⟨h + j, 0, none⟩ := fun j hj => World.cell?_of_block (a := ⟨h + j, 0, none⟩) (hb (h + j) (by omega) (by omega))
  refine ⟨by have := K.lt; omega, by rw [hb h (by omega) (by omega)]; exact K.m, ?_, ?_, ?_, ?_, ?_, ?_, ?_, ?_, ?_, ?_, ?_⟩
  · rw [hc 1 (by omega)]; exact K.c0
  · rw [hc 3 (by omega)]; exact K.c1
  · rw [hc 5 (by omega)]; exact K.c2
  · rw [hc 7 (by omega)]; exact K.c3
  · rw [hc 9 (by omega)]; exact K.c4
  · rw [hc 10 (by omega)]; exact K.c4w
  · rw [hc 11 (by omega)]; exact K.c4r
  · rw [hc 13 (by omega)]; exact K.c5
  · rw [hc 14 (by omega)]; exact K.c5w
  · rw [hc 15 (by omega)]; exact K.c5r
  · rw [hc 17 (by omega)]; exact K.c7
/-- What is known on the way. -/
structure KB (w : World) (W : World) (n : Nat) (es : List MapEntry) (cs : List (Nat × Value)) : Prop where
  sz : W.heap.size = w.heap.size + n
  bl : Below w.heap.size w W
  m : W.heap[w.heap.size]? = some (.map es.toArray es.length)
  n1 : 1 ≤ n
  c : ∀ x ∈ cs, W.cell? ⟨w.heap.size + x.1, 0, none⟩ = some x.2
theorem KB.step {w W W' : World} {n d : Nat} {es : List MapEntry} {cs : List (Nat × Value)} {v e : Value} {l : List Value} (h : KB w W n es cs) (hr : OfR W d v l e W') : KB w W' (n + d) es (cs ++ l.mapIdx fun i x => (n + i, x)) := by
  obtain ⟨-, r2, r3, r4⟩ := hr
  refine ⟨by rw [r3, h.sz]; omega, h.bl.trans (r2.mono (by rw [h.sz]; omega)), by rw [r2.block _ (by rw [h.sz]; have := h.n1; omega)]; exact h.m, by have := h.n1; omega, fun x hx => ?_⟩
  rcases List.mem_append.1 hx with hx | hx
  · have := h.c x hx
    rw [r2.cell (p := ⟨w.heap.size + x.1, 0, none⟩) (World.block_lt_of_cell? _ _ this)]
    exact this
  · obtain ⟨i, hi, rfl⟩ := List.mem_mapIdx.1 hx
    have := r4 i l[i] (List.getElem?_eq_getElem hi)
    rw [h.sz, Nat.add_assoc] at this
    exact this
theorem cell_put (W : World) (r : Nat) (o : Obj) (a : Addr) (h : a.block ≠ r) : (W.putObj r o).cell? a = W.cell? a := World.cell?_of_block (World.putObj_heap_other h)
theorem KB.put {w W : World} {n : Nat} {es : List MapEntry} {cs : List (Nat × Value)} (h : KB w W n es cs) (hc : ∀ x ∈ cs, 1 ≤ x.1) (k : Int) (v : Value) : KB w (W.putObj w.heap.size (.map (es.toArray.push (kEnt k v es.length)) (es.length + 1))) n (es ++ [kEnt k v es.length]) cs := by
  have hs : (W.putObj w.heap.size (.map (es.toArray.push (kEnt k v es.length)) (es.length + 1))).heap.size = W.heap.size := by simp [World.putObj]
  refine ⟨by rw [hs]; exact h.sz, ⟨h.bl.os, h.bl.tape, h.bl.output, by rw [hs]; exact h.bl.size, fun j hj => ?_⟩, ?_, h.n1, fun x hx => ?_⟩
  · rw [World.putObj_heap_other (by omega)]
    exact h.bl.block j hj
  · rw [World.putObj_heap_same (by rw [h.sz]; have := h.n1; omega)]
    simp
  · rw [cell_put _ _ _ _ (by have := hc x hx; show w.heap.size + x.1 ≠ w.heap.size; omega)]
    exact h.c x hx
theorem KB.ins {w W : World} {n : Nat} {es : List MapEntry} {cs : List (Nat × Value)} (h : KB w W n es cs) (hc : ∀ x ∈ cs, 1 ≤ x.1) (k : Int) (v : Value) (hk : Instr.findNow (.int .i64) (.int .i64 k) es 0 = some none) :
    ∃ X, (Instr.mapUpdate 81 (.map (some w.heap.size)) (.int .i64 k) v).run Tryd.prog W = .ok () X ∧ KB w X n (es ++ [kEnt k v es.length]) cs :=
  ⟨_, ins_run w.heap.size es.length es.toArray k v W h.m hk, h.put hc k v⟩
set_option maxHeartbeats 1000000 in
theorem kinds_c (w : World) : Calls Tryd.prog 41 #[] w (RetW fun e w' => e = .map (some w.heap.size) ∧ Below w.heap.size w w' ∧ w'.heap.size = w.heap.size + 19 ∧ KS w' w.heap.size) := by
  have hmm := @run_makeMap Tryd.prog
  have K0 : KB w (w.alloc (.map #[] 0)) 1 [] [] := ⟨World.size_alloc _ _, (Below.refl _ w).alloc (Nat.le_refl _) _, Array.getElem?_push_size, by omega, fun x hx => by cases hx⟩
  go_enter Tryd.func41, Tryd.ntmps41
  go_wp2_with fail
  refine (ofNumber_c 60 _).mono ?_
  rintro e W1 ⟨v, rfl, R⟩
  have ev : v = kNum (w.heap.size + 1) := by rw [R.1, K0.sz]
  have L := K0.step R
  obtain ⟨X1, hi, K1⟩ := L.ins (by simp) 0 v rfl
  clear R L K0
  subst ev
  go_wp2_with fail
  refine (ofNumber_c 60 _).mono ?_
  rintro e W2 ⟨v, rfl, R⟩
  have ev : v = kNum (w.heap.size + 3) := by rw [R.1, K1.sz]
  have L := K1.step R
  obtain ⟨X2, hi, K2⟩ := L.ins (by simp) 1 v rfl
  clear R L K1
  subst ev
  go_wp2_with fail
  refine (ofData_c 62 _).mono ?_
  rintro e W3 ⟨v, rfl, R⟩
  have ev : v = kDat (w.heap.size + 5) := by rw [R.1, K2.sz]
  have L := K2.step R
  obtain ⟨X3, hi, K3⟩ := L.ins (by simp) 2 v rfl
  clear R L K2
  subst ev
  go_wp2_with fail
  refine (ofData_c 46 _).mono ?_
  rintro e W4 ⟨v, rfl, R⟩
  have ev : v = kDat (w.heap.size + 7) := by rw [R.1, K3.sz]
  have L := K3.step R
  obtain ⟨X4, hi, K4⟩ := L.ins (by simp) 3 v rfl
  clear R L K3
  subst ev
  go_wp2_with fail
  refine (ofItems_c 1 64 65 _).mono ?_
  rintro e W5 ⟨v, rfl, R⟩
  have ev : v = kLst (w.heap.size + 9) := by rw [R.1, K4.sz]
  have L := K4.step R
  obtain ⟨X5, hi, K5⟩ := L.ins (by simp) 4 v rfl
  clear R L K4
  subst ev
  go_wp2_with fail
  refine (ofItems_c 2 66 67 _).mono ?_
  rintro e W6 ⟨v, rfl, R⟩
  have ev : v = kLst (w.heap.size + 13) := by rw [R.1, K5.sz]
  have L := K5.step R
  obtain ⟨X6, hi, K6⟩ := L.ins (by simp) 5 v rfl
  clear R L K5
  subst ev
  go_wp2_with fail
  refine (ofNumber_c 68 _).mono ?_
  rintro e W7 ⟨v, rfl, R⟩
  have ev : v = kNum (w.heap.size + 17) := by rw [R.1, K6.sz]
  have L := K6.step R
  obtain ⟨X7, hi, K7⟩ := L.ins (by simp) 7 v rfl
  clear R L K6
  subst ev
  go_wp2_with fail
  go_ret
  exact ⟨_, rfl, rfl, K7.bl, K7.sz, ⟨by rw [K7.sz]; omega, K7.m, K7.c (1, _) (by simp), K7.c (3, _) (by simp), K7.c (5, _) (by simp), K7.c (7, _) (by simp), K7.c (9, _) (by simp), K7.c (10, _) (by simp), K7.c (11, _) (by simp), K7.c (13, _) (by simp), K7.c (14, _) (by simp), K7.c (15, _) (by simp), K7.c (17, _) (by simp)⟩⟩
end WI
end Go.Proofs.YtfkgfcggcfkkiaaDoor
namespace Go.Proofs.YtfkgfcggcfkkiaaDoor
open Go.RowKit Go.Sort Go.Deep
namespace WI
theorem RowS.set {W : World} {k : Nat} {vs : List Value} (h : RowS W k vs) (i : Nat) (v : Value) (hi : i < vs.length) : RowS (W.setCell ⟨k, i, none⟩ v) k (vs.set i v) := by
  have hc : (W.cell? ⟨k, i, none⟩).isSome = true := by
    have := (h.2.2 i hi).1
    rw [Nat.zero_add] at this
    exact this
  refine ⟨by rw [World.size_setCell]; exact h.1, fun j u hj => ?_, fun j hj => ?_⟩
  · rw [Nat.zero_add]
    by_cases e : j = i
    · subst e
      rw [List.getElem?_set_self hi] at hj
      obtain rfl := Option.some.inj hj
      exact World.cell?_setCell_same' _ _ _ hc
    · rw [List.getElem?_set_ne (fun h => e h.symm)] at hj
      rw [World.cell?_setCell_other _ _ _ _ (by simp [e])]
      exact h.cell j u hj
  · rw [List.length_set] at hj
    rw [Nat.zero_add]
    have h1 := h.2.2 j hj
    rw [Nat.zero_add] at h1
    refine ⟨?_, by rw [World.frozen?_setCell]; exact h1.2⟩
    by_cases e : j = i
    · subst e
      rw [World.cell?_setCell_same' _ _ _ hc]; rfl
    · rw [World.cell?_setCell_other _ _ _ _ (by simp [e])]
      exact h1.1
theorem RowS.alloc {W : World} {k : Nat} {vs : List Value} (h : RowS W k vs) (o : Obj) : RowS (W.alloc o) k vs :=
  h.at (by rw [World.size_alloc]; omega) ((alloc_below W o).block k h.1)
/-- The entry of a kind. -/
def kAt (h : Nat) (k : Int) : Option (Nat × Value) :=
  if k = 0 then some (0, kNum (h + 1)) else if k = 1 then some (1, kNum (h + 3)) else if k = 2 then some (2, kDat (h + 5)) else if k = 3 then some (3, kDat (h + 7)) else if k = 4 then some (4, kLst (h + 9)) else if k = 5 then some (5, kLst (h + 13)) else if k = 7 then some (6, kNum (h + 17)) else none
theorem kfind (h : Nat) (k : Int) : Instr.findNow (.int .i64) (.int .i64 k) (kEs h).toList 0 = some (kAt h k) := by
  unfold kAt kEs kEnt
  simp only [List.toList_toArray]
  by_cases h0 : k = 0
  · subst h0; rfl
  rw [if_neg h0]
  by_cases h1 : k = 1
  · subst h1; rfl
  rw [if_neg h1]
  by_cases h2 : k = 2
  · subst h2; rfl
  rw [if_neg h2]
  by_cases h3 : k = 3
  · subst h3; rfl
  rw [if_neg h3]
  by_cases h4 : k = 4
  · subst h4; rfl
  rw [if_neg h4]
  by_cases h5 : k = 5
  · subst h5; rfl
  rw [if_neg h5]
  by_cases h7 : k = 7
  · subst h7; rfl
  rw [if_neg h7]
  have f : ∀ j : Int, k ≠ j → (k == j) = false := fun j hj => by simpa using hj
  simp [Instr.findNow, Instr.sameNow, f 0 h0, f 1 h1, f 2 h2, f 3 h3, f 4 h4, f 5 h5, f 7 h7]
theorem zKd (w : World) : (zeroValue 108).run Tryd.prog w = .ok (.agg #[.nilFunc, .nilFunc, .nilFunc, .nilFunc]) w := by kernel_rfl
theorem kAt_form {h : Nat} {k : Int} {j : Nat} {v : Value} (hk : kAt h k = some (j, v)) : ∃ p1 q1 p2 q2 p3 q3 p4 q4, v = .agg #[.func p1 #[] q1, .func p2 #[] q2, .func p3 #[] q3, .func p4 #[] q4] := by
  unfold kAt at hk
  repeat' split at hk
  all_goals first | (cases hk; exact ⟨_, _, _, _, _, _, _, _, rfl⟩) | cases hk
/-- What is thrown. -/
def thrown : Ending := .panicked [{ v := .iface 28 (.int .i64 2), recovered := false }]
/-- The cells of a walk. -/
def wkc (m d n : Nat) (x : Value) : List Value := [.map (some m), .int .i64 (d : Int), .int .i64 (n : Int), x]
/-- What enter does. -/
def EnR (w : World) (W h : Nat) (k : Int) (d n : Nat) (x : Value) (e : Ending) (w' : World) : Prop :=
  FrX (· = W) w w' ∧ (((∃ j v, kAt h k = some (j, v) ∧ e = .returned v) ∧ d + 1 ≤ 16 ∧ n + 1 ≤ 4096 ∧ RowS w' W (wkc h (d + 1) (n + 1) x)) ∨ ((kAt h k = none ∨ ¬ d + 1 ≤ 16 ∨ ¬ n + 1 ≤ 4096) ∧ e = thrown))
theorem st_nl (P : Program) (w : World) (a : Addr) (m : Mode) : (store a .nilFunc m).run P w = stored P w a .nilFunc m := run_store P w a _ m rfl
attribute [local go_sem] st_fn st_nl
set_option maxHeartbeats 2000000 in
set_option maxRecDepth 20000 in
theorem enter_c (w : World) (W h : Nat) (k : Int) (d n : Nat) (x : Value) (hd : d ≤ 1000000) (hn : n ≤ 1000000) (K : KS w h) (R : RowS w W (wkc h d n x)) (hW : ¬ (h ≤ W ∧ W < h + 19)) : Calls Tryd.prog 70 #[.pointer (some ⟨W, 0, none⟩), .int .i64 k] w (EnR w W h k d n x) := by
  have hlt := R.1
  have c0 := R.cell 0 _ rfl
  have c1 := R.cell 1 _ rfl
  have c2 := R.cell 2 _ rfl
  have f1 := R.free 1 (by decide : 1 < 4)
  have f2 := R.free 2 (by decide : 2 < 4)
  have hb : ∀ g, g ≠ W → ((w.setCell ⟨W, 1, none⟩ (.int .i64 ((d : Int) + 1))).setCell ⟨W, 2, none⟩ (.int .i64 ((n : Int) + 1))).heap[g]? = w.heap[g]? := fun g hg => by
    rw [blk_other _ _ _ _ hg, blk_other _ _ _ _ hg]
  have RA : RowS ((w.setCell ⟨W, 1, none⟩ (.int .i64 ((d : Int) + 1))).setCell ⟨W, 2, none⟩ (.int .i64 ((n : Int) + 1))) W (wkc h (d + 1) (n + 1) x) := (R.set 1 (.int .i64 ((d : Int) + 1)) (by show 1 < 4; omega)).set 2 (.int .i64 ((n : Int) + 1)) (by show 2 < 4; omega)
  have FA : FrX (· = W) w ((w.setCell ⟨W, 1, none⟩ (.int .i64 ((d : Int) + 1))).setCell ⟨W, 2, none⟩ (.int .i64 ((n : Int) + 1))) :=
    ((FrX.refl (· = W) w).setCell (a := ⟨W, 1, none⟩) (Or.inl rfl) _).setCell (a := ⟨W, 2, none⟩) (Or.inl rfl) _
  have hl := look_run h 7 (kEs h) k (kAt h k) _ (((w.setCell ⟨W, 1, none⟩ (.int .i64 ((d : Int) + 1))).setCell ⟨W, 2, none⟩ (.int .i64 ((n : Int) + 1))).alloc (.cells #[.nilFunc, .nilFunc, .nilFunc, .nilFunc] 108)) (by rw [(alloc_below _ _).block h (by rw [World.size_setCell, World.size_setCell]; have := K.lt; omega), hb h (by omega)]; exact K.m) (kfind h k) (zKd _)
  have H := hidW (And.intro RA FA)
  clear RA FA hb K R
  cases hk : kAt h k with
  | none =>
    rw [hk] at hl
    simp only [orZ, Option.isSome] at hl
    go_enter Tryd.func70, Tryd.ntmps70
    go_wp2_with fail
    refine (must_n _).mono ?_
    rintro e w' ⟨rfl, rfl⟩
    simp [Exit.inBlock, Exit.then, bodyPost]
    exact ⟨(H.out.2.belowTo (alloc_below _ _)).belowTo (alloc_below _ _), Or.inr ⟨Or.inl hk, rfl⟩⟩
  | some y =>
    obtain ⟨j, v⟩ := y
    rw [hk] at hl
    simp only [orZ, Option.isSome] at hl
    obtain ⟨p1, q1, p2, q2, p3, q3, p4, q4, rfl⟩ := kAt_form hk
    by_cases h1 : (d : Int) + 1 ≤ 16
    · by_cases h2 : (n : Int) + 1 ≤ 4096
      · go_enter Tryd.func70, Tryd.ntmps70
        go_wp2_with fail
        refine (must_y _).mono ?_
        rintro e w' ⟨rfl, rfl⟩
        go_wp2
        refine bodyPost_ret (results_c1 4 108 rfl (vs := [.func p1 #[] q1, .func p2 #[] q2, .func p3 #[] q3, .func p4 #[] q4]) (fun j v hj => al_old _ _ _ _ (al_r _ _ _ w.heap.size (by rw [World.size_setCell, World.size_setCell]) j v hj)) rfl uKd iKd) rfl ?_
        exact ⟨(H.out.2.belowTo (alloc_below _ _)).belowTo (alloc_below _ _), Or.inl ⟨⟨_, _, hk, rfl⟩, by omega, by omega, (H.out.1.alloc _).alloc _⟩⟩
      · go_enter Tryd.func70, Tryd.ntmps70
        go_wp2_with fail
        refine (must_n _).mono ?_
        rintro e w' ⟨rfl, rfl⟩
        simp [Exit.inBlock, Exit.then, bodyPost]
        exact ⟨(H.out.2.belowTo (alloc_below _ _)).belowTo (alloc_below _ _), Or.inr ⟨Or.inr (Or.inr (by omega)), rfl⟩⟩
    · go_enter Tryd.func70, Tryd.ntmps70
      go_wp2_with fail
      refine (must_n _).mono ?_
      rintro e w' ⟨rfl, rfl⟩
      simp [Exit.inBlock, Exit.then, bodyPost]
      exact ⟨(H.out.2.belowTo (alloc_below _ _)).belowTo (alloc_below _ _), Or.inr ⟨Or.inr (Or.inl (by omega)), rfl⟩⟩
theorem leave_c (w : World) (W h d n : Nat) (x : Value) (hd : d ≤ 1000000) (R : RowS w W (wkc h (d + 1) n x)) : Calls Tryd.prog 71 #[.pointer (some ⟨W, 0, none⟩)] w fun e w' => e = .returned (.tuple #[]) ∧ FrX (· = W) w w' ∧ RowS w' W (wkc h d n x) := by
  have hlt := R.1
  have c1 := R.cell 1 _ rfl
  have f1 := R.free 1 (by show 1 < 4; omega)
  have hw : (((d + 1 : Nat) : Int) - 1) = (d : Int) := by omega
  have H := hidW (And.intro (R.set 1 (.int .i64 (d : Int)) (by show 1 < 4; omega)) ((FrX.refl (· = W) w).setCell (a := ⟨W, 1, none⟩) (Or.inl rfl) (.int .i64 (d : Int))))
  clear R
  go_enter Tryd.func71, Tryd.ntmps71
  go_wp2
  go_end0
  exact ⟨rfl, H.out.2, H.out.1⟩
/-- A writer: its four cells, and the bytes that it has written. -/
structure Wr (w : World) (W h d n : Nat) (o : List UInt8) (v : Value) : Prop where
  row : RowS w W (wkc h d n v)
  own : w.ownsRow 0 5 1 v o.length (Lib.byteCells o)
  ne : v.ownBlock ≠ some W
/-- What a writer may change. -/
def WX (W : Nat) (v : Value) (k : Nat) : Prop := k = W ∨ v.ownBlock = some k
theorem Wr.at {w w' : World} {W h d n : Nat} {o : List UInt8} {v : Value} (H : Wr w W h d n o v) (hs : w.heap.size ≤ w'.heap.size) (hb : ∀ k, WX W v k → w'.heap[k]? = w.heap[k]?) : Wr w' W h d n o v :=
  ⟨H.row.at hs (hb W (Or.inl rfl)), own_at H.own (fun k hk => hb k (Or.inr hk)), H.ne⟩
theorem Wr.lt {w : World} {W h d n : Nat} {o : List UInt8} {v : Value} (H : Wr w W h d n o v) : ∀ k, WX W v k → k < w.heap.size := fun k hk => by
  rcases hk with rfl | hk
  · exact H.row.1
  · exact (own_lt H.own k hk).2
theorem Wr.below {w w' : World} {W h d n : Nat} {o : List UInt8} {v : Value} (H : Wr w W h d n o v) (hb : Below w.heap.size w w') : Wr w' W h d n o v := H.at hb.size (fun k hk => hb.block k (H.lt k hk))
theorem Wr.sm {w : World} {W h d n : Nat} {o : List UInt8} {v : Value} (H : Wr w W h d n o v) (ho : o ≠ []) : v.ownBlock ≠ none := by
  rcases H.own.2 with ⟨-, h0⟩ | ⟨g, cap, cur, hE, -⟩
  · exact absurd (List.length_eq_zero_iff.1 h0) ho
  · rw [hE]; simp [Value.ownBlock]
/-- Where the bytes are then; the old ones can still be read where they were. -/
def NewV (w w' : World) (o : List UInt8) (v v' : Value) : Prop := (v'.ownBlock = v.ownBlock ∨ ∃ g, v'.ownBlock = some g ∧ w.heap.size ≤ g) ∧ ∀ g j, v.ownBlock = some g → j < o.length → w'.cell? ⟨g, j, none⟩ = w.cell? ⟨g, j, none⟩
theorem own_cell {B : Nat} {w : World} {v : Value} {x : List UInt8} (h : w.ownsRow B 5 1 v x.length (Lib.byteCells x)) {g j : Nat} (hg : v.ownBlock = some g) (hj : j < x.length) : w.cell? ⟨g, j, none⟩ = some (.int .u8 ((x[j]'hj).toNat : Int)) := by
  rcases id h with ⟨-, ⟨rfl, h0⟩ | ⟨g', cap, cur, rfl, -⟩⟩
  · cases hg
  · obtain rfl := Option.some.inj hg
    have := h.cells (g := g') rfl j (.int .u8 ((x[j]'hj).toNat : Int)) (by unfold Lib.byteCells; rw [List.getElem?_map, List.getElem?_eq_getElem hj]; rfl)
    rw [addS0, Nat.zero_add] at this
    exact this
/-- Written, or thrown. -/
def WrR (w : World) (W h d n : Nat) (o : List UInt8) (v : Value) (ok : Prop) (n' : Nat) (x : List UInt8) (e : Ending) (w' : World) : Prop :=
  FrX (WX W v) w w' ∧ ((ok ∧ e = .returned (.tuple #[]) ∧ ∃ v', Wr w' W h d n' (o ++ x) v' ∧ NewV w w' o v v') ∨ (¬ ok ∧ e = thrown))
set_option maxHeartbeats 1000000 in
theorem bytes_c (w : World) (W h d n : Nat) (o : List UInt8) (v : Value) (q : Option Addr) (m c : Nat) (x : List UInt8) (H : Wr w W h d n o v) (hx : PB w (.slice q m c) x) (hq : o ≠ [] ∨ q ≠ none) (ho : o.length ≤ 65536) (ok : Prop) (hok : Hid (ok ↔ o.length + x.length ≤ 65536)) :
    Calls Tryd.prog 72 #[.pointer (some ⟨W, 0, none⟩), .slice q m c] w (WrR w W h d n o v ok n x) := by
  obtain ⟨q1, c1, rfl⟩ := slice_own H.own
  have hlt := H.row.1
  have c3 := H.row.cell 3 _ rfl
  have f3 := H.row.free 3 (by show 3 < 4; omega)
  have hm : m = x.length := by
    obtain ⟨q0, c0, hqe, -⟩ := hx
    exact (by simpa using hqe : q = q0 ∧ m = x.length ∧ c = c0).2.1
  subst hm
  by_cases hle : o.length + x.length ≤ 65536
  · obtain ⟨q', n', c', W', r1, r2, r3, r4, r5⟩ := own_appW H.own hx (by
      rcases hq with hq | hq
      · exact Or.inl (H.sm hq)
      · exact Or.inr hq) (by omega) (Nat.zero_le _)
    have g1 : (x.length : Int) ≤ 65536 - (o.length : Int) := by omega
    have hlt2 : W < W'.heap.size := Nat.lt_of_lt_of_le hlt r3.size
    have RW : RowS W' W (wkc h d n (.slice q1 o.length c1)) := H.row.at r3.size (r3.block W hlt (fun e => H.ne e.symm))
    have d3 := RW.cell 3 _ rfl
    have e3 := RW.free 3 (by show 3 < 4; omega)
    have hne : (Value.slice q' n' c').ownBlock ≠ some W := by
      rcases r4 with e | e
      · rw [e]; exact H.ne
      · rw [e.1]; intro h'; have := Option.some.inj h'; omega
    have KR : Hid (WrR w W h d n o (.slice q1 o.length c1) ok n x (.returned (.tuple #[])) (W'.setCell ⟨W, 3, none⟩ (.slice q' n' c'))) := by
      refine ⟨((FrX.refl (WX W (.slice q1 o.length c1)) w).grown r3 (fun k hk => Or.inl (Or.inr hk))).setCell (a := ⟨W, 3, none⟩) (Or.inl (Or.inl rfl)) _, Or.inl ⟨hok.out.2 hle, rfl, .slice q' n' c', ⟨RW.set 3 _ (by show 3 < 4; omega), own_at r2 (fun k hk => blk_other _ _ _ _ (fun e => hne (by rw [hk, e]))), hne⟩, ?_, fun g j hg hj => ?_⟩⟩
      · rcases r4 with e | e
        · exact Or.inl e
        · exact Or.inr ⟨_, e.1, Nat.le_refl _⟩
      · have hgW : g ≠ W := fun e => H.ne (by rw [hg, e])
        rw [World.cell?_of_block (a := ⟨g, j, none⟩) (blk_other W' ⟨W, 3, none⟩ _ g hgW)]
        rcases r4 with e | e
        · rw [own_cell H.own hg hj, own_cell r2 (by rw [e]; exact hg) (by rw [List.length_append]; omega), List.getElem_append_left hj]
        · exact World.cell?_of_block (a := ⟨g, j, none⟩) (e.2.block g (own_lt H.own g hg).2)
    have HAP := hidW r1
    clear H hx r1 r2 r3 r4 r5 RW hne
    go_enter Tryd.func72, Tryd.ntmps72
    go_wp2_with fail
    refine (must_y _).mono ?_
    rintro e w' ⟨rfl, rfl⟩
    go_wp2_with (at_builtin; refine Lib.wpList_append_run _ rfl _ _ _ _ rfl _ _ rfl rfl _ _ HAP.out ?_)
    go_end0
    exact KR.out
  · have g1 : ¬ (x.length : Int) ≤ 65536 - (o.length : Int) := by omega
    clear H hx
    go_enter Tryd.func72, Tryd.ntmps72
    go_wp2_with fail
    refine (must_n _).mono ?_
    rintro e w' ⟨rfl, rfl⟩
    simp [Exit.inBlock, Exit.then, bodyPost]
    exact ⟨FrX.refl _ _, Or.inr ⟨fun h' => hle (hok.out.1 h'), rfl⟩⟩
end WI
end Go.Proofs.YtfkgfcggcfkkiaaDoor
