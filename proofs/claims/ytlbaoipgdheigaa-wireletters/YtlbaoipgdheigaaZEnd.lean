import Derived.Test.YtlbaoipgdheigaaRows
import Derived.Shelf.Strings.Builder1
import Derived.Laws.Bits64b
import Derived.Laws.Externs
import Derived.Laws.Unary
import Derived.Laws.AppendOwn
import Derived.Laws.OwnMore
import Derived.Lib.AppendZeros
import Derived.WalkKit
import Derived.Sort.Row
import Derived.Below
import Derived.Deep.LoopGhost
import Derived.Deep.QuietTactic
import Derived.StillTailTactics
import Derived.BigRegion
import Derived.BigQuiet
import Derived.Defers
import Derived.Recover
import Derived.WalkLawsBesides
import Derived.Laws.Pointers
import Derived.Deep.Draws
import Derived.Deep.OwnRows
import Derived.WalkSpells
import Derived.Deep.RegionWith
import Derived.Lib.LazyBuf
import Derived.ChangeOld
import Derived.ProofKit
import Derived.OpenShut
import Derived.ShutString
set_option linter.unusedVariables false
set_option linter.unusedSimpArgs false
namespace Go.Proofs.Ytlbaoipgdheigaa.WL
/-- Bit k of bytes, the highest of the first one first. -/
def bt (x : List UInt8) (k : Nat) : Nat := (x.getD (k / 8) 0).toNat / 2 ^ (7 - k % 8) % 2
/-- Six bits as a number. -/
def six (x : List UInt8) (i : Nat) : Nat := 32 * bt x (6 * i) + 16 * bt x (6 * i + 1) + 8 * bt x (6 * i + 2) + 4 * bt x (6 * i + 3) + 2 * bt x (6 * i + 4) + bt x (6 * i + 5)
def nl (n : Nat) : Nat := (8 * n + 5) / 6
def sixes (x : List UInt8) : List Nat := (List.range (nl x.length)).map (six x)
def alph : List UInt8 := [65, 66, 67, 68, 69, 70, 71, 72, 73, 74, 75, 76, 77, 78, 79, 80, 81, 82, 83, 84, 85, 86, 87, 88, 89, 90, 97, 98, 99, 100, 101, 102, 103, 104, 105, 106, 107, 108, 109, 110, 111, 112, 113, 114, 115, 116, 117, 118, 119, 120, 121, 122, 48, 49, 50, 51, 52, 53, 54, 55, 56, 57, 45, 95]
def ltr (n : Nat) : UInt8 := alph.getD n 0
def letters (x : List UInt8) : List UInt8 := (sixes x).map ltr
/-- Bit k of numbers of six bits. -/
def lb (y : List Nat) (k : Nat) : Nat := y.getD (k / 6) 0 / 2 ^ (5 - k % 6) % 2
def oct (y : List Nat) (e : Nat) : Nat := 128 * lb y (8 * e) + 64 * lb y (8 * e + 1) + 32 * lb y (8 * e + 2) + 16 * lb y (8 * e + 3) + 8 * lb y (8 * e + 4) + 4 * lb y (8 * e + 5) + 2 * lb y (8 * e + 6) + lb y (8 * e + 7)
def octs (y : List Nat) : List UInt8 := (List.range (6 * y.length / 8)).map fun e => UInt8.ofNat (oct y e)
/-- The place of a letter; 64: it is none. -/
def plc (c : UInt8) : Nat := alph.findIdx (· == c)
theorem bt_lt (x : List UInt8) (k : Nat) : bt x k < 2 := Nat.mod_lt _ (by decide)
theorem lb_lt (y : List Nat) (k : Nat) : lb y k < 2 := Nat.mod_lt _ (by decide)
theorem six_lt (x : List UInt8) (i : Nat) : six x i < 64 := by
  have h0 := bt_lt x (6 * i); have h1 := bt_lt x (6 * i + 1); have h2 := bt_lt x (6 * i + 2); have h3 := bt_lt x (6 * i + 3); have h4 := bt_lt x (6 * i + 4); have h5 := bt_lt x (6 * i + 5)
  unfold six
  omega
theorem oct_lt (y : List Nat) (e : Nat) : oct y e < 256 := by
  have h0 := lb_lt y (8 * e); have h1 := lb_lt y (8 * e + 1); have h2 := lb_lt y (8 * e + 2); have h3 := lb_lt y (8 * e + 3); have h4 := lb_lt y (8 * e + 4); have h5 := lb_lt y (8 * e + 5); have h6 := lb_lt y (8 * e + 6); have h7 := lb_lt y (8 * e + 7)
  unfold oct
  omega
theorem plc_ltr : ∀ n : Fin 64, plc (ltr n.val) = n.val := by decide +kernel
theorem ltr_plc : ∀ c : Fin 256, plc (UInt8.ofNat c.val) < 64 → ltr (plc (UInt8.ofNat c.val)) = UInt8.ofNat c.val := by decide +kernel
theorem plc_le : ∀ c : Fin 256, plc (UInt8.ofNat c.val) ≤ 64 := by decide +kernel
theorem of_toNat (c : UInt8) : UInt8.ofNat c.toNat = c := by simp
theorem six_bit (x : List UInt8) (i : Nat) : six x i / 32 % 2 = bt x (6 * i) ∧ six x i / 16 % 2 = bt x (6 * i + 1) ∧ six x i / 8 % 2 = bt x (6 * i + 2) ∧ six x i / 4 % 2 = bt x (6 * i + 3) ∧ six x i / 2 % 2 = bt x (6 * i + 4) ∧ six x i % 2 = bt x (6 * i + 5) := by
  have h0 := bt_lt x (6 * i); have h1 := bt_lt x (6 * i + 1); have h2 := bt_lt x (6 * i + 2); have h3 := bt_lt x (6 * i + 3); have h4 := bt_lt x (6 * i + 4); have h5 := bt_lt x (6 * i + 5)
  unfold six
  omega
theorem sixes_get (x : List UInt8) (i : Nat) (h : i < nl x.length) : (sixes x).getD i 0 = six x i := by
  unfold sixes
  rw [List.getD_eq_getElem?_getD, List.getElem?_map, List.getElem?_range h]
  rfl
theorem lb_sixes (x : List UInt8) (k : Nat) (h : k < 6 * nl x.length) : lb (sixes x) k = bt x k := by
  unfold lb
  rw [sixes_get x (k / 6) (by omega)]
  obtain ⟨b0, b1, b2, b3, b4, b5⟩ := six_bit x (k / 6)
  have hk : k = 6 * (k / 6) + k % 6 := by omega
  have hm : k % 6 = 0 ∨ k % 6 = 1 ∨ k % 6 = 2 ∨ k % 6 = 3 ∨ k % 6 = 4 ∨ k % 6 = 5 := by omega
  rcases hm with e | e | e | e | e | e <;> rw [e] at hk ⊢
  · rw [show 2 ^ (5 - 0) = 32 from rfl, b0]; congr 1; omega
  · rw [show 2 ^ (5 - 1) = 16 from rfl, b1]; congr 1; omega
  · rw [show 2 ^ (5 - 2) = 8 from rfl, b2]; congr 1; omega
  · rw [show 2 ^ (5 - 3) = 4 from rfl, b3]; congr 1; omega
  · rw [show 2 ^ (5 - 4) = 2 from rfl, b4]; congr 1; omega
  · rw [show 2 ^ (5 - 5) = 1 from rfl, Nat.div_one, b5]; congr 1; omega
theorem bt_at (x : List UInt8) (e t : Nat) (ht : t < 8) : bt x (8 * e + t) = (x.getD e 0).toNat / 2 ^ (7 - t) % 2 := by
  unfold bt
  rw [show (8 * e + t) / 8 = e by omega, show (8 * e + t) % 8 = t by omega]
theorem byte_bits (v : Nat) (h : v < 256) : 128 * (v / 2 ^ 7 % 2) + 64 * (v / 2 ^ 6 % 2) + 32 * (v / 2 ^ 5 % 2) + 16 * (v / 2 ^ 4 % 2) + 8 * (v / 2 ^ 3 % 2) + 4 * (v / 2 ^ 2 % 2) + 2 * (v / 2 ^ 1 % 2) + v / 2 ^ 0 % 2 = v := by
  simp only [Nat.reducePow, Nat.div_one]
  omega
theorem octs_sixes (x : List UInt8) : octs (sixes x) = x := by
  have hl : (sixes x).length = nl x.length := by unfold sixes; rw [List.length_map, List.length_range]
  unfold octs
  rw [hl, show 6 * nl x.length / 8 = x.length by unfold nl; omega]
  apply List.ext_getElem?
  intro e
  rw [List.getElem?_map]
  by_cases he : e < x.length
  · rw [List.getElem?_range he, List.getElem?_eq_getElem he]
    have hb : ∀ t, t < 8 → lb (sixes x) (8 * e + t) = (x.getD e 0).toNat / 2 ^ (7 - t) % 2 := fun t ht => by rw [lb_sixes x _ (by unfold nl; omega), bt_at x e t ht]
    have h0 := hb 0 (by decide)
    rw [Nat.add_zero] at h0
    have hx : x.getD e 0 = x[e] := by rw [List.getD_eq_getElem?_getD, List.getElem?_eq_getElem he]; rfl
    have ho : oct (sixes x) e = (x.getD e 0).toNat := by
      unfold oct
      rw [h0, hb 1 (by decide), hb 2 (by decide), hb 3 (by decide), hb 4 (by decide), hb 5 (by decide), hb 6 (by decide), hb 7 (by decide)]
      exact byte_bits _ (x.getD e 0).toNat_lt
    show some (UInt8.ofNat (oct (sixes x) e)) = _
    rw [ho, hx, of_toNat]
  · rw [List.getElem?_eq_none (by rw [List.length_range]; omega), List.getElem?_eq_none (by omega)]
    rfl
/-- What a text of letters stands for. -/
def dec (s : List UInt8) : Option (List UInt8) := if (∀ c ∈ s, plc c < 64) ∧ letters (octs (s.map plc)) = s then some (octs (s.map plc)) else none
theorem plc_letters (x : List UInt8) : (letters x).map plc = sixes x := by
  unfold letters
  rw [List.map_map]
  have : ∀ n ∈ sixes x, (plc ∘ ltr) n = n := fun n hn => by
    unfold sixes at hn
    obtain ⟨i, -, rfl⟩ := List.mem_map.1 hn
    exact plc_ltr ⟨six x i, six_lt x i⟩
  rw [List.map_congr_left this, List.map_id']
theorem letters_ok (x : List UInt8) : ∀ c ∈ letters x, plc c < 64 := fun c hc => by
  unfold letters at hc
  obtain ⟨n, hn, rfl⟩ := List.mem_map.1 hc
  unfold sixes at hn
  obtain ⟨i, -, rfl⟩ := List.mem_map.1 hn
  rw [plc_ltr ⟨six x i, six_lt x i⟩]
  exact six_lt x i
theorem dec_letters (x : List UInt8) : dec (letters x) = some x := by
  unfold dec
  rw [plc_letters, octs_sixes, if_pos ⟨letters_ok x, rfl⟩]
theorem letters_len (x : List UInt8) : (letters x).length = nl x.length := by unfold letters sixes; rw [List.length_map, List.length_map, List.length_range]
/-- What the low bits of the word that the program holds are. -/
def Hh (f : Nat → Nat) (n h : Nat) : Prop := ∀ t, t < 16 → t < n → h / 2 ^ t % 2 = f (n - 1 - t)
theorem bit_add (h v s t : Nat) (hv : v < 2 ^ s) : (h * 2 ^ s + v) / 2 ^ (s + t) % 2 = h / 2 ^ t % 2 := by
  rw [Nat.pow_add, ← Nat.div_div_eq_div_mul, Nat.mul_comm h, Nat.mul_add_div (Nat.two_pow_pos s), Nat.div_eq_of_lt hv, Nat.add_zero]
theorem bit_low (h v s t : Nat) (ht : t < s) : (h * 2 ^ s + v) / 2 ^ t % 2 = v / 2 ^ t % 2 := by
  obtain ⟨d, rfl⟩ : ∃ d, s = t + 1 + d := ⟨s - t - 1, by omega⟩
  rw [show h * 2 ^ (t + 1 + d) = 2 ^ t * (2 * (h * 2 ^ d)) by rw [Nat.pow_add, Nat.pow_succ]; ac_rfl, Nat.mul_add_div (Nat.two_pow_pos t)]
  omega
theorem bit_wrap (h t : Nat) (ht : t < 64) : h % 18446744073709551616 / 2 ^ t % 2 = h / 2 ^ t % 2 := by
  have e : h = (h / 18446744073709551616) * 2 ^ 64 + h % 18446744073709551616 := by rw [show (2 : Nat) ^ 64 = 18446744073709551616 from rfl]; omega
  have := bit_low (h / 18446744073709551616) (h % 18446744073709551616) 64 t ht
  rw [← e] at this
  exact this.symm
/-- The word takes s more bits in. -/
theorem Hh.push {f : Nat → Nat} {n h : Nat} (H : Hh f n h) (s v : Nat) (hs : s ≤ 8) (hv : v < 2 ^ s) (hf : ∀ t, t < s → v / 2 ^ t % 2 = f (n + s - 1 - t)) : Hh f (n + s) ((h * 2 ^ s + v) % 18446744073709551616) := by
  intro t ht hn
  rw [bit_wrap _ _ (by omega)]
  by_cases hts : t < s
  · rw [bit_low h v s t hts]; exact hf t hts
  · obtain ⟨d, rfl⟩ : ∃ d, t = s + d := ⟨t - s, by omega⟩
    rw [bit_add h v s d hv, H d (by omega) (by omega)]
    congr 1
    omega
theorem Hh.six {f : Nat → Nat} {n h b : Nat} (H : Hh f n h) (hb : b < 8) (hn : b + 6 ≤ n) : h / 2 ^ b % 64 = 32 * f (n - b - 6) + 16 * f (n - b - 6 + 1) + 8 * f (n - b - 6 + 2) + 4 * f (n - b - 6 + 3) + 2 * f (n - b - 6 + 4) + f (n - b - 6 + 5) := by
  have key : ∀ s, s < 6 → h / 2 ^ b / 2 ^ s % 2 = f (n - b - 6 + (5 - s)) := fun s hs => by
    rw [Nat.div_div_eq_div_mul, ← Nat.pow_add, H (b + s) (by omega) (by omega)]
    congr 1
    omega
  have k0 := key 0 (by decide); have k1 := key 1 (by decide); have k2 := key 2 (by decide); have k3 := key 3 (by decide); have k4 := key 4 (by decide); have k5 := key 5 (by decide)
  generalize h / 2 ^ b = y at *
  simp only [Nat.reducePow, Nat.div_one, Nat.reduceSub, Nat.add_zero] at k0 k1 k2 k3 k4 k5
  omega
theorem Hh.oct {f : Nat → Nat} {n h b : Nat} (H : Hh f n h) (hb : b < 8) (hn : b + 8 ≤ n) : h / 2 ^ b % 256 = 128 * f (n - b - 8) + 64 * f (n - b - 8 + 1) + 32 * f (n - b - 8 + 2) + 16 * f (n - b - 8 + 3) + 8 * f (n - b - 8 + 4) + 4 * f (n - b - 8 + 5) + 2 * f (n - b - 8 + 6) + f (n - b - 8 + 7) := by
  have key : ∀ s, s < 8 → h / 2 ^ b / 2 ^ s % 2 = f (n - b - 8 + (7 - s)) := fun s hs => by
    rw [Nat.div_div_eq_div_mul, ← Nat.pow_add, H (b + s) (by omega) (by omega)]
    congr 1
    omega
  have k0 := key 0 (by decide); have k1 := key 1 (by decide); have k2 := key 2 (by decide); have k3 := key 3 (by decide); have k4 := key 4 (by decide); have k5 := key 5 (by decide); have k6 := key 6 (by decide); have k7 := key 7 (by decide)
  generalize h / 2 ^ b = y at *
  simp only [Nat.reducePow, Nat.div_one, Nat.reduceSub, Nat.add_zero] at k0 k1 k2 k3 k4 k5 k6 k7
  omega
end Go.Proofs.Ytlbaoipgdheigaa.WL
namespace Go.Proofs.Ytlbaoipgdheigaa
open Go.RowKit
/-- Where the program's own numbers are. -/
def rB : Go.Shelf.Ren := ⟨fun n => if n = 167 then 30 else if n = 240 then 35 else if n = 276 then 37 else if n = 169 then 31 else 0, fun n => if n = 0 then 0 else if n = 3 then 3 else if n = 4 then 4 else if n = 5 then 5 else if n = 9 then 9 else if n = 20 then 20 else if n = 37 then 22 else if n = 70 then 63 else if n = 72 then 65 else if n = 75 then 68 else if n = 80 then 70 else if n = 164 then 76 else if n = 127 then 75 else 0, fun _ => 0⟩
theorem laysWB : Go.Proofs.Lays.n167 Try.prog rB := by
  constructor <;> first | kernel_rfl | (intro w; kernel_rfl)
theorem laysStr : Go.Proofs.Lays.n169 Try.prog rB := by
  constructor <;> first | kernel_rfl | (intro w; kernel_rfl)
theorem extB : Go.Proofs.Builder.Extra Try.prog rB := by
  constructor <;> first | kernel_rfl | (intro w; kernel_rfl) | decide | (constructor <;> first | kernel_rfl | (intro w; kernel_rfl))
abbrev IsB (B b : Nat) (l : List UInt8) (w : World) : Prop := Lib.IsBuilder 65 5 B b (Lib.byteCells l) w
theorem byteCells_snoc (l : List UInt8) (c : UInt8) : Lib.byteCells (l ++ [c]) = Lib.byteCells l ++ [.int .u8 (c.toNat : Int)] := by
  rw [Lib.byteCells_append]
  rfl
theorem wbyte_c (B b : Nat) (l : List UInt8) (c : UInt8) (w : World) (h : IsB B b l w) (hl : l.length ≤ 1000000) (hB : B ≤ w.heap.size) :
    Calls Try.prog 30 #[.pointer (some ⟨b, 0, none⟩), .int .u8 (c.toNat : Int)] w fun e w' => e = .returned .nilIface ∧ IsB B b (l ++ [c]) w' ∧ Below B w w' := by
  refine (Go.Proofs.Any.Builder_WriteByte laysWB extB B b (Lib.byteCells l) (c.toNat : Int) w h (by rw [Lib.byteCells_length]; omega) hB).mono ?_
  rintro e w' ⟨rfl, h1, h2⟩
  exact ⟨rfl, by unfold IsB; rw [byteCells_snoc]; exact Or.inr h1, h2⟩
theorem str_c (B b : Nat) (l : List UInt8) (w : World) (h : IsB B b l w) (hB : B ≤ w.heap.size) :
    Calls Try.prog 31 #[.pointer (some ⟨b, 0, none⟩)] w fun e w' => e = .returned (.string ⟨l.toArray⟩) ∧ Below B w w' :=
  Go.Proofs.Any.Builder_String_any laysStr extB B b l w h hB
end Go.Proofs.Ytlbaoipgdheigaa
namespace Go.Proofs.Ytlbaoipgdheigaa
open Go.RowKit Go.Sort
open WL
/-- It returned a value, of which something holds. -/
def RetW (Q : Value → World → Prop) (e : Ending) (w : World) : Prop := ∃ v, e = .returned v ∧ Q v w
theorem hidW {p : Prop} (h : p) : Hid p := h
theorem str9W : Try.prog.underlying 9 = some .string := by kernel_rfl
/-- Bytes in memory. -/
def PB (w : World) (v : Value) (x : List UInt8) : Prop := ∃ q c, v = .slice q x.length c ∧ (x = [] ∨ ∃ b o, q = some ⟨b, o, none⟩ ∧ ∀ j u, x[j]? = some u → w.cell? ⟨b, o + j, none⟩ = some (.int .u8 (u.toNat : Int)))
theorem PB.below {w w' : World} {v : Value} {x : List UInt8} (h : PB w v x) (hb : Below w.heap.size w w') : PB w' v x := by
  obtain ⟨q, c, h1, h2 | ⟨b, o, h2, h3⟩⟩ := h
  · exact ⟨q, c, h1, Or.inl h2⟩
  · refine ⟨q, c, h1, Or.inr ⟨b, o, h2, fun j u hj => ?_⟩⟩
    have := h3 j u hj
    rw [hb.cell (p := ⟨b, o + j, none⟩) (World.block_lt_of_cell? _ _ this)]
    exact this
section
variable {P : Program} {ops : Array Oper} {rest : List Oper} {op : Oper} {a : Act} {w : World} {Q : Exit → Act → World → Prop}
theorem wpList_ixc (v : Value) (hgd : op.guard = none) (c : Value) (t : Tmp) (T : TypeId) (ho : op.op = .index T (.const c) (.tmp t)) (hr : (Instr.index T c (a.eval (.tmp t))).run P w = .ok v w) (h : wpList P ops Q rest (a.put op.dst v) w) : wpList P ops Q (op :: rest) a w :=
  wpList_plain hgd fun K hK => by
    unfold Oper.wp
    have : (execOp a.eval op).run P w = .ok (.value v) w := by
      unfold execOp
      rw [ho]
      show ((Instr.index T c (a.eval (.tmp t))) >>= fun v => pure (Next.value v)).run P w = _
      rw [Sem.run_bind, hr]
      rfl
    rw [this]
    exact hK _ _ h
end
theorem alph_at : ∀ n : Fin 64, ∀ h : n.val < (⟨#[65, 66, 67, 68, 69, 70, 71, 72, 73, 74, 75, 76, 77, 78, 79, 80, 81, 82, 83, 84, 85, 86, 87, 88, 89, 90, 97, 98, 99, 100, 101, 102, 103, 104, 105, 106, 107, 108, 109, 110, 111, 112, 113, 114, 115, 116, 117, 118, 119, 120, 121, 122, 48, 49, 50, 51, 52, 53, 54, 55, 56, 57, 45, 95]⟩ : ByteArray).size, ((⟨#[65, 66, 67, 68, 69, 70, 71, 72, 73, 74, 75, 76, 77, 78, 79, 80, 81, 82, 83, 84, 85, 86, 87, 88, 89, 90, 97, 98, 99, 100, 101, 102, 103, 104, 105, 106, 107, 108, 109, 110, 111, 112, 113, 114, 115, 116, 117, 118, 119, 120, 121, 122, 48, 49, 50, 51, 52, 53, 54, 55, 56, 57, 45, 95]⟩ : ByteArray)[n.val]'h).toNat = (ltr n.val).toNat := by decide +kernel
theorem ixL (k : IntKind) (n : Nat) (hn : n < 64) (w : World) : (Instr.index 9 (.string ⟨#[65, 66, 67, 68, 69, 70, 71, 72, 73, 74, 75, 76, 77, 78, 79, 80, 81, 82, 83, 84, 85, 86, 87, 88, 89, 90, 97, 98, 99, 100, 101, 102, 103, 104, 105, 106, 107, 108, 109, 110, 111, 112, 113, 114, 115, 116, 117, 118, 119, 120, 121, 122, 48, 49, 50, 51, 52, 53, 54, 55, 56, 57, 45, 95]⟩) (.int k (n : Int))).run Try.prog w = .ok (.int .u8 ((ltr n).toNat : Int)) w := by
  have hs : n < (⟨#[65, 66, 67, 68, 69, 70, 71, 72, 73, 74, 75, 76, 77, 78, 79, 80, 81, 82, 83, 84, 85, 86, 87, 88, 89, 90, 97, 98, 99, 100, 101, 102, 103, 104, 105, 106, 107, 108, 109, 110, 111, 112, 113, 114, 115, 116, 117, 118, 119, 120, 121, 122, 48, 49, 50, 51, 52, 53, 54, 55, 56, 57, 45, 95]⟩ : ByteArray).size := hn
  have h := alph_at ⟨n, hn⟩ hs
  rw [run_index_string (t := 9) (k := k) (i := (n : Int)) (h := str9W)]
  generalize (⟨#[65, 66, 67, 68, 69, 70, 71, 72, 73, 74, 75, 76, 77, 78, 79, 80, 81, 82, 83, 84, 85, 86, 87, 88, 89, 90, 97, 98, 99, 100, 101, 102, 103, 104, 105, 106, 107, 108, 109, 110, 111, 112, 113, 114, 115, 116, 117, 118, 119, 120, 121, 122, 48, 49, 50, 51, 52, 53, 54, 55, 56, 57, 45, 95]⟩ : ByteArray) = s at *
  simp [hs, h]
theorem or_u64 (h v s m : Nat) (hm : m = 2 ^ s) (hv : v < m) (hs : s ≤ 8) : bits .or .u64 ((h * m % 18446744073709551616 : Nat) : Int) (v : Int) = (((h * m + v) % 18446744073709551616 : Nat) : Int) := by
  subst hm
  have hv2 : v < 256 := by
    have : (2 : Nat) ^ s ≤ 2 ^ 8 := Nat.pow_le_pow_right (by decide) hs
    omega
  obtain ⟨k, hk⟩ : ∃ k, h * 2 ^ s % 18446744073709551616 = k * 2 ^ s := by
    refine ⟨h % 2 ^ (64 - s), ?_⟩
    rw [show (18446744073709551616 : Nat) = 2 ^ (64 - s) * 2 ^ s by rw [← Nat.pow_add, show 64 - s + s = 64 by omega], Nat.mul_mod_mul_right]
  have hor : k * 2 ^ s ||| v = k * 2 ^ s + v := by rw [Nat.mul_comm, ← Nat.two_pow_add_eq_or_of_lt hv]
  have hlt : h * 2 ^ s % 18446744073709551616 < 18446744073709551616 := Nat.mod_lt _ (by decide)
  have hbv : bits .or .u64 ((h * 2 ^ s % 18446744073709551616 : Nat) : Int) (v : Int) = ((h * 2 ^ s % 18446744073709551616 ||| v : Nat) : Int) := by
    have h1 : (BitVec.ofInt 64 ((h * 2 ^ s % 18446744073709551616 : Nat) : Int)).toNat = h * 2 ^ s % 18446744073709551616 := by
      rw [BitVec.ofInt_natCast, BitVec.toNat_ofNat]; exact Nat.mod_eq_of_lt (by omega)
    have h2 : (BitVec.ofInt 64 (v : Int)).toNat = v := by
      rw [BitVec.ofInt_natCast, BitVec.toNat_ofNat]; exact Nat.mod_eq_of_lt (by omega)
    have hx : h * 2 ^ s % 18446744073709551616 ||| v < 2 ^ 64 := Nat.or_lt_two_pow (by omega) (by omega)
    show IntKind.u64.wrap ((BitVec.ofInt 64 ((h * 2 ^ s % 18446744073709551616 : Nat) : Int) ||| BitVec.ofInt 64 (v : Int)).toNat : Int) = _
    rw [BitVec.toNat_or, h1, h2, IntKind.wrap_u64]
    omega
  rw [hbv, hk, hor, ← hk]
  congr 1
  have hfit : h * 2 ^ s % 18446744073709551616 + v < 18446744073709551616 := by
    rw [hk, show (18446744073709551616 : Nat) = 2 ^ (64 - s) * 2 ^ s by rw [← Nat.pow_add, show 64 - s + s = 64 by omega]] at *
    have hkl : k < 2 ^ (64 - s) := Nat.lt_of_mul_lt_mul_right hlt
    have c1 : k * 2 ^ s + v < (k + 1) * 2 ^ s := by rw [Nat.add_mul, Nat.one_mul]; omega
    exact Nat.lt_of_lt_of_le c1 (Nat.mul_le_mul_right _ hkl)
  generalize h * 2 ^ s = z at *
  omega
end Go.Proofs.Ytlbaoipgdheigaa
namespace Go.Proofs.Ytlbaoipgdheigaa
open Go.RowKit Go.Sort
open WL
def pre (x : List UInt8) (e : Nat) : List UInt8 := (List.range e).map fun i => ltr (six x i)
theorem pre_succ (x : List UInt8) (e : Nat) : pre x (e + 1) = pre x e ++ [ltr (six x e)] := by unfold pre; rw [List.range_succ, List.map_append]; rfl
theorem pre_len (x : List UInt8) (e : Nat) : (pre x e).length = e := by unfold pre; rw [List.length_map, List.length_range]
theorem pre_all (x : List UInt8) : pre x (nl x.length) = letters x := by unfold pre letters sixes; rw [List.map_map]; rfl
theorem and63 (y : Nat) (hy : y < 18446744073709551616) : bits .and .u64 (y : Int) 63 = ((y % 64 : Nat) : Int) := by
  have h := bits_and_u64_nat y 63 hy (by omega)
  rw [show (63 : Nat) = 2 ^ 6 - 1 from rfl, Nat.and_two_pow_sub_one_eq_mod] at h
  exact h
theorem divp (a i : Nat) : (a : Int) / (2 : Int) ^ i = ((a / 2 ^ i : Nat) : Int) := by
  rw [Int.natCast_ediv, Int.natCast_pow]
  rfl
theorem idxW (gg oo m c i : Nat) (hi : i < m) (w : World) : (Instr.indexAt 22 (.slice (some ⟨gg, oo, none⟩) m c) (.int .i64 (i : Int))).run Try.prog w = .ok (.pointer (some ⟨gg, oo + i, none⟩)) w := by
  have h1 : ¬ (i : Int) < 0 := by omega
  have h2 : (i : Int) < (m : Int) := by omega
  go_simp
theorem bt_end (x : List UInt8) (k : Nat) (h : 8 * x.length ≤ k) : bt x k = 0 := by
  unfold bt
  rw [List.getD_eq_getElem?_getD, List.getElem?_eq_none (by omega)]
  simp
theorem six_end2 (x : List UInt8) (j e h : Nat) (hj : j = x.length) (hn : 8 * j = 6 * e + 2) (H : Hh (bt x) (8 * j) h) : six x e = h % 4 * 16 := by
  have h0 := H 0 (by decide) (by omega)
  have h1 := H 1 (by decide) (by omega)
  rw [show 8 * j - 1 - 0 = 6 * e + 1 by omega] at h0
  rw [show 8 * j - 1 - 1 = 6 * e by omega] at h1
  unfold six
  rw [bt_end x (6 * e + 2) (by omega), bt_end x (6 * e + 3) (by omega), bt_end x (6 * e + 4) (by omega), bt_end x (6 * e + 5) (by omega), ← h0, ← h1]
  simp only [Nat.reducePow, Nat.div_one]
  omega
theorem six_end4 (x : List UInt8) (j e h : Nat) (hj : j = x.length) (hn : 8 * j = 6 * e + 4) (H : Hh (bt x) (8 * j) h) : six x e = h % 16 * 4 := by
  have h0 := H 0 (by decide) (by omega)
  have h1 := H 1 (by decide) (by omega)
  have h2 := H 2 (by decide) (by omega)
  have h3 := H 3 (by decide) (by omega)
  rw [show 8 * j - 1 - 0 = 6 * e + 3 by omega] at h0
  rw [show 8 * j - 1 - 1 = 6 * e + 2 by omega] at h1
  rw [show 8 * j - 1 - 2 = 6 * e + 1 by omega] at h2
  rw [show 8 * j - 1 - 3 = 6 * e by omega] at h3
  unfold six
  rw [bt_end x (6 * e + 4) (by omega), bt_end x (6 * e + 5) (by omega), ← h0, ← h1, ← h2, ← h3]
  simp only [Nat.reducePow, Nat.div_one]
  omega
/-- What the loop keeps, behind j bytes. -/
structure Lt (w : World) (x : List UInt8) (j e b : Nat) (h : Nat) (W : World) : Prop where
  hn : 8 * j = 6 * e + b
  hb : b ≤ 13
  hh : Hh (bt x) (8 * j) h
  hl : h < 18446744073709551616
  bl : Below w.heap.size w W
  sb : IsB w.heap.size w.heap.size (pre x e) W
set_option maxHeartbeats 2000000 in
set_option maxRecDepth 20000 in
theorem lettersOf_c (v : Value) (x : List UInt8) (hx : x.length ≤ 200000) (w : World) (hP : PB w v x) : Calls Try.prog 19 #[v] w (RetW fun e w' => Below w.heap.size w w' ∧ e = .string ⟨(letters x).toArray⟩) := by
  obtain ⟨q, c, rfl, hq⟩ := hP
  have HQ := hidW hq
  clear hq
  have hz : ∀ w : World, (zeroValue 65).run Try.prog w = .ok (.agg #[.pointer none, .slice none 0 0]) w := fun _ => by kernel_rfl
  have K0 : Hid (Lt w x 0 0 0 0 (w.alloc (.cells #[.pointer none, .slice none 0 0] 65))) := ⟨rfl, Nat.zero_le _, fun t _ ht => absurd ht (Nat.not_lt_zero _), by decide, (Below.refl _ _).alloc (Nat.le_refl _) _, Lib.fresh_isBuilder _ _ w⟩
  go_enter Try.func19, Try.ntmps19
  go_wp2_with fail
  go_loopg [4, 5, 10] x.length (fun gk s4 s5 s10 wr => ∃ j e b h : Nat, j + gk = x.length ∧ b < 6 ∧ s4 = .int .u64 (h : Int) ∧ s5 = .int .i64 (b : Int) ∧ s10 = .int .i64 (j : Int) ∧ Hid (Lt w x j e b h wr))
  case atStart => exact ⟨0, 0, 0, 0, by omega, by decide, rfl, rfl, rfl, K0⟩
  case round =>
    clear K0
    obtain ⟨j, e, b, h, hj, hb6, rfl, rfl, rfl, KM⟩ := hrel
    by_cases hjl : j < x.length
    · have hj' : (j : Int) < (x.length : Int) := by omega
      obtain ⟨u, hu⟩ : ∃ u, x[j]? = some u := ⟨_, List.getElem?_eq_getElem hjl⟩
      obtain ⟨bb, o, rfl, hcl⟩ : ∃ b o, q = some ⟨b, o, none⟩ ∧ ∀ j u, x[j]? = some u → w.cell? ⟨b, o + j, none⟩ = some (.int .u8 (u.toNat : Int)) := by
        rcases HQ.out with h0 | h0
        · rw [h0] at hjl; exact absurd hjl (Nat.not_lt_zero _)
        · exact h0
      have hc0 := hcl j u hu
      have hcu : wr.cell? ⟨bb, o + j, none⟩ = some (.int .u8 (u.toNat : Int)) := by rw [KM.out.bl.cell (p := ⟨bb, o + j, none⟩) (World.block_lt_of_cell? _ _ hc0)]; exact hc0
      have hix := idxW bb o x.length c j hjl
      have hul := u.toNat_lt
      have hhl := KM.out.hl
      obtain ⟨h2, hh2⟩ : ∃ h2, h2 = (h * 256 + u.toNat) % 18446744073709551616 := ⟨_, rfl⟩
      have wsh : IntKind.u64.wrap ((h : Int) * 256) = ((h * 256 % 18446744073709551616 : Nat) : Int) := by rw [IntKind.wrap_u64]; omega
      have wu : IntKind.u64.wrap (u.toNat : Int) = (u.toNat : Int) := by rw [IntKind.wrap_u64]; omega
      have hor : bits .or .u64 ((h * 256 % 18446744073709551616 : Nat) : Int) (u.toNat : Int) = (h2 : Int) := by rw [hh2]; exact or_u64 h u.toNat 8 256 rfl hul (by decide)
      have K1 : Hid (Lt w x (j + 1) e (b + 8) h2 wr) := by
        have k := KM.out
        have kn := k.hn
        have hget : x.getD j 0 = u := by rw [List.getD_eq_getElem?_getD, hu]; rfl
        refine ⟨by omega, by omega, ?_, by omega, k.bl, k.sb⟩
        rw [hh2]
        exact k.hh.push 8 u.toNat (by decide) hul (fun t ht => by
          rw [show 8 * j + 8 - 1 - t = 8 * j + (7 - t) by omega, bt_at x j (7 - t) (by omega), hget, show 7 - (7 - t) = t by omega])
      clear KM hc0 hh2 hu hcl
      generalize (h * 256 % 18446744073709551616 : Nat) = hm at *
      go_wp2_with fail
      go_loopg [5] 13 (fun gk2 s5 wr2 => ∃ e b : Nat, s5 = .int .i64 (b : Int) ∧ b ≤ gk2 ∧ b ≤ 13 ∧ Hid (Lt w x (j + 1) e b h2 wr2))
      case atStart => exact ⟨e, b + 8, rfl, by omega, by omega, K1⟩
      case round =>
        clear K1 hcu
        obtain ⟨e2, b2, rfl, hbg, hb13, KM2⟩ := hrel
        by_cases h6 : 6 ≤ b2
        · obtain ⟨b3, rfl⟩ : ∃ b3, b2 = b3 + 6 := ⟨b2 - 6, by omega⟩
          have g6 : (6 : Int) ≤ (b3 : Int) + 6 := by omega
          obtain ⟨n, hn⟩ : ∃ n, n = six x e2 := ⟨_, rfl⟩
          have hn64 : n < 64 := by rw [hn]; exact six_lt x e2
          have hand : bits .and .u64 ((h2 : Int) / (2 : Int) ^ b3) 63 = (n : Int) := by
            have k := KM2.out
            have kn := k.hn
            have kb := k.hb
            rw [divp, and63 _ (Nat.lt_of_le_of_lt (Nat.div_le_self _ _) k.hl), k.hh.six (b := b3) (by omega) (by omega), hn]
            unfold six
            rw [show 8 * (j + 1) - b3 - 6 = 6 * e2 by omega]
          have hW := wbyte_c w.heap.size w.heap.size (pre x e2) (ltr n) wr KM2.out.sb (by rw [pre_len]; have := KM2.out.hn; omega) KM2.out.bl.size
          have KP : Hid (∀ w', IsB w.heap.size w.heap.size (pre x e2 ++ [ltr n]) w' → Below w.heap.size wr w' → Lt w x (j + 1) (e2 + 1) b3 h2 w') := fun w' h1 hb1 => by
            have k := KM2.out
            have kn := k.hn
            have kb := k.hb
            exact ⟨by omega, by omega, k.hh, k.hl, k.bl.trans hb1, by rw [pre_succ, ← hn]; exact h1⟩
          clear KM2 hn
          go_wp2_with (refine wpList_ixc (.int .u8 ((ltr n).toNat : Int)) rfl _ 28 9 rfl ?_ ?_; (exact ixL .u64 n hn64 _))
          refine hW.mono ?_
          rintro e' w3 ⟨rfl, hs3, hb3⟩
          have KN : Hid (Lt w x (j + 1) (e2 + 1) b3 h2 w3) := KP.out w3 hs3 hb3
          clear hW KP hs3 hb3
          go_wp2
          go_roundg (gk - 1)
          case measure => omega
          case rel => exact ⟨e2 + 1, b3, rfl, by omega, by omega, KN⟩
        · have g6 : ¬ (6 : Int) ≤ (b2 : Int) := by omega
          go_wp2
          go_roundg (x.length - (j + 1))
          case measure => omega
          case rel => exact ⟨j + 1, e2, b2, h2, by omega, by omega, rfl, rfl, rfl, KM2⟩
    · have hj' : ¬ (j : Int) < (x.length : Int) := by omega
      obtain rfl : j = x.length := by omega
      have kn := KM.out.hn
      have hhl := KM.out.hl
      by_cases hb0 : b = 0
      · subst hb0
        have hnl : nl x.length = e := by unfold nl; omega
        have hS := str_c w.heap.size w.heap.size (letters x) wr (by rw [← pre_all, hnl]; exact KM.out.sb) KM.out.bl.size
        have K3 := hidW KM.out.bl
        clear KM
        go_wp2_with fail
        refine hS.mono ?_
        rintro e' w4 ⟨rfl, hb4⟩
        have K4 : Hid (Below w.heap.size w w4) := K3.out.trans hb4
        clear hS hb4 K3
        go_wp2
        go_ret
        exact ⟨_, rfl, K4.out, rfl⟩
      have hnl : nl x.length = e + 1 := by unfold nl; omega
      obtain ⟨n, hn⟩ : ∃ n, n = six x e := ⟨_, rfl⟩
      have hn64 : n < 64 := by rw [hn]; exact six_lt x e
      have hW := wbyte_c w.heap.size w.heap.size (pre x e) (ltr n) wr KM.out.sb (by rw [pre_len]; omega) KM.out.bl.size
      have HP : Hid (∀ w', IsB w.heap.size w.heap.size (pre x e ++ [ltr n]) w' → IsB w.heap.size w.heap.size (letters x) w') := fun w' h1 => by rw [← pre_all, hnl, pre_succ, ← hn]; exact h1
      have HB : Hid (∀ w', Below w.heap.size wr w' → Below w.heap.size w w') := fun w' h1 => KM.out.bl.trans h1
      have hb24 : b = 2 ∨ b = 4 := by omega
      rcases hb24 with rfl | rfl
      · skip
        have wsh : IntKind.u64.wrap ((h : Int) * 16) = ((h * 16 % 18446744073709551616 : Nat) : Int) := by rw [IntKind.wrap_u64]; omega
        have hand : bits .and .u64 ((h * 16 % 18446744073709551616 : Nat) : Int) 63 = (n : Int) := by rw [and63 _ (Nat.mod_lt _ (by decide)), hn, six_end2 x x.length e h rfl KM.out.hn KM.out.hh]; congr 1; omega
        generalize (h * 16 % 18446744073709551616 : Nat) = hm at *
        clear KM hn
        go_wp2_with (refine wpList_ixc (.int .u8 ((ltr n).toNat : Int)) rfl _ 38 9 rfl ?_ ?_; (exact ixL .u64 n hn64 _))
        refine hW.mono ?_
        rintro e' w3 ⟨rfl, hs3, hb3⟩
        have hS := str_c w.heap.size w.heap.size (letters x) w3 (HP.out _ hs3) (HB.out _ hb3).size
        have K3 := hidW (HB.out _ hb3)
        clear hW hs3 hb3
        go_wp2_with fail
        refine hS.mono ?_
        rintro e' w4 ⟨rfl, hb4⟩
        have K4 : Hid (Below w.heap.size w w4) := K3.out.trans hb4
        clear hS hb4 K3
        go_wp2
        go_ret
        exact ⟨_, rfl, K4.out, rfl⟩
      · skip
        have wsh : IntKind.u64.wrap ((h : Int) * 4) = ((h * 4 % 18446744073709551616 : Nat) : Int) := by rw [IntKind.wrap_u64]; omega
        have hand : bits .and .u64 ((h * 4 % 18446744073709551616 : Nat) : Int) 63 = (n : Int) := by rw [and63 _ (Nat.mod_lt _ (by decide)), hn, six_end4 x x.length e h rfl KM.out.hn KM.out.hh]; congr 1; omega
        generalize (h * 4 % 18446744073709551616 : Nat) = hm at *
        clear KM hn
        go_wp2_with (refine wpList_ixc (.int .u8 ((ltr n).toNat : Int)) rfl _ 38 9 rfl ?_ ?_; (exact ixL .u64 n hn64 _))
        refine hW.mono ?_
        rintro e' w3 ⟨rfl, hs3, hb3⟩
        have hS := str_c w.heap.size w.heap.size (letters x) w3 (HP.out _ hs3) (HB.out _ hb3).size
        have K3 := hidW (HB.out _ hb3)
        clear hW hs3 hb3
        go_wp2_with fail
        refine hS.mono ?_
        rintro e' w4 ⟨rfl, hb4⟩
        have K4 : Hid (Below w.heap.size w w4) := K3.out.trans hb4
        clear hS hb4 K3
        go_wp2
        go_ret
        exact ⟨_, rfl, K4.out, rfl⟩
end Go.Proofs.Ytlbaoipgdheigaa
namespace Go.Proofs.Ytlbaoipgdheigaa
open Go.RowKit Go.Sort
open WL
/-- What IndexByte answers of the letters. -/
def pl (c : UInt8) : Int := if plc c < 64 then (plc c : Int) else -1
theorem first_at : ∀ c : Fin 256, firstIdx ⟨#[65, 66, 67, 68, 69, 70, 71, 72, 73, 74, 75, 76, 77, 78, 79, 80, 81, 82, 83, 84, 85, 86, 87, 88, 89, 90, 97, 98, 99, 100, 101, 102, 103, 104, 105, 106, 107, 108, 109, 110, 111, 112, 113, 114, 115, 116, 117, 118, 119, 120, 121, 122, 48, 49, 50, 51, 52, 53, 54, 55, 56, 57, 45, 95]⟩ (UInt8.ofNat c.val) = pl (UInt8.ofNat c.val) := by decide +kernel
theorem ixb_run (c : UInt8) (w : World) : (callFunc 38 #[.string ⟨#[65, 66, 67, 68, 69, 70, 71, 72, 73, 74, 75, 76, 77, 78, 79, 80, 81, 82, 83, 84, 85, 86, 87, 88, 89, 90, 97, 98, 99, 100, 101, 102, 103, 104, 105, 106, 107, 108, 109, 110, 111, 112, 113, 114, 115, 116, 117, 118, 119, 120, 121, 122, 48, 49, 50, 51, 52, 53, 54, 55, 56, 57, 45, 95]⟩, .int .u8 (c.toNat : Int)]).run Try.prog w = .ok (.value (.int .i64 (pl c))) w := by
  rw [run_callFunc_extern (e := Extern.BytealgIndexByte.indexByte) Try.func38 (by kernel_rfl) (by kernel_rfl) (by kernel_rfl) (by kernel_rfl), run_indexByte_string]
  have h := first_at ⟨c.toNat, c.toNat_lt⟩
  simp only [of_toNat] at h
  have e : (c.toNat : Int).toNat.toUInt8 = c := by rw [Int.toNat_natCast]; exact of_toNat c
  rw [e, h]
  rfl
theorem ixb_c (c : UInt8) (w : World) : Calls Try.prog 33 #[.string ⟨#[65, 66, 67, 68, 69, 70, 71, 72, 73, 74, 75, 76, 77, 78, 79, 80, 81, 82, 83, 84, 85, 86, 87, 88, 89, 90, 97, 98, 99, 100, 101, 102, 103, 104, 105, 106, 107, 108, 109, 110, 111, 112, 113, 114, 115, 116, 117, 118, 119, 120, 121, 122, 48, 49, 50, 51, 52, 53, 54, 55, 56, 57, 45, 95]⟩, .int .u8 (c.toNat : Int)] w fun e w' => e = .returned (.int .i64 (pl c)) ∧ w' = w := by
  have h := ixb_run c
  generalize (⟨#[65, 66, 67, 68, 69, 70, 71, 72, 73, 74, 75, 76, 77, 78, 79, 80, 81, 82, 83, 84, 85, 86, 87, 88, 89, 90, 97, 98, 99, 100, 101, 102, 103, 104, 105, 106, 107, 108, 109, 110, 111, 112, 113, 114, 115, 116, 117, 118, 119, 120, 121, 122, 48, 49, 50, 51, 52, 53, 54, 55, 56, 57, 45, 95]⟩ : ByteArray) = A at *
  go_enter Try.func33, Try.ntmps33
  go_wp2
  go_ret
  exact ⟨rfl, rfl⟩
theorem must_y (w : World) : Calls Try.prog 34 #[.bool true] w fun e w' => e = .returned (.tuple #[]) ∧ w' = w := by
  go_enter Try.func34, Try.ntmps34
  go_wp2
  first | go_end0 | go_ret
  exact ⟨rfl, rfl⟩
theorem must_n (w : World) : Calls Try.prog 34 #[.bool false] w fun e w' => e = .panicked [{ v := .iface 26 (.int .i64 2), recovered := false }] ∧ w' = w := by
  go_enter Try.func34, Try.ntmps34
  go_wp2
  simp [bodyPost]
/-- What fromLetters does. -/
def FlR (w : World) (s : List UInt8) (e : Ending) (w' : World) : Prop := Below w.heap.size w w' ∧ ((dec s = none ∧ e = .panicked [{ v := .iface 26 (.int .i64 2), recovered := false }]) ∨ ∃ y v, dec s = some y ∧ e = .returned v ∧ w'.ownsRow w.heap.size 5 1 v y.length (Lib.byteCells y))
def plcs (s : List UInt8) : List Nat := s.map plc
def preo (y : List Nat) (e : Nat) : List UInt8 := (List.range e).map fun i => UInt8.ofNat (oct y i)
theorem preo_succ (y : List Nat) (e : Nat) : preo y (e + 1) = preo y e ++ [UInt8.ofNat (oct y e)] := by unfold preo; rw [List.range_succ, List.map_append]; rfl
theorem preo_len (y : List Nat) (e : Nat) : (preo y e).length = e := by unfold preo; rw [List.length_map, List.length_range]
theorem preo_all (y : List Nat) : preo y (6 * y.length / 8) = octs y := rfl
/-- What its loop keeps, behind j letters. -/
structure Ft (w : World) (s : List UInt8) (j e b h : Nat) (v : Value) (W : World) : Prop where
  hn : 6 * j = 8 * e + b
  hh : Hh (lb (plcs s)) (6 * j) h
  hl : h < 18446744073709551616
  bl : Below w.heap.size w W
  ow : W.ownsRow w.heap.size 5 1 v (preo (plcs s) e).length (Lib.byteCells (preo (plcs s) e))
  ok : ∀ i c, i < j → s[i]? = some c → plc c < 64
theorem slice_own {B n : Nat} {W : World} {v : Value} {xs : List Value} (h : W.ownsRow B 5 1 v n xs) : ∃ q c, v = .slice q n c := by
  rcases h.2 with ⟨rfl, h0⟩ | ⟨g, cap, cur, rfl, -⟩
  · exact ⟨none, 0, by rw [h0]⟩
  · exact ⟨_, _, rfl⟩
theorem own_pb {B : Nat} {W : World} {v : Value} {x : List UInt8} (h : W.ownsRow B 5 1 v x.length (Lib.byteCells x)) : PB W v x := by
  rcases id h with ⟨-, ⟨rfl, h0⟩ | ⟨g, cap, cur, rfl, -⟩⟩
  · exact ⟨none, 0, by rw [h0], Or.inl (List.length_eq_zero_iff.1 h0)⟩
  · refine ⟨_, _, rfl, Or.inr ⟨g, 0, rfl, fun j u hj => ?_⟩⟩
    have := h.cells (g := g) rfl j (.int .u8 (u.toNat : Int)) (by unfold Lib.byteCells; rw [List.getElem?_map, hj]; rfl)
    have e : (⟨g, 0, none⟩ : Addr).add j = ⟨g, 0 + j, none⟩ := by
      unfold Addr.add
      by_cases h0 : j = 0
      · subst h0; rfl
      · rw [if_neg h0]
    rw [e] at this
    exact this
theorem undB : Try.prog.underlying 22 = some (.slice 5) := by kernel_rfl
theorem infoB : (Try.prog.info? 5).map (fun i => (i.size, i.bytes, i.zero.map fun z => z.cells.size)) = some (1, 1, some 1) := by kernel_rfl
/-- 'append(b, x)'. -/
theorem push_b {B : Nat} {W0 W : World} {v : Value} {l : List UInt8} (hB : B = W0.heap.size) (hb : Below B W0 W) (h : W.ownsRow B 5 1 v l.length (Lib.byteCells l)) (hl : l.length ≤ 1000000) (c : UInt8) :
    ∃ q' n' c' W', (∀ ty, (Builtin.append_ #[22, 22] ty #[v, .slice (some ⟨W.heap.size, 0, none⟩) 1 1]).run Try.prog (W.alloc (.cells #[.int .u8 (c.toNat : Int)] 5)) = .ok (.slice q' n' c') W') ∧ Below B W0 W' ∧ W'.ownsRow B 5 1 (.slice q' n' c') (l ++ [c]).length (Lib.byteCells (l ++ [c])) := by
  obtain ⟨i, hi1, hi2⟩ := Option.map_eq_some_iff.1 infoB
  simp only [Prod.mk.injEq] at hi2
  obtain ⟨h1, h2, h3⟩ := hi2
  obtain ⟨z, hz, hz2⟩ := Option.map_eq_some_iff.1 h3
  have hs : B ≤ W.heap.size := by rw [hB]; exact Nat.le_trans (by rw [hB] at hb; exact hb.size) (Nat.le_refl _)
  have hba : Below W.heap.size W (W.alloc (.cells #[.int .u8 (c.toNat : Int)] 5)) := (Below.refl _ _).alloc (Nat.le_refl _) _
  have how := h.alloc (.cells #[.int .u8 (c.toNat : Int)] 5)
  have hr := fun ty => run_append_own (P := Try.prog) (W.alloc (.cells #[.int .u8 (c.toNat : Int)] 5)) B 22 ty 5 i z 1 1 undB hi1 hz h1 h2 hz2 (by decide) v l.length _ how ⟨W.heap.size, 0, none⟩ 1 1 [.int .u8 (c.toNat : Int)] rfl (fun j u hj => by
    have hj0 : j = 0 := by have := (List.getElem?_eq_some_iff.1 hj).1; simp at this; omega
    subst hj0
    obtain rfl := Option.some.inj hj
    simp [Addr.add]) (fun u hu => by rw [List.mem_singleton.1 hu]; rfl) (by unfold maxLen; omega) (by omega) (by rw [World.size_alloc]; omega)
  obtain ⟨v', W', r1, r2, r3, -⟩ := hr 22
  obtain ⟨q', c', rfl⟩ := slice_own r2
  refine ⟨q', _, c', W', fun ty => r1, ?_, ?_⟩
  · have hb2 : Below B W0 (W.alloc (.cells #[.int .u8 (c.toNat : Int)] 5)) := hb.trans (hba.mono hs)
    refine ⟨by rw [r3.os, hb2.os], by rw [r3.tape, hb2.tape], by rw [r3.output, hb2.output], Nat.le_trans hb2.size r3.size, fun k hk => ?_⟩
    rw [r3.block k (by rw [World.size_alloc]; omega) (fun e => ?_)]
    · exact hb2.block k hk
    · have := (h.lt k e.symm).1
      omega
  · rw [List.length_append, byteCells_snoc]
    exact r2
end Go.Proofs.Ytlbaoipgdheigaa
namespace Go.Proofs.Ytlbaoipgdheigaa
open Go.RowKit Go.Sort
open WL
theorem ixS (s : List UInt8) (i : Nat) (c : UInt8) (hc : s[i]? = some c) (w : World) : (Instr.index 9 (.string ⟨s.toArray⟩) (.int .i64 (i : Int))).run Try.prog w = .ok (.int .u8 (c.toNat : Int)) w := by
  have hi : i < s.length := (List.getElem?_eq_some_iff.1 hc).1
  have hs : i < (⟨s.toArray⟩ : ByteArray).size := by show i < s.toArray.size; simpa using hi
  have e : (⟨s.toArray⟩ : ByteArray)[i]'hs = c := by
    rw [List.getElem?_eq_getElem hi] at hc
    exact Option.some.inj hc
  rw [run_index_string (t := 9) (k := .i64) (i := (i : Int)) (h := str9W)]
  simp [hs, e]
theorem sizeS (s : List UInt8) : (⟨s.toArray⟩ : ByteArray).size = s.length := by show s.toArray.size = _; simp
theorem dec_bad {s : List UInt8} {i : Nat} {c : UInt8} (h : s[i]? = some c) (hc : ¬ plc c < 64) : dec s = none := by
  unfold dec
  rw [if_neg (fun h2 => hc (h2.1 c (List.mem_of_getElem? h)))]
theorem lb_at (y : List Nat) (j t : Nat) (ht : t < 6) : lb y (6 * j + t) = y.getD j 0 / 2 ^ (5 - t) % 2 := by
  unfold lb
  rw [show (6 * j + t) / 6 = j by omega, show (6 * j + t) % 6 = t by omega]
set_option maxHeartbeats 2000000 in
set_option maxRecDepth 20000 in
theorem fromLetters_c (s : List UInt8) (hs : s.length ≤ 131072) (w : World) : Calls Try.prog 22 #[.string ⟨s.toArray⟩] w (FlR w s) := by
  obtain ⟨S, hS⟩ : ∃ S, Hid (S = (⟨s.toArray⟩ : ByteArray)) := ⟨_, rfl⟩
  have hsz : S.size = s.length := by rw [hS.out]; exact sizeS s
  rw [← hS.out]
  have K0 : Hid (Ft w s 0 0 0 0 (.slice none 0 0) w) := ⟨rfl, fun t _ ht => absurd ht (Nat.not_lt_zero _), by decide, Below.refl _ _, World.ownsRow_nil _ _ _ _, fun i c h => absurd h (Nat.not_lt_zero _)⟩
  go_enter Try.func22, Try.ntmps22
  go_wp2_with fail
  go_loopg [3, 4, 5, 10] s.length (fun gk s3 s4 s5 s10 wr => ∃ j e b h : Nat, j + gk = s.length ∧ b < 8 ∧ s4 = .int .u64 (h : Int) ∧ s5 = .int .i64 (b : Int) ∧ s10 = .int .i64 (j : Int) ∧ Hid (Ft w s j e b h s3 wr))
  case atStart => exact ⟨0, 0, 0, 0, by omega, by decide, rfl, rfl, rfl, K0⟩
  case round =>
    clear K0
    obtain ⟨j, e, b, h, hj, hb8, rfl, rfl, rfl, KM⟩ := hrel
    by_cases hjl : j < s.length
    · have hj' : (j : Int) < (s.length : Int) := by omega
      obtain ⟨c, hc⟩ : ∃ c, s[j]? = some c := ⟨_, List.getElem?_eq_getElem hjl⟩
      have hix : ∀ w : World, (Instr.index 9 (.string S) (.int .i64 (j : Int))).run Try.prog w = .ok (.int .u8 (c.toNat : Int)) w := fun w => by rw [hS.out]; exact ixS s j c hc w
      have hI := ixb_c c wr
      obtain ⟨qs, cs, hv⟩ := slice_own KM.out.ow
      by_cases hp : plc c < 64
      · have hpl : pl c = (plc c : Int) := if_pos hp
        rw [hpl] at hI
        obtain ⟨n, hn⟩ : ∃ n, n = plc c := ⟨_, rfl⟩
        rw [← hn] at hI hp
        have g0 : (0 : Int) ≤ (n : Int) := by omega
        have hM := must_y wr
        have hhl := KM.out.hl
        obtain ⟨h2, hh2⟩ : ∃ h2, h2 = (h * 64 + n) % 18446744073709551616 := ⟨_, rfl⟩
        have wsh : IntKind.u64.wrap ((h : Int) * 64) = ((h * 64 % 18446744073709551616 : Nat) : Int) := by rw [IntKind.wrap_u64]; omega
        have wu : IntKind.u64.wrap (n : Int) = (n : Int) := by rw [IntKind.wrap_u64]; omega
        have hor : bits .or .u64 ((h * 64 % 18446744073709551616 : Nat) : Int) (n : Int) = (h2 : Int) := by rw [hh2]; exact or_u64 h n 6 64 rfl hp (by decide)
        have K1 : Hid (Ft w s (j + 1) e (b + 6) h2 (.slice qs (preo (plcs s) e).length cs) wr) := by
          have k := KM.out
          have kn := k.hn
          have hget : (plcs s).getD j 0 = n := by unfold plcs; rw [List.getD_eq_getElem?_getD, List.getElem?_map, hc, hn]; rfl
          refine ⟨by omega, ?_, by omega, k.bl, by rw [← hv]; exact k.ow, fun i c' hi hc' => ?_⟩
          · rw [hh2]
            exact k.hh.push 6 n (by decide) hp (fun t ht => by
              rw [show 6 * j + 6 - 1 - t = 6 * j + (5 - t) by omega, lb_at (plcs s) j (5 - t) (by omega), hget, show 5 - (5 - t) = t by omega])
          · by_cases hij : i < j
            · exact k.ok i c' hij hc'
            · obtain rfl : i = j := by omega
              rw [hc] at hc'
              obtain rfl := Option.some.inj hc'
              rw [← hn]; exact hp
        subst hv
        clear KM hh2 hn hc hpl
        generalize (h * 64 % 18446744073709551616 : Nat) = hm at *
        go_wp2_with fail
        refine hI.mono ?_
        rintro e' w' ⟨rfl, rfl⟩
        clear hI
        go_wp2_with fail
        refine hM.mono ?_
        rintro e' w' ⟨rfl, rfl⟩
        clear hM hix
        by_cases h8 : 8 ≤ b + 6
        · obtain ⟨b3, hb3⟩ : ∃ b3, b + 6 = b3 + 8 := ⟨b + 6 - 8, by omega⟩
          have hb6 : (b : Int) + 6 = (b3 : Int) + 8 := by omega
          obtain ⟨c2, hc2⟩ : ∃ c2, c2 = UInt8.ofNat (oct (plcs s) e) := ⟨_, rfl⟩
          have ho : (h2 : Int) / (2 : Int) ^ b3 % 256 = (c2.toNat : Int) := by
            have k := K1.out
            have kn := k.hn
            have h3 := k.hh.oct (b := b3) (by omega) (by omega)
            rw [show 6 * (j + 1) - b3 - 8 = 8 * e by omega] at h3
            have h4 : h2 / 2 ^ b3 % 256 = c2.toNat := by
              rw [h3, hc2]
              have := oct_lt (plcs s) e
              unfold oct at this ⊢
              rw [UInt8.toNat_ofNat', Nat.mod_eq_of_lt this]
            rw [divp, ← h4]
            omega
          have hk1 : (preo (plcs s) e).length ≤ 1000000 := by rw [preo_len]; have := K1.out.hn; omega
          obtain ⟨q', n', c', W', hap, hbl', how'⟩ := push_b (W0 := w) rfl K1.out.bl K1.out.ow hk1 c2
          have HAP := hidW (hap 22)
          have KN : Hid (Ft w s (j + 1) (e + 1) b3 h2 (.slice q' n' c') W') := by
            have k := K1.out
            have kn := k.hn
            exact ⟨by omega, k.hh, k.hl, hbl', by rw [preo_succ, ← hc2]; exact how', k.ok⟩
          clear K1 hap hbl' how' hc2
          go_wp2_with (at_builtin; refine Lib.wpList_append_run _ rfl _ _ _ _ rfl _ _ rfl rfl _ _ HAP.out ?_)
          go_roundg (gk - 1)
          case measure => omega
          case rel => exact ⟨j + 1, e + 1, b3, h2, by omega, by omega, rfl, rfl, rfl, KN⟩
        · have g8 : ¬ (8 : Int) ≤ (b : Int) + 6 := by omega
          go_wp2
          go_roundg (gk - 1)
          case measure => omega
          case rel => exact ⟨j + 1, e, b + 6, h2, by omega, by omega, rfl, rfl, rfl, K1⟩
      · have hpl : pl c = -1 := if_neg hp
        rw [hpl] at hI
        have hM := must_n wr
        have KF : Hid (FlR w s (.panicked [{ v := .iface 26 (.int .i64 2), recovered := false }]) wr) := ⟨KM.out.bl, Or.inl ⟨dec_bad hc hp, rfl⟩⟩
        clear KM hc
        go_wp2_with fail
        refine hI.mono ?_
        rintro e' w' ⟨rfl, rfl⟩
        clear hI
        go_wp2_with fail
        refine hM.mono ?_
        rintro e' w' ⟨rfl, rfl⟩
        clear hM hix
        simp [Exit.inBlock, Exit.then, bodyPost]
        exact KF.out
    · have hj' : ¬ (j : Int) < (s.length : Int) := by omega
      obtain rfl : j = s.length := by omega
      have kn := KM.out.hn
      have hpl : (plcs s).length = s.length := by unfold plcs; exact List.length_map _
      have hoc : preo (plcs s) e = octs (plcs s) := by
        have : e = 6 * (plcs s).length / 8 := by rw [hpl]; omega
        rw [this]; exact preo_all _
      have how := KM.out.ow
      rw [hoc] at how
      obtain ⟨qs, cs, rfl⟩ := slice_own how
      have hL := lettersOf_c (.slice qs (octs (plcs s)).length cs) (octs (plcs s)) (by rw [← hoc, preo_len]; omega) wr (own_pb how)
      have hok : ∀ c ∈ s, plc c < 64 := fun c hc => by
        obtain ⟨i, hi⟩ := List.getElem?_of_mem hc
        exact KM.out.ok i c (List.getElem?_eq_some_iff.1 hi).1 hi
      have K1 : Hid (Below w.heap.size w wr ∧ wr.ownsRow w.heap.size 5 1 (.slice qs (octs (plcs s)).length cs) (octs (plcs s)).length (Lib.byteCells (octs (plcs s))) ∧ (∀ c ∈ s, plc c < 64)) := ⟨KM.out.bl, how, hok⟩
      clear KM how hok hoc
      go_wp2_with fail
      refine hL.mono ?_
      rintro e' w3 ⟨v3, rfl, hb3, rfl⟩
      have K3 : Hid (Below w.heap.size w w3 ∧ w3.ownsRow w.heap.size 5 1 (.slice qs (octs (plcs s)).length cs) (octs (plcs s)).length (Lib.byteCells (octs (plcs s)))) := by
        obtain ⟨k1, k2, -⟩ := K1.out
        refine ⟨k1.trans (hb3.mono k1.size), ?_⟩
        obtain ⟨m1, m2⟩ := k2
        refine ⟨m1, ?_⟩
        rcases m2 with m2 | ⟨g, cap, cur, m3, m4, m5, m6⟩
        · exact Or.inl m2
        · exact Or.inr ⟨g, cap, cur, m3, m4, by rw [hb3.block g (Array.getElem?_eq_some_iff.1 m5).1]; exact m5, m6⟩
      obtain ⟨T, hT⟩ : ∃ T, Hid (T = (⟨(letters (octs (plcs s))).toArray⟩ : ByteArray)) := ⟨_, rfl⟩
      rw [← hT.out]
      clear hL hb3
      by_cases hq : letters (octs (plcs s)) = s
      · have hqq : (T.toList == S.toList) = true := by rw [hT.out, hS.out, hq]; simp
        have hM := must_y w3
        have KF : Hid (FlR w s (.returned (.slice qs (octs (plcs s)).length cs)) w3) := ⟨K3.out.1, Or.inr ⟨octs (plcs s), _, by unfold dec; rw [if_pos ⟨K1.out.2.2, hq⟩]; rfl, rfl, K3.out.2⟩⟩
        clear K1 K3 hq
        go_wp2_with fail
        refine hM.mono ?_
        rintro e' w' ⟨rfl, rfl⟩
        clear hM
        go_wp2
        go_ret
        exact KF.out
      · have hqq : (T.toList == S.toList) = false := by
          rw [hT.out, hS.out, ByteArray.toList_eq, ByteArray.toList_eq, beq_eq_false_iff_ne]
          intro h
          exact hq (by simpa using h)
        have hM := must_n w3
        have KF : Hid (FlR w s (.panicked [{ v := .iface 26 (.int .i64 2), recovered := false }]) w3) := ⟨K3.out.1, Or.inl ⟨by unfold dec; rw [if_neg (fun h => hq h.2)], rfl⟩⟩
        clear K1 K3 hq
        go_wp2_with fail
        refine hM.mono ?_
        rintro e' w' ⟨rfl, rfl⟩
        clear hM
        simp [Exit.inBlock, Exit.then, bodyPost]
        exact KF.out
end Go.Proofs.Ytlbaoipgdheigaa
namespace Go.Proofs.Ytlbaoipgdheigaa
open Go.RowKit Go.Sort
open WL
theorem catch_p (p : Addr) (x : Int) (u : TypeId) (pv : Value) (older : List PanicEntry) (w : World) (hc : w.cell? p = some (.int .i64 x)) (hz : w.frozen? p = false) :
    CallsD Try.prog 32 #[.pointer (some p)] (.panicking ({ v := .iface u pv, recovered := false } :: older)) w fun e u' w' =>
      e = .returned (.tuple #[]) ∧ u' = .panicking ({ v := .iface u pv, recovered := true } :: older) ∧ w' = w.setCell p (.int .i64 2) := by
  refine callsD_of_wpS Try.func32 rfl fun c₀ cs hu => ?_
  apply wpS_seq
  apply wpS_region
  simp [wpOpsS, go_sem, recoverD, hu, Try.ntmps32, Exit.thenS]
  refine wpS_cond (t := true) (by simp [Act.eval, Array.replicate]) ?_
  simp only [if_true]
  apply wpS_region
  simp [wpOpsS, go_sem, hc, hz, bodyPostS, results, Try.results32]
theorem catch_i (p : Addr) (w : World) :
    CallsD Try.prog 32 #[.pointer (some p)] .returning w fun e u' w' => e = .returned (.tuple #[]) ∧ u' = .returning ∧ w' = w := by
  refine callsD_of_wpS Try.func32 rfl fun c₀ cs hu => ?_
  apply wpS_seq
  apply wpS_region
  simp [wpOpsS, go_sem, recoverD, hu, Try.ntmps32, Exit.thenS]
  refine wpS_cond (t := false) (by simp [Act.eval, Array.replicate]) ?_
  simp only [Bool.false_eq_true, if_false]
  refine wpS_of_wp (wp_skip ?_)
  cases c₀
  simp_all [bodyPostS, results, Try.results32]
theorem fl1_c (s : List UInt8) (hs : s.length ≤ 131072) (bx : Nat) (w : World) (hc : w.cell? ⟨bx, 0, none⟩ = some (.string ⟨s.toArray⟩)) : Calls Try.prog 21 #[.pointer (some ⟨bx, 0, none⟩)] w (FlR w s) := by
  have hF := fromLetters_c s hs w
  obtain ⟨S, hS⟩ : ∃ S, Hid (S = (⟨s.toArray⟩ : ByteArray)) := ⟨_, rfl⟩
  rw [← hS.out] at hF hc
  go_enter Try.func21, Try.ntmps21
  go_wp2_with fail
  refine hF.mono ?_
  rintro e w1 ⟨hb, ⟨hd, rfl⟩ | ⟨y, v, hd, rfl, how⟩⟩
  · have KF : Hid (FlR w s (.panicked [{ v := .iface 26 (.int .i64 2), recovered := false }]) w1) := ⟨hb, Or.inl ⟨hd, rfl⟩⟩
    clear hF hb hd
    simp [Exit.inBlock, Exit.then, bodyPost]
    exact KF.out
  · have KF : Hid (FlR w s (.returned v) w1) := ⟨hb, Or.inr ⟨y, v, hd, rfl, how⟩⟩
    clear hF hb hd how
    go_wp2
    go_ret
    exact KF.out
/-- What FromLetters answers, of a text that is not too long. -/
def FrR (w : World) (s : List UInt8) (e : Value) (w' : World) : Prop := Below w.heap.size w w' ∧ ((dec s = none ∧ e = .tuple #[.slice none 0 0, .int .i64 2]) ∨ ∃ y v, dec s = some y ∧ e = .tuple #[v, .int .i64 0] ∧ w'.ownsRow w.heap.size 5 1 v y.length (Lib.byteCells y))
set_option maxHeartbeats 1000000 in
theorem caught_c (s : List UInt8) (hs : s.length ≤ 131072) (bx : Nat) (w : World) (hc : w.cell? ⟨bx, 0, none⟩ = some (.string ⟨s.toArray⟩)) : Calls Try.prog 20 #[.func (.func 21) #[] #[.pointer (some ⟨bx, 0, none⟩)]] w (RetW (FrR w s)) := by
  have hmf : ∀ (fn : Fn) (first cap : Array Value) (w : World), (Instr.makeFunc fn first cap).run Try.prog w = .ok (.func fn first cap) w := fun _ _ _ _ => rfl
  have hb0 : Below w.heap.size w (w.alloc (.cells #[.int .i64 0] 26)) := (Below.refl _ _).alloc (Nat.le_refl _) _
  have hF := fl1_c s hs bx (w.alloc (.cells #[.int .i64 0] 26)) (by rw [hb0.cell (p := ⟨bx, 0, none⟩) (World.block_lt_of_cell? _ _ hc)]; exact hc)
  have hs1 : (w.alloc (.cells #[.int .i64 0] 26)).heap.size = w.heap.size + 1 := World.size_alloc _ _
  have c0 : (w.alloc (.cells #[.int .i64 0] 26)).cell? ⟨w.heap.size, 0, none⟩ = some (.int .i64 0) := by simp
  have z0 : (w.alloc (.cells #[.int .i64 0] 26)).frozen? ⟨w.heap.size, 0, none⟩ = false := by simp
  clear hc
  go_enter_defers Try.func20, Try.ntmps20
  go_wp2_with fail
  refine hF.mono ?_
  rintro e w2 ⟨hb, ⟨hd, rfl⟩ | ⟨y, v, hd, rfl, how⟩⟩
  · have hlt : w.heap.size < (w.alloc (.cells #[.int .i64 0] 26)).heap.size := by omega
    have c2 : w2.cell? ⟨w.heap.size, 0, none⟩ = some (.int .i64 0) := by rw [hb.cell (p := ⟨w.heap.size, 0, none⟩) hlt]; exact c0
    have z2 : w2.frozen? ⟨w.heap.size, 0, none⟩ = false := by rw [World.frozen?_of_block (a := ⟨w.heap.size, 0, none⟩) (hb.block w.heap.size hlt)]; exact z0
    have KF : Hid (FrR w s (.tuple #[.slice none 0 0, .int .i64 2]) (w2.setCell ⟨w.heap.size, 0, none⟩ (.int .i64 2))) := ⟨(hb0.trans (hb.mono (by omega))).setCell (p := ⟨w.heap.size, 0, none⟩) (Nat.le_refl _) _, Or.inl ⟨hd, rfl⟩⟩
    have c3 : (w2.setCell ⟨w.heap.size, 0, none⟩ (.int .i64 2)).cell? ⟨w.heap.size, 0, none⟩ = some (.int .i64 2) := World.cell?_setCell_same _ _ _ c2
    clear hF hb hd hb0 c0 z0
    show bodyPostD _ _ _ _ _ _
    refine leaves_cons (f := 32) (args := #[.pointer (some ⟨w.heap.size, 0, none⟩)]) (by simp) (by simp [go_sem]) ?_
    refine (catch_p ⟨w.heap.size, 0, none⟩ 0 26 _ [] _ c2 z2).mono ?_
    rintro e u' w'' ⟨rfl, rfl, rfl⟩
    simp [Leaves, settle, results, Try.results20, go_sem, c3]
    exact ⟨_, rfl, KF.out⟩
  · have hlt : w.heap.size < (w.alloc (.cells #[.int .i64 0] 26)).heap.size := by omega
    have c2 : w2.cell? ⟨w.heap.size, 0, none⟩ = some (.int .i64 0) := by rw [hb.cell (p := ⟨w.heap.size, 0, none⟩) hlt]; exact c0
    have z2 : w2.frozen? ⟨w.heap.size, 0, none⟩ = false := by rw [World.frozen?_of_block (a := ⟨w.heap.size, 0, none⟩) (hb.block w.heap.size hlt)]; exact z0
    have KF : Hid (FrR w s (.tuple #[v, .int .i64 0]) (w2.setCell ⟨w.heap.size, 0, none⟩ (.int .i64 0))) := by
      refine ⟨(hb0.trans (hb.mono (by omega))).setCell (p := ⟨w.heap.size, 0, none⟩) (Nat.le_refl _) _, Or.inr ⟨y, v, hd, rfl, ?_⟩⟩
      obtain ⟨m1, m2⟩ := how
      refine ⟨m1, ?_⟩
      rcases m2 with m2 | ⟨g, cap, cur, m3, m4, m5, m6⟩
      · exact Or.inl m2
      · refine Or.inr ⟨g, cap, cur, m3, by omega, ?_, m6⟩
        rw [heap_setCell_other w2 ⟨w.heap.size, 0, none⟩ g _ (by show g ≠ w.heap.size; omega)]
        exact m5
    have c3 : (w2.setCell ⟨w.heap.size, 0, none⟩ (.int .i64 0)).cell? ⟨w.heap.size, 0, none⟩ = some (.int .i64 0) := World.cell?_setCell_same _ _ _ c2
    clear hF hb hd hb0 c0 z0 how
    go_wp2
    refine leaves_cons (f := 32) (args := #[.pointer (some ⟨w.heap.size, 0, none⟩)]) (by simp) (by simp [go_sem]) ?_
    refine (catch_i ⟨w.heap.size, 0, none⟩ _).mono ?_
    rintro e u' w'' ⟨rfl, rfl, rfl⟩
    simp [Leaves, settle, results, Try.results20, go_sem, c3]
    exact ⟨_, rfl, KF.out⟩
theorem from_c (s : List UInt8) (hs : s.length ≤ 131072) (w : World) : Calls Try.prog 8 #[.string ⟨s.toArray⟩] w (RetW (FrR w s)) := by
  obtain ⟨S, hS⟩ : ∃ S, Hid (S = (⟨s.toArray⟩ : ByteArray)) := ⟨_, rfl⟩
  have hsz : S.size = s.length := by rw [hS.out]; exact sizeS s
  have hmf : ∀ (fn : Fn) (first cap : Array Value) (w : World), (Instr.makeFunc fn first cap).run Try.prog w = .ok (.func fn first cap) w := fun _ _ _ _ => rfl
  have hb0 : Below w.heap.size w (w.alloc (.cells #[.string S] 9)) := (Below.refl _ _).alloc (Nat.le_refl _) _
  have hC := caught_c s hs w.heap.size (w.alloc (.cells #[.string S] 9)) (by rw [← hS.out]; simp)
  have g : ¬ (131072 : Int) < (s.length : Int) := by omega
  rw [← hS.out]
  go_enter Try.func8, Try.ntmps8
  go_wp2_with fail
  refine hC.mono ?_
  rintro e w2 ⟨v2, rfl, hb, h⟩
  have hs1 : (w.alloc (.cells #[.string S] 9)).heap.size = w.heap.size + 1 := World.size_alloc _ _
  rcases h with ⟨hd, rfl⟩ | ⟨y, v, hd, rfl, how⟩
  · have KF : Hid (FrR w s (.tuple #[.slice none 0 0, .int .i64 2]) w2) := ⟨hb0.trans (hb.mono (by omega)), Or.inl ⟨hd, rfl⟩⟩
    clear hC hb hd hb0
    go_wp2
    go_ret2
    exact ⟨_, rfl, KF.out⟩
  · have KF : Hid (FrR w s (.tuple #[v, .int .i64 0]) w2) := by
      refine ⟨hb0.trans (hb.mono (by omega)), Or.inr ⟨y, v, hd, rfl, ?_⟩⟩
      obtain ⟨m1, m2⟩ := how
      refine ⟨m1, ?_⟩
      rcases m2 with m2 | ⟨g, cap, cur, m3, m4, m6⟩
      · exact Or.inl m2
      · exact Or.inr ⟨g, cap, cur, m3, by omega, m6⟩
    obtain ⟨q, c, rfl⟩ := slice_own how
    clear hC hb hd hb0 how
    go_wp2
    go_ret2
    exact ⟨_, rfl, KF.out⟩
theorem from_n (S : ByteArray) (hs : 131072 < S.size) (w : World) : Calls Try.prog 8 #[.string S] w (RetW fun e w' => Below w.heap.size w w' ∧ e = .tuple #[.slice none 0 0, .int .i64 1]) := by
  have g : (131072 : Int) < (S.size : Int) := by omega
  have hb0 : Below w.heap.size w (w.alloc (.cells #[.string S] 9)) := (Below.refl _ _).alloc (Nat.le_refl _) _
  go_enter Try.func8, Try.ntmps8
  go_wp2
  go_ret2
  exact ⟨_, rfl, hb0, rfl⟩
end Go.Proofs.Ytlbaoipgdheigaa
namespace Go.Proofs.Ytlbaoipgdheigaa
open Go.RowKit Go.Sort
open WL
/-- A number out of bits, the highest first. -/
def pr (f : Nat → Nat) : Nat → Nat
  | 0 => 0
  | t + 1 => 2 * pr f t + f t
theorem pr_lt (f : Nat → Nat) (hf : ∀ t, f t < 2) : ∀ t, pr f t < 2 ^ t
  | 0 => by rw [pr]; decide
  | t + 1 => by
    have h1 := pr_lt f hf t
    have h2 := hf t
    rw [pr, Nat.pow_succ]
    omega
theorem pr_six (x : List UInt8) (i : Nat) : pr (fun t => bt x (6 * i + t)) 6 = six x i := by
  unfold six
  simp only [pr, Nat.add_zero]
  omega
theorem pr_oct (y : List Nat) (e : Nat) : pr (fun t => lb y (8 * e + t)) 8 = oct y e := by
  unfold oct
  simp only [pr, Nat.add_zero]
  omega
theorem int5W : Try.prog.underlying 5 = some (.int .u8) := by kernel_rfl
theorem pb_conv {w : World} {v : Value} {x : List UInt8} (h : PB w v x) : (convert 22 9 v).run Try.prog w = .ok (.string ⟨x.toArray⟩) w := by
  obtain ⟨q, c, rfl, h2⟩ := h
  cases q with
  | none =>
    rcases h2 with rfl | ⟨b, o, h3, -⟩
    · exact run_convert_bytes_nil (P := Try.prog) (w := w) 22 5 undB int5W 0 c 9 str9W
    · cases h3
  | some a =>
    refine run_convert_bytes_back (P := Try.prog) w 22 9 5 a c x undB int5W str9W (fun j hj => ?_)
    rcases h2 with rfl | ⟨b, o, h3, h4⟩
    · cases hj
    · obtain rfl := Option.some.inj h3
      have e : (⟨b, o, none⟩ : Addr).add j = ⟨b, o + j, none⟩ := by
        unfold Addr.add
        by_cases h0 : j = 0
        · subst h0; rfl
        · rw [if_neg h0]
      rw [e]
      exact h4 j _ (List.getElem?_eq_getElem hj)
theorem and_i64_1 (y : Nat) (hy : y < 9223372036854775808) : bits .and .i64 (y : Int) 1 = ((y % 2 : Nat) : Int) := by
  have h1 : (BitVec.ofInt 64 (y : Int)).toNat = y := by
    rw [BitVec.ofInt_natCast, BitVec.toNat_ofNat]; exact Nat.mod_eq_of_lt (by omega)
  have h2 : (BitVec.ofInt 64 1).toNat = 1 := rfl
  show IntKind.i64.wrap ((BitVec.ofInt 64 (y : Int) &&& BitVec.ofInt 64 1).toNat : Int) = _
  rw [BitVec.toNat_and, h1, h2, Nat.and_one_is_mod, IntKind.wrap_i64]
  omega
theorem bit_core (y n : Nat) (hy : y < 256) (hn : n < 64) : wrap64 (2 * (n : Int) + bits .and .i64 (wrap64 (y : Int)) 1) = ((2 * n + y % 2 : Nat) : Int) := by
  have e3 : wrap64 (y : Int) = (y : Int) := by unfold wrap64; omega
  rw [e3, and_i64_1 y (by omega)]
  unfold wrap64
  omega
theorem byte_at (x : List UInt8) (S : ByteArray) (hS : S = ⟨x.toArray⟩) (k : Nat) (hk : k < S.size) : (S[k]'hk).toNat = (x.getD k 0).toNat := by
  subst hS
  have hk2 : k < x.length := by rw [← sizeS x]; exact hk
  rw [List.getD_eq_getElem?_getD, List.getElem?_eq_getElem hk2]
  rfl
theorem step_bit (x : List UInt8) (S : ByteArray) (hS : S = ⟨x.toArray⟩) (k n d m : Nat) (hd : d = k / 8) (hm : m = 7 - k % 8) (hk : d < S.size) (hn : n < 64) :
    wrap64 (2 * (n : Int) + bits .and .i64 (wrap64 (((S[d]'hk).toNat : Int) / (2 : Int) ^ m)) 1) = ((2 * n + bt x k : Nat) : Int) := by
  rw [byte_at x S hS d hk, divp]
  have h1 := (x.getD d 0).toNat_lt
  have h2 : (x.getD d 0).toNat / 2 ^ m ≤ (x.getD d 0).toNat := Nat.div_le_self _ _
  rw [bit_core _ n (by omega) hn]
  unfold bt
  rw [hd, hm]
/-- What the loop keeps. -/
structure Rl (w : World) (x : List UInt8) (i : Nat) (v : Value) (W : World) : Prop where
  bl : Below w.heap.size w W
  ow : W.ownsRow w.heap.size 5 1 v (pre x i).length (Lib.byteCells (pre x i))
set_option maxHeartbeats 2000000 in
set_option maxRecDepth 20000 in
theorem rletters_c (x : List UInt8) (hx : x.length ≤ 200000) (w : World) : Calls Try.prog 9 #[.string ⟨x.toArray⟩] w (RetW fun e w' => Below w.heap.size w w' ∧ e = .string ⟨(letters x).toArray⟩) := by
  obtain ⟨S, hS⟩ : ∃ S, Hid (S = (⟨x.toArray⟩ : ByteArray)) := ⟨_, rfl⟩
  have hsz : S.size = x.length := by rw [hS.out]; exact sizeS x
  rw [← hS.out]
  have w8 : IntKind.i64.wrap (8 * (x.length : Int)) = 8 * (x.length : Int) := by rw [IntKind.wrap_i64]; omega
  have K0 : Hid (Rl w x 0 (.slice none 0 0) w) := ⟨Below.refl _ _, World.ownsRow_nil _ _ _ _⟩
  have hnl : nl x.length ≤ 300000 := by unfold nl; omega
  go_enter Try.func9, Try.ntmps9
  go_wp2_with fail
  go_loopg [3, 4] (nl x.length) (fun gk s3 s4 wr => ∃ i : Nat, i + gk = nl x.length ∧ s4 = .int .i64 (i : Int) ∧ Hid (Rl w x i s3 wr))
  case atStart => exact ⟨0, by omega, rfl, K0⟩
  case round =>
    clear K0
    obtain ⟨i, hi, rfl, KM⟩ := hrel
    have w6 : IntKind.i64.wrap (6 * (i : Int)) = 6 * (i : Int) := by rw [IntKind.wrap_i64]; omega
    obtain ⟨qs, cs, hv⟩ := slice_own KM.out.ow
    by_cases hil : i < nl x.length
    · have hlt : 6 * (i : Int) < 8 * (x.length : Int) := by unfold nl at hil; omega
      subst hv
      have w66 : IntKind.i64.wrap (6 * (i : Int) + 6) = 6 * (i : Int) + 6 := by rw [IntKind.wrap_i64]; omega
      go_wp2_with fail
      go_loopg [5, 6] 6 (fun gk2 s5 s6 wr2 => ∃ t k n : Nat, t + gk2 = 6 ∧ k = 6 * i + t ∧ n = pr (fun t => bt x (6 * i + t)) t ∧ s5 = .int .i64 (n : Int) ∧ s6 = .int .i64 (k : Int) ∧ wr = wr2)
      case atStart => exact ⟨0, 6 * i, 0, by omega, by omega, rfl, rfl, by first | rfl | simp, rfl⟩
      case round =>
        obtain ⟨t, k, n, ht, hk, hn, rfl, rfl, rfl⟩ := hrel
        by_cases ht6 : t < 6
        · have g6 : (k : Int) < 6 * (i : Int) + 6 := by omega
          by_cases hkl : k / 8 < x.length
          · subst hk
            have hn64 : n < 64 := by
              have h1 := pr_lt (fun t => bt x (6 * i + t)) (fun t => bt_lt x _) t
              have h2 : (2 : Nat) ^ t ≤ 2 ^ 6 := Nat.pow_le_pow_right (by decide) (by omega)
              omega
            have HN := hidW hn
            have HB := hidW (fun hk => step_bit x S hS.out (6 * i + t) n _ _ rfl rfl hk hn64)
            clear hn
            go_wp2
            go_roundg (gk - 1)
            case measure => omega
            case rel => exact ⟨t + 1, 6 * i + (t + 1), 2 * n + bt x (6 * i + t), by omega, rfl, by rw [pr, ← HN.out], congrArg (Value.int .i64) (HB.out _), by first | rfl | (congr 1; omega), rfl⟩
          · subst hk
            have hn64 : n < 64 := by
              have h1 := pr_lt (fun t => bt x (6 * i + t)) (fun t => bt_lt x _) t
              have h2 : (2 : Nat) ^ t ≤ 2 ^ 6 := Nat.pow_le_pow_right (by decide) (by omega)
              omega
            have HN := hidW hn
            have HZ := hidW (bt_end x (6 * i + t) (by omega))
            clear hn
            go_wp2
            go_roundg (gk - 1)
            case measure => omega
            case rel => exact ⟨t + 1, 6 * i + (t + 1), 2 * n, by omega, rfl, by rw [pr, ← HN.out, HZ.out]; rfl, by first | rfl | (congr 1; unfold wrap64; omega), by first | rfl | (congr 1; omega), rfl⟩
        · have g6 : ¬ (k : Int) < 6 * (i : Int) + 6 := by omega
          obtain rfl : t = 6 := by omega
          rw [pr_six] at hn
          have hn64 : n < 64 := by rw [hn]; exact six_lt x i
          obtain ⟨q', n', c', W', hap, hbl', how'⟩ := push_b (W0 := w) rfl KM.out.bl KM.out.ow (by rw [pre_len]; omega) (ltr n)
          have HAP := hidW (hap 22)
          have KN : Hid (Rl w x (i + 1) (.slice q' n' c') W') := ⟨hbl', by rw [pre_succ, ← hn]; exact how'⟩
          clear KM hap hbl' how' hn
          go_wp2_with (first | (refine wpList_ixc (.int .u8 ((ltr n).toNat : Int)) rfl _ 44 9 rfl ?_ ?_; (exact ixL .i64 n hn64 _)) | (at_builtin; refine Lib.wpList_append_run _ rfl _ _ _ _ rfl _ _ rfl rfl _ _ HAP.out ?_))
          go_roundg (nl x.length - (i + 1))
          case measure => omega
          case rel => exact ⟨i + 1, by omega, rfl, KN⟩
    · have hlt : ¬ 6 * (i : Int) < 8 * (x.length : Int) := by unfold nl at hil; omega
      obtain rfl : i = nl x.length := by omega
      have how := KM.out.ow
      rw [pre_all] at how
      have hcv := pb_conv (own_pb how)
      have K1 := hidW KM.out.bl
      rw [pre_all] at hv
      subst hv
      clear KM how
      go_wp2
      go_ret
      exact ⟨_, rfl, K1.out, rfl⟩
end Go.Proofs.Ytlbaoipgdheigaa
namespace Go.Proofs.Ytlbaoipgdheigaa
open Go.RowKit Go.Sort
open WL
theorem plc_of {c : UInt8} {i : Nat} (hi : i < 64) (h : ltr i = c) : plc c = i := by rw [← h]; exact plc_ltr ⟨i, hi⟩
theorem ltr_of {c : UInt8} (h : plc c < 64) : ltr (plc c) = c := by
  have := ltr_plc ⟨c.toNat, c.toNat_lt⟩
  simp only [of_toNat] at this
  exact this h
set_option maxHeartbeats 1000000 in
theorem rplace_c (c : UInt8) (w : World) : Calls Try.prog 23 #[.int .u8 (c.toNat : Int)] w fun e w' => e = .returned (.int .i64 (pl c)) ∧ w' = w := by
  go_enter Try.func23, Try.ntmps23
  go_wp2_with fail
  go_loopg [3] 64 (fun gk s3 wr => ∃ i : Nat, i + gk = 64 ∧ s3 = .int .i64 (i : Int) ∧ wr = w ∧ Hid (∀ j, j < i → ltr j ≠ c))
  case atStart => exact ⟨0, by omega, rfl, rfl, fun j hj => absurd hj (Nat.not_lt_zero _)⟩
  case round =>
    obtain ⟨i, hi, rfl, rfl, KM⟩ := hrel
    by_cases hl : i < 64
    · have hl' : (i : Int) < 64 := by omega
      by_cases hq : ltr i = c
      · have hpl : pl c = (i : Int) := by unfold pl; rw [plc_of hl hq, if_pos hl]
        have hqq : ((ltr i).toNat : Int) = (c.toNat : Int) := by rw [hq]
        have HPL := hidW hpl
        clear KM hq hpl
        go_wp2_with (refine wpList_ixc (.int .u8 ((ltr i).toNat : Int)) rfl _ 8 9 rfl ?_ ?_; (exact ixL .i64 i hl _))
        go_ret
        exact ⟨by rw [HPL.out]; rfl, rfl⟩
      · have hqq : ¬ ((ltr i).toNat : Int) = (c.toNat : Int) := fun h => hq (by
          have h2 : (ltr i).toNat = c.toNat := by omega
          rw [← of_toNat (ltr i), h2, of_toNat])
        have hqn : ¬ (ltr i).toNat = c.toNat := by omega
        have KN : Hid (∀ j, j < i + 1 → ltr j ≠ c) := fun j hj => by
          by_cases h : j < i
          · exact KM.out j h
          · obtain rfl : j = i := by omega
            exact hq
        clear KM hq
        go_wp2_with (refine wpList_ixc (.int .u8 ((ltr i).toNat : Int)) rfl _ 8 9 rfl ?_ ?_; (exact ixL .i64 i hl _))
        go_roundg (gk - 1)
        case measure => omega
        case rel => exact ⟨i + 1, by omega, rfl, rfl, KN⟩
    · have hl' : ¬ (i : Int) < 64 := by omega
      have hpl : pl c = -1 := by
        unfold pl
        rw [if_neg]
        intro h
        exact KM.out (plc c) (by omega) (ltr_of h)
      have HPL := hidW hpl
      clear KM hpl
      go_wp2
      go_ret
      exact ⟨by rw [HPL.out]; rfl, rfl⟩
theorem and_u8_1 (y : Nat) (hy : y < 256) : bits .and .u8 (y : Int) 1 = ((y % 2 : Nat) : Int) := by
  have h1 : (BitVec.ofInt 8 (y : Int)).toNat = y := by
    rw [BitVec.ofInt_natCast, BitVec.toNat_ofNat]; exact Nat.mod_eq_of_lt (by omega)
  have h2 : (BitVec.ofInt 8 1).toNat = 1 := rfl
  show IntKind.u8.wrap ((BitVec.ofInt 8 (y : Int) &&& BitVec.ofInt 8 1).toNat : Int) = _
  rw [BitVec.toNat_and, h1, h2, Nat.and_one_is_mod, IntKind.wrap_u8]
  omega
theorem bit_next (p k b : Nat) (hp : p < 64) (hb : b < 128) : (2 * (b : Int) + bits .and .u8 ((p : Int) / (2 : Int) ^ k % 256) 1) % 256 = ((2 * b + p / 2 ^ k % 2 : Nat) : Int) := by
  have h2 : p / 2 ^ k ≤ p := Nat.div_le_self _ _
  rw [divp]
  generalize p / 2 ^ k = y at *
  rw [show (y : Int) % 256 = (y : Int) by omega, and_u8_1 y (by omega)]
  omega
/-- What the loops keep, behind m bits. -/
structure Rf (w : World) (s : List UInt8) (m b : Nat) (v : Value) (W : World) : Prop where
  hb : b = pr (fun t => lb (plcs s) (8 * (m / 8) + t)) (m % 8)
  bl : Below w.heap.size w W
  ow : W.ownsRow w.heap.size 5 1 v (preo (plcs s) (m / 8)).length (Lib.byteCells (preo (plcs s) (m / 8)))
theorem Rf.lt {w W : World} {s : List UInt8} {m b : Nat} {v : Value} (h : Rf w s m b v W) : b < 128 := by
  have h1 := pr_lt (fun t => lb (plcs s) (8 * (m / 8) + t)) (fun t => lb_lt _ _) (m % 8)
  have h2 : (2 : Nat) ^ (m % 8) ≤ 2 ^ 7 := Nat.pow_le_pow_right (by decide) (by omega)
  rw [← h.hb] at h1
  omega
/-- What the reference's FromLetters answers. -/
def RfR (w : World) (s : List UInt8) (e : Value) (w' : World) : Prop := Below w.heap.size w w' ∧ ((dec s = none ∧ e = .tuple #[.string ⟨#[]⟩, .int .i64 2]) ∨ ∃ y, dec s = some y ∧ e = .tuple #[.string ⟨y.toArray⟩, .int .i64 0])
set_option maxHeartbeats 2000000 in
set_option maxRecDepth 20000 in
theorem rfrom_c (s : List UInt8) (hs : s.length ≤ 131072) (w : World) : Calls Try.prog 10 #[.string ⟨s.toArray⟩] w (RetW (RfR w s)) := by
  obtain ⟨S, hS⟩ : ∃ S, Hid (S = (⟨s.toArray⟩ : ByteArray)) := ⟨_, rfl⟩
  have hsz : S.size = s.length := by rw [hS.out]; exact sizeS s
  have g131 : ¬ (131072 : Int) < (s.length : Int) := by omega
  rw [← hS.out]
  have K0 : Hid (Rf w s 0 0 (.slice none 0 0) w ∧ ∀ i c, i < 0 → s[i]? = some c → plc c < 64) := ⟨⟨rfl, Below.refl _ _, World.ownsRow_nil _ _ _ _⟩, fun i c h => absurd h (Nat.not_lt_zero _)⟩
  go_enter Try.func10, Try.ntmps10
  go_wp2_with fail
  go_loopg [4, 5, 6, 7] s.length (fun gk s4 s5 s6 s7 wr => ∃ i m b : Nat, i + gk = s.length ∧ m = 6 * i ∧ s5 = .int .i64 (m : Int) ∧ s6 = .int .u8 (b : Int) ∧ s7 = .int .i64 (i : Int) ∧ Hid (Rf w s m b s4 wr ∧ ∀ j c, j < i → s[j]? = some c → plc c < 64))
  case atStart => exact ⟨0, 0, 0, by omega, rfl, rfl, rfl, rfl, K0⟩
  case round =>
    clear K0
    obtain ⟨i, m, b, hi, hm, rfl, rfl, rfl, KM⟩ := hrel
    by_cases hil : i < s.length
    · have hil' : (i : Int) < (s.length : Int) := by omega
      obtain ⟨c, hc⟩ : ∃ c, s[i]? = some c := ⟨_, List.getElem?_eq_getElem hil⟩
      have hix : ∀ w : World, (Instr.index 9 (.string S) (.int .i64 (i : Int))).run Try.prog w = .ok (.int .u8 (c.toNat : Int)) w := fun w => by rw [hS.out]; exact ixS s i c hc w
      have hP := rplace_c c wr
      by_cases hp : plc c < 64
      · have hpl : pl c = (plc c : Int) := if_pos hp
        rw [hpl] at hP
        obtain ⟨p, hpe⟩ : ∃ p, p = plc c := ⟨_, rfl⟩
        rw [← hpe] at hP hp
        have g0 : ¬ (p : Int) < 0 := by omega
        have hget : (plcs s).getD i 0 = p := by unfold plcs; rw [List.getD_eq_getElem?_getD, List.getElem?_map, hc, hpe]; rfl
        have HG := hidW hget
        have HOK : Hid (∀ j c, j < i + 1 → s[j]? = some c → plc c < 64) := fun j c' hj hc' => by
          by_cases h : j < i
          · exact KM.out.2 j c' h hc'
          · obtain rfl : j = i := by omega
            rw [hc] at hc'
            obtain rfl := Option.some.inj hc'
            rw [← hpe]; exact hp
        have K1 := hidW KM.out.1
        have Hm := hidW hm
        clear KM hget hpe hc hpl hm
        go_wp2_with fail
        refine hP.mono ?_
        rintro e' w' ⟨rfl, rfl⟩
        clear hP hix
        go_wp2_with fail
        go_loopg [4, 5, 6, 9] 6 (fun gk2 s4 s5 s6 s9 wr2 => ∃ t m2 b2 : Nat, t + gk2 = 6 ∧ m2 = 6 * i + t ∧ s5 = .int .i64 (m2 : Int) ∧ s6 = .int .u8 (b2 : Int) ∧ s9 = .int .i64 ((gk2 : Int) - 1) ∧ Hid (Rf w s m2 b2 s4 wr2))
        case atStart => exact ⟨0, m, b, by omega, by rw [Hm.out]; rfl, rfl, rfl, rfl, K1⟩
        case round =>
          clear K1
          obtain ⟨t, m2, b2, ht, hm2, rfl, rfl, rfl, KM2⟩ := hrel
          have hb2 := KM2.out.lt
          obtain ⟨qs, cs, hv⟩ := slice_own KM2.out.ow
          by_cases hg0 : 0 < gk
          · obtain ⟨k, rfl⟩ : ∃ k, gk = k + 1 := ⟨gk - 1, by omega⟩
            have Hm2 := hidW hm2
            clear hm2
            have hml : m2 ≤ 1000000 := by rw [Hm2.out]; omega
            have HL : Hid (lb (plcs s) m2 = p / 2 ^ k % 2) := by
              show _ = _
              rw [Hm2.out, lb_at (plcs s) i t (by omega), HG.out, show 5 - t = k by omega]
            obtain ⟨b3, hb3⟩ : ∃ b3, b3 = 2 * b2 + p / 2 ^ k % 2 := ⟨_, rfl⟩
            have hbn := bit_next p k b2 hp hb2
            rw [← hb3] at hbn
            by_cases h8 : (m2 + 1) % 8 = 0
            · have h8' : ((m2 : Int) + 1) % 8 = 0 := by omega
              obtain ⟨c2, hc2⟩ : ∃ c2, c2 = UInt8.ofNat (oct (plcs s) (m2 / 8)) := ⟨_, rfl⟩
              have hbo : b3 = oct (plcs s) (m2 / 8) := by
                rw [← pr_oct, pr, hb3, ← HL.out, KM2.out.hb, show m2 % 8 = 7 by omega, show 8 * (m2 / 8) + 7 = m2 by omega]
              have hcn : c2.toNat = b3 := by rw [hc2, hbo, UInt8.toNat_ofNat', Nat.mod_eq_of_lt (oct_lt _ _)]
              rw [← hcn] at hbn
              obtain ⟨q', n', c', W', hap, hbl', how'⟩ := push_b (W0 := w) rfl KM2.out.bl KM2.out.ow (by rw [preo_len]; omega) c2
              have HAP := hidW (hap 22)
              have KN : Hid (Rf w s (m2 + 1) 0 (.slice q' n' c') W') := by
                refine ⟨by rw [h8]; rfl, hbl', ?_⟩
                rw [show (m2 + 1) / 8 = m2 / 8 + 1 by omega, preo_succ, ← hc2]
                exact how'
              subst hv
              have HM3 : Hid (m2 + 1 = 6 * i + (t + 1)) := by show _ = _; rw [Hm2.out]; omega
              clear KM2 hap hbl' how' hc2 hbo hb3 hcn
              go_wp2_with (at_builtin; refine Lib.wpList_append_run _ rfl _ _ _ _ rfl _ _ rfl rfl _ _ HAP.out ?_)
              go_roundg k
              case measure => omega
              case rel => exact ⟨t + 1, m2 + 1, 0, by omega, HM3.out, rfl, rfl, rfl, KN⟩
            · have h8' : ¬ ((m2 : Int) + 1) % 8 = 0 := by omega
              have KN : Hid (Rf w s (m2 + 1) b3 (.slice qs (preo (plcs s) (m2 / 8)).length cs) wr) := by
                have k2 := KM2.out
                refine ⟨?_, k2.bl, ?_⟩
                · rw [show (m2 + 1) % 8 = m2 % 8 + 1 by omega, show (m2 + 1) / 8 = m2 / 8 by omega, pr, hb3, k2.hb, ← HL.out, show 8 * (m2 / 8) + m2 % 8 = m2 by omega]
                · rw [show (m2 + 1) / 8 = m2 / 8 by omega, ← hv]; exact k2.ow
              subst hv
              have HM3 : Hid (m2 + 1 = 6 * i + (t + 1)) := by show _ = _; rw [Hm2.out]; omega
              clear KM2 hb3
              go_wp2
              go_roundg k
              case measure => omega
              case rel => exact ⟨t + 1, m2 + 1, b3, by omega, HM3.out, rfl, congrArg (Value.int .u8) hbn, rfl, KN⟩
          · obtain rfl : gk = 0 := by omega
            subst hv
            have KN : Hid (Rf w s m2 b2 (.slice qs (preo (plcs s) (m2 / 8)).length cs) wr) := KM2
            have Hm2 : Hid (m2 = 6 * (i + 1)) := by show _ = _; omega
            clear KM2 hm2
            go_wp2
            go_roundg (s.length - (i + 1))
            case measure => omega
            case rel => exact ⟨i + 1, m2, b2, by omega, Hm2.out, rfl, rfl, rfl, KN.out, HOK.out⟩
      · have hpl : pl c = -1 := if_neg hp
        rw [hpl] at hP
        have KF : Hid (RfR w s (.tuple #[.string ⟨#[]⟩, .int .i64 2]) wr) := ⟨KM.out.1.bl, Or.inl ⟨dec_bad hc hp, rfl⟩⟩
        clear KM hc
        go_wp2_with fail
        refine hP.mono ?_
        rintro e' w' ⟨rfl, rfl⟩
        clear hP hix
        go_wp2
        go_ret2
        exact ⟨_, rfl, KF.out⟩
    · have hil' : ¬ (i : Int) < (s.length : Int) := by omega
      obtain rfl : i = s.length := by omega
      have hpl : (plcs s).length = s.length := by unfold plcs; exact List.length_map _
      have hoc : preo (plcs s) (m / 8) = octs (plcs s) := by
        have : m / 8 = 6 * (plcs s).length / 8 := by rw [hpl, hm]
        rw [this]; exact preo_all _
      have how := KM.out.1.ow
      rw [hoc] at how
      obtain ⟨qs, cs, rfl⟩ := slice_own how
      have hll : (octs (plcs s)).length ≤ 200000 := by rw [← hoc, preo_len]; omega
      have hcv := fun W (hb : Below wr.heap.size wr W) => pb_conv ((own_pb how).below hb)
      have hcv0 := hcv wr (Below.refl _ _)
      have hL := rletters_c (octs (plcs s)) hll wr
      have hok : ∀ c ∈ s, plc c < 64 := fun c hc => by
        obtain ⟨i, hi⟩ := List.getElem?_of_mem hc
        exact KM.out.2 i c (List.getElem?_eq_some_iff.1 hi).1 hi
      have K1 : Hid (Below w.heap.size w wr ∧ (∀ c ∈ s, plc c < 64)) := ⟨KM.out.1.bl, hok⟩
      obtain ⟨O, hO⟩ : ∃ O, Hid (O = (⟨(octs (plcs s)).toArray⟩ : ByteArray)) := ⟨_, rfl⟩
      rw [← hO.out] at hcv0 hL
      have HCV : Hid (∀ W, Below wr.heap.size wr W → (convert 22 9 (.slice qs (octs (plcs s)).length cs)).run Try.prog W = .ok (.string O) W) := fun W hb => by rw [hO.out]; exact hcv W hb
      clear KM how hok hoc hcv hm
      go_wp2_with fail
      refine hL.mono ?_
      rintro e' w3 ⟨v3, rfl, hb3, rfl⟩
      have K3 : Hid (Below w.heap.size w w3) := K1.out.1.trans (hb3.mono K1.out.1.size)
      have hcv3 := HCV.out w3 hb3
      obtain ⟨T, hT⟩ : ∃ T, Hid (T = (⟨(letters (octs (plcs s))).toArray⟩ : ByteArray)) := ⟨_, rfl⟩
      rw [← hT.out]
      clear hL hb3 hcv0
      by_cases hq : letters (octs (plcs s)) = s
      · have hqq : (T.toList == S.toList) = true := by rw [hT.out, hS.out, hq]; simp
        have KF : Hid (RfR w s (.tuple #[.string O, .int .i64 0]) w3) := ⟨K3.out, Or.inr ⟨octs (plcs s), by unfold dec; rw [if_pos ⟨K1.out.2, hq⟩]; rfl, by rw [hO.out]⟩⟩
        clear K1 K3 hq HCV
        go_wp2
        go_ret2
        exact ⟨_, rfl, KF.out⟩
      · have hqq : (T.toList == S.toList) = false := by
          rw [hT.out, hS.out, ByteArray.toList_eq, ByteArray.toList_eq, beq_eq_false_iff_ne]
          intro h
          exact hq (by simpa using h)
        have KF : Hid (RfR w s (.tuple #[.string ⟨#[]⟩, .int .i64 2]) w3) := ⟨K3.out, Or.inl ⟨by unfold dec; rw [if_neg (fun h => hq h.2)], rfl⟩⟩
        clear K1 K3 hq HCV hcv3
        go_wp2
        go_ret2
        exact ⟨_, rfl, KF.out⟩
theorem rfrom_n (S : ByteArray) (hs : 131072 < S.size) (w : World) : Calls Try.prog 10 #[.string S] w (RetW fun e w' => w = w' ∧ e = .tuple #[.string ⟨#[]⟩, .int .i64 1]) := by
  have g : (131072 : Int) < (S.size : Int) := by omega
  go_enter Try.func10, Try.ntmps10
  go_wp2
  go_ret2
  exact ⟨_, rfl, rfl, rfl⟩
end Go.Proofs.Ytlbaoipgdheigaa
namespace Go.Proofs.Ytlbaoipgdheigaa.SP
open Go.RowKit
theorem lt64 (x : BitVec 64) : (x.toNat : Int) < 18446744073709551616 := by
  have := x.isLt
  omega
theorem ofInt_toNat64 (x : BitVec 64) : BitVec.ofInt 64 (x.toNat : Int) = x := by
  apply BitVec.eq_of_toNat_eq
  rw [BitVec.ofInt_natCast, BitVec.toNat_ofNat]
  exact Nat.mod_eq_of_lt x.isLt
theorem wrap_u64_toNat (x : BitVec 64) : IntKind.u64.wrap (x.toNat : Int) = x.toNat := by
  rw [IntKind.wrap_u64]
  have := lt64 x
  exact Int.emod_eq_of_lt (by omega) this
/-- A word's number. -/
def u (v : BitVec 64) : Int := (v.toNat : Int)
theorem u_lt (v : BitVec 64) : u v < 18446744073709551616 := lt64 v
theorem u_nonneg (v : BitVec 64) : 0 ≤ u v := Int.natCast_nonneg _
theorem bits_xor64 (a b : BitVec 64) : bits .xor .u64 (u a) (u b) = u (a ^^^ b) := by
  show IntKind.u64.wrap ((BitVec.ofInt 64 (a.toNat : Int) ^^^ BitVec.ofInt 64 (b.toNat : Int)).toNat : Int) = _
  rw [ofInt_toNat64, ofInt_toNat64, wrap_u64_toNat]
  rfl
theorem bits_and64 (a b : BitVec 64) : bits .and .u64 (u a) (u b) = u (a &&& b) := by
  show IntKind.u64.wrap ((BitVec.ofInt 64 (a.toNat : Int) &&& BitVec.ofInt 64 (b.toNat : Int)).toNat : Int) = _
  rw [ofInt_toNat64, ofInt_toNat64, wrap_u64_toNat]
  rfl
theorem bits_or64 (a b : BitVec 64) : bits .or .u64 (u a) (u b) = u (a ||| b) := by
  show IntKind.u64.wrap ((BitVec.ofInt 64 (a.toNat : Int) ||| BitVec.ofInt 64 (b.toNat : Int)).toNat : Int) = _
  rw [ofInt_toNat64, ofInt_toNat64, wrap_u64_toNat]
  rfl
theorem bits_not64 (a : BitVec 64) : bits .xor .u64 IntKind.u64.max (u a) = u (~~~a) := by
  have e : IntKind.u64.max = u (BitVec.allOnes 64) := by decide +kernel
  rw [e, bits_xor64, BitVec.allOnes_xor]
theorem and63 (k : Nat) (hk : k < 64) : bits .and .u64 (k : Int) 63 = k := by
  have h : ∀ j : Fin 64, bits .and .u64 ((j.val : Nat) : Int) 63 = (j.val : Int) := by decide +kernel
  exact h ⟨k, hk⟩
theorem shl64 (x : BitVec 64) (k : Nat) : IntKind.u64.wrap (u x * 2 ^ k) = u (x <<< k) := by
  unfold u
  rw [IntKind.wrap_u64, BitVec.toNat_shiftLeft, Nat.shiftLeft_eq, Int.natCast_emod, Int.natCast_mul, Int.natCast_pow]
  rfl
theorem shr64 (x : BitVec 64) (k : Nat) : u x / 2 ^ k = u (x >>> k) := by
  unfold u
  rw [BitVec.toNat_ushiftRight, Nat.shiftRight_eq_div_pow, Int.natCast_ediv, Int.natCast_pow]
  rfl
def rol (w : BitVec 64) (n : Nat) : BitVec 64 := w <<< n ||| w >>> (64 - n)
abbrev St := Array (BitVec 64)
/-- A word as the model holds it. -/
def enc (v : BitVec 64) : Value := .int .u64 (u v)
def colsum (d : St) (x : Nat) : BitVec 64 := d[x]! ^^^ d[x + 5]! ^^^ d[x + 10]! ^^^ d[x + 15]! ^^^ d[x + 20]!
def sumsTo (d : St) : Nat → St
  | 0 => #[0, 0, 0, 0, 0]
  | k + 1 => (sumsTo d k).setIfInBounds k (colsum d k)
def xorAt (d : St) (i : Nat) (v : BitVec 64) : St := d.setIfInBounds i (d[i]! ^^^ v)
def innerTo (v : BitVec 64) (x : Nat) (d : St) : Nat → St
  | 0 => d
  | m + 1 => xorAt (innerTo v x d m) (x + 5 * m) v
def dcol (s : St) (x : Nat) : BitVec 64 := s[(x + 4) % 5]! ^^^ rol s[(x + 1) % 5]! 1
def thetaTo (s d : St) : Nat → St
  | 0 => d
  | k + 1 => innerTo (dcol s k) k (thetaTo s d k) 5
def theta (d : St) : St := thetaTo (sumsTo d 5) d 5
theorem xorAt_size (d : St) (i : Nat) (v : BitVec 64) : (xorAt d i v).size = d.size := by simp [xorAt]
theorem sumsTo_size (d : St) (k : Nat) : (sumsTo d k).size = 5 := by
  induction k with
  | zero => rfl
  | succ k ih => simp [sumsTo, ih]
theorem innerTo_size (v : BitVec 64) (x : Nat) (d : St) (m : Nat) : (innerTo v x d m).size = d.size := by
  induction m with
  | zero => rfl
  | succ k ih => simp [innerTo, xorAt_size, ih]
theorem thetaTo_size (s d : St) (m : Nat) : (thetaTo s d m).size = d.size := by
  induction m with
  | zero => rfl
  | succ k ih => simp [thetaTo, innerTo_size, ih]
/-- turnAndMove behind t rounds: x, y, what moves, the words. -/
structure Tm where
  x : Nat
  y : Nat
  m : BitVec 64
  d : St
def offs (t : Nat) : Nat := (t + 1) * (t + 2) / 2 % 64
def tmStep (t : Nat) (s : Tm) : Tm :=
  { x := s.y, y := (2 * s.x + 3 * s.y) % 5, m := s.d[s.y + 5 * ((2 * s.x + 3 * s.y) % 5)]!, d := s.d.setIfInBounds (s.y + 5 * ((2 * s.x + 3 * s.y) % 5)) (rol s.m (offs t)) }
def tmTo (d : St) : Nat → Tm
  | 0 => { x := 1, y := 0, m := d[1]!, d := d }
  | t + 1 => tmStep t (tmTo d t)
def rhopi (d : St) : St := (tmTo d 24).d
theorem tmTo_ok (d : St) (hd : d.size = 25) (t : Nat) : (tmTo d t).x < 5 ∧ (tmTo d t).y < 5 ∧ (tmTo d t).d.size = 25 := by
  induction t with
  | zero => exact ⟨show 1 < 5 by decide, show 0 < 5 by decide, hd⟩
  | succ t ih =>
    obtain ⟨h1, h2, h3⟩ := ih
    refine ⟨h2, ?_, ?_⟩
    · show (2 * (tmTo d t).x + 3 * (tmTo d t).y) % 5 < 5
      omega
    · show ((tmTo d t).d.setIfInBounds _ _).size = 25
      rw [Array.size_setIfInBounds, h3]
/-- mixRows: one row, then all of them. -/
def rowAt (d : St) (i : Nat) : St :=
  xorAt (xorAt (xorAt (xorAt (xorAt d i (~~~d[i + 1]! &&& d[i + 2]!)) (i + 1) (~~~d[i + 2]! &&& d[i + 3]!)) (i + 2) (~~~d[i + 3]! &&& d[i + 4]!)) (i + 3) (~~~d[i + 4]! &&& d[i]!)) (i + 4) (~~~d[i]! &&& d[i + 1]!)
def chiTo (d : St) : Nat → St
  | 0 => d
  | k + 1 => rowAt (chiTo d k) (5 * k)
def chi (d : St) : St := chiTo d 5
theorem rowAt_size (d : St) (i : Nat) : (rowAt d i).size = d.size := by simp [rowAt, xorAt_size]
theorem chiTo_size (d : St) (k : Nat) : (chiTo d k).size = d.size := by
  induction k with
  | zero => rfl
  | succ k ih => simp [chiTo, rowAt_size, ih]
end Go.Proofs.Ytlbaoipgdheigaa.SP
namespace Go.Proofs.Ytlbaoipgdheigaa.SP
open Go.RowKit Go.Sort
/-- Of all that was there, only the cells off .. off + n - 1 of block b may have turned; no block has gone. -/
structure Only (b off n : Nat) (w w' : World) : Prop where
  os : w'.os = w.os
  tape : w'.tape = w.tape
  output : w'.output = w.output
  size : w.heap.size ≤ w'.heap.size
  block : ∀ k, k < w.heap.size → k ≠ b → w'.heap[k]? = w.heap[k]?
  cell : ∀ o, (o < off ∨ off + n ≤ o) → w'.cell? ⟨b, o, none⟩ = w.cell? ⟨b, o, none⟩
  froz : ∀ o, w'.frozen? ⟨b, o, none⟩ = w.frozen? ⟨b, o, none⟩
variable {b off n : Nat} {w w1 w2 : World}
theorem Only.refl (b off n : Nat) (w : World) : Only b off n w w := ⟨rfl, rfl, rfl, Nat.le_refl _, fun _ _ _ => rfl, fun _ _ => rfl, fun _ => rfl⟩
theorem Only.trans (h : Only b off n w w1) (k : Only b off n w1 w2) : Only b off n w w2 :=
  ⟨k.os.trans h.os, k.tape.trans h.tape, k.output.trans h.output, Nat.le_trans h.size k.size,
    fun i hi hn => (k.block i (Nat.lt_of_lt_of_le hi h.size) hn).trans (h.block i hi hn),
    fun o ho => (k.cell o ho).trans (h.cell o ho), fun o => (k.froz o).trans (h.froz o)⟩
theorem Only.drewN (h : Only b off n w w1) (q : Nat) : Only b off n w (w1.drewN q) := ⟨h.os, h.tape, h.output, h.size, h.block, h.cell, h.froz⟩
theorem Only.drew (h : Only b off n w w1) : Only b off n w w1.drew := ⟨h.os, h.tape, h.output, h.size, h.block, h.cell, h.froz⟩
theorem Only.setCell (h : Only b off n w w1) {o : Nat} (h1 : off ≤ o) (h2 : o < off + n) (v : Value) : Only b off n w (w1.setCell ⟨b, o, none⟩ v) := by
  refine h.trans ⟨rfl, rfl, rfl, by simp, fun k _ hn => Below.heap_setCell _ _ _ _ hn, fun o' ho => ?_, fun o' => by simp⟩
  exact World.cell?_setCell_other _ _ _ _ (by intro e; simp only [Addr.mk.injEq, and_true, true_and] at e; omega)
theorem Only.alloc (h : Only b off n w w1) (hb : b < w1.heap.size) (o : Obj) : Only b off n w (w1.alloc o) := by
  refine h.trans ⟨rfl, rfl, rfl, by simp, fun k hk _ => Below.heap_alloc _ _ _ hk, fun o' _ => ?_, fun o' => ?_⟩
  · exact World.cell?_alloc_lt _ _ _ hb
  · exact World.frozen?_alloc_old _ _ _ (by show b ≠ _; omega)
theorem Only.below (h : Only b off n w w1) {B : Nat} (hB : B ≤ w.heap.size) (hb : B ≤ b) : Below B w w1 :=
  ⟨h.os, h.tape, h.output, h.size, fun k hk => h.block k (by omega) (by omega)⟩
/-- What only makes memory turns nothing of the row. -/
theorem Only.of_below {B : Nat} (h : Below B w w1) (hB : B = w.heap.size) (hb : b < B) : Only b off n w w1 :=
  ⟨h.os, h.tape, h.output, h.size, fun k hk _ => h.block k (by omega), fun o _ => h.cell (p := ⟨b, o, none⟩) hb, fun o => h.frozen (p := ⟨b, o, none⟩) hb⟩
theorem Only.other (h : Only b off n w w1) {c o : Nat} (hc : c ≠ b) (hs : c < w.heap.size) : w1.cell? ⟨c, o, none⟩ = w.cell? ⟨c, o, none⟩ ∧ w1.frozen? ⟨c, o, none⟩ = w.frozen? ⟨c, o, none⟩ :=
  ⟨World.cell?_of_block (w := w) (h.block c hs hc), World.frozen?_of_block (w := w) (h.block c hs hc)⟩
/-- What was done to a block of one's own, just made, turned nothing that was there. -/
theorem Only.fresh {o m : Nat} {x : Obj} (h : Only w.heap.size o m (w.alloc x) w1) : Below w.heap.size w w1 :=
  ((Below.refl _ _).alloc (Nat.le_refl _) x).trans (h.below (by simp) (Nat.le_refl _))
section
variable {α : Type} [Inhabited α] {enc : α → Value} {d : Array α}
theorem Holds.lt (h : Holds enc w b off d) (hd : 0 < d.size) : b < w.heap.size := World.block_lt_of_cell? _ _ (h 0 hd).1
theorem Holds.other {c o : Nat} (h : Holds enc w c o d) (k : Only b off n w w1) (hc : c ≠ b) (hd : 0 < d.size) : Holds enc w1 c o d := by
  intro j hj
  have := h j hj
  have := k.other (o := o + j) hc (Holds.lt h hd)
  rw [this.1, this.2]
  exact h j hj
theorem Holds.same {o : Nat} (h : Holds enc w b o d) (k : Only b off n w w1) (hd : o + d.size ≤ off ∨ off + n ≤ o) : Holds enc w1 b o d := by
  intro j hj
  rw [k.cell _ (by omega), k.froz]
  exact h j hj
theorem Holds.below {B : Nat} (h : Holds enc w b off d) (k : Below B w w1) (hb : b < B) : Holds enc w1 b off d := by
  intro j hj
  rw [k.cell (p := ⟨b, off + j, none⟩) hb, k.frozen (p := ⟨b, off + j, none⟩) hb]
  exact h j hj
theorem Holds.drewN (h : Holds enc w b off d) (q : Nat) : Holds enc (w.drewN q) b off d := h
theorem Holds.drew (h : Holds enc w b off d) : Holds enc w.drew b off d := h
theorem Holds.set (h : Holds enc w b off d) {i : Nat} (hi : i < d.size) (x : α) : Holds enc (w.setCell ⟨b, off + i, none⟩ (enc x)) b off (d.setIfInBounds i x) := by
  intro j hj
  rw [Array.size_setIfInBounds] at hj
  rw [World.frozen?_setCell]
  by_cases e : j = i
  · subst e
    rw [getElem!_set_same d j x hi]
    exact ⟨World.cell?_setCell_same _ _ _ (h j hj).1, (h j hj).2⟩
  · rw [getElem!_set_other d i j x e, World.cell?_setCell_other _ _ _ _ (by intro e'; simp only [Addr.mk.injEq, and_true, true_and] at e'; omega)]
    exact h j hj
/-- A block of one's own, just made. -/
theorem Holds.new (w : World) (t : TypeId) (d : Array α) : Holds enc (w.alloc (.cells (d.map enc) t)) w.heap.size 0 d := by
  intro j hj
  rw [World.cell?_alloc_new, World.frozen?_alloc_new]
  refine ⟨?_, rfl⟩
  simp only [Nat.zero_add, Array.getElem?_map, Array.getElem?_eq_getElem hj, Option.map_some, getElem!_pos d j hj]
/-- A block of one's own, made by 'make'. -/
theorem Holds.made (w : World) (t : TypeId) (n : Nat) (x : α) : Holds enc (w.alloc (.cells (madeCells #[enc x] n) t)) w.heap.size 0 (Array.replicate n x) := by
  intro j hj
  rw [Array.size_replicate] at hj
  rw [World.cell?_alloc_new, World.frozen?_alloc_new]
  refine ⟨?_, rfl⟩
  rw [getElem!_pos _ j (by simpa using hj), Array.getElem_replicate]
  simp [madeCells, hj, Nat.mod_one]
end
theorem Holds.xor {d : St} (h : Holds enc w b off d) {i : Nat} (hi : i < d.size) {x : BitVec 64} (hx : d[i]! = x) (v : BitVec 64) : Holds enc (w.setCell ⟨b, off + i, none⟩ (.int .u64 (u (x ^^^ v)))) b off (xorAt d i v) := by
  unfold xorAt
  rw [hx]
  exact Holds.set h hi (x ^^^ v)
theorem xorAt_other (d : St) (i j : Nat) (v : BitVec 64) (h : j ≠ i) : (xorAt d i v)[j]! = d[j]! := getElem!_set_other d i j _ h
end Go.Proofs.Ytlbaoipgdheigaa.SP
namespace Go.Proofs.Ytlbaoipgdheigaa.SP
open Go.RowKit Go.Sort
theorem mixed : Try.prog.follows .mixedOrders = true := by kernel_rfl
theorem at_word {w : World} {b off : Nat} {d : St} (h : Holds enc w b off d) (i : Nat) (hi : i < d.size) {x : BitVec 64} (hx : d[i]! = x) :
    w.cell? ⟨b, off + i, none⟩ = some (.int .u64 (u x)) ∧ w.frozen? ⟨b, off + i, none⟩ = false := by
  rw [← hx]; exact h i hi
theorem ret_int {k : IntKind} {a b : Int} (h : a = b) : Ending.returned (.int k a) = .returned (.int k b) := by rw [h]
end Go.Proofs.Ytlbaoipgdheigaa.SP
namespace Go.Proofs.Ytlbaoipgdheigaa.SP
open Go.RowKit
/-- The register of the rounds' constants, one step on. -/
def rcReg (r : Nat) : Nat := if 255 < 2 * r then (2 * r) ^^^ 369 else 2 * r
def rcTo (r : Nat) : Nat → BitVec 64 × Nat
  | 0 => (0, r)
  | j + 1 => ((rcTo r j).1 ||| BitVec.ofNat 64 ((rcTo r j).2 % 2) <<< (2 ^ j - 1), rcReg (rcTo r j).2)
theorem rcReg_lt (r : Nat) (h : r < 256) : rcReg r < 256 := by
  have H : ∀ j : Fin 256, rcReg j.val < 256 := by decide +kernel
  exact H ⟨r, h⟩
theorem rcTo_lt (r : Nat) (h : r < 256) (j : Nat) : (rcTo r j).2 < 256 := by
  induction j with
  | zero => exact h
  | succ j ih => exact rcReg_lt _ ih
theorem rc_xor (r : Nat) (h : r < 256) : bits .xor .i64 ((r : Int) * 2) 369 = (((2 * r) ^^^ 369 : Nat) : Int) := by
  have H : ∀ j : Fin 256, bits .xor .i64 ((j.val : Int) * 2) 369 = (((2 * j.val) ^^^ 369 : Nat) : Int) := by decide +kernel
  exact H ⟨r, h⟩
theorem rc_and (r : Nat) (h : r < 256) : bits .and .i64 (r : Int) 1 = u (BitVec.ofNat 64 (r % 2)) := by
  have H : ∀ j : Fin 256, bits .and .i64 (j.val : Int) 1 = u (BitVec.ofNat 64 (j.val % 2)) := by decide +kernel
  exact H ⟨r, h⟩
theorem wrap_u (x : BitVec 64) : IntKind.u64.wrap (u x) = u x := wrap_u64_toNat x
def kround (d : St) (c : BitVec 64) : St := xorAt (chi (rhopi (theta d))) 0 c
/-- A round's constant, and the register as the next round needs it. -/
def rcC (r : Nat) : BitVec 64 := (rcTo r 7).1
def rcN (r : Nat) : Nat := (rcTo r 7).2
theorem rcN_lt (r : Nat) (h : r < 256) : rcN r < 256 := by
  unfold rcN
  exact rcTo_lt r h 7
def rcAt : Nat → Nat
  | 0 => 1
  | k + 1 => rcN (rcAt k)
theorem rcAt_lt (k : Nat) : rcAt k < 256 := by
  induction k with
  | zero => decide
  | succ k ih => exact rcN_lt _ ih
/-- The words behind k rounds. -/
def permTo (d : St) : Nat → St
  | 0 => d
  | k + 1 => kround (permTo d k) (rcC (rcAt k))
def perm (d : St) : St := permTo d 24
theorem theta_size (d : St) : (theta d).size = d.size := thetaTo_size _ _ _
theorem rhopi_size (d : St) (hd : d.size = 25) : (rhopi d).size = 25 := (tmTo_ok d hd 24).2.2
theorem chi_size (d : St) : (chi d).size = d.size := chiTo_size _ _
theorem kround_size (d : St) (c : BitVec 64) (hd : d.size = 25) : (kround d c).size = 25 := by
  unfold kround
  rw [xorAt_size, chi_size, rhopi_size]
  rw [theta_size, hd]
theorem permTo_size (d : St) (hd : d.size = 25) (k : Nat) : (permTo d k).size = 25 := by
  induction k with
  | zero => exact hd
  | succ k ih => exact kround_size _ _ ih
theorem perm_size (d : St) (hd : d.size = 25) : (perm d).size = 25 := permTo_size d hd 24
abbrev Bs := Array UInt8
/-- A byte's number; a byte as the model holds it. -/
def ub (x : UInt8) : Int := (x.toNat : Int)
def encB (x : UInt8) : Value := .int .u8 (ub x)
/-- A byte as a word; a word's lowest byte. -/
def wide (x : UInt8) : BitVec 64 := BitVec.ofNat 64 x.toNat
def low (v : BitVec 64) : UInt8 := UInt8.ofNat v.toNat
theorem ub_lt (x : UInt8) : ub x < 256 := by
  have := x.toNat_lt
  unfold ub
  omega
theorem ub_nonneg (x : UInt8) : 0 ≤ ub x := Int.natCast_nonneg _
theorem wide_ub (x : UInt8) : ub x = u (wide x) := by
  unfold ub u wide
  rw [BitVec.toNat_ofNat, Nat.mod_eq_of_lt]
  have := x.toNat_lt
  omega
theorem wrap_ub (x : UInt8) : IntKind.u64.wrap (ub x) = u (wide x) := by rw [wide_ub, wrap_u]
theorem low_u (v : BitVec 64) : IntKind.u8.wrap (u v) = ub (low v) := by
  have e : IntKind.u8.wrap (u v) = u v % 256 := by simp [IntKind.wrap, IntKind.bits, IntKind.signed]
  rw [e]
  unfold u ub low
  rw [UInt8.toNat_ofNat']
  omega
/-- The word that begins at place o, its first k bytes. -/
def wordTo (bs : Bs) (o : Nat) : Nat → BitVec 64
  | 0 => 0
  | i + 1 => wordTo bs o i ||| wide bs[o + i]! <<< (8 * i)
def wordOf (bs : Bs) (o : Nat) : BitVec 64 := wordTo bs o 8
def mixTo (bs : Bs) (d : St) : Nat → St
  | 0 => d
  | i + 1 => xorAt (mixTo bs d i) i (wordOf bs (8 * i))
theorem mixTo_size (bs : Bs) (d : St) (k : Nat) : (mixTo bs d k).size = d.size := by
  induction k with
  | zero => rfl
  | succ k ih => simp [mixTo, xorAt_size, ih]
def byteOf (d : St) (k : Nat) : UInt8 := low (d[k / 8]! >>> (8 * (k % 8)))
def frontTo (d : St) (n : Nat) : Nat → Bs
  | 0 => Array.replicate n 0
  | k + 1 => (frontTo d n k).setIfInBounds k (byteOf d k)
def front (d : St) (n : Nat) : Bs := frontTo d n n
theorem frontTo_size (d : St) (n k : Nat) : (frontTo d n k).size = n := by
  induction k with
  | zero => simp [frontTo]
  | succ k ih => simp [frontTo, ih]
theorem front_size (d : St) (n : Nat) : (front d n).size = n := frontTo_size d n n
end Go.Proofs.Ytlbaoipgdheigaa.SP
namespace Go.Proofs.Ytlbaoipgdheigaa.SP
open Go.RowKit Go.Sort Go.Deep
attribute [local go_sem] bits_xor64 bits_and64 bits_or64 wrap_u wrap_ub
theorem at_byte {w : World} {b off : Nat} {d : Bs} (h : Holds encB w b off d) (i : Nat) (hi : i < d.size) {x : UInt8} (hx : d[i]! = x) :
    w.cell? ⟨b, off + i, none⟩ = some (.int .u8 (ub x)) ∧ w.frozen? ⟨b, off + i, none⟩ = false := by
  rw [← hx]; exact h i hi
theorem slice22 : Try.prog.underlying 22 = some (.slice 5) := by kernel_rfl
theorem info5 : (Try.prog.info? 5).map (fun i => (i.zero, i.size, i.bytes)) = some (some (.int .u8 0), 1, 1) := by kernel_rfl
theorem encB_zero : encB 0 = .int .u8 0 := rfl
attribute [local go_sem] low_u
end Go.Proofs.Ytlbaoipgdheigaa.SP
namespace Go.Proofs.Ytlbaoipgdheigaa.SP
open Go.RowKit Go.Sort
/-- What Lent lays at place i behind the text. -/
def fill (i : Nat) : UInt8 := UInt8.ofNat (i % 251) ^^^ 165
theorem fill_int (i : Nat) : bits .xor .u8 ((i : Int) % 251) 165 = ub (fill i) := by
  have H : ∀ j : Fin 251, bits .xor .u8 (j.val : Int) 165 = ub (UInt8.ofNat j.val ^^^ 165) := by decide +kernel
  have := H ⟨i % 251, Nat.mod_lt _ (by decide)⟩
  simpa [fill] using this
def lentTo (s : ByteArray) : Nat → Bs
  | 0 => s.data ++ Array.replicate 160 0
  | k + 1 => (lentTo s k).setIfInBounds (s.size + k) (fill (s.size + k))
def lent (s : ByteArray) : Bs := lentTo s 160
theorem lentTo_size (s : ByteArray) (k : Nat) : (lentTo s k).size = s.size + 160 := by
  induction k with
  | zero => simp [lentTo]
  | succ k ih => simp [lentTo, ih]
theorem lent_size (s : ByteArray) : (lent s).size = s.size + 160 := lentTo_size s 160
variable {w w1 : World} {b o n : Nat}
theorem heap_setCells (b : Nat) {k : Nat} (hk : k ≠ b) : ∀ (vs : List Value) (p : Nat) (w : World), (w.setCells b p vs).heap[k]? = w.heap[k]?
  | [], _, _ => rfl
  | v :: r, p, w => by rw [World.setCells, heap_setCells b hk r (p + 1) _, Below.heap_setCell _ _ _ _ hk]
theorem Only.setCells (h : Only b o n w w1) (vs : List Value) (p : Nat) (hp : o ≤ p) (hn : p + vs.length ≤ o + n) : Only b o n w (w1.setCells b p vs) := by
  have h0 := below_setCells (B := 0) (b := b) (Nat.zero_le _) vs p w1 (Below.refl 0 w1)
  exact h.trans ⟨h0.os, h0.tape, h0.output, h0.size, fun k _ hk => heap_setCells b hk vs p w1,
    fun q hq => World.cell?_setCells_out b vs p w1 ⟨b, q, none⟩ (fun _ _ => by simp only; omega), fun q => World.frozen?_setCells b vs p w1 _⟩
/-- A row behind 'copy': what was copied stands at its place, all else as it stood. -/
theorem Holds.setCells {bs r : Bs} (h : Holds encB w b o bs) (vs : List Value) (p : Nat) (hr : r.size = bs.size) (hp : p + vs.length ≤ bs.size)
    (h1 : ∀ j (hj : j < vs.length), vs[j] = encB r[p + j]!) (h2 : ∀ j, j < bs.size → j < p ∨ p + vs.length ≤ j → r[j]! = bs[j]!) : Holds encB (w.setCells b (o + p) vs) b o r := by
  intro j hj
  rw [hr] at hj
  rw [World.frozen?_setCells]
  refine ⟨?_, (h j hj).2⟩
  by_cases hin : j < p ∨ p + vs.length ≤ j
  · rw [World.cell?_setCells_out b vs (o + p) w ⟨b, o + j, none⟩ (fun _ _ => by simp only; omega), h2 j hj hin]
    exact (h j hj).1
  · have hj2 : j - p < vs.length := by omega
    have := World.cell?_setCells_in b vs (o + p) w (fun i hi => by
      have := (h (p + i) (by omega)).1
      rw [← Nat.add_assoc] at this
      rw [this]; rfl) (j - p) hj2
    rw [show o + p + (j - p) = o + j by omega] at this
    rw [this, h1 (j - p) hj2, show p + (j - p) = j by omega]
theorem app_front (a r : Bs) (j : Nat) (hj : j < a.size) : (a ++ r)[j]! = a[j] := by
  have h : j < (a ++ r).size := by rw [Array.size_append]; omega
  rw [getElem!_pos (a ++ r) j h, Array.getElem_append_left hj]
theorem app_back (a r : Bs) (j : Nat) (h1 : a.size ≤ j) (h2 : j < a.size + r.size) : (a ++ r)[j]! = r[j - a.size]! := by
  have h : j < (a ++ r).size := by rw [Array.size_append]; omega
  have h3 : j - a.size < r.size := by omega
  rw [getElem!_pos (a ++ r) j h, Array.getElem_append_right h1, getElem!_pos r (j - a.size) h3]
theorem rep_at (n j : Nat) (h : j < n) : (Array.replicate n (0 : UInt8))[j]! = 0 := by
  have h' : j < (Array.replicate n (0 : UInt8)).size := by rw [Array.size_replicate]; exact h
  rw [getElem!_pos (Array.replicate n (0 : UInt8)) j h', Array.getElem_replicate]
theorem lent_front (s : ByteArray) (j : Nat) (hj : j < s.data.size) : (lentTo s 0)[j]! = s.data[j] := app_front _ _ j hj
theorem lent_back (s : ByteArray) (j : Nat) (h1 : s.data.size ≤ j) (h2 : j < s.data.size + 160) : (lentTo s 0)[j]! = 0 := by
  rw [lentTo, app_back _ _ j h1 (by rw [Array.size_replicate]; exact h2), rep_at _ _ (by omega)]
theorem holds_lent0 (s : ByteArray) (n : Nat) (hn : s.size + 160 = n) (h : Holds encB w b 0 (Array.replicate n (0 : UInt8))) :
    Holds encB (w.setCells b 0 (s.data.toList.map fun x => Value.int .u8 (x.toNat : Int))) b 0 (lentTo s 0) := by
  have hl : s.data.size = s.size := rfl
  refine Holds.setCells (o := 0) (p := 0) h _ (by rw [lentTo_size, Array.size_replicate, hn]) (by rw [List.length_map, Array.length_toList, Array.size_replicate]; omega) (fun j hj => ?_) (fun j hj hout => ?_)
  · rw [List.length_map, Array.length_toList] at hj
    rw [Nat.zero_add, lent_front s j hj, List.getElem_map, Array.getElem_toList]
    rfl
  · rw [Array.size_replicate] at hj
    rw [List.length_map, Array.length_toList] at hout
    rw [lent_back s j (by omega) (by omega), rep_at n j hj]
theorem size_of5 (P : Program) (e : TypeId) (h : (P.info? e).map (·.size) = some 1) : ∀ w, (Go.sizeOf e).run P w = .ok 1 w := by
  intro w
  cases hq : P.info? e with
  | none => simp [hq] at h
  | some i =>
    simp [hq] at h
    simp [Go.sizeOf, typeInfo, hq, h]
theorem conv_str (P : Program) (src dst e : TypeId) (hs : P.underlying src = some (.slice e)) (he : P.underlying e = some (.int .u8)) (hd : P.underlying dst = some .string)
    (w : World) (b o n cap : Nat) (bs : Bs) (hB : Holds encB w b o bs) (hn : bs.size = n) : (convert src dst (.slice (some ⟨b, o, none⟩) n cap)).run P w = .ok (.string ⟨bs⟩) w := by
  have h := run_convert_bytes_back (P := P) w src dst e ⟨b, o, none⟩ cap bs.toList hs he hd (fun j hj => by
    have hj' : j < bs.size := by simpa using hj
    have hc := (hB j hj').1
    rw [getElem!_pos bs j hj'] at hc
    have e1 : (⟨b, o, none⟩ : Addr).add j = ⟨b, o + j, none⟩ := by
      unfold Addr.add
      by_cases h0 : j = 0
      · subst h0; rfl
      · rw [if_neg h0]
    rw [e1, hc]
    simp [encB, ub])
  simpa [hn] using h
end Go.Proofs.Ytlbaoipgdheigaa.SP
namespace Go.Proofs.Ytlbaoipgdheigaa.SP
open Go.RowKit Go.Sort Go.Deep
theorem int5 : Try.prog.underlying 5 = some (.int .u8) := by kernel_rfl
theorem str9 : Try.prog.underlying 9 = some .string := by kernel_rfl
theorem size5 : ∀ w, (Go.sizeOf 5).run Try.prog w = .ok 1 w := size_of5 Try.prog 5 (by kernel_rfl)
theorem lent_step (s : ByteArray) (k : Nat) : lentTo s (k + 1) = (lentTo s k).setIfInBounds (s.size + k) (fill (s.size + k)) := rfl
set_option maxHeartbeats 1000000 in
set_option maxRecDepth 100000 in
theorem Lent_any (s : ByteArray) (w : World) (hs : s.size ≤ 16384) :
    Calls Try.prog 5 #[.string s] w fun e w' => e = .returned (.slice (some ⟨w.heap.size, 0, none⟩) (s.size + 160) (s.size + 160)) ∧ Below w.heap.size w w' ∧ Holds encB w' w.heap.size 0 (lent s) := by
  obtain ⟨n, hn⟩ : ∃ n, s.size + 160 = n := ⟨_, rfl⟩
  have hmk := run_make_row' (P := Try.prog) 22 5 (.int .u8 0) 1 slice22 info5 rfl .i64 .i64 n (by omega) (by omega)
  rw [← hn, show ((s.size + 160 : Nat) : Int) = (s.size : Int) + 160 from by omega, hn] at hmk
  have hH0 : Holds encB (w.alloc (.cells (madeCells #[.int .u8 0] n) 5)) w.heap.size 0 (Array.replicate n 0) := Holds.made (enc := encB) w 5 n 0
  have hcp := run_copy_string (P := Try.prog) (w.alloc (.cells (madeCells #[.int .u8 0] n) 5)) 22 9 3 5 w.heap.size 0 n n s slice22 size5 (by omega)
    (fun j hj => by rw [(hH0 j (by rw [Array.size_replicate]; omega)).1]; rfl) (fun j hj => (hH0 j (by rw [Array.size_replicate]; omega)).2)
  have hH1 : Holds encB ((w.alloc (.cells (madeCells #[.int .u8 0] n) 5)).setCells w.heap.size 0 (s.data.toList.map fun x => Value.int .u8 (x.toNat : Int))) w.heap.size 0 (lentTo s 0) := by
    exact holds_lent0 s n hn hH0
  have hb1 : Below w.heap.size w ((w.alloc (.cells (madeCells #[.int .u8 0] n) 5)).setCells w.heap.size 0 (s.data.toList.map fun x => Value.int .u8 (x.toNat : Int))) :=
    below_setCells (Nat.le_refl _) _ _ _ ((Below.refl _ _).alloc (Nat.le_refl _) _)
  have hsz : w.heap.size < ((w.alloc (.cells (madeCells #[.int .u8 0] n) 5)).setCells w.heap.size 0 (s.data.toList.map fun x => Value.int .u8 (x.toNat : Int))).heap.size := by
    have := (below_setCells (B := 0) (b := w.heap.size) (Nat.zero_le _) (s.data.toList.map fun x => Value.int .u8 (x.toNat : Int)) 0 (w.alloc (.cells (madeCells #[.int .u8 0] n) 5)) (Below.refl 0 _)).size
    rw [World.size_alloc] at this
    omega
  go_enter Try.func5, Try.ntmps5
  go_wp2
  generalize World.setCells _ _ _ _ = W2 at hH1 hb1 hsz ⊢
  clear hmk hcp hH0
  have n160 : (n : Int) = (s.size : Int) + 160 := by omega
  have Hn : Hid (s.size + 160 = n) := hn
  have hnb : n ≤ 16544 := by omega
  have hsn : s.size ≤ n := by omega
  clear hn n160
  go_loopg [4] 160 (fun g s4 wr => ∃ (k : Nat) (bs : Bs), k + g = 160 ∧ s4 = .int .i64 ((s.size + k : Nat) : Int) ∧ Holds encB wr w.heap.size 0 bs ∧ Only w.heap.size 0 n W2 wr ∧ Hid (bs = lentTo s k))
  case atStart => exact ⟨0, _, rfl, rfl, hH1, Only.refl _ _ _ _, rfl⟩
  case round =>
    obtain ⟨k, bs, hk, rfl, hB, hO, HE⟩ := hrel
    have hbs : bs.size = n := by rw [HE.out, lentTo_size]; exact Hn.out
    obtain ⟨i, hi⟩ : ∃ i, s.size + k = i := ⟨_, rfl⟩
    have Hi : Hid (s.size + k = i) := hi
    rw [hi]
    clear hi
    by_cases hlt : k < 160
    · have hin : i < n := by have := Hi.out; have := Hn.out; omega
      obtain ⟨c0, f0⟩ := hB i (by omega)
      rw [Nat.zero_add] at c0 f0
      have hin' : (i : Int) < (n : Int) := by omega
      have hf := fill_int i
      go_wp2
      go_roundg (gk - 1)
      case measure => omega
      case rel =>
        refine ⟨k + 1, bs.setIfInBounds i (fill i), by omega, ?_, ?_, ?_, ?_⟩
        · rw [← Hi.out]; go_num
        · have := Holds.set hB (i := i) (by omega) (fill i)
          rw [Nat.zero_add] at this
          exact this
        · exact hO.setCell (o := i) (by omega) (by omega) _
        · show _ = lentTo s (k + 1)
          rw [lent_step, Hi.out, HE.out]
    · have hin : (n : Int) ≤ (i : Int) := by have := Hi.out; have := Hn.out; omega
      have hk0 : k = 160 := by omega
      go_wp2
      go_ret
      refine ⟨?_, hb1.trans (hO.below (by omega) (Nat.le_refl _)), ?_⟩
      · rw [Hn.out]; rfl
      · unfold lent
        rw [HE.out, hk0] at hB
        exact hB
set_option maxHeartbeats 1000000 in
set_option maxRecDepth 100000 in
theorem Still_any (b : Nat) (bs : Bs) (s : ByteArray) (w : World) (hs : s.size ≤ 16384) (hB : Holds encB w b 0 bs) (hbs : bs = lent s) :
    Calls Try.prog 7 #[.slice (some ⟨b, 0, none⟩) (s.size + 160) (s.size + 160), .string s] w fun e w' => e = .returned (.bool true) ∧ Below w.heap.size w w' := by
  have hb := Holds.lt hB (by rw [hbs, lent_size]; omega)
  go_enter Try.func7, Try.ntmps7
  go_wp2_with fail
  refine (Lent_any s _ hs).mono ?_
  rintro e w1 ⟨rfl, hb1, hL⟩
  have k1 := conv_str Try.prog 22 9 5 slice22 int5 str9 w1 b 0 (s.size + 160) (s.size + 160) _ (Holds.below hB hb1 hb) (by rw [hbs, lent_size])
  have k2 := conv_str Try.prog 22 9 5 slice22 int5 str9 w1 w.heap.size 0 (s.size + 160) (s.size + 160) _ hL (lent_size s)
  rw [hbs] at k1
  go_wp2
  go_ret
  exact ⟨rfl, hb1⟩
end Go.Proofs.Ytlbaoipgdheigaa.SP
namespace Go.Proofs.Ytlbaoipgdheigaa.SP
open Go.RowKit Go.Sort Go.Deep
set_option maxHeartbeats 1000000 in
set_option maxRecDepth 100000 in
theorem LentJ (s : ByteArray) (w : World) (hs : s.size ≤ 1048576) :
    Calls Try.prog 5 #[.string s] w fun e w' => e = .returned (.slice (some ⟨w.heap.size, 0, none⟩) (s.size + 160) (s.size + 160)) ∧ Below w.heap.size w w' ∧ Holds encB w' w.heap.size 0 (lent s) := by
  obtain ⟨n, hn⟩ : ∃ n, s.size + 160 = n := ⟨_, rfl⟩
  have hmk := run_make_row' (P := Try.prog) 22 5 (.int .u8 0) 1 slice22 info5 rfl .i64 .i64 n (by omega) (by omega)
  rw [← hn, show ((s.size + 160 : Nat) : Int) = (s.size : Int) + 160 from by omega, hn] at hmk
  have hH0 : Holds encB (w.alloc (.cells (madeCells #[.int .u8 0] n) 5)) w.heap.size 0 (Array.replicate n 0) := Holds.made (enc := encB) w 5 n 0
  have hcp := run_copy_string (P := Try.prog) (w.alloc (.cells (madeCells #[.int .u8 0] n) 5)) 22 9 3 5 w.heap.size 0 n n s slice22 size5 (by omega)
    (fun j hj => by rw [(hH0 j (by rw [Array.size_replicate]; omega)).1]; rfl) (fun j hj => (hH0 j (by rw [Array.size_replicate]; omega)).2)
  have hH1 : Holds encB ((w.alloc (.cells (madeCells #[.int .u8 0] n) 5)).setCells w.heap.size 0 (s.data.toList.map fun x => Value.int .u8 (x.toNat : Int))) w.heap.size 0 (lentTo s 0) := by
    exact holds_lent0 s n hn hH0
  have hb1 : Below w.heap.size w ((w.alloc (.cells (madeCells #[.int .u8 0] n) 5)).setCells w.heap.size 0 (s.data.toList.map fun x => Value.int .u8 (x.toNat : Int))) :=
    below_setCells (Nat.le_refl _) _ _ _ ((Below.refl _ _).alloc (Nat.le_refl _) _)
  have hsz : w.heap.size < ((w.alloc (.cells (madeCells #[.int .u8 0] n) 5)).setCells w.heap.size 0 (s.data.toList.map fun x => Value.int .u8 (x.toNat : Int))).heap.size := by
    have := (below_setCells (B := 0) (b := w.heap.size) (Nat.zero_le _) (s.data.toList.map fun x => Value.int .u8 (x.toNat : Int)) 0 (w.alloc (.cells (madeCells #[.int .u8 0] n) 5)) (Below.refl 0 _)).size
    rw [World.size_alloc] at this
    omega
  go_enter Try.func5, Try.ntmps5
  go_wp2
  generalize World.setCells _ _ _ _ = W2 at hH1 hb1 hsz ⊢
  clear hmk hcp hH0
  have n160 : (n : Int) = (s.size : Int) + 160 := by omega
  have Hn : Hid (s.size + 160 = n) := hn
  have hnb : n ≤ 1048736 := by omega
  have hsn : s.size ≤ n := by omega
  clear hn n160
  go_loopg [4] 160 (fun g s4 wr => ∃ (k : Nat) (bs : Bs), k + g = 160 ∧ s4 = .int .i64 ((s.size + k : Nat) : Int) ∧ Holds encB wr w.heap.size 0 bs ∧ Only w.heap.size 0 n W2 wr ∧ Hid (bs = lentTo s k))
  case atStart => exact ⟨0, _, rfl, rfl, hH1, Only.refl _ _ _ _, rfl⟩
  case round =>
    obtain ⟨k, bs, hk, rfl, hB, hO, HE⟩ := hrel
    have hbs : bs.size = n := by rw [HE.out, lentTo_size]; exact Hn.out
    obtain ⟨i, hi⟩ : ∃ i, s.size + k = i := ⟨_, rfl⟩
    have Hi : Hid (s.size + k = i) := hi
    rw [hi]
    clear hi
    by_cases hlt : k < 160
    · have hin : i < n := by have := Hi.out; have := Hn.out; omega
      obtain ⟨c0, f0⟩ := hB i (by omega)
      rw [Nat.zero_add] at c0 f0
      have hin' : (i : Int) < (n : Int) := by omega
      have hf := fill_int i
      go_wp2
      go_roundg (gk - 1)
      case measure => omega
      case rel =>
        refine ⟨k + 1, bs.setIfInBounds i (fill i), by omega, ?_, ?_, ?_, ?_⟩
        · rw [← Hi.out]; go_num
        · have := Holds.set hB (i := i) (by omega) (fill i)
          rw [Nat.zero_add] at this
          exact this
        · exact hO.setCell (o := i) (by omega) (by omega) _
        · show _ = lentTo s (k + 1)
          rw [lent_step, Hi.out, HE.out]
    · have hin : (n : Int) ≤ (i : Int) := by have := Hi.out; have := Hn.out; omega
      have hk0 : k = 160 := by omega
      go_wp2
      go_ret
      refine ⟨?_, hb1.trans (hO.below (by omega) (Nat.le_refl _)), ?_⟩
      · rw [Hn.out]; rfl
      · unfold lent
        rw [HE.out, hk0] at hB
        exact hB
set_option maxHeartbeats 1000000 in
set_option maxRecDepth 100000 in
theorem StillJ (b : Nat) (bs : Bs) (s : ByteArray) (w : World) (hs : s.size ≤ 1048576) (hB : Holds encB w b 0 bs) (hbs : bs = lent s) :
    Calls Try.prog 7 #[.slice (some ⟨b, 0, none⟩) (s.size + 160) (s.size + 160), .string s] w fun e w' => e = .returned (.bool true) ∧ Below w.heap.size w w' := by
  have hb := Holds.lt hB (by rw [hbs, lent_size]; omega)
  go_enter Try.func7, Try.ntmps7
  go_wp2_with fail
  refine (LentJ s _ hs).mono ?_
  rintro e w1 ⟨rfl, hb1, hL⟩
  have k1 := conv_str Try.prog 22 9 5 slice22 int5 str9 w1 b 0 (s.size + 160) (s.size + 160) _ (Holds.below hB hb1 hb) (by rw [hbs, lent_size])
  have k2 := conv_str Try.prog 22 9 5 slice22 int5 str9 w1 w.heap.size 0 (s.size + 160) (s.size + 160) _ hL (lent_size s)
  rw [hbs] at k1
  go_wp2
  go_ret
  exact ⟨rfl, hb1⟩
end Go.Proofs.Ytlbaoipgdheigaa.SP
namespace Go.Proofs.Ytlbaoipgdheigaa
open Go.RowKit Go.Sort
open WL
/-- What FromLetters answers. -/
def fT (t : ByteArray) : List UInt8 × Int := if 131072 < t.size then ([], 1) else match dec t.data.toList with | none => ([], 2) | some y => (y, 0)
theorem ba_of (t : ByteArray) : (⟨t.data.toList.toArray⟩ : ByteArray) = t := by simp
theorem from_any (t : ByteArray) (w : World) : Calls Try.prog 8 #[.string t] w (RetW fun e w' => Below w.heap.size w w' ∧ ∃ q n c, e = .tuple #[.slice q n c, .int .i64 (fT t).2] ∧ PB w' (.slice q n c) (fT t).1) := by
  by_cases h : 131072 < t.size
  · have e : fT t = ([], 1) := if_pos h
    rw [e]
    refine (from_n t h w).mono ?_
    rintro e w' ⟨v, rfl, hb, rfl⟩
    exact ⟨_, rfl, hb, none, 0, 0, rfl, none, 0, rfl, Or.inl rfl⟩
  · have hl : t.data.toList.length ≤ 131072 := by rw [Array.length_toList]; show t.size ≤ _; omega
    have hF := from_c t.data.toList hl w
    rw [ba_of] at hF
    refine hF.mono ?_
    rintro e w' ⟨v, rfl, hb, ⟨hd, rfl⟩ | ⟨y, v, hd, rfl, how⟩⟩
    · have e : fT t = ([], 2) := by unfold fT; rw [if_neg h, hd]
      rw [e]
      exact ⟨_, rfl, hb, none, 0, 0, rfl, none, 0, rfl, Or.inl rfl⟩
    · have e : fT t = (y, 0) := by unfold fT; rw [if_neg h, hd]
      rw [e]
      obtain ⟨q, c, rfl⟩ := slice_own how
      exact ⟨_, rfl, hb, q, _, c, rfl, own_pb how⟩
theorem rfrom_any (t : ByteArray) (w : World) : Calls Try.prog 10 #[.string t] w (RetW fun e w' => Below w.heap.size w w' ∧ e = .tuple #[.string ⟨(fT t).1.toArray⟩, .int .i64 (fT t).2]) := by
  by_cases h : 131072 < t.size
  · have e : fT t = ([], 1) := if_pos h
    rw [e]
    refine (rfrom_n t h w).mono ?_
    rintro e w' ⟨v, rfl, rfl, rfl⟩
    exact ⟨_, rfl, Below.refl _ _, rfl⟩
  · have hl : t.data.toList.length ≤ 131072 := by rw [Array.length_toList]; show t.size ≤ _; omega
    have hF := rfrom_c t.data.toList hl w
    rw [ba_of] at hF
    refine hF.mono ?_
    rintro e w' ⟨v, rfl, hb, ⟨hd, rfl⟩ | ⟨y, hd, rfl⟩⟩
    · have e : fT t = ([], 2) := by unfold fT; rw [if_neg h, hd]
      rw [e]
      exact ⟨_, rfl, hb, rfl⟩
    · have e : fT t = (y, 0) := by unfold fT; rw [if_neg h, hd]
      rw [e]
      exact ⟨_, rfl, hb, rfl⟩
theorem letters_c (v : Value) (x : List UInt8) (hx : x.length ≤ 200000) (w : World) (hP : PB w v x) : Calls Try.prog 6 #[v] w (RetW fun e w' => Below w.heap.size w w' ∧ e = .string ⟨(letters x).toArray⟩) := by
  have hL := lettersOf_c v x hx w hP
  obtain ⟨T, hT⟩ : ∃ T, Hid (T = (⟨(letters x).toArray⟩ : ByteArray)) := ⟨_, rfl⟩
  rw [← hT.out] at hL ⊢
  obtain ⟨q, c, rfl, -⟩ := hP
  go_enter Try.func6, Try.ntmps6
  go_wp2_with fail
  refine hL.mono ?_
  rintro e w' ⟨v, rfl, hb, rfl⟩
  have K := hidW hb
  clear hL hb
  go_wp2
  go_ret
  exact ⟨_, rfl, K.out, rfl⟩
theorem lentTo_at (s : ByteArray) : ∀ (k j : Nat) (_ : j < s.data.size), (SP.lentTo s k)[j]! = s.data[j]!
  | 0, j, hj => by rw [SP.lent_front s j hj, getElem!_pos s.data j hj]
  | k + 1, j, hj => by
    have hs : s.data.size = s.size := rfl
    rw [SP.lent_step, getElem!_set_other _ _ _ _ (by omega)]
    exact lentTo_at s k j hj
theorem lent_pb {W : World} {k : Nat} {s : ByteArray} (h : Holds SP.encB W k 0 (SP.lent s)) : PB W (.slice (some ⟨k, 0, none⟩) s.size (s.size + 160)) s.data.toList := by
  refine ⟨some ⟨k, 0, none⟩, s.size + 160, by rw [Array.length_toList]; rfl, Or.inr ⟨k, 0, rfl, fun j u hj => ?_⟩⟩
  have hj2 : j < s.data.size := by have := (List.getElem?_eq_some_iff.1 hj).1; simpa using this
  have hc := (h j (by rw [SP.lent_size]; show j < s.data.size + 160; omega)).1
  have e : (SP.lent s)[j]! = u := by
    unfold SP.lent
    rw [lentTo_at s 160 j hj2, getElem!_pos s.data j hj2]
    rw [Array.getElem?_toList, Array.getElem?_eq_getElem hj2] at hj
    exact Option.some.inj hj
  rw [e] at hc
  exact hc
theorem slLentW (k n : Nat) (hn : n ≤ 1048576) (w : World) : (Instr.sliceAt 22 (.slice (some ⟨k, 0, none⟩) (n + 160) (n + 160)) none (some (.int .i64 (n : Int))) none).run Try.prog w = .ok (.slice (some ⟨k, 0, none⟩) n (n + 160)) w := by
  have h1 : ¬ (n : Int) < 0 := by omega
  have h2 : (n : Int) ≤ (n : Int) + 160 := by omega
  go_simp
set_option maxHeartbeats 2000000 in
set_option maxRecDepth 20000 in
theorem wireL (s t : ByteArray) (w : World) : Calls Try.prog 3 #[.string s, .string t] w fun e w' => e = .returned (.bool true) ∧ Below w.heap.size w w' := by
  by_cases hs : 131072 < s.size
  · have g1 : (131072 : Int) < (s.size : Int) := by omega
    go_enter Try.func3, Try.ntmps3
    go_wp2
    go_ret
    exact ⟨rfl, Below.refl _ _⟩
  · have g1 : ¬ (131072 : Int) < (s.size : Int) := by omega
    by_cases ht : 262144 < t.size
    · have g2 : (262144 : Int) < (t.size : Int) := by omega
      go_enter Try.func3, Try.ntmps3
      go_wp2
      go_ret
      exact ⟨rfl, Below.refl _ _⟩
    · have g2 : ¬ (262144 : Int) < (t.size : Int) := by omega
      have hL := SP.LentJ s w (by omega)
      have hxl : s.data.toList.length = s.size := by rw [Array.length_toList]; rfl
      obtain ⟨A, hA⟩ : ∃ A, Hid (A = (⟨(letters s.data.toList).toArray⟩ : ByteArray)) := ⟨_, rfl⟩
      have hAs : A.size = nl s.size := by rw [hA.out, sizeS, letters_len, hxl]
      obtain ⟨V, hV⟩ : ∃ V, Hid (V = (⟨(fT t).1.toArray⟩ : ByteArray)) := ⟨_, rfl⟩
      obtain ⟨k, hk⟩ : ∃ k, Hid (k = (fT t).2) := ⟨_, rfl⟩
      go_enter Try.func3, Try.ntmps3
      go_wp2_with fail
      refine hL.mono ?_
      rintro e w1 ⟨rfl, hb1, hH1⟩
      have hsl := slLentW w.heap.size s.size (by omega)
      have hLt := letters_c _ s.data.toList (by omega) w1 (lent_pb hH1)
      rw [← hA.out] at hLt
      have hg1 : w.heap.size < w1.heap.size := SP.Holds.lt hH1 (by rw [SP.lent_size]; omega)
      have K1 : Hid (Below w.heap.size w w1 ∧ Holds SP.encB w1 w.heap.size 0 (SP.lent s) ∧ w.heap.size < w1.heap.size) := ⟨hb1, hH1, hg1⟩
      clear hL hb1 hH1 hg1
      generalize hgg : w.heap.size = g at K1 hLt hsl ⊢
      go_wp2_with fail
      refine hLt.mono ?_
      rintro e w2 ⟨v2, rfl, hb2, rfl⟩
      have hH2 : Holds SP.encB w2 g 0 (SP.lent s) := SP.Holds.below K1.out.2.1 hb2 K1.out.2.2
      have hSt := SP.StillJ g (SP.lent s) s w2 (by omega) hH2 rfl
      have K2 : Hid (Below g w w2 ∧ g ≤ w2.heap.size) := ⟨K1.out.1.trans (hb2.mono (Nat.le_of_lt K1.out.2.2)), Nat.le_trans (Nat.le_of_lt K1.out.2.2) hb2.size⟩
      clear hLt hb2 hH2 K1 hsl
      go_wp2_with fail
      refine hSt.mono ?_
      rintro e w3 ⟨rfl, hb3⟩
      have K3 : Hid (Below g w w3 ∧ g ≤ w3.heap.size) := ⟨K2.out.1.trans (hb3.mono K2.out.2), Nat.le_trans K2.out.2 hb3.size⟩
      have hF := from_any t w3
      rw [← hk.out] at hF
      clear hSt hb3 K2
      go_wp2_with fail
      refine hF.mono ?_
      rintro e w4 ⟨v4, rfl, hb4, q, n, c, rfl, hP4⟩
      have K4 : Hid (Below g w w4 ∧ g ≤ w4.heap.size ∧ PB w4 (.slice q n c) (fT t).1) := ⟨K3.out.1.trans (hb4.mono K3.out.2), Nat.le_trans K3.out.2 hb4.size, hP4⟩
      have hR := rletters_c s.data.toList (by omega) w4
      rw [← hA.out, ba_of] at hR
      clear hF hb4 K3 hP4
      go_wp2_with fail
      refine hR.mono ?_
      rintro e w5 ⟨v5, rfl, hb5, rfl⟩
      have K5 : Hid (Below g w w5 ∧ g ≤ w5.heap.size ∧ PB w5 (.slice q n c) (fT t).1) := ⟨K4.out.1.trans (hb5.mono K4.out.2.1), Nat.le_trans K4.out.2.1 hb5.size, K4.out.2.2.below hb5⟩
      have hRf := rfrom_any t w5
      rw [← hk.out, ← hV.out] at hRf
      clear hR hb5 K4
      go_wp2_with fail
      refine hRf.mono ?_
      rintro e w6 ⟨v6, rfl, hb6, rfl⟩
      have K6 : Hid (Below g w w6 ∧ g ≤ w6.heap.size) := ⟨K5.out.1.trans (hb6.mono K5.out.2.1), Nat.le_trans K5.out.2.1 hb6.size⟩
      have hcv := pb_conv (K5.out.2.2.below hb6)
      rw [← hV.out] at hcv
      clear hRf hb6 K5
      by_cases hal : 131072 < A.size
      · have g3 : (131072 : Int) < (A.size : Int) := by omega
        have Hg := hidW hgg
        have Has := hidW hAs
        clear hgg hAs
        go_wp2
        go_ret
        exact ⟨rfl, by rw [Hg.out]; exact K6.out.1⟩
      · have g3 : ¬ (131072 : Int) < (A.size : Int) := by omega
        have hfT : fT A = (s.data.toList, 0) := by
          unfold fT
          rw [if_neg hal, hA.out]
          show (match dec (letters s.data.toList).toArray.toList with | none => _ | some y => _) = _
          rw [List.toList_toArray, dec_letters]
        have hF := from_any A w6
        rw [hfT] at hF
        have Hg := hidW hgg
        have Has := hidW hAs
        clear hgg hAs hfT
        go_wp2_with fail
        refine hF.mono ?_
        rintro e w7 ⟨v7, rfl, hb7, q7, n7, c7, rfl, hP7⟩
        have hcv7 := pb_conv hP7
        rw [ba_of] at hcv7
        have K7 : Hid (Below g w w7) := K6.out.1.trans (hb7.mono K6.out.2)
        clear hF hb7 K6 hcv hP7
        go_wp2
        go_ret
        exact ⟨rfl, by rw [Hg.out]; exact K7.out⟩
end Go.Proofs.Ytlbaoipgdheigaa
/-
  THE ROW OF 'WireLetters' round its walk: two texts.
-/
namespace Go.Proofs.Ytlbaoipgdheigaa.wireLetters
open Go.ChangeShapes Go.WideShapes Go.ChangeAt Go.RowKit
open Go.ChangeMaps (open_string shut_string)
theorem own : ownKnob Try.prog.godebug = none := by kernel_rfl
set_option maxRecDepth 100000 in
theorem lifted (os : Os) (started : os.Started) (H : Type) (enc : TypeId × Value → H) :
    ReturnsInHanded {} Try.checked os 3 .any (Rows.wireLettersSpec.pre6 enc Try.prog Try.f3 Rows.wireLettersRow.domain false) (Rows.wireLettersSpec.post enc Try.prog Try.f3 false true false false) := by
  refine returnsInHanded_of_change (C := Try.checked) own started (by kernel_rfl) Try.func3
    (ChangeSpec.witness6 (enc := enc) (C := Try.checked) false ⟨#[], #[.string ByteArray.empty, .string ByteArray.empty], []⟩ 8 (by kernel_rfl) (by kernel_rfl) (by kernel_rfl) (by kernel_rfl)) ?_
  intro W base args ds gs before hval0 hW hcnd _
  have hval : ∀ (j : Nat) t v, Try.f3.params[j]? = some t → args[j]? = some v → Value.okWide Try.prog W .any base t v := hval0
  have hW' := hW
  obtain ⟨p, q, hA0, hV, rfl, hfz, hnd⟩ := hW
  have hA : DataW.TrodAll enc Try.prog W 0 (fun _ => true) true Try.f3.params.toList args.toList ds p := hA0
  rw [Try.params3] at hA hval
  obtain ⟨v0, vs0, d0, ds0, p0, q0, hargs, rfl, rfl, h0, r0⟩ := trodAll_cons hA
  obtain ⟨v1, vs1, d1, ds1, p1, q1, rfl, rfl, rfl, h1, r1⟩ := trodAll_cons r0
  obtain ⟨rfl, rfl, rfl⟩ := trodAll_nil r1
  obtain rfl : args = #[v0, v1] := by cases args; simp_all
  obtain ⟨rfl, rfl⟩ := trodVars_none hV
  obtain ⟨a0, rfl, rfl, rfl, w0⟩ := open_string Try.underlying9 (hval 0 9 v0 rfl rfl) h0
  obtain ⟨a1, rfl, rfl, rfl, w1⟩ := open_string Try.underlying9 (hval 1 9 v1 rfl rfl) h1
  clear hA0 hval0
  refine (wireL a0 a1 W).mono fun e W' ⟨he, bel⟩ => ?_
  subst he
  exact ⟨_, rfl, _, _, _, [], _, [], hW', trodAll_mk1 (shut_bool Try.underlying4 _), (trodAll_cons_mk (shut_string Try.underlying9 w0) (trodAll_cons_mk (shut_string Try.underlying9 w1) trodAll_mk0)), rfl, bel.frame _, fun h => by cases h⟩
theorem over : Rows.wireLettersRow.holds Try.pinned (OpenSpec.ofChange Rows.wireLettersSpec) :=
  OpenClaim.holds_of_wide 3 Try.f3 rfl rfl rfl rfl rfl rfl rfl ⟨rfl, rfl, rfl, rfl, rfl⟩ rfl rfl rfl rfl rfl (by kernel_rfl) Try.func3 (by kernel_rfl)
    (of_decide_eq_true (by kernel_rfl)) (by unfold Func.isWrapper; first | (rw [if_pos (by decide +kernel)]; kernel_rfl) | (rw [if_neg (by decide +kernel)]; exact ⟨rfl, rfl⟩))
    (fun os started H enc _ => lifted os started H enc)
theorem proved : Rows.WireLettersSaid :=
  over
end Go.Proofs.Ytlbaoipgdheigaa.wireLetters
namespace Go.Proofs.Ytlbaoipgdheigaa
/-- THE STATEMENT. -/
theorem wireLetters_holds : Rows.WireLettersSaid := wireLetters.proved
#print axioms wireLetters_holds
end Go.Proofs.Ytlbaoipgdheigaa
