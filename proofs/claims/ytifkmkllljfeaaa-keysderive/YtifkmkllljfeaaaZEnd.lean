import Derived.Lib.LazyBuf
import Derived.RangeFuncNested
import Derived.RangeFuncBound
import Derived.RangeFuncCalls
import Derived.RangeFuncLeaves
import Derived.Shelf.Abstract
import Derived.Shelf.RegionOpen
import Derived.WalkKit
import Derived.OwnWalkIn
import Derived.TacticsInMore
import Derived.LoopNIn
import Derived.LoopIn
import Derived.Deep.RegionHeld3
import Derived.Deep.RegionWith
import Derived.Deep.LoopGhost
import Derived.Deep.CutRange
import Derived.Deep.DeepCutAuto
import Derived.Deep.AppendSrc
import Derived.Laws.AppendOwn
import Derived.ChangeOld
import Derived.Below
import Derived.ProofKit
import Derived.OpenShut
import Derived.ShutString
import Derived.ChangeSlices
import Derived.SizedLaws
import Derived.Test.YtifkmkllljfeaaaZ4
set_option linter.unusedVariables false
set_option linter.unusedSimpArgs false
namespace Go.Proofs.Ytifkmkllljfeaaa
open Go.RowKit Go.Sort Go.Deep
theorem w8_be8 (x : Nat) (hx : x < 18446744073709551616) :
    w8 (UInt8.ofNat (x / 72057594037927936)) (UInt8.ofNat (x / 281474976710656)) (UInt8.ofNat (x / 1099511627776)) (UInt8.ofNat (x / 4294967296)) (UInt8.ofNat (x / 16777216)) (UInt8.ofNat (x / 65536)) (UInt8.ofNat (x / 256)) (UInt8.ofNat x) = x := by
  unfold w8
  simp only [UInt8.toNat_ofNat']
  omega
theorem be32_list (a b c d : Nat) : (be32 a b c d).toList = [UInt8.ofNat (d / 72057594037927936), UInt8.ofNat (d / 281474976710656), UInt8.ofNat (d / 1099511627776), UInt8.ofNat (d / 4294967296), UInt8.ofNat (d / 16777216), UInt8.ofNat (d / 65536), UInt8.ofNat (d / 256), UInt8.ofNat d, UInt8.ofNat (c / 72057594037927936), UInt8.ofNat (c / 281474976710656), UInt8.ofNat (c / 1099511627776), UInt8.ofNat (c / 4294967296), UInt8.ofNat (c / 16777216), UInt8.ofNat (c / 65536), UInt8.ofNat (c / 256), UInt8.ofNat c, UInt8.ofNat (b / 72057594037927936), UInt8.ofNat (b / 281474976710656), UInt8.ofNat (b / 1099511627776), UInt8.ofNat (b / 4294967296), UInt8.ofNat (b / 16777216), UInt8.ofNat (b / 65536), UInt8.ofNat (b / 256), UInt8.ofNat b, UInt8.ofNat (a / 72057594037927936), UInt8.ofNat (a / 281474976710656), UInt8.ofNat (a / 1099511627776), UInt8.ofNat (a / 4294967296), UInt8.ofNat (a / 16777216), UInt8.ofNat (a / 65536), UInt8.ofNat (a / 256), UInt8.ofNat a] := by
  simp only [be32, be8, Array.toList_append, List.cons_append, List.nil_append]
theorem val_congr {a b c d p q r s : Nat} (h1 : a = p) (h2 : b = q) (h3 : c = r) (h4 : d = s) : val a b c d = val p q r s := by subst h1 h2 h3 h4; rfl
theorem beV_be32 (a b c d : Nat) (ha : a < 18446744073709551616) (hb : b < 18446744073709551616) (hc : c < 18446744073709551616) (hd : d < 18446744073709551616) : beV (be32 a b c d).toList = val a b c d :=
  (congrArg beV (be32_list a b c d)).trans ((beV_32 _ _ _ _ _ _ _ _ _ _ _ _ _ _ _ _ _ _ _ _ _ _ _ _ _ _ _ _ _ _ _ _).trans (val_congr (w8_be8 a ha) (w8_be8 b hb) (w8_be8 c hc) (w8_be8 d hd)))
theorem bx_val {n : Nat} (hn : n < top) : beV (bx n).toList = n := by
  unfold bx
  rw [beV_be32 _ _ _ _ (by omega) (by omega) (by omega) (by omega)]
  unfold val
  unfold top at hn
  omega
variable {P : Nat} [NeZero P]
theorem rt_of (C : Fld P) {y m : Fin P} (h : y * y = m) : rt m = some (if y.val % 2 = 1 then 0 - y else y) := by
  have hm : y.val * y.val % P = m.val := by rw [← h, Fin.val_mul]
  have h1 := root_mod (a := y.val) C.cur.pr C.p3
  rw [hm] at h1
  unfold rt
  rw [if_pos h1]
  have hP := Nat.pos_of_neZero P
  have hr : m.val ^ (P / 4 + 1) % P < P := Nat.mod_lt _ hP
  generalize m.val ^ (P / 4 + 1) % P = r at h1 hr
  have hy := y.isLt
  have h3 := C.p3
  have hor := root_is C.cur.pr hy hr (h1.trans hm.symm)
  congr 1
  apply Fin.ext
  show even P r % P = _
  unfold even
  have h0 : (0 - y : Fin P).val = (P - y.val) % P := by rw [← sub_fin, EC.val_zero, Nat.zero_add]
  by_cases ho : y.val % 2 = 1
  · rw [if_pos ho, h0]
    rcases hor with e | e
    · rw [e, if_pos ho]
    · rw [if_neg (by omega), show P - y.val = r by omega]
  · rw [if_neg ho]
    rcases hor with e | e
    · rw [e, if_neg ho, Nat.mod_eq_of_lt hy]
    · by_cases hz : y.val = 0
      · omega
      · rw [if_pos (by omega), show P - r = y.val by omega, Nat.mod_eq_of_lt hy]
theorem ub_mark (n : Nat) : ub (mark n) = if n % 2 = 1 then 3 else 2 := by
  unfold mark
  split <;> rfl
theorem tl_mark {m : UInt8} {b : Bs} (h : b.size = 32) : tl33 (#[m] ++ b) = b := by
  unfold tl33
  rw [Array.extract_append]
  have h1 : (#[m] : Bs).extract 1 33 = #[] := by rfl
  rw [h1]
  simp [h]
theorem mark_0 (m : UInt8) (b : Bs) : (#[m] ++ b)[0]! = m := by
  rw [getElem!_pos _ 0 (by rw [Array.size_append]; simp; omega), Array.getElem_append_left (by simp)]
  rfl
theorem rd_of (C : Fld P) {b : Bs} (hs : b.size = 33) {x y : Fin P} (hm : ub b[0]! = if y.val % 2 = 1 then 3 else 2) (hv : beV (tl33 b).toList = x.val) (h : EC.On (some (x, y) : EC.Pt P)) : rd P b = some (x, y) := by
  have hz : ¬ Zero33 b := fun hz => by
    have := hz 0 (List.mem_range.2 (by decide))
    rw [hm] at this
    split at this <;> omega
  have hx : rdx P b = x := by
    unfold rdx
    rw [hv]
    exact Fin.ext (Nat.mod_eq_of_lt x.isLt)
  have hy : y * y = x * x * x + 7 := by
    have : y ^ 2 = x ^ 3 + 7 := h
    grobner
  unfold rd
  rw [if_pos hs, if_neg hz, hm, hv, if_pos x.isLt, hx, rt_of C hy]
  by_cases ho : y.val % 2 = 1
  · rw [if_pos ho, if_pos (Or.inr rfl), if_pos ho, Option.map_some, if_pos rfl]
    have e : 0 - (0 - y) = y := by grobner
    rw [e]
  · rw [if_neg ho, if_pos (Or.inl rfl), if_neg ho, Option.map_some, if_neg (by decide)]
/-- What was written is read. -/
theorem rd_wr (C : Fld P) {X : EC.Pt P} (h : EC.On X) : ∃ p, rd P (wr X) = some p ∧ pt p = X := by
  match X, h with
  | none, _ =>
    refine ⟨(0, 0), ?_, by unfold pt; rw [if_pos ⟨rfl, rfl⟩]⟩
    have h1 : (wr (none : EC.Pt P)).size = 33 := wr_size _
    have h2 : Zero33 (wr (none : EC.Pt P)) := (zero33_iff h1).2 rfl
    generalize wr (none : EC.Pt P) = b at h1 h2
    unfold rd
    rw [if_pos h1, if_pos h2]
  | some (x, y), h =>
    have hs := wr_size (P := P) (some (x, y))
    have hb0 : (wr (some (x, y) : EC.Pt P))[0]! = mark y.val := mark_0 _ _
    have ht : tl33 (wr (some (x, y) : EC.Pt P)) = bx x.val := tl_mark (bx_size _)
    refine ⟨(x, y), rd_of C hs (by rw [hb0, ub_mark]) (by rw [ht, bx_val (C.top x)]) h, by unfold pt; rw [if_neg (fun e => C.cur.y_ne h e.2)]⟩
end Go.Proofs.Ytifkmkllljfeaaa
namespace Go.Proofs.Ytifkmkllljfeaaa
open Go.RowKit Go.Sort Go.Deep
variable {P : Nat} [NeZero P]
/-- The base. -/
def gxl : List Value := [.int .u64 6481385041966929816, .int .u64 188021827762530521, .int .u64 6170039885052185351, .int .u64 8772561819708210092]
def gyl : List Value := [.int .u64 11261198710074299576, .int .u64 18237243440184513561, .int .u64 6747795201694173352, .int .u64 5204712524664259685]
def gX (P : Nat) [NeZero P] : Fin P := Fin.ofNat P 55066263022277343669578718895168534326250603453777594175500187360389116729240
def gY (P : Nat) [NeZero P] : Fin P := Fin.ofNat P 32670510020758816978083085130507043184471273380659243275938904335757337482424
def gG (P : Nat) [NeZero P] : EC.Pt P := some (gX P, gY P)
theorem Fld.eq (C : Fld P) : P = 115792089237316195423570985008687907853269984665640564039457584007908834671663 := by
  have h := C.gap.hP
  have e : val 4294968273 0 0 0 = 4294968273 := by decide
  rw [e] at h
  unfold Go.Proofs.Ytifkmkllljfeaaa.top at h
  omega
theorem gX_val (C : Fld P) : (gX P).val = 55066263022277343669578718895168534326250603453777594175500187360389116729240 := by
  have h := C.eq
  exact Nat.mod_eq_of_lt (by omega)
theorem gY_val (C : Fld P) : (gY P).val = 32670510020758816978083085130507043184471273380659243275938904335757337482424 := by
  have h := C.eq
  exact Nat.mod_eq_of_lt (by omega)
theorem gxl_ws (C : Fld P) : gxl = ws (gX P) := by
  show _ = wn (gX P).val
  rw [gX_val C]
  kernel_rfl
theorem gyl_ws (C : Fld P) : gyl = ws (gY P) := by
  show _ = wn (gY P).val
  rw [gY_val C]
  kernel_rfl
theorem g_eq : 32670510020758816978083085130507043184471273380659243275938904335757337482424 * 32670510020758816978083085130507043184471273380659243275938904335757337482424 % 115792089237316195423570985008687907853269984665640564039457584007908834671663 = (55066263022277343669578718895168534326250603453777594175500187360389116729240 * 55066263022277343669578718895168534326250603453777594175500187360389116729240 * 55066263022277343669578718895168534326250603453777594175500187360389116729240 + 7) % 115792089237316195423570985008687907853269984665640564039457584007908834671663 := by decide +kernel
theorem gG_on (C : Fld P) : EC.On (gG P) := by
  refine on_of (Fin.ext ?_)
  have h7 : (7 : Fin P).val = 7 := Nat.mod_eq_of_lt C.p7
  rw [Fin.val_mul, Fin.val_add, Fin.val_mul, Fin.val_mul, gX_val C, gY_val C, h7]
  have h := C.eq
  rw [h]
theorem gG_wr (C : Fld P) : by33 (gX P) (gY P) = wr (gG P) := by33_wr C ⟨rfl, rfl⟩ (gG_on C)
end Go.Proofs.Ytifkmkllljfeaaa
namespace Go.Proofs.Ytifkmkllljfeaaa
open Go.RowKit Go.Sort Go.Deep Go.Shelf
attribute [local go_sem] Oper.semAt_some
section
variable {F : Fence} {n : Nat} {P : Program} {ops : Array Oper} {rest : List Oper} {op : Oper} {a : Act} {w : World} {Q : Exit → Act → World → Prop}
theorem wpListIn_load_mid (hgd : op.guard = none) (ty : TypeId) (x : Operand) (ho : op.op = .load ty x) (b o : Nat) (hx : a.eval x = .pointer (some ⟨b, o, none⟩)) (cs : List Value) (d : TypeDesc) (hc : w.rangeAt b o cs)
    (hu : P.underlying ty = some d) (hd : d.isRow = true) (hi : (P.info? ty).map (·.size) = some cs.length) (h : wpListIn F n P ops Q rest (a.put op.dst (.agg cs.toArray)) w) : wpListIn F n P ops Q (op :: rest) a w :=
  wpListIn_plain hgd fun K hK => by
    refine ⟨fun f hf => (by unfold Oper.about at hf; rw [ho] at hf; cases hf), ?_⟩
    rw [Oper.semAt_eq _ _ _ (fun c => by rw [ho]; intro e; cases e)]
    unfold execOp
    simp only [ho, hx, Instr.loadAt, Instr.sureAddr, Sem.run_bind, Sem.run_pure, Result.andThen_ok, run_loadVar_mid w b o ty cs d hc hu hd hi]
    exact hK _ _ h
theorem wpListIn_store_mid (hgd : op.guard = none) (ty : TypeId) (x y : Operand) (ho : op.op = .store ty x y) (b o : Nat) (cells : Array Value) (hx : a.eval x = .pointer (some ⟨b, o, none⟩)) (hy : a.eval y = .agg cells)
    (ht : w.there b o cells.size) (hi : (P.info? ty).map (·.size) = some cells.size) (h1 : cells.all (·.oneCell') = true)
    (h : wpListIn F n P ops Q rest (a.put op.dst undef) (w.setCells b o cells.toList)) : wpListIn F n P ops Q (op :: rest) a w :=
  wpListIn_plain hgd fun K hK => by
    refine ⟨fun f hf => (by unfold Oper.about at hf; rw [ho] at hf; cases hf), ?_⟩
    rw [Oper.semAt_eq _ _ _ (fun c => by rw [ho]; intro e; cases e)]
    unfold execOp
    simp only [ho, hx, hy, Instr.storeAt, Instr.sureAddr, Sem.run_bind, Sem.run_pure, Result.andThen_ok, run_storeVar_mid w b o ty cells ht hi h1]
    exact hK _ _ h
end
/-- A row in a block of its own. -/
def Row (W : World) (k : Nat) (vs : List Value) : Prop := k < W.heap.size ∧ W.rangeAt k 0 vs ∧ W.there k 0 vs.length
theorem Row.cell {W : World} {k : Nat} {vs : List Value} (h : Row W k vs) {j : Nat} (hj : j < vs.length) : W.cell? ⟨k, j, none⟩ = some vs[j] := by
  have := h.2.1 j vs[j] (List.getElem?_eq_getElem hj)
  rwa [Nat.zero_add] at this
theorem row_own (k : Nat) (vs : List Value) : Own (fun (_ : Unit) W => Row W k vs) := fun s A B row hs hg hr => by
  refine ⟨Nat.lt_of_lt_of_le hs.1 hg.size, fun j v hj => ?_, fun j hj => ?_⟩
  · exact cell_kept (hs.2.1 j v hj) hg hr
  · have h1 := hs.2.1 j vs[j] (List.getElem?_eq_getElem hj)
    have h2 := cell_kept h1 hg hr
    exact ⟨by rw [h2]; rfl, (frozen_kept h1 hg hr).trans (hs.2.2 j hj).2⟩
theorem ko_setCells (k : Nat) : ∀ (vs : List Value) (o : Nat) (W : World), KeepsOthers W (W.setCells k o vs)
  | [], _, W => KeepsOthers.refl W
  | v :: vs, o, W => (KeepsOthers.setCell W ⟨k, o, none⟩ v).trans (ko_setCells k vs (o + 1) _)
theorem Row.alloc {W : World} {k : Nat} {vs : List Value} (h : Row W k vs) (o : Obj) : Row (W.alloc o) k vs :=
  row_own k vs () W (W.alloc o) none h (World.grownBy_alloc W o none) (fun _ e => by cases e)
theorem Row.putObj {W : World} {k D : Nat} {vs : List Value} (h : Row W k vs) {o : Obj} (hD : W.heap[D]? = some o) (ho : o.isCells = false) (o' : Obj) : Row (W.putObj D o') k vs :=
  row_own k vs () W (W.putObj D o') (some D) h (grownBy_putObj' W D o') (fun r e => by cases e; exact ⟨_, hD, ho⟩)
theorem Row.below {W W' : World} {k : Nat} {vs : List Value} (h : Row W k vs) (hb : Below W.heap.size W W') : Row W' k vs := by
  have e := hb.block k h.1
  refine ⟨Nat.lt_of_lt_of_le h.1 hb.size, fun j v hj => ?_, fun j hj => ?_⟩
  · exact (World.cell?_of_block e).trans (h.2.1 j v hj)
  · have h1 := h.2.2 j hj
    exact ⟨by rw [World.cell?_of_block e]; exact h1.1, (World.frozen?_of_block e).trans h1.2⟩
theorem results_cell {P : Program} {fn : Func} {tmps : Array Value} {W : World} {k : Nat} {vs : List Value} (t : Tmp) (T : TypeId) (hr : fn.results = #[.cell t T]) (h : Row W k vs) (ht : tmps[t]? = some (.pointer (some ⟨k, 0, none⟩)))
    (hu : (P.underlying T).map (·.isRow) = some true) (hi : (P.info? T).map (·.size) = some vs.length) : (results fn tmps).run P W = .ok (.agg vs.toArray) W := by
  obtain ⟨d, hu, hd⟩ := Option.map_eq_some_iff.1 hu
  have h1 := run_loadVar_mid (P := P) W k 0 T vs d h.2.1 hu hd hi
  have h2 : tmps.getD t undef = .pointer (some ⟨k, 0, none⟩) := by rw [Array.getD_eq_getD_getElem?, ht]; rfl
  unfold results
  rw [hr]
  simp only [Array.mapM_eq_mapM_toList, List.mapM_cons, List.mapM_nil, h2, asAddr]
  simp [Sem.run_bind, h1]
theorem Row.put {W : World} {k : Nat} {vs us : List Value} (h : Row W k vs) (hl : us.length = vs.length) : Row (W.setCells k 0 us) k us :=
  ⟨by rw [RG.setCells_size]; exact h.1, World.rangeAt_setCells_same W k 0 us (by rw [hl]; exact h.2.2), by rw [hl]; exact World.there_setCells h.2.2 _ _ _⟩
theorem Row.other {W : World} {k j : Nat} {vs us : List Value} (h : Row W k vs) (hne : k ≠ j) : Row (W.setCells j 0 us) k vs :=
  ⟨by rw [RG.setCells_size]; exact h.1, World.rangeAt_setCells_apart h.2.1 j 0 us (Or.inl hne), World.there_setCells h.2.2 _ _ _⟩
variable {P : Nat} [NeZero P]
end Go.Proofs.Ytifkmkllljfeaaa
namespace Go.Proofs.Ytifkmkllljfeaaa
open Go.RowKit Go.Sort Go.Deep
theorem redS_of {w W : World} {k0 k1 g0 g1 g2 : Nat} (h : Kept w k0 [⟨k0, 0, g0, g1, g2, 0⟩, ⟨k1, 0, 0, 0, 0, 0⟩] W) : W.cell? ⟨k0, 0, none⟩ = some (.int .u64 (g0 : Int)) ∧ W.cell? ⟨k0, 1, none⟩ = some (.int .u64 (g1 : Int)) ∧ W.cell? ⟨k0, 2, none⟩ = some (.int .u64 (g2 : Int)) ∧ W.cell? ⟨k0, 3, none⟩ = some (.int .u64 0) ∧ Kept w k0 [⟨k0, 0, g0, g1, g2, 0⟩, ⟨k1, 0, 0, 0, 0, 0⟩] W := ⟨h.head.c0, h.head.c1, h.head.c2, h.head.c3, h⟩
theorem redS_get {w W : World} {k0 k1 g0 g1 g2 : Nat} (h : W.cell? ⟨k0, 0, none⟩ = some (.int .u64 (g0 : Int)) ∧ W.cell? ⟨k0, 1, none⟩ = some (.int .u64 (g1 : Int)) ∧ W.cell? ⟨k0, 2, none⟩ = some (.int .u64 (g2 : Int)) ∧ W.cell? ⟨k0, 3, none⟩ = some (.int .u64 0) ∧ Kept w k0 [⟨k0, 0, g0, g1, g2, 0⟩, ⟨k1, 0, 0, 0, 0, 0⟩] W) : Kept w k0 [⟨k0, 0, g0, g1, g2, 0⟩, ⟨k1, 0, 0, 0, 0, 0⟩] W := h.2.2.2.2
theorem redS_alloc {w W : World} {k0 k1 g0 g1 g2 : Nat} {o : Obj} (h : W.cell? ⟨k0, 0, none⟩ = some (.int .u64 (g0 : Int)) ∧ W.cell? ⟨k0, 1, none⟩ = some (.int .u64 (g1 : Int)) ∧ W.cell? ⟨k0, 2, none⟩ = some (.int .u64 (g2 : Int)) ∧ W.cell? ⟨k0, 3, none⟩ = some (.int .u64 0) ∧ Kept w k0 [⟨k0, 0, g0, g1, g2, 0⟩, ⟨k1, 0, 0, 0, 0, 0⟩] W) : (W.alloc o).cell? ⟨k0, 0, none⟩ = some (.int .u64 (g0 : Int)) ∧ (W.alloc o).cell? ⟨k0, 1, none⟩ = some (.int .u64 (g1 : Int)) ∧ (W.alloc o).cell? ⟨k0, 2, none⟩ = some (.int .u64 (g2 : Int)) ∧ (W.alloc o).cell? ⟨k0, 3, none⟩ = some (.int .u64 0) ∧ Kept w k0 [⟨k0, 0, g0, g1, g2, 0⟩, ⟨k1, 0, 0, 0, 0, 0⟩] (W.alloc o) := redS_of ((redS_get h).alloc o)
theorem redS_allocd {w W : World} {k0 k1 g0 g1 g2 : Nat} {o : Obj} (h : W.drew.cell? ⟨k0, 0, none⟩ = some (.int .u64 (g0 : Int)) ∧ W.drew.cell? ⟨k0, 1, none⟩ = some (.int .u64 (g1 : Int)) ∧ W.drew.cell? ⟨k0, 2, none⟩ = some (.int .u64 (g2 : Int)) ∧ W.drew.cell? ⟨k0, 3, none⟩ = some (.int .u64 0) ∧ Kept w k0 [⟨k0, 0, g0, g1, g2, 0⟩, ⟨k1, 0, 0, 0, 0, 0⟩] W.drew) : (W.alloc o).drew.cell? ⟨k0, 0, none⟩ = some (.int .u64 (g0 : Int)) ∧ (W.alloc o).drew.cell? ⟨k0, 1, none⟩ = some (.int .u64 (g1 : Int)) ∧ (W.alloc o).drew.cell? ⟨k0, 2, none⟩ = some (.int .u64 (g2 : Int)) ∧ (W.alloc o).drew.cell? ⟨k0, 3, none⟩ = some (.int .u64 0) ∧ Kept w k0 [⟨k0, 0, g0, g1, g2, 0⟩, ⟨k1, 0, 0, 0, 0, 0⟩] (W.alloc o).drew := redS_of (((redS_get h).undrew).alloc o).drew
theorem holds_part {w : World} {g o : Nat} {bs : Bs} (p l : Nat) (h : Holds encB w g o bs) (hp : p + l ≤ bs.size) : Holds encB w g (o + p) (bs.extract p (p + l)) := by
  refine Holds.part h (by rw [Array.size_extract]; omega) (fun j hj => ?_)
  rw [Array.size_extract] at hj
  rw [getElem!_pos (bs.extract p (p + l)) j (by rw [Array.size_extract]; omega), getElem!_pos bs (p + j) (by omega), Array.getElem_extract]
theorem holds_front {w : World} {g o : Nat} {bs : Bs} (f : Nat) (h : Holds encB w g o bs) (hf : f ≤ bs.size) : Holds encB w g o (bs.extract 0 f) := by
  have := holds_part 0 f h (by omega)
  rwa [Nat.zero_add, Nat.add_zero] at this
/-- A number in a block of its own, as Reduce has it between its rounds. -/
def RedR (w : World) (k0 k1 g0 g1 g2 N : Nat) (s6 : Value) (wx : World) : Prop :=
  ∃ k6 a b c d : Nat, s6 = .pointer (some ⟨k6, 0, none⟩) ∧ Kept w k0 [⟨k6, 0, a, b, c, d⟩, ⟨k0, 0, g0, g1, g2, 0⟩, ⟨k1, 0, 0, 0, 0, 0⟩] wx ∧ k6 ≠ k0 ∧ k6 ≠ k1 ∧ k0 ≤ k6 ∧
    Hid (Four (.agg #[.int .u64 (a : Int), .int .u64 (b : Int), .int .u64 (c : Int), .int .u64 (d : Int)]) N)
theorem RedR.drew {w wx : World} {k0 k1 g0 g1 g2 N : Nat} {s6 : Value} (h : RedR w k0 k1 g0 g1 g2 N s6 wx) : RedR w k0 k1 g0 g1 g2 N s6 wx.drew := by
  obtain ⟨k6, a, b, c, d, h1, h2, h3⟩ := h
  exact ⟨k6, a, b, c, d, h1, h2.drew, h3⟩
theorem RedR.made {w w1 : World} {k0 k1 g0 g1 g2 N a b c d : Nat} (KP : Kept w k0 [⟨k0, 0, g0, g1, g2, 0⟩, ⟨k1, 0, 0, 0, 0, 0⟩] w1) (hF : Hid (Four (.agg #[.int .u64 (a : Int), .int .u64 (b : Int), .int .u64 (c : Int), .int .u64 (d : Int)]) N)) :
    RedR w k0 k1 g0 g1 g2 N (.pointer (some ⟨w1.heap.size, 0, none⟩)) (w1.alloc (.cells #[.int .u64 (a : Int), .int .u64 (b : Int), .int .u64 (c : Int), .int .u64 (d : Int)] 86)) :=
  ⟨w1.heap.size, a, b, c, d, rfl, (KP.alloc _).cons (At4.made w1 86 a b c d rfl).blk, Nat.ne_of_gt KP.head.lt, Nat.ne_of_gt KP.tail.head.lt, KP.le, hF⟩
theorem RedR.put {w w1 : World} {k0 k1 k6 g0 g1 g2 N a b c d x y z u : Nat} (KP : Kept w k0 [⟨k0, 0, g0, g1, g2, 0⟩, ⟨k1, 0, 0, 0, 0, 0⟩] w1) (T : At4 w1 k6 x y z u) (M7 : k0 ≤ k6) (N7 : ∀ x ∈ ([⟨k0, 0, g0, g1, g2, 0⟩, ⟨k1, 0, 0, 0, 0, 0⟩] : List Blk), x.k < k6) (hF : Hid (Four (.agg #[.int .u64 (a : Int), .int .u64 (b : Int), .int .u64 (c : Int), .int .u64 (d : Int)]) N)) :
    RedR w k0 k1 g0 g1 g2 N (.pointer (some ⟨k6, 0, none⟩)) ((((w1.setCell ⟨k6, 0, none⟩ (.int .u64 (a : Int))).setCell ⟨k6, 1, none⟩ (.int .u64 (b : Int))).setCell ⟨k6, 2, none⟩ (.int .u64 (c : Int))).setCell ⟨k6, 3, none⟩ (.int .u64 (d : Int))) :=
  ⟨k6, a, b, c, d, rfl, (KP.set4' M7 (fun x hx => Nat.ne_of_gt (N7 x hx)) _ _ _ _).cons (T.self4 a b c d).blk, Nat.ne_of_gt (N7 ⟨k0, 0, g0, g1, g2, 0⟩ (by simp)), Nat.ne_of_gt (N7 ⟨k1, 0, 0, 0, 0, 0⟩ (by simp)), M7, hF⟩
theorem red_step {P : Nat} (bs : Bs) (p : Nat) (hp : p + 32 ≤ bs.size) : (beV (bs.extract p (p + 32)).toList + top * (beV (bs.extract 0 p).toList % P)) % P = beV (bs.extract 0 (p + 32)).toList % P := by
  have e : (bs.extract 0 (p + 32)).toList = (bs.extract 0 p).toList ++ (bs.extract p (p + 32)).toList := by
    rw [← Array.toList_append, Array.extract_append_extract, Nat.min_eq_left (by omega), Nat.max_eq_right (by omega)]
  have l32 : (bs.extract p (p + 32)).toList.length = 32 := by rw [Array.length_toList, Array.size_extract]; omega
  have ht : 256 ^ 32 = top := by unfold top; decide
  rw [e, beV_append, l32, ht, Nat.add_comm, Nat.add_mod, Nat.mul_mod, Nat.mod_mod, ← Nat.mul_mod, ← Nat.add_mod, Nat.mul_comm]
set_option maxHeartbeats 8000000 in
set_option maxRecDepth 100000 in
theorem PReduce_any (g0 g1 g2 P g o n cap : Nat) (bs : Bs) (hG : Gap g0 g1 g2 P) (w : World) (hs : bs.size = n) (hc : n ≤ cap) (hg : g < w.heap.size) (hB : Holds encB w g o bs) :
    Calls Try.prog 49 #[.agg #[.int .u64 (g0 : Int), .int .u64 (g1 : Int), .int .u64 (g2 : Int), .int .u64 0], .slice (some ⟨g, o, none⟩) n cap] w (Ret fun e w' => Below w.heap.size w w' ∧ Four e (beV bs.toList % P)) := by
  obtain ⟨f, hf⟩ : ∃ f, f = n % 32 := ⟨_, rfl⟩
  have hf32 : f < 32 := by omega
  have hfn : f ≤ n := by omega
  have e1 : (n : Int) % 32 = (f : Int) := by omega
  have e2 : (f : Int) ≤ (cap : Int) := by omega
  have e3 : (f : Int) ≤ (n : Int) := by omega
  have e4 : f ≤ cap := by omega
  have hsz0 : (bs.extract 0 f).size = f := by rw [Array.size_extract]; omega
  have Hf : Hid (f = n % 32) := hf
  have HS : Hid ((bs.extract 0 f).size = f) := hsz0
  have hbs : f ≤ bs.size := by omega
  have HSZ : Hid (bs.size = n) := hs
  have HG : Hid (Gap g0 g1 g2 P) := hG
  clear hf hsz0 hG
  go_enter Try.func49, Try.ntmps49
  go_upto_region 2 with fail
  rw [e1]
  clear e1
  have PR := (At4.made w 88 g0 g1 g2 0 rfl).alloc (.cells #[.int .u64 0, .int .u64 0, .int .u64 0, .int .u64 0] 37)
  have RE := At4.made (w.alloc (.cells #[.int .u64 (g0 : Int), .int .u64 (g1 : Int), .int .u64 (g2 : Int), .int .u64 0] 88)) 37 0 0 0 0 (World.size_alloc _ _)
  have KP := ((Kept.mk1 (below2 w (.cells #[.int .u64 (g0 : Int), .int .u64 (g1 : Int), .int .u64 (g2 : Int), .int .u64 0] 88) (.cells #[.int .u64 0, .int .u64 0, .int .u64 0, .int .u64 0] 37)) (below2 w (.cells #[.int .u64 (g0 : Int), .int .u64 (g1 : Int), .int .u64 (g2 : Int), .int .u64 0] 88) (.cells #[.int .u64 0, .int .u64 0, .int .u64 0, .int .u64 0] 37)).size).cons RE.blk).cons PR.blk
  clear PR RE
  generalize World.alloc _ _ = W0 at KP ⊢
  generalize h1 : w.heap.size + 1 = k1 at KP ⊢
  have Q1 : Hid (w.heap.size ≤ k1) := by unfold Hid; omega
  generalize h0 : w.heap.size = k0 at KP Q1 hg ⊢
  have n01 : k0 ≠ k1 := by omega
  have H0 : Hid (w.heap.size = k0) := h0
  have HBS : Hid (Holds encB w g o bs) := hB
  clear h0 h1 hB hs
  go_cut [6] (fun s6 wx => RedR w k0 k1 g0 g1 g2 (beV (bs.extract 0 f).toList % P) s6 wx)
  case first =>
    go_region_held3 (fun w' => w'.cell? ⟨k0, 0, none⟩ = some (.int .u64 (g0 : Int)) ∧ w'.cell? ⟨k0, 1, none⟩ = some (.int .u64 (g1 : Int)) ∧ w'.cell? ⟨k0, 2, none⟩ = some (.int .u64 (g2 : Int)) ∧ w'.cell? ⟨k0, 3, none⟩ = some (.int .u64 0) ∧ Kept w k0 [⟨k0, 0, g0, g1, g2, 0⟩, ⟨k1, 0, 0, 0, 0, 0⟩] w') (first | (with_reducible exact redS_of KP) | (with_reducible exact redS_of KP.drew) | (with_reducible exact redS_allocd (by assumption)) | (with_reducible exact redS_alloc (by assumption)) | (with_reducible exact redS_of (KP.alloc _)) | (with_reducible exact redS_of (KP.set4' M7 (fun x hx => Nat.ne_of_gt (N7 x hx)) _ _ _ _)) | (with_reducible exact redS_of (KP.alloc _).drew) | (with_reducible exact redS_of (KP.set4' M7 (fun x hx => Nat.ne_of_gt (N7 x hx)) _ _ _ _).drew) | fail) (first | (go_at_call 57; refine (fromBytes_any (some ⟨g, o, none⟩) g o f cap (bs.extract 0 f) _ (Nat.le_of_lt hf32) e4 HS.out (Or.inr ⟨rfl, holds_front f (Holds.below HBS.out (redS_get (by assumption)).bl hg) hbs⟩)).mono ?_; rintro e w1 ⟨v, rfl, hb1, hF1⟩; obtain ⟨a1, b1, c1, d1, rfl, ha1, hb1', hc1, hd1, es1⟩ := id hF1; clear es1; have HF1 : Hid (Four _ _) := hF1; clear hF1; (try (with_reducible have T1 := T.call hb1; clear T; have T := T1; clear T1)); (try (first | (with_reducible have T := (At4.made _ 86 0 0 0 0 rfl).call hb1) | (with_reducible have T := (At4.made _ 86 0 0 0 0 rfl).drew.call hb1)); have N7 := KP.lts; have M7 := KP.le); have KP1 := Kept.call (redS_get (by assumption)) hb1; clear KP; have KP := KP1; clear KP1 hb1) | (go_at_call 56; refine (four_any _ _ HF1.out _).mono ?_; rintro e w1 ⟨v, rfl, hb1, rfl⟩; (try (with_reducible have T1 := T.call hb1; clear T; have T := T1; clear T1)); (try (first | (with_reducible have T := (At4.made _ 86 0 0 0 0 rfl).call hb1) | (with_reducible have T := (At4.made _ 86 0 0 0 0 rfl).drew.call hb1)); have N7 := KP.lts; have M7 := KP.le); have KP1 := Kept.call (redS_get (by assumption)) hb1; clear KP; have KP := KP1; clear KP1 hb1) | (go_at_call 55; refine (fold_any g0 g1 g2 _ _ _ _ P HG.out.h0 HG.out.h1 HG.out.h2 HG.out.hor HG.out.hP HG.out.hP2 HF1.out (Four.mk (a := 0) (b := 0) (c := 0) (d := 0) (by decide) (by decide) (by decide) (by decide) rfl) _).mono ?_; rintro e w1 ⟨v, rfl, hb1, hF3⟩; obtain ⟨a', b', c', d', rfl, ha', hb', hc', hd', es3⟩ := id hF3; clear es3; have HF3 : Hid (Four _ _) := hF3; clear hF3; (try (with_reducible have T1 := T.call hb1; clear T; have T := T1; clear T1)); (try (first | (with_reducible have T := (At4.made _ 86 0 0 0 0 rfl).call hb1) | (with_reducible have T := (At4.made _ 86 0 0 0 0 rfl).drew.call hb1)); have N7 := KP.lts; have M7 := KP.le); have KP1 := Kept.call (redS_get (by assumption)) hb1; clear KP; have KP := KP1; clear KP1 hb1; (try (obtain ⟨tc0, tc1, tc2, tc3, tf⟩ := id T; have zt := T.lt))))
    all_goals (try go_wp2)
    all_goals (rw [show val 0 0 0 0 = 0 from rfl, Nat.mul_zero, Nat.add_zero] at HF3)
    all_goals (go_meet; first | (with_reducible exact RedR.made KP HF3) | (with_reducible exact (RedR.made KP HF3).drew) | (with_reducible exact RedR.put KP T M7 N7 HF3) | (with_reducible exact (RedR.put KP T M7 N7 HF3).drew) | fail)
  case rest =>
    clear KP
    obtain ⟨k6, a, b, c, d, rfl, KP, n60, n61, M6, HF⟩ := hcut
    have f0 : (0 : Int) ≤ (f : Int) := Int.natCast_nonneg _
    go_upto_region 3 with fail
    go_cut [1] (fun s1 wx => ∃ q : Nat, s1 = .slice (some ⟨g, q, none⟩) (n - f) (cap - f) ∧ Hid (0 < n - f → q = o + f) ∧ Kept w k0 [⟨k6, 0, a, b, c, d⟩, ⟨k0, 0, g0, g1, g2, 0⟩, ⟨k1, 0, 0, 0, 0, 0⟩] wx)
    case first =>
      by_cases ec : cap = f
      · have en : n = f := by omega
        have HEN : Hid (n = f ∧ cap = f) := ⟨en, ec⟩
        go_wp2
        go_meet
        refine ⟨o, ?_, fun h => ?_, KP⟩
        · rw [HEN.out.1, HEN.out.2]; try simp
        · have := HEN.out.1; omega
      · go_wp2
        go_meet
        exact ⟨o + f, rfl, fun _ => rfl, KP⟩
    case rest =>
    clear KP
    obtain ⟨q0, rfl, HQ0, KP⟩ := hcut
    go_wp2_with fail
    go_loopg [1] (n - f) (fun gk s1 wr => ∃ (l q lc a b c d : Nat), gk = l ∧ l ≤ n ∧ s1 = .slice (some ⟨g, q, none⟩) l lc ∧ Hid (l % 32 = 0 ∧ (0 < l → q = o + (n - l)) ∧ lc = cap - (n - l)) ∧ Kept w k0 [⟨k6, 0, a, b, c, d⟩, ⟨k0, 0, g0, g1, g2, 0⟩, ⟨k1, 0, 0, 0, 0, 0⟩] wr ∧
      Hid (Four (.agg #[.int .u64 (a : Int), .int .u64 (b : Int), .int .u64 (c : Int), .int .u64 (d : Int)]) (beV (bs.extract 0 (n - l)).toList % P)))
    case atStart =>
      refine ⟨n - f, q0, cap - f, a, b, c, d, rfl, by omega, rfl, ⟨by have := Hf.out; omega, fun h => by have := HQ0.out h; omega, by omega⟩, KP, ?_⟩
      rw [show n - (n - f) = f by omega]
      exact HF
    case round =>
      clear KP HF
      obtain ⟨l, q, lc, a, b, c, d, hgk, hln, rfl, HQ3, KP, HF⟩ := hrel
      clear e2 e3 e4 f0 hbs HS hf32 hfn HQ0
      have hlcl : l ≤ lc := by have := HQ3.out; omega
      by_cases h0 : l = 0
      · subst h0
        obtain ⟨xc0, xc1, xc2, xc3, xf⟩ := KP.head.at4
        have z7 := KP.head.lt
        go_wp2_with fail
        refine (number_any _ _ HF.out _).mono ?_
        rintro e w3 ⟨v, rfl, hb3, rfl⟩
        have KP3 := KP.call hb3
        clear hb3 xc0 xc1 xc2 xc3 xf z7 KP
        obtain ⟨rc0, rc1, rc2, rc3, rf⟩ := KP3.tail.tail.head.at4
        have z3 := KP3.tail.tail.head.lt
        go_wp2
        have RF := KP3.tail.tail.head.at4.self4 a b c d
        unfold set4 at RF
        refine bodyPost_ret (v := ?v) ?hr rfl ?hR
        case hr => simp [results, Try.results49, go_sem, RF.c0, RF.c1, RF.c2, RF.c3]; rfl
        refine ⟨_, rfl, ?_, ?_⟩
        · rw [H0.out]
          exact below_set4 KP3.bl Q1.out _ _ _ _
        · have := HF.out
          rw [Nat.sub_zero, ← HSZ.out, Array.extract_size] at this
          exact this
      · have h32 : 32 ≤ l := by have := HQ3.out; omega
        have HQ : Hid (o + (n - l) = q) := (HQ3.out.2.1 (by omega)).symm
        have h32c : 32 ≤ lc := by omega
        have i1 : (32 : Int) ≤ (lc : Int) := by omega
        have i2 : (32 : Int) ≤ (l : Int) := by omega
        have i3 : (0 : Int) < (l : Int) := by omega
        have HSL : Hid (n - l + 32 ≤ bs.size) := by unfold Hid; have := HSZ.out; omega
        have HS3 : Hid ((bs.extract (n - l) (n - l + 32)).size = 32) := by unfold Hid; rw [Array.size_extract]; have := HSL.out; omega
        obtain ⟨tc0, tc1, tc2, tc3, tf⟩ := KP.head.at4
        have zt := KP.head.lt
        obtain ⟨pc0, pc1, pc2, pc3, pf⟩ := KP.tail.head.at4
        have hl6 : ∀ x ∈ ([⟨k0, 0, g0, g1, g2, 0⟩, ⟨k1, 0, 0, 0, 0, 0⟩] : List Blk), k6 ≠ x.k := by simp only [List.mem_cons, List.not_mem_nil, or_false]; rintro x (rfl | rfl); exact n60; exact n61
        have HFF : Hid (_ = _) := red_step (P := P) bs (n - l) HSL.out
        go_wp2_with fail
        go_region_with (first | (go_at_call 57; refine (fromBytes_any (some ⟨g, q, none⟩) g q 32 lc (bs.extract (n - l) (n - l + 32)) _ (Nat.le_refl 32) h32c HS3.out (Or.inr ⟨rfl, HQ.out ▸ holds_part (n - l) 32 (by first | (with_reducible exact Holds.below HBS.out KP.bl hg) | (with_reducible exact Holds.below HBS.out KP.drew.bl hg) | fail) HSL.out⟩)).mono ?_; rintro e w1 ⟨v, rfl, hb1, hF1⟩; obtain ⟨a1, b1, c1, d1, rfl, ha1, hb1', hc1, hd1, es1⟩ := id hF1; clear es1; have HF1 : Hid (Four _ _) := hF1; clear hF1; (first | (with_reducible have KP1 := KP.call hb1) | (with_reducible have KP1 := KP.drew.call hb1) | fail); clear KP; have KP := KP1; clear KP1 hb1; obtain ⟨tc0, tc1, tc2, tc3, tf⟩ := KP.head.at4; have zt := KP.head.lt; obtain ⟨pc0, pc1, pc2, pc3, pf⟩ := KP.tail.head.at4) | (go_at_call 56; refine (four_any _ _ HF1.out _).mono ?_; rintro e w1 ⟨v, rfl, hb1, rfl⟩; (first | (with_reducible have KP1 := KP.call hb1) | (with_reducible have KP1 := KP.drew.call hb1) | fail); clear KP; have KP := KP1; clear KP1 hb1; obtain ⟨tc0, tc1, tc2, tc3, tf⟩ := KP.head.at4; have zt := KP.head.lt; obtain ⟨pc0, pc1, pc2, pc3, pf⟩ := KP.tail.head.at4) | (go_at_call 55; refine (fold_any g0 g1 g2 _ _ _ _ P HG.out.h0 HG.out.h1 HG.out.h2 HG.out.hor HG.out.hP HG.out.hP2 HF1.out HF.out _).mono ?_; rintro e w1 ⟨v, rfl, hb1, hF3⟩; obtain ⟨a', b', c', d', rfl, ha', hb', hc', hd', es3⟩ := id hF3; clear es3; have HF3 : Hid (Four _ _) := hF3; clear hF3; (first | (with_reducible have KP1 := KP.call hb1) | (with_reducible have KP1 := KP.drew.call hb1) | fail); clear KP; have KP := KP1; clear KP1 hb1; obtain ⟨tc0, tc1, tc2, tc3, tf⟩ := KP.head.at4; have zt := KP.head.lt; obtain ⟨pc0, pc1, pc2, pc3, pf⟩ := KP.tail.head.at4))
        all_goals (rw [HFF.out] at HF3)
        all_goals (by_cases i4 : lc = 32)
        all_goals (try go_wp2)
        all_goals
          (go_roundg (l - 32)
           case measure => omega
           case rel =>
            first
              | refine ⟨l - 32, q + 32, lc - 32, a', b', c', d', rfl, by omega, rfl, ⟨by have := HQ3.out; omega, fun _ => by have := HQ.out; omega, by have := HQ3.out; omega⟩, ?_, ?_⟩
              | refine ⟨l - 32, q, lc - 32, a', b', c', d', rfl, by omega, by first | rfl | (rw [i4]), ⟨by have := HQ3.out; omega, fun h => by omega, by have := HQ3.out; omega⟩, ?_, ?_⟩
              | fail
            · first | (with_reducible exact KP.put M6 hl6 a' b' c' d') | (with_reducible exact (KP.put M6 hl6 a' b' c' d').drew) | fail
            · rw [show n - (l - 32) = n - l + 32 by omega]; exact HF3)
end Go.Proofs.Ytifkmkllljfeaaa
namespace Go.Proofs.Ytifkmkllljfeaaa
open Go.RowKit Go.Sort Go.Deep
variable {N : Nat}
def sPl (N a b : Nat) : Nat := (a + b) % N
theorem Ord.pl (O : Ord N) (a b : Nat) : sPl N a b < N := Nat.mod_lt _ O.pos
/-- Bytes as a scalar: what is left of them. -/
def redu (N : Nat) (bs : Bs) : Nat := beV bs.toList % N
def FSRd_1 (v : Value) (n : Nat) : List RG.It := [.c 3 [] gv1, .x 4 [] v, .c 5 [(3, 0), (4, 1)] (nv n), .x 6 [(5, 2)] (nv n), .u [(6, 3)] 0]
set_option maxHeartbeats 2000000 in
set_option maxRecDepth 100000 in
theorem reduced_c (O : Ord N) (g : Nat) (bs : Bs) (hs : bs.size = 64) (w : World) (hg : g < w.heap.size) (hB : Holds encB w g 0 bs) : Calls Try.prog 37 #[.slice (some ⟨g, 0, none⟩) 64 64] w (Ret fun e w' => Below w.heap.size w w' ∧ e = nv (redu N bs)) := by
  have hc : ∀ w', RG.BelX w.heap.size [] w w' → Calls Try.prog 49 #[gv1, .slice (some ⟨g, 0, none⟩) 64 64] w' (Ret fun e w'' => Below w'.heap.size w' w'' ∧ e = nv (redu N bs)) := fun w' hb =>
    (PReduce_any _ _ _ N g 0 64 64 bs O.gap w' hs (Nat.le_refl _) (Nat.lt_of_lt_of_le hg hb.below.size) (Holds.below hB hb.below hg)).mono (by rintro e w'' ⟨v, rfl, hb, hF⟩; exact ⟨_, rfl, hb, hF.nv⟩)
  go_enter Try.func37, Try.ntmps37
  refine RG.M.enter [(0, (.v (.slice (some ⟨g, 0, none⟩) 64 64)))] 7 (by kernel_rfl) ?_
  intro a0 M0
  repeat refine wp_seq ?_
  refine M0.t [.m 2 [] 0] [(0, (RG.z 4))] [] [(RG.z 4)] [(0, (.v (.slice (some ⟨g, 0, none⟩) 64 64))), (2, (.p 0 0))] ⟨RG.mk 0 39, trivial⟩ ?_
  intro j1 a1 w1 M1
  repeat refine wp_seq ?_
  refine M1.t (FSRd_1 (.slice (some ⟨g, 0, none⟩) 64 64) (redu N bs)) [] [(0, 4, (wn (redu N bs)))] [(wn (redu N bs))] [(2, (.p 0 0))] ⟨RG.cl (Scalars_c), RG.st, RG.clB (fun _ _ => by kernel_rfl) hc, RG.st, RG.pt i40, trivial⟩ ?_
  intro a2 w2 M2
  refine wp_ret ?_
  refine bodyPost_ret (v := (nv (redu N bs))) (RG.results_row M2.st 2 39 rfl 0 _ rfl (M2.at (s := (.p 0 0))) u40 i40) M2.sl.defers ?_
  exact ⟨_, rfl, M2.st.bel.below, rfl⟩
theorem redu_lt (O : Ord N) (bs : Bs) : redu N bs < N := Nat.mod_lt _ O.pos
/-- CHANCE. -/
def chL (N : Nat) (label : List UInt8) (ps : List (List UInt8)) : Nat := redu N (SP.strmL (SP.tagL label ps).toList 64)
theorem made_of {w w' : World} {r : Nat} {T : Bs} (h1 : w.heap.size ≤ r) (h2 : Below w.heap.size w w') (h3 : Holds encB w' r 0 T) (h4 : 0 < T.size) : RG.Made w r (cb T) w' :=
  ⟨h2, h1, Holds.lt h3 h4, (cb_range h3).1, (cb_range h3).2⟩
theorem row_new (w : World) (c : List Value) (T : TypeId) : Row (w.alloc (.cells c.toArray T)) w.heap.size c :=
  have h := RG.Made.alloc w c T
  ⟨h.lt, h.range, h.there⟩
theorem wn_one (n : Nat) : (wn n).toArray.all (·.oneCell') = true := by kernel_rfl
set_option maxHeartbeats 2000000 in
set_option maxRecDepth 100000 in
theorem spread_c (O : Ord N) (r2 : Nat) (T : Bs) (w : World) (hTs : T.size = 32) (hT : Holds encB w r2 0 T) :
    Calls Try.prog 23 #[.slice (some ⟨r2, 0, none⟩) 32 32] w (Ret fun e w' => Below w.heap.size w w' ∧ e = nv (redu N (SP.strmL T.toList 64))) := by
  obtain ⟨S, hS⟩ : ∃ S, Hid (SP.strmL T.toList 64 = S) := ⟨_, rfl⟩
  have hSs : S.size = 64 := by rw [← hS.out]; exact SP.strm_size _ _
  rw [hS.out]
  obtain ⟨w1, hw1⟩ : ∃ w1, Hid (w.alloc (.cells #[.int .u64 0, .int .u64 0, .int .u64 0, .int .u64 0] 39) = w1) := ⟨_, rfl⟩
  have K2 : Hid (Row w1 w.heap.size [.int .u64 0, .int .u64 0, .int .u64 0, .int .u64 0] ∧ Below w.heap.size w w1 ∧ Holds encB w1 r2 0 T) := by rw [← hw1.out]; exact ⟨row_new w _ _, below1 w _, Holds.below hT (below1 w _) (Holds.lt hT (by omega))⟩
  clear hT
  go_enter Try.func23, Try.ntmps23
  go_wp2_with fail
  rw [hw1.out]
  clear hw1
  refine (SP.Stream_yes (some ⟨r2, 0, none⟩) r2 0 32 32 64 T w1 (by decide) hTs (Nat.le_refl _) (by decide) (Or.inr ⟨rfl, K2.out.2.2⟩)).mono ?_
  rintro e w3 ⟨r3, rfl, h1, h2, h3⟩
  rw [hS.out] at h3
  have K3 : Hid (Row w3 w.heap.size [.int .u64 0, .int .u64 0, .int .u64 0, .int .u64 0] ∧ Below w.heap.size w w3 ∧ Holds encB w3 r3 0 S) := ⟨K2.out.1.below h2, K2.out.2.1.trans (h2.mono K2.out.2.1.size), h3⟩
  clear h1 h2 h3 K2
  go_wp2_with fail
  refine (reduced_c O r3 S hSs w3 (Holds.lt K3.out.2.2 (by omega)) K3.out.2.2).mono ?_
  rintro e w4 ⟨v, rfl, hb4, rfl⟩
  have K4 : Hid (Row w4 w.heap.size [.int .u64 0, .int .u64 0, .int .u64 0, .int .u64 0] ∧ Below w.heap.size w w4) := ⟨K3.out.1.below hb4, K3.out.2.1.trans (hb4.mono K3.out.2.1.size)⟩
  clear hb4 K3
  obtain ⟨m, hm⟩ : ∃ m, Hid (redu N S = m) := ⟨_, rfl⟩
  rw [hm.out]
  obtain ⟨w5, hw5⟩ : ∃ w5, Hid (w4.setCells w.heap.size 0 (wn m) = w5) := ⟨_, rfl⟩
  have K5 : Hid (Row w5 w.heap.size (wn m) ∧ Below w.heap.size w w5) := by rw [← hw5.out]; exact ⟨K4.out.1.put rfl, RG.below_setCells (Nat.le_refl _) _ _ _ K4.out.2⟩
  obtain ⟨vm, hvm⟩ : ∃ vm, Hid (nv m = vm) := ⟨_, rfl⟩
  rw [hvm.out]
  go_wp2_with (refine wpList_store_mid rfl 39 _ _ rfl w.heap.size 0 (wn m).toArray ?_ ?_ ?_ ?_ ?_ ?_; rfl; exact hvm.out.symm; exact K4.out.1.2.2; exact i40; exact wn_one m; rw [show (wn m).toArray.toList = wn m from rfl, hw5.out])
  refine bodyPost_ret (results_cell 2 39 rfl K5.out.1 rfl u40 i40) rfl ?_
  exact ⟨_, rfl, K5.out.2, by rw [hm.out]; rfl⟩
end Go.Proofs.Ytifkmkllljfeaaa
namespace Go.Proofs.Ytifkmkllljfeaaa
open Go.RowKit Go.Sort Go.Deep
variable {N : Nat}
set_option maxRecDepth 100000 in
theorem ofOne_c : Gives 38 #[.int .u64 1] (nv 1) := by
  intro w
  go_enter Try.func38, Try.ntmps38
  refine RG.M.enter [(0, .v (.int .u64 1))] 6 (by kernel_rfl) ?_
  intro a0 M0
  repeat refine wp_seq ?_
  refine M0.t [.m 2 [] 0] [(0, RG.z 4)] [] [RG.z 4] [(0, .v (.int .u64 1)), (2, .p 0 0)] ⟨RG.mk 0 39, trivial⟩ ?_
  intro k a1 w1 M1
  repeat refine wp_seq ?_
  refine M1.t [.x 3 [] (.int .u64 1), .x 4 [(3, 0)] (nv 1), .x 5 [(4, 1)] (nv 1), .u [(5, 2)] 0] [] [(0, 3, wn 1)] [wn 1] [(2, .p 0 0)] ⟨RG.st, RG.st, RG.st, RG.pt i40, trivial⟩ ?_
  intro a2 w2 M2
  refine wp_ret ?_
  refine bodyPost_ret (v := nv 1) (RG.results_row M2.st 2 39 rfl 0 _ rfl (M2.at (s := (.p 0 0))) u40 i40) M2.sl.defers ?_
  exact ⟨_, rfl, M2.st.bel.below, rfl⟩
/-- A scalar itself, or 1 in place of 0. -/
def orOne (a : Nat) : Nat := if a = 0 then 1 else a
theorem orOne_lt (O : Ord N) {a : Nat} (ha : a < N) : orOne a < N := by
  unfold orOne
  by_cases h : a = 0
  · rw [if_pos h]; have := O.n2; omega
  · rw [if_neg h]; exact ha
set_option maxRecDepth 100000 in
set_option maxHeartbeats 2000000 in
theorem orOne_c (O : Ord N) {a : Nat} (ha : a < N) : Gives 24 #[nv a] (nv (orOne a)) := by
  intro w
  have hat : a < top := Nat.lt_of_lt_of_le ha O.le
  have hq : ∀ w : World, (binOp .eql 39 (nv a) (nv 0)).run Try.prog w = .ok (.bool (decide (a = 0))) w := fun w => eqS hat (show 0 < top by unfold top; omega) w
  obtain ⟨d, hd⟩ : ∃ d, Hid (decide (a = 0) = d) := ⟨_, rfl⟩
  rw [hd.out] at hq
  go_enter Try.func24, Try.ntmps24
  refine RG.M.enter [(0, .v (nv a))] 8 (by kernel_rfl) ?_
  intro a0 M0
  repeat refine wp_seq ?_
  refine M0.t [.m 1 [] 0, .m 2 [] 1] [(0, wn a), (1, RG.z 4)] [] [wn a, RG.z 4] [(1, .p 0 0), (2, .p 1 0)] ⟨RG.mk 0 39, RG.mk 1 39, trivial⟩ ?_
  intro j1 i1 a1 w1 M1
  repeat refine wp_seq ?_
  refine M1.u [.x 3 [] (nv a), .x 4 [] (nv 0), .x 5 [(3, 0), (4, 1)] (.bool d)] [(1, .p 0 0), (2, .p 1 0), (5, .v (.bool d))] ⟨RG.ld u40 i40, RG.st, RG.cert_bin rfl .eql 39 39 3 4 (nv a) (nv 0) (.bool d) rfl rfl RG.sx RG.sx (fun w => by kernel_rfl) hq, trivial⟩ ?_
  intro a2 w2 M2
  cases d with
  | true =>
    refine wp_cond_true M2.ev ?_
    have h0 : a = 0 := of_decide_eq_true hd.out
    have hr : orOne a = 1 := by unfold orOne; rw [if_pos h0]
    rw [hr]
    repeat refine wp_seq ?_
    refine M2.t [.c 6 [] (nv 1), .u [(6, 0)] 1] [] [(1, 1, wn 1)] [wn a, wn 1] [(2, .p 1 0)] ⟨RG.cl ofOne_c, RG.pt i40, trivial⟩ ?_
    intro a3 w3 M3
    refine wp_ret ?_
    refine bodyPost_ret (v := nv 1) (RG.results_row M3.st 2 39 rfl 1 _ rfl (M3.at (s := (.p 1 0))) u40 i40) M3.sl.defers ?_
    exact ⟨_, rfl, M3.st.bel.below, rfl⟩
  | false =>
    refine wp_cond_false M2.ev ?_
    have h0 : ¬ a = 0 := of_decide_eq_false hd.out
    have hr : orOne a = a := by unfold orOne; rw [if_neg h0]
    rw [hr]
    refine wp_skip ?_
    repeat refine wp_seq ?_
    refine M2.t [.x 7 [] (nv a), .u [(7, 0)] 1] [] [(1, 1, wn a)] [wn a, wn a] [(2, .p 1 0)] ⟨RG.ld u40 i40, RG.pt i40, trivial⟩ ?_
    intro a3 w3 M3
    refine wp_ret ?_
    refine bodyPost_ret (v := nv a) (RG.results_row M3.st 2 39 rfl 1 _ rfl (M3.at (s := (.p 1 0))) u40 i40) M3.sl.defers ?_
    exact ⟨_, rfl, M3.st.bel.below, rfl⟩
end Go.Proofs.Ytifkmkllljfeaaa
namespace Go.Proofs.Ytifkmkllljfeaaa
open Go.RowKit Go.Sort Go.Deep
variable {N : Nat}
/-- The scalar of derived bytes. -/
def kSc (N : Nat) (T : Bs) : Nat := orOne (redu N (SP.strmL T.toList 64))
theorem kSc_lt (O : Ord N) (T : Bs) : kSc N T < N := orOne_lt O (redu_lt O _)
set_option maxHeartbeats 2000000 in
set_option maxRecDepth 100000 in
theorem scalarOf_c (O : Ord N) (r2 : Nat) (T : Bs) (w : World) (hTs : T.size = 32) (hT : Holds encB w r2 0 T) :
    Calls Try.prog 12 #[.slice (some ⟨r2, 0, none⟩) 32 32] w (Ret fun e w' => Below w.heap.size w w' ∧ e = nv (kSc N T)) := by
  obtain ⟨w1, hw1⟩ : ∃ w1, Hid (w.alloc (.cells #[.int .u64 0, .int .u64 0, .int .u64 0, .int .u64 0] 39) = w1) := ⟨_, rfl⟩
  have K2 : Hid (Row w1 w.heap.size [.int .u64 0, .int .u64 0, .int .u64 0, .int .u64 0] ∧ Below w.heap.size w w1 ∧ Holds encB w1 r2 0 T) := by rw [← hw1.out]; exact ⟨row_new w _ _, below1 w _, Holds.below hT (below1 w _) (Holds.lt hT (by omega))⟩
  clear hT
  have hlt := redu_lt O (SP.strmL T.toList 64)
  have HO := orOne_c O hlt
  have hS := spread_c O r2 T w1 hTs K2.out.2.2
  have HK : Hid (kSc N T = orOne (redu N (SP.strmL T.toList 64))) := rfl
  generalize redu N (SP.strmL T.toList 64) = m at HO hS HK hlt
  rw [HK.out]
  generalize orOne m = x at HO ⊢
  obtain ⟨vm, hvm⟩ : ∃ vm, Hid (nv m = vm) := ⟨_, rfl⟩
  rw [hvm.out] at HO hS
  go_enter Try.func12, Try.ntmps12
  go_wp2_with fail
  rw [hw1.out]
  clear hw1
  refine hS.mono ?_
  rintro e w3 ⟨v, rfl, h2, rfl⟩
  have K3 : Hid (Row w3 w.heap.size [.int .u64 0, .int .u64 0, .int .u64 0, .int .u64 0] ∧ Below w.heap.size w w3) := ⟨K2.out.1.below h2, K2.out.2.1.trans (h2.mono K2.out.2.1.size)⟩
  clear h2 K2 hS
  go_wp2_with fail
  refine (HO w3).mono ?_
  rintro e w4 ⟨v, rfl, hb4, rfl⟩
  have K4 : Hid (Row w4 w.heap.size [.int .u64 0, .int .u64 0, .int .u64 0, .int .u64 0] ∧ Below w.heap.size w w4) := ⟨K3.out.1.below hb4, K3.out.2.trans (hb4.mono K3.out.2.size)⟩
  clear hb4 K3 HO
  obtain ⟨w5, hw5⟩ : ∃ w5, Hid (w4.setCells w.heap.size 0 (wn x) = w5) := ⟨_, rfl⟩
  have K5 : Hid (Row w5 w.heap.size (wn x) ∧ Below w.heap.size w w5) := by rw [← hw5.out]; exact ⟨K4.out.1.put rfl, RG.below_setCells (Nat.le_refl _) _ _ _ K4.out.2⟩
  obtain ⟨vx, hvx⟩ : ∃ vx, Hid (nv x = vx) := ⟨_, rfl⟩
  rw [hvx.out]
  go_wp2_with (refine wpList_store_mid rfl 39 _ _ rfl w.heap.size 0 (wn x).toArray ?_ ?_ ?_ ?_ ?_ ?_; rfl; exact hvx.out.symm; exact K4.out.1.2.2; exact i40; exact wn_one x; rw [show (wn x).toArray.toList = wn x from rfl, hw5.out])
  refine bodyPost_ret (results_cell 2 39 rfl K5.out.1 rfl u40 i40) rfl ?_
  exact ⟨_, rfl, K5.out.2, rfl⟩
end Go.Proofs.Ytifkmkllljfeaaa
namespace Go.Proofs.Ytifkmkllljfeaaa
open Go.RowKit Go.Sort Go.Deep
theorem part_size {w : World} {q : Option Addr} {n c : Nat} {b : Bs} (h : SP.PartOk w (.slice q n c) b.toList) : n = b.size := by
  obtain ⟨a, sb, so, cap, bs, h1, h2, -⟩ := h
  cases h1
  rw [Array.ext' h2]
theorem part_conv {w : World} {q : Option Addr} {n c : Nat} {b : Bs} (h : SP.PartOk w (.slice q n c) b.toList) : (convert 23 9 (.slice q n c)).run Try.prog w = .ok (.string ⟨b⟩) w := by
  obtain ⟨a, sb, so, cap, bs, h1, h2, h3, -, h5⟩ := h
  cases h1
  obtain rfl := Array.ext' h2
  rcases h5 with h5 | ⟨rfl, h6⟩
  · have hb : bs = #[] := Array.eq_empty_of_size_eq_zero h5
    subst hb
    cases q with
    | none => exact run_convert_bytes_nil (P := Try.prog) (w := w) 23 5 slice22 int5 0 c 9 str9
    | some a => exact run_convert_bytes_back (P := Try.prog) w 23 9 5 a c [] slice22 int5 str9 (fun j hj => by cases hj)
  · exact SP.conv_str Try.prog 23 9 5 slice22 int5 str9 w sb so bs.size c bs h6 rfl
theorem beq3 (a b : Bs) : ((⟨a⟩ : ByteArray).toList == (⟨b⟩ : ByteArray).toList) = decide (a = b) := by
  by_cases h : a = b
  · subst h
    simp
  · rw [decide_eq_false h]
    have : ¬ ((⟨a⟩ : ByteArray).toList = (⟨b⟩ : ByteArray).toList) := fun e => by
      rw [ByteArray.toList_eq, ByteArray.toList_eq] at e
      exact h (Array.toList_inj.1 e)
    simpa using this
/-- What Lies answers. -/
def liesT (root leaf : Bs) (n i : Int) (S : Nat → Bs) (m : Nat) : Bool :=
  if (1 ≤ n ∧ n ≤ 1048576) ∧ (0 ≤ i ∧ i ≤ n - 1) ∧ (∀ j, j < m → (S j).size = 32) then (lead leaf (revL S m) n.toNat i.toNat).2 && decide ((lead leaf (revL S m) n.toNat i.toNat).1 = root) else false
end Go.Proofs.Ytifkmkllljfeaaa
namespace Go.Proofs.Ytifkmkllljfeaaa
open Go.RowKit Go.Sort Go.Deep
theorem zeros_one {z : Value} (e : z.cells = #[z]) (n : Nat) : Builtin.zeroCells z.cells n = Array.replicate n z := by
  unfold Builtin.zeroCells
  rw [e]
  apply Array.ext
  · simp
  · intro k h2 h3
    simp [Nat.mod_one]
def encV (v : Value) : Value := v
theorem slice46 : Try.prog.underlying 54 = some (.slice 23) := by kernel_rfl
theorem slice45 : Try.prog.underlying 56 = some (.slice 9) := by kernel_rfl
theorem info23 : (Try.prog.info? 23).map (fun i => (i.zero, i.size, i.bytes)) = some (some (.slice none 0 0), 1, 24) := by kernel_rfl
theorem info9 : (Try.prog.info? 9).map (fun i => (i.zero, i.size, i.bytes)) = some (some (.string ⟨#[]⟩), 1, 16) := by kernel_rfl
/-- A list of values of one's own, in block g. -/
structure ListAt (w : World) (g cap : Nat) (vs : List Value) (cur : Array Value) : Prop where
  lt : g < w.heap.size
  size : cur.size = cap
  fits : vs.length ≤ cap
  holds : Holds encV w g 0 cur
  front : ∀ j, j < vs.length → cur[j]! = vs[j]!
theorem ListAt.below {w w1 : World} {g cap : Nat} {vs : List Value} {cur : Array Value} (h : ListAt w g cap vs cur) (k : Below w.heap.size w w1) : ListAt w1 g cap vs cur :=
  ⟨Nat.lt_of_lt_of_le h.lt k.size, h.size, h.fits, Holds.below h.holds k h.lt, h.front⟩
theorem val_front (a b : List Value) (j : Nat) (h : j < a.length) : (a ++ b)[j]! = a[j]! := by
  rw [getElem!_pos (a ++ b) j (by rw [List.length_append]; omega), getElem!_pos a j h, List.getElem_append_left h]
theorem val_last (a : List Value) (x : Value) : (a ++ [x])[a.length]! = x := by
  rw [getElem!_pos (a ++ [x]) a.length (by simp)]
  simp
theorem arr_list_at (T : List Value) (n j : Nat) (z : Value) (h : j < T.length) : (T.toArray ++ Array.replicate n z)[j]! = T[j]! := by
  rw [getElem!_pos _ j (by simp; omega), getElem!_pos T j h, Array.getElem_append_left (by simpa using h)]
  simp
theorem src_oneG {w : World} {T E : TypeId} (hT : Try.prog.underlying T = some (.slice E)) {r : Nat} {x : Value} (hx : w.cell? ⟨r, 0, none⟩ = some x) (h1 : x.oneCell' = true) : Src Try.prog 1 T (.slice (some ⟨r, 0, none⟩) 1 1) 1 [x] w := by
  refine Src.ofSlice w hT ⟨r, 0, none⟩ 1 1 _ rfl (fun j u hj => ?_) (fun u hu => ?_)
  · cases j with
    | zero =>
      have : u = x := by simpa using hj.symm
      rw [this]
      exact hx
    | succ j => simp at hj
  · have : u = x := by simpa using hu
    rw [this]
    exact h1
/-- 'append(l, x)', l a list of slices of one's own. -/
theorem append_valS {T E : TypeId} {z : Value} (hT : Try.prog.underlying T = some (.slice E)) (hE : (Try.prog.info? E).map (fun i => (i.zero, i.size, i.bytes)) = some (some z, 1, 16)) (hzc : z.cells = #[z]) {w : World} {g cap r : Nat} {vs : List Value} {cur : Array Value} {x : Value} (h : ListAt w g cap vs cur) (hx : w.cell? ⟨r, 0, none⟩ = some x) (h1 : x.oneCell' = true) (hbig : vs.length ≤ 1048576) :
    ∃ g' cap' cur' w', (Builtin.append_ #[T, T] T #[.slice (some ⟨g, 0, none⟩) vs.length cap, .slice (some ⟨r, 0, none⟩) 1 1]).run Try.prog w = .ok (.slice (some ⟨g', 0, none⟩) (vs.length + 1) cap') w' ∧
      ListAt w' g' cap' (vs ++ [x]) cur' ∧ Only g 0 cap w w' ∧ (g' = g ∨ w.heap.size ≤ g') := by
  obtain ⟨i, hi, hz, hsz, hby⟩ := info_parts hE
  have hsrc := src_oneG hT (r := r) hx h1
  by_cases hroom : vs.length + 1 ≤ cap
  · have hap := run_append_room_src (P := Try.prog) w T T T E i hT hi g 0 vs.length cap (.slice (some ⟨r, 0, none⟩) 1 1) 1 [x] (by rw [hsz]; exact hsrc) hroom
      (fun j hj => by
        have hj0 : j = 0 := by simpa using hj
        subst hj0
        rw [hsz, Nat.mul_one, Nat.add_zero, (h.holds vs.length (by rw [h.size]; omega)).1]; rfl)
      (fun j hj => by
        have hj0 : j = 0 := by simpa using hj
        subst hj0
        rw [hsz, Nat.mul_one, Nat.add_zero]
        exact (h.holds vs.length (by rw [h.size]; omega)).2)
    rw [hsz, Nat.mul_one, Nat.zero_add] at hap
    have hset : w.setCells g vs.length [x] = w.setCell ⟨g, vs.length, none⟩ x := rfl
    rw [hset] at hap
    have hH := Holds.set h.holds (i := vs.length) (by rw [h.size]; omega) x
    rw [Nat.zero_add] at hH
    refine ⟨g, cap, cur.setIfInBounds vs.length x, _, hap, ⟨by rw [World.size_setCell]; exact h.lt, by rw [Array.size_setIfInBounds, h.size], by rw [List.length_append]; exact hroom, hH, fun j hj => ?_⟩, (Only.refl _ _ _ _).setCell (by omega) (by omega) _, Or.inl rfl⟩
    rw [List.length_append, List.length_singleton] at hj
    by_cases hj1 : j = vs.length
    · rw [hj1, val_last, getElem!_set_same _ _ _ (by rw [h.size]; omega)]
    · rw [getElem!_set_other _ _ _ _ hj1, val_front _ _ _ (by omega), h.front j (by omega)]
  · have hold : (Builtin.firstCells i.size vs.length (.slice (some ⟨g, 0, none⟩) vs.length cap)).run Try.prog w.drew = .ok vs.toArray w.drew := by
      rw [hsz]
      refine run_firstCells_some w.drew 1 vs.length ⟨g, 0, none⟩ vs.length cap vs (by rw [Nat.mul_one]) (fun j u hj => ?_)
      obtain ⟨h2, h3⟩ := List.getElem?_eq_some_iff.1 hj
      have hc := (h.holds j (by rw [h.size]; have := h.fits; omega)).1
      rw [h.front j h2, getElem!_pos vs j h2, h3] at hc
      have e1 : (⟨g, 0, none⟩ : Addr).add j = ⟨g, 0 + j, none⟩ := by
        unfold Addr.add
        by_cases h0 : j = 0
        · subst h0; rw [if_pos rfl]
        · rw [if_neg h0]
      rw [e1, World.cell?_drew, hc]
      rfl
    have hf := h.fits
    have hnc : Builtin.nextslicecap (vs.length + 1) cap ≤ 2 * (vs.length + 1) + 768 := by
      unfold Builtin.nextslicecap
      split
      · omega
      · split
        · omega
        · simp only [Builtin.growBy]
          repeat' split
          all_goals omega
    have hap := run_append_grow_src (P := Try.prog) w T T T E i z hT hi hz (some ⟨g, 0, none⟩) vs.length cap vs hold _ 1 [x] (by rw [hsz]; exact hsrc) (by omega) (by omega) (by rw [hby]; omega)
    generalize hG : grownCap w (vs.length + 1) cap E = G at hap
    have hGl : vs.length + 1 ≤ G := by
      rw [← hG]
      unfold grownCap Question.cut
      exact Nat.le_add_right _ _
    have hcells : (vs ++ [x]).toArray ++ Builtin.zeroCells z.cells (G - (vs.length + 1)) = ((vs ++ [x]).toArray ++ Array.replicate (G - (vs.length + 1)) (z)).map encV := by
      have e0 : ∀ a : Array Value, a.map encV = a := fun a => by
        have : encV = id := rfl
        rw [this, Array.map_id]
      rw [e0, zeros_one hzc]
    rw [hcells] at hap
    refine ⟨w.heap.size, G, (vs ++ [x]).toArray ++ Array.replicate (G - (vs.length + 1)) (z), _, hap, ⟨by simp, ?_, by rw [List.length_append]; exact hGl, ?_, fun j hj => arr_list_at _ _ _ _ hj⟩, ?_, Or.inr (Nat.le_refl _)⟩
    · simp; omega
    · exact Holds.new (enc := encV) w.drew E _
    · exact (Only.refl g 0 cap w).drew.alloc h.lt _
/-- .. and the first of them. -/
theorem append_firstS {T E : TypeId} {z : Value} (hT : Try.prog.underlying T = some (.slice E)) (hE : (Try.prog.info? E).map (fun i => (i.zero, i.size, i.bytes)) = some (some z, 1, 16)) (hzc : z.cells = #[z]) {w : World} {r : Nat} {x : Value} (hx : w.cell? ⟨r, 0, none⟩ = some x) (h1 : x.oneCell' = true) :
    ∃ cap' cur' w', (Builtin.append_ #[T, T] T #[.slice none 0 0, .slice (some ⟨r, 0, none⟩) 1 1]).run Try.prog w = .ok (.slice (some ⟨w.heap.size, 0, none⟩) 1 cap') w' ∧
      ListAt w' w.heap.size cap' [x] cur' ∧ Below w.heap.size w w' := by
  obtain ⟨i, hi, hz, hsz, hby⟩ := info_parts hE
  have hsrc := src_oneG hT (r := r) hx h1
  have hold : (Builtin.firstCells i.size 0 (.slice none 0 0)).run Try.prog w.drew = .ok ([] : List Value).toArray w.drew := run_firstCells_none w.drew i.size 0 0 0
  have hnc : Builtin.nextslicecap (0 + 1) 0 ≤ 770 := by decide
  have hap := run_append_grow_src (P := Try.prog) w T T T E i z hT hi hz none 0 0 [] hold _ 1 [x] (by rw [hsz]; exact hsrc) (by omega) (by omega) (by rw [hby]; omega)
  rw [Nat.zero_add] at hap
  generalize hG : grownCap w 1 0 E = G at hap
  have hGl : 1 ≤ G := by
    rw [← hG]
    unfold grownCap Question.cut
    exact Nat.le_add_right _ _
  have hcells : (([] : List Value) ++ [x]).toArray ++ Builtin.zeroCells z.cells (G - 1) = ([x].toArray ++ Array.replicate (G - 1) (z)).map encV := by
    have e0 : ∀ a : Array Value, a.map encV = a := fun a => by
      have : encV = id := rfl
      rw [this, Array.map_id]
    rw [e0, List.nil_append, zeros_one hzc]
  rw [hcells] at hap
  refine ⟨G, [x].toArray ++ Array.replicate (G - 1) (z), _, hap, ⟨by simp, ?_, hGl, ?_, fun j hj => arr_list_at [x] _ _ _ hj⟩, ?_⟩
  · simp; omega
  · exact Holds.new (enc := encV) w.drew E _
  · exact ((Below.refl w.heap.size w).drew).alloc (Nat.le_refl _) _
/-- 'append(l, x)', l a list of slices of one's own. -/
theorem append_valL {T E : TypeId} {z : Value} (hT : Try.prog.underlying T = some (.slice E)) (hE : (Try.prog.info? E).map (fun i => (i.zero, i.size, i.bytes)) = some (some z, 1, 24)) (hzc : z.cells = #[z]) {w : World} {g cap r : Nat} {vs : List Value} {cur : Array Value} {x : Value} (h : ListAt w g cap vs cur) (hx : w.cell? ⟨r, 0, none⟩ = some x) (h1 : x.oneCell' = true) (hbig : vs.length ≤ 1048576) :
    ∃ g' cap' cur' w', (Builtin.append_ #[T, T] T #[.slice (some ⟨g, 0, none⟩) vs.length cap, .slice (some ⟨r, 0, none⟩) 1 1]).run Try.prog w = .ok (.slice (some ⟨g', 0, none⟩) (vs.length + 1) cap') w' ∧
      ListAt w' g' cap' (vs ++ [x]) cur' ∧ Only g 0 cap w w' ∧ (g' = g ∨ w.heap.size ≤ g') := by
  obtain ⟨i, hi, hz, hsz, hby⟩ := info_parts hE
  have hsrc := src_oneG hT (r := r) hx h1
  by_cases hroom : vs.length + 1 ≤ cap
  · have hap := run_append_room_src (P := Try.prog) w T T T E i hT hi g 0 vs.length cap (.slice (some ⟨r, 0, none⟩) 1 1) 1 [x] (by rw [hsz]; exact hsrc) hroom
      (fun j hj => by
        have hj0 : j = 0 := by simpa using hj
        subst hj0
        rw [hsz, Nat.mul_one, Nat.add_zero, (h.holds vs.length (by rw [h.size]; omega)).1]; rfl)
      (fun j hj => by
        have hj0 : j = 0 := by simpa using hj
        subst hj0
        rw [hsz, Nat.mul_one, Nat.add_zero]
        exact (h.holds vs.length (by rw [h.size]; omega)).2)
    rw [hsz, Nat.mul_one, Nat.zero_add] at hap
    have hset : w.setCells g vs.length [x] = w.setCell ⟨g, vs.length, none⟩ x := rfl
    rw [hset] at hap
    have hH := Holds.set h.holds (i := vs.length) (by rw [h.size]; omega) x
    rw [Nat.zero_add] at hH
    refine ⟨g, cap, cur.setIfInBounds vs.length x, _, hap, ⟨by rw [World.size_setCell]; exact h.lt, by rw [Array.size_setIfInBounds, h.size], by rw [List.length_append]; exact hroom, hH, fun j hj => ?_⟩, (Only.refl _ _ _ _).setCell (by omega) (by omega) _, Or.inl rfl⟩
    rw [List.length_append, List.length_singleton] at hj
    by_cases hj1 : j = vs.length
    · rw [hj1, val_last, getElem!_set_same _ _ _ (by rw [h.size]; omega)]
    · rw [getElem!_set_other _ _ _ _ hj1, val_front _ _ _ (by omega), h.front j (by omega)]
  · have hold : (Builtin.firstCells i.size vs.length (.slice (some ⟨g, 0, none⟩) vs.length cap)).run Try.prog w.drew = .ok vs.toArray w.drew := by
      rw [hsz]
      refine run_firstCells_some w.drew 1 vs.length ⟨g, 0, none⟩ vs.length cap vs (by rw [Nat.mul_one]) (fun j u hj => ?_)
      obtain ⟨h2, h3⟩ := List.getElem?_eq_some_iff.1 hj
      have hc := (h.holds j (by rw [h.size]; have := h.fits; omega)).1
      rw [h.front j h2, getElem!_pos vs j h2, h3] at hc
      have e1 : (⟨g, 0, none⟩ : Addr).add j = ⟨g, 0 + j, none⟩ := by
        unfold Addr.add
        by_cases h0 : j = 0
        · subst h0; rw [if_pos rfl]
        · rw [if_neg h0]
      rw [e1, World.cell?_drew, hc]
      rfl
    have hf := h.fits
    have hnc : Builtin.nextslicecap (vs.length + 1) cap ≤ 2 * (vs.length + 1) + 768 := by
      unfold Builtin.nextslicecap
      split
      · omega
      · split
        · omega
        · simp only [Builtin.growBy]
          repeat' split
          all_goals omega
    have hap := run_append_grow_src (P := Try.prog) w T T T E i z hT hi hz (some ⟨g, 0, none⟩) vs.length cap vs hold _ 1 [x] (by rw [hsz]; exact hsrc) (by omega) (by omega) (by rw [hby]; omega)
    generalize hG : grownCap w (vs.length + 1) cap E = G at hap
    have hGl : vs.length + 1 ≤ G := by
      rw [← hG]
      unfold grownCap Question.cut
      exact Nat.le_add_right _ _
    have hcells : (vs ++ [x]).toArray ++ Builtin.zeroCells z.cells (G - (vs.length + 1)) = ((vs ++ [x]).toArray ++ Array.replicate (G - (vs.length + 1)) (z)).map encV := by
      have e0 : ∀ a : Array Value, a.map encV = a := fun a => by
        have : encV = id := rfl
        rw [this, Array.map_id]
      rw [e0, zeros_one hzc]
    rw [hcells] at hap
    refine ⟨w.heap.size, G, (vs ++ [x]).toArray ++ Array.replicate (G - (vs.length + 1)) (z), _, hap, ⟨by simp, ?_, by rw [List.length_append]; exact hGl, ?_, fun j hj => arr_list_at _ _ _ _ hj⟩, ?_, Or.inr (Nat.le_refl _)⟩
    · simp; omega
    · exact Holds.new (enc := encV) w.drew E _
    · exact (Only.refl g 0 cap w).drew.alloc h.lt _
/-- .. and the first of them. -/
theorem append_firstL {T E : TypeId} {z : Value} (hT : Try.prog.underlying T = some (.slice E)) (hE : (Try.prog.info? E).map (fun i => (i.zero, i.size, i.bytes)) = some (some z, 1, 24)) (hzc : z.cells = #[z]) {w : World} {r : Nat} {x : Value} (hx : w.cell? ⟨r, 0, none⟩ = some x) (h1 : x.oneCell' = true) :
    ∃ cap' cur' w', (Builtin.append_ #[T, T] T #[.slice none 0 0, .slice (some ⟨r, 0, none⟩) 1 1]).run Try.prog w = .ok (.slice (some ⟨w.heap.size, 0, none⟩) 1 cap') w' ∧
      ListAt w' w.heap.size cap' [x] cur' ∧ Below w.heap.size w w' := by
  obtain ⟨i, hi, hz, hsz, hby⟩ := info_parts hE
  have hsrc := src_oneG hT (r := r) hx h1
  have hold : (Builtin.firstCells i.size 0 (.slice none 0 0)).run Try.prog w.drew = .ok ([] : List Value).toArray w.drew := run_firstCells_none w.drew i.size 0 0 0
  have hnc : Builtin.nextslicecap (0 + 1) 0 ≤ 770 := by decide
  have hap := run_append_grow_src (P := Try.prog) w T T T E i z hT hi hz none 0 0 [] hold _ 1 [x] (by rw [hsz]; exact hsrc) (by omega) (by omega) (by rw [hby]; omega)
  rw [Nat.zero_add] at hap
  generalize hG : grownCap w 1 0 E = G at hap
  have hGl : 1 ≤ G := by
    rw [← hG]
    unfold grownCap Question.cut
    exact Nat.le_add_right _ _
  have hcells : (([] : List Value) ++ [x]).toArray ++ Builtin.zeroCells z.cells (G - 1) = ([x].toArray ++ Array.replicate (G - 1) (z)).map encV := by
    have e0 : ∀ a : Array Value, a.map encV = a := fun a => by
      have : encV = id := rfl
      rw [this, Array.map_id]
    rw [e0, List.nil_append, zeros_one hzc]
  rw [hcells] at hap
  refine ⟨G, [x].toArray ++ Array.replicate (G - 1) (z), _, hap, ⟨by simp, ?_, hGl, ?_, fun j hj => arr_list_at [x] _ _ _ hj⟩, ?_⟩
  · simp; omega
  · exact Holds.new (enc := encV) w.drew E _
  · exact ((Below.refl w.heap.size w).drew).alloc (Nat.le_refl _) _
/-- 'append(l, x)', l a list of slices of one's own. -/
theorem append_valB {T E : TypeId} {z : Value} (hT : Try.prog.underlying T = some (.slice E)) (hE : (Try.prog.info? E).map (fun i => (i.zero, i.size, i.bytes)) = some (some z, 1, 1)) (hzc : z.cells = #[z]) {w : World} {g cap r : Nat} {vs : List Value} {cur : Array Value} {x : Value} (h : ListAt w g cap vs cur) (hx : w.cell? ⟨r, 0, none⟩ = some x) (h1 : x.oneCell' = true) (hbig : vs.length ≤ 1048576) :
    ∃ g' cap' cur' w', (Builtin.append_ #[T, T] T #[.slice (some ⟨g, 0, none⟩) vs.length cap, .slice (some ⟨r, 0, none⟩) 1 1]).run Try.prog w = .ok (.slice (some ⟨g', 0, none⟩) (vs.length + 1) cap') w' ∧
      ListAt w' g' cap' (vs ++ [x]) cur' ∧ Only g 0 cap w w' ∧ (vs.length + 1 ≤ cap ∧ g' = g ∨ w.heap.size ≤ g' ∧ Below w.heap.size w w') := by
  obtain ⟨i, hi, hz, hsz, hby⟩ := info_parts hE
  have hsrc := src_oneG hT (r := r) hx h1
  by_cases hroom : vs.length + 1 ≤ cap
  · have hap := run_append_room_src (P := Try.prog) w T T T E i hT hi g 0 vs.length cap (.slice (some ⟨r, 0, none⟩) 1 1) 1 [x] (by rw [hsz]; exact hsrc) hroom
      (fun j hj => by
        have hj0 : j = 0 := by simpa using hj
        subst hj0
        rw [hsz, Nat.mul_one, Nat.add_zero, (h.holds vs.length (by rw [h.size]; omega)).1]; rfl)
      (fun j hj => by
        have hj0 : j = 0 := by simpa using hj
        subst hj0
        rw [hsz, Nat.mul_one, Nat.add_zero]
        exact (h.holds vs.length (by rw [h.size]; omega)).2)
    rw [hsz, Nat.mul_one, Nat.zero_add] at hap
    have hset : w.setCells g vs.length [x] = w.setCell ⟨g, vs.length, none⟩ x := rfl
    rw [hset] at hap
    have hH := Holds.set h.holds (i := vs.length) (by rw [h.size]; omega) x
    rw [Nat.zero_add] at hH
    refine ⟨g, cap, cur.setIfInBounds vs.length x, _, hap, ⟨by rw [World.size_setCell]; exact h.lt, by rw [Array.size_setIfInBounds, h.size], by rw [List.length_append]; exact hroom, hH, fun j hj => ?_⟩, (Only.refl _ _ _ _).setCell (by omega) (by omega) _, Or.inl ⟨hroom, rfl⟩⟩
    rw [List.length_append, List.length_singleton] at hj
    by_cases hj1 : j = vs.length
    · rw [hj1, val_last, getElem!_set_same _ _ _ (by rw [h.size]; omega)]
    · rw [getElem!_set_other _ _ _ _ hj1, val_front _ _ _ (by omega), h.front j (by omega)]
  · have hold : (Builtin.firstCells i.size vs.length (.slice (some ⟨g, 0, none⟩) vs.length cap)).run Try.prog w.drew = .ok vs.toArray w.drew := by
      rw [hsz]
      refine run_firstCells_some w.drew 1 vs.length ⟨g, 0, none⟩ vs.length cap vs (by rw [Nat.mul_one]) (fun j u hj => ?_)
      obtain ⟨h2, h3⟩ := List.getElem?_eq_some_iff.1 hj
      have hc := (h.holds j (by rw [h.size]; have := h.fits; omega)).1
      rw [h.front j h2, getElem!_pos vs j h2, h3] at hc
      have e1 : (⟨g, 0, none⟩ : Addr).add j = ⟨g, 0 + j, none⟩ := by
        unfold Addr.add
        by_cases h0 : j = 0
        · subst h0; rw [if_pos rfl]
        · rw [if_neg h0]
      rw [e1, World.cell?_drew, hc]
      rfl
    have hf := h.fits
    have hnc : Builtin.nextslicecap (vs.length + 1) cap ≤ 2 * (vs.length + 1) + 768 := by
      unfold Builtin.nextslicecap
      split
      · omega
      · split
        · omega
        · simp only [Builtin.growBy]
          repeat' split
          all_goals omega
    have hap := run_append_grow_src (P := Try.prog) w T T T E i z hT hi hz (some ⟨g, 0, none⟩) vs.length cap vs hold _ 1 [x] (by rw [hsz]; exact hsrc) (by omega) (by omega) (by rw [hby]; omega)
    generalize hG : grownCap w (vs.length + 1) cap E = G at hap
    have hGl : vs.length + 1 ≤ G := by
      rw [← hG]
      unfold grownCap Question.cut
      exact Nat.le_add_right _ _
    have hcells : (vs ++ [x]).toArray ++ Builtin.zeroCells z.cells (G - (vs.length + 1)) = ((vs ++ [x]).toArray ++ Array.replicate (G - (vs.length + 1)) (z)).map encV := by
      have e0 : ∀ a : Array Value, a.map encV = a := fun a => by
        have : encV = id := rfl
        rw [this, Array.map_id]
      rw [e0, zeros_one hzc]
    rw [hcells] at hap
    refine ⟨w.heap.size, G, (vs ++ [x]).toArray ++ Array.replicate (G - (vs.length + 1)) (z), _, hap, ⟨by simp, ?_, by rw [List.length_append]; exact hGl, ?_, fun j hj => arr_list_at _ _ _ _ hj⟩, ?_, Or.inr ⟨Nat.le_refl _, ((Below.refl w.heap.size w).drew).alloc (Nat.le_refl _) _⟩⟩
    · simp; omega
    · exact Holds.new (enc := encV) w.drew E _
    · exact (Only.refl g 0 cap w).drew.alloc h.lt _
/-- .. and the first of them. -/
theorem append_firstB {T E : TypeId} {z : Value} (hT : Try.prog.underlying T = some (.slice E)) (hE : (Try.prog.info? E).map (fun i => (i.zero, i.size, i.bytes)) = some (some z, 1, 1)) (hzc : z.cells = #[z]) {w : World} {r : Nat} {x : Value} (hx : w.cell? ⟨r, 0, none⟩ = some x) (h1 : x.oneCell' = true) :
    ∃ cap' cur' w', (Builtin.append_ #[T, T] T #[.slice none 0 0, .slice (some ⟨r, 0, none⟩) 1 1]).run Try.prog w = .ok (.slice (some ⟨w.heap.size, 0, none⟩) 1 cap') w' ∧
      ListAt w' w.heap.size cap' [x] cur' ∧ Below w.heap.size w w' := by
  obtain ⟨i, hi, hz, hsz, hby⟩ := info_parts hE
  have hsrc := src_oneG hT (r := r) hx h1
  have hold : (Builtin.firstCells i.size 0 (.slice none 0 0)).run Try.prog w.drew = .ok ([] : List Value).toArray w.drew := run_firstCells_none w.drew i.size 0 0 0
  have hnc : Builtin.nextslicecap (0 + 1) 0 ≤ 770 := by decide
  have hap := run_append_grow_src (P := Try.prog) w T T T E i z hT hi hz none 0 0 [] hold _ 1 [x] (by rw [hsz]; exact hsrc) (by omega) (by omega) (by rw [hby]; omega)
  rw [Nat.zero_add] at hap
  generalize hG : grownCap w 1 0 E = G at hap
  have hGl : 1 ≤ G := by
    rw [← hG]
    unfold grownCap Question.cut
    exact Nat.le_add_right _ _
  have hcells : (([] : List Value) ++ [x]).toArray ++ Builtin.zeroCells z.cells (G - 1) = ([x].toArray ++ Array.replicate (G - 1) (z)).map encV := by
    have e0 : ∀ a : Array Value, a.map encV = a := fun a => by
      have : encV = id := rfl
      rw [this, Array.map_id]
    rw [e0, List.nil_append, zeros_one hzc]
  rw [hcells] at hap
  refine ⟨G, [x].toArray ++ Array.replicate (G - 1) (z), _, hap, ⟨by simp, ?_, hGl, ?_, fun j hj => arr_list_at [x] _ _ _ hj⟩, ?_⟩
  · simp; omega
  · exact Holds.new (enc := encV) w.drew E _
  · exact ((Below.refl w.heap.size w).drew).alloc (Nat.le_refl _) _
end Go.Proofs.Ytifkmkllljfeaaa
namespace Go.Proofs.Ytifkmkllljfeaaa
open Go.RowKit Go.Sort Go.Deep
def Texts (w : World) (q : Option Addr) (n : Nat) (S : Nat → ByteArray) : Prop := 0 < n → ∃ gg oo, q = some ⟨gg, oo, none⟩ ∧ gg < w.heap.size ∧ ∀ j, j < n → w.cell? ⟨gg, oo + j, none⟩ = some (.string (S j))
theorem Texts.below {w w1 : World} {q : Option Addr} {n : Nat} {S : Nat → ByteArray} (h : Texts w q n S) (hb : Below w.heap.size w w1) : Texts w1 q n S := fun hn => by
  obtain ⟨gg, oo, h1, h2, h3⟩ := h hn
  exact ⟨gg, oo, h1, Nat.lt_of_lt_of_le h2 hb.size, fun j hj => by rw [hb.cell (p := ⟨gg, oo + j, none⟩) h2]; exact h3 j hj⟩
/-- A list of bytes' slices that grows, each made of a text. -/
def AL (W : World) (B k : Nat) (v : Value) (S : Nat → ByteArray) : Prop :=
  (k = 0 ∧ v = .slice none 0 0) ∨ ∃ g cap vs cur, v = .slice (some ⟨g, 0, none⟩) k cap ∧ vs.length = k ∧ 0 < k ∧ B ≤ g ∧ ListAt W g cap vs cur ∧ ∀ j, j < k → ∃ gx c, vs[j]! = .slice (some ⟨gx, 0, none⟩) (S j).size c ∧ (S j).size ≤ c ∧ gx ≠ g ∧ gx < W.heap.size ∧ Holds encB W gx 0 (S j).data
theorem AL.below {W w1 : World} {B k : Nat} {v : Value} {S : Nat → ByteArray} (h : AL W B k v S) (hb : Below W.heap.size W w1) : AL w1 B k v S := by
  rcases h with h | ⟨g, cap, vs, cur, h1, h2, h3, h4, h5, h6⟩
  · exact Or.inl h
  · refine Or.inr ⟨g, cap, vs, cur, h1, h2, h3, h4, h5.below hb, fun j hj => ?_⟩
    obtain ⟨gx, c, e1, e2, e3, e4, e5⟩ := h6 j hj
    exact ⟨gx, c, e1, e2, e3, Nat.lt_of_lt_of_le e4 hb.size, Holds.below e5 hb e4⟩
theorem Holds.other0 {W w1 : World} {b o m g : Nat} {T : Bs} (h : Holds encB W g 0 T) (k : Only b o m W w1) (hne : g ≠ b) : Holds encB w1 g 0 T := by
  by_cases h0 : 0 < T.size
  · exact Holds.other h k hne h0
  · exact fun j hj => absurd hj (by omega)
theorem AL.push {wr W : World} {B k cap : Nat} {v : Value} {s : ByteArray} {S : Nat → ByteArray} (h : AL wr B k v S) (hB : B ≤ wr.heap.size) (hk : k ≤ 1048576) (hb : Below wr.heap.size wr W) (hlt : wr.heap.size < W.heap.size) (hc : s.size ≤ cap) (hH : Holds encB W wr.heap.size 0 s.data) (hs : s = S k) :
    ∃ v' w', (Builtin.append_ #[54, 54] 54 #[v, .slice (some ⟨W.heap.size, 0, none⟩) 1 1]).run Try.prog (W.alloc (.cells #[.slice (some ⟨wr.heap.size, 0, none⟩) s.size cap] 23)) = .ok v' w' ∧ AL w' B (k + 1) v' S ∧ Below B wr w' := by
  have hr : (W.alloc (.cells #[.slice (some ⟨wr.heap.size, 0, none⟩) s.size cap] 23)).cell? ⟨W.heap.size, 0, none⟩ = some (.slice (some ⟨wr.heap.size, 0, none⟩) s.size cap) := by simp
  have hb0 : Below W.heap.size W (W.alloc (.cells #[.slice (some ⟨wr.heap.size, 0, none⟩) s.size cap] 23)) := (Below.refl _ _).alloc (Nat.le_refl _) _
  have hs0 : (W.alloc (.cells #[.slice (some ⟨wr.heap.size, 0, none⟩) s.size cap] 23)).heap.size = W.heap.size + 1 := by simp
  have hx1 : (Value.slice (some ⟨wr.heap.size, 0, none⟩) s.size cap).oneCell' = true := rfl
  have hb1 : Below wr.heap.size wr (W.alloc (.cells #[.slice (some ⟨wr.heap.size, 0, none⟩) s.size cap] 23)) := hb.trans (hb0.mono (by omega))
  have hH1 := Holds.below hH hb0 hlt
  rcases h with ⟨rfl, rfl⟩ | ⟨g, cp, vs, cur, rfl, h2, h3, h4, h5, h6⟩
  · obtain ⟨cap', cur', w', hap, hL, hb2⟩ := append_firstL slice46 info23 rfl hr hx1
    refine ⟨_, w', hap, Or.inr ⟨_, cap', _, cur', rfl, rfl, by omega, by omega, hL, fun j hj => ?_⟩, (hb1.mono hB).trans (hb2.mono (by omega))⟩
    have hj0 : j = 0 := by omega
    subst hj0
    have := hb2.size
    exact ⟨wr.heap.size, cap, by rw [← hs]; rfl, by rw [← hs]; exact hc, by omega, by omega, by rw [← hs]; exact Holds.below hH1 hb2 (by omega)⟩
  · have hg := h5.lt
    have h5' := h5.below hb1
    subst h2
    obtain ⟨g', cap', cur', w', hap, hL, hO, hg'⟩ := append_valL slice46 info23 rfl h5' hr hx1 hk
    have hsz := hO.size
    refine ⟨_, w', hap, Or.inr ⟨g', cap', _, cur', rfl, by rw [List.length_append]; rfl, by omega, by omega, hL, fun j hj => ?_⟩, (hb1.mono hB).trans (hO.below (by omega) h4)⟩
    by_cases hj1 : j = vs.length
    · subst hj1
      rw [val_last, ← hs]
      exact ⟨wr.heap.size, cap, rfl, hc, by omega, by omega, Holds.other0 hH1 hO (by omega)⟩
    · obtain ⟨gy, d, e1, e2, e3, e4, e5⟩ := h6 j (by omega)
      rw [val_front _ _ _ (by omega)]
      exact ⟨gy, d, e1, e2, by omega, by omega, Holds.other0 (Holds.below e5 hb1 e4) hO e3⟩
end Go.Proofs.Ytifkmkllljfeaaa
namespace Go.Proofs.Ytifkmkllljfeaaa
open Go.RowKit Go.Sort Go.Deep
theorem frames1 (l x : List UInt8) : (SP.framesL l [x]).length = l.length + x.length + 8 := by
  unfold SP.framesL
  simp [SP.frameL_length]
  omega
theorem framesT (l x y : List UInt8) : (SP.framesL l [x, y]).length = l.length + x.length + y.length + 12 := by
  unfold SP.framesL
  simp [SP.frameL_length]
  omega
theorem hf_pow {n k : Nat} (h1 : 2 ^ k < n) (h2 : n ≤ 2 * 2 ^ k) : hf n = 2 ^ k := by
  unfold hf
  have : Nat.log2 (n - 1) = k := (Nat.log2_eq_iff (by have := Nat.two_pow_pos k; omega)).2 ⟨by omega, by rw [Nat.pow_succ]; omega⟩
  rw [this]
theorem leafH_size (b : Bs) : (leafH b).size = 32 := by unfold leafH; exact SP.tagL_size _ _
theorem nodeH_size (a b : Bs) : (nodeH a b).size = 32 := by unfold nodeH; exact SP.tagL_size _ _
theorem pr32 {T : Bs} {b : Bool} (h : T.size = 32) : ((T, b) : Bs × Bool).1.size ≤ 32 := by
  show T.size ≤ 32
  omega
theorem lead_size (lb : Bs) : ∀ (l : List Bs) (n i : Nat), (lead lb l n i).1.size ≤ 32
  | [], n, i => by
    rw [lead]
    by_cases h : n = 1
    · rw [if_pos h]
      exact pr32 (leafH_size lb)
    · rw [if_neg h]
      exact Nat.zero_le _
  | e :: r, n, i => by
    rw [lead]
    by_cases h : n = 1
    · rw [if_pos h]
      exact pr32 (leafH_size lb)
    · rw [if_neg h]
      by_cases h2 : hf n ≤ i
      · rw [if_pos h2]
        exact pr32 (nodeH_size _ _)
      · rw [if_neg h2]
        exact pr32 (nodeH_size _ _)
end Go.Proofs.Ytifkmkllljfeaaa
namespace Go.Proofs.Ytifkmkllljfeaaa
open Go.RowKit Go.Sort Go.Deep
variable {N : Nat}
/-- What Scalar answers. -/
def ksB (N : Nat) (S : Nat → Nat) (k : Bs) (n : Nat) (l : List UInt8) : Bs := if k.size = 32 ∧ n ≤ 16 then bx (kSc N (derH S k n l)) else #[]
set_option maxHeartbeats 600000 in
theorem KScalar_c (O : Ord N) (sq : Option Addr) (sn sc : Nat) (k : Bs) (lab : ByteArray) (hlab : lab.size ≤ 65536) (q : Option Addr) (n c : Nat) (S : Nat → Nat) (w : World) (hn : n ≤ 1048576) (hk : SP.PartOk w (.slice sq sn sc) k.toList) (hsn : sn = k.size) (hN : NumsK w q n S) :
    Calls Try.prog 6 #[.slice sq sn sc, .string lab, .slice q n c] w (Ret fun e w' => Below w.heap.size w w' ∧ ∃ v, e = .tuple #[v, .int .i64 (kdE k n : Int)] ∧ PartS w' v (ksB N S k n lab.data.toList).toList) := by
  have hd := Derive_c sq sn sc k lab hlab q n c S w hn hk hsn hN
  clear hk hN hsn
  by_cases hin : k.size = 32 ∧ n ≤ 16
  · have hE : kdE k n = 0 := by unfold kdE; rw [if_pos hin.1, if_pos hin.2]
    have hB : ksB N S k n lab.data.toList = bx (kSc N (derH S k n lab.data.toList)) := by unfold ksB; rw [if_pos hin]
    rw [hE, hB]
    have hs32 := derH_size S k n lab.data.toList
    generalize derH S k n lab.data.toList = T at hd hs32 ⊢
    have HI := Hid.mk2 hin
    have HSc := Hid.mk2 (fun r w (h : Holds encB w r 0 T) => scalarOf_c O r T w hs32 h)
    have HSb := Hid.mk2 (sbytes_c O (kSc_lt O T))
    have hbs := bx_size (kSc N T)
    generalize kSc N T = x at HSc HSb hbs ⊢
    generalize bx x = B at HSb hbs ⊢
    obtain ⟨vx, hvx⟩ : ∃ vx, Hid (nv x = vx) := ⟨_, rfl⟩
    rw [hvx.out] at HSc HSb
    clear hE hB hin
    go_enter Try.func6, Try.ntmps6
    go_wp2_with fail
    refine hd.mono ?_
    rintro e w2 ⟨v2, rfl, hb2, h2⟩
    obtain ⟨r, rfl, hr, hH⟩ : ∃ r, v2 = .tuple #[.slice (some ⟨r, 0, none⟩) 32 32, .int .i64 0] ∧ w.heap.size ≤ r ∧ Holds encB w2 r 0 T := by
      rcases h2 with ⟨h2, -⟩ | ⟨-, h2⟩
      · exact absurd HI.out h2
      · exact h2
    have K2 : Hid (Below w.heap.size w w2 ∧ Holds encB w2 r 0 T) := ⟨hb2, hH⟩
    clear hb2 h2 hr hH hd
    go_wp2_with fail
    refine (HSc.out r w2 K2.out.2).mono ?_
    rintro e w3 ⟨v3, rfl, hb3, rfl⟩
    have K3 : Hid (Below w.heap.size w w3) := K2.out.1.trans (hb3.mono K2.out.1.size)
    have hsb := HSb.out w3
    clear hb3 K2
    go_wp2_with fail
    refine hsb.mono ?_
    rintro e w4 ⟨v4, rfl, k4, hm, rfl⟩
    have K4 : Hid (Below w.heap.size w w4 ∧ SP.PartOk w4 (.slice (some ⟨k4, 0, none⟩) 32 32) B.toList) := by
      refine ⟨K3.out.trans (hm.bel.mono K3.out.size), ⟨_, k4, 0, 32, B, by rw [hbs], rfl, by rw [hbs]; exact Nat.le_refl _, by rw [hbs]; decide, Or.inr ⟨rfl, fun j hj => ?_⟩⟩⟩
      have h1 := hm.range j (encB B[j]!) (by unfold cb; rw [List.getElem?_map, getElem!_pos B j hj, ← Array.getElem_toList hj, List.getElem?_eq_getElem (by rw [Array.length_toList]; exact hj)]; rfl)
      exact ⟨h1, (hm.there j (by rw [cb_length]; exact hj)).2⟩
    clear hm hsb K3
    go_wp2
    go_ret2
    exact ⟨.tuple #[.slice (some ⟨k4, 0, none⟩) 32 32, .int .i64 0], rfl, K4.out.1, .slice (some ⟨k4, 0, none⟩) 32 32, rfl, ⟨some ⟨k4, 0, none⟩, 32, 32, rfl⟩, K4.out.2⟩
  · have hB : ksB N S k n lab.data.toList = #[] := by unfold ksB; rw [if_neg hin]
    rw [hB]
    have he : ¬ (kdE k n : Int) = 0 := by
      unfold kdE
      by_cases h1 : k.size = 32
      · rw [if_pos h1, if_neg (fun h => hin ⟨h1, h⟩)]; decide
      · rw [if_neg h1]; decide
    have he0 : ((kdE k n : Int) == 0) = false := by simpa using he
    have HI := Hid.mk2 hin
    clear hB hin
    generalize kdE k n = ee at hd he he0 ⊢
    go_enter Try.func6, Try.ntmps6
    go_wp2_with fail
    refine hd.mono ?_
    rintro e w2 ⟨v2, rfl, hb2, h2⟩
    obtain rfl : v2 = .tuple #[.slice none 0 0, .int .i64 (ee : Int)] := by
      rcases h2 with ⟨-, h2⟩ | ⟨h2, -⟩
      · exact h2
      · exact absurd h2 HI.out
    have K2 : Hid (Below w.heap.size w w2) := hb2
    clear hb2 h2 hd
    go_wp2
    go_ret2
    exact ⟨_, rfl, K2.out, _, rfl, ⟨_, _, _, rfl⟩, part_nil2 w2⟩
end Go.Proofs.Ytifkmkllljfeaaa
namespace Go.Proofs.Ytifkmkllljfeaaa
open Go.RowKit Go.Sort Go.Deep
set_option maxHeartbeats 1000000 in
theorem rfour_c (n : Nat) (hn : n < 4294967296) (w : World) : Calls Try.prog 15 #[.int .u32 (n : Int)] w (Ret fun e w' => Below w.heap.size w w' ∧ e = .string ⟨num4 n⟩) := by
  have b00 : (n : Int) / 16777216 % 256 = SP.ub (SP.lenB n 16777216) := SP.lenB_int n 16777216
  have b0 : (n : Int) / 16777216 = SP.ub (SP.lenB n 16777216) := by omega
  clear b00
  have b1 : (n : Int) / 65536 % 256 = SP.ub (SP.lenB n 65536) := SP.lenB_int n 65536
  have b2 : (n : Int) / 256 % 256 = SP.ub (SP.lenB n 256) := SP.lenB_int n 256
  have b3 : (n : Int) % 256 = SP.ub (SP.lenB n 1) := SP.lenB_one n
  have h4 := SP.holds_four w (SP.lenB n 16777216) (SP.lenB n 65536) (SP.lenB n 256) (SP.lenB n 1)
  have hcv := SP.conv_str Try.prog 23 9 5 slice22 int5 str9 _ _ 0 4 4 _ h4 rfl
  have HN : Hid (num4 n = #[SP.lenB n 16777216, SP.lenB n 65536, SP.lenB n 256, SP.lenB n 1]) := rfl
  rw [HN.out]
  generalize SP.lenB n 16777216 = x0 at *
  generalize SP.lenB n 65536 = x1 at *
  generalize SP.lenB n 256 = x2 at *
  generalize SP.lenB n 1 = x3 at *
  have hb0 : Below w.heap.size w (w.alloc (.cells #[.int .u8 (SP.ub x0), .int .u8 (SP.ub x1), .int .u8 (SP.ub x2), .int .u8 (SP.ub x3)] 5)) := (Below.refl _ _).alloc (Nat.le_refl _) _
  clear h4 HN
  go_enter Try.func15, Try.ntmps15
  go_wp2
  go_ret
  exact ⟨_, rfl, hb0, rfl⟩
/-- The reference's Tag of two texts that lie in a new row. -/
theorem rtag2 (lab s t : ByteArray) (hlab : lab.size ≤ 16) (hs : s.size ≤ 65536) (ht : t.size ≤ 65536) (w : World) :
    Calls Try.prog 14 #[.string lab, .slice (some ⟨w.heap.size, 0, none⟩) 2 2] (w.alloc (.cells #[.string s, .string t] 9)) fun e w' => e = .returned (.string ⟨SP.tagL lab.data.toList [s.data.toList, t.data.toList]⟩) ∧ Below w.heap.size w w' := by
  have hM' := RG.Made.alloc w [.string s, .string t] 9
  have hl : s.data.toList.length = s.size := by rw [Array.length_toList]; rfl
  have hl2 : t.data.toList.length = t.size := by rw [Array.length_toList]; rfl
  have hl3 : lab.data.toList.length = lab.size := by rw [Array.length_toList]; rfl
  refine (SP.refTag_any lab (some ⟨w.heap.size, 0, none⟩) 2 [s, t] _ (by omega) (Nat.le_of_ble_eq_true rfl) (Or.inr ⟨_, _, rfl, fun j hj => ?_⟩) (fun j hj => ?_) ?_).mono ?_
  · have hj2 : j = 0 ∨ j = 1 := by simp at hj; omega
    rcases hj2 with rfl | rfl
    · exact hM'.range 0 _ rfl
    · exact hM'.range 1 _ rfl
  · have hj2 : j = 0 ∨ j = 1 := by simp at hj; omega
    rcases hj2 with rfl | rfl
    · show s.size ≤ _; omega
    · show t.size ≤ _; omega
  · show (SP.framesL lab.data.toList [s.data.toList, t.data.toList]).length ≤ _
    rw [framesT, hl, hl2, hl3]
    omega
  · rintro e w2 ⟨rfl, hb⟩
    exact ⟨rfl, hM'.bel.trans (hb.mono hM'.bel.size)⟩
theorem num4_le (n : Nat) : (num4 n).size ≤ 65536 := Nat.le_of_ble_eq_true rfl
theorem down_le (S : Nat → Nat) (k : Bs) (h : k.size ≤ 65536) : ∀ j, (downH S k j).size ≤ 65536
  | 0 => h
  | j + 1 => by rw [downH]; unfold childH; rw [SP.tagL_size]; decide
set_option maxHeartbeats 600000 in
theorem rDerive_c (s lab : ByteArray) (hlab : lab.size ≤ 65536) (q : Option Addr) (n c : Nat) (S : Nat → Nat) (w : World) (hn : n ≤ 1048576) (hN : NumsK w q n S) :
    Calls Try.prog 8 #[.string s, .string lab, .slice q n c] w (Ret fun e w' => Below w.heap.size w w' ∧ e = .tuple #[.string ⟨kdB S s.data n lab.data.toList⟩, .int .i64 (kdE s.data n : Int)]) := by
  by_cases h1 : s.data.size = 32
  · have g1 : (s.size : Int) = 32 := by show ((s.data.size : Nat) : Int) = 32; omega
    by_cases h2 : n ≤ 16
    · have g2 : ¬ (16 : Int) < (n : Int) := by omega
      have hE : kdE s.data n = 0 := by unfold kdE; rw [if_pos h1, if_pos h2]
      have hB : kdB S s.data n lab.data.toList = derH S s.data n lab.data.toList := by unfold kdB; rw [if_pos h1, if_pos h2]
      rw [hE, hB]
      have HN : Hid (NumsK w q n S ∧ s.data.size = 32) := ⟨hN, h1⟩
      clear hN hE hB h1
      go_enter Try.func8, Try.ntmps8
      go_wp2
      go_loopg [8, 9] n (fun g s8 s9 W => ∃ (i : Nat) (k : Bs), i + g = n ∧ s8 = .string ⟨k⟩ ∧ s9 = .int .i64 (i : Int) ∧ Hid (Below w.heap.size w W ∧ k = downH S s.data i))
      case atStart => exact ⟨0, s.data, by omega, rfl, rfl, Below.refl _ _, rfl⟩
      case round =>
        obtain ⟨i, k, him, rfl, rfl, HB⟩ := hrel
        have hk : k.size ≤ 65536 := by rw [HB.out.2]; exact down_le S s.data (by have := HN.out.2; omega) i
        by_cases hi : i < n
        · have hi' : (i : Int) < (n : Int) := by omega
          obtain ⟨gg, oo, rfl, hgg, hc⟩ := HN.out.1.2 (by omega)
          have hv : wr.cell? ⟨gg, oo + i, none⟩ = some (.int .u32 (S i : Int)) := by rw [HB.out.1.cell (p := ⟨gg, oo + i, none⟩) hgg]; exact hc i hi
          have hix : ∀ w : World, (Instr.indexAt 22 (.slice (some ⟨gg, oo, none⟩) n c) (.int .i64 (i : Int))).run Try.prog w = .ok (.pointer (some ⟨gg, oo + i, none⟩)) w := fun w => by
            have h1 : ¬ (i : Int) < 0 := by omega
            have h2 : (i : Int) < (n : Int) := by omega
            go_simp
          have hnu := rfour_c (S i) (HN.out.1.1 i hi) wr
          have HD : Hid (SP.tagL [99, 104, 105, 108, 100] [k.toList, (num4 (S i)).toList] = downH S s.data (i + 1)) := by show _ = _; rw [HB.out.2]; rfl
          have HT := Hid.mk2 (fun w => rtag2 ⟨#[99, 104, 105, 108, 100]⟩ ⟨k⟩ ⟨num4 (S i)⟩ (by decide) hk (num4_le _) w)
          clear hc hgg hk
          generalize S i = x at hv hnu HD HT
          go_wp2_with fail
          refine hnu.mono ?_
          rintro e w2 ⟨v2, rfl, hb2, rfl⟩
          have K2 : Hid (Below w.heap.size w w2) := HB.out.1.trans (hb2.mono HB.out.1.size)
          have hT := HT.out w2
          clear hb2 hnu HB HT
          generalize num4 x = y at hT HD ⊢
          go_wp2_with fail
          refine hT.mono ?_
          rintro e w3 ⟨rfl, hb3⟩
          have K3 : Hid (Below w.heap.size w w3) := K2.out.trans (hb3.mono K2.out.size)
          clear hb3 hT K2
          go_wp2
          go_roundg (gk - 1)
          case measure => omega
          case rel => exact ⟨i + 1, SP.tagL [99, 104, 105, 108, 100] [k.toList, y.toList], by omega, rfl, rfl, K3.out, HD.out⟩
        · have hi' : ¬ (i : Int) < (n : Int) := by omega
          obtain rfl : i = n := by omega
          have HT := Hid.mk2 (rtag2 ⟨#[107, 101, 121]⟩ ⟨k⟩ lab (by decide) hk hlab wr)
          have HR : Hid (SP.tagL [107, 101, 121] [k.toList, lab.data.toList] = derH S s.data i lab.data.toList) := by show _ = _; rw [HB.out.2]; rfl
          have K1 := Hid.mk2 HB.out.1
          clear hk HB
          go_wp2_with fail
          refine HT.out.mono ?_
          rintro e w3 ⟨rfl, hb3⟩
          have K3 : Hid (Below w.heap.size w w3) := K1.out.trans (hb3.mono K1.out.size)
          clear hb3 HT K1
          go_wp2
          go_ret2
          exact ⟨_, rfl, K3.out, by rw [← HR.out]; rfl⟩
    · have g2 : (16 : Int) < (n : Int) := by omega
      have hE : kdE s.data n = 1 := by unfold kdE; rw [if_pos h1, if_neg h2]
      have hB : kdB S s.data n lab.data.toList = #[] := by unfold kdB; rw [if_pos h1, if_neg h2]
      rw [hE, hB]
      clear hN h1
      go_enter Try.func8, Try.ntmps8
      go_wp2
      go_ret2
      exact ⟨_, rfl, Below.refl _ _, rfl⟩
  · have g1 : ¬ (s.size : Int) = 32 := by show ¬ ((s.data.size : Nat) : Int) = 32; omega
    have g0 : ((s.size : Int) == 32) = false := by simpa using g1
    have hE : kdE s.data n = 2 := by unfold kdE; rw [if_neg h1]
    have hB : kdB S s.data n lab.data.toList = #[] := by unfold kdB; rw [if_neg h1]
    rw [hE, hB]
    clear hN h1
    go_enter Try.func8, Try.ntmps8
    go_wp2
    go_ret2
    exact ⟨_, rfl, Below.refl _ _, rfl⟩
end Go.Proofs.Ytifkmkllljfeaaa
namespace Go.Proofs.Ytifkmkllljfeaaa
open Go.RowKit Go.Sort Go.Deep
theorem addK0 (g o j : Nat) : (⟨g, o, none⟩ : Addr).add j = ⟨g, o + j, none⟩ := by
  unfold Addr.add
  by_cases h0 : j = 0
  · subst h0; rw [if_pos rfl]; rfl
  · rw [if_neg h0]
theorem slice32 : Try.prog.underlying 22 = some (.slice 29) := by kernel_rfl
theorem info32 : (Try.prog.info? 29).map (fun i => (i.zero, i.size, i.bytes)) = some (some (.int .u32 0), 1, 4) := by kernel_rfl
/-- 'append([]uint32{}, path...)': a copy. -/
theorem app_u32 (q : Option Addr) (m c : Nat) (S : Nat → Nat) (w : World) (hm : m ≤ 1100) (hN : NumsK w q m S) :
    ∃ q' cap' w', (Builtin.append_ #[22, 22] 22 #[.slice (some ⟨w.heap.size, 0, none⟩) 0 0, .slice q m c]).run Try.prog (w.alloc (.cells #[] 29)) = .ok (.slice q' m cap') w' ∧ Below w.heap.size w w' ∧ NumsK w' q' m S := by
  obtain ⟨i, hi, hz, hsz, hby⟩ := info_parts info32
  have hb0 : Below w.heap.size w (w.alloc (.cells #[] 29)) := (Below.refl _ _).alloc (Nat.le_refl _) _
  by_cases h0 : m = 0
  · subst h0
    have hs : Src Try.prog i.size 22 (.slice q 0 c) 0 [] (w.alloc (.cells #[] 29)) := by
      cases q with
      | none => exact Src.ofNil (e' := 29) _ slice32 c
      | some a => exact Src.ofSlice (e' := 29) _ slice32 a 0 c [] (by simp) (fun j u hj => by simp at hj) (fun u hu => by cases hu)
    have hap := run_append_room_src (P := Try.prog) (w.alloc (.cells #[] 29)) 22 22 22 29 i slice32 hi w.heap.size 0 0 0 (.slice q 0 c) 0 [] hs (Nat.le_refl _) (fun j hj => by cases hj) (fun j hj => by cases hj)
    exact ⟨_, _, _, hap, hb0, fun j hj => absurd hj (by omega), fun h => absurd h (by omega)⟩
  · obtain ⟨gg, oo, rfl, hgg, hc⟩ := hN.2 (by omega)
    have hown : (w.alloc (.cells #[] 29)).ownsRow w.heap.size 29 1 (.slice (some ⟨w.heap.size, 0, none⟩) 0 0) 0 [] := ⟨rfl, .inr ⟨w.heap.size, 0, #[], rfl, Nat.le_refl _, Array.getElem?_push_size, Nat.le_refl _, Nat.zero_le _, rfl, rfl⟩⟩
    obtain ⟨v', w', hap, hO, hG, -⟩ := run_append_own (P := Try.prog) (w.alloc (.cells #[] 29)) w.heap.size 22 22 29 i (.int .u32 0) 1 4 slice32 hi hz hsz hby rfl (by decide) _ 0 [] hown ⟨gg, oo, none⟩ m c ((List.range m).map fun j => Value.int .u32 (S j : Int)) (by simp)
      (fun j u hj => by
        have hjm : j < m := by have := (List.getElem?_eq_some_iff.1 hj).1; simpa using this
        have hu : u = .int .u32 (S j : Int) := by rw [List.getElem?_map, List.getElem?_range hjm] at hj; simpa using hj.symm
        rw [hu, addK0, hb0.cell (p := ⟨gg, oo + j, none⟩) hgg]
        exact hc j hjm)
      (fun u hu => by obtain ⟨j, -, rfl⟩ := List.mem_map.1 hu; rfl) (by unfold maxLen; omega) (by omega) (by rw [World.size_alloc]; omega)
    rw [Nat.zero_add] at hO
    obtain ⟨-, ⟨-, h⟩ | ⟨g, cap, cur, rfl, h1, h2, h3, h4, h5, h6⟩⟩ := id hO
    · exact absurd h h0
    refine ⟨_, _, _, hap, ?_, hN.1, fun _ => ⟨g, 0, rfl, (hO.lt g rfl).2, fun j hj => ?_⟩⟩
    · exact ⟨hG.os, hG.tape, hG.output, by have := hG.size; rw [World.size_alloc] at this; omega, fun k hk => by
        rw [hG.block k (by rw [World.size_alloc]; omega) (by simp [Value.ownBlock]; omega)]
        exact hb0.block k hk⟩
    · have := hO.cells (g := g) rfl j (.int .u32 (S j : Int)) (by rw [List.nil_append, List.getElem?_map, List.getElem?_range hj]; rfl)
      rw [addK0] at this
      exact this
end Go.Proofs.Ytifkmkllljfeaaa
namespace Go.Proofs.Ytifkmkllljfeaaa
open Go.RowKit Go.Sort Go.Deep
theorem modS_of {w W : World} {k0 k1 k7 p0 p1 p2 p3 c0 c1 c2 c3 x0 x1 x2 x3 x4 x5 x6 x7 : Nat} (h : Kept w k0 [⟨k0, 0, p0, p1, p2, p3⟩, ⟨k0, 4, c0, c1, c2, c3⟩, ⟨k7, 0, x0, x1, x2, x3⟩, ⟨k7, 4, x4, x5, x6, x7⟩, ⟨k1, 0, 0, 0, 0, 0⟩] W) : W.cell? ⟨k0, 0, none⟩ = some (.int .u64 (p0 : Int)) ∧ W.cell? ⟨k0, 1, none⟩ = some (.int .u64 (p1 : Int)) ∧ W.cell? ⟨k0, 2, none⟩ = some (.int .u64 (p2 : Int)) ∧ W.cell? ⟨k0, 3, none⟩ = some (.int .u64 (p3 : Int)) ∧ W.cell? ⟨k0, 4, none⟩ = some (.int .u64 (c0 : Int)) ∧ W.cell? ⟨k0, 5, none⟩ = some (.int .u64 (c1 : Int)) ∧ W.cell? ⟨k0, 6, none⟩ = some (.int .u64 (c2 : Int)) ∧ W.cell? ⟨k0, 7, none⟩ = some (.int .u64 (c3 : Int)) ∧ W.cell? ⟨k7, 0, none⟩ = some (.int .u64 (x0 : Int)) ∧ W.cell? ⟨k7, 1, none⟩ = some (.int .u64 (x1 : Int)) ∧ W.cell? ⟨k7, 2, none⟩ = some (.int .u64 (x2 : Int)) ∧ W.cell? ⟨k7, 3, none⟩ = some (.int .u64 (x3 : Int)) ∧ W.cell? ⟨k7, 4, none⟩ = some (.int .u64 (x4 : Int)) ∧ W.cell? ⟨k7, 5, none⟩ = some (.int .u64 (x5 : Int)) ∧ W.cell? ⟨k7, 6, none⟩ = some (.int .u64 (x6 : Int)) ∧ W.cell? ⟨k7, 7, none⟩ = some (.int .u64 (x7 : Int)) ∧ Kept w k0 [⟨k0, 0, p0, p1, p2, p3⟩, ⟨k0, 4, c0, c1, c2, c3⟩, ⟨k7, 0, x0, x1, x2, x3⟩, ⟨k7, 4, x4, x5, x6, x7⟩, ⟨k1, 0, 0, 0, 0, 0⟩] W :=
  ⟨h.head.c0, h.head.c1, h.head.c2, h.head.c3, h.tail.head.c0, h.tail.head.c1, h.tail.head.c2, h.tail.head.c3, h.tail.tail.head.c0, h.tail.tail.head.c1, h.tail.tail.head.c2, h.tail.tail.head.c3, h.tail.tail.tail.head.c0, h.tail.tail.tail.head.c1, h.tail.tail.tail.head.c2, h.tail.tail.tail.head.c3, h⟩
theorem mod_bound {v : Value} {n B : Nat} (hF : Four v n) (hB : B < 256) : n * val 256 0 0 0 + (val B 0 0 0 + top * val 0 0 0 0) < top * top := by
  have h1 := hF.lt
  have e1 : val 256 0 0 0 = 256 := rfl
  have e2 : val B 0 0 0 = B := by unfold val; omega
  have e3 : val 0 0 0 0 = 0 := rfl
  have h2 : n * 256 ≤ (top - 1) * 256 := Nat.mul_le_mul_right _ (by omega)
  have h3 : (top - 1) * 256 + 256 ≤ top * top := by unfold top; decide
  rw [e1, e2, e3]
  omega
theorem mod_step (P : Nat) (s : ByteArray) (k : Nat) (hk : k < s.size) :
    (beV (s.data.extract 0 k).toList % P * val 256 0 0 0 + (val s[k].toNat 0 0 0 + top * val 0 0 0 0)) % P = beV (s.data.extract 0 (k + 1)).toList % P := by
  have e : (s.data.extract 0 (k + 1)).toList = (s.data.extract 0 k).toList ++ [s[k]] := by
    rw [Array.extract_succ_right (by omega) hk, Array.toList_push]
    rfl
  have e1 : val 256 0 0 0 = 256 := rfl
  have e2 : val s[k].toNat 0 0 0 = s[k].toNat := by unfold val; omega
  have e3 : val 0 0 0 0 = 0 := rfl
  rw [e, beV_append, e1, e2, e3, Nat.mul_zero, Nat.add_zero, Nat.add_mod, Nat.mul_mod, Nat.mod_mod, ← Nat.mul_mod, ← Nat.add_mod]
  simp [beV]
set_option maxHeartbeats 4000000 in
set_option maxRecDepth 100000 in
theorem rMod_any (p0 p1 p2 p3 c0 c1 c2 c3 P : Nat) (s : ByteArray) (hR : RefP p0 p1 p2 p3 c0 c1 c2 c3 P) (hs : s.size ≤ 1048576) (w : World) :
    Calls Try.prog 17 #[.agg #[.int .u64 (p0 : Int), .int .u64 (p1 : Int), .int .u64 (p2 : Int), .int .u64 (p3 : Int), .int .u64 (c0 : Int), .int .u64 (c1 : Int), .int .u64 (c2 : Int), .int .u64 (c3 : Int)], .string s] w (Ret fun e w' => Below w.heap.size w w' ∧ Four e (beV s.data.toList % P)) := by
  have HR : Hid (RefP p0 p1 p2 p3 c0 c1 c2 c3 P) := hR
  clear hR
  go_enter Try.func17, Try.ntmps17
  go_wp2
  have FR := ((At8.made w 46 p0 p1 p2 p3 c0 c1 c2 c3 rfl).alloc (.cells #[.int .u64 0, .int .u64 0, .int .u64 0, .int .u64 0] 44)).alloc (.cells #[.int .u64 0, .int .u64 0, .int .u64 0, .int .u64 0] 44)
  have RE := (At4.made (w.alloc (.cells #[.int .u64 (p0 : Int), .int .u64 (p1 : Int), .int .u64 (p2 : Int), .int .u64 (p3 : Int), .int .u64 (c0 : Int), .int .u64 (c1 : Int), .int .u64 (c2 : Int), .int .u64 (c3 : Int)] 46)) 44 0 0 0 0 (World.size_alloc _ _)).alloc (.cells #[.int .u64 0, .int .u64 0, .int .u64 0, .int .u64 0] 44)
  have NN := At4.made ((w.alloc (.cells #[.int .u64 (p0 : Int), .int .u64 (p1 : Int), .int .u64 (p2 : Int), .int .u64 (p3 : Int), .int .u64 (c0 : Int), .int .u64 (c1 : Int), .int .u64 (c2 : Int), .int .u64 (c3 : Int)] 46)).alloc (.cells #[.int .u64 0, .int .u64 0, .int .u64 0, .int .u64 0] 44)) 44 0 0 0 0 (k := w.heap.size + 1 + 1) (by simp)
  have KP := ((((Kept.mk1 (below3 w (.cells #[.int .u64 (p0 : Int), .int .u64 (p1 : Int), .int .u64 (p2 : Int), .int .u64 (p3 : Int), .int .u64 (c0 : Int), .int .u64 (c1 : Int), .int .u64 (c2 : Int), .int .u64 (c3 : Int)] 46) (.cells #[.int .u64 0, .int .u64 0, .int .u64 0, .int .u64 0] 44) (.cells #[.int .u64 0, .int .u64 0, .int .u64 0, .int .u64 0] 44)) (below3 w (.cells #[.int .u64 (p0 : Int), .int .u64 (p1 : Int), .int .u64 (p2 : Int), .int .u64 (p3 : Int), .int .u64 (c0 : Int), .int .u64 (c1 : Int), .int .u64 (c2 : Int), .int .u64 (c3 : Int)] 46) (.cells #[.int .u64 0, .int .u64 0, .int .u64 0, .int .u64 0] 44) (.cells #[.int .u64 0, .int .u64 0, .int .u64 0, .int .u64 0] 44)).size).cons RE.blk).cons NN.blk).cons (x := ⟨w.heap.size, 4, c0, c1, c2, c3⟩) ⟨FR.c4, FR.c5, FR.c6, FR.c7, FR.fz⟩).cons (x := ⟨w.heap.size, 0, p0, p1, p2, p3⟩) ⟨FR.c0, FR.c1, FR.c2, FR.c3, FR.fz⟩
  clear FR RE NN
  generalize World.alloc _ _ = W0 at KP ⊢
  go_loopg [6] s.size (fun gk s6 wr => ∃ (k a b c d : Nat), k + gk = s.size ∧ s6 = .int .i64 (k : Int) ∧ Kept w w.heap.size [⟨w.heap.size, 0, p0, p1, p2, p3⟩, ⟨w.heap.size, 4, c0, c1, c2, c3⟩, ⟨w.heap.size + 1 + 1, 0, a, b, c, d⟩, ⟨w.heap.size + 1, 0, 0, 0, 0, 0⟩] wr ∧
    Hid (Four (.agg #[.int .u64 (a : Int), .int .u64 (b : Int), .int .u64 (c : Int), .int .u64 (d : Int)]) (beV (s.data.extract 0 k).toList % P)))
  case atStart =>
    refine ⟨0, 0, 0, 0, 0, Nat.zero_add _, rfl, KP, ?_⟩
    have : beV (s.data.extract 0 0).toList = 0 := by simp [beV]
    rw [this, Nat.zero_mod]
    exact Four.mk (by decide) (by decide) (by decide) (by decide) rfl
  case round =>
    clear KP
    obtain ⟨k, a, b, c, d, hk, rfl, KP, HF⟩ := hrel
    generalize h2 : w.heap.size + 1 + 1 = k2 at KP ⊢
    generalize h1 : w.heap.size + 1 = k1 at KP ⊢
    have H : Hid (w.heap.size + 1 = k1 ∧ w.heap.size + 1 + 1 = k2) := ⟨h1, h2⟩
    have Q1 : Hid (w.heap.size ≤ k1) := by unfold Hid; omega
    have Q2 : Hid (w.heap.size ≤ k2) := by unfold Hid; omega
    have n12 : k2 ≠ k1 := by omega
    have n02 : k2 ≠ w.heap.size := by omega
    generalize h0 : w.heap.size = k0 at KP Q1 Q2 n02 ⊢
    have H0 : Hid (w.heap.size = k0) := h0
    clear h0 h1 h2
    obtain ⟨nc0, nc1, nc2, nc3, nf⟩ := KP.tail.tail.head.at4
    have z2 := KP.tail.tail.head.lt
    by_cases hlt : k < s.size
    · have hlt' : (k : Int) < (s.size : Int) := by omega
      go_wp2_with fail
      refine (rproduct_any _ _ _ _ HF.out (Four.mk (a := 256) (b := 0) (c := 0) (d := 0) (by decide) (by decide) (by decide) (by decide) rfl) _).mono ?_
      rintro r w1 ⟨v, rfl, hb1, hE1⟩
      obtain ⟨x0, x1, x2, x3, x4, x5, x6, x7, rfl, hx0, hx1, hx2, hx3, hx4, hx5, hx6, hx7, hxe⟩ := id hE1
      clear hxe nc0 nc1 nc2 nc3 nf z2
      replace KP := KP.call hb1
      clear hb1
      have A7 := At8.made w1 62 x0 x1 x2 x3 x4 x5 x6 x7 rfl
      have T2 := KP.tail.tail.head.at4.alloc (.cells #[.int .u64 (x0 : Int), .int .u64 (x1 : Int), .int .u64 (x2 : Int), .int .u64 (x3 : Int), .int .u64 (x4 : Int), .int .u64 (x5 : Int), .int .u64 (x6 : Int), .int .u64 (x7 : Int)] 62)
      have KP7 : Kept w k0 [⟨k0, 0, p0, p1, p2, p3⟩, ⟨k0, 4, c0, c1, c2, c3⟩, ⟨w1.heap.size, 0, x0, x1, x2, x3⟩, ⟨w1.heap.size, 4, x4, x5, x6, x7⟩, ⟨k1, 0, 0, 0, 0, 0⟩] _ :=
        ((((KP.alloc _).tail.tail.tail.cons (x := ⟨w1.heap.size, 4, x4, x5, x6, x7⟩) ⟨A7.c4, A7.c5, A7.c6, A7.c7, A7.fz⟩).cons (x := ⟨w1.heap.size, 0, x0, x1, x2, x3⟩) ⟨A7.c0, A7.c1, A7.c2, A7.c3, A7.fz⟩).cons (x := ⟨k0, 4, c0, c1, c2, c3⟩) (KP.alloc _).tail.head).cons (x := ⟨k0, 0, p0, p1, p2, p3⟩) (KP.alloc _).head
      have n72 : k2 ≠ w1.heap.size := Nat.ne_of_lt KP.tail.tail.head.lt
      clear A7 KP
      have KP := KP7
      clear KP7
      have z0 := KP.head.lt
      go_wp2_with fail
      generalize World.alloc _ _ = W7 at KP T2 ⊢
      generalize w1.heap.size = k7 at KP n72 ⊢
      have hl2 : ∀ x ∈ ([⟨k0, 0, p0, p1, p2, p3⟩, ⟨k0, 4, c0, c1, c2, c3⟩, ⟨k7, 0, x0, x1, x2, x3⟩, ⟨k7, 4, x4, x5, x6, x7⟩, ⟨k1, 0, 0, 0, 0, 0⟩] : List Blk), k2 ≠ x.k := by simp only [List.mem_cons, List.not_mem_nil, or_false]; rintro x (rfl | rfl | rfl | rfl | rfl); exact n02; exact n02; exact n72; exact n72; exact n12
      have HE1 : Hid (Eight _ _) := hE1
      obtain ⟨B, hB⟩ : ∃ B, s[k].toNat = B := ⟨_, rfl⟩
      have hB256 : B < 256 := hB ▸ s[k].toNat_lt
      have hsb : IntKind.u64.wrap (s[k].toNat : Int) = (B : Int) := by rw [hB]; exact wrapN _ (by omega)
      have HFX : Hid _ := mod_step P s k hlt
      have HB : Hid (s[k].toNat = B) := hB
      clear hE1 hB z0
      obtain ⟨tc0, tc1, tc2, tc3, tf⟩ := id T2
      have zt := T2.lt
      go_region_held3 (fun w' => w'.cell? ⟨k0, 0, none⟩ = some (.int .u64 (p0 : Int)) ∧ w'.cell? ⟨k0, 1, none⟩ = some (.int .u64 (p1 : Int)) ∧ w'.cell? ⟨k0, 2, none⟩ = some (.int .u64 (p2 : Int)) ∧ w'.cell? ⟨k0, 3, none⟩ = some (.int .u64 (p3 : Int)) ∧ w'.cell? ⟨k0, 4, none⟩ = some (.int .u64 (c0 : Int)) ∧ w'.cell? ⟨k0, 5, none⟩ = some (.int .u64 (c1 : Int)) ∧ w'.cell? ⟨k0, 6, none⟩ = some (.int .u64 (c2 : Int)) ∧ w'.cell? ⟨k0, 7, none⟩ = some (.int .u64 (c3 : Int)) ∧ w'.cell? ⟨k7, 0, none⟩ = some (.int .u64 (x0 : Int)) ∧ w'.cell? ⟨k7, 1, none⟩ = some (.int .u64 (x1 : Int)) ∧ w'.cell? ⟨k7, 2, none⟩ = some (.int .u64 (x2 : Int)) ∧ w'.cell? ⟨k7, 3, none⟩ = some (.int .u64 (x3 : Int)) ∧ w'.cell? ⟨k7, 4, none⟩ = some (.int .u64 (x4 : Int)) ∧ w'.cell? ⟨k7, 5, none⟩ = some (.int .u64 (x5 : Int)) ∧ w'.cell? ⟨k7, 6, none⟩ = some (.int .u64 (x6 : Int)) ∧ w'.cell? ⟨k7, 7, none⟩ = some (.int .u64 (x7 : Int)) ∧ Kept w k0 [⟨k0, 0, p0, p1, p2, p3⟩, ⟨k0, 4, c0, c1, c2, c3⟩, ⟨k7, 0, x0, x1, x2, x3⟩, ⟨k7, 4, x4, x5, x6, x7⟩, ⟨k1, 0, 0, 0, 0, 0⟩] w') (first | (with_reducible exact modS_of KP) | (with_reducible exact modS_of KP.drew) | (with_reducible exact modS_of (KP.set4' Q2.out hl2 _ _ _ _)) | (with_reducible exact modS_of (KP.set4' Q2.out hl2 _ _ _ _).drew) | fail) (first | (go_at_call 31; refine (rplus_any _ _ _ _ HE1.out ⟨B, 0, 0, 0, 0, 0, 0, 0, rfl, by omega, by decide, by decide, by decide, by decide, by decide, by decide, by decide, rfl⟩ (mod_bound HF.out hB256) _).mono ?_; rintro r w2 ⟨v, rfl, hb2, hE2⟩; obtain ⟨y0, y1, y2, y3, y4, y5, y6, y7, rfl, hy0, hy1, hy2, hy3, hy4, hy5, hy6, hy7, hye⟩ := id hE2; clear hye; have HE2 : Hid (Eight _ _) := hE2; clear hE2; have KP1 := KP.drew.call hb2; have T1 := T2.drew.call hb2; clear KP T2 hb2; have KP := KP1; have T2 := T1; clear KP1 T1; obtain ⟨tc0, tc1, tc2, tc3, tf⟩ := id T2; have zt := T2.lt) | (go_at_call 30; refine (rLess_any p0 p1 p2 p3 c0 c1 c2 c3 P _ _ HR.out.hp0 HR.out.hp1 HR.out.hp2 HR.out.hp3 HR.out.hc0 HR.out.hc1 HR.out.hc2 HR.out.hc3 HR.out.eP HR.out.hP HR.out.hP2 HE2.out _).mono ?_; rintro r w3 ⟨v, rfl, hb3, hF3⟩; obtain ⟨a', b', c', d', rfl, ha', hb', hc', hd', es3⟩ := id hF3; clear es3; have HF3 : Hid (Four _ _) := hF3; clear hF3; have KP1 := KP.call hb3; have T1 := T2.call hb3; clear KP T2 hb3; have KP := KP1; have T2 := T1; clear KP1 T1; obtain ⟨tc0, tc1, tc2, tc3, tf⟩ := id T2; have zt := T2.lt))
      go_wp2
      obtain ⟨q1, q2⟩ := H.out
      have q0 := H0.out
      subst q1 q2 q0
      go_roundg (gk - 1)
      case measure => omega
      case rel =>
        refine ⟨k + 1, a', b', c', d', by omega, rfl, ?_, ?_⟩
        · have K3 := KP.set4' Q2.out hl2 (.int .u64 (a' : Int)) (.int .u64 (b' : Int)) (.int .u64 (c' : Int)) (.int .u64 (d' : Int))
          exact (((K3.tail.tail.tail.tail).cons (T2.self4 a' b' c' d').blk).cons K3.tail.head).cons K3.head
        · have h1 := HF3.out
          rw [HB.out] at HFX
          unfold Hid
          rw [← HFX.out]
          exact h1
    · have hk2 : k = s.size := by omega
      have hge : ¬ ((k : Int) < (s.size : Int)) := by omega
      obtain ⟨rc0, rc1, rc2, rc3, rf⟩ := KP.tail.tail.tail.head.at4
      have z1 := KP.tail.tail.tail.head.lt
      have HK : Hid (k = s.size) := hk2
      clear hk2
      go_wp2
      have RF := KP.tail.tail.tail.head.at4.self4 a b c d
      unfold set4 at RF
      refine bodyPost_ret (v := ?v) ?hr rfl ?hR
      case hr => simp [results, Try.results17, go_sem, RF.c0, RF.c1, RF.c2, RF.c3]; rfl
      refine ⟨_, rfl, ?_, ?_⟩
      · rw [H0.out]
        exact below_set4 KP.bl Q1.out _ _ _ _
      · have := HF.out
        rw [HK.out, show s.size = s.data.size from rfl, Array.extract_size] at this
        exact this
end Go.Proofs.Ytifkmkllljfeaaa
namespace Go.Proofs.Ytifkmkllljfeaaa
open Go.RowKit Go.Sort Go.Deep
variable {N : Nat}
theorem i33k : (Try.prog.info? 44).map (·.size) = some 4 := by kernel_rfl
theorem u33k : (Try.prog.underlying 44).map (·.isRow) = some true := by kernel_rfl
theorem i64k : (Try.prog.info? 35).map (·.size) = some 1 := by kernel_rfl
theorem kMod_c (O : Ord N) (s : Bs) (hs : s.size ≤ 1048576) : Gives 17 #[rv1, .string ⟨s⟩] (nv (redu N s)) := fun w =>
  (rMod_any _ _ _ _ _ _ _ _ N ⟨s⟩ O.ref hs w).mono (by rintro e w' ⟨v, rfl, hb, hF⟩; exact ⟨_, rfl, hb, hF.nv⟩)
theorem kZero_c (O : Ord N) {m : Nat} (hm : m < N) : Gives 19 #[nv m] (.bool (decide (m = 0))) := fun w => rZero_any (nv m) m (O.four hm) w
def FKs_0 : List RG.It := [.x 6 [] (.string ⟨#[]⟩), .x 7 [] (.int .i64 0)]
def FKs_1 (s lab : ByteArray) (v : Value) (T : Bs) (e : Int) : List RG.It := [.x 13 [] (.string s), .x 14 [] (.string lab), .x 15 [] v, .c 16 [(13, 0), (14, 1), (15, 2)] (.tuple #[.string ⟨T⟩, .int .i64 e]), .x 12 [(16, 3)] (.tuple #[.string ⟨T⟩, .int .i64 e]), .x 17 [(12, 4)] (.string ⟨T⟩), .x 18 [(12, 4)] (.int .i64 e), .x 8 [(17, 5)] (.string ⟨T⟩), .x 9 [(18, 6)] (.int .i64 e)]
def FKs_4 (T S : Bs) (n : Nat) : List RG.It := [.c 22 [] rv1, .x 23 [] (.string ⟨T⟩), .c 24 [(23, 1)] (.string ⟨S⟩), .c 25 [(22, 0), (24, 2)] (nv n), .m 10 [] 0, .u [(10, 4), (25, 3)] 0]
set_option maxHeartbeats 2000000 in
set_option maxRecDepth 100000 in
theorem rScalar_n1 (s lab : ByteArray) (v : Value) (w : World)
    (hD : ∀ w', RG.BelX w.heap.size [] w w' → Calls Try.prog 8 #[.string s, .string lab, v] w' (Ret fun e w'' => Below w'.heap.size w' w'' ∧ e = .tuple #[.string ⟨#[]⟩, .int .i64 1])) :
    Calls Try.prog 9 #[.string s, .string lab, v] w (Ret fun e w' => Below w.heap.size w w' ∧ e = .tuple #[.string ⟨#[]⟩, .int .i64 1]) := by
  go_enter Try.func9, Try.ntmps9
  refine RG.M.enter [(0, .v (.string s)), (1, .v (.string lab)), (2, .v v)] 32 (by kernel_rfl) ?_
  intro a0 M0
  repeat refine wp_seq ?_
  refine M0.u FKs_0 [(0, .v (.string s)), (1, .v (.string lab)), (2, .v v)] ⟨RG.st, RG.st, trivial⟩ ?_
  intro a1 w1 M1
  repeat refine wp_seq ?_
  refine M1.u (FKs_1 s lab v #[] 1) [(9, .v (.int .i64 1))] ⟨RG.st, RG.st, RG.st, RG.clB (fun _ _ => by kernel_rfl) hD, RG.st, RG.st, RG.st, RG.st, RG.st, trivial⟩ ?_
  intro a2 w2 M2
  repeat refine wp_seq ?_
  refine M2.u [.x 19 [] (.int .i64 1), .x 20 [(19, 0)] (.bool true)] [(9, .v (.int .i64 1)), (20, .v (.bool true))] ⟨RG.st, RG.st, trivial⟩ ?_
  intro a3 w3 M3
  repeat refine wp_seq ?_
  refine wp_cond_true (M3.ev (v := .bool true) (by kernel_rfl)) ?_
  repeat refine wp_seq ?_
  refine M3.u [.x 21 [] (.int .i64 1), .x 6 [] (.string ⟨#[]⟩), .x 7 [(21, 0)] (.int .i64 1)] [(6, .v (.string ⟨#[]⟩)), (7, .v (.int .i64 1))] ⟨RG.st, RG.st, RG.st, trivial⟩ ?_
  intro a4 w4 M4
  refine wp_ret ?_
  refine bodyPost_ret (v := .tuple #[.string ⟨#[]⟩, .int .i64 1]) (RG.results_tt 6 7 rfl _ _ M4.av M4.av) M4.sl.defers ?_
  exact ⟨_, rfl, M4.st.bel.below, rfl⟩
set_option maxHeartbeats 2000000 in
set_option maxRecDepth 100000 in
theorem rScalar_n2 (s lab : ByteArray) (v : Value) (w : World)
    (hD : ∀ w', RG.BelX w.heap.size [] w w' → Calls Try.prog 8 #[.string s, .string lab, v] w' (Ret fun e w'' => Below w'.heap.size w' w'' ∧ e = .tuple #[.string ⟨#[]⟩, .int .i64 2])) :
    Calls Try.prog 9 #[.string s, .string lab, v] w (Ret fun e w' => Below w.heap.size w w' ∧ e = .tuple #[.string ⟨#[]⟩, .int .i64 2]) := by
  go_enter Try.func9, Try.ntmps9
  refine RG.M.enter [(0, .v (.string s)), (1, .v (.string lab)), (2, .v v)] 32 (by kernel_rfl) ?_
  intro a0 M0
  repeat refine wp_seq ?_
  refine M0.u FKs_0 [(0, .v (.string s)), (1, .v (.string lab)), (2, .v v)] ⟨RG.st, RG.st, trivial⟩ ?_
  intro a1 w1 M1
  repeat refine wp_seq ?_
  refine M1.u (FKs_1 s lab v #[] 2) [(9, .v (.int .i64 2))] ⟨RG.st, RG.st, RG.st, RG.clB (fun _ _ => by kernel_rfl) hD, RG.st, RG.st, RG.st, RG.st, RG.st, trivial⟩ ?_
  intro a2 w2 M2
  repeat refine wp_seq ?_
  refine M2.u [.x 19 [] (.int .i64 2), .x 20 [(19, 0)] (.bool true)] [(9, .v (.int .i64 2)), (20, .v (.bool true))] ⟨RG.st, RG.st, trivial⟩ ?_
  intro a3 w3 M3
  repeat refine wp_seq ?_
  refine wp_cond_true (M3.ev (v := .bool true) (by kernel_rfl)) ?_
  repeat refine wp_seq ?_
  refine M3.u [.x 21 [] (.int .i64 2), .x 6 [] (.string ⟨#[]⟩), .x 7 [(21, 0)] (.int .i64 2)] [(6, .v (.string ⟨#[]⟩)), (7, .v (.int .i64 2))] ⟨RG.st, RG.st, RG.st, trivial⟩ ?_
  intro a4 w4 M4
  refine wp_ret ?_
  refine bodyPost_ret (v := .tuple #[.string ⟨#[]⟩, .int .i64 2]) (RG.results_tt 6 7 rfl _ _ M4.av M4.av) M4.sl.defers ?_
  exact ⟨_, rfl, M4.st.bel.below, rfl⟩
set_option maxHeartbeats 2000000 in
set_option maxRecDepth 100000 in
theorem rScalar_y (O : Ord N) (s lab : ByteArray) (v : Value) (T : Bs) (hTs : T.size = 32) (w : World)
    (hD : ∀ w', RG.BelX w.heap.size [] w w' → Calls Try.prog 8 #[.string s, .string lab, v] w' (Ret fun e w'' => Below w'.heap.size w' w'' ∧ e = .tuple #[.string ⟨T⟩, .int .i64 0])) :
    Calls Try.prog 9 #[.string s, .string lab, v] w (Ret fun e w' => Below w.heap.size w w' ∧ e = .tuple #[.string ⟨bx (kSc N T)⟩, .int .i64 0]) := by
  have hS0 : Gives 18 #[.string ⟨T⟩, .int .i64 64] (.string ⟨SP.strmL T.toList 64⟩) := fun w' => by
    refine (SP.refStream_any ⟨T⟩ 64 w' (by show T.size ≤ _; omega) (by decide)).mono ?_
    rintro e w'' ⟨rfl, hb⟩
    exact ⟨_, rfl, hb, rfl⟩
  have hM := kMod_c O (SP.strmL T.toList 64) (by rw [SP.strm_size]; decide)
  have hlt := redu_lt O (SP.strmL T.toList 64)
  have hZ := kZero_c O hlt
  have hB := qBytes_c O (orOne_lt O hlt)
  unfold kSc
  generalize SP.strmL T.toList 64 = S at hS0 hM hlt hZ hB ⊢
  generalize redu N S = n at hM hlt hZ hB ⊢
  obtain ⟨d, hd⟩ : ∃ d, Hid (decide (n = 0) = d) := ⟨_, rfl⟩
  rw [hd.out] at hZ
  go_enter Try.func9, Try.ntmps9
  refine RG.M.enter [(0, .v (.string s)), (1, .v (.string lab)), (2, .v v)] 32 (by kernel_rfl) ?_
  intro a0 M0
  repeat refine wp_seq ?_
  refine M0.u FKs_0 [(0, .v (.string s)), (1, .v (.string lab)), (2, .v v)] ⟨RG.st, RG.st, trivial⟩ ?_
  intro a1 w1 M1
  repeat refine wp_seq ?_
  refine M1.u (FKs_1 s lab v T 0) [(8, .v (.string ⟨T⟩)), (9, .v (.int .i64 0))] ⟨RG.st, RG.st, RG.st, RG.clB (fun _ _ => by kernel_rfl) hD, RG.st, RG.st, RG.st, RG.st, RG.st, trivial⟩ ?_
  intro a2 w2 M2
  repeat refine wp_seq ?_
  refine M2.u [.x 19 [] (.int .i64 0), .x 20 [(19, 0)] (.bool false)] [(8, .v (.string ⟨T⟩)), (20, .v (.bool false))] ⟨RG.st, RG.st, trivial⟩ ?_
  intro a3 w3 M3
  repeat refine wp_seq ?_
  refine wp_cond_false (M3.ev (v := .bool false) (by kernel_rfl)) ?_
  refine wp_skip ?_
  repeat refine wp_seq ?_
  refine M3.t (FKs_4 T S n) [(4, RG.z 4)] [(0, 5, wn n)] [wn n] [(10, .p 0 0)] ⟨RG.cl Q3_c, RG.st, RG.cl hS0, RG.cl hM, RG.mk 0 44, RG.pt i33k, trivial⟩ ?_
  intro j4 a4 w4 M4
  repeat refine wp_seq ?_
  refine M4.u [.x 26 [] (nv n), .c 27 [(26, 0)] (.bool d), .x 11 [(27, 1)] (.bool d)] [(10, .p 0 0), (11, .v (.bool d))] ⟨RG.ld u33k i33k, RG.cl hZ, RG.st, trivial⟩ ?_
  intro a5 w5 M5
  repeat refine wp_seq ?_
  refine M5.u [.x 28 [] (.bool d)] [(10, .p 0 0), (28, .v (.bool d))] ⟨RG.st, trivial⟩ ?_
  intro a6 w6 M6
  repeat refine wp_seq ?_
  cases d with
  | true =>
    obtain rfl : n = 0 := of_decide_eq_true hd.out
    refine wp_cond_true (M6.ev (v := .bool true) (by kernel_rfl)) ?_
    repeat refine wp_seq ?_
    refine M6.t [.s 29 [] (.p 0 0), .u [(29, 0)] 0] [] [(0, 1, wn 1)] [wn 1] [(10, .p 0 0)] ⟨RG.st, RG.cert_put1 0 0 rfl _ rfl 35 (.tmp 29) (.const (.int .u64 1)) (.int .u64 1) rfl rfl RG.sx (fun _ _ _ => rfl) (Nat.le_of_ble_eq_true rfl) rfl i64k rfl rfl, trivial⟩ ?_
    intro a7 w7 M7
    repeat refine wp_seq ?_
    refine M7.u [.x 30 [] (nv 1), .c 31 [(30, 0)] (.string ⟨bx (orOne 0)⟩), .x 6 [(31, 1)] (.string ⟨bx (orOne 0)⟩), .x 7 [] (.int .i64 0)] [(6, .v (.string ⟨bx (orOne 0)⟩)), (7, .v (.int .i64 0))] ⟨RG.ld u33k i33k, RG.cl hB, RG.st, RG.st, trivial⟩ ?_
    intro a8 w8 M8
    refine wp_ret ?_
    refine bodyPost_ret (v := .tuple #[.string ⟨bx (orOne 0)⟩, .int .i64 0]) (RG.results_tt 6 7 rfl _ _ M8.av M8.av) M8.sl.defers ?_
    exact ⟨_, rfl, M8.st.bel.below, rfl⟩
  | false =>
    have h0 : ¬ n = 0 := of_decide_eq_false hd.out
    have hr : orOne n = n := by unfold orOne; rw [if_neg h0]
    rw [hr] at hB ⊢
    refine wp_cond_false (M6.ev (v := .bool false) (by kernel_rfl)) ?_
    refine wp_skip ?_
    repeat refine wp_seq ?_
    refine M6.u [.x 30 [] (nv n), .c 31 [(30, 0)] (.string ⟨bx n⟩), .x 6 [(31, 1)] (.string ⟨bx n⟩), .x 7 [] (.int .i64 0)] [(6, .v (.string ⟨bx n⟩)), (7, .v (.int .i64 0))] ⟨RG.ld u33k i33k, RG.cl hB, RG.st, RG.st, trivial⟩ ?_
    intro a8 w8 M8
    refine wp_ret ?_
    refine bodyPost_ret (v := .tuple #[.string ⟨bx n⟩, .int .i64 0]) (RG.results_tt 6 7 rfl _ _ M8.av M8.av) M8.sl.defers ?_
    exact ⟨_, rfl, M8.st.bel.below, rfl⟩
theorem rScalar_c (O : Ord N) (s lab : ByteArray) (hlab : lab.size ≤ 65536) (q : Option Addr) (n c : Nat) (S : Nat → Nat) (w : World) (hn : n ≤ 1048576) (hN : NumsK w q n S) :
    Calls Try.prog 9 #[.string s, .string lab, .slice q n c] w (Ret fun e w' => Below w.heap.size w w' ∧ e = .tuple #[.string ⟨ksB N S s.data n lab.data.toList⟩, .int .i64 (kdE s.data n : Int)]) := by
  have hD : ∀ w', RG.BelX w.heap.size [] w w' → Calls Try.prog 8 #[.string s, .string lab, .slice q n c] w' (Ret fun e w'' => Below w'.heap.size w' w'' ∧ e = .tuple #[.string ⟨kdB S s.data n lab.data.toList⟩, .int .i64 (kdE s.data n : Int)]) := fun w' hb => rDerive_c s lab hlab q n c S w' hn (hN.below hb.below)
  by_cases hin : s.data.size = 32 ∧ n ≤ 16
  · have h1 : kdB S s.data n lab.data.toList = derH S s.data n lab.data.toList := by unfold kdB; rw [if_pos hin.1, if_pos hin.2]
    have h2 : kdE s.data n = 0 := by unfold kdE; rw [if_pos hin.1, if_pos hin.2]
    have h3 : ksB N S s.data n lab.data.toList = bx (kSc N (derH S s.data n lab.data.toList)) := by unfold ksB; rw [if_pos hin]
    rw [h2, h3]
    rw [h1, h2] at hD
    exact rScalar_y O s lab _ _ (derH_size _ _ _ _) w hD
  · have h1 : kdB S s.data n lab.data.toList = #[] := by
      unfold kdB
      by_cases h : s.data.size = 32
      · rw [if_pos h, if_neg (fun g => hin ⟨h, g⟩)]
      · rw [if_neg h]
    have h2 : (kdE s.data n : Int) = 1 ∨ (kdE s.data n : Int) = 2 := by
      unfold kdE
      by_cases h : s.data.size = 32
      · rw [if_pos h, if_neg (fun g => hin ⟨h, g⟩)]; exact Or.inl rfl
      · rw [if_neg h]; exact Or.inr rfl
    have h3 : ksB N S s.data n lab.data.toList = #[] := by unfold ksB; rw [if_neg hin]
    rw [h3]
    rw [h1] at hD
    rcases h2 with h2 | h2
    · rw [h2] at hD ⊢; exact rScalar_n1 s lab _ w hD
    · rw [h2] at hD ⊢; exact rScalar_n2 s lab _ w hD
end Go.Proofs.Ytifkmkllljfeaaa
namespace Go.Proofs.Ytifkmkllljfeaaa
open Go.RowKit Go.Sort Go.Deep
variable {N : Nat}
theorem slLentK (k n : Nat) (hn : n ≤ 100000) (w : World) : (Instr.sliceAt 23 (.slice (some ⟨k, 0, none⟩) (n + 160) (n + 160)) none (some (.int .i64 (n : Int))) none).run Try.prog w = .ok (.slice (some ⟨k, 0, none⟩) n (n + 160)) w := by
  have h1 : ¬ (n : Int) < 0 := by omega
  have h2 : (n : Int) ≤ (n : Int) + 160 := by omega
  go_simp
theorem lent_partK {W : World} {k : Nat} {s : ByteArray} (h : Holds encB W k 0 (SP.lent s)) (hs : s.size ≤ 16384) : SP.PartOk W (.slice (some ⟨k, 0, none⟩) s.size (s.size + 160)) s.data.toList :=
  ⟨_, k, 0, s.size + 160, s.data, rfl, rfl, by show s.size ≤ _; omega, by show s.size ≤ _; omega, Or.inr ⟨rfl, SP.holds_text s h⟩⟩
/-- What is kept while the law goes on. -/
structure Dw (w0 W : World) (s : ByteArray) (q : Option Addr) (n : Nat) (S : Nat → Nat) (q' : Option Addr) : Prop where
  bl : Below w0.heap.size w0 W
  l0 : Holds encB W w0.heap.size 0 (SP.lent s)
  n0 : NumsK W q n S
  n1 : NumsK W q' n S
theorem Dw.grow {w0 W W' : World} {s : ByteArray} {q q' : Option Addr} {n : Nat} {S : Nat → Nat} (h : Dw w0 W s q n S q') (hb : Below W.heap.size W W') : Dw w0 W' s q n S q' :=
  ⟨h.bl.trans (hb.mono h.bl.size), Holds.below h.l0 hb (Holds.lt h.l0 (by rw [SP.lent_size]; omega)), h.n0.below hb, h.n1.below hb⟩
set_option maxHeartbeats 2000000 in
theorem deriveL_core (O : Ord N) (seed lab : ByteArray) (q : Option Addr) (n c : Nat) (S : Nat → Nat) (w0 : World) (hs : seed.size ≤ 4096) (hl : lab.size ≤ 4096) (hn : n ≤ 64) (hN : NumsK w0 q n S) :
    Calls Try.prog 3 #[.string seed, .string lab, .slice q n c] w0 fun e w' => e = .returned (.bool true) ∧ Below w0.heap.size w0 w' := by
  have a1 : ¬ (4096 : Int) < (seed.size : Int) := by omega
  have a2 : ¬ (4096 : Int) < (lab.size : Int) := by omega
  have a3 : ¬ (64 : Int) < (n : Int) := by omega
  have HN := Hid.mk2 hN
  have hL := SP.Lent_any seed w0 (by omega)
  clear hN
  go_enter Try.func3, Try.ntmps3
  go_wp2_with fail
  refine hL.mono ?_
  rintro e w1 ⟨rfl, hb1, hH1⟩
  obtain ⟨q', cap', w2, hap, hb2, hN2⟩ := app_u32 q n c S w1 (by omega) (HN.out.below hb1)
  have K2 : Hid (Dw w0 w2 seed q n S q') := ⟨hb1.trans (hb2.mono hb1.size), Holds.below hH1 hb2 (Holds.lt hH1 (by rw [SP.lent_size]; omega)), (HN.out.below hb1).below hb2, hN2⟩
  have hsl := slLentK w0.heap.size seed.size (by omega)
  have HAP := Hid.mk2 hap
  clear hL hb1 hH1 hb2 hN2 HN hap
  go_wp2_with (at_builtin; refine Lib.wpList_append_run _ rfl _ _ _ _ rfl _ _ rfl rfl _ _ HAP.out ?_)
  have hD := Derive_c (some ⟨w0.heap.size, 0, none⟩) seed.size (seed.size + 160) seed.data lab (by omega) q' n cap' S w2 (by omega) (lent_partK K2.out.l0 (by omega)) rfl K2.out.n1
  refine hD.mono ?_
  rintro e w3 ⟨v3, rfl, hb3, hv3⟩
  have hv3' : ∃ v, v3 = .tuple #[v, .int .i64 (kdE seed.data n : Int)] ∧ PartS w3 v (kdB S seed.data n lab.data.toList).toList := by
    rcases hv3 with ⟨hin, rfl⟩ | ⟨hin, r, rfl, hr, hH⟩
    · refine ⟨_, rfl, ⟨_, _, _, rfl⟩, ?_⟩
      have : kdB S seed.data n lab.data.toList = #[] := by
        unfold kdB
        by_cases h : seed.data.size = 32
        · rw [if_pos h, if_neg (fun g => hin ⟨h, g⟩)]
        · rw [if_neg h]
      rw [this]
      exact part_nil2 _
    · have h1 : kdB S seed.data n lab.data.toList = derH S seed.data n lab.data.toList := by unfold kdB; rw [if_pos hin.1, if_pos hin.2]
      have h2 : kdE seed.data n = 0 := by unfold kdE; rw [if_pos hin.1, if_pos hin.2]
      rw [h1, h2]
      unfold derH keyH at hH ⊢
      exact ⟨.slice (some ⟨r, 0, none⟩) 32 32, rfl, ⟨_, _, _, rfl⟩, part_tag hH⟩
  obtain ⟨va, rfl, ⟨qa, na, ca, rfl⟩, hA⟩ := hv3'
  have K3 : Hid (Dw w0 w3 seed q n S q' ∧ SP.PartOk w3 (.slice qa na ca) (kdB S seed.data n lab.data.toList).toList) := ⟨K2.out.grow hb3, hA⟩
  clear hv3 hb3 hA K2 hD HAP
  have hS := KScalar_c O (some ⟨w0.heap.size, 0, none⟩) seed.size (seed.size + 160) seed.data lab (by omega) q' n cap' S w3 (by omega) (lent_partK K3.out.1.l0 (by omega)) rfl K3.out.1.n1
  go_wp2_with fail
  refine hS.mono ?_
  rintro e w4 ⟨v4, rfl, hb4, vb, rfl, ⟨⟨qb, nb, cb, rfl⟩, hB⟩⟩
  have K4 : Hid (Dw w0 w4 seed q n S q' ∧ SP.PartOk w4 (.slice qa na ca) (kdB S seed.data n lab.data.toList).toList ∧ SP.PartOk w4 (.slice qb nb cb) (ksB N S seed.data n lab.data.toList).toList) := ⟨K3.out.1.grow hb4, K3.out.2.below hb4, hB⟩
  clear hb4 hB K3 hS hsl
  have hSt := SP.Still_any w0.heap.size (SP.lent seed) seed w4 (by omega) K4.out.1.l0 rfl
  go_wp2_with fail
  refine hSt.mono ?_
  rintro e w5 ⟨rfl, hb5⟩
  have K5 : Hid (Dw w0 w5 seed q n S q' ∧ SP.PartOk w5 (.slice qa na ca) (kdB S seed.data n lab.data.toList).toList ∧ SP.PartOk w5 (.slice qb nb cb) (ksB N S seed.data n lab.data.toList).toList) := ⟨K4.out.1.grow hb5, K4.out.2.1.below hb5, K4.out.2.2.below hb5⟩
  clear hb5 K4 hSt
  have HC := Hid.mk2 (rDerive_c seed lab (by omega) q n c S)
  have HQ := Hid.mk2 (rScalar_c O seed lab (by omega) q n c S)
  generalize kdB S seed.data n lab.data.toList = TA at K5 HC
  generalize ksB N S seed.data n lab.data.toList = TB at K5 HQ
  generalize kdE seed.data n = ee at HC HQ ⊢
  have hn' : n ≤ 1048576 := by omega
  go_wp2
  go_loopg [13, 14] n (fun g s13 s14 W => ∃ i : Nat, i + g = n ∧ s13 = .bool true ∧ s14 = .int .i64 (i : Int) ∧ Hid (Dw w0 W seed q n S q' ∧ SP.PartOk W (.slice qa na ca) TA.toList ∧ SP.PartOk W (.slice qb nb cb) TB.toList))
  case atStart => exact ⟨0, by omega, rfl, rfl, K5⟩
  case round =>
    clear K5
    obtain ⟨i, hin, rfl, rfl, KM⟩ := hrel
    by_cases hi : i < n
    · have hi' : (i : Int) < (n : Int) := by omega
      obtain ⟨g0, o0, rfl, hg0, hc0⟩ := KM.out.1.n0.2 (by omega)
      obtain ⟨g1, o1, rfl, hg1, hc1⟩ := KM.out.1.n1.2 (by omega)
      have e0 := hc0 i hi
      have e1 := hc1 i hi
      have hx0 : ∀ w : World, (Instr.indexAt 22 (.slice (some ⟨g0, o0, none⟩) n c) (.int .i64 (i : Int))).run Try.prog w = .ok (.pointer (some ⟨g0, o0 + i, none⟩)) w := fun w => by
        have h1 : ¬ (i : Int) < 0 := by omega
        have h2 : (i : Int) < (n : Int) := by omega
        go_simp
      have hx1 : ∀ w : World, (Instr.indexAt 22 (.slice (some ⟨g1, o1, none⟩) n cap') (.int .i64 (i : Int))).run Try.prog w = .ok (.pointer (some ⟨g1, o1 + i, none⟩)) w := fun w => by
        have h1 : ¬ (i : Int) < 0 := by omega
        have h2 : (i : Int) < (n : Int) := by omega
        go_simp
      have KN : Hid (∀ q : Nat, Dw w0 (wr.drewN q) seed (some ⟨g0, o0, none⟩) n S (some ⟨g1, o1, none⟩) ∧ SP.PartOk (wr.drewN q) (.slice qa na ca) TA.toList ∧ SP.PartOk (wr.drewN q) (.slice qb nb cb) TB.toList) := fun q => by
        have hb : Below wr.heap.size wr (wr.drewN q) := ⟨rfl, rfl, rfl, Nat.le_refl _, fun _ _ => rfl⟩
        exact ⟨KM.out.1.grow hb, KM.out.2.1.below hb, KM.out.2.2.below hb⟩
      clear hc0 hc1 hg0 hg1 KM HC HQ
      generalize S i = x at e0 e1
      go_wp2
      go_quiet (fail)
      go_wp2
      go_roundg (gk - 1)
      case measure => omega
      case rel => exact ⟨i + 1, by omega, rfl, rfl, KN.out _⟩
    · have hi' : ¬ (i : Int) < (n : Int) := by omega
      have hR := HC.out wr hn' KM.out.1.n0
      go_wp2_with fail
      refine hR.mono ?_
      rintro e w6 ⟨v6, rfl, hb6, rfl⟩
      have K6 : Hid (Dw w0 w6 seed q n S q' ∧ SP.PartOk w6 (.slice qa na ca) TA.toList ∧ SP.PartOk w6 (.slice qb nb cb) TB.toList) := ⟨KM.out.1.grow hb6, KM.out.2.1.below hb6, KM.out.2.2.below hb6⟩
      clear hb6 KM hR HC
      have hR := HQ.out w6 hn' K6.out.1.n0
      go_wp2_with fail
      refine hR.mono ?_
      rintro e w7 ⟨v7, rfl, hb7, rfl⟩
      have hA := part_conv (K6.out.2.1.below hb7)
      have hB := part_conv (K6.out.2.2.below hb7)
      have K7 : Hid (Below w0.heap.size w0 w7) := (K6.out.1.grow hb7).bl
      clear hb7 K6 hR HQ
      have hee : ((ee : Int) == (ee : Int)) = true := by simp
      go_wp2
      go_ret
      exact ⟨by simp, K7.out⟩
theorem ordK : Ord Go.Proofs.Ytifkmkllljfeaaa.p1 := ⟨gap1, refP1, by decide +kernel, by decide +kernel⟩
theorem deriveL_any (seed lab : ByteArray) (q : Option Addr) (n c : Nat) (S : Nat → Nat) (w0 : World) (hs : seed.size ≤ 140737488355328) (hl : lab.size ≤ 140737488355328) (hn : n ≤ 9223372036854775807) (hN : NumsK w0 q n S) :
    Calls Try.prog 3 #[.string seed, .string lab, .slice q n c] w0 fun e w' => e = .returned (.bool true) ∧ Below w0.heap.size w0 w' := by
  by_cases h1 : seed.size ≤ 4096
  · have a1 : ¬ (4096 : Int) < (seed.size : Int) := by omega
    by_cases h2 : lab.size ≤ 4096
    · have a2 : ¬ (4096 : Int) < (lab.size : Int) := by omega
      by_cases h3 : n ≤ 64
      · exact deriveL_core ordK seed lab q n c S w0 h1 h2 h3 hN
      · have a3 : (64 : Int) < (n : Int) := by omega
        clear hN
        go_enter Try.func3, Try.ntmps3
        go_wp2
        go_ret
        exact ⟨rfl, Below.refl _ _⟩
    · have a2 : (4096 : Int) < (lab.size : Int) := by omega
      clear hN
      go_enter Try.func3, Try.ntmps3
      go_wp2
      go_ret
      exact ⟨rfl, Below.refl _ _⟩
  · have a1 : (4096 : Int) < (seed.size : Int) := by omega
    clear hN
    go_enter Try.func3, Try.ntmps3
    go_wp2
    go_ret
    exact ⟨rfl, Below.refl _ _⟩
end Go.Proofs.Ytifkmkllljfeaaa
/-
  THE ROW OF 'KeysDerive' round its walk: two texts, a slice of numbers.
-/
namespace Go.Proofs.Ytifkmkllljfeaaa.keysDerive
open Go.ChangeShapes Go.WideShapes Go.ChangeAt Go.RowKit
open Go.ChangeMaps (open_string shut_string)
theorem own : ownKnob Try.prog.godebug = none := by kernel_rfl
theorem laidOut : laidOutB Try.prog = true := by kernel_rfl
theorem cells32 : Try.prog.cellsOf 29 = 1 := by kernel_rfl
theorem sized_str {H : Type} {P : Program} {ts : List TypeId} {ds : List (DataW H)} (h : (DataW.weightsEach P ts ds).all (· ≤ reachBytes) = true) {j : Nat} {t : TypeId} {s : ByteArray} (ht : ts[j]? = some t) (hd : ds[j]? = some (.lit (.string s.data.toList))) : s.size ≤ reachBytes := by
  have := List.all_eq_true.1 h _ (DataW.weights_mem_each ht hd s.size (by simp [DataW.weights]))
  simpa using this
theorem range32 {n : Int} (h : (Lit.int .u32 n).wf = true) : 0 ≤ n ∧ n ≤ 4294967295 := by
  simp only [Lit.wf, Bool.and_eq_true, decide_eq_true_eq] at h
  exact h
set_option maxRecDepth 100000 in
theorem lifted (os : Os) (started : os.Started) (H : Type) (enc : TypeId × Value → H) :
    ReturnsInHanded {} Try.checked os 3 .any (Rows.keysDeriveSpec.pre6 enc Try.prog Try.f3 Rows.keysDeriveRow.domain false) (Rows.keysDeriveSpec.post enc Try.prog Try.f3 false true false false) := by
  refine returnsInHanded_of_change_sized (C := Try.checked) own started (by kernel_rfl) Try.func3
    (ChangeSpec.witness6 (enc := enc) (C := Try.checked) false ⟨#[], #[.string ByteArray.empty, .string ByteArray.empty, .slice none 0 0], []⟩ 8 (by kernel_rfl) (by kernel_rfl) (by kernel_rfl) (by kernel_rfl)) ?_
  intro W base args ds gs before hval0 hW _ hsz0 _
  have hsz : (DataW.weightsEach Try.prog (Try.f3.params.toList ++ Rows.keysDeriveSpec.plain.varTypes Try.prog) (ds ++ gs)).all (· ≤ reachBytes) = true := hsz0
  clear hsz0
  have hval : ∀ (j : Nat) t v, Try.f3.params[j]? = some t → args[j]? = some v → Value.okWide Try.prog W .any base t v := hval0
  have hW' := hW
  obtain ⟨p, q, hA0, hV, rfl, hfz, hnd⟩ := hW
  have hA : DataW.TrodAll enc Try.prog W 0 (fun _ => true) true Try.f3.params.toList args.toList ds p := hA0
  rw [Try.params3] at hA hval hsz
  obtain ⟨v0, vs0, d0, ds0, p0, q0, hargs, rfl, rfl, h0, r0⟩ := trodAll_cons hA
  obtain ⟨v1, vs1, d1, ds1, p1, q1, rfl, rfl, rfl, h1, r1⟩ := trodAll_cons r0
  obtain ⟨v2, vs2, d2, ds2, p2, q2, rfl, rfl, rfl, h2, r2⟩ := trodAll_cons r1
  obtain ⟨rfl, rfl, rfl⟩ := trodAll_nil r2
  obtain rfl : args = #[v0, v1, v2] := by cases args; simp_all
  obtain ⟨rfl, rfl⟩ := trodVars_none hV
  obtain ⟨a0, rfl, rfl, rfl, w0⟩ := open_string Try.underlying9 (hval 0 9 v0 rfl rfl) h0
  obtain ⟨a1, rfl, rfl, rfl, w1⟩ := open_string Try.underlying9 (hval 1 9 v1 rfl rfl) h1
  obtain ⟨a3, len3, cap3, rfl⟩ := okWide_slice Try.underlying22 (hval 2 22 v2 rfl rfl)
  have k3 := h2
  have lt3 : ∀ x ∈ p2, x.block < W.heap.size := by obtain ⟨m, hm⟩ := k3; exact DataW.trod_lt m _ _ _ hm
  have z0 : a0.size ≤ reachBytes := sized_str hsz (j := 0) (t := 9) rfl rfl
  have z1 : a1.size ≤ reachBytes := sized_str hsz (j := 1) (t := 9) rfl rfl
  unfold reachBytes at z0 z1
  have hx3 : ∃ S : Nat → Nat, NumsK W a3 len3 S ∧ len3 ≤ maxLen := by
    obtain ⟨fuel, hf⟩ := h2
    rcases open_ints Try.underlying22 Try.underlying29 cells32 hf with ⟨hcs, hx⟩ | ⟨a, l, c, zs, hcs, _, hl, hm, hz, hx, hcell, hws⟩
    · simp [Value.cells] at hcs
      obtain ⟨rfl, rfl, rfl⟩ := hcs
      exact ⟨fun _ => 0, ⟨fun j hj => absurd hj (by omega), fun h => absurd h (by omega)⟩, Nat.zero_le _⟩
    · simp [Value.cells] at hcs
      obtain ⟨rfl, rfl, rfl⟩ := hcs
      simp only [if_true] at hz
      have hr : ∀ j, j < len3 → 0 ≤ zs.getD j 0 ∧ zs.getD j 0 ≤ 4294967295 := fun j hj => by
        refine range32 (hws _ ?_)
        rw [List.getD_eq_getElem?_getD, List.getElem?_eq_getElem (by omega)]
        exact List.getElem_mem _
      refine ⟨fun j => (zs.getD j 0).toNat, ⟨fun j hj => by have := hr j hj; show (zs.getD j 0).toNat < _; omega, fun h00 => ?_⟩, by omega⟩
      obtain ⟨b, off, spot⟩ := a
      have hspot : spot = none := by simpa [Addr.add] using World.cell?_spot (hcell 0 (by omega))
      subst hspot
      have hP : ∀ j, j < len3 → W.cell? ⟨b, off + j, none⟩ = some (.int .u32 ((zs.getD j 0).toNat : Int)) := fun j hj => by
        rw [Int.toNat_of_nonneg (hr j hj).1, ← hcell j (by omega)]
        congr 1
        unfold Addr.add
        by_cases hj0 : j = 0
        · subst hj0; rfl
        · rw [if_neg hj0]
      exact ⟨b, off, rfl, World.block_lt_of_cell? _ _ (hP 0 h00), hP⟩
  obtain ⟨S, hS, hSl⟩ := hx3
  refine (deriveL_any a0 a1 a3 len3 cap3 S W (by omega) (by omega) (by unfold maxLen at hSl; omega) hS).mono fun e W' ⟨he, bel⟩ => ?_
  subst he
  exact ⟨_, rfl, _, _, _, [], _, [], hW', trodAll_mk1 (shut_bool Try.underlying4 _), (trodAll_cons_mk (shut_string Try.underlying9 w0) (trodAll_cons_mk (shut_string Try.underlying9 w1) (trodAll_cons_mk (Below.trod laidOut (by kernel_rfl) (of_decide_eq_true (by kernel_rfl)) k3 bel lt3) trodAll_mk0))), rfl, bel.frame _, fun h => by cases h⟩
theorem over : Rows.keysDeriveRow.holds Try.pinned (OpenSpec.ofChange Rows.keysDeriveSpec) :=
  OpenClaim.holds_of_wide 3 Try.f3 rfl rfl rfl rfl rfl rfl rfl ⟨rfl, rfl, rfl, rfl, rfl⟩ rfl rfl rfl rfl rfl (by kernel_rfl) Try.func3 (by kernel_rfl)
    (of_decide_eq_true (by kernel_rfl)) (by unfold Func.isWrapper; first | (rw [if_pos (by decide +kernel)]; kernel_rfl) | (rw [if_neg (by decide +kernel)]; exact ⟨rfl, rfl⟩))
    (fun os started H enc _ => lifted os started H enc)
theorem proved : Rows.KeysDeriveSaid :=
  over
end Go.Proofs.Ytifkmkllljfeaaa.keysDerive
namespace Go.Proofs.Ytifkmkllljfeaaa
/-- THE STATEMENT. -/
theorem keysDerive_holds : Rows.KeysDeriveSaid := keysDerive.proved
#print axioms keysDerive_holds
end Go.Proofs.Ytifkmkllljfeaaa
