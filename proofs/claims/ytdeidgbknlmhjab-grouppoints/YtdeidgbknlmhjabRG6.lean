import Derived.Test.YtdeidgbknlmhjabRG5
set_option linter.unusedVariables false
set_option linter.unusedSimpArgs false
namespace Go.Proofs.Ytdeidgbknlmhjab.RG
open Go Go.RowKit

variable {P : Program} {ops : Array Oper} {Q : Exit → Act → World → Prop} {w0 w : World} {k0 : Nat} {X : List Nat} {its : List It} {bl : List Bl} {olds : List (Tmp × SV)} {a0 : Act} {i : Nat} {o : Oper} {it : It}

theorem cert_pass (hk : it.kind = .pass) (h : it.out = .v undef) : Cert P Q w0 k0 X ops i its bl olds o it := by
  intro μ a w K _ _ _
  rw [hk]
  exact h
theorem cert_move (hk : it.kind = .stay) (t : Tmp) (ho : o.op = .move (.tmp t) ∨ o.op = .assign (.tmp t)) (hx : ∀ (μ : Nat → Nat) (a : Act), Known ops i its olds it.need μ a → a.eval (.tmp t) = it.out.at μ) : Cert P Q w0 k0 X ops i its bl olds o it := by
  refine cert_stay hk fun μ a w hK _ => ?_
  unfold execOp
  rcases ho with ho | ho <;> rw [ho] <;> dsimp only <;> rw [hx μ a hK] <;> rfl
theorem cert_pick_t (hk : it.kind = .stay) (c t : Tmp) (y : Operand) (ho : o.op = .pick (.tmp c) (.tmp t) y) (hc : ∀ (μ : Nat → Nat) (a : Act), Known ops i its olds it.need μ a → a.eval (.tmp c) = .bool true) (hx : ∀ (μ : Nat → Nat) (a : Act), Known ops i its olds it.need μ a → a.eval (.tmp t) = it.out.at μ) : Cert P Q w0 k0 X ops i its bl olds o it := by
  refine cert_stay hk fun μ a w hK _ => ?_
  unfold execOp
  rw [ho]
  dsimp only
  rw [hc μ a hK, hx μ a hK]
  rfl
theorem cert_pick_f (hk : it.kind = .stay) (c t : Tmp) (y : Value) (ho : o.op = .pick (.tmp c) (.tmp t) (.const y)) (hc : ∀ (μ : Nat → Nat) (a : Act), Known ops i its olds it.need μ a → a.eval (.tmp c) = .bool false) (hx : it.out = .v y) : Cert P Q w0 k0 X ops i its bl olds o it := by
  refine cert_stay hk fun μ a w hK _ => ?_
  unfold execOp
  rw [ho]
  dsimp only
  rw [hc μ a hK, hx]
  rfl
theorem cert_pick_ct (hk : it.kind = .stay) (c : Tmp) (x : Value) (y : Operand) (ho : o.op = .pick (.tmp c) (.const x) y) (hc : ∀ (μ : Nat → Nat) (a : Act), Known ops i its olds it.need μ a → a.eval (.tmp c) = .bool true) (hx : it.out = .v x) : Cert P Q w0 k0 X ops i its bl olds o it := by
  refine cert_stay hk fun μ a w hK _ => ?_
  unfold execOp
  rw [ho]
  dsimp only
  rw [hc μ a hK, hx]
  rfl
theorem cert_pick_cf (hk : it.kind = .stay) (c t : Tmp) (x : Operand) (ho : o.op = .pick (.tmp c) x (.tmp t)) (hc : ∀ (μ : Nat → Nat) (a : Act), Known ops i its olds it.need μ a → a.eval (.tmp c) = .bool false) (hx : ∀ (μ : Nat → Nat) (a : Act), Known ops i its olds it.need μ a → a.eval (.tmp t) = it.out.at μ) : Cert P Q w0 k0 X ops i its bl olds o it := by
  refine cert_stay hk fun μ a w hK _ => ?_
  unfold execOp
  rw [ho]
  dsimp only
  rw [hc μ a hK, hx μ a hK]
  rfl
theorem cert_build1 (hk : it.kind = .stay) (T : TypeId) (n : Nat) (t1 : Tmp) (ho : o.op = .build T #[(n, .tmp t1)]) (v1 v : Value) (hout : it.out = .v v)
    (h1 : ∀ (μ : Nat → Nat) (a : Act), Known ops i its olds it.need μ a → a.eval (.tmp t1) = v1)
    (hb : ∀ w : World, (Instr.build T #[(n, v1)]).run P w = .ok v w) : Cert P Q w0 k0 X ops i its bl olds o it := by
  refine cert_stay hk fun μ a w hK _ => ?_
  unfold execOp
  rw [ho, hout]
  dsimp only
  simp only [List.map_toArray, List.map_cons, List.map_nil, h1 μ a hK]
  rw [Sem.run_bind, hb]
  rfl
theorem cert_bin (hk : it.kind = .stay) (op : BinOp) (T T' : TypeId) (t1 t2 : Tmp) (v1 v2 v : Value) (ho : o.op = .binOp op T (.tmp t1) (.tmp t2) T') (hout : it.out = .v v)
    (h1 : ∀ (μ : Nat → Nat) (a : Act), Known ops i its olds it.need μ a → a.eval (.tmp t1) = v1) (h2 : ∀ (μ : Nat → Nat) (a : Act), Known ops i its olds it.need μ a → a.eval (.tmp t2) = v2)
    (hg : ∀ w, (eqGuard op T (.tmp t1) (.tmp t2) v1 v2).run P w = .ok () w) (hb : ∀ w, (binOp op T v1 v2).run P w = .ok v w) : Cert P Q w0 k0 X ops i its bl olds o it := by
  refine cert_stay hk fun μ a w hK _ => ?_
  unfold execOp
  rw [ho, hout]
  dsimp only
  rw [h1 μ a hK, h2 μ a hK, Sem.run_bind, Sem.run_bind, hg]
  dsimp only [Result.andThen]
  rw [hb]
  rfl
theorem cert_not (hk : it.kind = .stay) (T : TypeId) (t : Tmp) (b : Bool) (ho : o.op = .unOp .not T (.tmp t)) (hout : it.out = .v (.bool (!b)))
    (h1 : ∀ (μ : Nat → Nat) (a : Act), Known ops i its olds it.need μ a → a.eval (.tmp t) = .bool b) : Cert P Q w0 k0 X ops i its bl olds o it := by
  refine cert_stay hk fun μ a w hK _ => ?_
  unfold execOp
  rw [ho, hout]
  dsimp only
  rw [h1 μ a hK]
  cases b <;> rfl
theorem cert_extract (hk : it.kind = .stay) (t : Tmp) (n : Nat) (vs : Array Value) (v : Value) (hv : vs[n]? = some v) (ho : o.op = .extract (.tmp t) n) (hout : it.out = .v v)
    (h1 : ∀ (μ : Nat → Nat) (a : Act), Known ops i its olds it.need μ a → a.eval (.tmp t) = .tuple vs) : Cert P Q w0 k0 X ops i its bl olds o it := by
  refine cert_stay hk fun μ a w hK _ => ?_
  unfold execOp
  rw [ho, hout]
  dsimp only
  rw [h1 μ a hK]
  simp [Instr.extract, hv, Sem.run_bind, SV.at]

theorem results_t {fn : Func} {a : Act} (t : Tmp) (hr : fn.results = #[.tmp t]) (v : Value) (ht : a.tmps[t]? = some v) : (results fn a.tmps).run P w = .ok v w := by
  have h2 : a.tmps.getD t undef = v := by rw [Array.getD_eq_getD_getElem?, ht]; rfl
  unfold results
  rw [hr]
  simp only [Array.mapM_eq_mapM_toList, List.mapM_cons, List.mapM_nil, h2]
  simp [Sem.run_bind]
theorem results_rt {fn : Func} {a : Act} {cs : List (List Value)} {ks : List Nat} (hS : St w0 k0 X cs ks w) (t u : Tmp) (T : TypeId) (hr : fn.results = #[.cell t T, .tmp u]) (b : Nat) (c : List Value) (hc : cs[b]? = some c) (ht : a.tmps[t]? = some (.pointer (some ⟨ad ks b, 0, none⟩))) (v : Value) (hu2 : a.tmps[u]? = some v)
    (hu : (P.underlying T).map (·.isRow) = some true) (hi : (P.info? T).map (·.size) = some c.length) : (results fn a.tmps).run P w = .ok (.tuple #[.agg c.toArray, v]) w := by
  obtain ⟨d, hu, hd⟩ := Option.map_eq_some_iff.1 hu
  have h1 := run_loadVar_mid (P := P) w (ad ks b) 0 T c d (hS.has b c hc).1 hu hd hi
  have h2 : a.tmps.getD t undef = .pointer (some ⟨ad ks b, 0, none⟩) := by rw [Array.getD_eq_getD_getElem?, ht]; rfl
  have h3 : a.tmps.getD u undef = v := by rw [Array.getD_eq_getD_getElem?, hu2]; rfl
  unfold results
  rw [hr]
  simp only [Array.mapM_eq_mapM_toList, List.mapM_cons, List.mapM_nil, h2, h3, asAddr]
  simp [Sem.run_bind, h1]
end Go.Proofs.Ytdeidgbknlmhjab.RG
