import Derived.Test.YtdeidgbknlmhjabRG7
set_option linter.unusedVariables false
set_option linter.unusedSimpArgs false
namespace Go.Proofs.Ytdeidgbknlmhjab.RG
open Go Go.RowKit

variable {P : Program} {ops : Array Oper} {Q : Exit → Act → World → Prop} {w0 w : World} {k0 : Nat} {X : List Nat} {its : List It} {bl : List Bl} {olds : List (Tmp × SV)} {a : Act} {i : Nat} {o : Oper} {it : It}

theorem cert_slice1 (hk : it.kind = .stay) (T : TypeId) (t : Tmp) (lo v v' : Value) (ho : o.op = .slice T (.tmp t) (some (.const lo)) none none) (hout : it.out = .v v') (hx : ∀ (μ : Nat → Nat) (a : Act), Known ops i its olds it.need μ a → a.eval (.tmp t) = v)
    (hf : ∀ w : World, (Instr.sliceAt T v (some lo) none none).run P w = .ok v' w) : Cert P Q w0 k0 X ops i its bl olds o it := by
  refine cert_stay hk fun μ a w hK _ => ?_
  unfold execOp
  rw [ho, hout]
  dsimp only
  rw [hx μ a hK]
  show ((Instr.sliceAt T v (some lo) none none) >>= fun v => pure (Next.value v)).run P w = _
  rw [Sem.run_bind, hf]
  rfl
theorem cert_s2a (hk : it.kind = .stay) (T : TypeId) (t : Tmp) (v v' : Value) (ho : o.op = .sliceToArrayPointer T (.tmp t)) (hout : it.out = .v v') (hx : ∀ (μ : Nat → Nat) (a : Act), Known ops i its olds it.need μ a → a.eval (.tmp t) = v)
    (hf : ∀ w : World, (Instr.arrayAt T v).run P w = .ok v' w) : Cert P Q w0 k0 X ops i its bl olds o it := by
  refine cert_stay hk fun μ a w hK _ => ?_
  unfold execOp
  rw [ho, hout]
  dsimp only
  rw [hx μ a hK, Sem.run_bind, hf]
  rfl
/-- A load of one cell that was there before the call. -/
theorem cert_load1B (hk : it.kind = .stay) (k off : Nat) (hk0 : k < k0) (hX : k ∉ X) (T : TypeId) (t : Tmp) (ho : o.op = .load T (.tmp t)) (v : Value) (hout : it.out = .v v)
    (hx : ∀ (μ : Nat → Nat) (a : Act), Known ops i its olds it.need μ a → a.eval (.tmp t) = .pointer (some ⟨k, off, none⟩)) (hr : w0.cell? ⟨k, off, none⟩ = some v)
    (hu : (P.underlying T).map (·.isRow) = some false) : Cert P Q w0 k0 X ops i its bl olds o it := by
  refine cert_stay hk fun μ a w hK hb => ?_
  have h1 : w.cell? ⟨k, off, none⟩ = some v := by
    rw [World.cell?_of_block (w := w0) (a := ⟨k, off, none⟩) (hb.block k hk0 hX)]
    exact hr
  unfold execOp
  rw [ho, hout]
  dsimp only
  rw [hx μ a hK, Sem.run_bind, run_load1 h1 hu]
  rfl
/-- A call of two slots, that may look at what was there before. -/
theorem cert_callB2 (hk : it.kind = .call) (f : FuncId) (t1 t2 : Tmp) (v1 v2 v : Value) (hout : it.out = .v v) (hrun : ∀ (a : Act) (w : World), (execOp a.eval o).run P w = .ok (.enter f #[a.eval (.tmp t1), a.eval (.tmp t2)]) w)
    (h1 : ∀ (μ : Nat → Nat) (a : Act), Known ops i its olds it.need μ a → a.eval (.tmp t1) = v1) (h2 : ∀ (μ : Nat → Nat) (a : Act), Known ops i its olds it.need μ a → a.eval (.tmp t2) = v2)
    (hc : ∀ w, BelX k0 X w0 w → Calls P f #[v1, v2] w (Ret fun e w' => Below w.heap.size w w' ∧ e = v)) : Cert P Q w0 k0 X ops i its bl olds o it :=
  cert_call hk f #[v1, v2] v hout (fun μ a w hK _ => by rw [hrun, h1 μ a hK, h2 μ a hK]) hc
theorem cert_callB1 (hk : it.kind = .call) (f : FuncId) (t1 : Tmp) (v1 v : Value) (hout : it.out = .v v) (hrun : ∀ (a : Act) (w : World), (execOp a.eval o).run P w = .ok (.enter f #[a.eval (.tmp t1)]) w)
    (h1 : ∀ (μ : Nat → Nat) (a : Act), Known ops i its olds it.need μ a → a.eval (.tmp t1) = v1)
    (hc : ∀ w, BelX k0 X w0 w → Calls P f #[v1] w (Ret fun e w' => Below w.heap.size w w' ∧ e = v)) : Cert P Q w0 k0 X ops i its bl olds o it :=
  cert_call hk f #[v1] v hout (fun μ a w hK _ => by rw [hrun, h1 μ a hK]) hc
theorem St.init {cs : List (List Value)} {c : List Value} {ks : List Nat} {k : Nat} (h : St w0 k0 X (cs ++ [c]) (ks ++ [k]) w) : St w0 k0 X cs ks w := by
  have hl : ks.length = cs.length := by have := h.len; simp only [List.length_append, List.length_cons, List.length_nil] at this; omega
  have had : ∀ b, b < cs.length → ad (ks ++ [k]) b = ad ks b := fun b hb => by
    unfold ad
    rw [List.getD_eq_getElem?_getD, List.getD_eq_getElem?_getD, List.getElem?_append_left (by omega)]
  refine ⟨h.bel, h.le, hl, fun b c' hb => ?_, fun b c' hb hc hne => ?_⟩
  · have hlt := (List.getElem?_eq_some_iff.1 hb).1
    have := h.has b c' (by rw [List.getElem?_append_left hlt]; exact hb)
    rwa [had b hlt] at this
  · have := h.inj b c' (by rw [List.length_append]; omega) (by rw [List.length_append]; omega) hne
    rwa [had b hb, had c' hc] at this
theorem results_tt {fn : Func} {a : Act} (t u : Tmp) (hr : fn.results = #[.tmp t, .tmp u]) (v v' : Value) (ht : a.tmps[t]? = some v) (hu : a.tmps[u]? = some v') : (results fn a.tmps).run P w = .ok (.tuple #[v, v']) w := by
  have h2 : a.tmps.getD t undef = v := by rw [Array.getD_eq_getD_getElem?, ht]; rfl
  have h3 : a.tmps.getD u undef = v' := by rw [Array.getD_eq_getD_getElem?, hu]; rfl
  unfold results
  rw [hr]
  simp only [Array.mapM_eq_mapM_toList, List.mapM_cons, List.mapM_nil, h2, h3]
  simp [Sem.run_bind]
end Go.Proofs.Ytdeidgbknlmhjab.RG
