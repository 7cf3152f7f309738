import Derived.Test.YtdeidgbknlmhjabRG4
set_option linter.unusedVariables false
set_option linter.unusedSimpArgs false
namespace Go.Proofs.Ytdeidgbknlmhjab.RG
open Go Go.RowKit

variable {P : Program} {ops : Array Oper} {Q : Exit → Act → World → Prop} {w0 w : World} {k0 : Nat} {X : List Nat} {its : List It} {bl : List Bl} {olds : List (Tmp × SV)} {a0 : Act} {L : Array Bool} {μ μ0 : Nat → Nat} {i : Nat} {o : Oper} {it : It}

def Certs (P : Program) (Q : Exit → Act → World → Prop) (w0 : World) (k0 : Nat) (X : List Nat) (ops : Array Oper) (its : List It) (bl : List Bl) (olds : List (Tmp × SV)) : Nat → List Oper → List It → Prop
  | _, [], _ => True
  | _, _ :: _, [] => False
  | i, o :: os, it :: is => Cert P Q w0 k0 X ops i its bl olds o it ∧ Certs P Q w0 k0 X ops its bl olds (i + 1) os is
theorem Certs.get : ∀ {os : List Oper} {is : List It} {n : Nat}, Certs P Q w0 k0 X ops its bl olds n os is → ∀ (i : Nat) (o : Oper) (it : It), os[i]? = some o → is[i]? = some it → Cert P Q w0 k0 X ops (n + i) its bl olds o it
  | [], _, _, _, i, _, _, h, _ => by simp at h
  | _ :: _, [], _, h, _, _, _, _, _ => h.elim
  | o :: os, it :: is, _, h, 0, o', it', ho, hi => by
    obtain rfl : o = o' := by simpa using ho
    obtain rfl : it = it' := by simpa using hi
    exact h.1
  | o :: os, it :: is, n, h, i + 1, o', it', ho, hi => by
    have := Certs.get h.2 i o' it' (by simpa using ho) (by simpa using hi)
    rw [show n + (i + 1) = n + 1 + i by omega]
    exact this
def Olds (a0 : Act) (μ0 : Nat → Nat) : List (Tmp × SV) → Prop
  | [] => True
  | x :: r => a0.tmps[x.1]? = some (x.2.at μ0) ∧ Olds a0 μ0 r
theorem Olds.get : ∀ {l : List (Tmp × SV)}, Olds a0 μ0 l → ∀ (t : Tmp) (s : SV), (t, s) ∈ l → a0.tmps[t]? = some (s.at μ0)
  | [], _, _, _, h => by cases h
  | x :: r, h, t, s, hm => by
    rcases List.mem_cons.1 hm with e | e
    · subst e; exact h.1
    · exact Olds.get h.2 t s e
theorem Reg.mk' (chk : allB ops its bl olds a0.tmps.size = true) (old : Olds a0 μ0 olds) (cert : Certs P Q w0 k0 X ops its bl olds 0 ops.toList its) : Reg P ops Q w0 k0 X its bl olds a0 μ0 :=
  ⟨chk, fun t s hm => old.get t s hm, fun i o it ho hi => by have := cert.get i o it (by rw [Array.getElem?_toList]; exact ho) hi; rwa [Nat.zero_add] at this⟩

theorem cert_field (hk : it.kind = .stay) (T : TypeId) (t : Tmp) (f : Nat) (ho : o.op = .fieldAddr T (.tmp t) f) (b off off' : Nat) (hout : it.out = .p b off')
    (hx : ∀ (μ : Nat → Nat) (a : Act), Known ops i its olds it.need μ a → a.eval (.tmp t) = (SV.p b off).at μ)
    (hf : ∀ (k : Nat) (w : World), (Instr.fieldAt T (.pointer (some ⟨k, off, none⟩)) f).run P w = .ok (.pointer (some ⟨k, off', none⟩)) w) : Cert P Q w0 k0 X ops i its bl olds o it := by
  refine cert_stay hk fun μ a w hK _ => ?_
  unfold execOp
  rw [ho, hout]
  dsimp only
  rw [hx μ a hK]
  show ((Instr.fieldAt T (.pointer (some ⟨μ b, off, none⟩)) f) >>= fun v => pure (Next.value v)).run P w = _
  rw [Sem.run_bind, hf]
  rfl
theorem cert_call1 (hk : it.kind = .call) (f : FuncId) (t1 : Tmp) (v1 v : Value) (hout : it.out = .v v) (hrun : ∀ (a : Act) (w : World), (execOp a.eval o).run P w = .ok (.enter f #[a.eval (.tmp t1)]) w)
    (h1 : ∀ (μ : Nat → Nat) (a : Act), Known ops i its olds it.need μ a → a.eval (.tmp t1) = v1) (hc : ∀ w, Calls P f #[v1] w (Ret fun e w' => Below w.heap.size w w' ∧ e = v)) : Cert P Q w0 k0 X ops i its bl olds o it :=
  cert_call hk f #[v1] v hout (fun μ a w hK _ => by rw [hrun, h1 μ a hK]) (fun w _ => hc w)
theorem cert_call2 (hk : it.kind = .call) (f : FuncId) (t1 t2 : Tmp) (v1 v2 v : Value) (hout : it.out = .v v) (hrun : ∀ (a : Act) (w : World), (execOp a.eval o).run P w = .ok (.enter f #[a.eval (.tmp t1), a.eval (.tmp t2)]) w)
    (h1 : ∀ (μ : Nat → Nat) (a : Act), Known ops i its olds it.need μ a → a.eval (.tmp t1) = v1) (h2 : ∀ (μ : Nat → Nat) (a : Act), Known ops i its olds it.need μ a → a.eval (.tmp t2) = v2)
    (hc : ∀ w, Calls P f #[v1, v2] w (Ret fun e w' => Below w.heap.size w w' ∧ e = v)) : Cert P Q w0 k0 X ops i its bl olds o it :=
  cert_call hk f #[v1, v2] v hout (fun μ a w hK _ => by rw [hrun, h1 μ a hK, h2 μ a hK]) (fun w _ => hc w)
theorem cert_call3 (hk : it.kind = .call) (f : FuncId) (t1 t2 t3 : Tmp) (v1 v2 v3 v : Value) (hout : it.out = .v v) (hrun : ∀ (a : Act) (w : World), (execOp a.eval o).run P w = .ok (.enter f #[a.eval (.tmp t1), a.eval (.tmp t2), a.eval (.tmp t3)]) w)
    (h1 : ∀ (μ : Nat → Nat) (a : Act), Known ops i its olds it.need μ a → a.eval (.tmp t1) = v1) (h2 : ∀ (μ : Nat → Nat) (a : Act), Known ops i its olds it.need μ a → a.eval (.tmp t2) = v2) (h3 : ∀ (μ : Nat → Nat) (a : Act), Known ops i its olds it.need μ a → a.eval (.tmp t3) = v3)
    (hc : ∀ w, Calls P f #[v1, v2, v3] w (Ret fun e w' => Below w.heap.size w w' ∧ e = v)) : Cert P Q w0 k0 X ops i its bl olds o it :=
  cert_call hk f #[v1, v2, v3] v hout (fun μ a w hK _ => by rw [hrun, h1 μ a hK, h2 μ a hK, h3 μ a hK]) (fun w _ => hc w)
theorem cert_call0 (hk : it.kind = .call) (f : FuncId) (v : Value) (hout : it.out = .v v) (hrun : ∀ (a : Act) (w : World), (execOp a.eval o).run P w = .ok (.enter f #[]) w)
    (hc : ∀ w, Calls P f #[] w (Ret fun e w' => Below w.heap.size w w' ∧ e = v)) : Cert P Q w0 k0 X ops i its bl olds o it :=
  cert_call hk f #[] v hout (fun _ a w _ _ => hrun a w) (fun w _ => hc w)
theorem at_made {b k : Nat} (hout : it.out = .p b 0) : it.out.at (upd μ b k) = .pointer (some ⟨k, 0, none⟩) := by
  rw [hout]
  show Value.pointer (some ⟨upd μ b k b, 0, none⟩) = _
  unfold upd
  rw [if_pos rfl]
theorem cert_alloc (b : Nat) (hk : it.kind = .make b) (hout : it.out = .p b 0) (e : Bl) (hb : bl[b]? = some e) (T : TypeId) (ho : o.op = .alloc T) (hz : ∀ w : World, (Instr.alloc T true (.tuple #[])).run P w = .ok (.pointer (some ⟨w.heap.size, 0, none⟩)) (w.alloc (.cells e.before.toArray T))) : Cert P Q w0 k0 X ops i its bl olds o it := by
  refine cert_make b hk e hb T fun μ a w hK _ => ?_
  unfold execOp
  rw [ho]
  rw [at_made hout]
  show ((Instr.alloc T true (.tuple #[])) >>= fun v => pure (Next.value v)).run P w = _
  rw [Sem.run_bind, hz]
  rfl
theorem cert_box (b : Nat) (hk : it.kind = .make b) (hout : it.out = .p b 0) (e : Bl) (hb : bl[b]? = some e) (T : TypeId) (t : Tmp) (ho : o.op = .box T (.tmp t)) (v : Value) (h1 : ∀ (μ : Nat → Nat) (a : Act), Known ops i its olds it.need μ a → a.eval (.tmp t) = v)
    (hz : ∀ w : World, (Instr.box T v).run P w = .ok (.pointer (some ⟨w.heap.size, 0, none⟩)) (w.alloc (.cells e.before.toArray T))) : Cert P Q w0 k0 X ops i its bl olds o it := by
  refine cert_make b hk e hb T fun μ a w hK _ => ?_
  unfold execOp
  rw [ho]
  dsimp only
  rw [h1 μ a hK, at_made hout]
  show ((Instr.box T v) >>= fun v => pure (Next.value v)).run P w = _
  rw [Sem.run_bind, hz]
  rfl
theorem cert_build2 (hk : it.kind = .stay) (T : TypeId) (t1 t2 : Tmp) (ho : o.op = .build T #[(0, .tmp t1), (1, .tmp t2)]) (v1 v2 v : Value) (hout : it.out = .v v)
    (h1 : ∀ (μ : Nat → Nat) (a : Act), Known ops i its olds it.need μ a → a.eval (.tmp t1) = v1) (h2 : ∀ (μ : Nat → Nat) (a : Act), Known ops i its olds it.need μ a → a.eval (.tmp t2) = v2)
    (hb : ∀ w : World, (Instr.build T #[(0, v1), (1, v2)]).run P w = .ok v w) : Cert P Q w0 k0 X ops i its bl olds o it := by
  refine cert_stay hk fun μ a w hK _ => ?_
  unfold execOp
  rw [ho, hout]
  dsimp only
  simp only [List.map_toArray, List.map_cons, List.map_nil, h1 μ a hK, h2 μ a hK]
  rw [Sem.run_bind, hb]
  rfl
theorem cert_build3 (hk : it.kind = .stay) (T : TypeId) (t1 t2 t3 : Tmp) (ho : o.op = .build T #[(0, .tmp t1), (1, .tmp t2), (2, .tmp t3)]) (v1 v2 v3 v : Value) (hout : it.out = .v v)
    (h1 : ∀ (μ : Nat → Nat) (a : Act), Known ops i its olds it.need μ a → a.eval (.tmp t1) = v1) (h2 : ∀ (μ : Nat → Nat) (a : Act), Known ops i its olds it.need μ a → a.eval (.tmp t2) = v2) (h3 : ∀ (μ : Nat → Nat) (a : Act), Known ops i its olds it.need μ a → a.eval (.tmp t3) = v3)
    (hb : ∀ w : World, (Instr.build T #[(0, v1), (1, v2), (2, v3)]).run P w = .ok v w) : Cert P Q w0 k0 X ops i its bl olds o it := by
  refine cert_stay hk fun μ a w hK _ => ?_
  unfold execOp
  rw [ho, hout]
  dsimp only
  simp only [List.map_toArray, List.map_cons, List.map_nil, h1 μ a hK, h2 μ a hK, h3 μ a hK]
  rw [Sem.run_bind, hb]
  rfl

theorem results_row {fn : Func} {a : Act} {cs : List (List Value)} {ks : List Nat} (hS : St w0 k0 X cs ks w) (t : Tmp) (T : TypeId) (hr : fn.results = #[.cell t T]) (b : Nat) (c : List Value) (hc : cs[b]? = some c) (ht : a.tmps[t]? = some (.pointer (some ⟨ad ks b, 0, none⟩)))
    (hu : (P.underlying T).map (·.isRow) = some true) (hi : (P.info? T).map (·.size) = some c.length) : (results fn a.tmps).run P w = .ok (.agg c.toArray) w := by
  obtain ⟨d, hu, hd⟩ := Option.map_eq_some_iff.1 hu
  have h1 := run_loadVar_mid (P := P) w (ad ks b) 0 T c d (hS.has b c hc).1 hu hd hi
  have h2 : a.tmps.getD t undef = .pointer (some ⟨ad ks b, 0, none⟩) := by rw [Array.getD_eq_getD_getElem?, ht]; rfl
  unfold results
  rw [hr]
  simp only [Array.mapM_eq_mapM_toList, List.mapM_cons, List.mapM_nil, h2, asAddr]
  simp [Sem.run_bind, h1]
theorem len3 {l : List Nat} (h : l.length = 3) : ∃ k j i, l = [k, j, i] := by
  match l, h with
  | [k, j, i], _ => exact ⟨k, j, i, rfl⟩
theorem St.begin (w : World) : St w w.heap.size [] [] [] w := ⟨BelX.refl _ _ _, Nat.le_refl _, rfl, fun b c h => by simp at h, fun b c h => by simp at h⟩
end Go.Proofs.Ytdeidgbknlmhjab.RG
