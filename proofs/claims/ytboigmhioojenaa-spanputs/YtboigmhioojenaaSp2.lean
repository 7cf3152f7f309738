import Derived.Orders
import Derived.Laws.OwnMore
import Derived.Deep.DeepCutAuto
import Derived.Deep.Upon
import Derived.Test.YtboigmhioojenaaSp1
set_option linter.unusedVariables false
set_option linter.unusedSimpArgs false
namespace Go.Proofs.Ytboigmhioojenaa.RG
open Go Go.RowKit
variable {P : Program} {Q : Exit → Act → World → Prop} {its : List It} {bl : List Bl} {olds : List (Tmp × SV)} {ops : Array Oper} {i : Nat} {o : Oper} {it : It} {w0 : World} {k0 : Nat} {X : List Nat}
theorem cert_stay (hk : it.kind = .stay) (hrun : ∀ (μ : Nat → Nat) (a : Act) (w : World), Known ops i its olds it.need μ a → BelX k0 X w0 w → (execOp a.eval o).run P w = .ok (.value (it.out.at μ)) w) : Cert P Q w0 k0 X ops i its bl olds o it := by
  intro μ a w K hK _ hbel
  rw [hk]
  intro h
  unfold Oper.wp
  rw [hrun μ a w hK hbel]
  exact h
theorem cert_load (hk : it.kind = .stay) (b off : Nat) (e : Bl) (hb : bl[b]? = some e) (hal : e.al = none) (hst : readB ops i e = true) (T : TypeId) (t : Tmp) (ho : o.op = .load T (.tmp t)) (cs : List Value) (hout : it.out = .v (.agg cs.toArray))
    (hx : ∀ (μ : Nat → Nat) (a : Act), Known ops i its olds it.need μ a → a.eval (.tmp t) = (SV.p b off).at μ) (hsub : (e.before.drop off).take cs.length = cs)
    (hu : (P.underlying T).map (·.isRow) = some true) (hi : (P.info? T).map (·.size) = some cs.length) : Cert P Q w0 k0 X ops i its bl olds o it := by
  intro μ a w K hK hR _
  rw [hk]
  intro h
  rw [hout] at h
  obtain ⟨d, hu, hd⟩ := Option.map_eq_some_iff.1 hu
  refine wp_load_mid T (.tmp t) ho (μ b) off (hx μ a hK) cs d (fun j v hj => ?_) hu hd hi h
  have h1 := hR b e hb (Or.inl hal) hst (off + j) v ?_
  · rw [Nat.zero_add] at h1; exact h1
  · rw [← hsub] at hj
    have hlt : j < cs.length := by
      have h2 := (List.getElem?_eq_some_iff.1 hj).1
      rw [hsub] at h2
      exact h2
    rw [List.getElem?_take, if_pos hlt, List.getElem?_drop] at hj
    exact hj
/-- A cell of one word, a slice, a pointer: no row. -/
theorem cert_call (hk : it.kind = .call) (f : FuncId) (args : Array Value) (v : Value) (hout : it.out = .v v) (hrun : ∀ (μ : Nat → Nat) (a : Act) (w : World), Known ops i its olds it.need μ a → BelX k0 X w0 w → (execOp a.eval o).run P w = .ok (.enter f args) w)
    (hc : ∀ w, BelX k0 X w0 w → Calls P f args w (Ret fun e w' => Below w.heap.size w w' ∧ e = v)) : Cert P Q w0 k0 X ops i its bl olds o it := by
  intro μ a w K hK _ hbel
  rw [hk]
  intro h
  rw [hout] at h
  unfold Oper.wp
  rw [hrun μ a w hK hbel, Oper.upon_enter]
  refine (hc w hbel).mono ?_
  rintro e w' ⟨v', rfl, hb, rfl⟩
  exact h w' hb
theorem cert_make (b : Nat) (hk : it.kind = .make b) (e : Bl) (hb : bl[b]? = some e) (t : TypeId) (hrun : ∀ (μ : Nat → Nat) (a : Act) (w : World), Known ops i its olds it.need μ a → BelX k0 X w0 w → (execOp a.eval o).run P w = .ok (.value (it.out.at (upd μ b w.heap.size))) (w.alloc (.cells e.before.toArray t))) : Cert P Q w0 k0 X ops i its bl olds o it := by
  intro μ a w K hK _ hbel
  rw [hk]
  intro e' hb' h
  rw [hb] at hb'
  obtain rfl : e = e' := Option.some.inj hb'
  unfold Oper.wp
  rw [hrun μ a w hK hbel]
  exact h _ _ (Made.alloc w e.before t)
theorem cert_put (b : Nat) (hk : it.kind = .put b) (e : Bl) (hb : bl[b]? = some e) (T : TypeId) (x y : Operand) (ho : o.op = .store T x y) (hdn : o.dst = none) (hlen : e.after.length = e.before.length)
    (hx : ∀ (μ : Nat → Nat) (a : Act), Known ops i its olds it.need μ a → a.eval x = (SV.p b 0).at μ) (hy : ∀ (μ : Nat → Nat) (a : Act), Known ops i its olds it.need μ a → a.eval y = .agg e.after.toArray)
    (hi : (P.info? T).map (·.size) = some e.after.length) (h1 : e.after.all (·.oneCell') = true) : Cert P Q w0 k0 X ops i its bl olds o it := by
  intro μ a w K hK _ _
  rw [hk]
  intro e' hb' ht hr h
  rw [hb] at hb'
  obtain rfl : e = e' := Option.some.inj hb'
  have hPT := PutTo.whole ht hr hlen
  refine wp_store_mid T x y ho (μ b) 0 e.after.toArray (hx μ a hK) (hy μ a hK) ?_ ?_ ?_ ?_
  · rw [List.size_toArray, hlen]; exact ht
  · rw [List.size_toArray]; exact hi
  · exact all_oneCell_toArray (fun v hv => List.all_eq_true.1 h1 v hv)
  · have := h _ hPT
    rw [hdn] at this ⊢
    exact this
theorem Known.op {need : List (Tmp × Nat)} {μ : Nat → Nat} {a : Act} (h : Known ops i its olds need μ a) (t : Tmp) (j : Nat) (hm : (t, j) ∈ need) {jt : It} (hj : its[j]? = some jt) : a.eval (.tmp t) = jt.out.at μ := h.1 t j jt hm hj
theorem Known.old {need : List (Tmp × Nat)} {μ : Nat → Nat} {a : Act} (h : Known ops i its olds need μ a) (t : Tmp) (s : SV) (hm : (t, s) ∈ olds) (hf : freeB ops its i t = true) : a.eval (.tmp t) = s.at μ := h.2 t s hm hf
theorem len1 {l : List Nat} (h : l.length = 1) : ∃ k, l = [k] := List.length_eq_one_iff.1 h
theorem len0 {l : List Nat} (h : l.length = 0) : l = [] := List.length_eq_zero_iff.1 h
theorem len2 {l : List Nat} (h : l.length = 2) : ∃ k j, l = [k, j] := by
  match l, h with
  | [k, j], _ => exact ⟨k, j, rfl⟩
end Go.Proofs.Ytboigmhioojenaa.RG
set_option linter.unusedVariables false
set_option linter.unusedSimpArgs false
namespace Go.Proofs.Ytboigmhioojenaa.RG
open Go Go.RowKit
variable {P : Program} {ops : Array Oper} {Q : Exit → Act → World → Prop} {w0 w : World} {k0 : Nat} {X : List Nat} {its : List It} {bl : List Bl} {olds : List (Tmp × SV)} {a0 : Act} {L : Array Bool} {μ μ0 : Nat → Nat} {i : Nat} {o : Oper} {it : It}
def Certs (P : Program) (Q : Exit → Act → World → Prop) (w0 : World) (k0 : Nat) (X : List Nat) (ops : Array Oper) (its : List It) (bl : List Bl) (olds : List (Tmp × SV)) : Nat → List Oper → List It → Prop
  | _, [], _ => True
  | _, _ :: _, [] => False
  | i, o :: os, it :: is => Cert P Q w0 k0 X ops i its bl olds o it ∧ Certs P Q w0 k0 X ops its bl olds (i + 1) os is
theorem Certs.get : ∀ {os : List Oper} {is : List It} {n : Nat}, Certs P Q w0 k0 X ops its bl olds n os is → ∀ (i : Nat) (o : Oper) (it : It), os[i]? = some o → is[i]? = some it → Cert P Q w0 k0 X ops (n + i) its bl olds o it
  | [], _, _, _, i, _, _, h, _ => by simp at h
  | _ :: _, [], _, h, _, _, _, _, _ => h.elim
  | o :: os, it :: is, _, h, 0, o', it', ho, hi => by
    obtain rfl : o = o' := by simpa using ho
    obtain rfl : it = it' := by simpa using hi
    exact h.1
  | o :: os, it :: is, n, h, i + 1, o', it', ho, hi => by
    have := Certs.get h.2 i o' it' (by simpa using ho) (by simpa using hi)
    rw [show n + (i + 1) = n + 1 + i by omega]
    exact this
def Olds (a0 : Act) (μ0 : Nat → Nat) : List (Tmp × SV) → Prop
  | [] => True
  | x :: r => a0.tmps[x.1]? = some (x.2.at μ0) ∧ Olds a0 μ0 r
theorem Olds.get : ∀ {l : List (Tmp × SV)}, Olds a0 μ0 l → ∀ (t : Tmp) (s : SV), (t, s) ∈ l → a0.tmps[t]? = some (s.at μ0)
  | [], _, _, _, h => by cases h
  | x :: r, h, t, s, hm => by
    rcases List.mem_cons.1 hm with e | e
    · subst e; exact h.1
    · exact Olds.get h.2 t s e
theorem Reg.mk' (chk : allB ops its bl olds a0.tmps.size = true) (old : Olds a0 μ0 olds) (cert : Certs P Q w0 k0 X ops its bl olds 0 ops.toList its) : Reg P ops Q w0 k0 X its bl olds a0 μ0 :=
  ⟨chk, fun t s hm => old.get t s hm, fun i o it ho hi => by have := cert.get i o it (by rw [Array.getElem?_toList]; exact ho) hi; rwa [Nat.zero_add] at this⟩
theorem cert_field (hk : it.kind = .stay) (T : TypeId) (t : Tmp) (f : Nat) (ho : o.op = .fieldAddr T (.tmp t) f) (b off off' : Nat) (hout : it.out = .p b off')
    (hx : ∀ (μ : Nat → Nat) (a : Act), Known ops i its olds it.need μ a → a.eval (.tmp t) = (SV.p b off).at μ)
    (hf : ∀ (k : Nat) (w : World), (Instr.fieldAt T (.pointer (some ⟨k, off, none⟩)) f).run P w = .ok (.pointer (some ⟨k, off', none⟩)) w) : Cert P Q w0 k0 X ops i its bl olds o it := by
  refine cert_stay hk fun μ a w hK _ => ?_
  unfold execOp
  rw [ho, hout]
  dsimp only
  rw [hx μ a hK]
  show ((Instr.fieldAt T (.pointer (some ⟨μ b, off, none⟩)) f) >>= fun v => pure (Next.value v)).run P w = _
  rw [Sem.run_bind, hf]
  rfl
theorem cert_call1 (hk : it.kind = .call) (f : FuncId) (t1 : Tmp) (v1 v : Value) (hout : it.out = .v v) (hrun : ∀ (a : Act) (w : World), (execOp a.eval o).run P w = .ok (.enter f #[a.eval (.tmp t1)]) w)
    (h1 : ∀ (μ : Nat → Nat) (a : Act), Known ops i its olds it.need μ a → a.eval (.tmp t1) = v1) (hc : ∀ w, Calls P f #[v1] w (Ret fun e w' => Below w.heap.size w w' ∧ e = v)) : Cert P Q w0 k0 X ops i its bl olds o it :=
  cert_call hk f #[v1] v hout (fun μ a w hK _ => by rw [hrun, h1 μ a hK]) (fun w _ => hc w)
theorem cert_call2 (hk : it.kind = .call) (f : FuncId) (t1 t2 : Tmp) (v1 v2 v : Value) (hout : it.out = .v v) (hrun : ∀ (a : Act) (w : World), (execOp a.eval o).run P w = .ok (.enter f #[a.eval (.tmp t1), a.eval (.tmp t2)]) w)
    (h1 : ∀ (μ : Nat → Nat) (a : Act), Known ops i its olds it.need μ a → a.eval (.tmp t1) = v1) (h2 : ∀ (μ : Nat → Nat) (a : Act), Known ops i its olds it.need μ a → a.eval (.tmp t2) = v2)
    (hc : ∀ w, Calls P f #[v1, v2] w (Ret fun e w' => Below w.heap.size w w' ∧ e = v)) : Cert P Q w0 k0 X ops i its bl olds o it :=
  cert_call hk f #[v1, v2] v hout (fun μ a w hK _ => by rw [hrun, h1 μ a hK, h2 μ a hK]) (fun w _ => hc w)
theorem cert_call3 (hk : it.kind = .call) (f : FuncId) (t1 t2 t3 : Tmp) (v1 v2 v3 v : Value) (hout : it.out = .v v) (hrun : ∀ (a : Act) (w : World), (execOp a.eval o).run P w = .ok (.enter f #[a.eval (.tmp t1), a.eval (.tmp t2), a.eval (.tmp t3)]) w)
    (h1 : ∀ (μ : Nat → Nat) (a : Act), Known ops i its olds it.need μ a → a.eval (.tmp t1) = v1) (h2 : ∀ (μ : Nat → Nat) (a : Act), Known ops i its olds it.need μ a → a.eval (.tmp t2) = v2) (h3 : ∀ (μ : Nat → Nat) (a : Act), Known ops i its olds it.need μ a → a.eval (.tmp t3) = v3)
    (hc : ∀ w, Calls P f #[v1, v2, v3] w (Ret fun e w' => Below w.heap.size w w' ∧ e = v)) : Cert P Q w0 k0 X ops i its bl olds o it :=
  cert_call hk f #[v1, v2, v3] v hout (fun μ a w hK _ => by rw [hrun, h1 μ a hK, h2 μ a hK, h3 μ a hK]) (fun w _ => hc w)
theorem cert_call0 (hk : it.kind = .call) (f : FuncId) (v : Value) (hout : it.out = .v v) (hrun : ∀ (a : Act) (w : World), (execOp a.eval o).run P w = .ok (.enter f #[]) w)
    (hc : ∀ w, Calls P f #[] w (Ret fun e w' => Below w.heap.size w w' ∧ e = v)) : Cert P Q w0 k0 X ops i its bl olds o it :=
  cert_call hk f #[] v hout (fun _ a w _ _ => hrun a w) (fun w _ => hc w)
theorem at_made {b k : Nat} (hout : it.out = .p b 0) : it.out.at (upd μ b k) = .pointer (some ⟨k, 0, none⟩) := by
  rw [hout]
  show Value.pointer (some ⟨upd μ b k b, 0, none⟩) = _
  unfold upd
  rw [if_pos rfl]
theorem cert_alloc (b : Nat) (hk : it.kind = .make b) (hout : it.out = .p b 0) (e : Bl) (hb : bl[b]? = some e) (T : TypeId) (ho : o.op = .alloc T) (hz : ∀ w : World, (Instr.alloc T true (.tuple #[])).run P w = .ok (.pointer (some ⟨w.heap.size, 0, none⟩)) (w.alloc (.cells e.before.toArray T))) : Cert P Q w0 k0 X ops i its bl olds o it := by
  refine cert_make b hk e hb T fun μ a w hK _ => ?_
  unfold execOp
  rw [ho]
  rw [at_made hout]
  show ((Instr.alloc T true (.tuple #[])) >>= fun v => pure (Next.value v)).run P w = _
  rw [Sem.run_bind, hz]
  rfl
theorem cert_box (b : Nat) (hk : it.kind = .make b) (hout : it.out = .p b 0) (e : Bl) (hb : bl[b]? = some e) (T : TypeId) (t : Tmp) (ho : o.op = .box T (.tmp t)) (v : Value) (h1 : ∀ (μ : Nat → Nat) (a : Act), Known ops i its olds it.need μ a → a.eval (.tmp t) = v)
    (hz : ∀ w : World, (Instr.box T v).run P w = .ok (.pointer (some ⟨w.heap.size, 0, none⟩)) (w.alloc (.cells e.before.toArray T))) : Cert P Q w0 k0 X ops i its bl olds o it := by
  refine cert_make b hk e hb T fun μ a w hK _ => ?_
  unfold execOp
  rw [ho]
  dsimp only
  rw [h1 μ a hK, at_made hout]
  show ((Instr.box T v) >>= fun v => pure (Next.value v)).run P w = _
  rw [Sem.run_bind, hz]
  rfl
theorem cert_build2 (hk : it.kind = .stay) (T : TypeId) (t1 t2 : Tmp) (ho : o.op = .build T #[(0, .tmp t1), (1, .tmp t2)]) (v1 v2 v : Value) (hout : it.out = .v v)
    (h1 : ∀ (μ : Nat → Nat) (a : Act), Known ops i its olds it.need μ a → a.eval (.tmp t1) = v1) (h2 : ∀ (μ : Nat → Nat) (a : Act), Known ops i its olds it.need μ a → a.eval (.tmp t2) = v2)
    (hb : ∀ w : World, (Instr.build T #[(0, v1), (1, v2)]).run P w = .ok v w) : Cert P Q w0 k0 X ops i its bl olds o it := by
  refine cert_stay hk fun μ a w hK _ => ?_
  unfold execOp
  rw [ho, hout]
  dsimp only
  simp only [List.map_toArray, List.map_cons, List.map_nil, h1 μ a hK, h2 μ a hK]
  rw [Sem.run_bind, hb]
  rfl
theorem cert_build3 (hk : it.kind = .stay) (T : TypeId) (t1 t2 t3 : Tmp) (ho : o.op = .build T #[(0, .tmp t1), (1, .tmp t2), (2, .tmp t3)]) (v1 v2 v3 v : Value) (hout : it.out = .v v)
    (h1 : ∀ (μ : Nat → Nat) (a : Act), Known ops i its olds it.need μ a → a.eval (.tmp t1) = v1) (h2 : ∀ (μ : Nat → Nat) (a : Act), Known ops i its olds it.need μ a → a.eval (.tmp t2) = v2) (h3 : ∀ (μ : Nat → Nat) (a : Act), Known ops i its olds it.need μ a → a.eval (.tmp t3) = v3)
    (hb : ∀ w : World, (Instr.build T #[(0, v1), (1, v2), (2, v3)]).run P w = .ok v w) : Cert P Q w0 k0 X ops i its bl olds o it := by
  refine cert_stay hk fun μ a w hK _ => ?_
  unfold execOp
  rw [ho, hout]
  dsimp only
  simp only [List.map_toArray, List.map_cons, List.map_nil, h1 μ a hK, h2 μ a hK, h3 μ a hK]
  rw [Sem.run_bind, hb]
  rfl
theorem results_row {fn : Func} {a : Act} {cs : List (List Value)} {ks : List Nat} (hS : St w0 k0 X cs ks w) (t : Tmp) (T : TypeId) (hr : fn.results = #[.cell t T]) (b : Nat) (c : List Value) (hc : cs[b]? = some c) (ht : a.tmps[t]? = some (.pointer (some ⟨ad ks b, 0, none⟩)))
    (hu : (P.underlying T).map (·.isRow) = some true) (hi : (P.info? T).map (·.size) = some c.length) : (results fn a.tmps).run P w = .ok (.agg c.toArray) w := by
  obtain ⟨d, hu, hd⟩ := Option.map_eq_some_iff.1 hu
  have h1 := run_loadVar_mid (P := P) w (ad ks b) 0 T c d (hS.has b c hc).1 hu hd hi
  have h2 : a.tmps.getD t undef = .pointer (some ⟨ad ks b, 0, none⟩) := by rw [Array.getD_eq_getD_getElem?, ht]; rfl
  unfold results
  rw [hr]
  simp only [Array.mapM_eq_mapM_toList, List.mapM_cons, List.mapM_nil, h2, asAddr]
  simp [Sem.run_bind, h1]
theorem len3 {l : List Nat} (h : l.length = 3) : ∃ k j i, l = [k, j, i] := by
  match l, h with
  | [k, j, i], _ => exact ⟨k, j, i, rfl⟩
theorem St.begin (w : World) : St w w.heap.size [] [] [] w := ⟨BelX.refl _ _ _, Nat.le_refl _, rfl, fun b c h => by simp at h, fun b c h => by simp at h⟩
end Go.Proofs.Ytboigmhioojenaa.RG
set_option linter.unusedVariables false
set_option linter.unusedSimpArgs false
namespace Go.Proofs.Ytboigmhioojenaa.RG
open Go Go.RowKit
variable {P : Program} {ops : Array Oper} {Q : Exit → Act → World → Prop} {w0 w : World} {k0 : Nat} {X : List Nat} {its : List It} {bl : List Bl} {olds : List (Tmp × SV)} {a0 : Act} {i : Nat} {o : Oper} {it : It}
theorem cert_pass (hk : it.kind = .pass) (h : it.out = .v undef) : Cert P Q w0 k0 X ops i its bl olds o it := by
  intro μ a w K _ _ _
  rw [hk]
  exact h
theorem cert_move (hk : it.kind = .stay) (t : Tmp) (ho : o.op = .move (.tmp t) ∨ o.op = .assign (.tmp t)) (hx : ∀ (μ : Nat → Nat) (a : Act), Known ops i its olds it.need μ a → a.eval (.tmp t) = it.out.at μ) : Cert P Q w0 k0 X ops i its bl olds o it := by
  refine cert_stay hk fun μ a w hK _ => ?_
  unfold execOp
  rcases ho with ho | ho <;> rw [ho] <;> dsimp only <;> rw [hx μ a hK] <;> rfl
theorem cert_pick_t (hk : it.kind = .stay) (c t : Tmp) (y : Operand) (ho : o.op = .pick (.tmp c) (.tmp t) y) (hc : ∀ (μ : Nat → Nat) (a : Act), Known ops i its olds it.need μ a → a.eval (.tmp c) = .bool true) (hx : ∀ (μ : Nat → Nat) (a : Act), Known ops i its olds it.need μ a → a.eval (.tmp t) = it.out.at μ) : Cert P Q w0 k0 X ops i its bl olds o it := by
  refine cert_stay hk fun μ a w hK _ => ?_
  unfold execOp
  rw [ho]
  dsimp only
  rw [hc μ a hK, hx μ a hK]
  rfl
theorem cert_pick_f (hk : it.kind = .stay) (c t : Tmp) (y : Value) (ho : o.op = .pick (.tmp c) (.tmp t) (.const y)) (hc : ∀ (μ : Nat → Nat) (a : Act), Known ops i its olds it.need μ a → a.eval (.tmp c) = .bool false) (hx : it.out = .v y) : Cert P Q w0 k0 X ops i its bl olds o it := by
  refine cert_stay hk fun μ a w hK _ => ?_
  unfold execOp
  rw [ho]
  dsimp only
  rw [hc μ a hK, hx]
  rfl
theorem cert_pick_ct (hk : it.kind = .stay) (c : Tmp) (x : Value) (y : Operand) (ho : o.op = .pick (.tmp c) (.const x) y) (hc : ∀ (μ : Nat → Nat) (a : Act), Known ops i its olds it.need μ a → a.eval (.tmp c) = .bool true) (hx : it.out = .v x) : Cert P Q w0 k0 X ops i its bl olds o it := by
  refine cert_stay hk fun μ a w hK _ => ?_
  unfold execOp
  rw [ho]
  dsimp only
  rw [hc μ a hK, hx]
  rfl
theorem cert_pick_cf (hk : it.kind = .stay) (c t : Tmp) (x : Operand) (ho : o.op = .pick (.tmp c) x (.tmp t)) (hc : ∀ (μ : Nat → Nat) (a : Act), Known ops i its olds it.need μ a → a.eval (.tmp c) = .bool false) (hx : ∀ (μ : Nat → Nat) (a : Act), Known ops i its olds it.need μ a → a.eval (.tmp t) = it.out.at μ) : Cert P Q w0 k0 X ops i its bl olds o it := by
  refine cert_stay hk fun μ a w hK _ => ?_
  unfold execOp
  rw [ho]
  dsimp only
  rw [hc μ a hK, hx μ a hK]
  rfl
theorem cert_build1 (hk : it.kind = .stay) (T : TypeId) (n : Nat) (t1 : Tmp) (ho : o.op = .build T #[(n, .tmp t1)]) (v1 v : Value) (hout : it.out = .v v)
    (h1 : ∀ (μ : Nat → Nat) (a : Act), Known ops i its olds it.need μ a → a.eval (.tmp t1) = v1)
    (hb : ∀ w : World, (Instr.build T #[(n, v1)]).run P w = .ok v w) : Cert P Q w0 k0 X ops i its bl olds o it := by
  refine cert_stay hk fun μ a w hK _ => ?_
  unfold execOp
  rw [ho, hout]
  dsimp only
  simp only [List.map_toArray, List.map_cons, List.map_nil, h1 μ a hK]
  rw [Sem.run_bind, hb]
  rfl
theorem cert_bin (hk : it.kind = .stay) (op : BinOp) (T T' : TypeId) (t1 t2 : Tmp) (v1 v2 v : Value) (ho : o.op = .binOp op T (.tmp t1) (.tmp t2) T') (hout : it.out = .v v)
    (h1 : ∀ (μ : Nat → Nat) (a : Act), Known ops i its olds it.need μ a → a.eval (.tmp t1) = v1) (h2 : ∀ (μ : Nat → Nat) (a : Act), Known ops i its olds it.need μ a → a.eval (.tmp t2) = v2)
    (hg : ∀ w, (eqGuard op T (.tmp t1) (.tmp t2) v1 v2).run P w = .ok () w) (hb : ∀ w, (binOp op T v1 v2).run P w = .ok v w) : Cert P Q w0 k0 X ops i its bl olds o it := by
  refine cert_stay hk fun μ a w hK _ => ?_
  unfold execOp
  rw [ho, hout]
  dsimp only
  rw [h1 μ a hK, h2 μ a hK, Sem.run_bind, Sem.run_bind, hg]
  dsimp only [Result.andThen]
  rw [hb]
  rfl
theorem cert_not (hk : it.kind = .stay) (T : TypeId) (t : Tmp) (b : Bool) (ho : o.op = .unOp .not T (.tmp t)) (hout : it.out = .v (.bool (!b)))
    (h1 : ∀ (μ : Nat → Nat) (a : Act), Known ops i its olds it.need μ a → a.eval (.tmp t) = .bool b) : Cert P Q w0 k0 X ops i its bl olds o it := by
  refine cert_stay hk fun μ a w hK _ => ?_
  unfold execOp
  rw [ho, hout]
  dsimp only
  rw [h1 μ a hK]
  cases b <;> rfl
theorem cert_extract (hk : it.kind = .stay) (t : Tmp) (n : Nat) (vs : Array Value) (v : Value) (hv : vs[n]? = some v) (ho : o.op = .extract (.tmp t) n) (hout : it.out = .v v)
    (h1 : ∀ (μ : Nat → Nat) (a : Act), Known ops i its olds it.need μ a → a.eval (.tmp t) = .tuple vs) : Cert P Q w0 k0 X ops i its bl olds o it := by
  refine cert_stay hk fun μ a w hK _ => ?_
  unfold execOp
  rw [ho, hout]
  dsimp only
  rw [h1 μ a hK]
  simp [Instr.extract, hv, Sem.run_bind, SV.at]
theorem results_t {fn : Func} {a : Act} (t : Tmp) (hr : fn.results = #[.tmp t]) (v : Value) (ht : a.tmps[t]? = some v) : (results fn a.tmps).run P w = .ok v w := by
  have h2 : a.tmps.getD t undef = v := by rw [Array.getD_eq_getD_getElem?, ht]; rfl
  unfold results
  rw [hr]
  simp only [Array.mapM_eq_mapM_toList, List.mapM_cons, List.mapM_nil, h2]
  simp [Sem.run_bind]
theorem results_rt {fn : Func} {a : Act} {cs : List (List Value)} {ks : List Nat} (hS : St w0 k0 X cs ks w) (t u : Tmp) (T : TypeId) (hr : fn.results = #[.cell t T, .tmp u]) (b : Nat) (c : List Value) (hc : cs[b]? = some c) (ht : a.tmps[t]? = some (.pointer (some ⟨ad ks b, 0, none⟩))) (v : Value) (hu2 : a.tmps[u]? = some v)
    (hu : (P.underlying T).map (·.isRow) = some true) (hi : (P.info? T).map (·.size) = some c.length) : (results fn a.tmps).run P w = .ok (.tuple #[.agg c.toArray, v]) w := by
  obtain ⟨d, hu, hd⟩ := Option.map_eq_some_iff.1 hu
  have h1 := run_loadVar_mid (P := P) w (ad ks b) 0 T c d (hS.has b c hc).1 hu hd hi
  have h2 : a.tmps.getD t undef = .pointer (some ⟨ad ks b, 0, none⟩) := by rw [Array.getD_eq_getD_getElem?, ht]; rfl
  have h3 : a.tmps.getD u undef = v := by rw [Array.getD_eq_getD_getElem?, hu2]; rfl
  unfold results
  rw [hr]
  simp only [Array.mapM_eq_mapM_toList, List.mapM_cons, List.mapM_nil, h2, h3, asAddr]
  simp [Sem.run_bind, h1]
end Go.Proofs.Ytboigmhioojenaa.RG
set_option linter.unusedVariables false
set_option linter.unusedSimpArgs false
namespace Go.Proofs.Ytboigmhioojenaa.RG
open Go Go.RowKit
variable {P : Program} {ops : Array Oper} {Q : Exit → Act → World → Prop} {w0 w : World} {k0 : Nat} {X : List Nat} {its : List It} {bl : List Bl} {olds : List (Tmp × SV)} {a0 a : Act} {i : Nat} {o : Oper} {it : It} {μ : Nat → Nat}
/-- How many slots; no call is put off. -/
structure Sl (a : Act) (n : Nat) : Prop where
  size : a.tmps.size = n
  defers : a.defers = []
theorem Sl.puts {n : Nat} (h : Sl a n) : Sl (puts μ its a) n := ⟨by rw [puts_size]; exact h.size, by rw [puts_defers]; exact h.defers⟩
theorem put_old {t : Tmp} {v : Value} (h : a.tmps[t]? = some v) (hc : its.all (fun it => it.dst != some t) = true) : (puts μ its a).tmps[t]? = some v := by
  rw [puts_other μ its a t (fun it hm => by simpa using List.all_eq_true.1 hc it hm)]
  exact h
theorem put_new {n : Nat} (hl : Sl a n) (j : Nat) {jt : It} {d : Tmp} (hB : dstB its = true) (hj : its[j]? = some jt) (hd : jt.dst = some d) (hs : decide (d < n) = true) : (puts μ its a).tmps[d]? = some (jt.out.at μ) :=
  puts_same μ its a j jt d hB hj hd (by rw [hl.size]; simpa using hs)
theorem eval_of {t : Tmp} {v : Value} (h : a.tmps[t]? = some v) : a.eval (.tmp t) = v := by
  show a.tmps.getD t undef = v
  rw [Array.getD_eq_getD_getElem?, h]
  rfl
theorem results_none {fn : Func} {tmps : Array Value} (hr : fn.results = #[]) : (results fn tmps).run P w = .ok (.tuple #[]) w := by
  unfold results
  rw [hr]
  simp
theorem var1 {c : Code} {v0 : Value} {n : Nat} (h0 : a.tmps[0]? = some v0) (hs : a.tmps.size = n) (hd : a.defers = []) (h : ∀ a, Sl a n → a.tmps[0]? = some v0 → c.wp P Q a w) : c.wp P Q a w := h a ⟨hs, hd⟩ h0
theorem var2 {c : Code} {v0 v1 : Value} {n : Nat} (h0 : a.tmps[0]? = some v0) (h1 : a.tmps[1]? = some v1) (hs : a.tmps.size = n) (hd : a.defers = []) (h : ∀ a, Sl a n → a.tmps[0]? = some v0 → a.tmps[1]? = some v1 → c.wp P Q a w) : c.wp P Q a w := h a ⟨hs, hd⟩ h0 h1
theorem var3 {c : Code} {v0 v1 v2 : Value} {n : Nat} (h0 : a.tmps[0]? = some v0) (h1 : a.tmps[1]? = some v1) (h2 : a.tmps[2]? = some v2) (hs : a.tmps.size = n) (hd : a.defers = []) (h : ∀ a, Sl a n → a.tmps[0]? = some v0 → a.tmps[1]? = some v1 → a.tmps[2]? = some v2 → c.wp P Q a w) : c.wp P Q a w := h a ⟨hs, hd⟩ h0 h1 h2
theorem cert_nil (hk : it.kind = .stay) (t : Tmp) (ho : o.op = .nilCheck (.tmp t)) (s : SV) (hs : ∀ μ : Nat → Nat, ∃ p : Addr, s.at μ = .pointer (some p)) (hout : it.out = s) (hx : ∀ (μ : Nat → Nat) (a : Act), Known ops i its olds it.need μ a → a.eval (.tmp t) = s.at μ) : Cert P Q w0 k0 X ops i its bl olds o it := by
  refine cert_stay hk fun μ a w hK _ => ?_
  obtain ⟨p, hp⟩ := hs μ
  unfold execOp
  rw [ho, hout]
  dsimp only
  rw [hx μ a hK, hp]
  rfl
theorem cert_call2c (hk : it.kind = .call) (f : FuncId) (t1 t2 : Tmp) (v1 v2 c v : Value) (hout : it.out = .v v) (hrun : ∀ (a : Act) (w : World), (execOp a.eval o).run P w = .ok (.enter f #[a.eval (.tmp t1), a.eval (.tmp t2), c]) w)
    (h1 : ∀ (μ : Nat → Nat) (a : Act), Known ops i its olds it.need μ a → a.eval (.tmp t1) = v1) (h2 : ∀ (μ : Nat → Nat) (a : Act), Known ops i its olds it.need μ a → a.eval (.tmp t2) = v2)
    (hc : ∀ w, Calls P f #[v1, v2, c] w (Ret fun e w' => Below w.heap.size w w' ∧ e = v)) : Cert P Q w0 k0 X ops i its bl olds o it :=
  cert_call hk f #[v1, v2, c] v hout (fun μ a w hK _ => by rw [hrun, h1 μ a hK, h2 μ a hK]) (fun w _ => hc w)
theorem cert_fieldV (hk : it.kind = .stay) (T : TypeId) (t : Tmp) (f : Nat) (v v' : Value) (ho : o.op = .fieldAddr T (.tmp t) f) (hout : it.out = .v v') (hx : ∀ (μ : Nat → Nat) (a : Act), Known ops i its olds it.need μ a → a.eval (.tmp t) = v)
    (hf : ∀ w : World, (Instr.fieldAt T v f).run P w = .ok v' w) : Cert P Q w0 k0 X ops i its bl olds o it := by
  refine cert_stay hk fun μ a w hK _ => ?_
  unfold execOp
  rw [ho, hout]
  dsimp only
  rw [hx μ a hK, Sem.run_bind, hf]
  rfl
/-- make([]T, n). -/
theorem cert_makes (b : Nat) (hk : it.kind = .make b) (e : Bl) (hb : bl[b]? = some e) (T E : TypeId) (t1 t2 : Tmp) (n : Nat) (hout : it.out = .s b n n) (ho : o.op = .makeSlice T (.tmp t1) (.tmp t2))
    (h1 : ∀ (μ : Nat → Nat) (a : Act), Known ops i its olds it.need μ a → a.eval (.tmp t1) = .int .i64 (n : Int)) (h2 : ∀ (μ : Nat → Nat) (a : Act), Known ops i its olds it.need μ a → a.eval (.tmp t2) = .int .i64 (n : Int))
    (hz : ∀ w : World, (Instr.makeSlice T (.int .i64 (n : Int)) (.int .i64 (n : Int))).run P w = .ok (.slice (some ⟨w.heap.size, 0, none⟩) n n) (w.alloc (.cells e.before.toArray E))) : Cert P Q w0 k0 X ops i its bl olds o it := by
  refine cert_make b hk e hb E fun μ a w hK _ => ?_
  have hm : it.out.at (upd μ b w.heap.size) = .slice (some ⟨w.heap.size, 0, none⟩) n n := by
    rw [hout]
    show Value.slice (some ⟨upd μ b w.heap.size b, 0, none⟩) n n = _
    unfold upd
    rw [if_pos rfl]
  unfold execOp
  rw [ho]
  dsimp only
  rw [h1 μ a hK, h2 μ a hK, hm, Sem.run_bind, hz]
  rfl
/-- An operation on one slot: len of a slice. -/
theorem cert_one (hk : it.kind = .stay) (t : Tmp) (s : SV) (v : Value) (hout : it.out = .v v) (hx : ∀ (μ : Nat → Nat) (a : Act), Known ops i its olds it.need μ a → a.eval (.tmp t) = s.at μ)
    (hE : ∀ (a : Act) (w : World), (execOp a.eval o).run P w = (execOp (fun _ => a.eval (.tmp t)) o).run P w) (hV : ∀ (μ : Nat → Nat) (w : World), (execOp (fun _ => s.at μ) o).run P w = .ok (.value v) w) : Cert P Q w0 k0 X ops i its bl olds o it := by
  refine cert_stay hk fun μ a w hK _ => ?_
  rw [hE, hx μ a hK, hV, hout]
  rfl
/-- A call that reads one of the blocks. -/
theorem cert_callM (hk : it.kind = .call) (b : Nat) (e : Bl) (hb : bl[b]? = some e) (hal : e.al = none) (hst : readB ops i e = true) (he : e.before ≠ []) (f : FuncId) (args : (Nat → Nat) → Array Value) (v : Value) (hout : it.out = .v v) (hrun : ∀ (μ : Nat → Nat) (a : Act) (w : World), Known ops i its olds it.need μ a → (execOp a.eval o).run P w = .ok (.enter f (args μ)) w)
    (hc : ∀ (μ : Nat → Nat) (w : World), μ b < w.heap.size → w.rangeAt (μ b) 0 e.before → Calls P f (args μ) w (Ret fun r w' => Below w.heap.size w w' ∧ r = v)) : Cert P Q w0 k0 X ops i its bl olds o it := by
  intro μ a w K hK hR _
  rw [hk]
  intro h
  rw [hout] at h
  have hr := hR b e hb (Or.inl hal) hst
  have hlt : μ b < w.heap.size := by
    cases hee : e.before with
    | nil => exact absurd hee he
    | cons x r =>
      have h1 := hr 0 x (by rw [hee]; rfl)
      exact Classical.byContradiction fun hn => by
        have h2 : w.heap[μ b]? = none := Array.getElem?_eq_none (by omega)
        simp [World.cell?, h2] at h1
  unfold Oper.wp
  rw [hrun μ a w hK, Oper.upon_enter]
  refine (hc μ w hlt hr).mono ?_
  rintro r w' ⟨v', rfl, hb', rfl⟩
  exact h w' hb'
theorem range_sub {k o : Nat} {C cs : List Value} (h : w.rangeAt k 0 C) (hs : ∀ j, j < cs.length → C[o + j]? = cs[j]?) : w.rangeAt k o cs := fun j v hv => by
  have hj : j < cs.length := (List.getElem?_eq_some_iff.1 hv).1
  have := h (o + j) v (by rw [hs j hj]; exact hv)
  rwa [Nat.zero_add] at this
theorem cert_idx (hk : it.kind = .stay) (T : TypeId) (t u : Tmp) (ho : o.op = .indexAddr T (.tmp t) (.tmp u)) (s : SV) (iv : Value) (hx : ∀ (μ : Nat → Nat) (a : Act), Known ops i its olds it.need μ a → a.eval (.tmp t) = s.at μ) (hy : ∀ (μ : Nat → Nat) (a : Act), Known ops i its olds it.need μ a → a.eval (.tmp u) = iv)
    (hf : ∀ (μ : Nat → Nat) (w : World), (Instr.indexAt T (s.at μ) iv).run P w = .ok (it.out.at μ) w) : Cert P Q w0 k0 X ops i its bl olds o it := by
  refine cert_stay hk fun μ a w hK _ => ?_
  unfold execOp
  rw [ho]
  dsimp only
  rw [hx μ a hK, hy μ a hK, Sem.run_bind, hf]
  rfl
theorem cert_idxc (hk : it.kind = .stay) (T : TypeId) (t : Tmp) (iv : Value) (ho : o.op = .indexAddr T (.tmp t) (.const iv)) (s : SV) (hx : ∀ (μ : Nat → Nat) (a : Act), Known ops i its olds it.need μ a → a.eval (.tmp t) = s.at μ)
    (hf : ∀ (μ : Nat → Nat) (w : World), (Instr.indexAt T (s.at μ) iv).run P w = .ok (it.out.at μ) w) : Cert P Q w0 k0 X ops i its bl olds o it := by
  refine cert_stay hk fun μ a w hK _ => ?_
  unfold execOp
  rw [ho]
  dsimp only
  rw [hx μ a hK]
  show ((Instr.indexAt T (s.at μ) iv) >>= fun v => pure (Next.value v)).run P w = _
  rw [Sem.run_bind, hf]
  rfl
theorem cert_binc (hk : it.kind = .stay) (op : BinOp) (T T' : TypeId) (t1 : Tmp) (v1 v2 v : Value) (ho : o.op = .binOp op T (.tmp t1) (.const v2) T') (hout : it.out = .v v)
    (h1 : ∀ (μ : Nat → Nat) (a : Act), Known ops i its olds it.need μ a → a.eval (.tmp t1) = v1)
    (hg : ∀ w, (eqGuard op T (.tmp t1) (.const v2) v1 v2).run P w = .ok () w) (hb : ∀ w, (binOp op T v1 v2).run P w = .ok v w) : Cert P Q w0 k0 X ops i its bl olds o it := by
  refine cert_stay hk fun μ a w hK _ => ?_
  unfold execOp
  rw [ho, hout]
  dsimp only
  rw [h1 μ a hK]
  show (((eqGuard op T (.tmp t1) (.const v2) v1 v2) >>= fun _ => binOp op T v1 v2) >>= fun v => pure (Next.value v)).run P w = _
  rw [Sem.run_bind, Sem.run_bind, hg]
  dsimp only [Result.andThen]
  rw [hb]
  rfl
theorem cert_conv (hk : it.kind = .stay) (S T : TypeId) (t : Tmp) (v v' : Value) (ho : o.op = .convert S T (.tmp t)) (hout : it.out = .v v') (hx : ∀ (μ : Nat → Nat) (a : Act), Known ops i its olds it.need μ a → a.eval (.tmp t) = v) (hc : ∀ w, (convert S T v).run P w = .ok v' w) : Cert P Q w0 k0 X ops i its bl olds o it := by
  refine cert_stay hk fun μ a w hK _ => ?_
  unfold execOp
  rw [ho, hout]
  dsimp only
  rw [hx μ a hK, Sem.run_bind, hc]
  rfl
theorem cert_un (hk : it.kind = .stay) (op : UnOp) (T : TypeId) (t : Tmp) (v v' : Value) (ho : o.op = .unOp op T (.tmp t)) (hout : it.out = .v v') (hx : ∀ (μ : Nat → Nat) (a : Act), Known ops i its olds it.need μ a → a.eval (.tmp t) = v) (hc : ∀ w, (Op.unary op v).run P w = .ok v' w) : Cert P Q w0 k0 X ops i its bl olds o it := by
  refine cert_stay hk fun μ a w hK _ => ?_
  unfold execOp
  rw [ho, hout]
  dsimp only
  rw [hx μ a hK, Sem.run_bind, hc]
  rfl
/-- A load of memory that was there before the call. -/
theorem cert_loadB (hk : it.kind = .stay) (k off : Nat) (hk0 : k < k0) (hX : k ∉ X) (T : TypeId) (t : Tmp) (ho : o.op = .load T (.tmp t)) (cs : List Value) (hout : it.out = .v (.agg cs.toArray))
    (hx : ∀ (μ : Nat → Nat) (a : Act), Known ops i its olds it.need μ a → a.eval (.tmp t) = .pointer (some ⟨k, off, none⟩)) (hr : w0.rangeAt k off cs)
    (hu : (P.underlying T).map (·.isRow) = some true) (hi : (P.info? T).map (·.size) = some cs.length) : Cert P Q w0 k0 X ops i its bl olds o it := by
  intro μ a w K hK _ hb
  rw [hk]
  intro h
  rw [hout] at h
  obtain ⟨d, hu, hd⟩ := Option.map_eq_some_iff.1 hu
  refine wp_load_mid T (.tmp t) ho k off (hx μ a hK) cs d (fun j v hj => ?_) hu hd hi h
  rw [World.cell?_of_block (w := w0) (a := ⟨k, off + j, none⟩) (hb.block k hk0 hX)]
  exact hr j v hj
theorem run_load1 {T : TypeId} {k off : Nat} {v : Value} (hc : w.cell? ⟨k, off, none⟩ = some v) (hu : (P.underlying T).map (·.isRow) = some false) : (Instr.loadAt T (.pointer (some ⟨k, off, none⟩))).run P w = .ok v w := by
  obtain ⟨d, hu, hd⟩ := Option.map_eq_some_iff.1 hu
  have hagg : (isAgg T).run P w = .ok false w := by
    unfold isAgg
    rw [Sem.run_bind, run_underlying hu w]
    cases d <;> simp_all
  simp [Instr.loadAt, Instr.sureAddr, loadVar, Sem.run_bind, hagg, hc]
theorem cert_load1 (hk : it.kind = .stay) (b off : Nat) (e : Bl) (hb : bl[b]? = some e) (hal : e.al = none) (hst : readB ops i e = true) (T : TypeId) (t : Tmp) (ho : o.op = .load T (.tmp t)) (v : Value) (hout : it.out = .v v)
    (hx : ∀ (μ : Nat → Nat) (a : Act), Known ops i its olds it.need μ a → a.eval (.tmp t) = (SV.p b off).at μ) (hsub : e.before[off]? = some v)
    (hu : (P.underlying T).map (·.isRow) = some false) : Cert P Q w0 k0 X ops i its bl olds o it := by
  intro μ a w K hK hR _
  rw [hk]
  intro h
  rw [hout] at h
  have h1 := hR b e hb (Or.inl hal) hst off v hsub
  rw [Nat.zero_add] at h1
  unfold Oper.wp execOp
  rw [ho]
  dsimp only
  rw [hx μ a hK]
  show o.upon P a K Q (((Instr.loadAt T (.pointer (some ⟨μ b, off, none⟩))) >>= fun v => pure (Next.value v)).run P w)
  rw [Sem.run_bind, run_load1 h1 hu]
  exact h
theorem run_store1 {T : TypeId} {k off : Nat} {v u : Value} (hc : w.cell? ⟨k, off, none⟩ = some u) (hf : w.frozen? ⟨k, off, none⟩ = false) (h1 : v.oneCell' = true) (hv : v.cells = #[v]) (hi : (P.info? T).map (·.size) = some 1) : (Instr.storeAt T (.pointer (some ⟨k, off, none⟩)) v).run P w = .ok () (w.setCells k off [v]) := by
  have := run_storeCells_cells (P := P) k off [v] 0 w (fun j hj => by
      obtain rfl : j = 0 := by simpa using hj
      simp [hc]) (fun j hj => by
      obtain rfl : j = 0 := by simpa using hj
      simpa using hf) (fun x hx => by
      obtain rfl : x = v := by simpa using hx
      exact h1)
  cases hq : P.info? T with
  | none => simp [hq] at hi
  | some inf =>
    have hs : inf.size = 1 := by simp [hq] at hi; omega
    simp only [Nat.add_zero] at this
    simp [Instr.storeAt, Instr.sureAddr, storeVar, sizeOf, typeInfo, hq, hv, hs, this]
/-- A store of one cell. -/
theorem cert_put1 (b off : Nat) (hk : it.kind = .put b) (e : Bl) (hb : bl[b]? = some e) (T : TypeId) (x y : Operand) (v : Value) (ho : o.op = .store T x y) (hdn : o.dst = none)
    (hx : ∀ (μ : Nat → Nat) (a : Act), Known ops i its olds it.need μ a → a.eval x = (SV.p b off).at μ) (hy : ∀ (μ : Nat → Nat) (a : Act), Known ops i its olds it.need μ a → a.eval y = v) (hoff : off < e.before.length) (hset : e.after = e.before.set off v)
    (hi : (P.info? T).map (·.size) = some 1) (h1 : v.oneCell' = true) (hv : v.cells = #[v]) : Cert P Q w0 k0 X ops i its bl olds o it := by
  intro μ a w K hK _ _
  rw [hk]
  intro e' hb' ht hr h
  rw [hb] at hb'
  obtain rfl : e = e' := Option.some.inj hb'
  have hPT : PutTo (μ b) e.before.length e.after w (w.setCells (μ b) off [v]) := PutTo.store ht hr (by simp only [List.length_cons, List.length_nil]; omega) (fun j => by
    rw [hset, List.getElem?_set]
    by_cases hj : off = j
    · subst hj
      rw [if_pos rfl, if_pos hoff, if_pos (by simp)]
      simp
    · rw [if_neg hj, if_neg (by simp only [List.length_cons, List.length_nil]; omega)])
  have ht' := ht off hoff
  rw [Nat.zero_add] at ht'
  obtain ⟨u, hu⟩ := Option.isSome_iff_exists.1 ht'.1
  unfold Oper.wp execOp
  rw [ho]
  dsimp only
  rw [hx μ a hK, hy μ a hK]
  show o.upon P a K Q (((Instr.storeAt T (.pointer (some ⟨μ b, off, none⟩)) v) >>= fun _ => pure Next.skip).run P w)
  rw [Sem.run_bind, run_store1 hu ht'.2 h1 hv hi]
  have := h _ hPT
  rw [hdn] at this
  show K (a.put o.dst undef) _
  rw [hdn]
  exact this
/-- A store of a row of cells into a part of a block. -/
theorem cert_putAt (b off : Nat) (hk : it.kind = .put b) (e : Bl) (hb : bl[b]? = some e) (T : TypeId) (x y : Operand) (vs : List Value) (ho : o.op = .store T x y) (hdn : o.dst = none)
    (hx : ∀ (μ : Nat → Nat) (a : Act), Known ops i its olds it.need μ a → a.eval x = (SV.p b off).at μ) (hy : ∀ (μ : Nat → Nat) (a : Act), Known ops i its olds it.need μ a → a.eval y = .agg vs.toArray) (hoff : off + vs.length ≤ e.before.length)
    (hset : ∀ j, e.after[j]? = if off ≤ j ∧ j < off + vs.length then vs[j - off]? else e.before[j]?)
    (hi : (P.info? T).map (·.size) = some vs.length) (h1 : vs.all (·.oneCell') = true) : Cert P Q w0 k0 X ops i its bl olds o it := by
  intro μ a w K hK _ _
  rw [hk]
  intro e' hb' ht hr h
  rw [hb] at hb'
  obtain rfl : e = e' := Option.some.inj hb'
  have hPT := PutTo.store ht hr hoff hset
  refine wp_store_mid T x y ho (μ b) off vs.toArray (hx μ a hK) (hy μ a hK) ?_ ?_ ?_ ?_
  · intro j hj
    have := ht (off + j) (by rw [List.size_toArray] at hj; omega)
    rwa [Nat.zero_add] at this
  · rw [List.size_toArray]; exact hi
  · exact all_oneCell_toArray (fun v hv => List.all_eq_true.1 h1 v hv)
  · have := h _ hPT
    rw [hdn] at this ⊢
    exact this
/-- A call that writes into a block. -/
theorem cert_callput (b : Nat) (hk : it.kind = .put b) (e : Bl) (hb : bl[b]? = some e) (f : FuncId) (args : (Nat → Nat) → Array Value) (v : Value) (hout : it.out = .v v) (hrun : ∀ (μ : Nat → Nat) (a : Act) (w : World), Known ops i its olds it.need μ a → BelX k0 X w0 w → (execOp a.eval o).run P w = .ok (.enter f (args μ)) w)
    (hc : ∀ (μ : Nat → Nat) (w : World), BelX k0 X w0 w → w.there (μ b) 0 e.before.length → w.rangeAt (μ b) 0 e.before → Calls P f (args μ) w (Ret fun r w' => PutTo (μ b) e.before.length e.after w w' ∧ r = v)) : Cert P Q w0 k0 X ops i its bl olds o it := by
  intro μ a w K hK _ hbel
  rw [hk]
  intro e' hb' ht hr h
  rw [hb] at hb'
  obtain rfl : e = e' := Option.some.inj hb'
  rw [hout] at h
  unfold Oper.wp
  rw [hrun μ a w hK hbel, Oper.upon_enter]
  refine (hc μ w hbel ht hr).mono ?_
  rintro r w' ⟨v', rfl, hp, rfl⟩
  exact h w' hp
theorem St.lent {k : Nat} {C : List Value} (hk : k < w.heap.size) (hr : w.rangeAt k 0 C) (ht : w.there k 0 C.length) : St w w.heap.size [k] [C] [k] w := by
  refine ⟨BelX.refl _ _ _, Nat.le_refl _, rfl, fun b c h => ?_, fun b c hb hc hne => ?_⟩
  · cases b with
    | zero =>
      obtain rfl : C = c := by simpa using h
      exact ⟨hr, ht, hk, Or.inr List.mem_cons_self⟩
    | succ b => simp at h
  · simp only [List.length_cons, List.length_nil] at hb hc
    omega
theorem St.putTo {k : Nat} {C : List Value} {cs : List (List Value)} {ks : List Nat} {n : Nat} (h : St w0 w0.heap.size [k] (C :: cs) (k :: ks) w) (hn : C.length = n) : PutTo k n C w0 w := by
  obtain ⟨h1, h2, -, -⟩ := h.has 0 C rfl
  refine ⟨h.bel.os, h.bel.tape, h.bel.output, h.bel.size, fun j hj hne => h.bel.block j hj (by simpa using hne), h1, ?_⟩
  rw [← hn]
  exact h2
def endB1 (its : List It) (bl : List Bl) : Bool :=
  bl.all (fun e => (match e.al with | none => true | some j => decide (j < its.length)) && (match e.st with | none => true | some j => decide (j < its.length)))
theorem endB1_st (h : endB1 its bl = true) : ∀ e ∈ bl, ∀ j, e.al = some j ∨ e.st = some j → j < its.length := by
  intro e he j hj
  have := List.all_eq_true.1 h e he
  simp only [Bool.and_eq_true] at this
  rcases hj with hj | hj
  · rw [hj] at this; simpa using this.1
  · rw [hj] at this; simpa using this.2
/-- Some cells of a list, replaced. -/
def rep (C : List Value) (o : Nat) (vs : List Value) : List Value := C.take o ++ (vs ++ C.drop (o + vs.length))
theorem rep_length {C vs : List Value} {o : Nat} (h : o + vs.length ≤ C.length) : (rep C o vs).length = C.length := by
  unfold rep
  rw [List.length_append, List.length_append, List.length_take, List.length_drop]
  omega
theorem rep_at {C vs : List Value} {o : Nat} (h : o + vs.length ≤ C.length) (j : Nat) : (rep C o vs)[j]? = if o ≤ j ∧ j < o + vs.length then vs[j - o]? else C[j]? := by
  unfold rep
  have hl : (C.take o).length = o := by rw [List.length_take]; omega
  by_cases h1 : j < o
  · rw [List.getElem?_append_left (by rw [hl]; exact h1), List.getElem?_take, if_pos h1, if_neg (by omega)]
  · rw [List.getElem?_append_right (by rw [hl]; omega), hl]
    by_cases h2 : j < o + vs.length
    · rw [List.getElem?_append_left (by omega), if_pos ⟨by omega, h2⟩]
    · rw [List.getElem?_append_right (by omega), if_neg (by omega), List.getElem?_drop]
      congr 1
      omega
theorem sub_of {C cs : List Value} {o : Nat} (h : ∀ j, j < cs.length → C[o + j]? = cs[j]?) (hl : o + cs.length ≤ C.length) : (C.drop o).take cs.length = cs := by
  apply List.ext_getElem?
  intro j
  by_cases hj : j < cs.length
  · rw [List.getElem?_take, if_pos hj, List.getElem?_drop, h j hj]
  · rw [List.getElem?_eq_none (by rw [List.length_take, List.length_drop]; omega), List.getElem?_eq_none (by omega)]
theorem cert_callput3 (b : Nat) (hk : it.kind = .put b) (e : Bl) (hb : bl[b]? = some e) (f : FuncId) (t1 t2 t3 : Tmp) (s1 : SV) (v2 v3 v : Value) (hout : it.out = .v v) (hrun : ∀ (a : Act) (w : World), (execOp a.eval o).run P w = .ok (.enter f #[a.eval (.tmp t1), a.eval (.tmp t2), a.eval (.tmp t3)]) w)
    (h1 : ∀ (μ : Nat → Nat) (a : Act), Known ops i its olds it.need μ a → a.eval (.tmp t1) = s1.at μ) (h2 : ∀ (μ : Nat → Nat) (a : Act), Known ops i its olds it.need μ a → a.eval (.tmp t2) = v2) (h3 : ∀ (μ : Nat → Nat) (a : Act), Known ops i its olds it.need μ a → a.eval (.tmp t3) = v3)
    (hc : ∀ (μ : Nat → Nat) (w : World), w.there (μ b) 0 e.before.length → w.rangeAt (μ b) 0 e.before → Calls P f #[s1.at μ, v2, v3] w (Ret fun r w' => PutTo (μ b) e.before.length e.after w w' ∧ r = v)) : Cert P Q w0 k0 X ops i its bl olds o it :=
  cert_callput b hk e hb f (fun μ => #[s1.at μ, v2, v3]) v hout (fun μ a w hK _ => by rw [hrun, h1 μ a hK, h2 μ a hK, h3 μ a hK]) (fun μ w _ ht hr => hc μ w ht hr)
theorem cert_callM2 (hk : it.kind = .call) (b : Nat) (e : Bl) (hb : bl[b]? = some e) (hal : e.al = none) (hst : readB ops i e = true) (he : e.before ≠ []) (f : FuncId) (t1 t2 : Tmp) (s1 : SV) (v2 v : Value) (hout : it.out = .v v) (hrun : ∀ (a : Act) (w : World), (execOp a.eval o).run P w = .ok (.enter f #[a.eval (.tmp t1), a.eval (.tmp t2)]) w)
    (h1 : ∀ (μ : Nat → Nat) (a : Act), Known ops i its olds it.need μ a → a.eval (.tmp t1) = s1.at μ) (h2 : ∀ (μ : Nat → Nat) (a : Act), Known ops i its olds it.need μ a → a.eval (.tmp t2) = v2)
    (hc : ∀ (μ : Nat → Nat) (w : World), μ b < w.heap.size → w.rangeAt (μ b) 0 e.before → Calls P f #[s1.at μ, v2] w (Ret fun r w' => Below w.heap.size w w' ∧ r = v)) : Cert P Q w0 k0 X ops i its bl olds o it :=
  cert_callM hk b e hb hal hst he f (fun μ => #[s1.at μ, v2]) v hout (fun μ a w hK => by rw [hrun, h1 μ a hK, h2 μ a hK]) hc
end Go.Proofs.Ytboigmhioojenaa.RG
set_option linter.unusedVariables false
set_option linter.unusedSimpArgs false
namespace Go.Proofs.Ytboigmhioojenaa.RG
open Go Go.RowKit
variable {P : Program} {ops : Array Oper} {Q : Exit → Act → World → Prop} {w0 w : World} {k0 : Nat} {X : List Nat} {its : List It} {bl : List Bl} {olds : List (Tmp × SV)} {a : Act} {i : Nat} {o : Oper} {it : It}
theorem cert_slice1 (hk : it.kind = .stay) (T : TypeId) (t : Tmp) (lo v v' : Value) (ho : o.op = .slice T (.tmp t) (some (.const lo)) none none) (hout : it.out = .v v') (hx : ∀ (μ : Nat → Nat) (a : Act), Known ops i its olds it.need μ a → a.eval (.tmp t) = v)
    (hf : ∀ w : World, (Instr.sliceAt T v (some lo) none none).run P w = .ok v' w) : Cert P Q w0 k0 X ops i its bl olds o it := by
  refine cert_stay hk fun μ a w hK _ => ?_
  unfold execOp
  rw [ho, hout]
  dsimp only
  rw [hx μ a hK]
  show ((Instr.sliceAt T v (some lo) none none) >>= fun v => pure (Next.value v)).run P w = _
  rw [Sem.run_bind, hf]
  rfl
theorem cert_s2a (hk : it.kind = .stay) (T : TypeId) (t : Tmp) (v v' : Value) (ho : o.op = .sliceToArrayPointer T (.tmp t)) (hout : it.out = .v v') (hx : ∀ (μ : Nat → Nat) (a : Act), Known ops i its olds it.need μ a → a.eval (.tmp t) = v)
    (hf : ∀ w : World, (Instr.arrayAt T v).run P w = .ok v' w) : Cert P Q w0 k0 X ops i its bl olds o it := by
  refine cert_stay hk fun μ a w hK _ => ?_
  unfold execOp
  rw [ho, hout]
  dsimp only
  rw [hx μ a hK, Sem.run_bind, hf]
  rfl
/-- A load of one cell that was there before the call. -/
theorem cert_load1B (hk : it.kind = .stay) (k off : Nat) (hk0 : k < k0) (hX : k ∉ X) (T : TypeId) (t : Tmp) (ho : o.op = .load T (.tmp t)) (v : Value) (hout : it.out = .v v)
    (hx : ∀ (μ : Nat → Nat) (a : Act), Known ops i its olds it.need μ a → a.eval (.tmp t) = .pointer (some ⟨k, off, none⟩)) (hr : w0.cell? ⟨k, off, none⟩ = some v)
    (hu : (P.underlying T).map (·.isRow) = some false) : Cert P Q w0 k0 X ops i its bl olds o it := by
  refine cert_stay hk fun μ a w hK hb => ?_
  have h1 : w.cell? ⟨k, off, none⟩ = some v := by
    rw [World.cell?_of_block (w := w0) (a := ⟨k, off, none⟩) (hb.block k hk0 hX)]
    exact hr
  unfold execOp
  rw [ho, hout]
  dsimp only
  rw [hx μ a hK, Sem.run_bind, run_load1 h1 hu]
  rfl
/-- A call of two slots, that may look at what was there before. -/
theorem cert_callB2 (hk : it.kind = .call) (f : FuncId) (t1 t2 : Tmp) (v1 v2 v : Value) (hout : it.out = .v v) (hrun : ∀ (a : Act) (w : World), (execOp a.eval o).run P w = .ok (.enter f #[a.eval (.tmp t1), a.eval (.tmp t2)]) w)
    (h1 : ∀ (μ : Nat → Nat) (a : Act), Known ops i its olds it.need μ a → a.eval (.tmp t1) = v1) (h2 : ∀ (μ : Nat → Nat) (a : Act), Known ops i its olds it.need μ a → a.eval (.tmp t2) = v2)
    (hc : ∀ w, BelX k0 X w0 w → Calls P f #[v1, v2] w (Ret fun e w' => Below w.heap.size w w' ∧ e = v)) : Cert P Q w0 k0 X ops i its bl olds o it :=
  cert_call hk f #[v1, v2] v hout (fun μ a w hK _ => by rw [hrun, h1 μ a hK, h2 μ a hK]) hc
theorem cert_callB1 (hk : it.kind = .call) (f : FuncId) (t1 : Tmp) (v1 v : Value) (hout : it.out = .v v) (hrun : ∀ (a : Act) (w : World), (execOp a.eval o).run P w = .ok (.enter f #[a.eval (.tmp t1)]) w)
    (h1 : ∀ (μ : Nat → Nat) (a : Act), Known ops i its olds it.need μ a → a.eval (.tmp t1) = v1)
    (hc : ∀ w, BelX k0 X w0 w → Calls P f #[v1] w (Ret fun e w' => Below w.heap.size w w' ∧ e = v)) : Cert P Q w0 k0 X ops i its bl olds o it :=
  cert_call hk f #[v1] v hout (fun μ a w hK _ => by rw [hrun, h1 μ a hK]) hc
theorem St.init {cs : List (List Value)} {c : List Value} {ks : List Nat} {k : Nat} (h : St w0 k0 X (cs ++ [c]) (ks ++ [k]) w) : St w0 k0 X cs ks w := by
  have hl : ks.length = cs.length := by have := h.len; simp only [List.length_append, List.length_cons, List.length_nil] at this; omega
  have had : ∀ b, b < cs.length → ad (ks ++ [k]) b = ad ks b := fun b hb => by
    unfold ad
    rw [List.getD_eq_getElem?_getD, List.getD_eq_getElem?_getD, List.getElem?_append_left (by omega)]
  refine ⟨h.bel, h.le, hl, fun b c' hb => ?_, fun b c' hb hc hne => ?_⟩
  · have hlt := (List.getElem?_eq_some_iff.1 hb).1
    have := h.has b c' (by rw [List.getElem?_append_left hlt]; exact hb)
    rwa [had b hlt] at this
  · have := h.inj b c' (by rw [List.length_append]; omega) (by rw [List.length_append]; omega) hne
    rwa [had b hb, had c' hc] at this
theorem results_tt {fn : Func} {a : Act} (t u : Tmp) (hr : fn.results = #[.tmp t, .tmp u]) (v v' : Value) (ht : a.tmps[t]? = some v) (hu : a.tmps[u]? = some v') : (results fn a.tmps).run P w = .ok (.tuple #[v, v']) w := by
  have h2 : a.tmps.getD t undef = v := by rw [Array.getD_eq_getD_getElem?, ht]; rfl
  have h3 : a.tmps.getD u undef = v' := by rw [Array.getD_eq_getD_getElem?, hu]; rfl
  unfold results
  rw [hr]
  simp only [Array.mapM_eq_mapM_toList, List.mapM_cons, List.mapM_nil, h2, h3]
  simp [Sem.run_bind]
end Go.Proofs.Ytboigmhioojenaa.RG
namespace Go.Proofs.Ytboigmhioojenaa.RG
open Go Go.RowKit
variable {P : Program} {ops : Array Oper} {Q : Exit → Act → World → Prop} {w0 w : World} {k0 : Nat} {X : List Nat} {its : List It} {bl : List Bl} {olds : List (Tmp × SV)} {a : Act} {i : Nat} {o : Oper} {it : It}
theorem cert_index (hk : it.kind = .stay) (T : TypeId) (t : Tmp) (lo v v' : Value) (ho : o.op = .index T (.tmp t) (.const lo)) (hout : it.out = .v v') (hx : ∀ (μ : Nat → Nat) (a : Act), Known ops i its olds it.need μ a → a.eval (.tmp t) = v)
    (hf : ∀ w : World, (Instr.index T v lo).run P w = .ok v' w) : Cert P Q w0 k0 X ops i its bl olds o it := by
  refine cert_stay hk fun μ a w hK _ => ?_
  unfold execOp
  rw [ho, hout]
  dsimp only
  rw [hx μ a hK]
  show ((Instr.index T v lo) >>= fun v => pure (Next.value v)).run P w = _
  rw [Sem.run_bind, hf]
  rfl
/-- A slice of one, built out of one value. -/
theorem cert_bs1 (b : Nat) (hk : it.kind = .make b) (e : Bl) (hb : bl[b]? = some e) (T E : TypeId) (t : Tmp) (v : Value) (hout : it.out = .s b 1 1) (ho : o.op = .buildSlice T 1 #[(0, .tmp t)])
    (hx : ∀ (μ : Nat → Nat) (a : Act), Known ops i its olds it.need μ a → a.eval (.tmp t) = v)
    (hz : ∀ w : World, (Instr.buildSlice T 1 #[(0, v)]).run P w = .ok (.slice (some ⟨w.heap.size, 0, none⟩) 1 1) (w.alloc (.cells e.before.toArray E))) : Cert P Q w0 k0 X ops i its bl olds o it := by
  refine cert_make b hk e hb E fun μ a w hK _ => ?_
  have hm : it.out.at (upd μ b w.heap.size) = .slice (some ⟨w.heap.size, 0, none⟩) 1 1 := by
    rw [hout]
    show Value.slice (some ⟨upd μ b w.heap.size b, 0, none⟩) 1 1 = _
    unfold upd
    rw [if_pos rfl]
  unfold execOp
  rw [ho, hm]
  dsimp only
  rw [show Array.map (fun x : Nat × Operand => match x with | (i, x) => (i, a.eval x)) #[(0, Operand.tmp t)] = #[(0, v)] by rw [List.map_toArray]; simp only [List.map_cons, List.map_nil]; rw [hx μ a hK], Sem.run_bind, hz]
  rfl
/-- A text out of a block that was made in this region. -/
theorem cert_str (hk : it.kind = .stay) (b j : Nat) (e : Bl) (hb : bl[b]? = some e) (oo : Oper) (hoo : ops[i]? = some oo) (hal : e.al = some j) (hdep : depB oo j = true) (hst : readB ops i e = true) (S T : TypeId) (t : Tmp) (n : Nat) (v : Value) (ho : o.op = .convert S T (.tmp t)) (hout : it.out = .v v)
    (hx : ∀ (μ : Nat → Nat) (a : Act), Known ops i its olds it.need μ a → a.eval (.tmp t) = (SV.s b n n).at μ)
    (hf : ∀ (w : World) (k : Nat), w.rangeAt k 0 e.before → (convert S T (.slice (some ⟨k, 0, none⟩) n n)).run P w = .ok v w) : Cert P Q w0 k0 X ops i its bl olds o it := by
  intro μ a w K hK hR _
  rw [hk]
  intro h
  rw [hout] at h
  have h1 := hR b e hb (Or.inr ⟨oo, j, hoo, hal, hdep⟩) hst
  unfold Oper.wp execOp
  rw [ho]
  dsimp only
  rw [hx μ a hK]
  show Oper.upon P o a K Q (((convert S T (.slice (some ⟨μ b, 0, none⟩) n n)) >>= fun v => pure (Next.value v)).run P w)
  rw [Sem.run_bind, hf w (μ b) h1]
  exact h
theorem cert_cbin (hk : it.kind = .stay) (op : BinOp) (T T' : TypeId) (t1 : Tmp) (v1 v2 v : Value) (ho : o.op = .binOp op T (.const v1) (.tmp t1) T') (hout : it.out = .v v)
    (h1 : ∀ (μ : Nat → Nat) (a : Act), Known ops i its olds it.need μ a → a.eval (.tmp t1) = v2)
    (hg : ∀ w, (eqGuard op T (.const v1) (.tmp t1) v1 v2).run P w = .ok () w) (hb : ∀ w, (binOp op T v1 v2).run P w = .ok v w) : Cert P Q w0 k0 X ops i its bl olds o it := by
  refine cert_stay hk fun μ a w hK _ => ?_
  unfold execOp
  rw [ho, hout]
  dsimp only
  rw [h1 μ a hK]
  show (((eqGuard op T (.const v1) (.tmp t1) v1 v2) >>= fun _ => binOp op T v1 v2) >>= fun v => pure (Next.value v)).run P w = _
  rw [Sem.run_bind, Sem.run_bind, hg]
  dsimp only [Result.andThen]
  rw [hb]
  rfl
/-- Three slots are known, in the middle of a walk. -/
theorem mid3 {c : Code} {v0 v1 v2 : Value} {n : Nat} (t0 t1 t2 : Tmp) (h0 : a.tmps[t0]? = some v0) (h1 : a.tmps[t1]? = some v1) (h2 : a.tmps[t2]? = some v2) (hs : a.tmps.size = n) (hd : a.defers = [])
    (h : ∀ a, Sl a n → a.tmps[t0]? = some v0 → a.tmps[t1]? = some v1 → a.tmps[t2]? = some v2 → c.wp P Q a w) : c.wp P Q a w := h a ⟨hs, hd⟩ h0 h1 h2
/-- A block that was made just now. -/
theorem St.new (w : World) (C : List Value) (T : TypeId) : St w w.heap.size [] [C] [w.heap.size] (w.alloc (.cells C.toArray T)) := by
  refine ⟨⟨rfl, rfl, rfl, by rw [World.size_alloc]; omega, fun j hj _ => (below1 w _).block j hj⟩, by rw [World.size_alloc]; omega, rfl, fun b c h => ?_, fun b c hb hc hne => ?_⟩
  · cases b with
    | zero =>
      obtain rfl : C = c := by simpa using h
      refine ⟨fun j v hv => ?_, fun j hj => ?_, ?_, Or.inl (Nat.le_refl _)⟩
      · show (w.alloc _).cell? ⟨w.heap.size, 0 + j, none⟩ = some v
        rw [Nat.zero_add, World.cell?_alloc_new]
        simpa using hv
      · refine ⟨?_, World.frozen?_alloc_new _ _ _ _⟩
        show ((w.alloc _).cell? ⟨w.heap.size, 0 + j, none⟩).isSome = true
        rw [Nat.zero_add, World.cell?_alloc_new]
        simp [hj]
      · show w.heap.size < _
        rw [World.size_alloc]; omega
    | succ b => simp at h
  · simp only [List.length_cons, List.length_nil] at hb hc
    omega
theorem St.more {cs : List (List Value)} {ks : List Nat} {w' : World} (h : St w0 k0 X cs ks w) (hb : Below w.heap.size w w') : St w0 k0 X cs ks w' := by
  refine ⟨⟨hb.os.trans h.bel.os, hb.tape.trans h.bel.tape, hb.output.trans h.bel.output, Nat.le_trans h.bel.size hb.size, fun j hj hX => ?_⟩, Nat.le_trans h.le hb.size, h.len, fun b c hc => ?_, h.inj⟩
  · rw [hb.block j (Nat.lt_of_lt_of_le hj h.le)]
    exact h.bel.block j hj hX
  · obtain ⟨h1, h2, h3, h4⟩ := h.has b c hc
    exact ⟨range_below h1 hb h3, there_below h2 hb h3, Nat.lt_of_lt_of_le h3 hb.size, h4⟩
theorem St.store1 {C D : List Value} {k : Nat} (h : St w0 k0 X [C] [k] w) (T : TypeId) (hl : D.length = C.length) (hi : (P.info? T).map (·.size) = some D.length) (h1 : D.all (·.oneCell') = true) :
    ∃ w2, (storeCells ⟨k, 0, none⟩ D).run P w = .ok () w2 ∧ (storeVar T ⟨k, 0, none⟩ (.agg D.toArray)).run P w = .ok () w2 ∧ (Instr.storeAt T (.pointer (some ⟨k, 0, none⟩)) (.agg D.toArray)).run P w = .ok () w2 ∧ St w0 k0 X [D] [k] w2 := by
  have hh := h.has 0 C rfl
  rw [show ad [k] 0 = k from rfl] at hh
  obtain ⟨hr, ht, hlt, hor⟩ := hh
  have hPT := PutTo.whole ht hr hl
  have hv := run_storeVar_mid (P := P) w k 0 T D.toArray (by rw [List.size_toArray, hl]; exact ht) (by rw [List.size_toArray]; exact hi) (all_oneCell_toArray (fun v hv => List.all_eq_true.1 h1 v hv))
  have hc := run_storeCells_cells (P := P) k 0 D 0 w (fun j hj => by simpa using (ht j (by rw [← hl]; exact hj)).1) (fun j hj => by simpa using (ht j (by rw [← hl]; exact hj)).2) (fun v hv => List.all_eq_true.1 h1 v hv)
  refine ⟨_, hc, hv, ?_, ⟨⟨hPT.os.trans h.bel.os, hPT.tape.trans h.bel.tape, hPT.output.trans h.bel.output, Nat.le_trans h.bel.size hPT.size, fun j hj hX => ?_⟩, Nat.le_trans h.le hPT.size, rfl, fun b c hc => ?_, h.inj⟩⟩
  · simp only [Instr.storeAt, Instr.sureAddr, Sem.run_bind, Sem.run_pure, Result.andThen_ok, hv]
  · rw [← h.bel.block j hj hX]
    refine hPT.block j (Nat.lt_of_lt_of_le hj h.le) (fun e => ?_)
    rcases hor with h5 | h5
    · omega
    · exact hX (by rw [e]; exact h5)
  · cases b with
    | zero =>
      obtain rfl : D = c := by simpa using hc
      refine ⟨hPT.range, ?_, Nat.lt_of_lt_of_le hlt hPT.size, hor⟩
      have := hPT.there
      rw [← hl] at this
      exact this
    | succ b => simp at hc
/-- A row that lies in a block is read. -/
theorem read_row {k : Nat} {C : List Value} (T : TypeId) (h : w.rangeAt k 0 C) (hu : (P.underlying T).map (·.isRow) = some true) (hi : (P.info? T).map (·.size) = some C.length) :
    (loadVar T ⟨k, 0, none⟩).run P w = .ok (.agg C.toArray) w ∧ (Instr.loadAt T (.pointer (some ⟨k, 0, none⟩))).run P w = .ok (.agg C.toArray) w := by
  obtain ⟨d, hu, hd⟩ := Option.map_eq_some_iff.1 hu
  have h1 := run_loadVar_mid (P := P) w k 0 T C d h hu hd hi
  refine ⟨h1, ?_⟩
  simp only [Instr.loadAt, Instr.sureAddr, Sem.run_bind, Sem.run_pure, Result.andThen_ok, h1]
end Go.Proofs.Ytboigmhioojenaa.RG
set_option linter.unusedVariables false
set_option linter.unusedSimpArgs false
namespace Go.Proofs.Ytboigmhioojenaa.RG
open Go Go.RowKit
variable {P : Program} {ops : Array Oper} {Q : Exit → Act → World → Prop} {w0 w : World} {k0 n : Nat} {X : List Nat} {its : List It} {bl : List Bl} {os : List (Tmp × SV)} {a : Act} {i : Nat} {o : Oper} {it : It} {μ : Nat → Nat} {need : List (Tmp × Nat)}
/-- What a slot holds, where operation i looks at it. -/
def src (ops : Array Oper) (its : List It) (os : List (Tmp × SV)) (need : List (Tmp × Nat)) (i : Nat) (t : Tmp) : Option SV :=
  match need.find? (fun x => x.1 == t) with
  | some x => (its[x.2]?).map (·.out)
  | none => match os.find? (fun x => x.1 == t) with
    | some x => bif freeB ops its i t then some x.2 else none
    | none => none
theorem src_eval {t : Tmp} {s : SV} (h : src ops its os need i t = some s) (K : Known ops i its os need μ a) : a.eval (.tmp t) = s.at μ := by
  unfold src at h
  cases hn : need.find? (fun x => x.1 == t) with
  | some x =>
    rw [hn] at h
    dsimp only at h
    have h1 := List.mem_of_find?_eq_some hn
    have h2 : x.1 = t := by simpa using List.find?_some hn
    obtain ⟨jt, hj, rfl⟩ := Option.map_eq_some_iff.1 h
    exact K.op t x.2 (by rw [← h2]; exact h1) hj
  | none =>
    rw [hn] at h
    dsimp only at h
    cases ho : os.find? (fun x => x.1 == t) with
    | none => rw [ho] at h; cases h
    | some x =>
      rw [ho] at h
      dsimp only at h
      have h1 := List.mem_of_find?_eq_some ho
      have h2 : x.1 = t := by simpa using List.find?_some ho
      cases hf : freeB ops its i t with
      | false => rw [hf] at h; cases h
      | true =>
        rw [hf] at h
        obtain rfl : x.2 = s := Option.some.inj h
        exact K.old t x.2 (by rw [← h2]; exact h1) hf
theorem sx {t : Tmp} {f : (Nat → Nat) → Value} (h : ∀ μ : Nat → Nat, (src ops its os need i t).map (fun s => s.at μ) = some (f μ) := by intro _; kernel_rfl) : ∀ (μ : Nat → Nat) (a : Act), Known ops i its os need μ a → a.eval (.tmp t) = f μ := fun μ _ K => by
  obtain ⟨s, hs, he⟩ := Option.map_eq_some_iff.1 (h μ)
  rw [src_eval hs K]
  exact he
def ro (ops : Array Oper) (its : List It) (os : List (Tmp × SV)) (need : List (Tmp × Nat)) (i : Nat) (μ : Nat → Nat) : Operand → Value
  | .tmp t => match src ops its os need i t with | some s => s.at μ | none => undef
  | .const v => v
  | .global g => .pointer (some ⟨g, 0, none⟩)
  | .func f => .func (.func f) #[] #[]
def seen (ops : Array Oper) (its : List It) (os : List (Tmp × SV)) (need : List (Tmp × Nat)) (i : Nat) (o : Oper) : Bool :=
  (match o.op with | .select _ _ => false | _ => true) && o.op.operands.all (fun x => match x with | .tmp t => (src ops its os need i t).isSome | _ => true)
theorem exec_ro (h : seen ops its os need i o = true) (K : Known ops i its os need μ a) : execOp a.eval o = execOp (ro ops its os need i μ) o := by
  simp only [seen, Bool.and_eq_true] at h
  refine execOp_congr o (fun cs b he => ?_) (fun x hx => ?_)
  · rw [he] at h; exact absurd h.1 (by simp)
  · have h1 := Array.all_eq_true'.1 h.2 x hx
    cases x with
    | tmp t =>
      dsimp only at h1
      obtain ⟨s, hs⟩ := Option.isSome_iff_exists.1 h1
      rw [src_eval hs K]
      show _ = (match src ops its os need i t with | some s => s.at μ | none => undef)
      rw [hs]
    | const v => rfl
    | global g => rfl
    | func f => rfl
/-- An operation that the kernel runs. -/
theorem st (h : ∀ (μ : Nat → Nat) (w : World), ((seen ops its os it.need i o, it.kind), (execOp (ro ops its os it.need i μ) o).run P w) = ((true, Kind.stay), .ok (.value (it.out.at μ)) w) := by intro _ _; kernel_rfl) : Cert P Q w0 k0 X ops i its bl os o it := by
  intro μ a w K hK _ hbel
  have h0 := h μ w
  simp only [Prod.mk.injEq] at h0
  rw [h0.1.2]
  intro hK2
  unfold Oper.wp
  rw [exec_ro h0.1.1 hK, h0.2]
  exact hK2
theorem se {v v' : Value} (e : v' = v) (h : ∀ (μ : Nat → Nat) (w : World), ((seen ops its os it.need i o, it.kind, it.out), (execOp (ro ops its os it.need i μ) o).run P w) = ((true, Kind.stay, SV.v v), .ok (.value v') w) := by intro _ _; kernel_rfl) : Cert P Q w0 k0 X ops i its bl os o it := by
  intro μ a w K hK _ hbel
  have h0 := h μ w
  simp only [Prod.mk.injEq] at h0
  rw [h0.1.2.1]
  intro hK2
  rw [h0.1.2.2] at hK2
  unfold Oper.wp
  rw [exec_ro h0.1.1 hK, h0.2, e]
  exact hK2
/-- A new block. -/
theorem mk (b : Nat) (T : TypeId) (h : ∀ (μ : Nat → Nat) (w : World), ((seen ops its os it.need i o, it.kind), (execOp (ro ops its os it.need i μ) o).run P w) = ((true, Kind.make b), .ok (.value (it.out.at (upd μ b w.heap.size))) (w.alloc (.cells (((bl[b]?).map (·.before)).getD []).toArray T))) := by intro _ _; kernel_rfl) : Cert P Q w0 k0 X ops i its bl os o it := by
  intro μ a w K hK _ hbel
  have h0 := h μ w
  simp only [Prod.mk.injEq] at h0
  rw [h0.1.2]
  intro e hb h2
  unfold Oper.wp
  rw [exec_ro h0.1.1 hK, h0.2, hb]
  exact h2 _ _ (Made.alloc w e.before T)
/-- A call. -/
theorem clB {f : FuncId} {args : Array Value} {v : Value} (h : ∀ (μ : Nat → Nat) (w : World), ((seen ops its os it.need i o, it.kind, it.out), (execOp (ro ops its os it.need i μ) o).run P w) = ((true, Kind.call, SV.v v), .ok (.enter f args) w))
    (hc : ∀ w, BelX k0 X w0 w → Calls P f args w (Ret fun e w' => Below w.heap.size w w' ∧ e = v)) : Cert P Q w0 k0 X ops i its bl os o it := by
  intro μ a w K hK _ hbel
  have h0 := h μ w
  simp only [Prod.mk.injEq] at h0
  rw [h0.1.2.1]
  intro hk
  rw [h0.1.2.2] at hk
  unfold Oper.wp
  rw [exec_ro h0.1.1 hK, h0.2, Oper.upon_enter]
  refine (hc w hbel).mono ?_
  rintro e w' ⟨v', rfl, hb, rfl⟩
  exact hk w' hb
theorem cl {f : FuncId} {args : Array Value} {v : Value} (hc : ∀ w, Calls P f args w (Ret fun e w' => Below w.heap.size w w' ∧ e = v)) (h : ∀ (μ : Nat → Nat) (w : World), ((seen ops its os it.need i o, it.kind, it.out), (execOp (ro ops its os it.need i μ) o).run P w) = ((true, Kind.call, SV.v v), .ok (.enter f args) w) := by intro _ _; kernel_rfl) : Cert P Q w0 k0 X ops i its bl os o it :=
  clB h (fun w _ => hc w)
/-- A call that answers new memory. -/
theorem cm (b : Nat) {f : FuncId} {args : Array Value} {c : List Value} (hc : ∀ w, BelX k0 X w0 w → Calls P f args w (Ret fun e w' => ∃ k, Made w k c w' ∧ e = it.out.at (fun _ => k)))
    (h : ∀ (μ : Nat → Nat) (w : World), ((seen ops its os it.need i o, it.kind, (bl[b]?).map (·.before), it.out.blk), (execOp (ro ops its os it.need i μ) o).run P w) = ((true, Kind.make b, some c, some b), .ok (.enter f args) w)) : Cert P Q w0 k0 X ops i its bl os o it := by
  intro μ a w K hK _ hbel
  have h0 := h μ w
  simp only [Prod.mk.injEq] at h0
  obtain ⟨⟨h1, h2, h3, h4⟩, h5⟩ := h0
  rw [h2]
  intro e hb hk
  rw [hb] at h3
  obtain rfl : e.before = c := Option.some.inj h3
  unfold Oper.wp
  rw [exec_ro h1 hK, h5, Oper.upon_enter]
  refine (hc w hbel).mono ?_
  rintro r w' ⟨v', rfl, k, hm, rfl⟩
  have he : it.out.at (upd μ b k) = it.out.at (fun _ => k) := SV.at_congr fun b' hb' => by
    rw [h4] at hb'
    obtain rfl := Option.some.inj hb'
    unfold upd
    rw [if_pos rfl]
  have := hk k w' hm
  rw [he] at this
  exact this
/-- Operation i may read block b. -/
def canRead (ops : Array Oper) (i : Nat) (o : Oper) (bl : List Bl) (b : Nat) : Bool := match bl[b]? with
  | some e => (match e.al with | none => true | some j => depB o j) && readB ops i e
  | none => false
def Seen (bl : List Bl) (bs : List Nat) (μ : Nat → Nat) (w : World) : Prop := ∀ b ∈ bs, ∀ e : Bl, bl[b]? = some e → e.before ≠ [] → w.rangeAt (μ b) 0 e.before ∧ μ b < w.heap.size
theorem seen_of {bs : List Nat} (ho : ops[i]? = some o) (h : bs.all (canRead ops i o bl) = true) (hR : Reads ops i bl μ w) : Seen bl bs μ w := fun b hb e he hne => by
  have h1 := List.all_eq_true.1 h b hb
  unfold canRead at h1
  rw [he] at h1
  dsimp only at h1
  rw [Bool.and_eq_true] at h1
  have hr := hR b e he (by
    cases ha : e.al with
    | none => exact Or.inl rfl
    | some j => rw [ha] at h1; exact Or.inr ⟨o, j, ho, rfl, h1.1⟩) h1.2
  refine ⟨hr, ?_⟩
  cases hee : e.before with
  | nil => exact absurd hee hne
  | cons x r =>
    have h2 := hr 0 x (by rw [hee]; rfl)
    exact Classical.byContradiction fun hn => by
      have h3 : w.heap[μ b]? = none := Array.getElem?_eq_none (by omega)
      simp [World.cell?, h3] at h2
/-- A call that looks at blocks. -/
theorem cr (bs : List Nat) {f : FuncId} {args : (Nat → Nat) → Array Value} {v : Value} (hc : ∀ (μ : Nat → Nat) (w : World), BelX k0 X w0 w → Seen bl bs μ w → Calls P f (args μ) w (Ret fun e w' => Below w.heap.size w w' ∧ e = v))
    (h : ∀ (μ : Nat → Nat) (w : World), ((seen ops its os it.need i o, it.kind, it.out, bs.all (canRead ops i o bl), ops[i]?), (execOp (ro ops its os it.need i μ) o).run P w) = ((true, Kind.call, SV.v v, true, some o), .ok (.enter f (args μ)) w)) : Cert P Q w0 k0 X ops i its bl os o it := by
  intro μ a w K hK hR hbel
  have h0 := h μ w
  simp only [Prod.mk.injEq] at h0
  obtain ⟨⟨h1, h2, h3, h4, h6⟩, h5⟩ := h0
  rw [h2]
  intro hk
  rw [h3] at hk
  unfold Oper.wp
  rw [exec_ro h1 hK, h5, Oper.upon_enter]
  refine (hc μ w hbel (seen_of h6 h4 hR)).mono ?_
  rintro e w' ⟨v', rfl, hb, rfl⟩
  exact hk w' hb
/-- A call that looks at blocks and answers new memory. -/
theorem crm (b : Nat) (bs : List Nat) {f : FuncId} {args : (Nat → Nat) → Array Value} {c : List Value} (hc : ∀ (μ : Nat → Nat) (w : World), BelX k0 X w0 w → Seen bl bs μ w → Calls P f (args μ) w (Ret fun e w' => ∃ k, Made w k c w' ∧ e = it.out.at (fun _ => k)))
    (h : ∀ (μ : Nat → Nat) (w : World), ((seen ops its os it.need i o, it.kind, (bl[b]?).map (·.before), it.out.blk, bs.all (canRead ops i o bl), ops[i]?), (execOp (ro ops its os it.need i μ) o).run P w) = ((true, Kind.make b, some c, some b, true, some o), .ok (.enter f (args μ)) w)) : Cert P Q w0 k0 X ops i its bl os o it := by
  intro μ a w K hK hR hbel
  have h0 := h μ w
  simp only [Prod.mk.injEq] at h0
  obtain ⟨⟨h1, h2, h3, h4, h6, h7⟩, h5⟩ := h0
  rw [h2]
  intro e hb hk
  rw [hb] at h3
  obtain rfl : e.before = c := Option.some.inj h3
  unfold Oper.wp
  rw [exec_ro h1 hK, h5, Oper.upon_enter]
  refine (hc μ w hbel (seen_of h7 h6 hR)).mono ?_
  rintro r w' ⟨v', rfl, k, hm, rfl⟩
  have he : it.out.at (upd μ b k) = it.out.at (fun _ => k) := SV.at_congr fun b' hb' => by
    rw [h4] at hb'
    obtain rfl := Option.some.inj hb'
    unfold upd
    rw [if_pos rfl]
  have := hk k w' hm
  rw [he] at this
  exact this
/-- What a load of a row of n cells gives. -/
def ldv (ops : Array Oper) (its : List It) (bl : List Bl) (os : List (Tmp × SV)) (i : Nat) (o : Oper) (it : It) (T : TypeId) (n : Nat) : Option SV :=
  match it.kind, o.op with
  | .stay, .load T' (.tmp t) => match src ops its os it.need i t with
    | some (.p b off) => match bl[b]? with
      | some e => bif T' == T && e.al.isNone && readB ops i e && (off + n).ble e.before.length then some (.v (.agg ((e.before.drop off).take n).toArray)) else none
      | none => none
    | _ => none
  | _, _ => none
theorem ld {T : TypeId} {n : Nat} (hu : (P.underlying T).map (·.isRow) = some true) (hi : (P.info? T).map (·.size) = some n) (h : ldv ops its bl os i o it T n = some it.out := by kernel_rfl) : Cert P Q w0 k0 X ops i its bl os o it := by
  unfold ldv at h
  split at h
  · rename_i T' t hk ho
    split at h
    · rename_i b off hs
      split at h
      · rename_i e hb
        cases hc : (T' == T && e.al.isNone && readB ops i e && (off + n).ble e.before.length) with
        | false => rw [hc] at h; cases h
        | true =>
          rw [hc] at h
          have h' : some (SV.v (.agg ((e.before.drop off).take n).toArray)) = some it.out := h
          simp only [Bool.and_eq_true, beq_iff_eq, Option.isNone_iff_eq_none, Nat.ble_eq] at hc
          obtain ⟨⟨⟨rfl, hal⟩, hr⟩, hle⟩ := hc
          have hlen : ((e.before.drop off).take n).length = n := by rw [List.length_take, List.length_drop]; omega
          refine cert_load hk b off e hb hal hr T' t ho ((e.before.drop off).take n) (Option.some.inj h').symm (fun _ _ K => src_eval hs K) ?_ hu (by rw [hlen]; exact hi)
          rw [hlen]
      · cases h
    · cases h
  · cases h
/-- What a load of one cell gives. -/
def ldw (ops : Array Oper) (its : List It) (bl : List Bl) (os : List (Tmp × SV)) (i : Nat) (o : Oper) (it : It) (T : TypeId) : Option SV :=
  match it.kind, o.op with
  | .stay, .load T' (.tmp t) => match src ops its os it.need i t with
    | some (.p b off) => match bl[b]? with
      | some e => bif T' == T && e.al.isNone && readB ops i e then (e.before[off]?).map .v else none
      | none => none
    | _ => none
  | _, _ => none
theorem ld1 {T : TypeId} (hu : (P.underlying T).map (·.isRow) = some false) (h : ldw ops its bl os i o it T = some it.out := by kernel_rfl) : Cert P Q w0 k0 X ops i its bl os o it := by
  unfold ldw at h
  split at h
  · rename_i T' t hk ho
    split at h
    · rename_i b off hs
      split at h
      · rename_i e hb
        cases hc : (T' == T && e.al.isNone && readB ops i e) with
        | false => rw [hc] at h; cases h
        | true =>
          rw [hc] at h
          have h' : (e.before[off]?).map SV.v = some it.out := h
          obtain ⟨v, hv, hvo⟩ := Option.map_eq_some_iff.1 h'
          simp only [Bool.and_eq_true, beq_iff_eq, Option.isNone_iff_eq_none] at hc
          obtain ⟨⟨rfl, hal⟩, hr⟩ := hc
          exact cert_load1 hk b off e hb hal hr T' t ho v hvo.symm (fun _ _ K => src_eval hs K) hv hu
      · cases h
    · cases h
  · cases h
/-- What lies in a block behind a store of n cells. -/
def ptv (ops : Array Oper) (its : List It) (bl : List Bl) (os : List (Tmp × SV)) (i : Nat) (o : Oper) (it : It) (T : TypeId) (n : Nat) : Option (List Value) :=
  match it.kind, o.op, o.dst with
  | .put b, .store T' (.tmp x) (.tmp y), none => match src ops its os it.need i x, src ops its os it.need i y with
    | some (.p b' off), some (.v (.agg vs)) => match bl[b]? with
      | some e => bif T' == T && b' == b && vs.size == n && (off + n).ble e.before.length && vs.toList.all (·.oneCell') then some (rep e.before off vs.toList) else none
      | none => none
    | _, _ => none
  | _, _, _ => none
theorem pt {T : TypeId} {n : Nat} (hi : (P.info? T).map (·.size) = some n) (h : ((ptv ops its bl os i o it T n).isSome, ptv ops its bl os i o it T n) = (true, match it.kind with | .put b => (bl[b]?).map (·.after) | _ => none) := by kernel_rfl) : Cert P Q w0 k0 X ops i its bl os o it := by
  simp only [Prod.mk.injEq] at h
  obtain ⟨hso, h⟩ := h
  rw [h] at hso
  unfold ptv at h
  split at h
  · rename_i b T' x y hk ho hdn
    rw [hk] at h hso
    dsimp only at h hso
    cases hb : bl[b]? with
    | none => rw [hb] at hso; cases hso
    | some e =>
      rw [hb] at h
      split at h
      · rename_i b' off vs hx hy
        dsimp only at h
        cases hc : (T' == T && b' == b && vs.size == n && (off + n).ble e.before.length && vs.toList.all (·.oneCell')) with
        | false => rw [hc] at h; cases h
        | true =>
          rw [hc] at h
          have h' : some (rep e.before off vs.toList) = some e.after := h
          simp only [Bool.and_eq_true, beq_iff_eq, Nat.ble_eq] at hc
          obtain ⟨⟨⟨⟨rfl, rfl⟩, hn⟩, hle⟩, h1⟩ := hc
          have hlen : vs.toList.length = n := by rw [Array.length_toList]; exact hn
          refine cert_putAt b' off hk e hb T' (.tmp x) (.tmp y) vs.toList ho hdn (fun _ _ K => src_eval hx K) (fun _ _ K => ?_) (by rw [hlen]; exact hle) (fun j => ?_) (by rw [hlen]; exact hi) h1
          · rw [Array.toArray_toList]; exact src_eval hy K
          · rw [← Option.some.inj h', rep_at (by rw [hlen]; exact hle)]
      · cases h
  · rw [← h] at hso; cases hso
/-- Blocks: those that are there (cs), those that are made (which operation, what lies in it), what is stored (where, which operation, what). -/
def aft (pu : List (Nat × Nat × List Value)) (b : Nat) (c : List Value) : List Value := match pu.find? (fun x => x.1 == b) with | some x => x.2.2 | none => c
def sto (pu : List (Nat × Nat × List Value)) (b : Nat) : Option Nat := (pu.find? (fun x => x.1 == b)).map (·.2.1)
def olB (pu : List (Nat × Nat × List Value)) : Nat → List (List Value) → List Bl
  | _, [] => []
  | b, c :: r => ⟨c, aft pu b c, none, sto pu b⟩ :: olB pu (b + 1) r
def mkB (pu : List (Nat × Nat × List Value)) : Nat → List (Nat × List Value) → List Bl
  | _, [] => []
  | b, c :: r => ⟨c.2, aft pu b c.2, some c.1, sto pu b⟩ :: mkB pu (b + 1) r
def bls (cs : List (List Value)) (mk : List (Nat × List Value)) (pu : List (Nat × Nat × List Value)) : List Bl := olB pu 0 cs ++ mkB pu cs.length mk
theorem olB_len (pu : List (Nat × Nat × List Value)) : ∀ (cs : List (List Value)) (b : Nat), (olB pu b cs).length = cs.length
  | [], _ => rfl
  | c :: r, b => by rw [olB, List.length_cons, olB_len pu r, List.length_cons]
theorem mkB_len (pu : List (Nat × Nat × List Value)) : ∀ (cs : List (Nat × List Value)) (b : Nat), (mkB pu b cs).length = cs.length
  | [], _ => rfl
  | c :: r, b => by rw [mkB, List.length_cons, mkB_len pu r, List.length_cons]
theorem olB_before (pu : List (Nat × Nat × List Value)) : ∀ (cs : List (List Value)) (b : Nat), (olB pu b cs).map (·.before) = cs
  | [], _ => rfl
  | c :: r, b => by rw [olB, List.map_cons, olB_before pu r]
theorem mkB_before (pu : List (Nat × Nat × List Value)) : ∀ (cs : List (Nat × List Value)) (b : Nat), (mkB pu b cs).map (·.before) = cs.map (·.2)
  | [], _ => rfl
  | c :: r, b => by rw [mkB, List.map_cons, mkB_before pu r, List.map_cons]
theorem olB_get (pu : List (Nat × Nat × List Value)) : ∀ (cs : List (List Value)) (b j : Nat) (e : Bl), (olB pu b cs)[j]? = some e → e.al = none ∧ e.after = aft pu (b + j) e.before ∧ e.st = sto pu (b + j)
  | [], _, _, _, h => by simp [olB] at h
  | c :: r, b, 0, e, h => by
    rw [olB, List.getElem?_cons_zero] at h
    obtain rfl := Option.some.inj h
    exact ⟨rfl, rfl, rfl⟩
  | c :: r, b, j + 1, e, h => by
    rw [olB, List.getElem?_cons_succ] at h
    have := olB_get pu r (b + 1) j e h
    rwa [show b + 1 + j = b + (j + 1) by omega] at this
theorem mkB_get (pu : List (Nat × Nat × List Value)) : ∀ (cs : List (Nat × List Value)) (b j : Nat) (e : Bl), (mkB pu b cs)[j]? = some e → (∃ x ∈ cs, e.al = some x.1) ∧ e.after = aft pu (b + j) e.before ∧ e.st = sto pu (b + j)
  | [], _, _, _, h => by simp [mkB] at h
  | c :: r, b, 0, e, h => by
    rw [mkB, List.getElem?_cons_zero] at h
    obtain rfl := Option.some.inj h
    exact ⟨⟨c, List.mem_cons_self, rfl⟩, rfl, rfl⟩
  | c :: r, b, j + 1, e, h => by
    rw [mkB, List.getElem?_cons_succ] at h
    obtain ⟨⟨x, hx, h1⟩, h2⟩ := mkB_get pu r (b + 1) j e h
    refine ⟨⟨x, List.mem_cons_of_mem _ hx, h1⟩, ?_⟩
    rwa [show b + 1 + j = b + (j + 1) by omega] at h2
variable {cs cs' : List (List Value)} {mk : List (Nat × List Value)} {pu : List (Nat × Nat × List Value)} {ks : List Nat}
theorem bls_len : (bls cs mk pu).length = cs.length + mk.length := by rw [bls, List.length_append, olB_len, mkB_len]
theorem bls_before : (bls cs mk pu).map (·.before) = cs ++ mk.map (·.2) := by rw [bls, List.map_append, olB_before, mkB_before]
theorem bls_get {b : Nat} {e : Bl} (h : (bls cs mk pu)[b]? = some e) : e.after = aft pu b e.before ∧ e.st = sto pu b ∧ ((b < cs.length ∧ e.al = none) ∨ (cs.length ≤ b ∧ ∃ x ∈ mk, e.al = some x.1)) := by
  unfold bls at h
  by_cases hb : b < cs.length
  · rw [List.getElem?_append_left (by rw [olB_len]; exact hb)] at h
    have := olB_get pu cs 0 b e h
    rw [Nat.zero_add] at this
    exact ⟨this.2.1, this.2.2, Or.inl ⟨hb, this.1⟩⟩
  · rw [List.getElem?_append_right (by rw [olB_len]; omega), olB_len] at h
    have := mkB_get pu mk cs.length (b - cs.length) e h
    rw [show cs.length + (b - cs.length) = b by omega] at this
    exact ⟨this.2.1, this.2.2, Or.inr ⟨by omega, this.1⟩⟩
theorem bls_start : startB (bls cs mk pu) cs.length = true := by
  simp only [startB, Bool.and_eq_true, decide_eq_true_eq]
  refine ⟨List.all_eq_true.2 fun x hx => ?_, by rw [bls_len]; omega⟩
  rw [List.mem_zipIdx_iff_getElem?] at hx
  rcases (bls_get hx).2.2 with ⟨h1, h2⟩ | ⟨h1, y, -, h2⟩
  · rw [h2]; simp [h1]
  · rw [h2]; simp; omega
def inB (m : Nat) (mk : List (Nat × List Value)) (pu : List (Nat × Nat × List Value)) : Bool := mk.all (fun x => x.1.blt m) && pu.all (fun x => x.2.1.blt m)
theorem bls_end (h : inB its.length mk pu = true) (hl : pu.map (fun x => x.2.2.length) = pu.map (fun x => (((cs ++ mk.map (·.2))[x.1]?).getD []).length)) :
    (∀ e ∈ bls cs mk pu, ∀ j, e.al = some j ∨ e.st = some j → j < its.length) ∧ ∀ e ∈ bls cs mk pu, e.fin.length = e.before.length := by
  simp only [inB, Bool.and_eq_true] at h
  refine ⟨fun e he j hj => ?_, fun e he => ?_⟩
  · obtain ⟨b, hb⟩ := List.getElem?_of_mem he
    obtain ⟨h1, h2, h3⟩ := bls_get hb
    rcases hj with hj | hj
    · rcases h3 with ⟨-, h4⟩ | ⟨-, x, hx, h4⟩
      · rw [h4] at hj; cases hj
      · rw [h4] at hj
        obtain rfl := Option.some.inj hj
        have := List.all_eq_true.1 h.1 x hx
        exact Nat.lt_of_succ_le (Nat.le_of_ble_eq_true this)
    · rw [h2] at hj
      unfold sto at hj
      obtain ⟨x, hx, rfl⟩ := Option.map_eq_some_iff.1 hj
      have := List.all_eq_true.1 h.2 x (List.mem_of_find?_eq_some hx)
      exact Nat.lt_of_succ_le (Nat.le_of_ble_eq_true this)
  · obtain ⟨b, hb⟩ := List.getElem?_of_mem he
    obtain ⟨h1, h2, -⟩ := bls_get hb
    unfold Bl.fin
    rw [h2, h1]
    unfold sto aft
    cases hp : pu.find? (fun x => x.1 == b) with
    | none => rfl
    | some x =>
      show x.2.2.length = _
      have hm := List.mem_of_find?_eq_some hp
      have hx : x.1 = b := by simpa using List.find?_some hp
      have h5 := List.map_inj_left.1 hl x hm
      rw [h5, ← bls_before (pu := pu), hx, List.getElem?_map, hb]
      rfl
/-- What a slot holds behind a region. -/
def lk (its : List It) (os : List (Tmp × SV)) (t : Tmp) : Option SV :=
  match its.find? (fun it => it.dst == some t) with
  | some it => some it.out
  | none => (os.find? (fun x => x.1 == t)).map (·.2)
/-- THE MACHINE: the blocks, the slots. -/
structure M (w0 : World) (k0 : Nat) (X : List Nat) (n : Nat) (cs : List (List Value)) (ks : List Nat) (os : List (Tmp × SV)) (a : Act) (w : World) : Prop where
  st : St w0 k0 X cs ks w
  sl : Sl a n
  os : Olds a (ad ks) os
def All : Nat → (List Nat → Prop) → Prop
  | 0, f => f []
  | n + 1, f => ∀ k : Nat, All n fun l => f (k :: l)
theorem All.get : ∀ {n : Nat} {f : List Nat → Prop}, All n f → ∀ l : List Nat, l.length = n → f l
  | 0, f, h, l, hl => by rw [List.length_eq_zero_iff.1 hl]; exact h
  | n + 1, f, h, [], hl => by simp at hl
  | n + 1, f, h, k :: l, hl => All.get (h k) l (by simpa using hl)
theorem at_more {s : SV} {new : List Nat} (h : ∀ b, s.blk = some b → b < ks.length) : s.at (ad (ks ++ new)) = s.at (ad ks) := SV.at_congr fun b hb => by
  unfold ad
  rw [List.getD_eq_getElem?_getD, List.getD_eq_getElem?_getD, List.getElem?_append_left (h b hb)]
theorem Olds.mk' {μ : Nat → Nat} : ∀ {l : List (Tmp × SV)}, (∀ x ∈ l, a.tmps[x.1]? = some (x.2.at μ)) → Olds a μ l
  | [], _ => trivial
  | x :: r, h => ⟨h x List.mem_cons_self, Olds.mk' fun y hy => h y (List.mem_cons_of_mem _ hy)⟩
theorem M.next {os' : List (Tmp × SV)} {new : List Nat} {w' : World} (h : M w0 k0 X n cs ks os a w) (hall : allB ops its (bls cs mk pu) os n = true) (hlk : (os'.map fun x => lk its os x.1) = os'.map fun x => some x.2)
    (hS : St w0 k0 X cs' (ks ++ new) w') : M w0 k0 X n cs' (ks ++ new) os' (puts (ad (ks ++ new)) its a) w' := by
  refine ⟨hS, h.sl.puts, Olds.mk' fun x hx => ?_⟩
  have h1 := List.map_inj_left.1 hlk x hx
  simp only [allB, Bool.and_eq_true, beq_iff_eq] at hall
  obtain ⟨⟨⟨⟨hsz, hd⟩, hold⟩, hin⟩, hok⟩ := hall
  unfold lk at h1
  cases hf : its.find? (fun it => it.dst == some x.1) with
  | some it =>
    rw [hf] at h1
    have hm := List.mem_of_find?_eq_some hf
    have hdt : it.dst = some x.1 := by simpa using List.find?_some hf
    obtain ⟨j, hj⟩ := List.getElem?_of_mem hm
    have hlt := List.all_eq_true.1 hin it hm
    rw [hdt] at hlt
    have := puts_same (ad (ks ++ new)) its a j it x.1 hd hj hdt (by rw [h.sl.size]; simpa using hlt)
    rw [this, ← Option.some.inj h1]
  | none =>
    rw [hf] at h1
    obtain ⟨y, hy, hyx⟩ := Option.map_eq_some_iff.1 h1
    have hm := List.mem_of_find?_eq_some hy
    have hyt : y.1 = x.1 := by simpa using List.find?_some hy
    have h2 := h.os.get y.1 y.2 hm
    rw [puts_other _ its a x.1 (fun it hit hdd => by
      have := List.find?_eq_none.1 hf it hit
      rw [hdd] at this
      simp at this), ← hyt, h2, ← hyx]
    congr 1
    refine (at_more fun b hb => ?_).symm
    have h3 := List.all_eq_true.1 hold y hm
    rw [hb] at h3
    dsimp only at h3
    cases he : (bls cs mk pu)[b]? with
    | none => rw [he] at h3; cases h3
    | some e =>
      rw [he] at h3
      rcases (bls_get he).2.2 with ⟨h4, -⟩ | ⟨-, z, -, h5⟩
      · rw [h.st.len]; exact h4
      · dsimp only at h3; rw [h5] at h3; simp at h3
theorem M.reg (h : M w0 k0 X n cs ks os a w) (hall : allB ops its (bls cs mk pu) os n = true) (hc : Certs P Q w0 k0 X ops its (bls cs mk pu) os 0 ops.toList its) : Reg P ops Q w0 k0 X its (bls cs mk pu) os a (ad ks) :=
  Reg.mk' (by rw [h.sl.size]; exact hall) h.os hc
theorem bls_take : ((bls cs mk pu).map (·.before)).take cs.length = cs := by rw [bls_before, List.take_left']; rfl
/-- A region in the order of its text. -/
theorem M.tx {id : Nat} (h : M w0 k0 X n cs ks os a w) (its : List It) (mk : List (Nat × List Value)) (pu : List (Nat × Nat × List Value)) (cs' : List (List Value)) (os' : List (Tmp × SV))
    (hk : (allB ops its (bls cs mk pu) os n && inB its.length mk pu, (bls cs mk pu).map Bl.fin, os'.map fun x => lk its os x.1) = (true, cs', os'.map fun x => some x.2))
    (hl : pu.map (fun x => x.2.2.length) = pu.map (fun x => (((cs ++ mk.map (·.2))[x.1]?).getD []).length))
    (hc : Certs P Q w0 k0 X ops its (bls cs mk pu) os 0 ops.toList its)
    (hp : All mk.length fun new => ∀ a' w', M w0 k0 X n cs' (ks ++ new) os' a' w' → Q .normal a' w') : (Code.region id ops false).wp P Q a w := by
  simp only [Prod.mk.injEq, Bool.and_eq_true] at hk
  obtain ⟨⟨h1, h2⟩, h3, h4⟩ := hk
  refine region_text' h.st (h.reg h1 hc) bls_start bls_take (bls_end h2 hl) fun new w' hn hS => ?_
  rw [bls_len, Nat.add_sub_cancel_left] at hn
  exact hp.get new hn _ _ (h.next h1 h4 (h3 ▸ hS))
/-- A region that draws its order. -/
theorem M.dr {id : Nat} (h : M w0 k0 X n cs ks os a w) (hm : P.follows .mixedOrders = true) (its : List It) (mk : List (Nat × List Value)) (pu : List (Nat × Nat × List Value)) (cs' : List (List Value)) (os' : List (Tmp × SV))
    (hk : (allB ops its (bls cs mk pu) os n && inB its.length mk pu, (bls cs mk pu).map Bl.fin, os'.map fun x => lk its os x.1) = (true, cs', os'.map fun x => some x.2))
    (hl : pu.map (fun x => x.2.2.length) = pu.map (fun x => (((cs ++ mk.map (·.2))[x.1]?).getD []).length))
    (hc : Certs P Q w0 k0 X ops its (bls cs mk pu) os 0 ops.toList its)
    (hp : All mk.length fun new => ∀ a' w', M w0 k0 X n cs' (ks ++ new) os' a' w' → Q .normal a' w') : (Code.region id ops true).wp P Q a w := by
  simp only [Prod.mk.injEq, Bool.and_eq_true] at hk
  obtain ⟨⟨h1, h2⟩, h3, h4⟩ := hk
  refine region_draws' hm h.st (h.reg h1 hc) bls_start bls_take (bls_end h2 hl) fun new w' hn hS => ?_
  rw [bls_len, Nat.add_sub_cancel_left] at hn
  exact hp.get new hn _ _ (h.next h1 h4 (h3 ▸ hS))
theorem bls_nil : (bls cs [] []).map Bl.fin = cs := by
  have h : ∀ (cs : List (List Value)) (b : Nat), (olB [] b cs).map Bl.fin = cs := fun cs => by
    induction cs with
    | nil => intro _; rfl
    | cons c r ih => intro b; rw [olB, List.map_cons, ih]; rfl
  rw [bls, List.map_append, h]
  exact List.append_nil _
theorem M.tx0 {id : Nat} (h : M w0 k0 X n cs ks os a w) (its : List It) (os' : List (Tmp × SV)) (hk : (allB ops its (bls cs [] []) os n, os'.map fun x => lk its os x.1) = (true, os'.map fun x => some x.2))
    (hc : Certs P Q w0 k0 X ops its (bls cs [] []) os 0 ops.toList its) (hp : ∀ a' w', M w0 k0 X n cs ks os' a' w' → Q .normal a' w') : (Code.region id ops false).wp P Q a w := by
  simp only [Prod.mk.injEq] at hk
  refine h.tx its [] [] cs os' (by simp only [hk.1, hk.2, bls_nil]; rfl) rfl hc (fun a' w' hM => hp a' w' ?_)
  rwa [List.append_nil] at hM
theorem M.dr0 {id : Nat} (h : M w0 k0 X n cs ks os a w) (hm : P.follows .mixedOrders = true) (its : List It) (os' : List (Tmp × SV)) (hk : (allB ops its (bls cs [] []) os n, os'.map fun x => lk its os x.1) = (true, os'.map fun x => some x.2))
    (hc : Certs P Q w0 k0 X ops its (bls cs [] []) os 0 ops.toList its) (hp : ∀ a' w', M w0 k0 X n cs ks os' a' w' → Q .normal a' w') : (Code.region id ops true).wp P Q a w := by
  simp only [Prod.mk.injEq] at hk
  refine h.dr hm its [] [] cs os' (by simp only [hk.1, hk.2, bls_nil]; rfl) rfl hc (fun a' w' hM => hp a' w' ?_)
  rwa [List.append_nil] at hM
/-- The same, with what the kernel finds by itself behind. -/
theorem M.t {id : Nat} (h : M w0 k0 X n cs ks os a w) (its : List It) (mk : List (Nat × List Value)) (pu : List (Nat × Nat × List Value)) (cs' : List (List Value)) (os' : List (Tmp × SV)) (hc : Certs P Q w0 k0 X ops its (bls cs mk pu) os 0 ops.toList its) (hp : All mk.length fun new => ∀ a' w', M w0 k0 X n cs' (ks ++ new) os' a' w' → Q .normal a' w') (hk : (allB ops its (bls cs mk pu) os n && inB its.length mk pu, (bls cs mk pu).map Bl.fin, os'.map fun x => lk its os x.1) = (true, cs', os'.map fun x => some x.2) := by kernel_rfl) (hl : pu.map (fun x => x.2.2.length) = pu.map (fun x => (((cs ++ mk.map (·.2))[x.1]?).getD []).length) := by kernel_rfl) : (Code.region id ops false).wp P Q a w := h.tx its mk pu cs' os' hk hl hc hp
theorem M.d {id : Nat} (h : M w0 k0 X n cs ks os a w) (its : List It) (mk : List (Nat × List Value)) (pu : List (Nat × Nat × List Value)) (cs' : List (List Value)) (os' : List (Tmp × SV)) (hc : Certs P Q w0 k0 X ops its (bls cs mk pu) os 0 ops.toList its) (hp : All mk.length fun new => ∀ a' w', M w0 k0 X n cs' (ks ++ new) os' a' w' → Q .normal a' w') (hk : (allB ops its (bls cs mk pu) os n && inB its.length mk pu, (bls cs mk pu).map Bl.fin, os'.map fun x => lk its os x.1) = (true, cs', os'.map fun x => some x.2) := by kernel_rfl) (hl : pu.map (fun x => x.2.2.length) = pu.map (fun x => (((cs ++ mk.map (·.2))[x.1]?).getD []).length) := by kernel_rfl) (hm : P.follows .mixedOrders = true := by kernel_rfl) : (Code.region id ops true).wp P Q a w := h.dr hm its mk pu cs' os' hk hl hc hp
theorem M.u {id : Nat} (h : M w0 k0 X n cs ks os a w) (its : List It) (os' : List (Tmp × SV)) (hc : Certs P Q w0 k0 X ops its (bls cs [] []) os 0 ops.toList its) (hp : ∀ a' w', M w0 k0 X n cs ks os' a' w' → Q .normal a' w') (hk : (allB ops its (bls cs [] []) os n, os'.map fun x => lk its os x.1) = (true, os'.map fun x => some x.2) := by kernel_rfl) : (Code.region id ops false).wp P Q a w := h.tx0 its os' hk hc hp
theorem M.e {id : Nat} (h : M w0 k0 X n cs ks os a w) (its : List It) (os' : List (Tmp × SV)) (hc : Certs P Q w0 k0 X ops its (bls cs [] []) os 0 ops.toList its) (hp : ∀ a' w', M w0 k0 X n cs ks os' a' w' → Q .normal a' w') (hk : (allB ops its (bls cs [] []) os n, os'.map fun x => lk its os x.1) = (true, os'.map fun x => some x.2) := by kernel_rfl) (hm : P.follows .mixedOrders = true := by kernel_rfl) : (Code.region id ops true).wp P Q a w := h.dr0 hm its os' hk hc hp
theorem M.at (h : M w0 k0 X n cs ks os a w) {t : Tmp} {s : SV} (hs : (os.find? (fun x => x.1 == t)).map (·.2) = some s := by kernel_rfl) : a.tmps[t]? = some (s.at (ad ks)) := by
  obtain ⟨y, hy, rfl⟩ := Option.map_eq_some_iff.1 hs
  have hyt : y.1 = t := by simpa using List.find?_some hy
  rw [← hyt]
  exact h.os.get y.1 y.2 (List.mem_of_find?_eq_some hy)
theorem St.made {w w' : World} {cs : List (List Value)} {ks : List Nat} (h : St w w.heap.size [] cs ks w') {b : Nat} {c : List Value} (hb : cs[b]? = some c) : Made w (ad ks b) c w' := by
  obtain ⟨h1, h2, h3, h4⟩ := h.has b c hb
  exact ⟨h.bel.below, h4.elim id (fun h => absurd h List.not_mem_nil), h3, h1, h2⟩
theorem M.av (h : M w0 k0 X n cs ks os a w) {t : Tmp} {v : Value} (hs : (os.find? (fun x => x.1 == t)).map (·.2) = some (.v v) := by kernel_rfl) : a.tmps[t]? = some v := h.at hs
theorem M.ev (h : M w0 k0 X n cs ks os a w) {t : Tmp} {v : Value} (hs : (os.find? (fun x => x.1 == t)).map (·.2) = some (.v v) := by kernel_rfl) : a.eval (.tmp t) = v := eval_of (h.at hs)
/-- A call begins. -/
theorem M.enter {c : Code} (os : List (Tmp × SV)) (n : Nat) (h : (os.map fun x => a.tmps[x.1]?, a.tmps.size, a.defers) = (os.map fun x => some (x.2.at (ad [])), n, [])) (hp : ∀ a, M w w.heap.size [] n [] [] os a w → c.wp P Q a w) : c.wp P Q a w := by
  simp only [Prod.mk.injEq] at h
  exact hp a ⟨St.begin w, ⟨h.2.1, h.2.2⟩, Olds.mk' fun x hx => List.map_inj_left.1 h.1 x hx⟩
/-- Blocks that nobody asks for any more. -/
theorem M.drop {w0 w : World} {k0 n : Nat} {X : List Nat} {cs cs2 : List (List Value)} {ks ks2 : List Nat} {os : List (Tmp × SV)} {a : Act} (h : M w0 k0 X n (cs ++ cs2) (ks ++ ks2) os a w) (hl : ks.length = cs.length)
    (ho : os.all (fun x => match x.2.blk with | none => true | some b => b.blt cs.length) = true) : M w0 k0 X n cs ks os a w := by
  have had : ∀ b, b < cs.length → ad (ks ++ ks2) b = ad ks b := fun b hb => by
    unfold ad
    rw [List.getD_eq_getElem?_getD, List.getD_eq_getElem?_getD, List.getElem?_append_left (by omega)]
  refine ⟨⟨h.st.bel, h.st.le, hl, fun b c hb => ?_, fun b c hb hc hne => ?_⟩, h.sl, Olds.mk' fun x hx => ?_⟩
  · have hlt := (List.getElem?_eq_some_iff.1 hb).1
    have := h.st.has b c (by rw [List.getElem?_append_left hlt]; exact hb)
    rwa [had b hlt] at this
  · have := h.st.inj b c (by rw [List.length_append]; omega) (by rw [List.length_append]; omega) hne
    rwa [had b hb, had c hc] at this
  · rw [h.os.get x.1 x.2 hx]
    congr 1
    refine SV.at_congr fun b hb => ?_
    have h1 := List.all_eq_true.1 ho x hx
    rw [hb] at h1
    exact had b (Nat.lt_of_succ_le (Nat.le_of_ble_eq_true h1))
/-- n words that are 0. -/
abbrev z (n : Nat) : List Value := List.replicate n (.int .u64 0)
def It.s (d : Tmp) (need : List (Tmp × Nat)) (out : SV) : It := ⟨some d, need, out, .stay⟩
def It.x (d : Tmp) (need : List (Tmp × Nat)) (v : Value) : It := ⟨some d, need, .v v, .stay⟩
def It.c (d : Tmp) (need : List (Tmp × Nat)) (v : Value) : It := ⟨some d, need, .v v, .call⟩
def It.m (d : Tmp) (need : List (Tmp × Nat)) (b : Nat) : It := ⟨some d, need, .p b 0, .make b⟩
def It.u (need : List (Tmp × Nat)) (b : Nat) : It := ⟨none, need, .v undef, .put b⟩
end Go.Proofs.Ytboigmhioojenaa.RG
set_option linter.unusedVariables false
set_option linter.unusedSimpArgs false
namespace Go.Proofs.Ytboigmhioojenaa.RG
open Go Go.RowKit
variable {P : Program} {ops : Array Oper} {Q : Exit → Act → World → Prop} {w : World} {a0 : Act} {L : Array Bool}
/-- A region as a flow: what holds of each operation's value, what holds at first, what each does to the world, who ends what holds. -/
structure Flow where
  R : Nat → Value → World → Prop
  B : Nat → World → Prop
  E : Nat → World → World → Prop
  kill : Nat → List Nat
  killB : Nat → List Nat
def dstOf (ops : Array Oper) (i : Nat) : Option Tmp := (ops[i]?).bind (·.dst)
def depOn (ops : Array Oper) (x k : Nat) : Bool := match ops[x]? with | some o => depB o k | none => true
def okK (ops : Array Oper) (k : Nat) (l : List Nat) : Bool := l.all (fun x => x == k || depOn ops x k)
/-- Slot t is filled by operations alone that wait for k. -/
def freeF (ops : Array Oper) (k : Nat) (t : Tmp) : Bool := (List.range ops.size).all (fun i => dstOf ops i != some t || i == k || depOn ops i k)
structure InvF (F : Flow) (ops : Array Oper) (a0 : Act) (L : Array Bool) (a : Act) (w : World) : Prop where
  size : L.size = ops.size
  cl : ∀ (i : Nat) (o : Oper), ops[i]? = some o → on L i = true → ∀ e ∈ o.after, Region.binds .any e = true → on L e.on = true
  def' : a.defers = a0.defers
  sz : a.tmps.size = a0.tmps.size
  rest : ∀ t : Tmp, (∀ i, on L i = true → dstOf ops i ≠ some t) → a.tmps[t]? = a0.tmps[t]?
  all : ∃ V : Nat → Value, (∀ i d, on L i = true → dstOf ops i = some d → a.tmps[d]? = some (V i)) ∧ (∀ i, on L i = true → (∀ x ∈ F.kill i, on L x = false) → F.R i (V i) w)
  base : ∀ b, (∀ x ∈ F.killB b, on L x = false) → F.B b w
/-- What an operation is asked for. -/
def CertF (P : Program) (Q : Exit → Act → World → Prop) (F : Flow) (ops : Array Oper) (a0 : Act) (k : Nat) (o : Oper) : Prop :=
  ∀ (a : Act) (w : World) (K : Act → World → Prop),
    (∀ j d, depB o j = true → okK ops k (F.kill j) = true → dstOf ops j = some d → F.R j (a.eval (.tmp d)) w) →
    (∀ t, freeF ops k t = true → a.eval (.tmp t) = a0.eval (.tmp t)) →
    (∀ b, okK ops k (F.killB b) = true → F.B b w) →
    (∀ v w', F.E k w w' → F.R k v w' → K (a.put o.dst v) w') → o.wp P a w K Q
/-- An operation that may be guarded: it is wanted, or it is passed by. -/
def CertH (P : Program) (Q : Exit → Act → World → Prop) (F : Flow) (ops : Array Oper) (a0 : Act) (k : Nat) (o : Oper) : Prop :=
  match o.guard with
  | none => CertF P Q F ops a0 k o
  | some (j, want) => depB o j = true ∧ (dstOf ops j).isSome = true ∧ okK ops k (F.kill j) = true ∧
    (((∀ v w, F.R j v w → v = .bool want) ∧ CertF P Q F ops a0 k o) ∨ ((∀ v w, F.R j v w → v = .bool (!want)) ∧ ∀ w, F.E k w w ∧ F.R k undef w))
def chkF (ops : Array Oper) (n : Nat) : Bool :=
  (List.range ops.size).all (fun i => match ops[i]? with
    | some o => o.after.all (fun e => !Region.binds .any e || e.on < i) && (match o.dst with | none => true | some d => decide (d < n) && (List.range ops.size).all (fun j => j == i || dstOf ops j != some d))
    | none => false)
structure RegF (P : Program) (Q : Exit → Act → World → Prop) (F : Flow) (ops : Array Oper) (a0 : Act) (m : Nat) : Prop where
  chk : chkF ops a0.tmps.size = true
  cert : ∀ k o, k < m → ops[k]? = some o → CertH P Q F ops a0 k o
  stab : ∀ i j, i < m → j < m → i ≠ j → (F.kill j).contains i = false → depOn ops j i = false → ∀ v w w', F.E i w w' → F.R j v w → F.R j v w'
  stabB : ∀ i b, i < m → (F.killB b).contains i = false → ∀ w w', F.E i w w' → F.B b w → F.B b w'
variable {F : Flow} {m : Nat}
theorem RegF.of {k : Nat} {o : Oper} (h : RegF P Q F ops a0 m) (ho : ops[k]? = some o) : (∀ e ∈ o.after, Region.binds .any e = true → e.on < k) ∧ ∀ d, o.dst = some d → d < a0.tmps.size ∧ ∀ j, dstOf ops j = some d → j = k := by
  have hk : k < ops.size := (Array.getElem?_eq_some_iff.1 ho).1
  have h1 := List.all_eq_true.1 h.chk k (List.mem_range.2 hk)
  rw [ho] at h1
  simp only [Bool.and_eq_true] at h1
  obtain ⟨h2, h3⟩ := h1
  refine ⟨fun e he hb => ?_, fun d hd => ?_⟩
  · have := Array.all_eq_true'.1 h2 e he
    simpa [hb] using this
  · rw [hd] at h3
    simp only [Bool.and_eq_true, decide_eq_true_eq] at h3
    refine ⟨h3.1, fun j hj => ?_⟩
    have hjs : j < ops.size := by
      unfold dstOf at hj
      cases hx : ops[j]? with
      | none => rw [hx] at hj; cases hj
      | some x => exact (Array.getElem?_eq_some_iff.1 hx).1
    have := List.all_eq_true.1 h3.2 j (List.mem_range.2 hjs)
    simpa [hj] using this
theorem dstOf_some {i : Nat} {o : Oper} (ho : ops[i]? = some o) : dstOf ops i = o.dst := by unfold dstOf; rw [ho]; rfl
theorem dep_on {a : Act} {x k : Nat} {o : Oper} (h : InvF F ops a0 L a w) {ho : ops[x]? = some o} (hd : depB o k = true) (hx : on L x = true) : on L k = true := by
  obtain ⟨e, he, hb⟩ := Array.any_eq_true'.1 hd
  simp only [Bool.and_eq_true, beq_iff_eq] at hb
  rw [← hb.2]
  exact h.cl x o ho hx e he hb.1
theorem on_lt {L : Array Bool} {x : Nat} (h : on L x = true) : x < L.size := by
  rcases Nat.lt_or_ge x L.size with h1 | h1
  · exact h1
  · unfold on at h
    rw [Array.getD_eq_getD_getElem?, Array.getElem?_eq_none h1] at h
    cases h
theorem stepF {k : Nat} {o : Oper} {a : Act} (R : RegF P Q F ops a0 m) (hkm : k < m) (hlt : ∀ i, on L i = true → i < m) (ho : ops[k]? = some o) (hun : on L k = false) (hdep : ∀ e ∈ o.after, Region.binds .any e = true → on L e.on = true) (h : InvF F ops a0 L a w) :
    wpOp P ops Q k (InvF F ops a0 (L.setIfInBounds k true)) a w := by
  obtain ⟨hback, hdst⟩ := R.of ho
  have hks : k < ops.size := (Array.getElem?_eq_some_iff.1 ho).1
  have hkL : k < L.size := by rw [h.size]; exact hks
  have hdo : dstOf ops k = o.dst := dstOf_some ho
  have hnot : ∀ x, (x == k || depOn ops x k) = true → on L x = false := fun x hx => by
    cases hon : on L x with
    | false => rfl
    | true =>
      rcases Bool.or_eq_true _ _ ▸ hx with h1 | h1
      · rw [show x = k by simpa using h1, hun] at hon; cases hon
      · unfold depOn at h1
        have hxs : x < ops.size := by rw [← h.size]; exact on_lt hon
        have hox : ops[x]? = some ops[x] := Array.getElem?_eq_getElem hxs
        rw [hox] at h1
        have := dep_on (ho := hox) h h1 hon
        rw [hun] at this; cases this
  obtain ⟨V, hV1, hV2⟩ := h.all
  have hp1 : ∀ j d, depB o j = true → okK ops k (F.kill j) = true → dstOf ops j = some d → a.tmps[d]? = some (V j) ∧ F.R j (V j) w := fun j d hj hok hd => by
    obtain ⟨e, he, hb⟩ := Array.any_eq_true'.1 hj
    simp only [Bool.and_eq_true, beq_iff_eq] at hb
    have hjon : on L j = true := by rw [← hb.2]; exact hdep e he hb.1
    exact ⟨hV1 j d hjon hd, hV2 j hjon fun x hx => hnot x (List.all_eq_true.1 hok x hx)⟩
  have hpre1 : ∀ j d, depB o j = true → okK ops k (F.kill j) = true → dstOf ops j = some d → F.R j (a.eval (.tmp d)) w := fun j d hj hok hd => by
    rw [eval_of (hp1 j d hj hok hd).1]
    exact (hp1 j d hj hok hd).2
  have hpre2 : ∀ t, freeF ops k t = true → a.eval (.tmp t) = a0.eval (.tmp t) := fun t hf => by
    have h1 := h.rest t fun i hi hd => by
      have his : i < ops.size := by rw [← h.size]; exact on_lt hi
      have h2 := List.all_eq_true.1 hf i (List.mem_range.2 his)
      rw [hd] at h2
      have h3 : (i == k || depOn ops i k) = true := by simpa using h2
      rw [hnot i h3] at hi; cases hi
    show a.tmps.getD t undef = a0.tmps.getD t undef
    rw [Array.getD_eq_getD_getElem?, Array.getD_eq_getD_getElem?, h1]
  have hpre3 : ∀ b, okK ops k (F.killB b) = true → F.B b w := fun b hb => h.base b fun x hx => hnot x (List.all_eq_true.1 hb x hx)
  have hpost : ∀ v w', F.E k w w' → F.R k v w' → InvF F ops a0 (L.setIfInBounds k true) (a.put o.dst v) w' := fun v w' hE hR => by
    have hon : ∀ x, on (L.setIfInBounds k true) x = (on L x || k == x) := fun x => on_set hkL
    refine ⟨by rw [Array.size_setIfInBounds]; exact h.size, fun i oi hoi hi e he hb => ?_, ?_, ?_, fun t ht => ?_, ⟨fun x => if x = k then v else V x, fun i d hi hd => ?_, fun i hi hkl => ?_⟩, fun b hb => ?_⟩
    · rw [hon] at hi ⊢
      by_cases hik : k = i
      · subst hik
        rw [ho] at hoi
        obtain rfl := Option.some.inj hoi
        rw [hdep e he hb, Bool.true_or]
      · rw [h.cl i oi hoi (by simpa [hik] using hi) e he hb, Bool.true_or]
    · rw [← h.def']; cases o.dst <;> rfl
    · rw [put_size]; exact h.sz
    · have h1 : o.dst ≠ some t := fun hd => ht k (by rw [hon]; simp) (by rw [hdo]; exact hd)
      rw [put_other a v h1]
      exact h.rest t fun i hi => ht i (by rw [hon, hi, Bool.true_or])
    · rw [hon] at hi
      by_cases hik : i = k
      · subst hik
        rw [hdo] at hd
        rw [hd]
        show (a.tmps.setIfInBounds d v)[d]? = some (if i = i then v else V i)
        rw [if_pos (rfl : i = i)]
        rw [Array.getElem?_setIfInBounds, if_pos rfl, if_pos (by rw [h.sz]; exact (hdst d hd).1)]
      · have hne : o.dst ≠ some d := fun hd2 => hik ((hdst d hd2).2 i hd)
        rw [put_other a v hne]
        show _ = some (if i = k then v else V i)
        rw [if_neg hik]
        have hik' : ¬ k = i := fun e => hik e.symm
        exact hV1 i d (by simpa [hik'] using hi) hd
    · rw [hon] at hi
      by_cases hik : i = k
      · subst hik
        show F.R i (if i = i then v else V i) w'
        rw [if_pos rfl]; exact hR
      · show F.R i (if i = k then v else V i) w'
        rw [if_neg hik]
        have hik' : ¬ k = i := fun e => hik e.symm
        have hi' : on L i = true := by simpa [hik'] using hi
        have h1 : ∀ x ∈ F.kill i, on L x = false := fun x hx => by
          have := hkl x hx
          rw [hon, Bool.or_eq_false_iff] at this
          exact this.1
        have h2 : (F.kill i).contains k = false := by
          cases hc : (F.kill i).contains k with
          | false => rfl
          | true =>
            have := hkl k (by simpa using hc)
            rw [hon] at this
            simp at this
        have his : i < ops.size := by rw [← h.size]; exact on_lt hi'
        have h3 : depOn ops i k = false := by
          cases hc : depOn ops i k with
          | false => rfl
          | true => rw [hnot i (by rw [hc, Bool.or_true])] at hi'; cases hi'
        exact R.stab k i hkm (hlt i hi') (Ne.symm hik) h2 h3 _ _ _ hE (hV2 i hi' h1)
    · have h1 : ∀ x ∈ F.killB b, on L x = false := fun x hx => by
        have := hb x hx
        rw [hon, Bool.or_eq_false_iff] at this
        exact this.1
      have h2 : (F.killB b).contains k = false := by
        cases hc : (F.killB b).contains k with
        | false => rfl
        | true =>
          have := hb k (by simpa using hc)
          rw [hon] at this
          simp at this
      exact R.stabB k b hkm h2 _ _ hE (h.base b h1)
  have hC := R.cert k o hkm ho
  unfold CertH at hC
  unfold wpOp
  rw [ho]
  dsimp only
  cases hg : o.guard with
  | none =>
    rw [hg] at hC
    rw [wanted_none hg, if_pos rfl]
    left
    exact hC a w _ hpre1 hpre2 hpre3 hpost
  | some jw =>
    obtain ⟨j, want⟩ := jw
    rw [hg] at hC
    obtain ⟨hd1, hd2, hd3, hcase⟩ := hC
    obtain ⟨d, hd⟩ := Option.isSome_iff_exists.1 hd2
    obtain ⟨hs, hRj⟩ := hp1 j d hd1 hd3 hd
    have hy : ∀ b, V j = .bool b → Region.wanted o (yielded ops a.tmps) = (b == want) := fun b hb => by
      have h4 : yielded ops a.tmps j = some b := by
        unfold dstOf at hd
        unfold yielded
        cases hoj : ops[j]? with
        | none => rw [hoj] at hd; cases hd
        | some oj =>
          rw [hoj] at hd
          show (match oj.dst.bind (a.tmps[·]?) with | some (.bool b) => some b | _ => none) = _
          rw [show oj.dst = some d from hd]
          show (match a.tmps[d]? with | some (.bool b) => some b | _ => none) = _
          rw [hs, hb]
      unfold Region.wanted
      rw [hg]
      show (yielded ops a.tmps j == some want) = _
      rw [h4]
      cases b <;> cases want <;> rfl
    rcases hcase with ⟨hw, hc⟩ | ⟨hw, hsk⟩
    · rw [hy _ (hw _ _ hRj), show (want == want) = true by cases want <;> rfl, if_pos rfl]
      left
      exact hc a w _ hpre1 hpre2 hpre3 hpost
    · rw [hy _ (hw _ _ hRj), show ((!want) == want) = false by cases want <;> rfl]
      exact hpost undef w (hsk w).1 (hsk w).2
/-- All slots that were filled. -/
def putV (V : Nat → Value) : List Oper → Nat → Act → Act
  | [], _, a => a
  | o :: r, i, a => putV V r (i + 1) (a.put o.dst (V i))
theorem putV_defers (V : Nat → Value) : ∀ (l : List Oper) (i : Nat) (a : Act), (putV V l i a).defers = a.defers
  | [], _, _ => rfl
  | o :: r, i, a => by
    rw [putV, putV_defers V r]
    cases o.dst <;> rfl
theorem putV_other (V : Nat → Value) : ∀ (l : List Oper) (i : Nat) (a : Act) (t : Tmp), (∀ o ∈ l, o.dst ≠ some t) → (putV V l i a).tmps[t]? = a.tmps[t]?
  | [], _, _, _, _ => rfl
  | o :: r, i, a, t, h => by
    rw [putV, putV_other V r _ _ t (fun x hx => h x (List.mem_cons_of_mem _ hx)), put_other a _ (h o List.mem_cons_self)]
theorem putV_same (V : Nat → Value) : ∀ (l : List Oper) (i : Nat) (a : Act) (j : Nat) (o : Oper) (d : Tmp), l[j]? = some o → o.dst = some d → (∀ j' o', l[j']? = some o' → o'.dst = some d → j' = j) → d < a.tmps.size → (putV V l i a).tmps[d]? = some (V (i + j))
  | [], _, _, _, _, _, h, _, _, _ => by simp at h
  | x :: r, i, a, 0, o, d, h, hd, hu, hs => by
    obtain rfl : x = o := by simpa using h
    rw [putV, putV_other V r _ _ d (fun y hy hyd => by
      obtain ⟨j', hj'⟩ := List.getElem?_of_mem hy
      have := hu (j' + 1) y (by simpa using hj') hyd
      omega), hd]
    show (a.tmps.setIfInBounds d _)[d]? = _
    rw [Array.getElem?_setIfInBounds, if_pos rfl, if_pos hs]
    rfl
  | x :: r, i, a, j + 1, o, d, h, hd, hu, hs => by
    rw [putV, putV_same V r (i + 1) _ j o d (by simpa using h) hd (fun j' o' h' hd' => by
      have := hu (j' + 1) o' (by simpa using h') hd'
      omega) (by rw [put_size]; exact hs)]
    congr 2
    omega
theorem InvF.done {a : Act} (R : RegF P Q F ops a0 m) (h : InvF F ops a0 L a w) (hall : ∀ i, i < ops.size → on L i = true)
    (hp : ∀ (V : Nat → Value), (∀ i, i < ops.size → F.kill i = [] → F.R i (V i) w) → (∀ b, F.killB b = [] → F.B b w) → Q .normal (putV V ops.toList 0 a0) w) : Q .normal a w := by
  obtain ⟨V, hV1, hV2⟩ := h.all
  have e : a = putV V ops.toList 0 a0 := by
    refine Act.ext' ?_ (by rw [putV_defers]; exact h.def')
    apply Array.ext_getElem?
    intro t
    by_cases ht : ∃ (i : Nat) (o : Oper), ops[i]? = some o ∧ o.dst = some t
    · obtain ⟨i, o, ho, hd⟩ := ht
      rw [hV1 i t (hall i (Array.getElem?_eq_some_iff.1 ho).1) (by rw [dstOf_some ho]; exact hd)]
      rw [putV_same V ops.toList 0 a0 i o t (by rw [Array.getElem?_toList]; exact ho) hd (fun j' o' hj' hd' => ((R.of ho).2 t hd).2 j' (by rw [Array.getElem?_toList] at hj'; rw [dstOf_some hj']; exact hd')) ((R.of ho).2 t hd).1, Nat.zero_add]
    · rw [h.rest t (fun i hi hd => ?_), putV_other V ops.toList 0 a0 t (fun o hm hd => ?_)]
      · obtain ⟨i, hi⟩ := List.getElem?_of_mem hm
        rw [Array.getElem?_toList] at hi
        exact ht ⟨i, o, hi, hd⟩
      · unfold dstOf at hd
        cases hx : ops[i]? with
        | none => rw [hx] at hd; cases hd
        | some x => rw [hx] at hd; exact ht ⟨i, x, hx, hd⟩
  rw [e]
  exact hp V (fun i hi hk => hV2 i (hall i hi) (by rw [hk]; simp)) (fun b hb => h.base b (by rw [hb]; simp))
theorem InvF.full {a : Act} (R : RegF P Q F ops a0 m) (h : InvF F ops a0 L a w) (hr : Region.ready .any ops L = []) : ∀ i, i < ops.size → on L i = true := by
  intro i
  induction i using Nat.strongRecOn with
  | ind i ih =>
    intro hi
    have ho : ops[i]? = some ops[i] := Array.getElem?_eq_getElem _
    cases hon : on L i with
    | true => rfl
    | false =>
      have : i ∈ Region.ready .any ops L := mem_ready.2 ⟨?_, _, ho, fun e he hb => ?_⟩
      · rw [hr] at this; cases this
      · unfold on at hon
        rw [Array.getD_eq_getD_getElem?, Array.getElem?_eq_getElem (by rw [h.size]; exact hi)] at hon ⊢
        exact hon
      · have hlt := (R.of ho).1 e he hb
        exact ih e.on hlt (Nat.lt_trans hlt hi)
/-- THE LAW of flows, for a region that draws its order. -/
theorem flow_draws {id : Nat} (F : Flow) (hm : P.follows .mixedOrders = true) (R : RegF P Q F ops a0 ops.size) (hB : ∀ b, F.B b w.drew)
    (hp : ∀ (V : Nat → Value) (w' : World), (∀ i, i < ops.size → F.kill i = [] → F.R i (V i) w') → (∀ b, F.killB b = [] → F.B b w') → Q .normal (putV V ops.toList 0 a0) w') : (Code.region id ops true).wp P Q a0 w := by
  have key : ∀ (fuel : Nat) (L : Array Bool) (a : Act) (w : World), unl L = fuel → InvF F ops a0 L a w → wpAny P .any ops Q fuel L a w := by
    intro fuel
    induction fuel with
    | zero =>
      intro L a w hu hI
      have hall : ∀ i, i < ops.size → on L i = true := fun i hi => unl_zero hu i (by rw [hI.size]; exact hi)
      refine ⟨?_, hI.done R hall (fun V => hp V w)⟩
      apply List.eq_nil_iff_forall_not_mem.2
      intro i hi
      obtain ⟨h1, o, ho, -⟩ := mem_ready.1 hi
      have h2 := hall i (Array.getElem?_eq_some_iff.1 ho).1
      unfold on at h2
      rw [Array.getD_eq_getD_getElem?] at h1 h2
      cases hh : L[i]? with
      | none => rw [hh] at h1; cases h1
      | some b => rw [hh] at h1 h2; rw [show b = false from h1] at h2; cases h2
    | succ fuel ih =>
      intro L a w hu hI
      refine ⟨fun hr => hI.done R (hI.full R hr) (fun V => hp V w), fun i hi => ?_⟩
      obtain ⟨h1, o, ho, hdep⟩ := mem_ready.1 hi
      have hoff : on L i = false := by
        unfold on
        rw [Array.getD_eq_getD_getElem?] at h1 ⊢
        cases hh : L[i]? with
        | none => rfl
        | some b => rw [hh] at h1; exact h1
      exact wpOp_mono (fun a' w' hI' => ih _ a' w' (by have := unl_set h1; omega) hI') (stepF R (Array.getElem?_eq_some_iff.1 ho).1 (fun i hi => by rw [← hI.size]; exact on_lt hi) ho hoff hdep hI)
  have hoff : ∀ i, on (Array.replicate ops.size false) i = false := fun i => by
    unfold on
    rw [Array.getD_eq_getD_getElem?, Array.getElem?_replicate]
    by_cases h : i < ops.size
    · rw [if_pos h]; rfl
    · rw [if_neg h]; rfl
  refine wp_region_any hm (key _ _ a0 _ ?_ ⟨Array.size_replicate, (fun i o _ h => by rw [hoff] at h; cases h), rfl, rfl, fun _ _ => rfl, ⟨fun _ => undef, fun i d h => (by rw [hoff] at h; cases h), fun i h => (by rw [hoff] at h; cases h)⟩, fun b _ => hB b⟩)
  unfold unl
  rw [Array.toList_replicate, List.countP_replicate]
  simp
theorem putV_size (V : Nat → Value) : ∀ (l : List Oper) (i : Nat) (a : Act), (putV V l i a).tmps.size = a.tmps.size
  | [], _, _ => rfl
  | o :: r, i, a => by rw [putV, putV_size V r, put_size]
theorem RegF.slot {V : Nat → Value} (R : RegF P Q F ops a0 m) {i : Nat} {d : Tmp} (hd : dstOf ops i = some d) : (putV V ops.toList 0 a0).tmps[d]? = some (V i) := by
  cases ho : ops[i]? with
  | none => unfold dstOf at hd; rw [ho] at hd; cases hd
  | some o =>
    have hd' : o.dst = some d := by rw [← dstOf_some ho]; exact hd
    rw [putV_same V ops.toList 0 a0 i o d (by rw [Array.getElem?_toList]; exact ho) hd' (fun j' o' hj' hdj => ((R.of ho).2 d hd').2 j' (by rw [Array.getElem?_toList] at hj'; rw [dstOf_some hj']; exact hdj)) ((R.of ho).2 d hd').1, Nat.zero_add]
/-- What an operation may lean on. -/
structure PreF (F : Flow) (ops : Array Oper) (a0 : Act) (k : Nat) (o : Oper) (a : Act) (w : World) : Prop where
  n : ∀ j d, depB o j = true → okK ops k (F.kill j) = true → dstOf ops j = some d → F.R j (a.eval (.tmp d)) w
  o : ∀ t, freeF ops k t = true → a.eval (.tmp t) = a0.eval (.tmp t)
  b : ∀ b, okK ops k (F.killB b) = true → F.B b w
def CertsF (P : Program) (Q : Exit → Act → World → Prop) (F : Flow) (ops : Array Oper) (a0 : Act) : Nat → List Oper → Prop
  | _, [] => True
  | k, o :: r => CertH P Q F ops a0 k o ∧ CertsF P Q F ops a0 (k + 1) r
theorem certs_go : ∀ (l : List Oper) (i : Nat), CertsF P Q F ops a0 i l → ∀ k o, l[k]? = some o → CertH P Q F ops a0 (i + k) o
  | [], _, _, k, o, h => by simp at h
  | x :: r, i, hc, 0, o, h => by
    obtain rfl : x = o := by simpa using h
    exact hc.1
  | x :: r, i, hc, k + 1, o, h => by
    have := certs_go r (i + 1) hc.2 k o (by simpa using h)
    rwa [show i + 1 + k = i + (k + 1) by omega] at this
theorem certs_of (h : CertsF P Q F ops a0 0 ops.toList) : ∀ k o, k < ops.size → ops[k]? = some o → CertH P Q F ops a0 k o := fun k o _ ho => by
  have := certs_go ops.toList 0 h k o (by rw [Array.getElem?_toList]; exact ho)
  rwa [Nat.zero_add] at this
def evo (ev : Tmp → Value) : Operand → Value
  | .tmp t => ev t
  | .const v => v
  | .global g => .pointer (some ⟨g, 0, none⟩)
  | .func f => .func (.func f) #[] #[]
def seenT (T : List Tmp) (o : Oper) : Bool :=
  (match o.op with | .select _ _ => false | _ => true) && o.op.operands.all (fun x => match x with | .tmp t => T.contains t | _ => true)
theorem exec_ev {a : Act} {o : Oper} (ev : Tmp → Value) (T : List Tmp) (h : seenT T o = true) (he : ∀ t ∈ T, a.eval (.tmp t) = ev t) : execOp a.eval o = execOp (evo ev) o := by
  simp only [seenT, Bool.and_eq_true] at h
  refine execOp_congr o (fun cs b he => ?_) (fun x hx => ?_)
  · rw [he] at h; exact absurd h.1 (by simp)
  · have h1 := Array.all_eq_true'.1 h.2 x hx
    cases x with
    | tmp t => exact he t (by simpa using h1)
    | const v => rfl
    | global g => rfl
    | func f => rfl
/-- An operation that is run. -/
theorem cf_val {k : Nat} {o : Oper} (h : ∀ (a : Act) (w : World), PreF F ops a0 k o a w → ∃ v w', (execOp a.eval o).run P w = .ok (.value v) w' ∧ F.E k w w' ∧ F.R k v w') : CertF P Q F ops a0 k o := by
  intro a w K h1 h2 h3 hK
  obtain ⟨v, w', hr, hE, hR⟩ := h a w ⟨h1, h2, h3⟩
  unfold Oper.wp
  rw [hr]
  exact hK v w' hE hR
/-- An operation over one slot. -/
theorem cf_one {k : Nat} {o : Oper} (t : Tmp) (h : ∀ (a : Act) (w : World), PreF F ops a0 k o a w → ∃ v w', (seenT [t] o = true) ∧ (execOp (evo fun _ => a.eval (.tmp t)) o).run P w = .ok (.value v) w' ∧ F.E k w w' ∧ F.R k v w') : CertF P Q F ops a0 k o := by
  refine cf_val fun a w hp => ?_
  obtain ⟨v, w', hs, hr, hE⟩ := h a w hp
  refine ⟨v, w', ?_, hE⟩
  rw [exec_ev (fun _ => a.eval (.tmp t)) [t] hs (fun x hx => by rw [show x = t by simpa using hx])]
  exact hr
/-- A call. -/
theorem cf_call {k : Nat} {o : Oper} (t : Tmp) (h : ∀ (a : Act) (w : World), PreF F ops a0 k o a w → ∃ f args, (seenT [t] o = true) ∧ (execOp (evo fun _ => a.eval (.tmp t)) o).run P w = .ok (.enter f args) w ∧ Calls P f args w (Ret fun e w' => F.E k w w' ∧ F.R k e w')) : CertF P Q F ops a0 k o := by
  intro a w K h1 h2 h3 hK
  obtain ⟨f, args, hs, hr, hc⟩ := h a w ⟨h1, h2, h3⟩
  unfold Oper.wp
  rw [exec_ev (fun _ => a.eval (.tmp t)) [t] hs (fun x hx => by rw [show x = t by simpa using hx]), hr, Oper.upon_enter]
  refine hc.mono ?_
  rintro e w' ⟨v, rfl, hE, hR⟩
  exact hK _ _ hE hR
/-- A row is loaded. -/
theorem cf_load {k : Nat} {o : Oper} (T : TypeId) (t : Tmp) (ho : o.op = .load T (.tmp t)) (hu : (P.underlying T).map (·.isRow) = some true)
    (h : ∀ (a : Act) (w : World), PreF F ops a0 k o a w → ∃ g off cs, a.eval (.tmp t) = .pointer (some ⟨g, off, none⟩) ∧ w.rangeAt g off cs ∧ (P.info? T).map (·.size) = some cs.length ∧ F.E k w w ∧ F.R k (.agg cs.toArray) w) : CertF P Q F ops a0 k o := by
  intro a w K h1 h2 h3 hK
  obtain ⟨g, off, cs, he, hr, hi, hE, hR⟩ := h a w ⟨h1, h2, h3⟩
  obtain ⟨d, hu, hd⟩ := Option.map_eq_some_iff.1 hu
  exact wp_load_mid T (.tmp t) ho g off he cs d hr hu hd hi (hK _ _ hE hR)
/-- A list is appended to another. -/
theorem cf_app {k : Nat} {o : Oper} (s u : Tmp) (t : TypeId) (ho : o.op = .call { callee := .builtin .append, args := #[.tmp s, .tmp u], argTypes := #[t, t] })
    (h : ∀ (a : Act) (w : World), PreF F ops a0 k o a w → ∃ v w', (Builtin.append_ #[t, t] o.type #[a.eval (.tmp s), a.eval (.tmp u)]).run P w = .ok v w' ∧ F.E k w w' ∧ F.R k v w') : CertF P Q F ops a0 k o := by
  intro a w K h1 h2 h3 hK
  obtain ⟨v, w', hr, hE, hR⟩ := h a w ⟨h1, h2, h3⟩
  unfold Oper.wp execOp
  simp only [ho, resolve, invoke, builtin, Sem.run_bind, Sem.run_pure, Result.andThen_ok, List.map_toArray, List.map_cons, List.map_nil, hr]
  exact hK _ _ hE hR
theorem certs_but (h : CertsF P Q F ops a0 0 (ops.toList.take m)) : ∀ k o, k < m → ops[k]? = some o → CertH P Q F ops a0 k o := fun k o hk ho => by
  have := certs_go (ops.toList.take m) 0 h k o (by rw [List.getElem?_take, if_pos hk, Array.getElem?_toList]; exact ho)
  rwa [Nat.zero_add] at this
theorem InvF.act {a : Act} (R : RegF P Q F ops a0 m) (h : InvF F ops a0 L a w) (hm : m ≤ ops.size) (hall : ∀ i, on L i = true ↔ i < m) {V : Nat → Value} (hV1 : ∀ i d, on L i = true → dstOf ops i = some d → a.tmps[d]? = some (V i)) : a = putV V (ops.toList.take m) 0 a0 := by
  refine Act.ext' ?_ (by rw [putV_defers]; exact h.def')
  apply Array.ext_getElem?
  intro t
  by_cases ht : ∃ (i : Nat) (o : Oper), i < m ∧ ops[i]? = some o ∧ o.dst = some t
  · obtain ⟨i, o, him, ho, hd⟩ := ht
    rw [hV1 i t ((hall i).2 him) (by rw [dstOf_some ho]; exact hd)]
    rw [putV_same V (ops.toList.take m) 0 a0 i o t (by rw [List.getElem?_take, if_pos him, Array.getElem?_toList]; exact ho) hd (fun j' o' hj' hd' => ((R.of ho).2 t hd).2 j' (by
      rw [List.getElem?_take] at hj'
      split at hj'
      · rw [Array.getElem?_toList] at hj'; rw [dstOf_some hj']; exact hd'
      · cases hj')) ((R.of ho).2 t hd).1, Nat.zero_add]
  · rw [h.rest t (fun i hi hd => ?_), putV_other V (ops.toList.take m) 0 a0 t (fun o hm' hd => ?_)]
    · obtain ⟨i, hi⟩ := List.getElem?_of_mem hm'
      rw [List.getElem?_take] at hi
      split at hi
      · rename_i him
        rw [Array.getElem?_toList] at hi
        exact ht ⟨i, o, him, hi, hd⟩
      · cases hi
    · unfold dstOf at hd
      cases hx : ops[i]? with
      | none => rw [hx] at hd; cases hd
      | some x => rw [hx] at hd; exact ht ⟨i, x, (hall i).1 hi, hx, hd⟩
/-- THE LAW of flows, for a region whose last operation waits for all others. -/
theorem flow_last {id : Nat} (F : Flow) (n : Nat) (hn : ops.size = n + 1) (hd : (List.range n).all (fun j => depOn ops n j || (List.range n).any (fun i => depOn ops n i && depOn ops i j)) = true) (hm : P.follows .mixedOrders = true) (R : RegF P Q F ops a0 n) (hB : ∀ b, F.B b w.drew)
    (hp : ∀ (V : Nat → Value) (w' : World), (∀ i, i < n → F.kill i = [] → F.R i (V i) w') → (∀ b, F.killB b = [] → F.B b w') → wpList P ops Q (ops.toList.drop n) (putV V (ops.toList.take n) 0 a0) w') : (Code.region id ops true).wp P Q a0 w := by
  have hon' : ops[n]? = some (ops[n]'(by omega)) := Array.getElem?_eq_getElem _
  have key : ∀ (fuel : Nat) (L : Array Bool) (a : Act) (w : World), unl L = fuel → on L n = false → InvF F ops a0 L a w → wpAny P .any ops Q fuel L a w := by
    intro fuel
    induction fuel with
    | zero =>
      intro L a w hu hoff hI
      have := unl_zero hu n (by rw [hI.size]; omega)
      rw [hoff] at this; cases this
    | succ fuel ih =>
      intro L a w hu hoff hI
      refine ⟨fun hr => ?_, fun i hi => ?_⟩
      · have := hI.full R hr n (by omega)
        rw [hoff] at this; cases this
      · obtain ⟨h1, o, ho, hdep⟩ := mem_ready.1 hi
        have his : i < ops.size := (Array.getElem?_eq_some_iff.1 ho).1
        have hoi : on L i = false := by
          unfold on
          rw [Array.getD_eq_getD_getElem?] at h1 ⊢
          cases hh : L[i]? with
          | none => rfl
          | some b => rw [hh] at h1; exact h1
        by_cases hin : i = n
        · subst hin
          have hall : ∀ j, on L j = true ↔ j < i := fun j => by
            constructor
            · intro hj
              have h2 : j < ops.size := by rw [← hI.size]; exact on_lt hj
              rcases Nat.lt_or_ge j i with h | h
              · exact h
              · obtain rfl : j = i := by omega
                rw [hoff] at hj; cases hj
            · intro hj
              have hdir : ∀ j, depOn ops i j = true → on L j = true := fun j h2 => by
                unfold depOn at h2
                rw [ho] at h2
                obtain ⟨e, he, hb⟩ := Array.any_eq_true'.1 h2
                simp only [Bool.and_eq_true, beq_iff_eq] at hb
                have := hdep e he hb.1
                rw [hb.2] at this
                exact this
              have h2 := List.all_eq_true.1 hd j (List.mem_range.2 hj)
              rw [Bool.or_eq_true] at h2
              rcases h2 with h2 | h2
              · exact hdir j h2
              · obtain ⟨x, hx, h3⟩ := List.any_eq_true.1 h2
                rw [Bool.and_eq_true] at h3
                have hxo := hdir x h3.1
                have hxs : x < ops.size := by have := List.mem_range.1 hx; omega
                have hox : ops[x]? = some ops[x] := Array.getElem?_eq_getElem hxs
                have h4 := h3.2
                unfold depOn at h4
                rw [hox] at h4
                exact dep_on (ho := hox) hI h4 hxo
          obtain ⟨V, hV1, hV2⟩ := hI.all
          have ha := hI.act R (by omega) hall hV1
          have hkl : ∀ l : List Nat, l = [] → ∀ x ∈ l, on L x = false := fun l hl x hx => by rw [hl] at hx; cases hx
          have hfin := hp V w (fun j hj hk => hV2 j ((hall j).2 hj) (hkl _ hk)) (fun b hb => hI.base b (hkl _ hb))
          have hdrop : ops.toList.drop i = [o] := by
            have hlen : ops.toList.length = i + 1 := by rw [Array.length_toList]; exact hn
            rw [List.drop_eq_getElem_cons (by omega), List.drop_of_length_le (by omega)]
            have : ops.toList[i]? = some o := by rw [Array.getElem?_toList]; exact ho
            rw [List.getElem?_eq_getElem (by omega)] at this
            rw [Option.some.inj this]
          rw [hdrop, ← ha] at hfin
          have hop : wpOp P ops Q i (fun a' w' => Q .normal a' w') a w := by
            unfold wpOp
            rw [ho]
            exact hfin
          refine wpOp_mono (fun a' w' hq => ?_) hop
          have hon2 : ∀ j, j < ops.size → on (L.setIfInBounds i true) j = true := fun j hj => by
            rw [on_set (by rw [hI.size]; omega)]
            by_cases h : j < i
            · rw [(hall j).2 h, Bool.true_or]
            · rw [show j = i by omega]; simp
          have hr : Region.ready .any ops (L.setIfInBounds i true) = [] := by
            apply List.eq_nil_iff_forall_not_mem.2
            intro j hj
            obtain ⟨h1, o', ho', -⟩ := mem_ready.1 hj
            have h2 := hon2 j (Array.getElem?_eq_some_iff.1 ho').1
            unfold on at h2
            rw [Array.getD_eq_getD_getElem?] at h1 h2
            cases hh : (L.setIfInBounds i true)[j]? with
            | none => rw [hh] at h1; cases h1
            | some b => rw [hh] at h1 h2; rw [show b = false from h1] at h2; cases h2
          cases fuel with
          | zero => exact ⟨hr, hq⟩
          | succ f => exact ⟨fun _ => hq, fun j hj => by rw [hr] at hj; cases hj⟩
        · refine wpOp_mono (fun a' w' hI' => ih _ a' w' (by have := unl_set h1; omega) ?_ hI') (stepF R (by omega) (fun j hj => ?_) ho hoi hdep hI)
          · rw [on_set (by rw [hI.size]; exact his), hoff]
            simpa using hin
          · have h2 : j < ops.size := by rw [← hI.size]; exact on_lt hj
            rcases Nat.lt_or_ge j n with h | h
            · exact h
            · obtain rfl : j = n := by omega
              rw [hoff] at hj; cases hj
  have hoff : ∀ i, on (Array.replicate ops.size false) i = false := fun i => by
    unfold on
    rw [Array.getD_eq_getD_getElem?, Array.getElem?_replicate]
    by_cases h : i < ops.size
    · rw [if_pos h]; rfl
    · rw [if_neg h]; rfl
  refine wp_region_any hm (key _ _ a0 _ ?_ (hoff n) ⟨Array.size_replicate, (fun i o _ h => by rw [hoff] at h; cases h), rfl, rfl, fun _ _ => rfl, ⟨fun _ => undef, fun i d h => (by rw [hoff] at h; cases h), fun i h => (by rw [hoff] at h; cases h)⟩, fun b _ => hB b⟩)
  unfold unl
  rw [Array.toList_replicate, List.countP_replicate]
  simp
end Go.Proofs.Ytboigmhioojenaa.RG
set_option linter.unusedVariables false
set_option linter.unusedSimpArgs false
namespace Go.Proofs.Ytboigmhioojenaa.RG
open Go Go.RowKit
variable {P : Program} {ops : Array Oper} {Q : Exit → Act → World → Prop} {w : World} {a0 : Act}
def AllE (a : Act) : List (Tmp × Value) → Prop
  | [] => True
  | x :: r => a.eval (.tmp x.1) = x.2 ∧ AllE a r
def evl (ps : List (Tmp × Value)) (t : Tmp) : Value := match ps.find? (fun x => x.1 == t) with | some x => x.2 | none => undef
theorem AllE.mem {a : Act} : ∀ {ps : List (Tmp × Value)}, AllE a ps → ∀ x ∈ ps, a.eval (.tmp x.1) = x.2
  | [], _, x, hx => by cases hx
  | y :: r, h, x, hx => by
    rcases List.mem_cons.1 hx with rfl | hx
    · exact h.1
    · exact AllE.mem h.2 x hx
theorem AllE.ev {a : Act} {ps : List (Tmp × Value)} (h : AllE a ps) : ∀ t ∈ ps.map (·.1), a.eval (.tmp t) = evl ps t := fun t ht => by
  obtain ⟨x, hx, rfl⟩ := List.mem_map.1 ht
  unfold evl
  cases hf : ps.find? (fun y => y.1 == x.1) with
  | none =>
    have := List.find?_eq_none.1 hf x hx
    simp at this
  | some y =>
    have h1 := List.mem_of_find?_eq_some hf
    have h2 : y.1 = x.1 := by simpa using List.find?_some hf
    have := h.mem y h1
    rw [h2] at this
    exact this
/-- A region of operations that only make the world grow. -/
structure Gw where
  R : Nat → Value → World → Prop
  B : World → Prop
  sR : ∀ i v w w', Below w.heap.size w w' → R i v w → R i v w'
  sB : ∀ w w', Below w.heap.size w w' → B w → B w'
def Gw.flow (G : Gw) : Flow := ⟨G.R, fun _ => G.B, fun _ w w' => Below w.heap.size w w', fun _ => [], fun _ => []⟩
/-- What an operation may lean on. -/
structure PreG (G : Gw) (ops : Array Oper) (a0 : Act) (k : Nat) (o : Oper) (a : Act) (w : World) : Prop where
  n : ∀ j d, depB o j = true → dstOf ops j = some d → G.R j (a.eval (.tmp d)) w
  o : ∀ t, freeF ops k t = true → a.eval (.tmp t) = a0.eval (.tmp t)
  b : G.B w
variable {G : Gw}
theorem pre_of {k : Nat} {o : Oper} {a : Act} (h : PreF G.flow ops a0 k o a w) : PreG G ops a0 k o a w := ⟨fun j d hj hd => h.n j d hj rfl hd, h.o, h.b 0 rfl⟩
theorem gw_val {k : Nat} {o : Oper} (h : ∀ (a : Act) (w : World), PreG G ops a0 k o a w → ∃ (ps : List (Tmp × Value)) (v : Value) (w' : World), AllE a ps ∧ (seenT (ps.map (·.1)) o, (execOp (evo (evl ps)) o).run P w) = (true, .ok (.value v) w') ∧ Below w.heap.size w w' ∧ G.R k v w') : CertF P Q G.flow ops a0 k o :=
  cf_val fun a w hp => by
    obtain ⟨ps, v, w', he, hs, hE⟩ := h a w (pre_of hp)
    simp only [Prod.mk.injEq] at hs
    refine ⟨v, w', ?_, hE⟩
    rw [exec_ev (evl ps) (ps.map (·.1)) hs.1 he.ev]
    exact hs.2
theorem gw_call {k : Nat} {o : Oper} (h : ∀ (a : Act) (w : World), PreG G ops a0 k o a w → ∃ (ps : List (Tmp × Value)) (f : FuncId) (args : Array Value), AllE a ps ∧ (seenT (ps.map (·.1)) o, (execOp (evo (evl ps)) o).run P w) = (true, .ok (.enter f args) w) ∧ Calls P f args w (Ret fun e w' => Below w.heap.size w w' ∧ G.R k e w')) : CertF P Q G.flow ops a0 k o := by
  intro a w K h1 h2 h3 hK
  obtain ⟨ps, f, args, he, hs, hc⟩ := h a w (pre_of ⟨h1, h2, h3⟩)
  simp only [Prod.mk.injEq] at hs
  unfold Oper.wp
  rw [exec_ev (evl ps) (ps.map (·.1)) hs.1 he.ev, hs.2, Oper.upon_enter]
  refine hc.mono ?_
  rintro e w' ⟨v, rfl, hE, hR⟩
  exact hK _ _ hE hR
theorem gw_load {k : Nat} {o : Oper} (T : TypeId) (t : Tmp) (ho : o.op = .load T (.tmp t)) (hu : (P.underlying T).map (·.isRow) = some true)
    (h : ∀ (a : Act) (w : World), PreG G ops a0 k o a w → ∃ g off cs, a.eval (.tmp t) = .pointer (some ⟨g, off, none⟩) ∧ w.rangeAt g off cs ∧ (P.info? T).map (·.size) = some cs.length ∧ G.R k (.agg cs.toArray) w) : CertF P Q G.flow ops a0 k o :=
  cf_load T t ho hu fun a w hp => by
    obtain ⟨g, off, cs, h1, h2, h3, h4⟩ := h a w (pre_of hp)
    exact ⟨g, off, cs, h1, h2, h3, Below.refl _ _, h4⟩
theorem gw_bin {k : Nat} {o : Oper} (op : BinOp) (T T' : TypeId) (t1 t2 : Tmp) (ho : o.op = .binOp op T (.tmp t1) (.tmp t2) T')
    (h : ∀ (a : Act) (w : World), PreG G ops a0 k o a w → ∃ v1 v2 v, a.eval (.tmp t1) = v1 ∧ a.eval (.tmp t2) = v2 ∧ (eqGuard op T (.tmp t1) (.tmp t2) v1 v2).run P w = .ok () w ∧ (binOp op T v1 v2).run P w = .ok v w ∧ G.R k v w) : CertF P Q G.flow ops a0 k o :=
  cf_val fun a w hp => by
    obtain ⟨v1, v2, v, h1, h2, hg, hb, hR⟩ := h a w (pre_of hp)
    refine ⟨v, w, ?_, Below.refl _ _, hR⟩
    unfold execOp
    rw [ho]
    dsimp only
    rw [h1, h2, Sem.run_bind, Sem.run_bind, hg]
    dsimp only [Result.andThen]
    rw [hb]
    rfl
/-- An operation that is passed by. -/
theorem gw_pass {k : Nat} {o : Oper} {j : Nat} {want : Bool} (hg : o.guard = some (j, want)) (h : (depB o j, (dstOf ops j).isSome) = (true, true)) (hw : ∀ v w, G.R j v w → v = .bool (!want)) (hR : ∀ w, G.R k undef w) : CertH P Q G.flow ops a0 k o := by
  unfold CertH
  rw [hg]
  simp only [Prod.mk.injEq] at h
  exact ⟨h.1, h.2, rfl, Or.inr ⟨hw, fun w => ⟨Below.refl _ _, hR w⟩⟩⟩
theorem gw_want {k : Nat} {o : Oper} {j : Nat} {want : Bool} (hg : o.guard = some (j, want)) (h : (depB o j, (dstOf ops j).isSome) = (true, true)) (hw : ∀ v w, G.R j v w → v = .bool want) (hc : CertF P Q G.flow ops a0 k o) : CertH P Q G.flow ops a0 k o := by
  unfold CertH
  rw [hg]
  simp only [Prod.mk.injEq] at h
  exact ⟨h.1, h.2, rfl, Or.inl ⟨hw, hc⟩⟩
theorem Gw.reg {m : Nat} (hc : chkF ops a0.tmps.size = true) (h : CertsF P Q G.flow ops a0 0 (ops.toList.take m)) : RegF P Q G.flow ops a0 m :=
  ⟨hc, certs_but h, fun i j _ _ _ _ _ v w w' hE hR => G.sR j v w w' hE hR, fun i b _ _ w w' hE hB => G.sB w w' hE hB⟩
theorem Gw.draws {id : Nat} (G : Gw) (hm : P.follows .mixedOrders = true) (hc : chkF ops a0.tmps.size = true) (h : CertsF P Q G.flow ops a0 0 (ops.toList.take ops.size)) (hB : G.B w.drew)
    (hp : ∀ (V : Nat → Value) (w' : World), (∀ i, i < ops.size → G.R i (V i) w') → G.B w' → Q .normal (putV V ops.toList 0 a0) w') : (Code.region id ops true).wp P Q a0 w :=
  flow_draws G.flow hm (Gw.reg hc h) (fun _ => hB) fun V w' h1 h2 => hp V w' (fun i hi => h1 i hi rfl) (h2 0 rfl)
theorem Gw.last {id : Nat} (G : Gw) (n : Nat) (hn : ((ops.size == n + 1) && (List.range n).all (fun j => depOn ops n j || (List.range n).any (fun i => depOn ops n i && depOn ops i j))) = true) (hm : P.follows .mixedOrders = true) (hc : chkF ops a0.tmps.size = true) (h : CertsF P Q G.flow ops a0 0 (ops.toList.take n)) (hB : G.B w.drew)
    (hp : ∀ (V : Nat → Value) (w' : World), (∀ i, i < n → G.R i (V i) w') → G.B w' → wpList P ops Q (ops.toList.drop n) (putV V (ops.toList.take n) 0 a0) w') : (Code.region id ops true).wp P Q a0 w := by
  rw [Bool.and_eq_true, beq_iff_eq] at hn
  exact flow_last G.flow n hn.1 hn.2 hm (Gw.reg hc h) (fun _ => hB) fun V w' h1 h2 => hp V w' (fun i hi => h1 i hi rfl) (h2 0 rfl)
end Go.Proofs.Ytboigmhioojenaa.RG
namespace Go.Proofs.Ytboigmhioojenaa
open Go.RowKit Go.Sort Go.Deep
namespace RG
variable {P : Program} {ops : Array Oper} {Q : Exit → Act → World → Prop} {a0 : Act} {F : Flow}
theorem cf_manyP {k : Nat} {o : Oper} (h : ∀ (a : Act) (w : World), PreF F ops a0 k o a w → ∃ (ps : List (Tmp × Value)) (v : Value) (w' : World), AllE a ps ∧ (seenT (ps.map (·.1)) o, (execOp (evo (evl ps)) o).run P w) = (true, .ok (.value v) w') ∧ F.E k w w' ∧ F.R k v w') : CertF P Q F ops a0 k o :=
  cf_val fun a w hp => by
    obtain ⟨ps, v, w', he, hs, hE⟩ := h a w hp
    simp only [Prod.mk.injEq] at hs
    refine ⟨v, w', ?_, hE⟩
    rw [exec_ev (evl ps) (ps.map (·.1)) hs.1 he.ev]
    exact hs.2
theorem cf_ld1 {k : Nat} {o : Oper} (T : TypeId) (t : Tmp) (ho : o.op = .load T (.tmp t)) (hu : (P.underlying T).map (·.isRow) = some false)
    (h : ∀ (a : Act) (w : World), PreF F ops a0 k o a w → ∃ g off v, a.eval (.tmp t) = .pointer (some ⟨g, off, none⟩) ∧ w.cell? ⟨g, off, none⟩ = some v ∧ F.E k w w ∧ F.R k v w) : CertF P Q F ops a0 k o :=
  cf_val fun a w hp => by
    obtain ⟨g, off, v, h1, h2, h3⟩ := h a w hp
    refine ⟨v, w, ?_, h3⟩
    unfold execOp
    rw [ho]
    dsimp only
    rw [h1, Sem.run_bind, run_load1 h2 hu]
    rfl
end RG
inductive KdS where
  | eq (x : Value)
  | lst (xs : List Value)
def KdS.R (w1 : World) : KdS → Value → World → Prop
  | .eq x, v, _ => v = x
  | .lst xs, v, w => GLs w1 w v xs
def KdS.isL : KdS → Bool
  | .eq _ => false
  | .lst _ => true
/-- A flow with appends to lists of slices. -/
def FS (w1 : World) (aps : List Nat) (kl : List (List Nat)) (ks : List KdS) : RG.Flow where
  R i v w := (ks.getD i (.eq undef)).R w1 v w
  B _ w := Below w1.heap.size w1 w
  E i w w' := Below w.heap.size w w' ∨ (aps.contains i = true ∧ Below w1.heap.size w w')
  kill i := kl.getD i []
  killB _ := []
def FS.ok (ops : Array Oper) (aps : List Nat) (kl : List (List Nat)) (ks : List KdS) : Bool :=
  (List.range ops.size).all fun j => aps.all fun i => !(ks.getD j (.eq undef)).isL || (kl.getD j []).contains i || RG.depOn ops j i || i == j
theorem FS.stab {w1 : World} {aps : List Nat} {kl : List (List Nat)} {ks : List KdS} {ops : Array Oper} (hc : FS.ok ops aps kl ks = true) (i j : Nat) (hj : j < ops.size) (hij : i ≠ j) (hk : ((FS w1 aps kl ks).kill j).contains i = false) (hdp : RG.depOn ops j i = false) (v : Value) (w w' : World) (hE : (FS w1 aps kl ks).E i w w') (hR : (FS w1 aps kl ks).R j v w) : (FS w1 aps kl ks).R j v w' := by
  have key : ∀ k : KdS, (ks.getD j (.eq undef)) = k → k.R w1 v w → k.R w1 v w' := fun k hk2 h2 => by
    cases k with
    | eq x => exact h2
    | lst xs =>
      rcases hE with hb | ⟨hi, hB⟩
      · exact GLs.below h2 hb
      · unfold FS.ok at hc
        rw [List.all_eq_true] at hc
        have h3 := hc j (List.mem_range.2 hj)
        rw [List.all_eq_true] at h3
        have h4 := h3 i (by simpa using hi)
        rw [hk2] at h4
        have h5 : (kl.getD j []).contains i = false := hk
        rw [h5, hdp, show (i == j) = false by simpa using hij] at h4
        simp [KdS.isL] at h4
  exact key _ rfl hR
theorem FS.stabB {w1 : World} {aps : List Nat} {kl : List (List Nat)} {ks : List KdS} (i b : Nat) (w w' : World) (hE : (FS w1 aps kl ks).E i w w') (hB : (FS w1 aps kl ks).B b w) : (FS w1 aps kl ks).B b w' := by
  have h1 : Below w1.heap.size w1 w := hB
  rcases hE with hb | ⟨-, hb⟩
  · exact h1.trans (hb.mono h1.size)
  · exact h1.trans hb
theorem below_two {n : Nat} {w W W' : World} (h1 : Below n w W) (h2 : Below n w W') (hs : W.heap.size ≤ W'.heap.size) : Below n W W' :=
  ⟨by rw [h2.os, h1.os], by rw [h2.tape, h1.tape], by rw [h2.output, h1.output], hs, fun k hk => by rw [h2.block k hk, h1.block k hk]⟩
end Go.Proofs.Ytboigmhioojenaa
namespace Go.Proofs.Ytboigmhioojenaa
open Go.RowKit Go.Sort Go.Deep
/-- 'append(l, x...)', l a row of one's own: where the new row lies. -/
theorem own_blockQ {base n m size c : Nat} {T e : TypeId} {i : TypeInfo} {z : Value} {W W' : World} {v v' : Value} {xs news : List Value} {a : Addr} (hT : Try.prog.underlying T = some (.slice e)) (hi : Try.prog.info? e = some i) (hz : i.zero = some z) (hsz : i.size = size) (hby : i.bytes ≤ 1000)
    (hown : W.ownsRow base e size v n xs) (hs : Src Try.prog size T (.slice (some a) m c) m news W) (hn : n + m ≤ 1000000000)
    (hr : (Builtin.append_ #[T, T] T #[v, .slice (some a) m c]).run Try.prog W = .ok v' W') : v'.ownBlock = v.ownBlock ∨ (v'.ownBlock = some W.heap.size ∧ Below W.heap.size W W') := by
  subst hsz
  have hgrow : ∀ (q : Option Addr) (cap : Nat) (olds : List Value), v = .slice q n cap → cap < n + m → (Builtin.firstCells i.size n (.slice q n cap)).run Try.prog W.drew = .ok olds.toArray W.drew → v'.ownBlock = v.ownBlock ∨ (v'.ownBlock = some W.heap.size ∧ Below W.heap.size W W') := fun q cap olds hv hc hold => by
    have h1 := nextcap_leP (n + m) cap hc
    have h2 : Builtin.nextslicecap (n + m) cap * i.bytes ≤ (2 * (n + m) + 768) * 1000 := Nat.mul_le_mul h1 hby
    have hap := run_append_grow_src (P := Try.prog) W T T T e i z hT hi hz q n cap olds hold (.slice (some a) m c) m news hs hc (by omega) (Nat.le_trans h2 (by clear h1 h2; omega))
    rw [hv, hap] at hr
    injection hr with hr1 hr2
    right
    refine ⟨by rw [← hr1]; rfl, ?_⟩
    rw [← hr2]
    exact (⟨rfl, rfl, rfl, Nat.le_refl _, fun _ _ => rfl⟩ : Below W.heap.size W W.drew).trans (alloc_below W.drew _)
  rcases id hown with ⟨-, ⟨rfl, rfl⟩ | ⟨g, cap, cur, rfl, g1, g2, g3, g4, g5, g6⟩⟩
  · by_cases hm : m = 0
    · subst hm
      have hr' := hr
      obtain ⟨w1, hr2⟩ : ∃ w1, (Builtin.append_ #[T, T] T #[.slice none 0 0, .slice (some a) 0 c]).run Try.prog W = .ok (.slice none 0 0) w1 := by
        rcases hs.kind with ⟨e', hk⟩ | hk <;> exact ⟨_, by simp [Builtin.append_, run_underlying hT, run_underlying hk, sizeOf, typeInfo, hi, hs.len, hs.cells]; rfl⟩
      rw [hr2] at hr
      injection hr with hr1 hr2
      left
      rw [← hr1]
    · exact hgrow none 0 [] rfl (by omega) (run_firstCells_none W.drew i.size 0 0 0)
  · by_cases hroom : n + m ≤ cap
    · have hap := run_append_room_src (P := Try.prog) W T T T e i hT hi g 0 n cap (.slice (some a) m c) m news hs hroom
        (fun j hj => by
          have hj2 : n * i.size + j < cur.size := by
            rw [g5]
            have h1 : j < m * i.size := by rw [← hs.newsLen]; exact hj
            have h2 : (n + m) * i.size ≤ cap * i.size := Nat.mul_le_mul_right _ hroom
            rw [Nat.add_mul] at h2
            omega
          simp [World.cell?, g2, Nat.zero_add, Array.getElem?_eq_getElem hj2])
        (fun j hj => by simp [World.frozen?, g2])
      rw [hap] at hr
      injection hr with hr1 hr2
      left
      rw [← hr1]
      rfl
    · refine hgrow (some ⟨g, 0, none⟩) cap xs rfl (by omega) ?_
      exact run_firstCells_some W.drew i.size n ⟨g, 0, none⟩ n cap xs hown.1 (fun j u hj => by rw [World.cell?_drew]; exact hown.cells (g := g) rfl j u hj)
/-- What an append of one value to a row of one's own turns. -/
structure Ap1 (W W' : World) (v v' : Value) : Prop where
  os : W'.os = W.os
  tape : W'.tape = W.tape
  output : W'.output = W.output
  size : W.heap.size ≤ W'.heap.size
  keep : ∀ g, g < W.heap.size → v.ownBlock ≠ some g → W'.heap[g]? = W.heap[g]?
  mv : v'.ownBlock = v.ownBlock ∨ ((∃ g, v'.ownBlock = some g ∧ W.heap.size ≤ g) ∧ ∀ g, g < W.heap.size → W'.heap[g]? = W.heap[g]?)
theorem own_keep {W W' : World} {base n k : Nat} {e : TypeId} {v : Value} {xs : List Value} (h : W.ownsRow base e k v n xs) (hk : ∀ g, v.ownBlock = some g → W'.heap[g]? = W.heap[g]?) : W'.ownsRow base e k v n xs := by
  rcases h with ⟨h0, h1 | ⟨g, cap, cur, rfl, h2, h3, h4⟩⟩
  · exact ⟨h0, Or.inl h1⟩
  · exact ⟨h0, Or.inr ⟨g, cap, cur, rfl, h2, by rw [hk g rfl]; exact h3, h4⟩⟩
theorem own_lt {W : World} {base n k g : Nat} {e : TypeId} {v : Value} {xs : List Value} (h : W.ownsRow base e k v n xs) (hg : v.ownBlock = some g) : base ≤ g ∧ g < W.heap.size ∧ ∃ cur, W.heap[g]? = some (.cells cur e (0, 0)) := by
  rcases h with ⟨h0, ⟨rfl, -⟩ | ⟨g', cap, cur, rfl, h2, h3, h4⟩⟩
  · cases hg
  · obtain rfl : g' = g := Option.some.inj hg
    refine ⟨h2, ?_, cur, h3⟩
    by_cases hg : g' < W.heap.size
    · exact hg
    · rw [Array.getElem?_eq_none (by omega)] at h3; cases h3
theorem own_app1 {base n by' : Nat} {T e : TypeId} {W : World} {v x : Value} {xs : List Value} (hT : Try.prog.underlying T = some (.slice e)) (hI : (Try.prog.info? e).map (fun i => (i.size, i.bytes, i.zero.map fun z => z.cells.size)) = some (1, by', some 1)) (hby : by' ≤ 1000)
    (hown : W.ownsRow base e 1 v n xs) (hx : x.oneCell' = true) (hn : n ≤ 100000000) (hb : base ≤ W.heap.size) :
    ∃ v' W', (Builtin.append_ #[T, T] T #[v, .slice (some ⟨W.heap.size, 0, none⟩) 1 1]).run Try.prog (W.alloc (.cells #[x] e)) = .ok v' W' ∧ W'.ownsRow base e 1 v' (n + 1) (xs ++ [x]) ∧ Ap1 W W' v v' := by
  obtain ⟨i, hi, he⟩ := Option.map_eq_some_iff.1 hI
  simp only [Prod.mk.injEq] at he
  obtain ⟨h1, h2, h3⟩ := he
  obtain ⟨z, hz, hz2⟩ := Option.map_eq_some_iff.1 h3
  have ba := alloc_below W (.cells #[x] e)
  have hz1 : (W.alloc (.cells #[x] e)).heap.size = W.heap.size + 1 := World.size_alloc _ _
  have ho : (W.alloc (.cells #[x] e)).ownsRow base e 1 v n xs := own_keep hown (fun g hg => ba.block g (own_lt hown hg).2.1)
  have hc : ∀ (j : Nat) u, [x][j]? = some u → (W.alloc (.cells #[x] e)).cell? ((⟨W.heap.size, 0, none⟩ : Addr).add j) = some u := fun j u hj => by
    rw [addP0, Nat.zero_add]
    exact alloc_cell W _ _ j u (by simpa using hj)
  have h1x : ∀ u ∈ [x], u.oneCell' = true := fun u hu => by
    obtain rfl : u = x := by simpa using hu
    exact hx
  obtain ⟨v', W', r1, r2, r3, -⟩ := run_append_own (P := Try.prog) (W.alloc (.cells #[x] e)) base T T e i z 1 by' hT hi hz h1 h2 hz2 (by decide) v n xs ho ⟨W.heap.size, 0, none⟩ 1 1 [x] rfl hc h1x (by unfold maxLen; omega) (by
    have : (n + 1) * by' ≤ (n + 1) * 1000 := Nat.mul_le_mul_left _ hby
    omega) (by omega)
  have hq := own_blockQ (c := 1) hT hi hz h1 (by omega) ho (Src.ofSlice (P := Try.prog) (size := 1) (W.alloc (.cells #[x] e)) hT ⟨W.heap.size, 0, none⟩ 1 1 [x] rfl hc h1x) (by omega) r1
  refine ⟨v', W', r1, r2, r3.os, r3.tape, r3.output, by have := r3.size; omega, fun g hg hv => ?_, ?_⟩
  · rw [r3.block g (by omega) (fun h => hv h.symm), ba.block g hg]
  · rcases hq with h | ⟨h, hbl⟩
    · exact Or.inl h
    · refine Or.inr ⟨⟨_, h, by omega⟩, fun g hg => ?_⟩
      rw [hbl.block g (by omega), ba.block g hg]
/-- Bytes at the front of a block. -/
def FrB (W : World) (g : Nat) (b : SP.Bs) : Prop := ∃ cur, W.heap[g]? = some (.cells cur 5 (0, 0)) ∧ cur.toList.take b.size = bC b
/-- A value is bytes at the front of a block, or nothing. -/
def RV (W : World) (v : Value) (b : SP.Bs) : Prop := (b.size = 0 ∧ v = .slice none 0 0) ∨ ∃ g c, v = .slice (some ⟨g, 0, none⟩) b.size c ∧ FrB W g b
theorem RV.keep {W W' : World} {v : Value} {b : SP.Bs} (h : RV W v b) (hk : ∀ g, v.ownBlock = some g → W'.heap[g]? = W.heap[g]?) : RV W' v b := by
  rcases h with h | ⟨g, c, rfl, cur, h1, h2⟩
  · exact Or.inl h
  · exact Or.inr ⟨g, c, rfl, cur, by rw [hk g rfl]; exact h1, h2⟩
theorem RV.of {W : World} {base : Nat} {v : Value} {b : SP.Bs} (h : W.ownsRow base 5 1 v b.size (bC b)) : RV W v b := by
  rcases h with ⟨h0, ⟨rfl, h1⟩ | ⟨g, cap, cur, rfl, h2, h3, h4, h5, h6, h7⟩⟩
  · exact Or.inl ⟨h1, rfl⟩
  · exact Or.inr ⟨g, cap, rfl, cur, h3, by rw [Nat.mul_one] at h7; exact h7⟩
theorem RV.slice {W : World} {v : Value} {b : SP.Bs} (h : RV W v b) : ∃ q c, v = .slice q b.size c := by
  rcases h with ⟨h, rfl⟩ | ⟨g, c, rfl, -⟩
  · exact ⟨none, 0, by rw [h]⟩
  · exact ⟨_, _, rfl⟩
theorem RV.at {W : World} {v : Value} {b : SP.Bs} (h : RV W v b) {k : Nat} (hk : k < b.size) : ∃ g c, v = .slice (some ⟨g, 0, none⟩) b.size c ∧ W.cell? ⟨g, k, none⟩ = some (SP.encB b[k]!) ∧ W.frozen? ⟨g, k, none⟩ = false := by
  rcases h with ⟨h, -⟩ | ⟨g, c, rfl, cur, h1, h2⟩
  · omega
  · refine ⟨g, c, rfl, ?_, by simp [World.frozen?, h1]⟩
    have h3 : (cur.toList.take b.size)[k]? = some (SP.encB b[k]!) := by
      rw [h2]
      unfold bC
      rw [List.getElem?_map, List.getElem?_eq_getElem (by simpa using hk), Option.map_some, getElem!_pos b k hk]
      simp
    rw [List.getElem?_take, if_pos hk] at h3
    unfold World.cell?
    rw [h1]
    simpa using h3
theorem RV.pt {W : World} {v : Value} {b : SP.Bs} (h : RV W v b) : Pt W v b := by
  rcases id h with ⟨h1, rfl⟩ | ⟨g, c, rfl, cur, h1, h2⟩
  · exact ⟨none, 0, by rw [h1], Or.inl h1⟩
  · refine ⟨_, _, rfl, Or.inr ⟨g, 0, rfl, ?_, fun j hj => ?_⟩⟩
    · by_cases hg : g < W.heap.size
      · exact hg
      · rw [Array.getElem?_eq_none (by omega)] at h1; cases h1
    · obtain ⟨g', c', e, h3, h4⟩ := h.at hj
      injection e with e _ _
      injection e with e
      injection e with e _ _
      subst e
      rw [Nat.zero_add]
      exact ⟨h3, h4⟩
theorem RV.front {W : World} {g c : Nat} {b x : SP.Bs} (h : RV W (.slice (some ⟨g, 0, none⟩) (b ++ x).size c) (b ++ x)) : FrB W g b := by
  rcases h with ⟨-, h⟩ | ⟨g', c', e, cur, h1, h2⟩
  · cases h
  · injection e with e _ _
    injection e with e
    injection e with e _ _
    subst e
    refine ⟨cur, h1, ?_⟩
    have h3 := congrArg (List.take b.size) h2
    rw [List.take_take, Nat.min_eq_left (by rw [Array.size_append]; omega), bC_app, List.take_append_of_le_length (by rw [bC_len]; omega)] at h3
    rw [h3]
    exact List.take_of_length_le (by rw [bC_len]; omega)
end Go.Proofs.Ytboigmhioojenaa
namespace Go.Proofs.Ytboigmhioojenaa
open Go.RowKit Go.Sort Go.Deep
theorem nil_tP (w : World) : (binOp .eql 22 (.slice none 0 0) (.slice none 0 0)).run Try.prog w = .ok (.bool true) w := by kernel_rfl
theorem nil_fP (a : Addr) (n c : Nat) (w : World) : (binOp .eql 22 (.slice (some a) n c) (.slice none 0 0)).run Try.prog w = .ok (.bool false) w := by kernel_rfl
/-- New bytes. -/
structure FrC (N : Nat) (X : SP.Bs) (v : Value) (W : World) : Prop where
  own : W.ownsRow N 5 1 v X.size (bC X)
  nn : v.ownBlock ≠ none
theorem FrC.below {N : Nat} {X : SP.Bs} {v : Value} {W W' : World} (h : FrC N X v W) (hb : Below W.heap.size W W') : FrC N X v W' := ⟨own_keep h.own (fun g hg => hb.block g (own_lt h.own hg).2.1), h.nn⟩
set_option maxHeartbeats 1000000 in
theorem cloneP_c (g o c : Nat) (X : SP.Bs) (hX : X.size ≤ 1000000) (w : World) (hg : g < w.heap.size) (hH : Holds SP.encB w g o X) :
    Calls Try.prog 16 #[.slice (some ⟨g, o, none⟩) X.size c] w fun e w' => ∃ v, e = .returned v ∧ Below w.heap.size w w' ∧ FrC w.heap.size X v w' := by
  obtain ⟨i, hi, he⟩ := Option.map_eq_some_iff.1 infoU8
  simp only [Prod.mk.injEq] at he
  obtain ⟨h1, h2, h3⟩ := he
  obtain ⟨z, hz, hz2⟩ := Option.map_eq_some_iff.1 h3
  obtain ⟨w1, hw1⟩ : ∃ w1, Hid (w.alloc (.cells #[] 5) = w1) := ⟨_, rfl⟩
  have e1 : w1.heap.size = w.heap.size + 1 := by rw [← hw1.out, World.size_alloc]
  have b1 : Below w.heap.size w w1 := by rw [← hw1.out]; exact alloc_below _ _
  have ho : w1.ownsRow w.heap.size 5 1 (.slice (some ⟨w.heap.size, 0, none⟩) 0 0) 0 [] := by
    rw [← hw1.out]
    exact ⟨rfl, .inr ⟨w.heap.size, 0, #[], rfl, Nat.le_refl _, Array.getElem?_push_size, Nat.le_refl _, Nat.zero_le _, rfl, rfl⟩⟩
  have hpt : Pt w1 (.slice (some ⟨g, o, none⟩) X.size c) X := ⟨_, _, rfl, Or.inr ⟨g, o, rfl, by omega, SP.Holds.below hH b1 hg⟩⟩
  obtain ⟨-, hv⟩ := hpt.vl
  have hc : ∀ (j : Nat) u, (bC X)[j]? = some u → w1.cell? ((⟨g, o, none⟩ : Addr).add j) = some u := fun j u hj => by
    rcases hv.cells with h0 | ⟨b, o', hq, -, hc⟩
    · rw [h0] at hj; cases hj
    · injection Option.some.inj hq with e1 e2 _
      subst e1 e2
      rw [addP0]; exact hc j u hj
  obtain ⟨v', W', r1, r2, r3, r4⟩ := run_append_own (P := Try.prog) w1 w.heap.size 22 22 5 i z 1 1 undB5 hi hz h1 h2 hz2 (by decide) _ 0 [] ho ⟨g, o, none⟩ X.size c (bC X) (by rw [bC_len]; omega) hc (bC_one X) (by unfold maxLen; omega) (by omega) (by omega)
  rw [Nat.zero_add, List.nil_append] at r2
  have K : Hid (Below w.heap.size w W' ∧ FrC w.heap.size X v' W') := by
    refine ⟨⟨by rw [r3.os, b1.os], by rw [r3.tape, b1.tape], by rw [r3.output, b1.output], Nat.le_trans b1.size r3.size, fun k hk => ?_⟩, r2, ?_⟩
    · rw [r3.block k (by omega) (by simp [Value.ownBlock]; omega), b1.block k hk]
    · rcases r2.2 with ⟨h5, -⟩ | ⟨g', cap', cur, rfl, -⟩
      · have := (r4.1 h5).1
        exact absurd this (by simp)
      · simp [Value.ownBlock]
  have H1 := Hid.mkP r1
  have hn := nil_fP ⟨g, o, none⟩ X.size c
  clear r1 r2 r3 r4 hc hv hpt ho b1 e1 hH
  go_enter Try.func16, Try.ntmps16
  go_wp2_with (first | (refine wpList_opP (v := .slice (some ⟨w.heap.size, 0, none⟩) 0 0) (w' := w1) rfl (.buildSlice 22 0 #[]) rfl ?_ ?_; (rw [← hw1.out]; kernel_rfl)) | (at_builtin; refine Lib.wpList_append_run w1 rfl _ _ _ _ rfl _ _ rfl rfl _ _ H1.out ?_) | fail)
  go_ret
  exact ⟨_, rfl, K.out.1, K.out.2⟩
theorem heap_set (w : World) (a : Addr) (v : Value) (k : Nat) : (w.setCell a v).heap[k]? = if a.block = k then (w.heap[k]?).map (fun
      | .cells c elem frozen => .cells (if a.spot.isSome then c else c.setIfInBounds a.off v) elem frozen
      | o => o) else w.heap[k]? := by
  show (w.heap.modify a.block _)[k]? = _
  rw [Array.getElem?_modify]
  rfl
theorem below_set {N : Nat} {ws w : World} (h : Below N ws w) (a : Addr) (v : Value) : Below N (ws.setCell a v) (w.setCell a v) :=
  ⟨h.os, h.tape, h.output, by rw [World.size_setCell, World.size_setCell]; exact h.size, fun k hk => by rw [heap_set, heap_set, h.block k hk]⟩
/-- What region 11 of Read leaves. -/
def StR (ws : World) (bb oo : Nat) (X : SP.Bs) (w : World) : Prop := ∃ v, Below ws.heap.size (ws.setCell ⟨bb, oo, none⟩ v) w ∧ FrC ws.heap.size X v w
/-- The flow of region 11 of Read. -/
def FR (ws : World) (ga bb oo k gi off m c : Nat) (X : SP.Bs) : RG.Flow where
  R i v w := match i with
    | 0 => v = .pointer (some ⟨ga, 0, none⟩)
    | 1 => v = .pointer (some ⟨bb, oo, none⟩)
    | 2 => v = .slice (some ⟨gi, off, none⟩) m c
    | 3 => v = .pointer (some ⟨ga, 1, none⟩)
    | 4 => v = .int .i64 (k : Int)
    | 5 => v = .slice (some ⟨gi, off, none⟩) k c
    | 6 => FrC ws.heap.size X v w
    | 7 => v = .slice (some ⟨gi, off, none⟩) m c
    | 8 => v = .pointer (some ⟨ga, 1, none⟩)
    | 9 => v = .int .i64 (k : Int)
    | 10 => v = .slice (some ⟨gi, off + k, none⟩) (m - k) (c - k)
    | 11 => v = .pointer (some ⟨bb, oo, none⟩)
    | 12 => StR ws bb oo X w
    | _ => v = .slice (some ⟨gi, off + k, none⟩) (m - k) (c - k)
  B b w := match b with
    | 0 => Below ws.heap.size ws w
    | _ => w.cell? ⟨ga, 0, none⟩ = some (.pointer (some ⟨bb, oo, none⟩)) ∧ w.cell? ⟨ga, 1, none⟩ = some (.int .i64 (k : Int)) ∧ ga < ws.heap.size ∧ ws.heap.size ≤ w.heap.size
  E i w w' := match i with
    | 12 => ∃ v, w' = w.setCell ⟨bb, oo, none⟩ v
    | _ => Below w.heap.size w w'
  kill _ := []
  killB b := match b with
    | 0 => [12]
    | _ => []
variable {ws : World} {ga bb oo k gi off m c : Nat} {X : SP.Bs}
theorem StR.below {w w' : World} (h : StR ws bb oo X w) (hb : Below w.heap.size w w') : StR ws bb oo X w' := by
  obtain ⟨v, h1, h2⟩ := h
  refine ⟨v, h1.trans (hb.mono ?_), h2.below hb⟩
  have := h1.size
  rw [World.size_setCell] at this
  exact this
theorem FR.stab (hbb : bb < ws.heap.size) (i j : Nat) (hij : i ≠ j) (v : Value) (w w' : World) (hE : (FR ws ga bb oo k gi off m c X).E i w w') (hR : (FR ws ga bb oo k gi off m c X).R j v w) : (FR ws ga bb oo k gi off m c X).R j v w' := by
  have key : j ≠ 6 → j ≠ 12 → (FR ws ga bb oo k gi off m c X).R j v w' := fun h6 h12 => by
    match j, h6, h12, hR with
    | 0, _, _, h | 1, _, _, h | 2, _, _, h | 3, _, _, h | 4, _, _, h | 5, _, _, h | 7, _, _, h | 8, _, _, h | 9, _, _, h | 10, _, _, h | 11, _, _, h | _ + 13, _, _, h => exact h
    | 6, h, _, _ => exact absurd rfl h
    | 12, _, h, _ => exact absurd rfl h
  by_cases h6 : j = 6
  · subst h6
    by_cases h12 : i = 12
    · subst h12
      obtain ⟨u, rfl⟩ := hE
      have hR : FrC ws.heap.size X v w := hR
      refine (⟨own_keep hR.own (fun g hg => ?_), hR.nn⟩ : FrC ws.heap.size X v _)
      have := (own_lt hR.own hg).1
      rw [heap_set, if_neg (by show bb ≠ g; omega)]
    · have hE' : Below w.heap.size w w' := by
        unfold FR at hE
        dsimp only at hE
        split at hE
        · exact absurd rfl h12
        · exact hE
      exact (FrC.below (show FrC ws.heap.size X v w from hR) hE' : FrC ws.heap.size X v w')
  · by_cases h12 : j = 12
    · subst h12
      have hE' : Below w.heap.size w w' := by
        unfold FR at hE
        dsimp only at hE
        split at hE
        · exact absurd rfl hij
        · exact hE
      exact (StR.below (show StR ws bb oo X w from hR) hE' : StR ws bb oo X w')
    · exact key h6 h12
theorem FR.stabB (hbb : bb ≠ ga) (i b : Nat) (hk : ((FR ws ga bb oo k gi off m c X).killB b).contains i = false) (w w' : World) (hE : (FR ws ga bb oo k gi off m c X).E i w w') (hB : (FR ws ga bb oo k gi off m c X).B b w) : (FR ws ga bb oo k gi off m c X).B b w' := by
  by_cases h12 : i = 12
  · subst h12
    obtain ⟨u, rfl⟩ := hE
    match b, hk, hB with
    | 0, hk, _ => exact absurd (show ([12] : List Nat).contains 12 = false from hk) (by decide)
    | _ + 1, _, ⟨h1, h2, h3, h4⟩ =>
      refine ⟨?_, ?_, h3, by rw [World.size_setCell]; exact h4⟩
      · rw [World.cell?_setCell_other _ _ _ _ (by intro e; injection e with e _ _; exact hbb e)]; exact h1
      · rw [World.cell?_setCell_other _ _ _ _ (by intro e; injection e with e _ _; exact hbb e)]; exact h2
  · have hE' : Below w.heap.size w w' := by
      unfold FR at hE
      dsimp only at hE
      split at hE
      · exact absurd rfl h12
      · exact hE
    match b, hB with
    | 0, hB =>
      have hB' : Below ws.heap.size ws w := hB
      exact (hB'.trans (hE'.mono hB'.size) : Below ws.heap.size ws w')
    | _ + 1, ⟨h1, h2, h3, h4⟩ =>
      refine ⟨?_, ?_, h3, Nat.le_trans h4 hE'.size⟩
      · rw [hE'.cell (p := ⟨ga, 0, none⟩) (by show ga < _; omega)]; exact h1
      · rw [hE'.cell (p := ⟨ga, 1, none⟩) (by show ga < _; omega)]; exact h2
end Go.Proofs.Ytboigmhioojenaa
namespace Go.Proofs.Ytboigmhioojenaa
open Go.RowKit Go.Sort Go.Deep
/-- What is known of the places that Read fills. -/
structure PsOk (w w4 : World) (gr gq gp : Nat) (ps : List (Addr × Nat)) : Prop where
  ad : ∀ (j : Nat) x, ps[j]? = some x → ∃ b o, x.1 = ⟨b, o, none⟩ ∧ b < w4.heap.size ∧ w.heap.size ≤ b ∧ b ≠ gq ∧ b ≠ gr ∧ x.1 ≠ ⟨gp, 7, none⟩ ∧ x.1 ≠ ⟨gp, 8, none⟩
  ne : ∀ (j j' : Nat) x x', j ≠ j' → ps[j]? = some x → ps[j']? = some x' → x.1 ≠ x'.1
  q : gq < w4.heap.size
  r : gr < w4.heap.size
  p : gp < w4.heap.size
structure RdI (w w4 W : World) (gr gq gp : Nat) (lv rv : Value) (ps : List (Addr × Nat)) (vs : List Value) (CH : Nat → SP.Bs) : Prop where
  bl : Below w.heap.size w W
  st : ∀ (j : Nat) x u, ps[j]? = some x → vs[j]? = some u → W.cell? x.1 = some u
  th : ∀ (j : Nat) x, ps[j]? = some x → (∃ u, W.cell? x.1 = some u) ∧ W.frozen? x.1 = false
  c7 : W.cell? ⟨gp, 7, none⟩ = some lv
  c8 : W.cell? ⟨gp, 8, none⟩ = some rv
  eq : W.heap[gq]? = w4.heap[gq]?
  er : W.heap[gr]? = w4.heap[gr]?
  sz : w4.heap.size ≤ W.heap.size
  ow : ∀ (j : Nat) u, vs[j]? = some u → FrC w4.heap.size (CH j) u W
  ne : ∀ (j j' : Nat) u u' g, j < j' → vs[j]? = some u → vs[j']? = some u' → u.ownBlock = some g → u'.ownBlock ≠ some g
variable {w w4 W : World} {gr gq gp : Nat} {lv rv : Value} {ps : List (Addr × Nat)} {vs : List Value} {CH : Nat → SP.Bs}
theorem RdI.below {W' : World} (h : RdI w w4 W gr gq gp lv rv ps vs CH) (hP : PsOk w w4 gr gq gp ps) (hb : Below W.heap.size W W') : RdI w w4 W' gr gq gp lv rv ps vs CH := by
  have hs := h.sz
  have hp := hP.p
  have hq := hP.q
  have hr := hP.r
  have hc : ∀ (j : Nat) x, ps[j]? = some x → W'.cell? x.1 = W.cell? x.1 ∧ W'.frozen? x.1 = W.frozen? x.1 := fun j x hx => by
    obtain ⟨b, o, e, h1, -⟩ := hP.ad j x hx
    have hbl := hb.block b (by omega)
    rw [e]
    unfold World.cell? World.frozen?
    rw [hbl]
    exact ⟨rfl, rfl⟩
  refine ⟨h.bl.trans (hb.mono h.bl.size), fun j x u hx hu => by rw [(hc j x hx).1]; exact h.st j x u hx hu, fun j x hx => by rw [(hc j x hx).1, (hc j x hx).2]; exact h.th j x hx, ?_, ?_, by rw [hb.block gq (by omega)]; exact h.eq, by rw [hb.block gr (by omega)]; exact h.er, Nat.le_trans hs hb.size, fun j u hu => (h.ow j u hu).below hb, h.ne⟩
  · rw [hb.cell (p := ⟨gp, 7, none⟩) (by show gp < _; omega)]; exact h.c7
  · rw [hb.cell (p := ⟨gp, 8, none⟩) (by show gp < _; omega)]; exact h.c8
theorem RdI.step {W' : World} {bb oo k : Nat} (h : RdI w w4 W gr gq gp lv rv ps vs CH) (hP : PsOk w w4 gr gq gp ps) (hx : ps[vs.length]? = some (⟨bb, oo, none⟩, k)) (hS : StR W bb oo (CH vs.length) W') : ∃ v, RdI w w4 W' gr gq gp lv rv ps (vs ++ [v]) CH := by
  obtain ⟨v, hb, hF⟩ := hS
  have hs := h.sz
  have hp := hP.p
  have hq := hP.q
  have hr := hP.r
  obtain ⟨b', o', e', p1, p2, p3, p4, p5, p6⟩ := hP.ad _ _ hx
  injection e' with e1 e2 _
  subst e1 e2
  obtain ⟨⟨old, hold⟩, hfr⟩ := h.th _ _ hx
  have hblk : ∀ g, g < W.heap.size → g ≠ bb → W'.heap[g]? = W.heap[g]? := fun g hg hne => by
    rw [hb.block g hg, heap_set, if_neg (by show bb ≠ g; omega)]
  have hcell : ∀ a : Addr, a.block < W.heap.size → a ≠ ⟨bb, oo, none⟩ → W'.cell? a = W.cell? a := fun a ha hne => by
    rw [hb.cell (p := a) ha, World.cell?_setCell_other _ _ _ _ (fun e => hne e.symm)]
  have hfz : ∀ a : Addr, a.block < W.heap.size → W'.frozen? a = W.frozen? a := fun a ha => by
    have e0 : W'.frozen? a = (W.setCell ⟨bb, oo, none⟩ v).frozen? a := by
      unfold World.frozen?
      rw [hb.block a.block ha]
    rw [e0]
    exact World.frozen?_setCells bb [v] oo W a
  have hsz' : W.heap.size ≤ W'.heap.size := by
    have := hb.size
    rw [World.size_setCell] at this
    exact this
  refine ⟨v, ⟨⟨by rw [hb.os]; exact h.bl.os, by rw [hb.tape]; exact h.bl.tape, by rw [hb.output]; exact h.bl.output, Nat.le_trans h.bl.size hsz', fun g hg => ?_⟩, fun j x u hj hu => ?_, fun j x hj => ?_, ?_, ?_, ?_, ?_, by omega, fun j u hu => ?_, fun j j' u u' g hlt hu hu' hg => ?_⟩⟩
  · have := h.bl.size
    rw [hblk g (by omega) (by omega), h.bl.block g hg]
  · obtain ⟨bj, oj, ej, q1, -⟩ := hP.ad j x hj
    by_cases hjl : j < vs.length
    · rw [List.getElem?_append_left hjl] at hu
      have hne := hP.ne j vs.length x _ (by omega) hj hx
      rw [hcell x.1 (by rw [ej]; show bj < _; omega) hne]
      exact h.st j x u hj hu
    · have hje : j = vs.length := by
        have := (List.getElem?_eq_some_iff.1 hu).1
        rw [List.length_append] at this
        simp only [List.length_cons, List.length_nil] at this
        omega
      subst hje
      rw [hx] at hj
      obtain rfl := Option.some.inj hj
      rw [List.getElem?_append_right (Nat.le_refl _), Nat.sub_self] at hu
      obtain rfl : v = u := by simpa using hu
      rw [hb.cell (p := ⟨bb, oo, none⟩) (by show bb < _; omega)]
      exact World.cell?_setCell_same _ _ _ hold
  · obtain ⟨bj, oj, ej, q1, -⟩ := hP.ad j x hj
    have hlt : x.1.block < W.heap.size := by rw [ej]; show bj < _; omega
    refine ⟨?_, by rw [hfz x.1 hlt]; exact (h.th j x hj).2⟩
    by_cases hne : x.1 = ⟨bb, oo, none⟩
    · rw [hne]
      exact ⟨v, by rw [hb.cell (p := ⟨bb, oo, none⟩) (by show bb < _; omega)]; exact World.cell?_setCell_same _ _ _ hold⟩
    · rw [hcell x.1 hlt hne]
      exact (h.th j x hj).1
  · rw [hcell ⟨gp, 7, none⟩ (by show gp < _; omega) (fun e => p5 e.symm)]; exact h.c7
  · rw [hcell ⟨gp, 8, none⟩ (by show gp < _; omega) (fun e => p6 e.symm)]; exact h.c8
  · rw [hblk gq (by omega) (fun e => p3 e.symm)]; exact h.eq
  · rw [hblk gr (by omega) (fun e => p4 e.symm)]; exact h.er
  · by_cases hjl : j < vs.length
    · rw [List.getElem?_append_left hjl] at hu
      have h1 := h.ow j u hu
      refine ⟨own_keep h1.own (fun g hg => ?_), h1.nn⟩
      have := own_lt h1.own hg
      exact hblk g this.2.1 (by omega)
    · have hje : j = vs.length := by
        have := (List.getElem?_eq_some_iff.1 hu).1
        rw [List.length_append] at this
        simp only [List.length_cons, List.length_nil] at this
        omega
      subst hje
      rw [List.getElem?_append_right (Nat.le_refl _), Nat.sub_self] at hu
      obtain rfl : v = u := by simpa using hu
      refine ⟨?_, hF.nn⟩
      rcases hF.own with ⟨x0, x1 | ⟨g, cap, cur, x1, x2, x3⟩⟩
      · exact ⟨x0, Or.inl x1⟩
      · exact ⟨x0, Or.inr ⟨g, cap, cur, x1, by omega, x3⟩⟩
  · have hl' := (List.getElem?_eq_some_iff.1 hu').1
    rw [List.length_append] at hl'
    simp only [List.length_cons, List.length_nil] at hl'
    rw [List.getElem?_append_left (by omega)] at hu
    by_cases hjl : j' < vs.length
    · rw [List.getElem?_append_left hjl] at hu'
      exact h.ne j j' u u' g hlt hu hu' hg
    · have hje : j' = vs.length := by omega
      subst hje
      rw [List.getElem?_append_right (Nat.le_refl _), Nat.sub_self] at hu'
      obtain rfl : v = u' := by simpa using hu'
      intro e
      have h1 := (own_lt hF.own e).1
      have h2 := (own_lt (h.ow j u hu).own hg).2.1
      omega
end Go.Proofs.Ytboigmhioojenaa
namespace Go.Proofs.Ytboigmhioojenaa
open Go.RowKit Go.Sort Go.Deep
theorem infoBBm : (Try.prog.info? 22).map (fun i => (i.zero, i.size, i.bytes)) = some (some (.slice none 0 0), 1, 24) := by kernel_rfl
/-- What Read has made ahead of its loop. -/
structure R4 (w1 W : World) (gp gL gR k : Nat) : Prop where
  bl : Below w1.heap.size w1 W
  d1 : gp ≠ gL
  d2 : gp ≠ gR
  d3 : gL ≠ gR
  p1 : w1.heap.size ≤ gp ∧ gp < W.heap.size
  p2 : w1.heap.size ≤ gL ∧ gL < W.heap.size
  p3 : w1.heap.size ≤ gR ∧ gR < W.heap.size
  hp : W.heap[gp]? = some (.cells #[.slice none 0 0, .slice none 0 0, .slice none 0 0, .slice none 0 0, .slice none 0 0, .slice none 0 0, .slice none 0 0, .slice (some ⟨gL, 0, none⟩) k k, .slice (some ⟨gR, 0, none⟩) k k, .slice none 0 0, .slice none 0 0] 27 (0, 0))
  hL : W.heap[gL]? = some (.cells (madeCells #[.slice none 0 0] k) 22 (0, 0))
  hR : W.heap[gR]? = some (.cells (madeCells #[.slice none 0 0] k) 22 (0, 0))
theorem three (w1 : World) (a b c : Array Value) (A B C : TypeId) : Below w1.heap.size w1 (((w1.alloc (.cells a A)).alloc (.cells b B)).alloc (.cells c C)).drew ∧ (((w1.alloc (.cells a A)).alloc (.cells b B)).alloc (.cells c C)).drew.heap.size = w1.heap.size + 3 ∧ (((w1.alloc (.cells a A)).alloc (.cells b B)).alloc (.cells c C)).drew.heap[w1.heap.size]? = some (.cells a A (0, 0)) ∧ (((w1.alloc (.cells a A)).alloc (.cells b B)).alloc (.cells c C)).drew.heap[w1.heap.size + 1]? = some (.cells b B (0, 0)) ∧ (((w1.alloc (.cells a A)).alloc (.cells b B)).alloc (.cells c C)).drew.heap[w1.heap.size + 1 + 1]? = some (.cells c C (0, 0)) := by
  have h1 := alloc_below w1 (.cells a A)
  have z1 : (w1.alloc (.cells a A)).heap.size = w1.heap.size + 1 := World.size_alloc _ _
  have h2 := alloc_below (w1.alloc (.cells a A)) (.cells b B)
  have z2 : ((w1.alloc (.cells a A)).alloc (.cells b B)).heap.size = w1.heap.size + 2 := by rw [World.size_alloc, z1]
  have h3 := alloc_below ((w1.alloc (.cells a A)).alloc (.cells b B)) (.cells c C)
  have z3 : (((w1.alloc (.cells a A)).alloc (.cells b B)).alloc (.cells c C)).heap.size = w1.heap.size + 3 := by rw [World.size_alloc, z2]
  have e1 : (w1.alloc (.cells a A)).heap[w1.heap.size]? = some (.cells a A (0, 0)) := Array.getElem?_push_size
  have e2 : ((w1.alloc (.cells a A)).alloc (.cells b B)).heap[(w1.alloc (.cells a A)).heap.size]? = some (.cells b B (0, 0)) := Array.getElem?_push_size
  have e3 : (((w1.alloc (.cells a A)).alloc (.cells b B)).alloc (.cells c C)).heap[((w1.alloc (.cells a A)).alloc (.cells b B)).heap.size]? = some (.cells c C (0, 0)) := Array.getElem?_push_size
  rw [z1] at e2
  rw [z2] at e3
  have hb := (h1.trans (h2.mono (by omega))).trans (h3.mono (by omega))
  refine ⟨⟨hb.os, hb.tape, hb.output, hb.size, hb.block⟩, z3, ?_, ?_, e3⟩
  · show (((w1.alloc (.cells a A)).alloc (.cells b B)).alloc (.cells c C)).heap[w1.heap.size]? = _
    rw [h3.block _ (by omega), h2.block _ (by omega)]
    exact e1
  · show (((w1.alloc (.cells a A)).alloc (.cells b B)).alloc (.cells c C)).heap[w1.heap.size + 1]? = _
    rw [h3.block _ (by omega)]
    exact e2
def zR : List Value := List.replicate 11 (.slice none 0 0)
theorem ordP_cases {gp bl ol n br or m j : Nat} {x : Addr × Nat} (h : (ordP gp bl ol n br or m)[j]? = some x) : (j < 7 ∧ x.1 = ⟨gp, j, none⟩) ∨ (7 ≤ j ∧ j < 7 + n ∧ x.1 = ⟨bl, ol + (j - 7), none⟩) ∨ (7 + n ≤ j ∧ j < 7 + n + m ∧ x.1 = ⟨br, or + (j - 7 - n), none⟩) ∨ (7 + n + m ≤ j ∧ j < 9 + n + m ∧ x.1 = ⟨gp, 9 + (j - 7 - n - m), none⟩) := by
  have lpa : ∀ {b o k i : Nat} {y : Addr × Nat}, (lp b o k)[i]? = some y → i < k ∧ y.1 = ⟨b, o + i, none⟩ := fun {b o k i y} h => by
    unfold lp at h
    rw [List.getElem?_map] at h
    obtain ⟨z, hz, rfl⟩ := Option.map_eq_some_iff.1 h
    have h1 := (List.getElem?_eq_some_iff.1 hz)
    obtain ⟨h2, h3⟩ := h1
    have h4 : i < k := by simpa using h2
    have h5 : i = z := by simpa using h3
    subst h5
    exact ⟨h4, rfl⟩
  unfold ordP at h
  by_cases h1 : j < 7
  · left
    refine ⟨h1, ?_⟩
    rw [List.append_assoc, List.append_assoc, List.getElem?_append_left (by show j < 7; exact h1)] at h
    match j, h1, h with
    | 0, _, h | 1, _, h | 2, _, h | 3, _, h | 4, _, h | 5, _, h | 6, _, h =>
      obtain rfl := Option.some.inj h
      rfl
  · right
    rw [List.append_assoc, List.append_assoc, List.getElem?_append_right (by show 7 ≤ j; omega)] at h
    have e7 : (basP gp).length = 7 := rfl
    rw [e7] at h
    by_cases h2 : j - 7 < n
    · left
      rw [List.getElem?_append_left (by rw [lp_len]; exact h2)] at h
      obtain ⟨-, h4⟩ := lpa h
      exact ⟨by omega, by omega, h4⟩
    · right
      rw [List.getElem?_append_right (by rw [lp_len]; omega), lp_len] at h
      by_cases h3 : j - 7 - n < m
      · left
        rw [List.getElem?_append_left (by rw [lp_len]; exact h3)] at h
        obtain ⟨-, h4⟩ := lpa h
        exact ⟨by omega, by omega, h4⟩
      · right
        rw [List.getElem?_append_right (by rw [lp_len]; omega), lp_len] at h
        obtain ⟨i, hi⟩ : ∃ i, j - 7 - n - m = i := ⟨_, rfl⟩
        rw [hi] at h ⊢
        match i, hi, h with
        | 0, hi, h | 1, hi, h =>
          obtain rfl := Option.some.inj h
          exact ⟨by omega, by omega, rfl⟩
        | i + 2, _, h => cases h
theorem made_at (k j : Nat) (z : Value) (h : j < k) : (madeCells #[z] k)[j]? = some z := by
  unfold madeCells
  rw [Array.getElem?_map, Array.getElem?_range, if_pos h]
  simp [Nat.mod_one]
theorem r4_start {w w1 wx w3 : World} {gp gL gR k gq n c : Nat} {CH : Nat → SP.Bs} (h : R4 w1 wx gp gL gR k) (hb : Below w.heap.size w w1) (hs : w.heap.size < w1.heap.size) (hP : PLs wx w3 (.slice (some ⟨gq, 0, none⟩) n c) (ordP gp gL 0 k gR 0 k)) :
    PsOk w w3 w.heap.size gq gp (ordP gp gL 0 k gR 0 k) ∧ RdI w w3 w3 w.heap.size gq gp (.slice (some ⟨gL, 0, none⟩) k k) (.slice (some ⟨gR, 0, none⟩) k k) (ordP gp gL 0 k gR 0 k) [] CH := by
  obtain ⟨g', c', e, hq1, hq2⟩ := hP.lt
  injection e with e _ _
  injection e with e
  injection e with e _ _
  subst e
  have z3 := hP.bl.size
  obtain ⟨p1, p1'⟩ := h.p1
  obtain ⟨p2, p2'⟩ := h.p2
  obtain ⟨p3, p3'⟩ := h.p3
  have d1 := h.d1
  have d2 := h.d2
  have d3 := h.d3
  have bp := hP.bl.block gp p1'
  have bL := hP.bl.block gL p2'
  have bR := hP.bl.block gR p3'
  refine ⟨⟨fun j x hx => ?_, fun j j' x x' hne hx hx' e => ?_, hq2, by have := h.bl.size; omega, by omega⟩, ⟨?_, fun j x u _ hu => by simp at hu, fun j x hx => ?_, ?_, ?_, rfl, rfl, Nat.le_refl _, fun j u hu => by simp at hu, fun j j' u u' g _ hu => by simp at hu⟩⟩
  · rcases ordP_cases hx with ⟨h1, h2⟩ | ⟨h1, h1', h2⟩ | ⟨h1, h1', h2⟩ | ⟨h1, h1', h2⟩
    · exact ⟨gp, j, h2, by omega, by omega, by omega, by omega, by rw [h2]; intro e; injection e with _ e _; omega, by rw [h2]; intro e; injection e with _ e _; omega⟩
    · exact ⟨gL, _, h2, by omega, by omega, by omega, by omega, by rw [h2]; intro e; injection e with e _ _; omega, by rw [h2]; intro e; injection e with e _ _; omega⟩
    · exact ⟨gR, _, h2, by omega, by omega, by omega, by omega, by rw [h2]; intro e; injection e with e _ _; omega, by rw [h2]; intro e; injection e with e _ _; omega⟩
    · exact ⟨gp, _, h2, by omega, by omega, by omega, by omega, by rw [h2]; intro e; injection e with _ e _; omega, by rw [h2]; intro e; injection e with _ e _; omega⟩
  · rcases ordP_cases hx with ⟨h1, h2⟩ | ⟨h1, h1', h2⟩ | ⟨h1, h1', h2⟩ | ⟨h1, h1', h2⟩ <;> rcases ordP_cases hx' with ⟨g1, g2⟩ | ⟨g1, g1', g2⟩ | ⟨g1, g1', g2⟩ | ⟨g1, g1', g2⟩ <;> (rw [h2, g2] at e; injection e with e1 e2 _; omega)
  · exact (hb.trans (h.bl.mono hb.size)).trans (hP.bl.mono (by have := h.bl.size; omega))
  · rcases ordP_cases hx with ⟨h1, h2⟩ | ⟨h1, h1', h2⟩ | ⟨h1, h1', h2⟩ | ⟨h1, h1', h2⟩
    · rw [h2]
      unfold World.cell? World.frozen?
      rw [bp, h.hp]
      refine ⟨?_, by simp⟩
      match j, h1 with
      | 0, _ | 1, _ | 2, _ | 3, _ | 4, _ | 5, _ | 6, _ => exact ⟨_, rfl⟩
    · rw [h2]
      unfold World.cell? World.frozen?
      rw [bL, h.hL]
      exact ⟨⟨_, made_at k (0 + (j - 7)) _ (by omega)⟩, by simp⟩
    · rw [h2]
      unfold World.cell? World.frozen?
      rw [bR, h.hR]
      exact ⟨⟨_, made_at k (0 + (j - 7 - k)) _ (by omega)⟩, by simp⟩
    · rw [h2]
      unfold World.cell? World.frozen?
      rw [bp, h.hp]
      refine ⟨?_, by simp⟩
      obtain ⟨i, hi⟩ : ∃ i, j - 7 - k - k = i := ⟨_, rfl⟩
      rw [hi]
      match i, hi with
      | 0, _ | 1, _ => exact ⟨_, rfl⟩
      | i + 2, hi => omega
  · unfold World.cell?
    rw [bp, h.hp]
    rfl
  · unfold World.cell?
    rw [bp, h.hp]
    rfl
end Go.Proofs.Ytboigmhioojenaa
namespace Go.Proofs.Ytboigmhioojenaa
open Go.RowKit Go.Sort Go.Deep
/-- Where part j begins. -/
def offs (n j : Nat) : Nat := 1 + ((ordS n n).take j).sum
theorem offs_succ (n j k : Nat) (h : (ordS n n)[j]? = some k) : offs n (j + 1) = offs n j + k := by
  unfold offs
  rw [List.take_add_one, h, List.sum_append]
  simp [Nat.add_assoc]
theorem sum_take_le : ∀ (l : List Nat) (j : Nat), (l.take j).sum ≤ l.sum
  | [], j => by simp
  | a :: r, 0 => by simp
  | a :: r, j + 1 => by
    have := sum_take_le r j
    simp only [List.take_succ_cons, List.sum_cons]
    omega
theorem offs_le (n j : Nat) : offs n j ≤ 1 + (ordS n n).sum := by
  have := sum_take_le (ordS n n) j
  unfold offs
  omega
theorem ordS_sum (n : Nat) : (ordS n n).sum = 292 + 66 * n := by
  unfold ordS
  simp only [List.sum_append, List.sum_replicate_nat, List.sum_cons, List.sum_nil]
  omega
theorem offs_all (n : Nat) : offs n (n + n + 9) = 293 + 66 * n := by
  unfold offs
  rw [List.take_of_length_le (by rw [ordS_len]; omega), ordS_sum]
  omega
def chk (s : SP.Bs) (n j : Nat) : SP.Bs := s.extract (offs n j) (offs n (j + 1))
def RGood (s : SP.Bs) : Prop := 0 < s.size ∧ s[0]!.toNat ≤ 6 ∧ s.size = 293 + 66 * s[0]!.toNat
/-- What Read answers. -/
def RdR (w : World) (s : SP.Bs) (k : Nat) (e : Ending) (W : World) : Prop :=
  (¬ RGood s ∧ Below w.heap.size w W ∧ e = .returned (.tuple #[.agg zR.toArray, .int .i64 2])) ∨
  (RGood s ∧ Below w.heap.size w W ∧ ∃ (w3 W0 : World) (gq gp gL gR : Nat) (vs cs : List Value), vs.length = k + k + 9 ∧ PsOk w w3 w.heap.size gq gp (ordP gp gL 0 k gR 0 k) ∧ RdI w w3 W0 w.heap.size gq gp (.slice (some ⟨gL, 0, none⟩) k k) (.slice (some ⟨gR, 0, none⟩) k k) (ordP gp gL 0 k gR 0 k) vs (chk s k) ∧ cs.length = 11 ∧ W0.rangeAt gp 0 cs ∧ W = W0.setCells w.heap.size 0 cs ∧ e = .returned (.tuple #[.agg cs.toArray, .int .i64 0]))
theorem slB_loP (gg oo n c k : Nat) (hk : k ≤ n) (hc : n < c) (w : World) : (Instr.sliceAt 22 (.slice (some ⟨gg, oo, none⟩) n c) (some (.int .i64 (k : Int))) none none).run Try.prog w = .ok (.slice (some ⟨gg, oo + k, none⟩) (n - k) (c - k)) w := by
  have h1 : (k : Int) ≤ n := by omega
  have h2 : (n : Int) ≤ c := by omega
  have h3 : ¬ c = k := by omega
  have h4 : ¬ c - k = 0 := by omega
  go_simp
theorem slB_hiP (gg oo n c k : Nat) (hk : k ≤ c) (w : World) : (Instr.sliceAt 22 (.slice (some ⟨gg, oo, none⟩) n c) none (some (.int .i64 (k : Int))) none).run Try.prog w = .ok (.slice (some ⟨gg, oo, none⟩) k c) w := by
  have h1 : (k : Int) ≤ c := by omega
  go_simp
theorem results_cP {P : Program} {fn : Func} {tmps : Array Value} {W : World} {k : Nat} {vs : List Value} {v : Value} (t u : Tmp) (T : TypeId) (hr : fn.results = #[.cell t T, .tmp u]) (h : W.rangeAt k 0 vs) (ht : tmps[t]? = some (.pointer (some ⟨k, 0, none⟩))) (hv : tmps[u]? = some v)
    (hu : (P.underlying T).map (·.isRow) = some true) (hi : (P.info? T).map (·.size) = some vs.length) : (results fn tmps).run P W = .ok (.tuple #[.agg vs.toArray, v]) W := by
  obtain ⟨d, hu, hd⟩ := Option.map_eq_some_iff.1 hu
  have h1 := run_loadVar_mid (P := P) W k 0 T vs d h hu hd hi
  have h2 : tmps.getD t undef = .pointer (some ⟨k, 0, none⟩) := by rw [Array.getD_eq_getD_getElem?, ht]; rfl
  have h3 : tmps.getD u undef = v := by rw [Array.getD_eq_getD_getElem?, hv]; rfl
  unfold results
  rw [hr]
  simp only [Array.mapM_eq_mapM_toList, List.mapM_cons, List.mapM_nil, h2, h3, asAddr]
  simp [Sem.run_bind, h1]
/-- A row of eleven cells in the block of the answer. -/
theorem put11 {w W : World} {cs : List Value} (hb : W.heap[w.heap.size]? = some (.cells zR.toArray 27 (0, 0))) (hl : cs.length = 11) (hbl : Below w.heap.size w W) : W.there w.heap.size 0 cs.toArray.size ∧ (W.setCells w.heap.size 0 cs).rangeAt w.heap.size 0 cs ∧ Below w.heap.size w (W.setCells w.heap.size 0 cs) := by
  have ht : W.there w.heap.size 0 cs.length := fun j hj => by
    unfold World.cell? World.frozen?
    rw [hb]
    refine ⟨?_, by simp⟩
    have : (0 + j) < zR.toArray.size := by show 0 + j < 11; omega
    simp only [Array.getElem?_eq_getElem this]
    rfl
  refine ⟨by simpa using ht, World.rangeAt_setCells_same _ _ _ _ ht, ⟨(World.os_setCells _ _ _ _).trans hbl.os, ?_, (World.output_setCells _ _ _ _).trans hbl.output, ?_, fun k hk => ?_⟩⟩
  · have h0 := below_setCells (B := 0) (b := w.heap.size) (Nat.zero_le _) cs 0 W (Below.refl 0 W)
    rw [h0.tape]; exact hbl.tape
  · have h0 := below_setCells (B := 0) (b := w.heap.size) (Nat.zero_le _) cs 0 W (Below.refl 0 W)
    exact Nat.le_trans hbl.size h0.size
  · rw [World.heap_setCells_other W _ 0 cs (by have := hbl.size; omega) (by omega)]
    exact hbl.block k hk
end Go.Proofs.Ytboigmhioojenaa
namespace Go.Proofs.Ytboigmhioojenaa
open Go.RowKit Go.Sort Go.Deep
section
variable {P : Program} {ops : Array Oper} {Q : Exit → Act → World → Prop} {a0 : Act} {F : RG.Flow} {k : Nat} {o : Oper}
theorem cf_shiP (T : TypeId) (s t : Tmp) (ho : o.op = .slice T (.tmp s) none (some (.tmp t)) none)
    (h : ∀ (a : Act) (w : World), RG.PreF F ops a0 k o a w → ∃ v1 v2 v, a.eval (.tmp s) = v1 ∧ a.eval (.tmp t) = v2 ∧ (Instr.sliceAt T v1 none (some v2) none).run P w = .ok v w ∧ F.E k w w ∧ F.R k v w) : RG.CertF P Q F ops a0 k o :=
  RG.cf_val fun a w hp => by
    obtain ⟨v1, v2, v, h1, h2, h3, hE, hR⟩ := h a w hp
    refine ⟨v, w, ?_, hE, hR⟩
    unfold execOp
    rw [ho]
    dsimp only [Option.map]
    rw [h1, h2, Sem.run_bind, h3]
    rfl
theorem cf_sloP (T : TypeId) (s t : Tmp) (ho : o.op = .slice T (.tmp s) (some (.tmp t)) none none)
    (h : ∀ (a : Act) (w : World), RG.PreF F ops a0 k o a w → ∃ v1 v2 v, a.eval (.tmp s) = v1 ∧ a.eval (.tmp t) = v2 ∧ (Instr.sliceAt T v1 (some v2) none none).run P w = .ok v w ∧ F.E k w w ∧ F.R k v w) : RG.CertF P Q F ops a0 k o :=
  RG.cf_val fun a w hp => by
    obtain ⟨v1, v2, v, h1, h2, h3, hE, hR⟩ := h a w hp
    refine ⟨v, w, ?_, hE, hR⟩
    unfold execOp
    rw [ho]
    dsimp only [Option.map]
    rw [h1, h2, Sem.run_bind, h3]
    rfl
theorem cf_callsP (h : ∀ (a : Act) (w : World), RG.PreF F ops a0 k o a w → ∃ (ps : List (Tmp × Value)) (f : FuncId) (args : Array Value), RG.AllE a ps ∧ (RG.seenT (ps.map (·.1)) o, (execOp (RG.evo (RG.evl ps)) o).run P w) = (true, .ok (.enter f args) w) ∧ Calls P f args w (fun e w' => ∃ v, e = .returned v ∧ F.E k w w' ∧ F.R k v w')) : RG.CertF P Q F ops a0 k o := by
  intro a w K h1 h2 h3 hK
  obtain ⟨ps, f, args, he, hs, hc⟩ := h a w ⟨h1, h2, h3⟩
  simp only [Prod.mk.injEq] at hs
  unfold Oper.wp
  rw [RG.exec_ev (RG.evl ps) (ps.map (·.1)) hs.1 he.ev, hs.2, Oper.upon_enter]
  refine hc.mono ?_
  rintro e w' ⟨v, rfl, hE, hR⟩
  exact hK _ _ hE hR
theorem cf_storeP (T : TypeId) (t u : Tmp) (ho : o.op = .store T (.tmp t) (.tmp u)) (hd : o.dst = none) (hi : (P.info? T).map (·.size) = some 1)
    (h : ∀ (a : Act) (w : World), RG.PreF F ops a0 k o a w → ∃ g off v old, a.eval (.tmp t) = .pointer (some ⟨g, off, none⟩) ∧ a.eval (.tmp u) = v ∧ w.cell? ⟨g, off, none⟩ = some old ∧ w.frozen? ⟨g, off, none⟩ = false ∧ v.oneCell' = true ∧ v.cells = #[v] ∧ F.E k w (w.setCell ⟨g, off, none⟩ v) ∧ F.R k undef (w.setCell ⟨g, off, none⟩ v)) : RG.CertF P Q F ops a0 k o := by
  intro a w K h1 h2 h3 hK
  obtain ⟨g, off, v, old, e1, e2, e3, e4, e5, e6, hE, hR⟩ := h a w ⟨h1, h2, h3⟩
  have := hK undef _ hE hR
  unfold Oper.wp execOp
  rw [ho]
  dsimp only
  rw [e1, e2, Sem.run_bind, RG.run_store1 e3 e4 e5 e6 hi]
  show K (a.put o.dst undef) _
  exact this
end
theorem chk_at (s : SP.Bs) (k i j : Nat) (hj : j < (chk s k i).size) (hjs : offs k i + j < s.size) : (chk s k i)[j]! = s[offs k i + j]! := by
  rw [getElem!_pos (chk s k i) j hj, getElem!_pos s (offs k i + j) hjs]
  unfold chk at hj ⊢
  rw [Array.getElem_extract]
theorem rd_cells {w w4 W : World} {gr gq gp gL gR k : Nat} {vs : List Value} {CH : Nat → SP.Bs} (h : RdI w w4 W gr gq gp (.slice (some ⟨gL, 0, none⟩) k k) (.slice (some ⟨gR, 0, none⟩) k k) (ordP gp gL 0 k gR 0 k) vs CH) (hl : vs.length = k + k + 9) : ∃ cs : List Value, cs.length = 11 ∧ W.rangeAt gp 0 cs ∧ ∀ v ∈ cs, v.oneCell' = true := by
  have hM : (ordP gp gL 0 k gR 0 k).length = k + k + 9 := by
    rw [← ordS_len k k, ← ordP_S gp gL 0 k gR 0 k, List.length_map]
  have hat : ∀ j, j < k + k + 9 → ∃ u, (∀ x, (ordP gp gL 0 k gR 0 k)[j]? = some x → W.cell? x.1 = some u) ∧ u.oneCell' = true := fun j hj => by
    obtain ⟨u, hu⟩ : ∃ u, vs[j]? = some u := ⟨_, List.getElem?_eq_getElem (by omega)⟩
    obtain ⟨q, c, hv⟩ := (RV.of (h.ow j u hu).own).slice
    exact ⟨u, fun x hx => h.st j x u hx hu, by rw [hv]; rfl⟩
  have two : ∀ j, j < 2 → ∃ u, W.cell? ⟨gp, 9 + j, none⟩ = some u ∧ u.oneCell' = true := fun j hj => by
    obtain ⟨u, h1, h2⟩ := hat (7 + k + k + j) (by omega)
    obtain ⟨x, hx⟩ : ∃ x, (ordP gp gL 0 k gR 0 k)[7 + k + k + j]? = some x := ⟨_, List.getElem?_eq_getElem (by omega)⟩
    rcases ordP_cases hx with ⟨g1, g2⟩ | ⟨g1, g1', g2⟩ | ⟨g1, g1', g2⟩ | ⟨g1, g1', g2⟩
    · omega
    · omega
    · omega
    · have := h1 x hx
      rw [g2, show 7 + k + k + j - 7 - k - k = j by omega] at this
      exact ⟨u, this, h2⟩
  obtain ⟨u0, a0, b0⟩ := hat 0 (by omega)
  obtain ⟨u1, a1, b1⟩ := hat 1 (by omega)
  obtain ⟨u2, a2, b2⟩ := hat 2 (by omega)
  obtain ⟨u3, a3, b3⟩ := hat 3 (by omega)
  obtain ⟨u4, a4, b4⟩ := hat 4 (by omega)
  obtain ⟨u5, a5, b5⟩ := hat 5 (by omega)
  obtain ⟨u6, a6, b6⟩ := hat 6 (by omega)
  obtain ⟨u9, a9, b9⟩ := two 0 (by omega)
  obtain ⟨u10, a10, b10⟩ := two 1 (by omega)
  refine ⟨[u0, u1, u2, u3, u4, u5, u6, .slice (some ⟨gL, 0, none⟩) k k, .slice (some ⟨gR, 0, none⟩) k k, u9, u10], rfl, fun j u hj => ?_, fun v hv => ?_⟩
  · rw [Nat.zero_add]
    match j, hj with
    | 0, hj => obtain rfl := Option.some.inj hj; exact a0 _ rfl
    | 1, hj => obtain rfl := Option.some.inj hj; exact a1 _ rfl
    | 2, hj => obtain rfl := Option.some.inj hj; exact a2 _ rfl
    | 3, hj => obtain rfl := Option.some.inj hj; exact a3 _ rfl
    | 4, hj => obtain rfl := Option.some.inj hj; exact a4 _ rfl
    | 5, hj => obtain rfl := Option.some.inj hj; exact a5 _ rfl
    | 6, hj => obtain rfl := Option.some.inj hj; exact a6 _ rfl
    | 7, hj => obtain rfl := Option.some.inj hj; exact h.c7
    | 8, hj => obtain rfl := Option.some.inj hj; exact h.c8
    | 9, hj => obtain rfl := Option.some.inj hj; exact a9
    | 10, hj => obtain rfl := Option.some.inj hj; exact a10
    | j + 11, hj => simp at hj
  · simp only [List.mem_cons, List.not_mem_nil, or_false] at hv
    rcases hv with rfl | rfl | rfl | rfl | rfl | rfl | rfl | rfl | rfl | rfl | rfl <;> first | assumption | rfl
end Go.Proofs.Ytboigmhioojenaa
namespace Go.Proofs.Ytboigmhioojenaa
open Go.RowKit Go.Sort Go.Deep
/-- What the reference's Read keeps: where it stands in the text, and the bytes that it has cut off so far. -/
structure NxI (w W : World) (ga gs gp : Nat) (s : ByteArray) (off : Nat) (us : List Value) (CH : Nat → SP.Bs) : Prop where
  bl : Below w.heap.size w W
  ca : W.cell? ⟨ga, 0, none⟩ = some (.int .i64 (off : Int))
  fa : W.frozen? ⟨ga, 0, none⟩ = false
  cs : W.cell? ⟨gs, 0, none⟩ = some (.string s)
  la : ga < W.heap.size
  ls : gs < W.heap.size
  wa : w.heap.size ≤ ga
  ns : ga ≠ gs
  ow : ∀ (j : Nat) u, us[j]? = some u → ∃ g c, u = .slice (some ⟨g, 0, none⟩) (CH j).size c ∧ ga < g ∧ g < W.heap.size ∧ g ≠ gp ∧ Holds SP.encB W g 0 (CH j)
variable {w W : World} {ga gs gp off : Nat} {s : ByteArray} {us : List Value} {CH : Nat → SP.Bs}
theorem NxI.below {W' : World} (h : NxI w W ga gs gp s off us CH) (hb : Below W.heap.size W W') : NxI w W' ga gs gp s off us CH := by
  have la := h.la
  have ls := h.ls
  refine ⟨h.bl.trans (hb.mono h.bl.size), by rw [hb.cell (p := ⟨ga, 0, none⟩) la]; exact h.ca, ?_, by rw [hb.cell (p := ⟨gs, 0, none⟩) ls]; exact h.cs, Nat.lt_of_lt_of_le la hb.size, Nat.lt_of_lt_of_le ls hb.size, h.wa, h.ns, fun j u hu => ?_⟩
  · have : W'.frozen? ⟨ga, 0, none⟩ = W.frozen? ⟨ga, 0, none⟩ := by unfold World.frozen?; rw [hb.block ga la]
    rw [this]; exact h.fa
  · obtain ⟨g, c, e, h1, h2, h3, h4⟩ := h.ow j u hu
    exact ⟨g, c, e, h1, Nat.lt_of_lt_of_le h2 hb.size, h3, SP.Holds.below h4 hb h2⟩
theorem holds_set {W : World} {g o b p : Nat} {X : SP.Bs} {v : Value} (h : Holds SP.encB W g o X) (hne : g ≠ b) : Holds SP.encB (W.setCell ⟨b, p, none⟩ v) g o X := fun j hj => by
  obtain ⟨h1, h2⟩ := h j hj
  refine ⟨by rw [World.cell?_setCell_other _ _ _ _ (by intro e; injection e with e _ _; exact hne e.symm)]; exact h1, ?_⟩
  have := World.frozen?_setCells b [v] p W ⟨g, o + j, none⟩
  exact this.trans h2
theorem NxI.put {o : Nat} {v : Value} (h : NxI w W ga gs gp s off us CH) (h1 : gp ≠ ga) (h2 : gp ≠ gs) (h3 : w.heap.size ≤ gp) : NxI w (W.setCell ⟨gp, o, none⟩ v) ga gs gp s off us CH := by
  refine ⟨⟨h.bl.os, h.bl.tape, h.bl.output, by rw [World.size_setCell]; exact h.bl.size, fun k hk => by rw [heap_set, if_neg (by show gp ≠ k; omega)]; exact h.bl.block k hk⟩, ?_, ?_, ?_, by rw [World.size_setCell]; exact h.la, by rw [World.size_setCell]; exact h.ls, h.wa, h.ns, fun j u hu => ?_⟩
  · rw [World.cell?_setCell_other _ _ _ _ (by intro e; injection e with e _ _; exact h1 e)]; exact h.ca
  · exact (World.frozen?_setCells gp [v] o W ⟨ga, 0, none⟩).trans h.fa
  · rw [World.cell?_setCell_other _ _ _ _ (by intro e; injection e with e _ _; exact h2 e)]; exact h.cs
  · obtain ⟨g, c, e, g1, g2, g3, g4⟩ := h.ow j u hu
    exact ⟨g, c, e, g1, by rw [World.size_setCell]; exact g2, g3, holds_set g4 g3⟩
/-- One call of 'next'. -/
theorem NxI.next {k : Nat} (h : NxI w W ga gs gp s off us CH) (hk : off + k ≤ s.size) (hs : s.size ≤ 1048576) (hc : CH us.length = (s.extract off (off + k)).data) (hp : gp < W.heap.size) :
    Calls Try.prog 17 #[.int .i64 (k : Int), .pointer (some ⟨ga, 0, none⟩), .pointer (some ⟨gs, 0, none⟩)] W fun e W' => ∃ u, e = .returned u ∧ W.heap.size < W'.heap.size ∧ (∀ b, b < W.heap.size → b ≠ ga → W'.heap[b]? = W.heap[b]?) ∧ NxI w W' ga gs gp s (off + k) (us ++ [u]) CH := by
  refine (next_c ga gs s off k (off + k) rfl hk hs W h.ca h.fa h.cs h.ns).mono ?_
  rintro e W' ⟨cap, rfl, hcap, hH, hb, hlt⟩
  have hsz : (CH us.length).size = k := by
    rw [hc]
    show (s.extract off (off + k)).size = k
    rw [ByteArray.size_extract]
    omega
  have hblk : ∀ b, b < W.heap.size → b ≠ ga → W'.heap[b]? = W.heap[b]? := fun b hb1 hne => by
    rw [hb.block b hb1, heap_set, if_neg (by show ga ≠ b; omega)]
  have la := h.la
  have wa := h.wa
  have hbs := h.bl.size
  refine ⟨_, rfl, hlt, hblk, ⟨⟨by rw [hb.os]; exact h.bl.os, by rw [hb.tape]; exact h.bl.tape, by rw [hb.output]; exact h.bl.output, by omega, fun b hb1 => by rw [hblk b (by omega) (by omega)]; exact h.bl.block b hb1⟩, ?_, ?_, ?_, by omega, by have := h.ls; omega, wa, h.ns, fun j u hu => ?_⟩⟩
  · rw [hb.cell (p := ⟨ga, 0, none⟩) la]
    exact World.cell?_setCell_same _ _ _ h.ca
  · have : W'.frozen? ⟨ga, 0, none⟩ = (W.setCell ⟨ga, 0, none⟩ (.int .i64 ((off + k : Nat) : Int))).frozen? ⟨ga, 0, none⟩ := by unfold World.frozen?; rw [hb.block ga la]
    rw [this]
    exact (World.frozen?_setCells ga [.int .i64 ((off + k : Nat) : Int)] 0 W ⟨ga, 0, none⟩).trans h.fa
  · have : W'.cell? ⟨gs, 0, none⟩ = W.cell? ⟨gs, 0, none⟩ := by unfold World.cell?; rw [hblk gs h.ls (fun e => h.ns e.symm)]
    rw [this]; exact h.cs
  · by_cases hj : j < us.length
    · rw [List.getElem?_append_left hj] at hu
      obtain ⟨g, c, e, g1, g2, g3, g4⟩ := h.ow j u hu
      refine ⟨g, c, e, g1, by omega, g3, fun i hi => ?_⟩
      have h1 := g4 i hi
      have e1 : W'.cell? ⟨g, 0 + i, none⟩ = W.cell? ⟨g, 0 + i, none⟩ := by unfold World.cell?; rw [hblk g g2 (by omega)]
      have e2 : W'.frozen? ⟨g, 0 + i, none⟩ = W.frozen? ⟨g, 0 + i, none⟩ := by unfold World.frozen?; rw [hblk g g2 (by omega)]
      rw [e1, e2]
      exact h1
    · have hje : j = us.length := by
        have := (List.getElem?_eq_some_iff.1 hu).1
        rw [List.length_append] at this
        simp only [List.length_cons, List.length_nil] at this
        omega
      subst hje
      rw [List.getElem?_append_right (Nat.le_refl _), Nat.sub_self] at hu
      obtain rfl := Option.some.inj hu
      refine ⟨W.heap.size, cap, by rw [hsz], by omega, hlt, by omega, ?_⟩
      rw [hc]
      exact hH
end Go.Proofs.Ytboigmhioojenaa
namespace Go.Proofs.Ytboigmhioojenaa
open Go.RowKit Go.Sort Go.Deep
variable {w W : World} {ga gs gp off : Nat} {s : ByteArray} {us : List Value} {CH : Nat → SP.Bs}
theorem NxI.puts (h1 : gp ≠ ga) (h2 : gp ≠ gs) (h3 : w.heap.size ≤ gp) : ∀ (vs : List Value) (o : Nat) {W : World}, NxI w W ga gs gp s off us CH → NxI w (W.setCells gp o vs) ga gs gp s off us CH
  | [], _, _, h => h
  | _ :: r, o, _, h => NxI.puts h1 h2 h3 r (o + 1) (h.put h1 h2 h3)
/-- The block of the proof is made: no bytes lie there. -/
theorem NxI.regp {W' : World} {gp' : Nat} (h : NxI w W ga gs gp s off us CH) (hb : Below W.heap.size W W') (hg : W.heap.size ≤ gp') : NxI w W' ga gs gp' s off us CH := by
  have h1 := h.below hb
  refine ⟨h1.bl, h1.ca, h1.fa, h1.cs, h1.la, h1.ls, h1.wa, h1.ns, fun j u hu => ?_⟩
  obtain ⟨g, c, e, g1, g2, -, g4⟩ := h.ow j u hu
  exact ⟨g, c, e, g1, Nat.lt_of_lt_of_le g2 hb.size, by omega, SP.Holds.below g4 hb g2⟩
theorem NxI.begin {w w3 : World} {s : ByteArray} {gs : Nat} (hb : Below w.heap.size w w3) (hc : w3.cell? ⟨gs, 0, none⟩ = some (.string s)) (hg : gs < w3.heap.size) : NxI w (w3.alloc (.cells #[.int .i64 1] 3)) w3.heap.size gs gs s 1 [] CH := by
  have ba := alloc_below w3 (.cells #[.int .i64 1] 3)
  have za : (w3.alloc (.cells #[.int .i64 1] 3)).heap.size = w3.heap.size + 1 := World.size_alloc _ _
  refine ⟨hb.trans (ba.mono hb.size), alloc_cell w3 _ _ 0 _ rfl, ?_, by rw [ba.cell (p := ⟨gs, 0, none⟩) hg]; exact hc, by omega, by omega, hb.size, by omega, fun j u hu => by simp at hu⟩
  unfold World.alloc World.frozen?
  simp
/-- What 'next' cuts off is part j. -/
theorem chk_cut (s : ByteArray) (k j a b : Nat) (ha : offs k j = a) (hb : offs k (j + 1) = b) : chk s.data k j = (s.extract a b).data := by
  unfold chk
  rw [ha, hb, ByteArray.data_extract]
theorem ixT (s : ByteArray) (k : Nat) (h0 : 0 < s.size) (hk : s.data[0]!.toNat = k) (W : World) : (Instr.index 9 (.string s) (.int .i64 0)).run Try.prog W = .ok (.int .u8 (k : Int)) W := by
  have h1 : (0 : Int) < (s.size : Int) := by omega
  rw [getElem!_pos s.data 0 h0] at hk
  go_simp
  exact congrArg (fun x : Nat => (x : Int)) hk
/-- The list at a field of the proof. -/
structure LsI (W : World) (gp o B : Nat) (v : Value) (ys : List Value) : Prop where
  ce : W.cell? ⟨gp, o, none⟩ = some v
  fr : W.frozen? ⟨gp, o, none⟩ = false
  ow : W.ownsRow B 22 1 v ys.length ys
  ib : v.ownBlock ≠ some gp
/-- An entry is appended to the list at a field. -/
theorem LsI.app {W : World} {gp o B : Nat} {v u : Value} {ys : List Value} (h : LsI W gp o B v ys) (hu : u.oneCell' = true) (hn : ys.length ≤ 1000) (hB : B ≤ W.heap.size) (hgp : gp < W.heap.size) :
    ∃ v' W', (Builtin.append_ #[23, 23] 23 #[v, .slice (some ⟨W.heap.size, 0, none⟩) 1 1]).run Try.prog (W.alloc (.cells #[u] 22)) = .ok v' W' ∧ (∃ g c, v' = .slice (some ⟨g, 0, none⟩) (ys.length + 1) c) ∧ W'.cell? ⟨gp, o, none⟩ = some v ∧ W'.frozen? ⟨gp, o, none⟩ = false ∧ LsI (W'.setCell ⟨gp, o, none⟩ v') gp o B v' (ys ++ [u]) ∧ Ap1 W W' v v' := by
  obtain ⟨v', W', r1, r2, r3⟩ := own_app1 undBB infoBB (by omega) h.ow hu (by omega) hB
  have hs := r3.size
  have hb : W'.heap[gp]? = W.heap[gp]? := r3.keep gp hgp h.ib
  have c1 : W'.cell? ⟨gp, o, none⟩ = some v := by
    have : W'.cell? ⟨gp, o, none⟩ = W.cell? ⟨gp, o, none⟩ := by unfold World.cell?; rw [hb]
    rw [this]; exact h.ce
  have c2 : W'.frozen? ⟨gp, o, none⟩ = false := by
    have : W'.frozen? ⟨gp, o, none⟩ = W.frozen? ⟨gp, o, none⟩ := by unfold World.frozen?; rw [hb]
    rw [this]; exact h.fr
  have hib : v'.ownBlock ≠ some gp := by
    rcases r3.mv with e | ⟨⟨g, e, hg⟩, -⟩
    · rw [e]; exact h.ib
    · rw [e]; intro e'; have := Option.some.inj e'; omega
  refine ⟨v', W', r1, ?_, c1, c2, ⟨World.cell?_setCell_same _ _ _ c1, (World.frozen?_setCells gp [v'] o W' _).trans c2, ?_, hib⟩, r3⟩
  · rcases r2.2 with ⟨-, h0⟩ | ⟨g, cap, cur, e, -⟩
    · omega
    · exact ⟨g, cap, e⟩
  · rw [List.length_append]
    exact own_keep r2 (fun g hg => by rw [heap_set, if_neg (by show gp ≠ g; intro e; exact hib (by rw [e]; exact hg))])
/-- Behind an append to a list of slices all that was cut off stays. -/
theorem NxI.ap1 {W' : World} {v v' : Value} {B : Nat} {ys : List Value} (h : NxI w W ga gs gp s off us CH) (ha : Ap1 W W' v v') (ho : W.ownsRow B 22 1 v ys.length ys) (hw : w.heap.size ≤ B) (hga : v.ownBlock ≠ some ga) (hgs : v.ownBlock ≠ some gs) (hpos : ∀ j u, us[j]? = some u → 0 < (CH j).size) (hys : ∀ u ∈ ys, ∃ q n c, u = .slice q n c) (hyl : v.ownBlock ≠ none → 0 < ys.length) : NxI w W' ga gs gp s off us CH := by
  have la := h.la
  have ls := h.ls
  have hs := ha.size
  have kga : W'.heap[ga]? = W.heap[ga]? := ha.keep ga la hga
  have kgs : W'.heap[gs]? = W.heap[gs]? := ha.keep gs ls hgs
  refine ⟨⟨by rw [ha.os]; exact h.bl.os, by rw [ha.tape]; exact h.bl.tape, by rw [ha.output]; exact h.bl.output, Nat.le_trans h.bl.size hs, fun k hk => ?_⟩, ?_, ?_, ?_, by omega, by omega, h.wa, h.ns, fun j u hu => ?_⟩
  · rw [ha.keep k (by have := h.bl.size; omega) (fun e => by have := (own_lt ho e).1; omega)]
    exact h.bl.block k hk
  · have : W'.cell? ⟨ga, 0, none⟩ = W.cell? ⟨ga, 0, none⟩ := by unfold World.cell?; rw [kga]
    rw [this]; exact h.ca
  · have : W'.frozen? ⟨ga, 0, none⟩ = W.frozen? ⟨ga, 0, none⟩ := by unfold World.frozen?; rw [kga]
    rw [this]; exact h.fa
  · have : W'.cell? ⟨gs, 0, none⟩ = W.cell? ⟨gs, 0, none⟩ := by unfold World.cell?; rw [kgs]
    rw [this]; exact h.cs
  · obtain ⟨g, c, e, g1, g2, g3, g4⟩ := h.ow j u hu
    have hne : v.ownBlock ≠ some g := fun e1 => by
      have h0 := (g4 0 (hpos j u hu)).1
      have hl := hyl (by rw [e1]; simp)
      obtain ⟨y, hy⟩ : ∃ y, ys[0]? = some y := ⟨_, List.getElem?_eq_getElem hl⟩
      obtain ⟨q, n, c', rfl⟩ := hys y (List.mem_of_getElem? hy)
      rcases id ho with ⟨-, ⟨h5, -⟩ | ⟨g', cap, cur, rfl, -⟩⟩
      · rw [h5] at e1; cases e1
      · obtain rfl : g' = g := Option.some.inj e1
        have h6 := ho.cells (g := g') rfl 0 _ hy
        rw [addP0] at h6
        rw [h6] at h0
        cases h0
    have kg := ha.keep g g2 hne
    refine ⟨g, c, e, g1, by omega, g3, fun i hi => ?_⟩
    have h1 := g4 i hi
    have e1 : W'.cell? ⟨g, 0 + i, none⟩ = W.cell? ⟨g, 0 + i, none⟩ := by unfold World.cell?; rw [kg]
    have e2 : W'.frozen? ⟨g, 0 + i, none⟩ = W.frozen? ⟨g, 0 + i, none⟩ := by unfold World.frozen?; rw [kg]
    rw [e1, e2]
    exact h1
end Go.Proofs.Ytboigmhioojenaa
