import Derived.Test.YtdeidgbknlmhjabRG3
namespace Go.Proofs.Ytdeidgbknlmhjab.RG
open Go Go.RowKit

variable {P : Program} {Q : Exit → Act → World → Prop} {its : List It} {bl : List Bl} {olds : List (Tmp × SV)} {ops : Array Oper} {i : Nat} {o : Oper} {it : It} {w0 : World} {k0 : Nat} {X : List Nat}

theorem cert_stay (hk : it.kind = .stay) (hrun : ∀ (μ : Nat → Nat) (a : Act) (w : World), Known ops i its olds it.need μ a → BelX k0 X w0 w → (execOp a.eval o).run P w = .ok (.value (it.out.at μ)) w) : Cert P Q w0 k0 X ops i its bl olds o it := by
  intro μ a w K hK _ hbel
  rw [hk]
  intro h
  unfold Oper.wp
  rw [hrun μ a w hK hbel]
  exact h
theorem cert_load (hk : it.kind = .stay) (b off : Nat) (e : Bl) (hb : bl[b]? = some e) (hal : e.al = none) (hst : readB ops i e = true) (T : TypeId) (t : Tmp) (ho : o.op = .load T (.tmp t)) (cs : List Value) (hout : it.out = .v (.agg cs.toArray))
    (hx : ∀ (μ : Nat → Nat) (a : Act), Known ops i its olds it.need μ a → a.eval (.tmp t) = (SV.p b off).at μ) (hsub : (e.before.drop off).take cs.length = cs)
    (hu : (P.underlying T).map (·.isRow) = some true) (hi : (P.info? T).map (·.size) = some cs.length) : Cert P Q w0 k0 X ops i its bl olds o it := by
  intro μ a w K hK hR _
  rw [hk]
  intro h
  rw [hout] at h
  obtain ⟨d, hu, hd⟩ := Option.map_eq_some_iff.1 hu
  refine wp_load_mid T (.tmp t) ho (μ b) off (hx μ a hK) cs d (fun j v hj => ?_) hu hd hi h
  have h1 := hR b e hb (Or.inl hal) hst (off + j) v ?_
  · rw [Nat.zero_add] at h1; exact h1
  · rw [← hsub] at hj
    have hlt : j < cs.length := by
      have h2 := (List.getElem?_eq_some_iff.1 hj).1
      rw [hsub] at h2
      exact h2
    rw [List.getElem?_take, if_pos hlt, List.getElem?_drop] at hj
    exact hj
/-- A cell of one word, a slice, a pointer: no row. -/
theorem cert_call (hk : it.kind = .call) (f : FuncId) (args : Array Value) (v : Value) (hout : it.out = .v v) (hrun : ∀ (μ : Nat → Nat) (a : Act) (w : World), Known ops i its olds it.need μ a → BelX k0 X w0 w → (execOp a.eval o).run P w = .ok (.enter f args) w)
    (hc : ∀ w, BelX k0 X w0 w → Calls P f args w (Ret fun e w' => Below w.heap.size w w' ∧ e = v)) : Cert P Q w0 k0 X ops i its bl olds o it := by
  intro μ a w K hK _ hbel
  rw [hk]
  intro h
  rw [hout] at h
  unfold Oper.wp
  rw [hrun μ a w hK hbel, Oper.upon_enter]
  refine (hc w hbel).mono ?_
  rintro e w' ⟨v', rfl, hb, rfl⟩
  exact h w' hb
theorem cert_make (b : Nat) (hk : it.kind = .make b) (e : Bl) (hb : bl[b]? = some e) (t : TypeId) (hrun : ∀ (μ : Nat → Nat) (a : Act) (w : World), Known ops i its olds it.need μ a → BelX k0 X w0 w → (execOp a.eval o).run P w = .ok (.value (it.out.at (upd μ b w.heap.size))) (w.alloc (.cells e.before.toArray t))) : Cert P Q w0 k0 X ops i its bl olds o it := by
  intro μ a w K hK _ hbel
  rw [hk]
  intro e' hb' h
  rw [hb] at hb'
  obtain rfl : e = e' := Option.some.inj hb'
  unfold Oper.wp
  rw [hrun μ a w hK hbel]
  exact h t
theorem cert_put (b : Nat) (hk : it.kind = .put b) (e : Bl) (hb : bl[b]? = some e) (T : TypeId) (x y : Operand) (ho : o.op = .store T x y) (hdn : o.dst = none) (hlen : e.after.length = e.before.length)
    (hx : ∀ (μ : Nat → Nat) (a : Act), Known ops i its olds it.need μ a → a.eval x = (SV.p b 0).at μ) (hy : ∀ (μ : Nat → Nat) (a : Act), Known ops i its olds it.need μ a → a.eval y = .agg e.after.toArray)
    (hi : (P.info? T).map (·.size) = some e.after.length) (h1 : e.after.all (·.oneCell') = true) : Cert P Q w0 k0 X ops i its bl olds o it := by
  intro μ a w K hK _ _
  rw [hk]
  intro e' hb' ht hr h
  rw [hb] at hb'
  obtain rfl : e = e' := Option.some.inj hb'
  have hPT := PutTo.whole ht hr hlen
  refine wp_store_mid T x y ho (μ b) 0 e.after.toArray (hx μ a hK) (hy μ a hK) ?_ ?_ ?_ ?_
  · rw [List.size_toArray, hlen]; exact ht
  · rw [List.size_toArray]; exact hi
  · exact all_oneCell_toArray (fun v hv => List.all_eq_true.1 h1 v hv)
  · have := h _ hPT
    rw [hdn] at this ⊢
    exact this
theorem Known.op {need : List (Tmp × Nat)} {μ : Nat → Nat} {a : Act} (h : Known ops i its olds need μ a) (t : Tmp) (j : Nat) (hm : (t, j) ∈ need) {jt : It} (hj : its[j]? = some jt) : a.eval (.tmp t) = jt.out.at μ := h.1 t j jt hm hj
theorem Known.old {need : List (Tmp × Nat)} {μ : Nat → Nat} {a : Act} (h : Known ops i its olds need μ a) (t : Tmp) (s : SV) (hm : (t, s) ∈ olds) (hf : freeB ops its i t = true) : a.eval (.tmp t) = s.at μ := h.2 t s hm hf
theorem len1 {l : List Nat} (h : l.length = 1) : ∃ k, l = [k] := List.length_eq_one_iff.1 h
theorem len0 {l : List Nat} (h : l.length = 0) : l = [] := List.length_eq_zero_iff.1 h
theorem len2 {l : List Nat} (h : l.length = 2) : ∃ k j, l = [k, j] := by
  match l, h with
  | [k, j], _ => exact ⟨k, j, rfl⟩
end Go.Proofs.Ytdeidgbknlmhjab.RG
