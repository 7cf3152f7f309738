import Derived.Orders
import Derived.Test.YtmepmoalhgehhaaGreatDoorks6
set_option linter.unusedVariables false
set_option linter.unusedSimpArgs false
set_option linter.unusedVariables false
set_option linter.unusedSimpArgs false
namespace Go.Proofs.YtmepmoalhgehhaaGreatDoor.RG
open Go Go.RowKit
variable {P : Program} {ops : Array Oper} {Q : Exit → Act → World → Prop} {w0 w : World} {k0 : Nat} {X : List Nat} {its : List It} {bl : List Bl} {olds : List (Tmp × SV)} {a0 a : Act} {i : Nat} {o : Oper} {it : It} {μ : Nat → Nat}
/-- How many slots; no call is put off. -/
structure Sl (a : Act) (n : Nat) : Prop where
  size : a.tmps.size = n
  defers : a.defers = []
theorem Sl.puts {n : Nat} (h : Sl a n) : Sl (puts μ its a) n := ⟨by rw [puts_size]; exact h.size, by rw [puts_defers]; exact h.defers⟩
theorem put_old {t : Tmp} {v : Value} (h : a.tmps[t]? = some v) (hc : its.all (fun it => it.dst != some t) = true) : (puts μ its a).tmps[t]? = some v := by
  rw [puts_other μ its a t (fun it hm => by simpa using List.all_eq_true.1 hc it hm)]
  exact h
theorem put_new {n : Nat} (hl : Sl a n) (j : Nat) {jt : It} {d : Tmp} (hB : dstB its = true) (hj : its[j]? = some jt) (hd : jt.dst = some d) (hs : decide (d < n) = true) : (puts μ its a).tmps[d]? = some (jt.out.at μ) :=
  puts_same μ its a j jt d hB hj hd (by rw [hl.size]; simpa using hs)
theorem eval_of {t : Tmp} {v : Value} (h : a.tmps[t]? = some v) : a.eval (.tmp t) = v := by
  show a.tmps.getD t undef = v
  rw [Array.getD_eq_getD_getElem?, h]
  rfl
theorem results_none {fn : Func} {tmps : Array Value} (hr : fn.results = #[]) : (results fn tmps).run P w = .ok (.tuple #[]) w := by
  unfold results
  rw [hr]
  simp
theorem var1 {c : Code} {v0 : Value} {n : Nat} (h0 : a.tmps[0]? = some v0) (hs : a.tmps.size = n) (hd : a.defers = []) (h : ∀ a, Sl a n → a.tmps[0]? = some v0 → c.wp P Q a w) : c.wp P Q a w := h a ⟨hs, hd⟩ h0
theorem var2 {c : Code} {v0 v1 : Value} {n : Nat} (h0 : a.tmps[0]? = some v0) (h1 : a.tmps[1]? = some v1) (hs : a.tmps.size = n) (hd : a.defers = []) (h : ∀ a, Sl a n → a.tmps[0]? = some v0 → a.tmps[1]? = some v1 → c.wp P Q a w) : c.wp P Q a w := h a ⟨hs, hd⟩ h0 h1
theorem var3 {c : Code} {v0 v1 v2 : Value} {n : Nat} (h0 : a.tmps[0]? = some v0) (h1 : a.tmps[1]? = some v1) (h2 : a.tmps[2]? = some v2) (hs : a.tmps.size = n) (hd : a.defers = []) (h : ∀ a, Sl a n → a.tmps[0]? = some v0 → a.tmps[1]? = some v1 → a.tmps[2]? = some v2 → c.wp P Q a w) : c.wp P Q a w := h a ⟨hs, hd⟩ h0 h1 h2
theorem cert_nil (hk : it.kind = .stay) (t : Tmp) (ho : o.op = .nilCheck (.tmp t)) (s : SV) (hs : ∀ μ : Nat → Nat, ∃ p : Addr, s.at μ = .pointer (some p)) (hout : it.out = s) (hx : ∀ (μ : Nat → Nat) (a : Act), Known ops i its olds it.need μ a → a.eval (.tmp t) = s.at μ) : Cert P Q w0 k0 X ops i its bl olds o it := by
  refine cert_stay hk fun μ a w hK _ => ?_
  obtain ⟨p, hp⟩ := hs μ
  unfold execOp
  rw [ho, hout]
  dsimp only
  rw [hx μ a hK, hp]
  rfl
theorem cert_call2c (hk : it.kind = .call) (f : FuncId) (t1 t2 : Tmp) (v1 v2 c v : Value) (hout : it.out = .v v) (hrun : ∀ (a : Act) (w : World), (execOp a.eval o).run P w = .ok (.enter f #[a.eval (.tmp t1), a.eval (.tmp t2), c]) w)
    (h1 : ∀ (μ : Nat → Nat) (a : Act), Known ops i its olds it.need μ a → a.eval (.tmp t1) = v1) (h2 : ∀ (μ : Nat → Nat) (a : Act), Known ops i its olds it.need μ a → a.eval (.tmp t2) = v2)
    (hc : ∀ w, Calls P f #[v1, v2, c] w (Ret fun e w' => Below w.heap.size w w' ∧ e = v)) : Cert P Q w0 k0 X ops i its bl olds o it :=
  cert_call hk f #[v1, v2, c] v hout (fun μ a w hK _ => by rw [hrun, h1 μ a hK, h2 μ a hK]) (fun w _ => hc w)
theorem cert_fieldV (hk : it.kind = .stay) (T : TypeId) (t : Tmp) (f : Nat) (v v' : Value) (ho : o.op = .fieldAddr T (.tmp t) f) (hout : it.out = .v v') (hx : ∀ (μ : Nat → Nat) (a : Act), Known ops i its olds it.need μ a → a.eval (.tmp t) = v)
    (hf : ∀ w : World, (Instr.fieldAt T v f).run P w = .ok v' w) : Cert P Q w0 k0 X ops i its bl olds o it := by
  refine cert_stay hk fun μ a w hK _ => ?_
  unfold execOp
  rw [ho, hout]
  dsimp only
  rw [hx μ a hK, Sem.run_bind, hf]
  rfl
/-- make([]T, n). -/
theorem cert_makes (b : Nat) (hk : it.kind = .make b) (e : Bl) (hb : bl[b]? = some e) (T E : TypeId) (t1 t2 : Tmp) (n : Nat) (hout : it.out = .s b n n) (ho : o.op = .makeSlice T (.tmp t1) (.tmp t2))
    (h1 : ∀ (μ : Nat → Nat) (a : Act), Known ops i its olds it.need μ a → a.eval (.tmp t1) = .int .i64 (n : Int)) (h2 : ∀ (μ : Nat → Nat) (a : Act), Known ops i its olds it.need μ a → a.eval (.tmp t2) = .int .i64 (n : Int))
    (hz : ∀ w : World, (Instr.makeSlice T (.int .i64 (n : Int)) (.int .i64 (n : Int))).run P w = .ok (.slice (some ⟨w.heap.size, 0, none⟩) n n) (w.alloc (.cells e.before.toArray E))) : Cert P Q w0 k0 X ops i its bl olds o it := by
  refine cert_make b hk e hb E fun μ a w hK _ => ?_
  have hm : it.out.at (upd μ b w.heap.size) = .slice (some ⟨w.heap.size, 0, none⟩) n n := by
    rw [hout]
    show Value.slice (some ⟨upd μ b w.heap.size b, 0, none⟩) n n = _
    unfold upd
    rw [if_pos rfl]
  unfold execOp
  rw [ho]
  dsimp only
  rw [h1 μ a hK, h2 μ a hK, hm, Sem.run_bind, hz]
  rfl
/-- An operation on one slot: len of a slice. -/
theorem cert_one (hk : it.kind = .stay) (t : Tmp) (s : SV) (v : Value) (hout : it.out = .v v) (hx : ∀ (μ : Nat → Nat) (a : Act), Known ops i its olds it.need μ a → a.eval (.tmp t) = s.at μ)
    (hE : ∀ (a : Act) (w : World), (execOp a.eval o).run P w = (execOp (fun _ => a.eval (.tmp t)) o).run P w) (hV : ∀ (μ : Nat → Nat) (w : World), (execOp (fun _ => s.at μ) o).run P w = .ok (.value v) w) : Cert P Q w0 k0 X ops i its bl olds o it := by
  refine cert_stay hk fun μ a w hK _ => ?_
  rw [hE, hx μ a hK, hV, hout]
  rfl
/-- A call that reads one of the blocks. -/
theorem cert_callM (hk : it.kind = .call) (b : Nat) (e : Bl) (hb : bl[b]? = some e) (hal : e.al = none) (hst : readB ops i e = true) (he : e.before ≠ []) (f : FuncId) (args : (Nat → Nat) → Array Value) (v : Value) (hout : it.out = .v v) (hrun : ∀ (μ : Nat → Nat) (a : Act) (w : World), Known ops i its olds it.need μ a → (execOp a.eval o).run P w = .ok (.enter f (args μ)) w)
    (hc : ∀ (μ : Nat → Nat) (w : World), μ b < w.heap.size → w.rangeAt (μ b) 0 e.before → Calls P f (args μ) w (Ret fun r w' => Below w.heap.size w w' ∧ r = v)) : Cert P Q w0 k0 X ops i its bl olds o it := by
  intro μ a w K hK hR _
  rw [hk]
  intro h
  rw [hout] at h
  have hr := hR b e hb (Or.inl hal) hst
  have hlt : μ b < w.heap.size := by
    cases hee : e.before with
    | nil => exact absurd hee he
    | cons x r =>
      have h1 := hr 0 x (by rw [hee]; rfl)
      exact Classical.byContradiction fun hn => by
        have h2 : w.heap[μ b]? = none := Array.getElem?_eq_none (by omega)
        simp [World.cell?, h2] at h1
  unfold Oper.wp
  rw [hrun μ a w hK, Oper.upon_enter]
  refine (hc μ w hlt hr).mono ?_
  rintro r w' ⟨v', rfl, hb', rfl⟩
  exact h w' hb'
theorem range_sub {k o : Nat} {C cs : List Value} (h : w.rangeAt k 0 C) (hs : ∀ j, j < cs.length → C[o + j]? = cs[j]?) : w.rangeAt k o cs := fun j v hv => by
  have hj : j < cs.length := (List.getElem?_eq_some_iff.1 hv).1
  have := h (o + j) v (by rw [hs j hj]; exact hv)
  rwa [Nat.zero_add] at this
theorem cert_idx (hk : it.kind = .stay) (T : TypeId) (t u : Tmp) (ho : o.op = .indexAddr T (.tmp t) (.tmp u)) (s : SV) (iv : Value) (hx : ∀ (μ : Nat → Nat) (a : Act), Known ops i its olds it.need μ a → a.eval (.tmp t) = s.at μ) (hy : ∀ (μ : Nat → Nat) (a : Act), Known ops i its olds it.need μ a → a.eval (.tmp u) = iv)
    (hf : ∀ (μ : Nat → Nat) (w : World), (Instr.indexAt T (s.at μ) iv).run P w = .ok (it.out.at μ) w) : Cert P Q w0 k0 X ops i its bl olds o it := by
  refine cert_stay hk fun μ a w hK _ => ?_
  unfold execOp
  rw [ho]
  dsimp only
  rw [hx μ a hK, hy μ a hK, Sem.run_bind, hf]
  rfl
theorem cert_idxc (hk : it.kind = .stay) (T : TypeId) (t : Tmp) (iv : Value) (ho : o.op = .indexAddr T (.tmp t) (.const iv)) (s : SV) (hx : ∀ (μ : Nat → Nat) (a : Act), Known ops i its olds it.need μ a → a.eval (.tmp t) = s.at μ)
    (hf : ∀ (μ : Nat → Nat) (w : World), (Instr.indexAt T (s.at μ) iv).run P w = .ok (it.out.at μ) w) : Cert P Q w0 k0 X ops i its bl olds o it := by
  refine cert_stay hk fun μ a w hK _ => ?_
  unfold execOp
  rw [ho]
  dsimp only
  rw [hx μ a hK]
  show ((Instr.indexAt T (s.at μ) iv) >>= fun v => pure (Next.value v)).run P w = _
  rw [Sem.run_bind, hf]
  rfl
theorem cert_binc (hk : it.kind = .stay) (op : BinOp) (T T' : TypeId) (t1 : Tmp) (v1 v2 v : Value) (ho : o.op = .binOp op T (.tmp t1) (.const v2) T') (hout : it.out = .v v)
    (h1 : ∀ (μ : Nat → Nat) (a : Act), Known ops i its olds it.need μ a → a.eval (.tmp t1) = v1)
    (hg : ∀ w, (eqGuard op T (.tmp t1) (.const v2) v1 v2).run P w = .ok () w) (hb : ∀ w, (binOp op T v1 v2).run P w = .ok v w) : Cert P Q w0 k0 X ops i its bl olds o it := by
  refine cert_stay hk fun μ a w hK _ => ?_
  unfold execOp
  rw [ho, hout]
  dsimp only
  rw [h1 μ a hK]
  show (((eqGuard op T (.tmp t1) (.const v2) v1 v2) >>= fun _ => binOp op T v1 v2) >>= fun v => pure (Next.value v)).run P w = _
  rw [Sem.run_bind, Sem.run_bind, hg]
  dsimp only [Result.andThen]
  rw [hb]
  rfl
theorem cert_conv (hk : it.kind = .stay) (S T : TypeId) (t : Tmp) (v v' : Value) (ho : o.op = .convert S T (.tmp t)) (hout : it.out = .v v') (hx : ∀ (μ : Nat → Nat) (a : Act), Known ops i its olds it.need μ a → a.eval (.tmp t) = v) (hc : ∀ w, (convert S T v).run P w = .ok v' w) : Cert P Q w0 k0 X ops i its bl olds o it := by
  refine cert_stay hk fun μ a w hK _ => ?_
  unfold execOp
  rw [ho, hout]
  dsimp only
  rw [hx μ a hK, Sem.run_bind, hc]
  rfl
theorem cert_un (hk : it.kind = .stay) (op : UnOp) (T : TypeId) (t : Tmp) (v v' : Value) (ho : o.op = .unOp op T (.tmp t)) (hout : it.out = .v v') (hx : ∀ (μ : Nat → Nat) (a : Act), Known ops i its olds it.need μ a → a.eval (.tmp t) = v) (hc : ∀ w, (Op.unary op v).run P w = .ok v' w) : Cert P Q w0 k0 X ops i its bl olds o it := by
  refine cert_stay hk fun μ a w hK _ => ?_
  unfold execOp
  rw [ho, hout]
  dsimp only
  rw [hx μ a hK, Sem.run_bind, hc]
  rfl
/-- A load of memory that was there before the call. -/
theorem cert_loadB (hk : it.kind = .stay) (k off : Nat) (hk0 : k < k0) (hX : k ∉ X) (T : TypeId) (t : Tmp) (ho : o.op = .load T (.tmp t)) (cs : List Value) (hout : it.out = .v (.agg cs.toArray))
    (hx : ∀ (μ : Nat → Nat) (a : Act), Known ops i its olds it.need μ a → a.eval (.tmp t) = .pointer (some ⟨k, off, none⟩)) (hr : w0.rangeAt k off cs)
    (hu : (P.underlying T).map (·.isRow) = some true) (hi : (P.info? T).map (·.size) = some cs.length) : Cert P Q w0 k0 X ops i its bl olds o it := by
  intro μ a w K hK _ hb
  rw [hk]
  intro h
  rw [hout] at h
  obtain ⟨d, hu, hd⟩ := Option.map_eq_some_iff.1 hu
  refine wp_load_mid T (.tmp t) ho k off (hx μ a hK) cs d (fun j v hj => ?_) hu hd hi h
  rw [World.cell?_of_block (w := w0) (a := ⟨k, off + j, none⟩) (hb.block k hk0 hX)]
  exact hr j v hj
theorem run_load1 {T : TypeId} {k off : Nat} {v : Value} (hc : w.cell? ⟨k, off, none⟩ = some v) (hu : (P.underlying T).map (·.isRow) = some false) : (Instr.loadAt T (.pointer (some ⟨k, off, none⟩))).run P w = .ok v w := by
  obtain ⟨d, hu, hd⟩ := Option.map_eq_some_iff.1 hu
  have hagg : (isAgg T).run P w = .ok false w := by
    unfold isAgg
    rw [Sem.run_bind, run_underlying hu w]
    cases d <;> simp_all
  simp [Instr.loadAt, Instr.sureAddr, loadVar, Sem.run_bind, hagg, hc]
theorem cert_load1 (hk : it.kind = .stay) (b off : Nat) (e : Bl) (hb : bl[b]? = some e) (hal : e.al = none) (hst : readB ops i e = true) (T : TypeId) (t : Tmp) (ho : o.op = .load T (.tmp t)) (v : Value) (hout : it.out = .v v)
    (hx : ∀ (μ : Nat → Nat) (a : Act), Known ops i its olds it.need μ a → a.eval (.tmp t) = (SV.p b off).at μ) (hsub : e.before[off]? = some v)
    (hu : (P.underlying T).map (·.isRow) = some false) : Cert P Q w0 k0 X ops i its bl olds o it := by
  intro μ a w K hK hR _
  rw [hk]
  intro h
  rw [hout] at h
  have h1 := hR b e hb (Or.inl hal) hst off v hsub
  rw [Nat.zero_add] at h1
  unfold Oper.wp execOp
  rw [ho]
  dsimp only
  rw [hx μ a hK]
  show o.upon P a K Q (((Instr.loadAt T (.pointer (some ⟨μ b, off, none⟩))) >>= fun v => pure (Next.value v)).run P w)
  rw [Sem.run_bind, run_load1 h1 hu]
  exact h
theorem run_store1 {T : TypeId} {k off : Nat} {v u : Value} (hc : w.cell? ⟨k, off, none⟩ = some u) (hf : w.frozen? ⟨k, off, none⟩ = false) (h1 : v.oneCell' = true) (hv : v.cells = #[v]) (hi : (P.info? T).map (·.size) = some 1) : (Instr.storeAt T (.pointer (some ⟨k, off, none⟩)) v).run P w = .ok () (w.setCells k off [v]) := by
  have := run_storeCells_cells (P := P) k off [v] 0 w (fun j hj => by
      obtain rfl : j = 0 := by simpa using hj
      simp [hc]) (fun j hj => by
      obtain rfl : j = 0 := by simpa using hj
      simpa using hf) (fun x hx => by
      obtain rfl : x = v := by simpa using hx
      exact h1)
  cases hq : P.info? T with
  | none => simp [hq] at hi
  | some inf =>
    have hs : inf.size = 1 := by simp [hq] at hi; omega
    simp only [Nat.add_zero] at this
    simp [Instr.storeAt, Instr.sureAddr, storeVar, sizeOf, typeInfo, hq, hv, hs, this]
/-- A store of one cell. -/
theorem cert_put1 (b off : Nat) (hk : it.kind = .put b) (e : Bl) (hb : bl[b]? = some e) (T : TypeId) (x y : Operand) (v : Value) (ho : o.op = .store T x y) (hdn : o.dst = none)
    (hx : ∀ (μ : Nat → Nat) (a : Act), Known ops i its olds it.need μ a → a.eval x = (SV.p b off).at μ) (hy : ∀ (μ : Nat → Nat) (a : Act), Known ops i its olds it.need μ a → a.eval y = v) (hoff : off < e.before.length) (hset : e.after = e.before.set off v)
    (hi : (P.info? T).map (·.size) = some 1) (h1 : v.oneCell' = true) (hv : v.cells = #[v]) : Cert P Q w0 k0 X ops i its bl olds o it := by
  intro μ a w K hK _ _
  rw [hk]
  intro e' hb' ht hr h
  rw [hb] at hb'
  obtain rfl : e = e' := Option.some.inj hb'
  have hPT : PutTo (μ b) e.before.length e.after w (w.setCells (μ b) off [v]) := PutTo.store ht hr (by simp only [List.length_cons, List.length_nil]; omega) (fun j => by
    rw [hset, List.getElem?_set]
    by_cases hj : off = j
    · subst hj
      rw [if_pos rfl, if_pos hoff, if_pos (by simp)]
      simp
    · rw [if_neg hj, if_neg (by simp only [List.length_cons, List.length_nil]; omega)])
  have ht' := ht off hoff
  rw [Nat.zero_add] at ht'
  obtain ⟨u, hu⟩ := Option.isSome_iff_exists.1 ht'.1
  unfold Oper.wp execOp
  rw [ho]
  dsimp only
  rw [hx μ a hK, hy μ a hK]
  show o.upon P a K Q (((Instr.storeAt T (.pointer (some ⟨μ b, off, none⟩)) v) >>= fun _ => pure Next.skip).run P w)
  rw [Sem.run_bind, run_store1 hu ht'.2 h1 hv hi]
  have := h _ hPT
  rw [hdn] at this
  show K (a.put o.dst undef) _
  rw [hdn]
  exact this
/-- A store of a row of cells into a part of a block. -/
theorem cert_putAt (b off : Nat) (hk : it.kind = .put b) (e : Bl) (hb : bl[b]? = some e) (T : TypeId) (x y : Operand) (vs : List Value) (ho : o.op = .store T x y) (hdn : o.dst = none)
    (hx : ∀ (μ : Nat → Nat) (a : Act), Known ops i its olds it.need μ a → a.eval x = (SV.p b off).at μ) (hy : ∀ (μ : Nat → Nat) (a : Act), Known ops i its olds it.need μ a → a.eval y = .agg vs.toArray) (hoff : off + vs.length ≤ e.before.length)
    (hset : ∀ j, e.after[j]? = if off ≤ j ∧ j < off + vs.length then vs[j - off]? else e.before[j]?)
    (hi : (P.info? T).map (·.size) = some vs.length) (h1 : vs.all (·.oneCell') = true) : Cert P Q w0 k0 X ops i its bl olds o it := by
  intro μ a w K hK _ _
  rw [hk]
  intro e' hb' ht hr h
  rw [hb] at hb'
  obtain rfl : e = e' := Option.some.inj hb'
  have hPT := PutTo.store ht hr hoff hset
  refine wp_store_mid T x y ho (μ b) off vs.toArray (hx μ a hK) (hy μ a hK) ?_ ?_ ?_ ?_
  · intro j hj
    have := ht (off + j) (by rw [List.size_toArray] at hj; omega)
    rwa [Nat.zero_add] at this
  · rw [List.size_toArray]; exact hi
  · exact all_oneCell_toArray (fun v hv => List.all_eq_true.1 h1 v hv)
  · have := h _ hPT
    rw [hdn] at this ⊢
    exact this
/-- A call that writes into a block. -/
theorem cert_callput (b : Nat) (hk : it.kind = .put b) (e : Bl) (hb : bl[b]? = some e) (f : FuncId) (args : (Nat → Nat) → Array Value) (v : Value) (hout : it.out = .v v) (hrun : ∀ (μ : Nat → Nat) (a : Act) (w : World), Known ops i its olds it.need μ a → BelX k0 X w0 w → (execOp a.eval o).run P w = .ok (.enter f (args μ)) w)
    (hc : ∀ (μ : Nat → Nat) (w : World), BelX k0 X w0 w → w.there (μ b) 0 e.before.length → w.rangeAt (μ b) 0 e.before → Calls P f (args μ) w (Ret fun r w' => PutTo (μ b) e.before.length e.after w w' ∧ r = v)) : Cert P Q w0 k0 X ops i its bl olds o it := by
  intro μ a w K hK _ hbel
  rw [hk]
  intro e' hb' ht hr h
  rw [hb] at hb'
  obtain rfl : e = e' := Option.some.inj hb'
  rw [hout] at h
  unfold Oper.wp
  rw [hrun μ a w hK hbel, Oper.upon_enter]
  refine (hc μ w hbel ht hr).mono ?_
  rintro r w' ⟨v', rfl, hp, rfl⟩
  exact h w' hp
theorem St.lent {k : Nat} {C : List Value} (hk : k < w.heap.size) (hr : w.rangeAt k 0 C) (ht : w.there k 0 C.length) : St w w.heap.size [k] [C] [k] w := by
  refine ⟨BelX.refl _ _ _, Nat.le_refl _, rfl, fun b c h => ?_, fun b c hb hc hne => ?_⟩
  · cases b with
    | zero =>
      obtain rfl : C = c := by simpa using h
      exact ⟨hr, ht, hk, Or.inr List.mem_cons_self⟩
    | succ b => simp at h
  · simp only [List.length_cons, List.length_nil] at hb hc
    omega
theorem St.putTo {k : Nat} {C : List Value} {cs : List (List Value)} {ks : List Nat} {n : Nat} (h : St w0 w0.heap.size [k] (C :: cs) (k :: ks) w) (hn : C.length = n) : PutTo k n C w0 w := by
  obtain ⟨h1, h2, -, -⟩ := h.has 0 C rfl
  refine ⟨h.bel.os, h.bel.tape, h.bel.output, h.bel.size, fun j hj hne => h.bel.block j hj (by simpa using hne), h1, ?_⟩
  rw [← hn]
  exact h2
def endB1 (its : List It) (bl : List Bl) : Bool :=
  bl.all (fun e => (match e.al with | none => true | some j => decide (j < its.length)) && (match e.st with | none => true | some j => decide (j < its.length)))
theorem endB1_st (h : endB1 its bl = true) : ∀ e ∈ bl, ∀ j, e.al = some j ∨ e.st = some j → j < its.length := by
  intro e he j hj
  have := List.all_eq_true.1 h e he
  simp only [Bool.and_eq_true] at this
  rcases hj with hj | hj
  · rw [hj] at this; simpa using this.1
  · rw [hj] at this; simpa using this.2
/-- Some cells of a list, replaced. -/
def rep (C : List Value) (o : Nat) (vs : List Value) : List Value := C.take o ++ (vs ++ C.drop (o + vs.length))
theorem rep_length {C vs : List Value} {o : Nat} (h : o + vs.length ≤ C.length) : (rep C o vs).length = C.length := by
  unfold rep
  rw [List.length_append, List.length_append, List.length_take, List.length_drop]
  omega
theorem rep_at {C vs : List Value} {o : Nat} (h : o + vs.length ≤ C.length) (j : Nat) : (rep C o vs)[j]? = if o ≤ j ∧ j < o + vs.length then vs[j - o]? else C[j]? := by
  unfold rep
  have hl : (C.take o).length = o := by rw [List.length_take]; omega
  by_cases h1 : j < o
  · rw [List.getElem?_append_left (by rw [hl]; exact h1), List.getElem?_take, if_pos h1, if_neg (by omega)]
  · rw [List.getElem?_append_right (by rw [hl]; omega), hl]
    by_cases h2 : j < o + vs.length
    · rw [List.getElem?_append_left (by omega), if_pos ⟨by omega, h2⟩]
    · rw [List.getElem?_append_right (by omega), if_neg (by omega), List.getElem?_drop]
      congr 1
      omega
theorem sub_of {C cs : List Value} {o : Nat} (h : ∀ j, j < cs.length → C[o + j]? = cs[j]?) (hl : o + cs.length ≤ C.length) : (C.drop o).take cs.length = cs := by
  apply List.ext_getElem?
  intro j
  by_cases hj : j < cs.length
  · rw [List.getElem?_take, if_pos hj, List.getElem?_drop, h j hj]
  · rw [List.getElem?_eq_none (by rw [List.length_take, List.length_drop]; omega), List.getElem?_eq_none (by omega)]
theorem cert_callput3 (b : Nat) (hk : it.kind = .put b) (e : Bl) (hb : bl[b]? = some e) (f : FuncId) (t1 t2 t3 : Tmp) (s1 : SV) (v2 v3 v : Value) (hout : it.out = .v v) (hrun : ∀ (a : Act) (w : World), (execOp a.eval o).run P w = .ok (.enter f #[a.eval (.tmp t1), a.eval (.tmp t2), a.eval (.tmp t3)]) w)
    (h1 : ∀ (μ : Nat → Nat) (a : Act), Known ops i its olds it.need μ a → a.eval (.tmp t1) = s1.at μ) (h2 : ∀ (μ : Nat → Nat) (a : Act), Known ops i its olds it.need μ a → a.eval (.tmp t2) = v2) (h3 : ∀ (μ : Nat → Nat) (a : Act), Known ops i its olds it.need μ a → a.eval (.tmp t3) = v3)
    (hc : ∀ (μ : Nat → Nat) (w : World), w.there (μ b) 0 e.before.length → w.rangeAt (μ b) 0 e.before → Calls P f #[s1.at μ, v2, v3] w (Ret fun r w' => PutTo (μ b) e.before.length e.after w w' ∧ r = v)) : Cert P Q w0 k0 X ops i its bl olds o it :=
  cert_callput b hk e hb f (fun μ => #[s1.at μ, v2, v3]) v hout (fun μ a w hK _ => by rw [hrun, h1 μ a hK, h2 μ a hK, h3 μ a hK]) (fun μ w _ ht hr => hc μ w ht hr)
theorem cert_callM2 (hk : it.kind = .call) (b : Nat) (e : Bl) (hb : bl[b]? = some e) (hal : e.al = none) (hst : readB ops i e = true) (he : e.before ≠ []) (f : FuncId) (t1 t2 : Tmp) (s1 : SV) (v2 v : Value) (hout : it.out = .v v) (hrun : ∀ (a : Act) (w : World), (execOp a.eval o).run P w = .ok (.enter f #[a.eval (.tmp t1), a.eval (.tmp t2)]) w)
    (h1 : ∀ (μ : Nat → Nat) (a : Act), Known ops i its olds it.need μ a → a.eval (.tmp t1) = s1.at μ) (h2 : ∀ (μ : Nat → Nat) (a : Act), Known ops i its olds it.need μ a → a.eval (.tmp t2) = v2)
    (hc : ∀ (μ : Nat → Nat) (w : World), μ b < w.heap.size → w.rangeAt (μ b) 0 e.before → Calls P f #[s1.at μ, v2] w (Ret fun r w' => Below w.heap.size w w' ∧ r = v)) : Cert P Q w0 k0 X ops i its bl olds o it :=
  cert_callM hk b e hb hal hst he f (fun μ => #[s1.at μ, v2]) v hout (fun μ a w hK => by rw [hrun, h1 μ a hK, h2 μ a hK]) hc
end Go.Proofs.YtmepmoalhgehhaaGreatDoor.RG
set_option linter.unusedVariables false
set_option linter.unusedSimpArgs false
namespace Go.Proofs.YtmepmoalhgehhaaGreatDoor.RG
open Go Go.RowKit
variable {P : Program} {ops : Array Oper} {Q : Exit → Act → World → Prop} {w0 w : World} {k0 : Nat} {X : List Nat} {its : List It} {bl : List Bl} {olds : List (Tmp × SV)} {a : Act} {i : Nat} {o : Oper} {it : It}
theorem cert_slice1 (hk : it.kind = .stay) (T : TypeId) (t : Tmp) (lo v v' : Value) (ho : o.op = .slice T (.tmp t) (some (.const lo)) none none) (hout : it.out = .v v') (hx : ∀ (μ : Nat → Nat) (a : Act), Known ops i its olds it.need μ a → a.eval (.tmp t) = v)
    (hf : ∀ w : World, (Instr.sliceAt T v (some lo) none none).run P w = .ok v' w) : Cert P Q w0 k0 X ops i its bl olds o it := by
  refine cert_stay hk fun μ a w hK _ => ?_
  unfold execOp
  rw [ho, hout]
  dsimp only
  rw [hx μ a hK]
  show ((Instr.sliceAt T v (some lo) none none) >>= fun v => pure (Next.value v)).run P w = _
  rw [Sem.run_bind, hf]
  rfl
theorem cert_s2a (hk : it.kind = .stay) (T : TypeId) (t : Tmp) (v v' : Value) (ho : o.op = .sliceToArrayPointer T (.tmp t)) (hout : it.out = .v v') (hx : ∀ (μ : Nat → Nat) (a : Act), Known ops i its olds it.need μ a → a.eval (.tmp t) = v)
    (hf : ∀ w : World, (Instr.arrayAt T v).run P w = .ok v' w) : Cert P Q w0 k0 X ops i its bl olds o it := by
  refine cert_stay hk fun μ a w hK _ => ?_
  unfold execOp
  rw [ho, hout]
  dsimp only
  rw [hx μ a hK, Sem.run_bind, hf]
  rfl
/-- A load of one cell that was there before the call. -/
theorem cert_load1B (hk : it.kind = .stay) (k off : Nat) (hk0 : k < k0) (hX : k ∉ X) (T : TypeId) (t : Tmp) (ho : o.op = .load T (.tmp t)) (v : Value) (hout : it.out = .v v)
    (hx : ∀ (μ : Nat → Nat) (a : Act), Known ops i its olds it.need μ a → a.eval (.tmp t) = .pointer (some ⟨k, off, none⟩)) (hr : w0.cell? ⟨k, off, none⟩ = some v)
    (hu : (P.underlying T).map (·.isRow) = some false) : Cert P Q w0 k0 X ops i its bl olds o it := by
  refine cert_stay hk fun μ a w hK hb => ?_
  have h1 : w.cell? ⟨k, off, none⟩ = some v := by
    rw [World.cell?_of_block (w := w0) (a := ⟨k, off, none⟩) (hb.block k hk0 hX)]
    exact hr
  unfold execOp
  rw [ho, hout]
  dsimp only
  rw [hx μ a hK, Sem.run_bind, run_load1 h1 hu]
  rfl
/-- A call of two slots, that may look at what was there before. -/
theorem cert_callB2 (hk : it.kind = .call) (f : FuncId) (t1 t2 : Tmp) (v1 v2 v : Value) (hout : it.out = .v v) (hrun : ∀ (a : Act) (w : World), (execOp a.eval o).run P w = .ok (.enter f #[a.eval (.tmp t1), a.eval (.tmp t2)]) w)
    (h1 : ∀ (μ : Nat → Nat) (a : Act), Known ops i its olds it.need μ a → a.eval (.tmp t1) = v1) (h2 : ∀ (μ : Nat → Nat) (a : Act), Known ops i its olds it.need μ a → a.eval (.tmp t2) = v2)
    (hc : ∀ w, BelX k0 X w0 w → Calls P f #[v1, v2] w (Ret fun e w' => Below w.heap.size w w' ∧ e = v)) : Cert P Q w0 k0 X ops i its bl olds o it :=
  cert_call hk f #[v1, v2] v hout (fun μ a w hK _ => by rw [hrun, h1 μ a hK, h2 μ a hK]) hc
theorem cert_callB1 (hk : it.kind = .call) (f : FuncId) (t1 : Tmp) (v1 v : Value) (hout : it.out = .v v) (hrun : ∀ (a : Act) (w : World), (execOp a.eval o).run P w = .ok (.enter f #[a.eval (.tmp t1)]) w)
    (h1 : ∀ (μ : Nat → Nat) (a : Act), Known ops i its olds it.need μ a → a.eval (.tmp t1) = v1)
    (hc : ∀ w, BelX k0 X w0 w → Calls P f #[v1] w (Ret fun e w' => Below w.heap.size w w' ∧ e = v)) : Cert P Q w0 k0 X ops i its bl olds o it :=
  cert_call hk f #[v1] v hout (fun μ a w hK _ => by rw [hrun, h1 μ a hK]) hc
theorem St.init {cs : List (List Value)} {c : List Value} {ks : List Nat} {k : Nat} (h : St w0 k0 X (cs ++ [c]) (ks ++ [k]) w) : St w0 k0 X cs ks w := by
  have hl : ks.length = cs.length := by have := h.len; simp only [List.length_append, List.length_cons, List.length_nil] at this; omega
  have had : ∀ b, b < cs.length → ad (ks ++ [k]) b = ad ks b := fun b hb => by
    unfold ad
    rw [List.getD_eq_getElem?_getD, List.getD_eq_getElem?_getD, List.getElem?_append_left (by omega)]
  refine ⟨h.bel, h.le, hl, fun b c' hb => ?_, fun b c' hb hc hne => ?_⟩
  · have hlt := (List.getElem?_eq_some_iff.1 hb).1
    have := h.has b c' (by rw [List.getElem?_append_left hlt]; exact hb)
    rwa [had b hlt] at this
  · have := h.inj b c' (by rw [List.length_append]; omega) (by rw [List.length_append]; omega) hne
    rwa [had b hb, had c' hc] at this
theorem results_tt {fn : Func} {a : Act} (t u : Tmp) (hr : fn.results = #[.tmp t, .tmp u]) (v v' : Value) (ht : a.tmps[t]? = some v) (hu : a.tmps[u]? = some v') : (results fn a.tmps).run P w = .ok (.tuple #[v, v']) w := by
  have h2 : a.tmps.getD t undef = v := by rw [Array.getD_eq_getD_getElem?, ht]; rfl
  have h3 : a.tmps.getD u undef = v' := by rw [Array.getD_eq_getD_getElem?, hu]; rfl
  unfold results
  rw [hr]
  simp only [Array.mapM_eq_mapM_toList, List.mapM_cons, List.mapM_nil, h2, h3]
  simp [Sem.run_bind]
end Go.Proofs.YtmepmoalhgehhaaGreatDoor.RG
namespace Go.Proofs.YtmepmoalhgehhaaGreatDoor.RG
open Go Go.RowKit
variable {P : Program} {ops : Array Oper} {Q : Exit → Act → World → Prop} {w0 w : World} {k0 : Nat} {X : List Nat} {its : List It} {bl : List Bl} {olds : List (Tmp × SV)} {a : Act} {i : Nat} {o : Oper} {it : It}
theorem cert_index (hk : it.kind = .stay) (T : TypeId) (t : Tmp) (lo v v' : Value) (ho : o.op = .index T (.tmp t) (.const lo)) (hout : it.out = .v v') (hx : ∀ (μ : Nat → Nat) (a : Act), Known ops i its olds it.need μ a → a.eval (.tmp t) = v)
    (hf : ∀ w : World, (Instr.index T v lo).run P w = .ok v' w) : Cert P Q w0 k0 X ops i its bl olds o it := by
  refine cert_stay hk fun μ a w hK _ => ?_
  unfold execOp
  rw [ho, hout]
  dsimp only
  rw [hx μ a hK]
  show ((Instr.index T v lo) >>= fun v => pure (Next.value v)).run P w = _
  rw [Sem.run_bind, hf]
  rfl
/-- A slice of one, built out of one value. -/
theorem cert_bs1 (b : Nat) (hk : it.kind = .make b) (e : Bl) (hb : bl[b]? = some e) (T E : TypeId) (t : Tmp) (v : Value) (hout : it.out = .s b 1 1) (ho : o.op = .buildSlice T 1 #[(0, .tmp t)])
    (hx : ∀ (μ : Nat → Nat) (a : Act), Known ops i its olds it.need μ a → a.eval (.tmp t) = v)
    (hz : ∀ w : World, (Instr.buildSlice T 1 #[(0, v)]).run P w = .ok (.slice (some ⟨w.heap.size, 0, none⟩) 1 1) (w.alloc (.cells e.before.toArray E))) : Cert P Q w0 k0 X ops i its bl olds o it := by
  refine cert_make b hk e hb E fun μ a w hK _ => ?_
  have hm : it.out.at (upd μ b w.heap.size) = .slice (some ⟨w.heap.size, 0, none⟩) 1 1 := by
    rw [hout]
    show Value.slice (some ⟨upd μ b w.heap.size b, 0, none⟩) 1 1 = _
    unfold upd
    rw [if_pos rfl]
  unfold execOp
  rw [ho, hm]
  dsimp only
  rw [show Array.map (fun x : Nat × Operand => match x with | (i, x) => (i, a.eval x)) #[(0, Operand.tmp t)] = #[(0, v)] by rw [List.map_toArray]; simp only [List.map_cons, List.map_nil]; rw [hx μ a hK], Sem.run_bind, hz]
  rfl
/-- A text out of a block that was made in this region. -/
theorem cert_str (hk : it.kind = .stay) (b j : Nat) (e : Bl) (hb : bl[b]? = some e) (oo : Oper) (hoo : ops[i]? = some oo) (hal : e.al = some j) (hdep : depB oo j = true) (hst : readB ops i e = true) (S T : TypeId) (t : Tmp) (n : Nat) (v : Value) (ho : o.op = .convert S T (.tmp t)) (hout : it.out = .v v)
    (hx : ∀ (μ : Nat → Nat) (a : Act), Known ops i its olds it.need μ a → a.eval (.tmp t) = (SV.s b n n).at μ)
    (hf : ∀ (w : World) (k : Nat), w.rangeAt k 0 e.before → (convert S T (.slice (some ⟨k, 0, none⟩) n n)).run P w = .ok v w) : Cert P Q w0 k0 X ops i its bl olds o it := by
  intro μ a w K hK hR _
  rw [hk]
  intro h
  rw [hout] at h
  have h1 := hR b e hb (Or.inr ⟨oo, j, hoo, hal, hdep⟩) hst
  unfold Oper.wp execOp
  rw [ho]
  dsimp only
  rw [hx μ a hK]
  show Oper.upon P o a K Q (((convert S T (.slice (some ⟨μ b, 0, none⟩) n n)) >>= fun v => pure (Next.value v)).run P w)
  rw [Sem.run_bind, hf w (μ b) h1]
  exact h
theorem cert_cbin (hk : it.kind = .stay) (op : BinOp) (T T' : TypeId) (t1 : Tmp) (v1 v2 v : Value) (ho : o.op = .binOp op T (.const v1) (.tmp t1) T') (hout : it.out = .v v)
    (h1 : ∀ (μ : Nat → Nat) (a : Act), Known ops i its olds it.need μ a → a.eval (.tmp t1) = v2)
    (hg : ∀ w, (eqGuard op T (.const v1) (.tmp t1) v1 v2).run P w = .ok () w) (hb : ∀ w, (binOp op T v1 v2).run P w = .ok v w) : Cert P Q w0 k0 X ops i its bl olds o it := by
  refine cert_stay hk fun μ a w hK _ => ?_
  unfold execOp
  rw [ho, hout]
  dsimp only
  rw [h1 μ a hK]
  show (((eqGuard op T (.const v1) (.tmp t1) v1 v2) >>= fun _ => binOp op T v1 v2) >>= fun v => pure (Next.value v)).run P w = _
  rw [Sem.run_bind, Sem.run_bind, hg]
  dsimp only [Result.andThen]
  rw [hb]
  rfl
/-- Three slots are known, in the middle of a walk. -/
theorem mid3 {c : Code} {v0 v1 v2 : Value} {n : Nat} (t0 t1 t2 : Tmp) (h0 : a.tmps[t0]? = some v0) (h1 : a.tmps[t1]? = some v1) (h2 : a.tmps[t2]? = some v2) (hs : a.tmps.size = n) (hd : a.defers = [])
    (h : ∀ a, Sl a n → a.tmps[t0]? = some v0 → a.tmps[t1]? = some v1 → a.tmps[t2]? = some v2 → c.wp P Q a w) : c.wp P Q a w := h a ⟨hs, hd⟩ h0 h1 h2
/-- A block that was made just now. -/
theorem St.new (w : World) (C : List Value) (T : TypeId) : St w w.heap.size [] [C] [w.heap.size] (w.alloc (.cells C.toArray T)) := by
  refine ⟨⟨rfl, rfl, rfl, by rw [World.size_alloc]; omega, fun j hj _ => (below1 w _).block j hj⟩, by rw [World.size_alloc]; omega, rfl, fun b c h => ?_, fun b c hb hc hne => ?_⟩
  · cases b with
    | zero =>
      obtain rfl : C = c := by simpa using h
      refine ⟨fun j v hv => ?_, fun j hj => ?_, ?_, Or.inl (Nat.le_refl _)⟩
      · show (w.alloc _).cell? ⟨w.heap.size, 0 + j, none⟩ = some v
        rw [Nat.zero_add, World.cell?_alloc_new]
        simpa using hv
      · refine ⟨?_, World.frozen?_alloc_new _ _ _ _⟩
        show ((w.alloc _).cell? ⟨w.heap.size, 0 + j, none⟩).isSome = true
        rw [Nat.zero_add, World.cell?_alloc_new]
        simp [hj]
      · show w.heap.size < _
        rw [World.size_alloc]; omega
    | succ b => simp at h
  · simp only [List.length_cons, List.length_nil] at hb hc
    omega
theorem St.more {cs : List (List Value)} {ks : List Nat} {w' : World} (h : St w0 k0 X cs ks w) (hb : Below w.heap.size w w') : St w0 k0 X cs ks w' := by
  refine ⟨⟨hb.os.trans h.bel.os, hb.tape.trans h.bel.tape, hb.output.trans h.bel.output, Nat.le_trans h.bel.size hb.size, fun j hj hX => ?_⟩, Nat.le_trans h.le hb.size, h.len, fun b c hc => ?_, h.inj⟩
  · rw [hb.block j (Nat.lt_of_lt_of_le hj h.le)]
    exact h.bel.block j hj hX
  · obtain ⟨h1, h2, h3, h4⟩ := h.has b c hc
    exact ⟨range_below h1 hb h3, there_below h2 hb h3, Nat.lt_of_lt_of_le h3 hb.size, h4⟩
theorem St.store1 {C D : List Value} {k : Nat} (h : St w0 k0 X [C] [k] w) (T : TypeId) (hl : D.length = C.length) (hi : (P.info? T).map (·.size) = some D.length) (h1 : D.all (·.oneCell') = true) :
    ∃ w2, (storeCells ⟨k, 0, none⟩ D).run P w = .ok () w2 ∧ (storeVar T ⟨k, 0, none⟩ (.agg D.toArray)).run P w = .ok () w2 ∧ (Instr.storeAt T (.pointer (some ⟨k, 0, none⟩)) (.agg D.toArray)).run P w = .ok () w2 ∧ St w0 k0 X [D] [k] w2 := by
  have hh := h.has 0 C rfl
  rw [show ad [k] 0 = k from rfl] at hh
  obtain ⟨hr, ht, hlt, hor⟩ := hh
  have hPT := PutTo.whole ht hr hl
  have hv := run_storeVar_mid (P := P) w k 0 T D.toArray (by rw [List.size_toArray, hl]; exact ht) (by rw [List.size_toArray]; exact hi) (all_oneCell_toArray (fun v hv => List.all_eq_true.1 h1 v hv))
  have hc := run_storeCells_cells (P := P) k 0 D 0 w (fun j hj => by simpa using (ht j (by rw [← hl]; exact hj)).1) (fun j hj => by simpa using (ht j (by rw [← hl]; exact hj)).2) (fun v hv => List.all_eq_true.1 h1 v hv)
  refine ⟨_, hc, hv, ?_, ⟨⟨hPT.os.trans h.bel.os, hPT.tape.trans h.bel.tape, hPT.output.trans h.bel.output, Nat.le_trans h.bel.size hPT.size, fun j hj hX => ?_⟩, Nat.le_trans h.le hPT.size, rfl, fun b c hc => ?_, h.inj⟩⟩
  · simp only [Instr.storeAt, Instr.sureAddr, Sem.run_bind, Sem.run_pure, Result.andThen_ok, hv]
  · rw [← h.bel.block j hj hX]
    refine hPT.block j (Nat.lt_of_lt_of_le hj h.le) (fun e => ?_)
    rcases hor with h5 | h5
    · omega
    · exact hX (by rw [e]; exact h5)
  · cases b with
    | zero =>
      obtain rfl : D = c := by simpa using hc
      refine ⟨hPT.range, ?_, Nat.lt_of_lt_of_le hlt hPT.size, hor⟩
      have := hPT.there
      rw [← hl] at this
      exact this
    | succ b => simp at hc
/-- A row that lies in a block is read. -/
theorem read_row {k : Nat} {C : List Value} (T : TypeId) (h : w.rangeAt k 0 C) (hu : (P.underlying T).map (·.isRow) = some true) (hi : (P.info? T).map (·.size) = some C.length) :
    (loadVar T ⟨k, 0, none⟩).run P w = .ok (.agg C.toArray) w ∧ (Instr.loadAt T (.pointer (some ⟨k, 0, none⟩))).run P w = .ok (.agg C.toArray) w := by
  obtain ⟨d, hu, hd⟩ := Option.map_eq_some_iff.1 hu
  have h1 := run_loadVar_mid (P := P) w k 0 T C d h hu hd hi
  refine ⟨h1, ?_⟩
  simp only [Instr.loadAt, Instr.sureAddr, Sem.run_bind, Sem.run_pure, Result.andThen_ok, h1]
end Go.Proofs.YtmepmoalhgehhaaGreatDoor.RG
set_option linter.unusedVariables false
set_option linter.unusedSimpArgs false
namespace Go.Proofs.YtmepmoalhgehhaaGreatDoor.RG
open Go Go.RowKit
variable {P : Program} {ops : Array Oper} {Q : Exit → Act → World → Prop} {w0 w : World} {k0 n : Nat} {X : List Nat} {its : List It} {bl : List Bl} {os : List (Tmp × SV)} {a : Act} {i : Nat} {o : Oper} {it : It} {μ : Nat → Nat} {need : List (Tmp × Nat)}
/-- What a slot holds, where operation i looks at it. -/
def src (ops : Array Oper) (its : List It) (os : List (Tmp × SV)) (need : List (Tmp × Nat)) (i : Nat) (t : Tmp) : Option SV :=
  match need.find? (fun x => x.1 == t) with
  | some x => (its[x.2]?).map (·.out)
  | none => match os.find? (fun x => x.1 == t) with
    | some x => bif freeB ops its i t then some x.2 else none
    | none => none
theorem src_eval {t : Tmp} {s : SV} (h : src ops its os need i t = some s) (K : Known ops i its os need μ a) : a.eval (.tmp t) = s.at μ := by
  unfold src at h
  cases hn : need.find? (fun x => x.1 == t) with
  | some x =>
    rw [hn] at h
    dsimp only at h
    have h1 := List.mem_of_find?_eq_some hn
    have h2 : x.1 = t := by simpa using List.find?_some hn
    obtain ⟨jt, hj, rfl⟩ := Option.map_eq_some_iff.1 h
    exact K.op t x.2 (by rw [← h2]; exact h1) hj
  | none =>
    rw [hn] at h
    dsimp only at h
    cases ho : os.find? (fun x => x.1 == t) with
    | none => rw [ho] at h; cases h
    | some x =>
      rw [ho] at h
      dsimp only at h
      have h1 := List.mem_of_find?_eq_some ho
      have h2 : x.1 = t := by simpa using List.find?_some ho
      cases hf : freeB ops its i t with
      | false => rw [hf] at h; cases h
      | true =>
        rw [hf] at h
        obtain rfl : x.2 = s := Option.some.inj h
        exact K.old t x.2 (by rw [← h2]; exact h1) hf
theorem sx {t : Tmp} {f : (Nat → Nat) → Value} (h : ∀ μ : Nat → Nat, (src ops its os need i t).map (fun s => s.at μ) = some (f μ) := by intro _; kernel_rfl) : ∀ (μ : Nat → Nat) (a : Act), Known ops i its os need μ a → a.eval (.tmp t) = f μ := fun μ _ K => by
  obtain ⟨s, hs, he⟩ := Option.map_eq_some_iff.1 (h μ)
  rw [src_eval hs K]
  exact he
def ro (ops : Array Oper) (its : List It) (os : List (Tmp × SV)) (need : List (Tmp × Nat)) (i : Nat) (μ : Nat → Nat) : Operand → Value
  | .tmp t => match src ops its os need i t with | some s => s.at μ | none => undef
  | .const v => v
  | .global g => .pointer (some ⟨g, 0, none⟩)
  | .func f => .func (.func f) #[] #[]
def seen (ops : Array Oper) (its : List It) (os : List (Tmp × SV)) (need : List (Tmp × Nat)) (i : Nat) (o : Oper) : Bool :=
  (match o.op with | .select _ _ => false | _ => true) && o.op.operands.all (fun x => match x with | .tmp t => (src ops its os need i t).isSome | _ => true)
theorem exec_ro (h : seen ops its os need i o = true) (K : Known ops i its os need μ a) : execOp a.eval o = execOp (ro ops its os need i μ) o := by
  simp only [seen, Bool.and_eq_true] at h
  refine execOp_congr o (fun cs b he => ?_) (fun x hx => ?_)
  · rw [he] at h; exact absurd h.1 (by simp)
  · have h1 := Array.all_eq_true'.1 h.2 x hx
    cases x with
    | tmp t =>
      dsimp only at h1
      obtain ⟨s, hs⟩ := Option.isSome_iff_exists.1 h1
      rw [src_eval hs K]
      show _ = (match src ops its os need i t with | some s => s.at μ | none => undef)
      rw [hs]
    | const v => rfl
    | global g => rfl
    | func f => rfl
/-- An operation that the kernel runs. -/
theorem st (h : ∀ (μ : Nat → Nat) (w : World), ((seen ops its os it.need i o, it.kind), (execOp (ro ops its os it.need i μ) o).run P w) = ((true, Kind.stay), .ok (.value (it.out.at μ)) w) := by intro _ _; kernel_rfl) : Cert P Q w0 k0 X ops i its bl os o it := by
  intro μ a w K hK _ hbel
  have h0 := h μ w
  simp only [Prod.mk.injEq] at h0
  rw [h0.1.2]
  intro hK2
  unfold Oper.wp
  rw [exec_ro h0.1.1 hK, h0.2]
  exact hK2
theorem se {v v' : Value} (e : v' = v) (h : ∀ (μ : Nat → Nat) (w : World), ((seen ops its os it.need i o, it.kind, it.out), (execOp (ro ops its os it.need i μ) o).run P w) = ((true, Kind.stay, SV.v v), .ok (.value v') w) := by intro _ _; kernel_rfl) : Cert P Q w0 k0 X ops i its bl os o it := by
  intro μ a w K hK _ hbel
  have h0 := h μ w
  simp only [Prod.mk.injEq] at h0
  rw [h0.1.2.1]
  intro hK2
  rw [h0.1.2.2] at hK2
  unfold Oper.wp
  rw [exec_ro h0.1.1 hK, h0.2, e]
  exact hK2
/-- A new block. -/
theorem mk (b : Nat) (T : TypeId) (h : ∀ (μ : Nat → Nat) (w : World), ((seen ops its os it.need i o, it.kind), (execOp (ro ops its os it.need i μ) o).run P w) = ((true, Kind.make b), .ok (.value (it.out.at (upd μ b w.heap.size))) (w.alloc (.cells (((bl[b]?).map (·.before)).getD []).toArray T))) := by intro _ _; kernel_rfl) : Cert P Q w0 k0 X ops i its bl os o it := by
  intro μ a w K hK _ hbel
  have h0 := h μ w
  simp only [Prod.mk.injEq] at h0
  rw [h0.1.2]
  intro e hb h2
  unfold Oper.wp
  rw [exec_ro h0.1.1 hK, h0.2, hb]
  exact h2 _ _ (Made.alloc w e.before T)
/-- A call. -/
theorem clB {f : FuncId} {args : Array Value} {v : Value} (h : ∀ (μ : Nat → Nat) (w : World), ((seen ops its os it.need i o, it.kind, it.out), (execOp (ro ops its os it.need i μ) o).run P w) = ((true, Kind.call, SV.v v), .ok (.enter f args) w))
    (hc : ∀ w, BelX k0 X w0 w → Calls P f args w (Ret fun e w' => Below w.heap.size w w' ∧ e = v)) : Cert P Q w0 k0 X ops i its bl os o it := by
  intro μ a w K hK _ hbel
  have h0 := h μ w
  simp only [Prod.mk.injEq] at h0
  rw [h0.1.2.1]
  intro hk
  rw [h0.1.2.2] at hk
  unfold Oper.wp
  rw [exec_ro h0.1.1 hK, h0.2, Oper.upon_enter]
  refine (hc w hbel).mono ?_
  rintro e w' ⟨v', rfl, hb, rfl⟩
  exact hk w' hb
theorem cl {f : FuncId} {args : Array Value} {v : Value} (hc : ∀ w, Calls P f args w (Ret fun e w' => Below w.heap.size w w' ∧ e = v)) (h : ∀ (μ : Nat → Nat) (w : World), ((seen ops its os it.need i o, it.kind, it.out), (execOp (ro ops its os it.need i μ) o).run P w) = ((true, Kind.call, SV.v v), .ok (.enter f args) w) := by intro _ _; kernel_rfl) : Cert P Q w0 k0 X ops i its bl os o it :=
  clB h (fun w _ => hc w)
/-- A call that answers new memory. -/
theorem cm (b : Nat) {f : FuncId} {args : Array Value} {c : List Value} (hc : ∀ w, BelX k0 X w0 w → Calls P f args w (Ret fun e w' => ∃ k, Made w k c w' ∧ e = it.out.at (fun _ => k)))
    (h : ∀ (μ : Nat → Nat) (w : World), ((seen ops its os it.need i o, it.kind, (bl[b]?).map (·.before), it.out.blk), (execOp (ro ops its os it.need i μ) o).run P w) = ((true, Kind.make b, some c, some b), .ok (.enter f args) w)) : Cert P Q w0 k0 X ops i its bl os o it := by
  intro μ a w K hK _ hbel
  have h0 := h μ w
  simp only [Prod.mk.injEq] at h0
  obtain ⟨⟨h1, h2, h3, h4⟩, h5⟩ := h0
  rw [h2]
  intro e hb hk
  rw [hb] at h3
  obtain rfl : e.before = c := Option.some.inj h3
  unfold Oper.wp
  rw [exec_ro h1 hK, h5, Oper.upon_enter]
  refine (hc w hbel).mono ?_
  rintro r w' ⟨v', rfl, k, hm, rfl⟩
  have he : it.out.at (upd μ b k) = it.out.at (fun _ => k) := SV.at_congr fun b' hb' => by
    rw [h4] at hb'
    obtain rfl := Option.some.inj hb'
    unfold upd
    rw [if_pos rfl]
  have := hk k w' hm
  rw [he] at this
  exact this
/-- Operation i may read block b. -/
def canRead (ops : Array Oper) (i : Nat) (o : Oper) (bl : List Bl) (b : Nat) : Bool := match bl[b]? with
  | some e => (match e.al with | none => true | some j => depB o j) && readB ops i e
  | none => false
def Seen (bl : List Bl) (bs : List Nat) (μ : Nat → Nat) (w : World) : Prop := ∀ b ∈ bs, ∀ e : Bl, bl[b]? = some e → e.before ≠ [] → w.rangeAt (μ b) 0 e.before ∧ μ b < w.heap.size
theorem seen_of {bs : List Nat} (ho : ops[i]? = some o) (h : bs.all (canRead ops i o bl) = true) (hR : Reads ops i bl μ w) : Seen bl bs μ w := fun b hb e he hne => by
  have h1 := List.all_eq_true.1 h b hb
  unfold canRead at h1
  rw [he] at h1
  dsimp only at h1
  rw [Bool.and_eq_true] at h1
  have hr := hR b e he (by
    cases ha : e.al with
    | none => exact Or.inl rfl
    | some j => rw [ha] at h1; exact Or.inr ⟨o, j, ho, rfl, h1.1⟩) h1.2
  refine ⟨hr, ?_⟩
  cases hee : e.before with
  | nil => exact absurd hee hne
  | cons x r =>
    have h2 := hr 0 x (by rw [hee]; rfl)
    exact Classical.byContradiction fun hn => by
      have h3 : w.heap[μ b]? = none := Array.getElem?_eq_none (by omega)
      simp [World.cell?, h3] at h2
/-- A call that looks at blocks. -/
theorem cr (bs : List Nat) {f : FuncId} {args : (Nat → Nat) → Array Value} {v : Value} (hc : ∀ (μ : Nat → Nat) (w : World), BelX k0 X w0 w → Seen bl bs μ w → Calls P f (args μ) w (Ret fun e w' => Below w.heap.size w w' ∧ e = v))
    (h : ∀ (μ : Nat → Nat) (w : World), ((seen ops its os it.need i o, it.kind, it.out, bs.all (canRead ops i o bl), ops[i]?), (execOp (ro ops its os it.need i μ) o).run P w) = ((true, Kind.call, SV.v v, true, some o), .ok (.enter f (args μ)) w)) : Cert P Q w0 k0 X ops i its bl os o it := by
  intro μ a w K hK hR hbel
  have h0 := h μ w
  simp only [Prod.mk.injEq] at h0
  obtain ⟨⟨h1, h2, h3, h4, h6⟩, h5⟩ := h0
  rw [h2]
  intro hk
  rw [h3] at hk
  unfold Oper.wp
  rw [exec_ro h1 hK, h5, Oper.upon_enter]
  refine (hc μ w hbel (seen_of h6 h4 hR)).mono ?_
  rintro e w' ⟨v', rfl, hb, rfl⟩
  exact hk w' hb
/-- A call that looks at blocks and answers new memory. -/
theorem crm (b : Nat) (bs : List Nat) {f : FuncId} {args : (Nat → Nat) → Array Value} {c : List Value} (hc : ∀ (μ : Nat → Nat) (w : World), BelX k0 X w0 w → Seen bl bs μ w → Calls P f (args μ) w (Ret fun e w' => ∃ k, Made w k c w' ∧ e = it.out.at (fun _ => k)))
    (h : ∀ (μ : Nat → Nat) (w : World), ((seen ops its os it.need i o, it.kind, (bl[b]?).map (·.before), it.out.blk, bs.all (canRead ops i o bl), ops[i]?), (execOp (ro ops its os it.need i μ) o).run P w) = ((true, Kind.make b, some c, some b, true, some o), .ok (.enter f (args μ)) w)) : Cert P Q w0 k0 X ops i its bl os o it := by
  intro μ a w K hK hR hbel
  have h0 := h μ w
  simp only [Prod.mk.injEq] at h0
  obtain ⟨⟨h1, h2, h3, h4, h6, h7⟩, h5⟩ := h0
  rw [h2]
  intro e hb hk
  rw [hb] at h3
  obtain rfl : e.before = c := Option.some.inj h3
  unfold Oper.wp
  rw [exec_ro h1 hK, h5, Oper.upon_enter]
  refine (hc μ w hbel (seen_of h7 h6 hR)).mono ?_
  rintro r w' ⟨v', rfl, k, hm, rfl⟩
  have he : it.out.at (upd μ b k) = it.out.at (fun _ => k) := SV.at_congr fun b' hb' => by
    rw [h4] at hb'
    obtain rfl := Option.some.inj hb'
    unfold upd
    rw [if_pos rfl]
  have := hk k w' hm
  rw [he] at this
  exact this
/-- What a load of a row of n cells gives. -/
def ldv (ops : Array Oper) (its : List It) (bl : List Bl) (os : List (Tmp × SV)) (i : Nat) (o : Oper) (it : It) (T : TypeId) (n : Nat) : Option SV :=
  match it.kind, o.op with
  | .stay, .load T' (.tmp t) => match src ops its os it.need i t with
    | some (.p b off) => match bl[b]? with
      | some e => bif T' == T && e.al.isNone && readB ops i e && (off + n).ble e.before.length then some (.v (.agg ((e.before.drop off).take n).toArray)) else none
      | none => none
    | _ => none
  | _, _ => none
theorem ld {T : TypeId} {n : Nat} (hu : (P.underlying T).map (·.isRow) = some true) (hi : (P.info? T).map (·.size) = some n) (h : ldv ops its bl os i o it T n = some it.out := by kernel_rfl) : Cert P Q w0 k0 X ops i its bl os o it := by
  unfold ldv at h
  split at h
  · rename_i T' t hk ho
    split at h
    · rename_i b off hs
      split at h
      · rename_i e hb
        cases hc : (T' == T && e.al.isNone && readB ops i e && (off + n).ble e.before.length) with
        | false => rw [hc] at h; cases h
        | true =>
          rw [hc] at h
          have h' : some (SV.v (.agg ((e.before.drop off).take n).toArray)) = some it.out := h
          simp only [Bool.and_eq_true, beq_iff_eq, Option.isNone_iff_eq_none, Nat.ble_eq] at hc
          obtain ⟨⟨⟨rfl, hal⟩, hr⟩, hle⟩ := hc
          have hlen : ((e.before.drop off).take n).length = n := by rw [List.length_take, List.length_drop]; omega
          refine cert_load hk b off e hb hal hr T' t ho ((e.before.drop off).take n) (Option.some.inj h').symm (fun _ _ K => src_eval hs K) ?_ hu (by rw [hlen]; exact hi)
          rw [hlen]
      · cases h
    · cases h
  · cases h
/-- What a load of one cell gives. -/
def ldw (ops : Array Oper) (its : List It) (bl : List Bl) (os : List (Tmp × SV)) (i : Nat) (o : Oper) (it : It) (T : TypeId) : Option SV :=
  match it.kind, o.op with
  | .stay, .load T' (.tmp t) => match src ops its os it.need i t with
    | some (.p b off) => match bl[b]? with
      | some e => bif T' == T && e.al.isNone && readB ops i e then (e.before[off]?).map .v else none
      | none => none
    | _ => none
  | _, _ => none
theorem ld1 {T : TypeId} (hu : (P.underlying T).map (·.isRow) = some false) (h : ldw ops its bl os i o it T = some it.out := by kernel_rfl) : Cert P Q w0 k0 X ops i its bl os o it := by
  unfold ldw at h
  split at h
  · rename_i T' t hk ho
    split at h
    · rename_i b off hs
      split at h
      · rename_i e hb
        cases hc : (T' == T && e.al.isNone && readB ops i e) with
        | false => rw [hc] at h; cases h
        | true =>
          rw [hc] at h
          have h' : (e.before[off]?).map SV.v = some it.out := h
          obtain ⟨v, hv, hvo⟩ := Option.map_eq_some_iff.1 h'
          simp only [Bool.and_eq_true, beq_iff_eq, Option.isNone_iff_eq_none] at hc
          obtain ⟨⟨rfl, hal⟩, hr⟩ := hc
          exact cert_load1 hk b off e hb hal hr T' t ho v hvo.symm (fun _ _ K => src_eval hs K) hv hu
      · cases h
    · cases h
  · cases h
/-- What lies in a block behind a store of n cells. -/
def ptv (ops : Array Oper) (its : List It) (bl : List Bl) (os : List (Tmp × SV)) (i : Nat) (o : Oper) (it : It) (T : TypeId) (n : Nat) : Option (List Value) :=
  match it.kind, o.op, o.dst with
  | .put b, .store T' (.tmp x) (.tmp y), none => match src ops its os it.need i x, src ops its os it.need i y with
    | some (.p b' off), some (.v (.agg vs)) => match bl[b]? with
      | some e => bif T' == T && b' == b && vs.size == n && (off + n).ble e.before.length && vs.toList.all (·.oneCell') then some (rep e.before off vs.toList) else none
      | none => none
    | _, _ => none
  | _, _, _ => none
theorem pt {T : TypeId} {n : Nat} (hi : (P.info? T).map (·.size) = some n) (h : ((ptv ops its bl os i o it T n).isSome, ptv ops its bl os i o it T n) = (true, match it.kind with | .put b => (bl[b]?).map (·.after) | _ => none) := by kernel_rfl) : Cert P Q w0 k0 X ops i its bl os o it := by
  simp only [Prod.mk.injEq] at h
  obtain ⟨hso, h⟩ := h
  rw [h] at hso
  unfold ptv at h
  split at h
  · rename_i b T' x y hk ho hdn
    rw [hk] at h hso
    dsimp only at h hso
    cases hb : bl[b]? with
    | none => rw [hb] at hso; cases hso
    | some e =>
      rw [hb] at h
      split at h
      · rename_i b' off vs hx hy
        dsimp only at h
        cases hc : (T' == T && b' == b && vs.size == n && (off + n).ble e.before.length && vs.toList.all (·.oneCell')) with
        | false => rw [hc] at h; cases h
        | true =>
          rw [hc] at h
          have h' : some (rep e.before off vs.toList) = some e.after := h
          simp only [Bool.and_eq_true, beq_iff_eq, Nat.ble_eq] at hc
          obtain ⟨⟨⟨⟨rfl, rfl⟩, hn⟩, hle⟩, h1⟩ := hc
          have hlen : vs.toList.length = n := by rw [Array.length_toList]; exact hn
          refine cert_putAt b' off hk e hb T' (.tmp x) (.tmp y) vs.toList ho hdn (fun _ _ K => src_eval hx K) (fun _ _ K => ?_) (by rw [hlen]; exact hle) (fun j => ?_) (by rw [hlen]; exact hi) h1
          · rw [Array.toArray_toList]; exact src_eval hy K
          · rw [← Option.some.inj h', rep_at (by rw [hlen]; exact hle)]
      · cases h
  · rw [← h] at hso; cases hso
/-- Blocks: those that are there (cs), those that are made (which operation, what lies in it), what is stored (where, which operation, what). -/
def aft (pu : List (Nat × Nat × List Value)) (b : Nat) (c : List Value) : List Value := match pu.find? (fun x => x.1 == b) with | some x => x.2.2 | none => c
def sto (pu : List (Nat × Nat × List Value)) (b : Nat) : Option Nat := (pu.find? (fun x => x.1 == b)).map (·.2.1)
def olB (pu : List (Nat × Nat × List Value)) : Nat → List (List Value) → List Bl
  | _, [] => []
  | b, c :: r => ⟨c, aft pu b c, none, sto pu b⟩ :: olB pu (b + 1) r
def mkB (pu : List (Nat × Nat × List Value)) : Nat → List (Nat × List Value) → List Bl
  | _, [] => []
  | b, c :: r => ⟨c.2, aft pu b c.2, some c.1, sto pu b⟩ :: mkB pu (b + 1) r
def bls (cs : List (List Value)) (mk : List (Nat × List Value)) (pu : List (Nat × Nat × List Value)) : List Bl := olB pu 0 cs ++ mkB pu cs.length mk
theorem olB_len (pu : List (Nat × Nat × List Value)) : ∀ (cs : List (List Value)) (b : Nat), (olB pu b cs).length = cs.length
  | [], _ => rfl
  | c :: r, b => by rw [olB, List.length_cons, olB_len pu r, List.length_cons]
theorem mkB_len (pu : List (Nat × Nat × List Value)) : ∀ (cs : List (Nat × List Value)) (b : Nat), (mkB pu b cs).length = cs.length
  | [], _ => rfl
  | c :: r, b => by rw [mkB, List.length_cons, mkB_len pu r, List.length_cons]
theorem olB_before (pu : List (Nat × Nat × List Value)) : ∀ (cs : List (List Value)) (b : Nat), (olB pu b cs).map (·.before) = cs
  | [], _ => rfl
  | c :: r, b => by rw [olB, List.map_cons, olB_before pu r]
theorem mkB_before (pu : List (Nat × Nat × List Value)) : ∀ (cs : List (Nat × List Value)) (b : Nat), (mkB pu b cs).map (·.before) = cs.map (·.2)
  | [], _ => rfl
  | c :: r, b => by rw [mkB, List.map_cons, mkB_before pu r, List.map_cons]
theorem olB_get (pu : List (Nat × Nat × List Value)) : ∀ (cs : List (List Value)) (b j : Nat) (e : Bl), (olB pu b cs)[j]? = some e → e.al = none ∧ e.after = aft pu (b + j) e.before ∧ e.st = sto pu (b + j)
  | [], _, _, _, h => by simp [olB] at h
  | c :: r, b, 0, e, h => by
    rw [olB, List.getElem?_cons_zero] at h
    obtain rfl := Option.some.inj h
    exact ⟨rfl, rfl, rfl⟩
  | c :: r, b, j + 1, e, h => by
    rw [olB, List.getElem?_cons_succ] at h
    have := olB_get pu r (b + 1) j e h
    rwa [show b + 1 + j = b + (j + 1) by omega] at this
theorem mkB_get (pu : List (Nat × Nat × List Value)) : ∀ (cs : List (Nat × List Value)) (b j : Nat) (e : Bl), (mkB pu b cs)[j]? = some e → (∃ x ∈ cs, e.al = some x.1) ∧ e.after = aft pu (b + j) e.before ∧ e.st = sto pu (b + j)
  | [], _, _, _, h => by simp [mkB] at h
  | c :: r, b, 0, e, h => by
    rw [mkB, List.getElem?_cons_zero] at h
    obtain rfl := Option.some.inj h
    exact ⟨⟨c, List.mem_cons_self, rfl⟩, rfl, rfl⟩
  | c :: r, b, j + 1, e, h => by
    rw [mkB, List.getElem?_cons_succ] at h
    obtain ⟨⟨x, hx, h1⟩, h2⟩ := mkB_get pu r (b + 1) j e h
    refine ⟨⟨x, List.mem_cons_of_mem _ hx, h1⟩, ?_⟩
    rwa [show b + 1 + j = b + (j + 1) by omega] at h2
variable {cs cs' : List (List Value)} {mk : List (Nat × List Value)} {pu : List (Nat × Nat × List Value)} {ks : List Nat}
theorem bls_len : (bls cs mk pu).length = cs.length + mk.length := by rw [bls, List.length_append, olB_len, mkB_len]
theorem bls_before : (bls cs mk pu).map (·.before) = cs ++ mk.map (·.2) := by rw [bls, List.map_append, olB_before, mkB_before]
theorem bls_get {b : Nat} {e : Bl} (h : (bls cs mk pu)[b]? = some e) : e.after = aft pu b e.before ∧ e.st = sto pu b ∧ ((b < cs.length ∧ e.al = none) ∨ (cs.length ≤ b ∧ ∃ x ∈ mk, e.al = some x.1)) := by
  unfold bls at h
  by_cases hb : b < cs.length
  · rw [List.getElem?_append_left (by rw [olB_len]; exact hb)] at h
    have := olB_get pu cs 0 b e h
    rw [Nat.zero_add] at this
    exact ⟨this.2.1, this.2.2, Or.inl ⟨hb, this.1⟩⟩
  · rw [List.getElem?_append_right (by rw [olB_len]; omega), olB_len] at h
    have := mkB_get pu mk cs.length (b - cs.length) e h
    rw [show cs.length + (b - cs.length) = b by omega] at this
    exact ⟨this.2.1, this.2.2, Or.inr ⟨by omega, this.1⟩⟩
theorem bls_start : startB (bls cs mk pu) cs.length = true := by
  simp only [startB, Bool.and_eq_true, decide_eq_true_eq]
  refine ⟨List.all_eq_true.2 fun x hx => ?_, by rw [bls_len]; omega⟩
  rw [List.mem_zipIdx_iff_getElem?] at hx
  rcases (bls_get hx).2.2 with ⟨h1, h2⟩ | ⟨h1, y, -, h2⟩
  · rw [h2]; simp [h1]
  · rw [h2]; simp; omega
def inB (m : Nat) (mk : List (Nat × List Value)) (pu : List (Nat × Nat × List Value)) : Bool := mk.all (fun x => x.1.blt m) && pu.all (fun x => x.2.1.blt m)
theorem bls_end (h : inB its.length mk pu = true) (hl : pu.map (fun x => x.2.2.length) = pu.map (fun x => (((cs ++ mk.map (·.2))[x.1]?).getD []).length)) :
    (∀ e ∈ bls cs mk pu, ∀ j, e.al = some j ∨ e.st = some j → j < its.length) ∧ ∀ e ∈ bls cs mk pu, e.fin.length = e.before.length := by
  simp only [inB, Bool.and_eq_true] at h
  refine ⟨fun e he j hj => ?_, fun e he => ?_⟩
  · obtain ⟨b, hb⟩ := List.getElem?_of_mem he
    obtain ⟨h1, h2, h3⟩ := bls_get hb
    rcases hj with hj | hj
    · rcases h3 with ⟨-, h4⟩ | ⟨-, x, hx, h4⟩
      · rw [h4] at hj; cases hj
      · rw [h4] at hj
        obtain rfl := Option.some.inj hj
        have := List.all_eq_true.1 h.1 x hx
        exact Nat.lt_of_succ_le (Nat.le_of_ble_eq_true this)
    · rw [h2] at hj
      unfold sto at hj
      obtain ⟨x, hx, rfl⟩ := Option.map_eq_some_iff.1 hj
      have := List.all_eq_true.1 h.2 x (List.mem_of_find?_eq_some hx)
      exact Nat.lt_of_succ_le (Nat.le_of_ble_eq_true this)
  · obtain ⟨b, hb⟩ := List.getElem?_of_mem he
    obtain ⟨h1, h2, -⟩ := bls_get hb
    unfold Bl.fin
    rw [h2, h1]
    unfold sto aft
    cases hp : pu.find? (fun x => x.1 == b) with
    | none => rfl
    | some x =>
      show x.2.2.length = _
      have hm := List.mem_of_find?_eq_some hp
      have hx : x.1 = b := by simpa using List.find?_some hp
      have h5 := List.map_inj_left.1 hl x hm
      rw [h5, ← bls_before (pu := pu), hx, List.getElem?_map, hb]
      rfl
/-- What a slot holds behind a region. -/
def lk (its : List It) (os : List (Tmp × SV)) (t : Tmp) : Option SV :=
  match its.find? (fun it => it.dst == some t) with
  | some it => some it.out
  | none => (os.find? (fun x => x.1 == t)).map (·.2)
/-- THE MACHINE: the blocks, the slots. -/
structure M (w0 : World) (k0 : Nat) (X : List Nat) (n : Nat) (cs : List (List Value)) (ks : List Nat) (os : List (Tmp × SV)) (a : Act) (w : World) : Prop where
  st : St w0 k0 X cs ks w
  sl : Sl a n
  os : Olds a (ad ks) os
def All : Nat → (List Nat → Prop) → Prop
  | 0, f => f []
  | n + 1, f => ∀ k : Nat, All n fun l => f (k :: l)
theorem All.get : ∀ {n : Nat} {f : List Nat → Prop}, All n f → ∀ l : List Nat, l.length = n → f l
  | 0, f, h, l, hl => by rw [List.length_eq_zero_iff.1 hl]; exact h
  | n + 1, f, h, [], hl => by simp at hl
  | n + 1, f, h, k :: l, hl => All.get (h k) l (by simpa using hl)
theorem at_more {s : SV} {new : List Nat} (h : ∀ b, s.blk = some b → b < ks.length) : s.at (ad (ks ++ new)) = s.at (ad ks) := SV.at_congr fun b hb => by
  unfold ad
  rw [List.getD_eq_getElem?_getD, List.getD_eq_getElem?_getD, List.getElem?_append_left (h b hb)]
theorem Olds.mk' {μ : Nat → Nat} : ∀ {l : List (Tmp × SV)}, (∀ x ∈ l, a.tmps[x.1]? = some (x.2.at μ)) → Olds a μ l
  | [], _ => trivial
  | x :: r, h => ⟨h x List.mem_cons_self, Olds.mk' fun y hy => h y (List.mem_cons_of_mem _ hy)⟩
theorem M.next {os' : List (Tmp × SV)} {new : List Nat} {w' : World} (h : M w0 k0 X n cs ks os a w) (hall : allB ops its (bls cs mk pu) os n = true) (hlk : (os'.map fun x => lk its os x.1) = os'.map fun x => some x.2)
    (hS : St w0 k0 X cs' (ks ++ new) w') : M w0 k0 X n cs' (ks ++ new) os' (puts (ad (ks ++ new)) its a) w' := by
  refine ⟨hS, h.sl.puts, Olds.mk' fun x hx => ?_⟩
  have h1 := List.map_inj_left.1 hlk x hx
  simp only [allB, Bool.and_eq_true, beq_iff_eq] at hall
  obtain ⟨⟨⟨⟨hsz, hd⟩, hold⟩, hin⟩, hok⟩ := hall
  unfold lk at h1
  cases hf : its.find? (fun it => it.dst == some x.1) with
  | some it =>
    rw [hf] at h1
    have hm := List.mem_of_find?_eq_some hf
    have hdt : it.dst = some x.1 := by simpa using List.find?_some hf
    obtain ⟨j, hj⟩ := List.getElem?_of_mem hm
    have hlt := List.all_eq_true.1 hin it hm
    rw [hdt] at hlt
    have := puts_same (ad (ks ++ new)) its a j it x.1 hd hj hdt (by rw [h.sl.size]; simpa using hlt)
    rw [this, ← Option.some.inj h1]
  | none =>
    rw [hf] at h1
    obtain ⟨y, hy, hyx⟩ := Option.map_eq_some_iff.1 h1
    have hm := List.mem_of_find?_eq_some hy
    have hyt : y.1 = x.1 := by simpa using List.find?_some hy
    have h2 := h.os.get y.1 y.2 hm
    rw [puts_other _ its a x.1 (fun it hit hdd => by
      have := List.find?_eq_none.1 hf it hit
      rw [hdd] at this
      simp at this), ← hyt, h2, ← hyx]
    congr 1
    refine (at_more fun b hb => ?_).symm
    have h3 := List.all_eq_true.1 hold y hm
    rw [hb] at h3
    dsimp only at h3
    cases he : (bls cs mk pu)[b]? with
    | none => rw [he] at h3; cases h3
    | some e =>
      rw [he] at h3
      rcases (bls_get he).2.2 with ⟨h4, -⟩ | ⟨-, z, -, h5⟩
      · rw [h.st.len]; exact h4
      · dsimp only at h3; rw [h5] at h3; simp at h3
theorem M.reg (h : M w0 k0 X n cs ks os a w) (hall : allB ops its (bls cs mk pu) os n = true) (hc : Certs P Q w0 k0 X ops its (bls cs mk pu) os 0 ops.toList its) : Reg P ops Q w0 k0 X its (bls cs mk pu) os a (ad ks) :=
  Reg.mk' (by rw [h.sl.size]; exact hall) h.os hc
theorem bls_take : ((bls cs mk pu).map (·.before)).take cs.length = cs := by rw [bls_before, List.take_left']; rfl
/-- A region in the order of its text. -/
theorem M.tx {id : Nat} (h : M w0 k0 X n cs ks os a w) (its : List It) (mk : List (Nat × List Value)) (pu : List (Nat × Nat × List Value)) (cs' : List (List Value)) (os' : List (Tmp × SV))
    (hk : (allB ops its (bls cs mk pu) os n && inB its.length mk pu, (bls cs mk pu).map Bl.fin, os'.map fun x => lk its os x.1) = (true, cs', os'.map fun x => some x.2))
    (hl : pu.map (fun x => x.2.2.length) = pu.map (fun x => (((cs ++ mk.map (·.2))[x.1]?).getD []).length))
    (hc : Certs P Q w0 k0 X ops its (bls cs mk pu) os 0 ops.toList its)
    (hp : All mk.length fun new => ∀ a' w', M w0 k0 X n cs' (ks ++ new) os' a' w' → Q .normal a' w') : (Code.region id ops false).wp P Q a w := by
  simp only [Prod.mk.injEq, Bool.and_eq_true] at hk
  obtain ⟨⟨h1, h2⟩, h3, h4⟩ := hk
  refine region_text' h.st (h.reg h1 hc) bls_start bls_take (bls_end h2 hl) fun new w' hn hS => ?_
  rw [bls_len, Nat.add_sub_cancel_left] at hn
  exact hp.get new hn _ _ (h.next h1 h4 (h3 ▸ hS))
/-- A region that draws its order. -/
theorem M.dr {id : Nat} (h : M w0 k0 X n cs ks os a w) (hm : P.follows .mixedOrders = true) (its : List It) (mk : List (Nat × List Value)) (pu : List (Nat × Nat × List Value)) (cs' : List (List Value)) (os' : List (Tmp × SV))
    (hk : (allB ops its (bls cs mk pu) os n && inB its.length mk pu, (bls cs mk pu).map Bl.fin, os'.map fun x => lk its os x.1) = (true, cs', os'.map fun x => some x.2))
    (hl : pu.map (fun x => x.2.2.length) = pu.map (fun x => (((cs ++ mk.map (·.2))[x.1]?).getD []).length))
    (hc : Certs P Q w0 k0 X ops its (bls cs mk pu) os 0 ops.toList its)
    (hp : All mk.length fun new => ∀ a' w', M w0 k0 X n cs' (ks ++ new) os' a' w' → Q .normal a' w') : (Code.region id ops true).wp P Q a w := by
  simp only [Prod.mk.injEq, Bool.and_eq_true] at hk
  obtain ⟨⟨h1, h2⟩, h3, h4⟩ := hk
  refine region_draws' hm h.st (h.reg h1 hc) bls_start bls_take (bls_end h2 hl) fun new w' hn hS => ?_
  rw [bls_len, Nat.add_sub_cancel_left] at hn
  exact hp.get new hn _ _ (h.next h1 h4 (h3 ▸ hS))
theorem bls_nil : (bls cs [] []).map Bl.fin = cs := by
  have h : ∀ (cs : List (List Value)) (b : Nat), (olB [] b cs).map Bl.fin = cs := fun cs => by
    induction cs with
    | nil => intro _; rfl
    | cons c r ih => intro b; rw [olB, List.map_cons, ih]; rfl
  rw [bls, List.map_append, h]
  exact List.append_nil _
theorem M.tx0 {id : Nat} (h : M w0 k0 X n cs ks os a w) (its : List It) (os' : List (Tmp × SV)) (hk : (allB ops its (bls cs [] []) os n, os'.map fun x => lk its os x.1) = (true, os'.map fun x => some x.2))
    (hc : Certs P Q w0 k0 X ops its (bls cs [] []) os 0 ops.toList its) (hp : ∀ a' w', M w0 k0 X n cs ks os' a' w' → Q .normal a' w') : (Code.region id ops false).wp P Q a w := by
  simp only [Prod.mk.injEq] at hk
  refine h.tx its [] [] cs os' (by simp only [hk.1, hk.2, bls_nil]; rfl) rfl hc (fun a' w' hM => hp a' w' ?_)
  rwa [List.append_nil] at hM
theorem M.dr0 {id : Nat} (h : M w0 k0 X n cs ks os a w) (hm : P.follows .mixedOrders = true) (its : List It) (os' : List (Tmp × SV)) (hk : (allB ops its (bls cs [] []) os n, os'.map fun x => lk its os x.1) = (true, os'.map fun x => some x.2))
    (hc : Certs P Q w0 k0 X ops its (bls cs [] []) os 0 ops.toList its) (hp : ∀ a' w', M w0 k0 X n cs ks os' a' w' → Q .normal a' w') : (Code.region id ops true).wp P Q a w := by
  simp only [Prod.mk.injEq] at hk
  refine h.dr hm its [] [] cs os' (by simp only [hk.1, hk.2, bls_nil]; rfl) rfl hc (fun a' w' hM => hp a' w' ?_)
  rwa [List.append_nil] at hM
/-- The same, with what the kernel finds by itself behind. -/
theorem M.t {id : Nat} (h : M w0 k0 X n cs ks os a w) (its : List It) (mk : List (Nat × List Value)) (pu : List (Nat × Nat × List Value)) (cs' : List (List Value)) (os' : List (Tmp × SV)) (hc : Certs P Q w0 k0 X ops its (bls cs mk pu) os 0 ops.toList its) (hp : All mk.length fun new => ∀ a' w', M w0 k0 X n cs' (ks ++ new) os' a' w' → Q .normal a' w') (hk : (allB ops its (bls cs mk pu) os n && inB its.length mk pu, (bls cs mk pu).map Bl.fin, os'.map fun x => lk its os x.1) = (true, cs', os'.map fun x => some x.2) := by kernel_rfl) (hl : pu.map (fun x => x.2.2.length) = pu.map (fun x => (((cs ++ mk.map (·.2))[x.1]?).getD []).length) := by kernel_rfl) : (Code.region id ops false).wp P Q a w := h.tx its mk pu cs' os' hk hl hc hp
theorem M.d {id : Nat} (h : M w0 k0 X n cs ks os a w) (its : List It) (mk : List (Nat × List Value)) (pu : List (Nat × Nat × List Value)) (cs' : List (List Value)) (os' : List (Tmp × SV)) (hc : Certs P Q w0 k0 X ops its (bls cs mk pu) os 0 ops.toList its) (hp : All mk.length fun new => ∀ a' w', M w0 k0 X n cs' (ks ++ new) os' a' w' → Q .normal a' w') (hk : (allB ops its (bls cs mk pu) os n && inB its.length mk pu, (bls cs mk pu).map Bl.fin, os'.map fun x => lk its os x.1) = (true, cs', os'.map fun x => some x.2) := by kernel_rfl) (hl : pu.map (fun x => x.2.2.length) = pu.map (fun x => (((cs ++ mk.map (·.2))[x.1]?).getD []).length) := by kernel_rfl) (hm : P.follows .mixedOrders = true := by kernel_rfl) : (Code.region id ops true).wp P Q a w := h.dr hm its mk pu cs' os' hk hl hc hp
theorem M.u {id : Nat} (h : M w0 k0 X n cs ks os a w) (its : List It) (os' : List (Tmp × SV)) (hc : Certs P Q w0 k0 X ops its (bls cs [] []) os 0 ops.toList its) (hp : ∀ a' w', M w0 k0 X n cs ks os' a' w' → Q .normal a' w') (hk : (allB ops its (bls cs [] []) os n, os'.map fun x => lk its os x.1) = (true, os'.map fun x => some x.2) := by kernel_rfl) : (Code.region id ops false).wp P Q a w := h.tx0 its os' hk hc hp
theorem M.e {id : Nat} (h : M w0 k0 X n cs ks os a w) (its : List It) (os' : List (Tmp × SV)) (hc : Certs P Q w0 k0 X ops its (bls cs [] []) os 0 ops.toList its) (hp : ∀ a' w', M w0 k0 X n cs ks os' a' w' → Q .normal a' w') (hk : (allB ops its (bls cs [] []) os n, os'.map fun x => lk its os x.1) = (true, os'.map fun x => some x.2) := by kernel_rfl) (hm : P.follows .mixedOrders = true := by kernel_rfl) : (Code.region id ops true).wp P Q a w := h.dr0 hm its os' hk hc hp
theorem M.at (h : M w0 k0 X n cs ks os a w) {t : Tmp} {s : SV} (hs : (os.find? (fun x => x.1 == t)).map (·.2) = some s := by kernel_rfl) : a.tmps[t]? = some (s.at (ad ks)) := by
  obtain ⟨y, hy, rfl⟩ := Option.map_eq_some_iff.1 hs
  have hyt : y.1 = t := by simpa using List.find?_some hy
  rw [← hyt]
  exact h.os.get y.1 y.2 (List.mem_of_find?_eq_some hy)
theorem St.made {w w' : World} {cs : List (List Value)} {ks : List Nat} (h : St w w.heap.size [] cs ks w') {b : Nat} {c : List Value} (hb : cs[b]? = some c) : Made w (ad ks b) c w' := by
  obtain ⟨h1, h2, h3, h4⟩ := h.has b c hb
  exact ⟨h.bel.below, h4.elim id (fun h => absurd h List.not_mem_nil), h3, h1, h2⟩
theorem M.av (h : M w0 k0 X n cs ks os a w) {t : Tmp} {v : Value} (hs : (os.find? (fun x => x.1 == t)).map (·.2) = some (.v v) := by kernel_rfl) : a.tmps[t]? = some v := h.at hs
theorem M.ev (h : M w0 k0 X n cs ks os a w) {t : Tmp} {v : Value} (hs : (os.find? (fun x => x.1 == t)).map (·.2) = some (.v v) := by kernel_rfl) : a.eval (.tmp t) = v := eval_of (h.at hs)
/-- A call begins. -/
theorem M.enter {c : Code} (os : List (Tmp × SV)) (n : Nat) (h : (os.map fun x => a.tmps[x.1]?, a.tmps.size, a.defers) = (os.map fun x => some (x.2.at (ad [])), n, [])) (hp : ∀ a, M w w.heap.size [] n [] [] os a w → c.wp P Q a w) : c.wp P Q a w := by
  simp only [Prod.mk.injEq] at h
  exact hp a ⟨St.begin w, ⟨h.2.1, h.2.2⟩, Olds.mk' fun x hx => List.map_inj_left.1 h.1 x hx⟩
/-- Blocks that nobody asks for any more. -/
theorem M.drop {w0 w : World} {k0 n : Nat} {X : List Nat} {cs cs2 : List (List Value)} {ks ks2 : List Nat} {os : List (Tmp × SV)} {a : Act} (h : M w0 k0 X n (cs ++ cs2) (ks ++ ks2) os a w) (hl : ks.length = cs.length)
    (ho : os.all (fun x => match x.2.blk with | none => true | some b => b.blt cs.length) = true) : M w0 k0 X n cs ks os a w := by
  have had : ∀ b, b < cs.length → ad (ks ++ ks2) b = ad ks b := fun b hb => by
    unfold ad
    rw [List.getD_eq_getElem?_getD, List.getD_eq_getElem?_getD, List.getElem?_append_left (by omega)]
  refine ⟨⟨h.st.bel, h.st.le, hl, fun b c hb => ?_, fun b c hb hc hne => ?_⟩, h.sl, Olds.mk' fun x hx => ?_⟩
  · have hlt := (List.getElem?_eq_some_iff.1 hb).1
    have := h.st.has b c (by rw [List.getElem?_append_left hlt]; exact hb)
    rwa [had b hlt] at this
  · have := h.st.inj b c (by rw [List.length_append]; omega) (by rw [List.length_append]; omega) hne
    rwa [had b hb, had c hc] at this
  · rw [h.os.get x.1 x.2 hx]
    congr 1
    refine SV.at_congr fun b hb => ?_
    have h1 := List.all_eq_true.1 ho x hx
    rw [hb] at h1
    exact had b (Nat.lt_of_succ_le (Nat.le_of_ble_eq_true h1))
/-- n words that are 0. -/
abbrev z (n : Nat) : List Value := List.replicate n (.int .u64 0)
def It.s (d : Tmp) (need : List (Tmp × Nat)) (out : SV) : It := ⟨some d, need, out, .stay⟩
def It.x (d : Tmp) (need : List (Tmp × Nat)) (v : Value) : It := ⟨some d, need, .v v, .stay⟩
def It.c (d : Tmp) (need : List (Tmp × Nat)) (v : Value) : It := ⟨some d, need, .v v, .call⟩
def It.m (d : Tmp) (need : List (Tmp × Nat)) (b : Nat) : It := ⟨some d, need, .p b 0, .make b⟩
def It.u (need : List (Tmp × Nat)) (b : Nat) : It := ⟨none, need, .v undef, .put b⟩
end Go.Proofs.YtmepmoalhgehhaaGreatDoor.RG
namespace Go.Proofs.YtmepmoalhgehhaaGreatDoor
open Go.RowKit Go.Sort
variable {P : Nat} [NeZero P]
omit [NeZero P] in
theorem Gives.e {f : FuncId} {args : Array Value} {x c : Fin P} (h : Gives f args (fv x)) (e : c = x) : Gives f args (fv c) := e ▸ h
omit [NeZero P] in
theorem Gives.e3 {f : FuncId} {args : Array Value} {x y z a b c : Fin P} (h : Gives f args (rv x y z)) (e : a = x) (e' : b = y) (e'' : c = z) : Gives f args (rv a b c) := e ▸ e' ▸ e'' ▸ h
theorem eqW (a b c d p q r s : Int) (w : World) : (binOp .eql 147 (.agg #[.int .u64 a, .int .u64 b, .int .u64 c, .int .u64 d]) (.agg #[.int .u64 p, .int .u64 q, .int .u64 r, .int .u64 s])).run Tryz.prog w = .ok (.bool (decide (a = p ∧ b = q ∧ c = r ∧ d = s))) w := by
  go_simp
  by_cases h0 : a = p <;> by_cases h1 : b = q <;> by_cases h2 : c = r <;> by_cases h3 : d = s <;> simp [h0, h1, h2, h3]
theorem wn_inj {m n : Nat} (hm : m < top) (hn : n < top) : (m % 18446744073709551616 = n % 18446744073709551616 ∧ m / 18446744073709551616 % 18446744073709551616 = n / 18446744073709551616 % 18446744073709551616 ∧ m / 340282366920938463463374607431768211456 % 18446744073709551616 = n / 340282366920938463463374607431768211456 % 18446744073709551616 ∧ m / 6277101735386680763835789423207666416102355444464034512896 % 18446744073709551616 = n / 6277101735386680763835789423207666416102355444464034512896 % 18446744073709551616) ↔ m = n := by
  constructor
  · rintro ⟨h0, h1, h2, h3⟩
    unfold top at hm hn
    omega
  · rintro rfl
    exact ⟨rfl, rfl, rfl, rfl⟩
theorem eqC (h : Fld P) (x y : Fin P) (w : World) : (binOp .eql 147 (fv x) (fv y)).run Tryz.prog w = .ok (.bool (decide (x = y))) w := by
  have h1 := eqW ((x.val % 18446744073709551616 : Nat) : Int) ((x.val / 18446744073709551616 % 18446744073709551616 : Nat) : Int) ((x.val / 340282366920938463463374607431768211456 % 18446744073709551616 : Nat) : Int) ((x.val / 6277101735386680763835789423207666416102355444464034512896 % 18446744073709551616 : Nat) : Int) ((y.val % 18446744073709551616 : Nat) : Int) ((y.val / 18446744073709551616 % 18446744073709551616 : Nat) : Int) ((y.val / 340282366920938463463374607431768211456 % 18446744073709551616 : Nat) : Int) ((y.val / 6277101735386680763835789423207666416102355444464034512896 % 18446744073709551616 : Nat) : Int) w
  refine h1.trans ?_
  have h2 := wn_inj (h.top x) (h.top y)
  simp only [Int.ofNat_inj, h2, ← Fin.ext_iff]
theorem eqC_t (h : Fld P) {x y : Fin P} (e : x = y) (w : World) : (binOp .eql 147 (fv x) (fv y)).run Tryz.prog w = .ok (.bool true) w := by rw [eqC h, decide_eq_true e]
theorem eqC_f (h : Fld P) {x y : Fin P} (e : ¬ x = y) (w : World) : (binOp .eql 147 (fv x) (fv y)).run Tryz.prog w = .ok (.bool false) w := by rw [eqC h, decide_eq_false e]
theorem eqPt2 (a b c d p q r s a' b' c' d' p' q' r' s' : Nat) (w : World) : (binOp .eql 107 (.agg #[.int .u64 (a : Int), .int .u64 (b : Int), .int .u64 (c : Int), .int .u64 (d : Int), .int .u64 (a' : Int), .int .u64 (b' : Int), .int .u64 (c' : Int), .int .u64 (d' : Int)]) (.agg #[.int .u64 (p : Int), .int .u64 (q : Int), .int .u64 (r : Int), .int .u64 (s : Int), .int .u64 (p' : Int), .int .u64 (q' : Int), .int .u64 (r' : Int), .int .u64 (s' : Int)])).run Tryz.prog w = .ok (.bool (decide (a = p ∧ b = q ∧ c = r ∧ d = s) && decide (a' = p' ∧ b' = q' ∧ c' = r' ∧ d' = s'))) w := by
  go_simp
  rw [eqP_d 9997, Result.andThen_ok]
  by_cases h1 : a = p ∧ b = q ∧ c = r ∧ d = s
  · rw [decide_eq_true h1]
    simp only [Bool.true_eq_false, if_false]
    rw [eqP_d 9997, Result.andThen_ok]
    by_cases h2 : a' = p' ∧ b' = q' ∧ c' = r' ∧ d' = s'
    · rw [decide_eq_true h2]
      simp [h1.1, h1.2.1, h1.2.2.1, h1.2.2.2, h2.1, h2.2.1, h2.2.2.1, h2.2.2.2]
    · rw [decide_eq_false h2]
      simp only [if_true, Result.andThen_ok]
      have h3 : (decide (a' = p') && (decide (b' = q') && (decide (c' = r') && decide (d' = s')))) = false := by simpa using h2
      rw [h3, Bool.and_false]
  · rw [decide_eq_false h1]
    simp only [if_true, Result.andThen_ok]
    have h3 : (decide (a = p) && (decide (b = q) && (decide (c = r) && decide (d = s)))) = false := by simpa using h1
    rw [h3, Bool.false_and]
theorem eqPt (h : Fld P) (x y z t : Fin P) (w : World) : (binOp .eql 107 (pv x y) (pv z t)).run Tryz.prog w = .ok (.bool (decide (x = z ∧ y = t))) w := by
  refine (eqPt2 (x.val % 18446744073709551616) (x.val / 18446744073709551616 % 18446744073709551616) (x.val / 340282366920938463463374607431768211456 % 18446744073709551616) (x.val / 6277101735386680763835789423207666416102355444464034512896 % 18446744073709551616) (z.val % 18446744073709551616) (z.val / 18446744073709551616 % 18446744073709551616) (z.val / 340282366920938463463374607431768211456 % 18446744073709551616) (z.val / 6277101735386680763835789423207666416102355444464034512896 % 18446744073709551616) (y.val % 18446744073709551616) (y.val / 18446744073709551616 % 18446744073709551616) (y.val / 340282366920938463463374607431768211456 % 18446744073709551616) (y.val / 6277101735386680763835789423207666416102355444464034512896 % 18446744073709551616) (t.val % 18446744073709551616) (t.val / 18446744073709551616 % 18446744073709551616) (t.val / 340282366920938463463374607431768211456 % 18446744073709551616) (t.val / 6277101735386680763835789423207666416102355444464034512896 % 18446744073709551616) w).trans ?_
  simp only [wn_inj (h.top x) (h.top z), wn_inj (h.top y) (h.top t), ← Fin.ext_iff, Bool.decide_and]
theorem eqPt_t (h : Fld P) {x y z t : Fin P} (e : x = z ∧ y = t) (w : World) : (binOp .eql 107 (pv x y) (pv z t)).run Tryz.prog w = .ok (.bool true) w := by rw [eqPt h, decide_eq_true e]
theorem eqPt_f (h : Fld P) {x y z t : Fin P} (e : ¬ (x = z ∧ y = t)) (w : World) : (binOp .eql 107 (pv x y) (pv z t)).run Tryz.prog w = .ok (.bool false) w := by rw [eqPt h, decide_eq_false e]
end Go.Proofs.YtmepmoalhgehhaaGreatDoor
namespace Go.Proofs.YtmepmoalhgehhaaGreatDoor
open Go.RowKit Go.Sort
variable {P : Nat} [NeZero P]
theorem u115 : (Tryz.prog.underlying 147).map (·.isRow) = some true := by kernel_rfl
theorem i115 : (Tryz.prog.info? 147).map (·.size) = some 4 := by kernel_rfl
theorem u85 : (Tryz.prog.underlying 45).map (·.isRow) = some true := by kernel_rfl
theorem i85 : (Tryz.prog.info? 45).map (·.size) = some 4 := by kernel_rfl
theorem u117 : (Tryz.prog.underlying 149).map (·.isRow) = some true := by kernel_rfl
theorem i117 : (Tryz.prog.info? 149).map (·.size) = some 12 := by kernel_rfl
theorem u109 : (Tryz.prog.underlying 107).map (·.isRow) = some true := by kernel_rfl
theorem i109 : (Tryz.prog.info? 107).map (·.size) = some 8 := by kernel_rfl
theorem u79 : (Tryz.prog.underlying 138).map (·.isRow) = some true := by kernel_rfl
theorem i79 : (Tryz.prog.info? 138).map (·.size) = some 4 := by kernel_rfl
set_option maxHeartbeats 2000000 in
set_option maxRecDepth 100000 in
theorem CTimes_c (C : Fld P) (x y : Fin P) : Gives 118 #[(fv x), (fv y)] (fv (x * y)) := by
  intro w
  obtain ⟨c1, hc1⟩ : ∃ c, c = x * y := ⟨_, rfl⟩
  have hfin : ((fv c1) : Value) = (fv (x * y)) := by
    subst_vars; rfl
  rw [← hfin]
  go_enter Tryz.func118, Tryz.ntmps118
  refine RG.M.enter [(0, (.v (fv x))), (1, (.v (fv y)))] 9 (by kernel_rfl) ?_
  intro a0 M0
  repeat refine wp_seq ?_
  refine M0.t [.m 2 [] 0, .m 3 [] 1, .m 4 [] 2] [(0, (ws x)), (1, (ws y)), (2, (RG.z 4))] [] [(ws x), (ws y), (RG.z 4)] [(2, (.p 0 0)), (3, (.p 1 0)), (4, (.p 2 0))] ⟨RG.mk 0 147, RG.mk 1 147, RG.mk 2 147, trivial⟩ ?_
  intro j1 i1 m1 a1 w1 M1
  repeat refine wp_seq ?_
  refine M1.d [.c 5 [] gv0, .x 6 [] (fv x), .x 7 [] (fv y), .c 8 [(5, 0), (6, 1), (7, 2)] (fv c1), .u [(8, 3)] 2] [] [(2, 4, (ws c1))] [(ws x), (ws y), (ws c1)] [(4, (.p 2 0))] ⟨RG.cl (Coordinates_c), RG.ld u115 i115, RG.ld u115 i115, RG.cl ((product_c C x y).e hc1), RG.pt i115, trivial⟩ ?_
  intro a2 w2 M2
  refine wp_ret ?_
  refine bodyPost_ret (v := (fv c1)) (RG.results_row M2.st 4 147 rfl 2 _ rfl (M2.at (s := (.p 2 0))) u115 i115) M2.sl.defers ?_
  exact ⟨_, rfl, M2.st.bel.below, rfl⟩
set_option maxHeartbeats 2000000 in
set_option maxRecDepth 100000 in
theorem CPlus_c (C : Fld P) (x y : Fin P) : Gives 120 #[(fv x), (fv y)] (fv (x + y)) := by
  intro w
  obtain ⟨c1, hc1⟩ : ∃ c, c = x + y := ⟨_, rfl⟩
  have hfin : ((fv c1) : Value) = (fv (x + y)) := by
    subst_vars; rfl
  rw [← hfin]
  go_enter Tryz.func120, Tryz.ntmps120
  refine RG.M.enter [(0, (.v (fv x))), (1, (.v (fv y)))] 9 (by kernel_rfl) ?_
  intro a0 M0
  repeat refine wp_seq ?_
  refine M0.t [.m 2 [] 0, .m 3 [] 1, .m 4 [] 2] [(0, (ws x)), (1, (ws y)), (2, (RG.z 4))] [] [(ws x), (ws y), (RG.z 4)] [(2, (.p 0 0)), (3, (.p 1 0)), (4, (.p 2 0))] ⟨RG.mk 0 147, RG.mk 1 147, RG.mk 2 147, trivial⟩ ?_
  intro j1 i1 m1 a1 w1 M1
  repeat refine wp_seq ?_
  refine M1.d [.c 5 [] gv0, .x 6 [] (fv x), .x 7 [] (fv y), .c 8 [(5, 0), (6, 1), (7, 2)] (fv c1), .u [(8, 3)] 2] [] [(2, 4, (ws c1))] [(ws x), (ws y), (ws c1)] [(4, (.p 2 0))] ⟨RG.cl (Coordinates_c), RG.ld u115 i115, RG.ld u115 i115, RG.cl ((sum_c C x y).e hc1), RG.pt i115, trivial⟩ ?_
  intro a2 w2 M2
  refine wp_ret ?_
  refine bodyPost_ret (v := (fv c1)) (RG.results_row M2.st 4 147 rfl 2 _ rfl (M2.at (s := (.p 2 0))) u115 i115) M2.sl.defers ?_
  exact ⟨_, rfl, M2.st.bel.below, rfl⟩
set_option maxHeartbeats 2000000 in
set_option maxRecDepth 100000 in
theorem CMinus_c (C : Fld P) (x y : Fin P) : Gives 121 #[(fv x), (fv y)] (fv (x - y)) := by
  intro w
  obtain ⟨c1, hc1⟩ : ∃ c, c = x - y := ⟨_, rfl⟩
  have hfin : ((fv c1) : Value) = (fv (x - y)) := by
    subst_vars; rfl
  rw [← hfin]
  go_enter Tryz.func121, Tryz.ntmps121
  refine RG.M.enter [(0, (.v (fv x))), (1, (.v (fv y)))] 9 (by kernel_rfl) ?_
  intro a0 M0
  repeat refine wp_seq ?_
  refine M0.t [.m 2 [] 0, .m 3 [] 1, .m 4 [] 2] [(0, (ws x)), (1, (ws y)), (2, (RG.z 4))] [] [(ws x), (ws y), (RG.z 4)] [(2, (.p 0 0)), (3, (.p 1 0)), (4, (.p 2 0))] ⟨RG.mk 0 147, RG.mk 1 147, RG.mk 2 147, trivial⟩ ?_
  intro j1 i1 m1 a1 w1 M1
  repeat refine wp_seq ?_
  refine M1.d [.c 5 [] gv0, .x 6 [] (fv x), .x 7 [] (fv y), .c 8 [(5, 0), (6, 1), (7, 2)] (fv c1), .u [(8, 3)] 2] [] [(2, 4, (ws c1))] [(ws x), (ws y), (ws c1)] [(4, (.p 2 0))] ⟨RG.cl (Coordinates_c), RG.ld u115 i115, RG.ld u115 i115, RG.cl ((difference_c C x y).e hc1), RG.pt i115, trivial⟩ ?_
  intro a2 w2 M2
  refine wp_ret ?_
  refine bodyPost_ret (v := (fv c1)) (RG.results_row M2.st 4 147 rfl 2 _ rfl (M2.at (s := (.p 2 0))) u115 i115) M2.sl.defers ?_
  exact ⟨_, rfl, M2.st.bel.below, rfl⟩
set_option maxHeartbeats 2000000 in
set_option maxRecDepth 100000 in
theorem Coord_c (C : Fld P) (x : Fin P) : Gives 126 #[(fv x)] (fv x) := by
  intro w
  go_enter Tryz.func126, Tryz.ntmps126
  refine RG.M.enter [(0, (.v (fv x)))] 5 (by kernel_rfl) ?_
  intro a0 M0
  repeat refine wp_seq ?_
  refine M0.t [.m 1 [] 0, .m 2 [] 1] [(0, (ws x)), (1, (RG.z 4))] [] [(ws x), (RG.z 4)] [(1, (.p 0 0)), (2, (.p 1 0))] ⟨RG.mk 0 45, RG.mk 1 147, trivial⟩ ?_
  intro j1 i1 a1 w1 M1
  repeat refine wp_seq ?_
  refine M1.t [.x 3 [] (fv x), .c 4 [(3, 0)] (fv x), .u [(4, 1)] 1] [] [(1, 2, (ws x))] [(ws x), (ws x)] [(2, (.p 1 0))] ⟨RG.ld u85 i85, RG.cl (four_c C x), RG.pt i115, trivial⟩ ?_
  intro a2 w2 M2
  refine wp_ret ?_
  refine bodyPost_ret (v := (fv x)) (RG.results_row M2.st 2 147 rfl 1 _ rfl (M2.at (s := (.p 1 0))) u115 i115) M2.sl.defers ?_
  exact ⟨_, rfl, M2.st.bel.below, rfl⟩
set_option maxHeartbeats 2000000 in
set_option maxRecDepth 100000 in
theorem Numb_c (C : Fld P) (x : Fin P) : Gives 125 #[(fv x)] (fv x) := by
  intro w
  go_enter Tryz.func125, Tryz.ntmps125
  refine RG.M.enter [(0, (.v (fv x)))] 5 (by kernel_rfl) ?_
  intro a0 M0
  repeat refine wp_seq ?_
  refine M0.t [.m 1 [] 0, .m 2 [] 1] [(0, (ws x)), (1, (RG.z 4))] [] [(ws x), (RG.z 4)] [(1, (.p 0 0)), (2, (.p 1 0))] ⟨RG.mk 0 147, RG.mk 1 45, trivial⟩ ?_
  intro j1 i1 a1 w1 M1
  repeat refine wp_seq ?_
  refine M1.t [.x 3 [] (fv x), .c 4 [(3, 0)] (fv x), .u [(4, 1)] 1] [] [(1, 2, (ws x))] [(ws x), (ws x)] [(2, (.p 1 0))] ⟨RG.ld u115 i115, RG.cl (number_c C x), RG.pt i85, trivial⟩ ?_
  intro a2 w2 M2
  refine wp_ret ?_
  refine bodyPost_ret (v := (fv x)) (RG.results_row M2.st 2 45 rfl 1 _ rfl (M2.at (s := (.p 1 0))) u85 i85) M2.sl.defers ?_
  exact ⟨_, rfl, M2.st.bel.below, rfl⟩
set_option maxHeartbeats 2000000 in
set_option maxRecDepth 100000 in
theorem double_c (C : Fld P) (x : Fin P) : Gives 119 #[(fv x)] (fv (EC.dbl x)) := by
  intro w
  obtain ⟨c1, hc1⟩ : ∃ c, c = x + x := ⟨_, rfl⟩
  have hfin : ((fv c1) : Value) = (fv (EC.dbl x)) := by
    subst_vars; rfl
  rw [← hfin]
  go_enter Tryz.func119, Tryz.ntmps119
  refine RG.M.enter [(0, (.v (fv x)))] 6 (by kernel_rfl) ?_
  intro a0 M0
  repeat refine wp_seq ?_
  refine M0.t [.m 1 [] 0, .m 2 [] 1] [(0, (ws x)), (1, (RG.z 4))] [] [(ws x), (RG.z 4)] [(1, (.p 0 0)), (2, (.p 1 0))] ⟨RG.mk 0 147, RG.mk 1 147, trivial⟩ ?_
  intro j1 i1 a1 w1 M1
  repeat refine wp_seq ?_
  refine M1.t [.x 3 [] (fv x), .x 4 [] (fv x), .c 5 [(3, 0), (4, 1)] (fv c1), .u [(5, 2)] 1] [] [(1, 3, (ws c1))] [(ws x), (ws c1)] [(2, (.p 1 0))] ⟨RG.ld u115 i115, RG.ld u115 i115, RG.cl ((CPlus_c C x x).e hc1), RG.pt i115, trivial⟩ ?_
  intro a2 w2 M2
  refine wp_ret ?_
  refine bodyPost_ret (v := (fv c1)) (RG.results_row M2.st 2 147 rfl 1 _ rfl (M2.at (s := (.p 1 0))) u115 i115) M2.sl.defers ?_
  exact ⟨_, rfl, M2.st.bel.below, rfl⟩
end Go.Proofs.YtmepmoalhgehhaaGreatDoor
namespace Go.Proofs.YtmepmoalhgehhaaGreatDoor
open Go.RowKit Go.Sort
variable {P : Nat} [NeZero P]
set_option maxHeartbeats 2000000 in
set_option maxRecDepth 100000 in
theorem twice_c (C : Fld P) (x y z : Fin P) : Gives 92 #[(rv x y z)] (rv (EC.twX x y) (EC.twY x y) (EC.twZ y z)) := by
  intro w
  obtain ⟨c1, hc1⟩ : ∃ c, c = x * x := ⟨_, rfl⟩
  obtain ⟨c2, hc2⟩ : ∃ c, c = y * y := ⟨_, rfl⟩
  obtain ⟨c3, hc3⟩ : ∃ c, c = x * c2 := ⟨_, rfl⟩
  obtain ⟨c4, hc4⟩ : ∃ c, c = EC.dbl c3 := ⟨_, rfl⟩
  obtain ⟨c5, hc5⟩ : ∃ c, c = EC.dbl c4 := ⟨_, rfl⟩
  obtain ⟨c6, hc6⟩ : ∃ c, c = EC.dbl c1 := ⟨_, rfl⟩
  obtain ⟨c7, hc7⟩ : ∃ c, c = c6 + c1 := ⟨_, rfl⟩
  obtain ⟨c8, hc8⟩ : ∃ c, c = c7 * c7 := ⟨_, rfl⟩
  obtain ⟨c9, hc9⟩ : ∃ c, c = EC.dbl c5 := ⟨_, rfl⟩
  obtain ⟨c10, hc10⟩ : ∃ c, c = c8 - c9 := ⟨_, rfl⟩
  obtain ⟨c11, hc11⟩ : ∃ c, c = c5 - c10 := ⟨_, rfl⟩
  obtain ⟨c12, hc12⟩ : ∃ c, c = c7 * c11 := ⟨_, rfl⟩
  obtain ⟨c13, hc13⟩ : ∃ c, c = c2 * c2 := ⟨_, rfl⟩
  obtain ⟨c14, hc14⟩ : ∃ c, c = EC.dbl c13 := ⟨_, rfl⟩
  obtain ⟨c15, hc15⟩ : ∃ c, c = EC.dbl c14 := ⟨_, rfl⟩
  obtain ⟨c16, hc16⟩ : ∃ c, c = EC.dbl c15 := ⟨_, rfl⟩
  obtain ⟨c17, hc17⟩ : ∃ c, c = c12 - c16 := ⟨_, rfl⟩
  obtain ⟨c18, hc18⟩ : ∃ c, c = y * z := ⟨_, rfl⟩
  obtain ⟨c19, hc19⟩ : ∃ c, c = EC.dbl c18 := ⟨_, rfl⟩
  have hfin : ((rv c10 c17 c19) : Value) = (rv (EC.twX x y) (EC.twY x y) (EC.twZ y z)) := by
    subst_vars; rfl
  rw [← hfin]
  go_enter Tryz.func92, Tryz.ntmps92
  refine RG.M.enter [(0, (.v (rv x y z)))] 56 (by kernel_rfl) ?_
  intro a0 M0
  repeat refine wp_seq ?_
  refine M0.t [.m 1 [] 0, .m 2 [] 1] [(0, (ws x ++ (ws y ++ (ws z)))), (1, (RG.z 12))] [] [(ws x ++ (ws y ++ (ws z))), (RG.z 12)] [(1, (.p 0 0)), (2, (.p 1 0))] ⟨RG.mk 0 149, RG.mk 1 149, trivial⟩ ?_
  intro j1 i1 a1 w1 M1
  repeat refine wp_seq ?_
  refine M1.d [.s 9 [] (.p 0 0), .x 10 [(9, 0)] (fv x), .s 11 [] (.p 0 0), .x 12 [(11, 2)] (fv x), .c 13 [(10, 1), (12, 3)] (fv c1), .s 14 [] (.p 0 4), .x 15 [(14, 5)] (fv y), .s 16 [] (.p 0 4), .x 17 [(16, 7)] (fv y), .c 18 [(15, 6), (17, 8)] (fv c2), .m 3 [] 2, .m 4 [] 3, .u [(3, 10), (13, 4)] 2, .u [(4, 11), (18, 9)] 3] [(10, (RG.z 4)), (11, (RG.z 4))] [(2, 12, (ws c1)), (3, 13, (ws c2))] [(ws x ++ (ws y ++ (ws z))), (RG.z 12), (ws c1), (ws c2)] [(1, (.p 0 0)), (2, (.p 1 0)), (3, (.p 2 0)), (4, (.p 3 0))] ⟨RG.st, RG.ld u115 i115, RG.st, RG.ld u115 i115, RG.cl ((CTimes_c C x x).e hc1), RG.st, RG.ld u115 i115, RG.st, RG.ld u115 i115, RG.cl ((CTimes_c C y y).e hc2), RG.mk 2 147, RG.mk 3 147, RG.pt i115, RG.pt i115, trivial⟩ ?_
  intro j2 i2 a2 w2 M2
  repeat refine wp_seq ?_
  refine M2.t [.s 19 [] (.p 0 0), .x 20 [(19, 0)] (fv x), .x 21 [] (fv c2), .c 22 [(20, 1), (21, 2)] (fv c3), .c 23 [(22, 3)] (fv c4), .c 24 [(23, 4)] (fv c5), .m 5 [] 4, .u [(5, 6), (24, 5)] 4] [(6, (RG.z 4))] [(4, 7, (ws c5))] [(ws x ++ (ws y ++ (ws z))), (RG.z 12), (ws c1), (ws c2), (ws c5)] [(1, (.p 0 0)), (2, (.p 1 0)), (3, (.p 2 0)), (4, (.p 3 0)), (5, (.p 4 0))] ⟨RG.st, RG.ld u115 i115, RG.ld u115 i115, RG.cl ((CTimes_c C x c2).e hc3), RG.cl ((double_c C c3).e hc4), RG.cl ((double_c C c4).e hc5), RG.mk 4 147, RG.pt i115, trivial⟩ ?_
  intro j3 a3 w3 M3
  repeat refine wp_seq ?_
  refine M3.d [.x 25 [] (fv c1), .c 26 [(25, 0)] (fv c6), .x 27 [] (fv c1), .c 28 [(26, 1), (27, 2)] (fv c7), .m 6 [] 5, .u [(6, 4), (28, 3)] 5] [(4, (RG.z 4))] [(5, 5, (ws c7))] [(ws x ++ (ws y ++ (ws z))), (RG.z 12), (ws c1), (ws c2), (ws c5), (ws c7)] [(1, (.p 0 0)), (2, (.p 1 0)), (4, (.p 3 0)), (5, (.p 4 0)), (6, (.p 5 0))] ⟨RG.ld u115 i115, RG.cl ((double_c C c1).e hc6), RG.ld u115 i115, RG.cl ((CPlus_c C c6 c1).e hc7), RG.mk 5 147, RG.pt i115, trivial⟩ ?_
  intro j4 a4 w4 M4
  repeat refine wp_seq ?_
  refine M4.d [.x 29 [] (fv c7), .x 30 [] (fv c7), .c 31 [(29, 0), (30, 1)] (fv c8), .x 32 [] (fv c5), .c 33 [(32, 3)] (fv c9), .c 34 [(31, 2), (33, 4)] (fv c10), .m 7 [] 6, .u [(7, 6), (34, 5)] 6] [(6, (RG.z 4))] [(6, 7, (ws c10))] [(ws x ++ (ws y ++ (ws z))), (RG.z 12), (ws c1), (ws c2), (ws c5), (ws c7), (ws c10)] [(1, (.p 0 0)), (2, (.p 1 0)), (4, (.p 3 0)), (5, (.p 4 0)), (6, (.p 5 0)), (7, (.p 6 0))] ⟨RG.ld u115 i115, RG.ld u115 i115, RG.cl ((CTimes_c C c7 c7).e hc8), RG.ld u115 i115, RG.cl ((double_c C c5).e hc9), RG.cl ((CMinus_c C c8 c9).e hc10), RG.mk 6 147, RG.pt i115, trivial⟩ ?_
  intro j5 a5 w5 M5
  repeat refine wp_seq ?_
  refine M5.d [.x 35 [] (fv c7), .x 36 [] (fv c5), .x 37 [] (fv c10), .c 38 [(36, 1), (37, 2)] (fv c11), .c 39 [(35, 0), (38, 3)] (fv c12), .x 40 [] (fv c2), .x 41 [] (fv c2), .c 42 [(40, 5), (41, 6)] (fv c13), .c 43 [(42, 7)] (fv c14), .c 44 [(43, 8)] (fv c15), .c 45 [(44, 9)] (fv c16), .c 46 [(39, 4), (45, 10)] (fv c17), .m 8 [] 7, .u [(8, 12), (46, 11)] 7] [(12, (RG.z 4))] [(7, 13, (ws c17))] [(ws x ++ (ws y ++ (ws z))), (RG.z 12), (ws c1), (ws c2), (ws c5), (ws c7), (ws c10), (ws c17)] [(1, (.p 0 0)), (2, (.p 1 0)), (7, (.p 6 0)), (8, (.p 7 0))] ⟨RG.ld u115 i115, RG.ld u115 i115, RG.ld u115 i115, RG.cl ((CMinus_c C c5 c10).e hc11), RG.cl ((CTimes_c C c7 c11).e hc12), RG.ld u115 i115, RG.ld u115 i115, RG.cl ((CTimes_c C c2 c2).e hc13), RG.cl ((double_c C c13).e hc14), RG.cl ((double_c C c14).e hc15), RG.cl ((double_c C c15).e hc16), RG.cl ((CMinus_c C c12 c16).e hc17), RG.mk 7 147, RG.pt i115, trivial⟩ ?_
  intro j6 a6 w6 M6
  repeat refine wp_seq ?_
  refine M6.d [.x 47 [] (fv c10), .x 48 [] (fv c17), .s 49 [] (.p 0 4), .x 50 [(49, 2)] (fv y), .s 51 [] (.p 0 8), .x 52 [(51, 4)] (fv z), .c 53 [(50, 3), (52, 5)] (fv c18), .c 54 [(53, 6)] (fv c19), .x 55 [(47, 0), (48, 1), (54, 7)] (rv c10 c17 c19), .u [(55, 8)] 1] [] [(1, 9, (ws c10 ++ (ws c17 ++ (ws c19))))] [(ws x ++ (ws y ++ (ws z))), (ws c10 ++ (ws c17 ++ (ws c19))), (ws c1), (ws c2), (ws c5), (ws c7), (ws c10), (ws c17)] [(2, (.p 1 0))] ⟨RG.ld u115 i115, RG.ld u115 i115, RG.st, RG.ld u115 i115, RG.st, RG.ld u115 i115, RG.cl ((CTimes_c C y z).e hc18), RG.cl ((double_c C c18).e hc19), RG.st, RG.pt i117, trivial⟩ ?_
  intro a7 w7 M7
  refine wp_ret ?_
  refine bodyPost_ret (v := (rv c10 c17 c19)) (RG.results_row M7.st 2 149 rfl 1 _ rfl (M7.at (s := (.p 1 0))) u117 i117) M7.sl.defers ?_
  exact ⟨_, rfl, M7.st.bel.below, rfl⟩
set_option maxHeartbeats 2000000 in
set_option maxRecDepth 100000 in
theorem opposite_c (C : Fld P) (x y z : Fin P) : Gives 123 #[(rv x y z)] (rv x (0 - y) z) := by
  intro w
  obtain ⟨c1, hc1⟩ : ∃ c, c = (0 : Fin P) - y := ⟨_, rfl⟩
  have hfin : ((rv x c1 z) : Value) = (rv x (0 - y) z) := by
    subst_vars; rfl
  rw [← hfin]
  go_enter Tryz.func123, Tryz.ntmps123
  refine RG.M.enter [(0, (.v (rv x y z)))] 12 (by kernel_rfl) ?_
  intro a0 M0
  repeat refine wp_seq ?_
  refine M0.t [.m 1 [] 0, .m 2 [] 1] [(0, (ws x ++ (ws y ++ (ws z)))), (1, (RG.z 12))] [] [(ws x ++ (ws y ++ (ws z))), (RG.z 12)] [(1, (.p 0 0)), (2, (.p 1 0))] ⟨RG.mk 0 149, RG.mk 1 149, trivial⟩ ?_
  intro j1 i1 a1 w1 M1
  repeat refine wp_seq ?_
  refine M1.d [.s 3 [] (.p 0 0), .x 4 [(3, 0)] (fv x), .x 5 [] (fv (0 : Fin P)), .s 6 [] (.p 0 4), .x 7 [(6, 3)] (fv y), .c 8 [(5, 2), (7, 4)] (fv c1), .s 9 [] (.p 0 8), .x 10 [(9, 6)] (fv z), .x 11 [(4, 1), (8, 5), (10, 7)] (rv x c1 z), .u [(11, 8)] 1] [] [(1, 9, (ws x ++ (ws c1 ++ (ws z))))] [(ws x ++ (ws y ++ (ws z))), (ws x ++ (ws c1 ++ (ws z)))] [(2, (.p 1 0))] ⟨RG.st, RG.ld u115 i115, RG.se (zero_fv (P := P)), RG.st, RG.ld u115 i115, RG.cl ((CMinus_c C (0 : Fin P) y).e hc1), RG.st, RG.ld u115 i115, RG.st, RG.pt i117, trivial⟩ ?_
  intro a2 w2 M2
  refine wp_ret ?_
  refine bodyPost_ret (v := (rv x c1 z)) (RG.results_row M2.st 2 149 rfl 1 _ rfl (M2.at (s := (.p 1 0))) u117 i117) M2.sl.defers ?_
  exact ⟨_, rfl, M2.st.bel.below, rfl⟩
set_option maxHeartbeats 2000000 in
set_option maxRecDepth 100000 in
theorem point_c (C : Fld P) (x y z : Fin P) : Gives 95 #[(rv x y z)] (pv (x * (EC.inv z * EC.inv z)) (y * (EC.inv z * EC.inv z) * EC.inv z)) := by
  intro w
  obtain ⟨c1, hc1⟩ : ∃ c, c = EC.inv z := ⟨_, rfl⟩
  obtain ⟨c2, hc2⟩ : ∃ c, c = c1 * c1 := ⟨_, rfl⟩
  obtain ⟨c3, hc3⟩ : ∃ c, c = x * c2 := ⟨_, rfl⟩
  obtain ⟨c4, hc4⟩ : ∃ c, c = y * c2 := ⟨_, rfl⟩
  obtain ⟨c5, hc5⟩ : ∃ c, c = c4 * c1 := ⟨_, rfl⟩
  have hfin : ((pv c3 c5) : Value) = (pv (x * (EC.inv z * EC.inv z)) (y * (EC.inv z * EC.inv z) * EC.inv z)) := by
    subst_vars; rfl
  rw [← hfin]
  go_enter Tryz.func95, Tryz.ntmps95
  refine RG.M.enter [(0, (.v (rv x y z)))] 27 (by kernel_rfl) ?_
  intro a0 M0
  repeat refine wp_seq ?_
  refine M0.t [.m 1 [] 0, .m 2 [] 1] [(0, (ws x ++ (ws y ++ (ws z)))), (1, (RG.z 8))] [] [(ws x ++ (ws y ++ (ws z))), (RG.z 8)] [(1, (.p 0 0)), (2, (.p 1 0))] ⟨RG.mk 0 149, RG.mk 1 107, trivial⟩ ?_
  intro j1 i1 a1 w1 M1
  repeat refine wp_seq ?_
  refine M1.d [.c 5 [] gv0, .s 6 [] (.p 0 8), .x 7 [(6, 1)] (fv z), .c 8 [(7, 2)] (fv z), .c 9 [(5, 0), (8, 3)] (fv c1), .c 10 [(9, 4)] (fv c1), .m 3 [] 2, .u [(3, 6), (10, 5)] 2] [(6, (RG.z 4))] [(2, 7, (ws c1))] [(ws x ++ (ws y ++ (ws z))), (RG.z 8), (ws c1)] [(1, (.p 0 0)), (2, (.p 1 0)), (3, (.p 2 0))] ⟨RG.cl (Coordinates_c), RG.st, RG.ld u115 i115, RG.cl (Numb_c C z), RG.cl ((Inverse_c C z).e hc1), RG.cl (Coord_c C c1), RG.mk 2 147, RG.pt i115, trivial⟩ ?_
  intro j2 a2 w2 M2
  repeat refine wp_seq ?_
  refine M2.t [.x 11 [] (fv c1), .x 12 [] (fv c1), .c 13 [(11, 0), (12, 1)] (fv c2), .m 4 [] 3, .u [(4, 3), (13, 2)] 3] [(3, (RG.z 4))] [(3, 4, (ws c2))] [(ws x ++ (ws y ++ (ws z))), (RG.z 8), (ws c1), (ws c2)] [(1, (.p 0 0)), (2, (.p 1 0)), (3, (.p 2 0)), (4, (.p 3 0))] ⟨RG.ld u115 i115, RG.ld u115 i115, RG.cl ((CTimes_c C c1 c1).e hc2), RG.mk 3 147, RG.pt i115, trivial⟩ ?_
  intro j3 a3 w3 M3
  repeat refine wp_seq ?_
  refine M3.d [.s 14 [] (.p 0 0), .x 15 [(14, 0)] (fv x), .x 16 [] (fv c2), .c 17 [(15, 1), (16, 2)] (fv c3), .c 18 [(17, 3)] (fv c3), .s 19 [] (.p 0 4), .x 20 [(19, 5)] (fv y), .x 21 [] (fv c2), .c 22 [(20, 6), (21, 7)] (fv c4), .x 23 [] (fv c1), .c 24 [(22, 8), (23, 9)] (fv c5), .c 25 [(24, 10)] (fv c5), .x 26 [(18, 4), (25, 11)] (pv c3 c5), .u [(26, 12)] 1] [] [(1, 13, (ws c3 ++ (ws c5)))] [(ws x ++ (ws y ++ (ws z))), (ws c3 ++ (ws c5)), (ws c1), (ws c2)] [(2, (.p 1 0))] ⟨RG.st, RG.ld u115 i115, RG.ld u115 i115, RG.cl ((CTimes_c C x c2).e hc3), RG.cl (Numb_c C c3), RG.st, RG.ld u115 i115, RG.ld u115 i115, RG.cl ((CTimes_c C y c2).e hc4), RG.ld u115 i115, RG.cl ((CTimes_c C c4 c1).e hc5), RG.cl (Numb_c C c5), RG.st, RG.pt i109, trivial⟩ ?_
  intro a4 w4 M4
  refine wp_ret ?_
  refine bodyPost_ret (v := (pv c3 c5)) (RG.results_row M4.st 2 107 rfl 1 _ rfl (M4.at (s := (.p 1 0))) u109 i109) M4.sl.defers ?_
  exact ⟨_, rfl, M4.st.bel.below, rfl⟩
end Go.Proofs.YtmepmoalhgehhaaGreatDoor
namespace Go.Proofs.YtmepmoalhgehhaaGreatDoor
open Go.RowKit Go.Sort
variable {P : Nat} [NeZero P]
set_option maxHeartbeats 2000000 in
set_option maxRecDepth 100000 in
theorem nothing_t_c (C : Fld P) (x y z : Fin P)(hz : z = 0)  : Gives 122 #[(rv x y z)] (.bool true) := by
  intro w
  go_enter Tryz.func122, Tryz.ntmps122
  refine RG.M.enter [(0, (.v (rv x y z)))] 7 (by kernel_rfl) ?_
  intro a0 M0
  repeat refine wp_seq ?_
  refine M0.t [.m 1 [] 0, .x 2 [] (.bool false)] [(0, (ws x ++ (ws y ++ (ws z))))] [] [(ws x ++ (ws y ++ (ws z)))] [(1, (.p 0 0)), (2, (.v (.bool false)))] ⟨RG.mk 0 149, RG.st, trivial⟩ ?_
  intro j1 a1 w1 M1
  repeat refine wp_seq ?_
  refine M1.u [.s 3 [] (.p 0 8), .x 4 [(3, 0)] (fv z), .x 5 [] (fv (0 : Fin P)), .x 6 [(4, 1), (5, 2)] (.bool true), .x 2 [(6, 3)] (.bool true)] [(2, (.v (.bool true)))] ⟨RG.st, RG.ld u115 i115, RG.se (zero_fv (P := P)), RG.cert_bin rfl .eql 147 147 4 5 (fv z) (fv (0 : Fin P)) (.bool true) rfl rfl RG.sx RG.sx (fun w => by kernel_rfl) (eqC_t C hz), RG.st, trivial⟩ ?_
  intro a2 w2 M2
  refine wp_ret ?_
  refine bodyPost_ret (v := (.bool true)) (RG.results_t 2 rfl _ (M2.at (s := (.v (.bool true))))) M2.sl.defers ?_
  exact ⟨_, rfl, M2.st.bel.below, rfl⟩
set_option maxHeartbeats 2000000 in
set_option maxRecDepth 100000 in
theorem nothing_f_c (C : Fld P) (x y z : Fin P)(hz : ¬ z = 0)  : Gives 122 #[(rv x y z)] (.bool false) := by
  intro w
  go_enter Tryz.func122, Tryz.ntmps122
  refine RG.M.enter [(0, (.v (rv x y z)))] 7 (by kernel_rfl) ?_
  intro a0 M0
  repeat refine wp_seq ?_
  refine M0.t [.m 1 [] 0, .x 2 [] (.bool false)] [(0, (ws x ++ (ws y ++ (ws z))))] [] [(ws x ++ (ws y ++ (ws z)))] [(1, (.p 0 0)), (2, (.v (.bool false)))] ⟨RG.mk 0 149, RG.st, trivial⟩ ?_
  intro j1 a1 w1 M1
  repeat refine wp_seq ?_
  refine M1.u [.s 3 [] (.p 0 8), .x 4 [(3, 0)] (fv z), .x 5 [] (fv (0 : Fin P)), .x 6 [(4, 1), (5, 2)] (.bool false), .x 2 [(6, 3)] (.bool false)] [(2, (.v (.bool false)))] ⟨RG.st, RG.ld u115 i115, RG.se (zero_fv (P := P)), RG.cert_bin rfl .eql 147 147 4 5 (fv z) (fv (0 : Fin P)) (.bool false) rfl rfl RG.sx RG.sx (fun w => by kernel_rfl) (eqC_f C hz), RG.st, trivial⟩ ?_
  intro a2 w2 M2
  refine wp_ret ?_
  refine bodyPost_ret (v := (.bool false)) (RG.results_t 2 rfl _ (M2.at (s := (.v (.bool false))))) M2.sl.defers ?_
  exact ⟨_, rfl, M2.st.bel.below, rfl⟩
set_option maxHeartbeats 2000000 in
set_option maxRecDepth 100000 in
theorem ratio_t_c (C : Fld P) (x y : Fin P)(hz : x = 0 ∧ y = 0)  : Gives 117 #[(pv x y)] (rv (0 : Fin P) 0 0) := by
  intro w
  have hfin : ((rv (0 : Fin P) (0 : Fin P) (0 : Fin P)) : Value) = (rv (0 : Fin P) 0 0) := by
    subst_vars; rfl
  rw [← hfin]
  go_enter Tryz.func117, Tryz.ntmps117
  refine RG.M.enter [(0, (.v (pv x y)))] 16 (by kernel_rfl) ?_
  intro a0 M0
  repeat refine wp_seq ?_
  refine M0.t [.m 1 [] 0, .m 2 [] 1] [(0, (ws x ++ (ws y))), (1, (RG.z 12))] [] [(ws x ++ (ws y)), (RG.z 12)] [(1, (.p 0 0)), (2, (.p 1 0))] ⟨RG.mk 0 107, RG.mk 1 149, trivial⟩ ?_
  intro j1 i1 a1 w1 M1
  repeat refine wp_seq ?_
  refine M1.u [.x 3 [] (pv x y), .x 4 [] (pv (0 : Fin P) (0 : Fin P)), .x 5 [(3, 0), (4, 1)] (.bool true)] [(2, (.p 1 0)), (5, (.v (.bool true)))] ⟨RG.ld u109 i109, RG.se (zero_pv (P := P)), RG.cert_bin rfl .eql 107 107 3 4 (pv x y) (pv (0 : Fin P) (0 : Fin P)) (.bool true) rfl rfl RG.sx RG.sx (fun w => by kernel_rfl) (eqPt_t C hz), trivial⟩ ?_
  intro a2 w2 M2
  repeat refine wp_seq ?_
  refine wp_cond_true M2.ev ?_
  repeat refine wp_seq ?_
  refine M2.t [.x 6 [] (rv (0 : Fin P) (0 : Fin P) (0 : Fin P)), .u [(6, 0)] 1] [] [(1, 1, (ws (0 : Fin P) ++ (ws (0 : Fin P) ++ (ws (0 : Fin P)))))] [(ws x ++ (ws y)), (ws (0 : Fin P) ++ (ws (0 : Fin P) ++ (ws (0 : Fin P))))] [(2, (.p 1 0))] ⟨RG.se (zero_rv (P := P)), RG.pt i117, trivial⟩ ?_
  intro a3 w3 M3
  refine wp_ret ?_
  refine bodyPost_ret (v := (rv (0 : Fin P) (0 : Fin P) (0 : Fin P))) (RG.results_row M3.st 2 149 rfl 1 _ rfl (M3.at (s := (.p 1 0))) u117 i117) M3.sl.defers ?_
  exact ⟨_, rfl, M3.st.bel.below, rfl⟩
set_option maxHeartbeats 2000000 in
set_option maxRecDepth 100000 in
theorem ratio_f_c (C : Fld P) (x y : Fin P)(hz : ¬ (x = 0 ∧ y = 0))  : Gives 117 #[(pv x y)] (rv x y 1) := by
  intro w
  have hfin : ((rv x y (1 : Fin P)) : Value) = (rv x y 1) := by
    subst_vars; rfl
  rw [← hfin]
  go_enter Tryz.func117, Tryz.ntmps117
  refine RG.M.enter [(0, (.v (pv x y)))] 16 (by kernel_rfl) ?_
  intro a0 M0
  repeat refine wp_seq ?_
  refine M0.t [.m 1 [] 0, .m 2 [] 1] [(0, (ws x ++ (ws y))), (1, (RG.z 12))] [] [(ws x ++ (ws y)), (RG.z 12)] [(1, (.p 0 0)), (2, (.p 1 0))] ⟨RG.mk 0 107, RG.mk 1 149, trivial⟩ ?_
  intro j1 i1 a1 w1 M1
  repeat refine wp_seq ?_
  refine M1.u [.x 3 [] (pv x y), .x 4 [] (pv (0 : Fin P) (0 : Fin P)), .x 5 [(3, 0), (4, 1)] (.bool false)] [(1, (.p 0 0)), (2, (.p 1 0)), (5, (.v (.bool false)))] ⟨RG.ld u109 i109, RG.se (zero_pv (P := P)), RG.cert_bin rfl .eql 107 107 3 4 (pv x y) (pv (0 : Fin P) (0 : Fin P)) (.bool false) rfl rfl RG.sx RG.sx (fun w => by kernel_rfl) (eqPt_f C hz), trivial⟩ ?_
  intro a2 w2 M2
  repeat refine wp_seq ?_
  refine wp_cond_false M2.ev ?_
  refine wp_skip ?_
  repeat refine wp_seq ?_
  refine M2.d [.s 7 [] (.p 0 0), .x 8 [(7, 0)] (fv x), .c 9 [(8, 1)] (fv x), .s 10 [] (.p 0 4), .x 11 [(10, 3)] (fv y), .c 12 [(11, 4)] (fv y), .x 13 [] (fv (1 : Fin P)), .c 14 [(13, 6)] (fv (1 : Fin P)), .x 15 [(9, 2), (12, 5), (14, 7)] (rv x y (1 : Fin P)), .u [(15, 8)] 1] [] [(1, 9, (ws x ++ (ws y ++ (ws (1 : Fin P)))))] [(ws x ++ (ws y)), (ws x ++ (ws y ++ (ws (1 : Fin P))))] [(2, (.p 1 0))] ⟨RG.st, RG.ld u85 i85, RG.cl (Coord_c C x), RG.st, RG.ld u85 i85, RG.cl (Coord_c C y), RG.se (one_fv C), RG.cl (Coord_c C (1 : Fin P)), RG.st, RG.pt i117, trivial⟩ ?_
  intro a3 w3 M3
  refine wp_ret ?_
  refine bodyPost_ret (v := (rv x y (1 : Fin P))) (RG.results_row M3.st 2 149 rfl 1 _ rfl (M3.at (s := (.p 1 0))) u117 i117) M3.sl.defers ?_
  exact ⟨_, rfl, M3.st.bel.below, rfl⟩
set_option maxHeartbeats 4000000 in
set_option maxRecDepth 100000 in
theorem plusJ_any (C : Fld P) (x1 y1 z1 x2 y2 z2 : Fin P) (R : Value) (ha : z1 = 0 → R = rv x2 y2 z2) (hb : ¬ z1 = 0 → z2 = 0 → R = rv x1 y1 z1) (hc : ¬ z1 = 0 → ¬ z2 = 0 → EC.plAx x1 z2 = EC.plAx x2 z1 ∧ EC.plAy y1 z2 = EC.plAy y2 z1 → R = rv (EC.twX x1 y1) (EC.twY x1 y1) (EC.twZ y1 z1)) (hd : ¬ z1 = 0 → ¬ z2 = 0 → ¬ (EC.plAx x1 z2 = EC.plAx x2 z1 ∧ EC.plAy y1 z2 = EC.plAy y2 z1) → R = rv (EC.plX (EC.plAx x1 z2) (EC.plAy y1 z2) (EC.plAx x2 z1) (EC.plAy y2 z1)) (EC.plY (EC.plAx x1 z2) (EC.plAy y1 z2) (EC.plAx x2 z1) (EC.plAy y2 z1)) (EC.plZ z1 z2 (EC.plAx x1 z2) (EC.plAx x2 z1))) : Gives 93 #[(rv x1 y1 z1), (rv x2 y2 z2)] R := by
  intro w
  obtain ⟨c1, hc1⟩ : ∃ c, c = z1 * z1 := ⟨_, rfl⟩
  obtain ⟨c2, hc2⟩ : ∃ c, c = z2 * z2 := ⟨_, rfl⟩
  obtain ⟨c3, hc3⟩ : ∃ c, c = x1 * c2 := ⟨_, rfl⟩
  obtain ⟨c4, hc4⟩ : ∃ c, c = x2 * c1 := ⟨_, rfl⟩
  obtain ⟨c5, hc5⟩ : ∃ c, c = y1 * c2 := ⟨_, rfl⟩
  obtain ⟨c6, hc6⟩ : ∃ c, c = c5 * z2 := ⟨_, rfl⟩
  obtain ⟨c7, hc7⟩ : ∃ c, c = y2 * c1 := ⟨_, rfl⟩
  obtain ⟨c8, hc8⟩ : ∃ c, c = c7 * z1 := ⟨_, rfl⟩
  go_enter Tryz.func93, Tryz.ntmps93
  refine RG.M.enter [(0, (.v (rv x1 y1 z1))), (1, (.v (rv x2 y2 z2)))] 108 (by kernel_rfl) ?_
  intro a0 M0
  repeat refine wp_seq ?_
  refine M0.t [.m 2 [] 0, .m 3 [] 1, .m 4 [] 2] [(0, (ws x1 ++ (ws y1 ++ (ws z1)))), (1, (ws x2 ++ (ws y2 ++ (ws z2)))), (2, (RG.z 12))] [] [(ws x1 ++ (ws y1 ++ (ws z1))), (ws x2 ++ (ws y2 ++ (ws z2))), (RG.z 12)] [(2, (.p 0 0)), (3, (.p 1 0)), (4, (.p 2 0))] ⟨RG.mk 0 149, RG.mk 1 149, RG.mk 2 149, trivial⟩ ?_
  intro j1 i1 m1 a1 w1 M1
  repeat refine wp_seq ?_
  by_cases hz1 : z1 = 0
  · obtain rfl := ha hz1
    refine M1.u [.x 18 [] (rv x1 y1 z1), .c 19 [(18, 0)] (.bool true)] [(3, (.p 1 0)), (4, (.p 2 0)), (19, (.v (.bool true)))] ⟨RG.ld u117 i117, RG.cl (nothing_t_c C x1 y1 z1 hz1), trivial⟩ ?_
    intro a2 w2 M2
    repeat refine wp_seq ?_
    refine wp_cond_true M2.ev ?_
    repeat refine wp_seq ?_
    refine M2.t [.x 20 [] (rv x2 y2 z2), .u [(20, 0)] 2] [] [(2, 1, (ws x2 ++ (ws y2 ++ (ws z2))))] [(ws x1 ++ (ws y1 ++ (ws z1))), (ws x2 ++ (ws y2 ++ (ws z2))), (ws x2 ++ (ws y2 ++ (ws z2)))] [(4, (.p 2 0))] ⟨RG.ld u117 i117, RG.pt i117, trivial⟩ ?_
    intro a3 w3 M3
    refine wp_ret ?_
    refine bodyPost_ret (v := (rv x2 y2 z2)) (RG.results_row M3.st 4 149 rfl 2 _ rfl (M3.at (s := (.p 2 0))) u117 i117) M3.sl.defers ?_
    exact ⟨_, rfl, M3.st.bel.below, rfl⟩
  refine M1.u [.x 18 [] (rv x1 y1 z1), .c 19 [(18, 0)] (.bool false)] [(2, (.p 0 0)), (3, (.p 1 0)), (4, (.p 2 0)), (19, (.v (.bool false)))] ⟨RG.ld u117 i117, RG.cl (nothing_f_c C x1 y1 z1 hz1), trivial⟩ ?_
  intro a2 w2 M2
  repeat refine wp_seq ?_
  refine wp_cond_false M2.ev ?_
  refine wp_skip ?_
  repeat refine wp_seq ?_
  by_cases hz2 : z2 = 0
  · obtain rfl := hb hz1 hz2
    refine M2.u [.x 21 [] (rv x2 y2 z2), .c 22 [(21, 0)] (.bool true)] [(2, (.p 0 0)), (4, (.p 2 0)), (22, (.v (.bool true)))] ⟨RG.ld u117 i117, RG.cl (nothing_t_c C x2 y2 z2 hz2), trivial⟩ ?_
    intro a3 w3 M3
    repeat refine wp_seq ?_
    refine wp_cond_true M3.ev ?_
    repeat refine wp_seq ?_
    refine M3.t [.x 23 [] (rv x1 y1 z1), .u [(23, 0)] 2] [] [(2, 1, (ws x1 ++ (ws y1 ++ (ws z1))))] [(ws x1 ++ (ws y1 ++ (ws z1))), (ws x2 ++ (ws y2 ++ (ws z2))), (ws x1 ++ (ws y1 ++ (ws z1)))] [(4, (.p 2 0))] ⟨RG.ld u117 i117, RG.pt i117, trivial⟩ ?_
    intro a4 w4 M4
    refine wp_ret ?_
    refine bodyPost_ret (v := (rv x1 y1 z1)) (RG.results_row M4.st 4 149 rfl 2 _ rfl (M4.at (s := (.p 2 0))) u117 i117) M4.sl.defers ?_
    exact ⟨_, rfl, M4.st.bel.below, rfl⟩
  refine M2.u [.x 21 [] (rv x2 y2 z2), .c 22 [(21, 0)] (.bool false)] [(2, (.p 0 0)), (3, (.p 1 0)), (4, (.p 2 0)), (22, (.v (.bool false)))] ⟨RG.ld u117 i117, RG.cl (nothing_f_c C x2 y2 z2 hz2), trivial⟩ ?_
  intro a3 w3 M3
  repeat refine wp_seq ?_
  refine wp_cond_false M3.ev ?_
  refine wp_skip ?_
  repeat refine wp_seq ?_
  refine M3.d [.s 24 [] (.p 0 8), .x 25 [(24, 0)] (fv z1), .s 26 [] (.p 0 8), .x 27 [(26, 2)] (fv z1), .c 28 [(25, 1), (27, 3)] (fv c1), .s 29 [] (.p 1 8), .x 30 [(29, 5)] (fv z2), .s 31 [] (.p 1 8), .x 32 [(31, 7)] (fv z2), .c 33 [(30, 6), (32, 8)] (fv c2), .m 5 [] 3, .m 6 [] 4, .u [(5, 10), (28, 4)] 3, .u [(6, 11), (33, 9)] 4] [(10, (RG.z 4)), (11, (RG.z 4))] [(3, 12, (ws c1)), (4, 13, (ws c2))] [(ws x1 ++ (ws y1 ++ (ws z1))), (ws x2 ++ (ws y2 ++ (ws z2))), (RG.z 12), (ws c1), (ws c2)] [(2, (.p 0 0)), (3, (.p 1 0)), (4, (.p 2 0)), (5, (.p 3 0)), (6, (.p 4 0))] ⟨RG.st, RG.ld u115 i115, RG.st, RG.ld u115 i115, RG.cl ((CTimes_c C z1 z1).e hc1), RG.st, RG.ld u115 i115, RG.st, RG.ld u115 i115, RG.cl ((CTimes_c C z2 z2).e hc2), RG.mk 3 147, RG.mk 4 147, RG.pt i115, RG.pt i115, trivial⟩ ?_
  intro j4 i4 a4 w4 M4
  repeat refine wp_seq ?_
  refine M4.d [.s 34 [] (.p 0 0), .x 35 [(34, 0)] (fv x1), .x 36 [] (fv c2), .c 37 [(35, 1), (36, 2)] (fv c3), .s 38 [] (.p 1 0), .x 39 [(38, 4)] (fv x2), .x 40 [] (fv c1), .c 41 [(39, 5), (40, 6)] (fv c4), .m 7 [] 5, .m 8 [] 6, .u [(7, 8), (37, 3)] 5, .u [(8, 9), (41, 7)] 6] [(8, (RG.z 4)), (9, (RG.z 4))] [(5, 10, (ws c3)), (6, 11, (ws c4))] [(ws x1 ++ (ws y1 ++ (ws z1))), (ws x2 ++ (ws y2 ++ (ws z2))), (RG.z 12), (ws c1), (ws c2), (ws c3), (ws c4)] [(2, (.p 0 0)), (3, (.p 1 0)), (4, (.p 2 0)), (5, (.p 3 0)), (6, (.p 4 0)), (7, (.p 5 0)), (8, (.p 6 0))] ⟨RG.st, RG.ld u115 i115, RG.ld u115 i115, RG.cl ((CTimes_c C x1 c2).e hc3), RG.st, RG.ld u115 i115, RG.ld u115 i115, RG.cl ((CTimes_c C x2 c1).e hc4), RG.mk 5 147, RG.mk 6 147, RG.pt i115, RG.pt i115, trivial⟩ ?_
  intro j5 i5 a5 w5 M5
  repeat refine wp_seq ?_
  refine M5.d [.s 42 [] (.p 0 4), .x 43 [(42, 0)] (fv y1), .x 44 [] (fv c2), .c 45 [(43, 1), (44, 2)] (fv c5), .s 46 [] (.p 1 8), .x 47 [(46, 4)] (fv z2), .c 48 [(45, 3), (47, 5)] (fv c6), .s 49 [] (.p 1 4), .x 50 [(49, 7)] (fv y2), .x 51 [] (fv c1), .c 52 [(50, 8), (51, 9)] (fv c7), .s 53 [] (.p 0 8), .x 54 [(53, 11)] (fv z1), .c 55 [(52, 10), (54, 12)] (fv c8), .m 9 [] 7, .m 10 [] 8, .u [(9, 14), (48, 6)] 7, .u [(10, 15), (55, 13)] 8] [(14, (RG.z 4)), (15, (RG.z 4))] [(7, 16, (ws c6)), (8, 17, (ws c8))] [(ws x1 ++ (ws y1 ++ (ws z1))), (ws x2 ++ (ws y2 ++ (ws z2))), (RG.z 12), (ws c1), (ws c2), (ws c3), (ws c4), (ws c6), (ws c8)] [(2, (.p 0 0)), (3, (.p 1 0)), (4, (.p 2 0)), (7, (.p 5 0)), (8, (.p 6 0)), (9, (.p 7 0)), (10, (.p 8 0))] ⟨RG.st, RG.ld u115 i115, RG.ld u115 i115, RG.cl ((CTimes_c C y1 c2).e hc5), RG.st, RG.ld u115 i115, RG.cl ((CTimes_c C c5 z2).e hc6), RG.st, RG.ld u115 i115, RG.ld u115 i115, RG.cl ((CTimes_c C y2 c1).e hc7), RG.st, RG.ld u115 i115, RG.cl ((CTimes_c C c7 z1).e hc8), RG.mk 7 147, RG.mk 8 147, RG.pt i115, RG.pt i115, trivial⟩ ?_
  intro j6 i6 a6 w6 M6
  repeat refine wp_seq ?_
  by_cases hxy : EC.plAx x1 z2 = EC.plAx x2 z1 ∧ EC.plAy y1 z2 = EC.plAy y2 z1
  · have hR := hc hz1 hz2 hxy
    obtain ⟨hx, hy⟩ := hxy
    obtain ⟨c9, hc9⟩ : ∃ c, c = EC.twX x1 y1 := ⟨_, rfl⟩
    obtain ⟨c10, hc10⟩ : ∃ c, c = EC.twY x1 y1 := ⟨_, rfl⟩
    obtain ⟨c11, hc11⟩ : ∃ c, c = EC.twZ y1 z1 := ⟨_, rfl⟩
    obtain rfl : R = rv c9 c10 c11 := hR.trans (by subst_vars; rfl)
    refine M6.u [.x 56 [] (fv c3), .x 57 [] (fv c4), .x 58 [(56, 0), (57, 1)] (.bool true), .x 59 [(58, 2)] (.bool true), .x 60 [] (fv c6), .x 61 [] (fv c8), .x 62 [(60, 4), (61, 5)] (.bool true), .x 63 [(59, 3), (62, 6)] (.bool true)] [(2, (.p 0 0)), (4, (.p 2 0)), (63, (.v (.bool true)))] ⟨RG.ld u115 i115, RG.ld u115 i115, RG.cert_bin rfl .eql 147 147 56 57 (fv c3) (fv c4) (.bool true) rfl rfl RG.sx RG.sx (fun w => by kernel_rfl) (eqC_t C (by subst_vars; exact hx)), RG.st, RG.ld u115 i115, RG.ld u115 i115, RG.cert_bin rfl .eql 147 147 60 61 (fv c6) (fv c8) (.bool true) rfl rfl RG.sx RG.sx (fun w => by kernel_rfl) (eqC_t C (by subst_vars; exact hy)), RG.st, trivial⟩ ?_
    intro a7 w7 M7
    repeat refine wp_seq ?_
    refine wp_cond_true M7.ev ?_
    repeat refine wp_seq ?_
    refine M7.t [.x 64 [] (rv x1 y1 z1), .c 65 [(64, 0)] (rv c9 c10 c11), .u [(65, 1)] 2] [] [(2, 2, (ws c9 ++ (ws c10 ++ (ws c11))))] [(ws x1 ++ (ws y1 ++ (ws z1))), (ws x2 ++ (ws y2 ++ (ws z2))), (ws c9 ++ (ws c10 ++ (ws c11))), (ws c1), (ws c2), (ws c3), (ws c4), (ws c6), (ws c8)] [(4, (.p 2 0))] ⟨RG.ld u117 i117, RG.cl ((twice_c C x1 y1 z1).e3 hc9 hc10 hc11), RG.pt i117, trivial⟩ ?_
    intro a8 w8 M8
    refine wp_ret ?_
    refine bodyPost_ret (v := (rv c9 c10 c11)) (RG.results_row M8.st 4 149 rfl 2 _ rfl (M8.at (s := (.p 2 0))) u117 i117) M8.sl.defers ?_
    exact ⟨_, rfl, M8.st.bel.below, rfl⟩
  have hR := hd hz1 hz2 hxy
  obtain ⟨c9, hc9⟩ : ∃ c, c = c4 - c3 := ⟨_, rfl⟩
  obtain ⟨c10, hc10⟩ : ∃ c, c = c8 - c6 := ⟨_, rfl⟩
  obtain ⟨c11, hc11⟩ : ∃ c, c = c9 * c9 := ⟨_, rfl⟩
  obtain ⟨c12, hc12⟩ : ∃ c, c = c11 * c9 := ⟨_, rfl⟩
  obtain ⟨c13, hc13⟩ : ∃ c, c = c11 * c3 := ⟨_, rfl⟩
  obtain ⟨c14, hc14⟩ : ∃ c, c = c10 * c10 := ⟨_, rfl⟩
  obtain ⟨c15, hc15⟩ : ∃ c, c = c14 - c12 := ⟨_, rfl⟩
  obtain ⟨c16, hc16⟩ : ∃ c, c = EC.dbl c13 := ⟨_, rfl⟩
  obtain ⟨c17, hc17⟩ : ∃ c, c = c15 - c16 := ⟨_, rfl⟩
  obtain ⟨c18, hc18⟩ : ∃ c, c = c13 - c17 := ⟨_, rfl⟩
  obtain ⟨c19, hc19⟩ : ∃ c, c = c10 * c18 := ⟨_, rfl⟩
  obtain ⟨c20, hc20⟩ : ∃ c, c = c12 * c6 := ⟨_, rfl⟩
  obtain ⟨c21, hc21⟩ : ∃ c, c = c19 - c20 := ⟨_, rfl⟩
  obtain ⟨c22, hc22⟩ : ∃ c, c = z1 * z2 := ⟨_, rfl⟩
  obtain ⟨c23, hc23⟩ : ∃ c, c = c22 * c9 := ⟨_, rfl⟩
  obtain rfl : R = rv c17 c21 c23 := hR.trans (by subst_vars; rfl)
  by_cases hx : EC.plAx x1 z2 = EC.plAx x2 z1
  case' pos =>
    have hy : ¬ EC.plAy y1 z2 = EC.plAy y2 z1 := fun h => hxy ⟨hx, h⟩
    refine M6.u [.x 56 [] (fv c3), .x 57 [] (fv c4), .x 58 [(56, 0), (57, 1)] (.bool true), .x 59 [(58, 2)] (.bool true), .x 60 [] (fv c6), .x 61 [] (fv c8), .x 62 [(60, 4), (61, 5)] (.bool false), .x 63 [(59, 3), (62, 6)] (.bool false)] [(2, (.p 0 0)), (3, (.p 1 0)), (4, (.p 2 0)), (7, (.p 5 0)), (8, (.p 6 0)), (9, (.p 7 0)), (10, (.p 8 0)), (63, (.v (.bool false)))] ⟨RG.ld u115 i115, RG.ld u115 i115, RG.cert_bin rfl .eql 147 147 56 57 (fv c3) (fv c4) (.bool true) rfl rfl RG.sx RG.sx (fun w => by kernel_rfl) (eqC_t C (by subst_vars; exact hx)), RG.st, RG.ld u115 i115, RG.ld u115 i115, RG.cert_bin rfl .eql 147 147 60 61 (fv c6) (fv c8) (.bool false) rfl rfl RG.sx RG.sx (fun w => by kernel_rfl) (eqC_f C (by subst_vars; exact hy)), RG.st, trivial⟩ ?_
  case' neg =>
    refine M6.u [.x 56 [] (fv c3), .x 57 [] (fv c4), .x 58 [(56, 0), (57, 1)] (.bool false), .x 59 [(58, 2)] (.bool false), ⟨some 60, [], (.v undef), .pass⟩, ⟨some 61, [], (.v undef), .pass⟩, ⟨some 62, [], (.v undef), .pass⟩, .x 63 [(59, 3), (62, 6)] (.bool false)] [(2, (.p 0 0)), (3, (.p 1 0)), (4, (.p 2 0)), (7, (.p 5 0)), (8, (.p 6 0)), (9, (.p 7 0)), (10, (.p 8 0)), (63, (.v (.bool false)))] ⟨RG.ld u115 i115, RG.ld u115 i115, RG.cert_bin rfl .eql 147 147 56 57 (fv c3) (fv c4) (.bool false) rfl rfl RG.sx RG.sx (fun w => by kernel_rfl) (eqC_f C (by subst_vars; exact hx)), RG.st, RG.cert_pass rfl rfl, RG.cert_pass rfl rfl, RG.cert_pass rfl rfl, RG.st, trivial⟩ ?_
  all_goals
    intro a7 w7 M7
    repeat refine wp_seq ?_
    refine wp_cond_false M7.ev ?_
    refine wp_skip ?_
    repeat refine wp_seq ?_
    refine M7.d [.x 66 [] (fv c4), .x 67 [] (fv c3), .c 68 [(66, 0), (67, 1)] (fv c9), .x 69 [] (fv c8), .x 70 [] (fv c6), .c 71 [(69, 3), (70, 4)] (fv c10), .m 11 [] 9, .m 12 [] 10, .u [(11, 6), (68, 2)] 9, .u [(12, 7), (71, 5)] 10] [(6, (RG.z 4)), (7, (RG.z 4))] [(9, 8, (ws c9)), (10, 9, (ws c10))] [(ws x1 ++ (ws y1 ++ (ws z1))), (ws x2 ++ (ws y2 ++ (ws z2))), (RG.z 12), (ws c1), (ws c2), (ws c3), (ws c4), (ws c6), (ws c8), (ws c9), (ws c10)] [(2, (.p 0 0)), (3, (.p 1 0)), (4, (.p 2 0)), (7, (.p 5 0)), (9, (.p 7 0)), (11, (.p 9 0)), (12, (.p 10 0))] ⟨RG.ld u115 i115, RG.ld u115 i115, RG.cl ((CMinus_c C c4 c3).e hc9), RG.ld u115 i115, RG.ld u115 i115, RG.cl ((CMinus_c C c8 c6).e hc10), RG.mk 9 147, RG.mk 10 147, RG.pt i115, RG.pt i115, trivial⟩ ?_
    intro j8 i8 a8 w8 M8
    repeat refine wp_seq ?_
    refine M8.t [.x 72 [] (fv c9), .x 73 [] (fv c9), .c 74 [(72, 0), (73, 1)] (fv c11), .m 13 [] 11, .u [(13, 3), (74, 2)] 11] [(3, (RG.z 4))] [(11, 4, (ws c11))] [(ws x1 ++ (ws y1 ++ (ws z1))), (ws x2 ++ (ws y2 ++ (ws z2))), (RG.z 12), (ws c1), (ws c2), (ws c3), (ws c4), (ws c6), (ws c8), (ws c9), (ws c10), (ws c11)] [(2, (.p 0 0)), (3, (.p 1 0)), (4, (.p 2 0)), (7, (.p 5 0)), (9, (.p 7 0)), (11, (.p 9 0)), (12, (.p 10 0)), (13, (.p 11 0))] ⟨RG.ld u115 i115, RG.ld u115 i115, RG.cl ((CTimes_c C c9 c9).e hc11), RG.mk 11 147, RG.pt i115, trivial⟩ ?_
    intro j9 a9 w9 M9
    repeat refine wp_seq ?_
    refine M9.d [.x 75 [] (fv c11), .x 76 [] (fv c9), .c 77 [(75, 0), (76, 1)] (fv c12), .x 78 [] (fv c11), .x 79 [] (fv c3), .c 80 [(78, 3), (79, 4)] (fv c13), .m 14 [] 12, .m 15 [] 13, .u [(14, 6), (77, 2)] 12, .u [(15, 7), (80, 5)] 13] [(6, (RG.z 4)), (7, (RG.z 4))] [(12, 8, (ws c12)), (13, 9, (ws c13))] [(ws x1 ++ (ws y1 ++ (ws z1))), (ws x2 ++ (ws y2 ++ (ws z2))), (RG.z 12), (ws c1), (ws c2), (ws c3), (ws c4), (ws c6), (ws c8), (ws c9), (ws c10), (ws c11), (ws c12), (ws c13)] [(2, (.p 0 0)), (3, (.p 1 0)), (4, (.p 2 0)), (9, (.p 7 0)), (11, (.p 9 0)), (12, (.p 10 0)), (14, (.p 12 0)), (15, (.p 13 0))] ⟨RG.ld u115 i115, RG.ld u115 i115, RG.cl ((CTimes_c C c11 c9).e hc12), RG.ld u115 i115, RG.ld u115 i115, RG.cl ((CTimes_c C c11 c3).e hc13), RG.mk 12 147, RG.mk 13 147, RG.pt i115, RG.pt i115, trivial⟩ ?_
    intro j10 i10 a10 w10 M10
    repeat refine wp_seq ?_
    refine M10.d [.x 81 [] (fv c10), .x 82 [] (fv c10), .c 83 [(81, 0), (82, 1)] (fv c14), .x 84 [] (fv c12), .c 85 [(83, 2), (84, 3)] (fv c15), .x 86 [] (fv c13), .c 87 [(86, 5)] (fv c16), .c 88 [(85, 4), (87, 6)] (fv c17), .m 16 [] 14, .u [(16, 8), (88, 7)] 14] [(8, (RG.z 4))] [(14, 9, (ws c17))] [(ws x1 ++ (ws y1 ++ (ws z1))), (ws x2 ++ (ws y2 ++ (ws z2))), (RG.z 12), (ws c1), (ws c2), (ws c3), (ws c4), (ws c6), (ws c8), (ws c9), (ws c10), (ws c11), (ws c12), (ws c13), (ws c17)] [(2, (.p 0 0)), (3, (.p 1 0)), (4, (.p 2 0)), (9, (.p 7 0)), (11, (.p 9 0)), (12, (.p 10 0)), (14, (.p 12 0)), (15, (.p 13 0)), (16, (.p 14 0))] ⟨RG.ld u115 i115, RG.ld u115 i115, RG.cl ((CTimes_c C c10 c10).e hc14), RG.ld u115 i115, RG.cl ((CMinus_c C c14 c12).e hc15), RG.ld u115 i115, RG.cl ((double_c C c13).e hc16), RG.cl ((CMinus_c C c15 c16).e hc17), RG.mk 14 147, RG.pt i115, trivial⟩ ?_
    intro j11 a11 w11 M11
    repeat refine wp_seq ?_
    refine M11.d [.x 89 [] (fv c10), .x 90 [] (fv c13), .x 91 [] (fv c17), .c 92 [(90, 1), (91, 2)] (fv c18), .c 93 [(89, 0), (92, 3)] (fv c19), .x 94 [] (fv c12), .x 95 [] (fv c6), .c 96 [(94, 5), (95, 6)] (fv c20), .c 97 [(93, 4), (96, 7)] (fv c21), .m 17 [] 15, .u [(17, 9), (97, 8)] 15] [(9, (RG.z 4))] [(15, 10, (ws c21))] [(ws x1 ++ (ws y1 ++ (ws z1))), (ws x2 ++ (ws y2 ++ (ws z2))), (RG.z 12), (ws c1), (ws c2), (ws c3), (ws c4), (ws c6), (ws c8), (ws c9), (ws c10), (ws c11), (ws c12), (ws c13), (ws c17), (ws c21)] [(2, (.p 0 0)), (3, (.p 1 0)), (4, (.p 2 0)), (11, (.p 9 0)), (16, (.p 14 0)), (17, (.p 15 0))] ⟨RG.ld u115 i115, RG.ld u115 i115, RG.ld u115 i115, RG.cl ((CMinus_c C c13 c17).e hc18), RG.cl ((CTimes_c C c10 c18).e hc19), RG.ld u115 i115, RG.ld u115 i115, RG.cl ((CTimes_c C c12 c6).e hc20), RG.cl ((CMinus_c C c19 c20).e hc21), RG.mk 15 147, RG.pt i115, trivial⟩ ?_
    intro j12 a12 w12 M12
    repeat refine wp_seq ?_
    refine M12.d [.x 98 [] (fv c17), .x 99 [] (fv c21), .s 100 [] (.p 0 8), .x 101 [(100, 2)] (fv z1), .s 102 [] (.p 1 8), .x 103 [(102, 4)] (fv z2), .c 104 [(101, 3), (103, 5)] (fv c22), .x 105 [] (fv c9), .c 106 [(104, 6), (105, 7)] (fv c23), .x 107 [(98, 0), (99, 1), (106, 8)] (rv c17 c21 c23), .u [(107, 9)] 2] [] [(2, 10, (ws c17 ++ (ws c21 ++ (ws c23))))] [(ws x1 ++ (ws y1 ++ (ws z1))), (ws x2 ++ (ws y2 ++ (ws z2))), (ws c17 ++ (ws c21 ++ (ws c23))), (ws c1), (ws c2), (ws c3), (ws c4), (ws c6), (ws c8), (ws c9), (ws c10), (ws c11), (ws c12), (ws c13), (ws c17), (ws c21)] [(4, (.p 2 0))] ⟨RG.ld u115 i115, RG.ld u115 i115, RG.st, RG.ld u115 i115, RG.st, RG.ld u115 i115, RG.cl ((CTimes_c C z1 z2).e hc22), RG.ld u115 i115, RG.cl ((CTimes_c C c22 c9).e hc23), RG.st, RG.pt i117, trivial⟩ ?_
    intro a13 w13 M13
    refine wp_ret ?_
    refine bodyPost_ret (v := (rv c17 c21 c23)) (RG.results_row M13.st 4 149 rfl 2 _ rfl (M13.at (s := (.p 2 0))) u117 i117) M13.sl.defers ?_
    exact ⟨_, rfl, M13.st.bel.below, rfl⟩
end Go.Proofs.YtmepmoalhgehhaaGreatDoor
