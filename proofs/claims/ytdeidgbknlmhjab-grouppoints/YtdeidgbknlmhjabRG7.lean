import Derived.Test.YtdeidgbknlmhjabRG6
set_option linter.unusedVariables false
set_option linter.unusedSimpArgs false
namespace Go.Proofs.Ytdeidgbknlmhjab.RG
open Go Go.RowKit

variable {P : Program} {ops : Array Oper} {Q : Exit → Act → World → Prop} {w0 w : World} {k0 : Nat} {X : List Nat} {its : List It} {bl : List Bl} {olds : List (Tmp × SV)} {a0 a : Act} {i : Nat} {o : Oper} {it : It} {μ : Nat → Nat}

/-- How many slots; no call is put off. -/
structure Sl (a : Act) (n : Nat) : Prop where
  size : a.tmps.size = n
  defers : a.defers = []
theorem Sl.puts {n : Nat} (h : Sl a n) : Sl (puts μ its a) n := ⟨by rw [puts_size]; exact h.size, by rw [puts_defers]; exact h.defers⟩
theorem put_old {t : Tmp} {v : Value} (h : a.tmps[t]? = some v) (hc : its.all (fun it => it.dst != some t) = true) : (puts μ its a).tmps[t]? = some v := by
  rw [puts_other μ its a t (fun it hm => by simpa using List.all_eq_true.1 hc it hm)]
  exact h
theorem put_new {n : Nat} (hl : Sl a n) (j : Nat) {jt : It} {d : Tmp} (hB : dstB its = true) (hj : its[j]? = some jt) (hd : jt.dst = some d) (hs : decide (d < n) = true) : (puts μ its a).tmps[d]? = some (jt.out.at μ) :=
  puts_same μ its a j jt d hB hj hd (by rw [hl.size]; simpa using hs)
theorem eval_of {t : Tmp} {v : Value} (h : a.tmps[t]? = some v) : a.eval (.tmp t) = v := by
  show a.tmps.getD t undef = v
  rw [Array.getD_eq_getD_getElem?, h]
  rfl

theorem results_none {fn : Func} {tmps : Array Value} (hr : fn.results = #[]) : (results fn tmps).run P w = .ok (.tuple #[]) w := by
  unfold results
  rw [hr]
  simp
theorem var1 {c : Code} {v0 : Value} {n : Nat} (h0 : a.tmps[0]? = some v0) (hs : a.tmps.size = n) (hd : a.defers = []) (h : ∀ a, Sl a n → a.tmps[0]? = some v0 → c.wp P Q a w) : c.wp P Q a w := h a ⟨hs, hd⟩ h0
theorem var2 {c : Code} {v0 v1 : Value} {n : Nat} (h0 : a.tmps[0]? = some v0) (h1 : a.tmps[1]? = some v1) (hs : a.tmps.size = n) (hd : a.defers = []) (h : ∀ a, Sl a n → a.tmps[0]? = some v0 → a.tmps[1]? = some v1 → c.wp P Q a w) : c.wp P Q a w := h a ⟨hs, hd⟩ h0 h1
theorem var3 {c : Code} {v0 v1 v2 : Value} {n : Nat} (h0 : a.tmps[0]? = some v0) (h1 : a.tmps[1]? = some v1) (h2 : a.tmps[2]? = some v2) (hs : a.tmps.size = n) (hd : a.defers = []) (h : ∀ a, Sl a n → a.tmps[0]? = some v0 → a.tmps[1]? = some v1 → a.tmps[2]? = some v2 → c.wp P Q a w) : c.wp P Q a w := h a ⟨hs, hd⟩ h0 h1 h2

theorem cert_nil (hk : it.kind = .stay) (t : Tmp) (ho : o.op = .nilCheck (.tmp t)) (s : SV) (hs : ∀ μ : Nat → Nat, ∃ p : Addr, s.at μ = .pointer (some p)) (hout : it.out = s) (hx : ∀ (μ : Nat → Nat) (a : Act), Known ops i its olds it.need μ a → a.eval (.tmp t) = s.at μ) : Cert P Q w0 k0 X ops i its bl olds o it := by
  refine cert_stay hk fun μ a w hK _ => ?_
  obtain ⟨p, hp⟩ := hs μ
  unfold execOp
  rw [ho, hout]
  dsimp only
  rw [hx μ a hK, hp]
  rfl
theorem cert_call2c (hk : it.kind = .call) (f : FuncId) (t1 t2 : Tmp) (v1 v2 c v : Value) (hout : it.out = .v v) (hrun : ∀ (a : Act) (w : World), (execOp a.eval o).run P w = .ok (.enter f #[a.eval (.tmp t1), a.eval (.tmp t2), c]) w)
    (h1 : ∀ (μ : Nat → Nat) (a : Act), Known ops i its olds it.need μ a → a.eval (.tmp t1) = v1) (h2 : ∀ (μ : Nat → Nat) (a : Act), Known ops i its olds it.need μ a → a.eval (.tmp t2) = v2)
    (hc : ∀ w, Calls P f #[v1, v2, c] w (Ret fun e w' => Below w.heap.size w w' ∧ e = v)) : Cert P Q w0 k0 X ops i its bl olds o it :=
  cert_call hk f #[v1, v2, c] v hout (fun μ a w hK _ => by rw [hrun, h1 μ a hK, h2 μ a hK]) (fun w _ => hc w)
theorem cert_fieldV (hk : it.kind = .stay) (T : TypeId) (t : Tmp) (f : Nat) (v v' : Value) (ho : o.op = .fieldAddr T (.tmp t) f) (hout : it.out = .v v') (hx : ∀ (μ : Nat → Nat) (a : Act), Known ops i its olds it.need μ a → a.eval (.tmp t) = v)
    (hf : ∀ w : World, (Instr.fieldAt T v f).run P w = .ok v' w) : Cert P Q w0 k0 X ops i its bl olds o it := by
  refine cert_stay hk fun μ a w hK _ => ?_
  unfold execOp
  rw [ho, hout]
  dsimp only
  rw [hx μ a hK, Sem.run_bind, hf]
  rfl
/-- make([]T, n). -/
theorem cert_makes (b : Nat) (hk : it.kind = .make b) (e : Bl) (hb : bl[b]? = some e) (T E : TypeId) (t1 t2 : Tmp) (n : Nat) (hout : it.out = .s b n n) (ho : o.op = .makeSlice T (.tmp t1) (.tmp t2))
    (h1 : ∀ (μ : Nat → Nat) (a : Act), Known ops i its olds it.need μ a → a.eval (.tmp t1) = .int .i64 (n : Int)) (h2 : ∀ (μ : Nat → Nat) (a : Act), Known ops i its olds it.need μ a → a.eval (.tmp t2) = .int .i64 (n : Int))
    (hz : ∀ w : World, (Instr.makeSlice T (.int .i64 (n : Int)) (.int .i64 (n : Int))).run P w = .ok (.slice (some ⟨w.heap.size, 0, none⟩) n n) (w.alloc (.cells e.before.toArray E))) : Cert P Q w0 k0 X ops i its bl olds o it := by
  refine cert_make b hk e hb E fun μ a w hK _ => ?_
  have hm : it.out.at (upd μ b w.heap.size) = .slice (some ⟨w.heap.size, 0, none⟩) n n := by
    rw [hout]
    show Value.slice (some ⟨upd μ b w.heap.size b, 0, none⟩) n n = _
    unfold upd
    rw [if_pos rfl]
  unfold execOp
  rw [ho]
  dsimp only
  rw [h1 μ a hK, h2 μ a hK, hm, Sem.run_bind, hz]
  rfl
/-- An operation on one slot: len of a slice. -/
theorem cert_one (hk : it.kind = .stay) (t : Tmp) (s : SV) (v : Value) (hout : it.out = .v v) (hx : ∀ (μ : Nat → Nat) (a : Act), Known ops i its olds it.need μ a → a.eval (.tmp t) = s.at μ)
    (hE : ∀ (a : Act) (w : World), (execOp a.eval o).run P w = (execOp (fun _ => a.eval (.tmp t)) o).run P w) (hV : ∀ (μ : Nat → Nat) (w : World), (execOp (fun _ => s.at μ) o).run P w = .ok (.value v) w) : Cert P Q w0 k0 X ops i its bl olds o it := by
  refine cert_stay hk fun μ a w hK _ => ?_
  rw [hE, hx μ a hK, hV, hout]
  rfl
/-- A call that reads one of the blocks. -/
theorem cert_callM (hk : it.kind = .call) (b : Nat) (e : Bl) (hb : bl[b]? = some e) (hal : e.al = none) (hst : readB ops i e = true) (he : e.before ≠ []) (f : FuncId) (args : (Nat → Nat) → Array Value) (v : Value) (hout : it.out = .v v) (hrun : ∀ (μ : Nat → Nat) (a : Act) (w : World), Known ops i its olds it.need μ a → (execOp a.eval o).run P w = .ok (.enter f (args μ)) w)
    (hc : ∀ (μ : Nat → Nat) (w : World), μ b < w.heap.size → w.rangeAt (μ b) 0 e.before → Calls P f (args μ) w (Ret fun r w' => Below w.heap.size w w' ∧ r = v)) : Cert P Q w0 k0 X ops i its bl olds o it := by
  intro μ a w K hK hR _
  rw [hk]
  intro h
  rw [hout] at h
  have hr := hR b e hb (Or.inl hal) hst
  have hlt : μ b < w.heap.size := by
    cases hee : e.before with
    | nil => exact absurd hee he
    | cons x r =>
      have h1 := hr 0 x (by rw [hee]; rfl)
      exact Classical.byContradiction fun hn => by
        have h2 : w.heap[μ b]? = none := Array.getElem?_eq_none (by omega)
        simp [World.cell?, h2] at h1
  unfold Oper.wp
  rw [hrun μ a w hK, Oper.upon_enter]
  refine (hc μ w hlt hr).mono ?_
  rintro r w' ⟨v', rfl, hb', rfl⟩
  exact h w' hb'
theorem range_sub {k o : Nat} {C cs : List Value} (h : w.rangeAt k 0 C) (hs : ∀ j, j < cs.length → C[o + j]? = cs[j]?) : w.rangeAt k o cs := fun j v hv => by
  have hj : j < cs.length := (List.getElem?_eq_some_iff.1 hv).1
  have := h (o + j) v (by rw [hs j hj]; exact hv)
  rwa [Nat.zero_add] at this
theorem cert_idx (hk : it.kind = .stay) (T : TypeId) (t u : Tmp) (ho : o.op = .indexAddr T (.tmp t) (.tmp u)) (s : SV) (iv : Value) (hx : ∀ (μ : Nat → Nat) (a : Act), Known ops i its olds it.need μ a → a.eval (.tmp t) = s.at μ) (hy : ∀ (μ : Nat → Nat) (a : Act), Known ops i its olds it.need μ a → a.eval (.tmp u) = iv)
    (hf : ∀ (μ : Nat → Nat) (w : World), (Instr.indexAt T (s.at μ) iv).run P w = .ok (it.out.at μ) w) : Cert P Q w0 k0 X ops i its bl olds o it := by
  refine cert_stay hk fun μ a w hK _ => ?_
  unfold execOp
  rw [ho]
  dsimp only
  rw [hx μ a hK, hy μ a hK, Sem.run_bind, hf]
  rfl
theorem cert_idxc (hk : it.kind = .stay) (T : TypeId) (t : Tmp) (iv : Value) (ho : o.op = .indexAddr T (.tmp t) (.const iv)) (s : SV) (hx : ∀ (μ : Nat → Nat) (a : Act), Known ops i its olds it.need μ a → a.eval (.tmp t) = s.at μ)
    (hf : ∀ (μ : Nat → Nat) (w : World), (Instr.indexAt T (s.at μ) iv).run P w = .ok (it.out.at μ) w) : Cert P Q w0 k0 X ops i its bl olds o it := by
  refine cert_stay hk fun μ a w hK _ => ?_
  unfold execOp
  rw [ho]
  dsimp only
  rw [hx μ a hK]
  show ((Instr.indexAt T (s.at μ) iv) >>= fun v => pure (Next.value v)).run P w = _
  rw [Sem.run_bind, hf]
  rfl
theorem cert_binc (hk : it.kind = .stay) (op : BinOp) (T T' : TypeId) (t1 : Tmp) (v1 v2 v : Value) (ho : o.op = .binOp op T (.tmp t1) (.const v2) T') (hout : it.out = .v v)
    (h1 : ∀ (μ : Nat → Nat) (a : Act), Known ops i its olds it.need μ a → a.eval (.tmp t1) = v1)
    (hg : ∀ w, (eqGuard op T (.tmp t1) (.const v2) v1 v2).run P w = .ok () w) (hb : ∀ w, (binOp op T v1 v2).run P w = .ok v w) : Cert P Q w0 k0 X ops i its bl olds o it := by
  refine cert_stay hk fun μ a w hK _ => ?_
  unfold execOp
  rw [ho, hout]
  dsimp only
  rw [h1 μ a hK]
  show (((eqGuard op T (.tmp t1) (.const v2) v1 v2) >>= fun _ => binOp op T v1 v2) >>= fun v => pure (Next.value v)).run P w = _
  rw [Sem.run_bind, Sem.run_bind, hg]
  dsimp only [Result.andThen]
  rw [hb]
  rfl
theorem cert_conv (hk : it.kind = .stay) (S T : TypeId) (t : Tmp) (v v' : Value) (ho : o.op = .convert S T (.tmp t)) (hout : it.out = .v v') (hx : ∀ (μ : Nat → Nat) (a : Act), Known ops i its olds it.need μ a → a.eval (.tmp t) = v) (hc : ∀ w, (convert S T v).run P w = .ok v' w) : Cert P Q w0 k0 X ops i its bl olds o it := by
  refine cert_stay hk fun μ a w hK _ => ?_
  unfold execOp
  rw [ho, hout]
  dsimp only
  rw [hx μ a hK, Sem.run_bind, hc]
  rfl
theorem cert_un (hk : it.kind = .stay) (op : UnOp) (T : TypeId) (t : Tmp) (v v' : Value) (ho : o.op = .unOp op T (.tmp t)) (hout : it.out = .v v') (hx : ∀ (μ : Nat → Nat) (a : Act), Known ops i its olds it.need μ a → a.eval (.tmp t) = v) (hc : ∀ w, (Op.unary op v).run P w = .ok v' w) : Cert P Q w0 k0 X ops i its bl olds o it := by
  refine cert_stay hk fun μ a w hK _ => ?_
  unfold execOp
  rw [ho, hout]
  dsimp only
  rw [hx μ a hK, Sem.run_bind, hc]
  rfl
/-- A load of memory that was there before the call. -/
theorem cert_loadB (hk : it.kind = .stay) (k off : Nat) (hk0 : k < k0) (hX : k ∉ X) (T : TypeId) (t : Tmp) (ho : o.op = .load T (.tmp t)) (cs : List Value) (hout : it.out = .v (.agg cs.toArray))
    (hx : ∀ (μ : Nat → Nat) (a : Act), Known ops i its olds it.need μ a → a.eval (.tmp t) = .pointer (some ⟨k, off, none⟩)) (hr : w0.rangeAt k off cs)
    (hu : (P.underlying T).map (·.isRow) = some true) (hi : (P.info? T).map (·.size) = some cs.length) : Cert P Q w0 k0 X ops i its bl olds o it := by
  intro μ a w K hK _ hb
  rw [hk]
  intro h
  rw [hout] at h
  obtain ⟨d, hu, hd⟩ := Option.map_eq_some_iff.1 hu
  refine wp_load_mid T (.tmp t) ho k off (hx μ a hK) cs d (fun j v hj => ?_) hu hd hi h
  rw [World.cell?_of_block (w := w0) (a := ⟨k, off + j, none⟩) (hb.block k hk0 hX)]
  exact hr j v hj
theorem run_load1 {T : TypeId} {k off : Nat} {v : Value} (hc : w.cell? ⟨k, off, none⟩ = some v) (hu : (P.underlying T).map (·.isRow) = some false) : (Instr.loadAt T (.pointer (some ⟨k, off, none⟩))).run P w = .ok v w := by
  obtain ⟨d, hu, hd⟩ := Option.map_eq_some_iff.1 hu
  have hagg : (isAgg T).run P w = .ok false w := by
    unfold isAgg
    rw [Sem.run_bind, run_underlying hu w]
    cases d <;> simp_all
  simp [Instr.loadAt, Instr.sureAddr, loadVar, Sem.run_bind, hagg, hc]
theorem cert_load1 (hk : it.kind = .stay) (b off : Nat) (e : Bl) (hb : bl[b]? = some e) (hal : e.al = none) (hst : readB ops i e = true) (T : TypeId) (t : Tmp) (ho : o.op = .load T (.tmp t)) (v : Value) (hout : it.out = .v v)
    (hx : ∀ (μ : Nat → Nat) (a : Act), Known ops i its olds it.need μ a → a.eval (.tmp t) = (SV.p b off).at μ) (hsub : e.before[off]? = some v)
    (hu : (P.underlying T).map (·.isRow) = some false) : Cert P Q w0 k0 X ops i its bl olds o it := by
  intro μ a w K hK hR _
  rw [hk]
  intro h
  rw [hout] at h
  have h1 := hR b e hb (Or.inl hal) hst off v hsub
  rw [Nat.zero_add] at h1
  unfold Oper.wp execOp
  rw [ho]
  dsimp only
  rw [hx μ a hK]
  show o.upon P a K Q (((Instr.loadAt T (.pointer (some ⟨μ b, off, none⟩))) >>= fun v => pure (Next.value v)).run P w)
  rw [Sem.run_bind, run_load1 h1 hu]
  exact h
theorem run_store1 {T : TypeId} {k off : Nat} {v u : Value} (hc : w.cell? ⟨k, off, none⟩ = some u) (hf : w.frozen? ⟨k, off, none⟩ = false) (h1 : v.oneCell' = true) (hv : v.cells = #[v]) (hi : (P.info? T).map (·.size) = some 1) : (Instr.storeAt T (.pointer (some ⟨k, off, none⟩)) v).run P w = .ok () (w.setCells k off [v]) := by
  have := run_storeCells_cells (P := P) k off [v] 0 w (fun j hj => by
      obtain rfl : j = 0 := by simpa using hj
      simp [hc]) (fun j hj => by
      obtain rfl : j = 0 := by simpa using hj
      simpa using hf) (fun x hx => by
      obtain rfl : x = v := by simpa using hx
      exact h1)
  cases hq : P.info? T with
  | none => simp [hq] at hi
  | some inf =>
    have hs : inf.size = 1 := by simp [hq] at hi; omega
    simp only [Nat.add_zero] at this
    simp [Instr.storeAt, Instr.sureAddr, storeVar, sizeOf, typeInfo, hq, hv, hs, this]
/-- A store of one cell. -/
theorem cert_put1 (b off : Nat) (hk : it.kind = .put b) (e : Bl) (hb : bl[b]? = some e) (T : TypeId) (x y : Operand) (v : Value) (ho : o.op = .store T x y) (hdn : o.dst = none)
    (hx : ∀ (μ : Nat → Nat) (a : Act), Known ops i its olds it.need μ a → a.eval x = (SV.p b off).at μ) (hy : ∀ (μ : Nat → Nat) (a : Act), Known ops i its olds it.need μ a → a.eval y = v) (hoff : off < e.before.length) (hset : e.after = e.before.set off v)
    (hi : (P.info? T).map (·.size) = some 1) (h1 : v.oneCell' = true) (hv : v.cells = #[v]) : Cert P Q w0 k0 X ops i its bl olds o it := by
  intro μ a w K hK _ _
  rw [hk]
  intro e' hb' ht hr h
  rw [hb] at hb'
  obtain rfl : e = e' := Option.some.inj hb'
  have hPT : PutTo (μ b) e.before.length e.after w (w.setCells (μ b) off [v]) := PutTo.store ht hr (by simp only [List.length_cons, List.length_nil]; omega) (fun j => by
    rw [hset, List.getElem?_set]
    by_cases hj : off = j
    · subst hj
      rw [if_pos rfl, if_pos hoff, if_pos (by simp)]
      simp
    · rw [if_neg hj, if_neg (by simp only [List.length_cons, List.length_nil]; omega)])
  have ht' := ht off hoff
  rw [Nat.zero_add] at ht'
  obtain ⟨u, hu⟩ := Option.isSome_iff_exists.1 ht'.1
  unfold Oper.wp execOp
  rw [ho]
  dsimp only
  rw [hx μ a hK, hy μ a hK]
  show o.upon P a K Q (((Instr.storeAt T (.pointer (some ⟨μ b, off, none⟩)) v) >>= fun _ => pure Next.skip).run P w)
  rw [Sem.run_bind, run_store1 hu ht'.2 h1 hv hi]
  have := h _ hPT
  rw [hdn] at this
  show K (a.put o.dst undef) _
  rw [hdn]
  exact this
/-- A store of a row of cells into a part of a block. -/
theorem cert_putAt (b off : Nat) (hk : it.kind = .put b) (e : Bl) (hb : bl[b]? = some e) (T : TypeId) (x y : Operand) (vs : List Value) (ho : o.op = .store T x y) (hdn : o.dst = none)
    (hx : ∀ (μ : Nat → Nat) (a : Act), Known ops i its olds it.need μ a → a.eval x = (SV.p b off).at μ) (hy : ∀ (μ : Nat → Nat) (a : Act), Known ops i its olds it.need μ a → a.eval y = .agg vs.toArray) (hoff : off + vs.length ≤ e.before.length)
    (hset : ∀ j, e.after[j]? = if off ≤ j ∧ j < off + vs.length then vs[j - off]? else e.before[j]?)
    (hi : (P.info? T).map (·.size) = some vs.length) (h1 : vs.all (·.oneCell') = true) : Cert P Q w0 k0 X ops i its bl olds o it := by
  intro μ a w K hK _ _
  rw [hk]
  intro e' hb' ht hr h
  rw [hb] at hb'
  obtain rfl : e = e' := Option.some.inj hb'
  have hPT := PutTo.store ht hr hoff hset
  refine wp_store_mid T x y ho (μ b) off vs.toArray (hx μ a hK) (hy μ a hK) ?_ ?_ ?_ ?_
  · intro j hj
    have := ht (off + j) (by rw [List.size_toArray] at hj; omega)
    rwa [Nat.zero_add] at this
  · rw [List.size_toArray]; exact hi
  · exact all_oneCell_toArray (fun v hv => List.all_eq_true.1 h1 v hv)
  · have := h _ hPT
    rw [hdn] at this ⊢
    exact this
/-- A call that writes into a block. -/
theorem cert_callput (b : Nat) (hk : it.kind = .put b) (e : Bl) (hb : bl[b]? = some e) (f : FuncId) (args : (Nat → Nat) → Array Value) (v : Value) (hout : it.out = .v v) (hrun : ∀ (μ : Nat → Nat) (a : Act) (w : World), Known ops i its olds it.need μ a → BelX k0 X w0 w → (execOp a.eval o).run P w = .ok (.enter f (args μ)) w)
    (hc : ∀ (μ : Nat → Nat) (w : World), BelX k0 X w0 w → w.there (μ b) 0 e.before.length → w.rangeAt (μ b) 0 e.before → Calls P f (args μ) w (Ret fun r w' => PutTo (μ b) e.before.length e.after w w' ∧ r = v)) : Cert P Q w0 k0 X ops i its bl olds o it := by
  intro μ a w K hK _ hbel
  rw [hk]
  intro e' hb' ht hr h
  rw [hb] at hb'
  obtain rfl : e = e' := Option.some.inj hb'
  rw [hout] at h
  unfold Oper.wp
  rw [hrun μ a w hK hbel, Oper.upon_enter]
  refine (hc μ w hbel ht hr).mono ?_
  rintro r w' ⟨v', rfl, hp, rfl⟩
  exact h w' hp
theorem St.lent {k : Nat} {C : List Value} (hk : k < w.heap.size) (hr : w.rangeAt k 0 C) (ht : w.there k 0 C.length) : St w w.heap.size [k] [C] [k] w := by
  refine ⟨BelX.refl _ _ _, Nat.le_refl _, rfl, fun b c h => ?_, fun b c hb hc hne => ?_⟩
  · cases b with
    | zero =>
      obtain rfl : C = c := by simpa using h
      exact ⟨hr, ht, hk, Or.inr List.mem_cons_self⟩
    | succ b => simp at h
  · simp only [List.length_cons, List.length_nil] at hb hc
    omega
theorem St.putTo {k : Nat} {C : List Value} {cs : List (List Value)} {ks : List Nat} {n : Nat} (h : St w0 w0.heap.size [k] (C :: cs) (k :: ks) w) (hn : C.length = n) : PutTo k n C w0 w := by
  obtain ⟨h1, h2, -, -⟩ := h.has 0 C rfl
  refine ⟨h.bel.os, h.bel.tape, h.bel.output, h.bel.size, fun j hj hne => h.bel.block j hj (by simpa using hne), h1, ?_⟩
  rw [← hn]
  exact h2
def endB1 (its : List It) (bl : List Bl) : Bool :=
  bl.all (fun e => (match e.al with | none => true | some j => decide (j < its.length)) && (match e.st with | none => true | some j => decide (j < its.length)))
theorem endB1_st (h : endB1 its bl = true) : ∀ e ∈ bl, ∀ j, e.al = some j ∨ e.st = some j → j < its.length := by
  intro e he j hj
  have := List.all_eq_true.1 h e he
  simp only [Bool.and_eq_true] at this
  rcases hj with hj | hj
  · rw [hj] at this; simpa using this.1
  · rw [hj] at this; simpa using this.2
/-- Some cells of a list, replaced. -/
def rep (C : List Value) (o : Nat) (vs : List Value) : List Value := C.take o ++ (vs ++ C.drop (o + vs.length))
theorem rep_length {C vs : List Value} {o : Nat} (h : o + vs.length ≤ C.length) : (rep C o vs).length = C.length := by
  unfold rep
  rw [List.length_append, List.length_append, List.length_take, List.length_drop]
  omega
theorem rep_at {C vs : List Value} {o : Nat} (h : o + vs.length ≤ C.length) (j : Nat) : (rep C o vs)[j]? = if o ≤ j ∧ j < o + vs.length then vs[j - o]? else C[j]? := by
  unfold rep
  have hl : (C.take o).length = o := by rw [List.length_take]; omega
  by_cases h1 : j < o
  · rw [List.getElem?_append_left (by rw [hl]; exact h1), List.getElem?_take, if_pos h1, if_neg (by omega)]
  · rw [List.getElem?_append_right (by rw [hl]; omega), hl]
    by_cases h2 : j < o + vs.length
    · rw [List.getElem?_append_left (by omega), if_pos ⟨by omega, h2⟩]
    · rw [List.getElem?_append_right (by omega), if_neg (by omega), List.getElem?_drop]
      congr 1
      omega
theorem sub_of {C cs : List Value} {o : Nat} (h : ∀ j, j < cs.length → C[o + j]? = cs[j]?) (hl : o + cs.length ≤ C.length) : (C.drop o).take cs.length = cs := by
  apply List.ext_getElem?
  intro j
  by_cases hj : j < cs.length
  · rw [List.getElem?_take, if_pos hj, List.getElem?_drop, h j hj]
  · rw [List.getElem?_eq_none (by rw [List.length_take, List.length_drop]; omega), List.getElem?_eq_none (by omega)]
theorem cert_callput3 (b : Nat) (hk : it.kind = .put b) (e : Bl) (hb : bl[b]? = some e) (f : FuncId) (t1 t2 t3 : Tmp) (s1 : SV) (v2 v3 v : Value) (hout : it.out = .v v) (hrun : ∀ (a : Act) (w : World), (execOp a.eval o).run P w = .ok (.enter f #[a.eval (.tmp t1), a.eval (.tmp t2), a.eval (.tmp t3)]) w)
    (h1 : ∀ (μ : Nat → Nat) (a : Act), Known ops i its olds it.need μ a → a.eval (.tmp t1) = s1.at μ) (h2 : ∀ (μ : Nat → Nat) (a : Act), Known ops i its olds it.need μ a → a.eval (.tmp t2) = v2) (h3 : ∀ (μ : Nat → Nat) (a : Act), Known ops i its olds it.need μ a → a.eval (.tmp t3) = v3)
    (hc : ∀ (μ : Nat → Nat) (w : World), w.there (μ b) 0 e.before.length → w.rangeAt (μ b) 0 e.before → Calls P f #[s1.at μ, v2, v3] w (Ret fun r w' => PutTo (μ b) e.before.length e.after w w' ∧ r = v)) : Cert P Q w0 k0 X ops i its bl olds o it :=
  cert_callput b hk e hb f (fun μ => #[s1.at μ, v2, v3]) v hout (fun μ a w hK _ => by rw [hrun, h1 μ a hK, h2 μ a hK, h3 μ a hK]) (fun μ w _ ht hr => hc μ w ht hr)
theorem cert_callM2 (hk : it.kind = .call) (b : Nat) (e : Bl) (hb : bl[b]? = some e) (hal : e.al = none) (hst : readB ops i e = true) (he : e.before ≠ []) (f : FuncId) (t1 t2 : Tmp) (s1 : SV) (v2 v : Value) (hout : it.out = .v v) (hrun : ∀ (a : Act) (w : World), (execOp a.eval o).run P w = .ok (.enter f #[a.eval (.tmp t1), a.eval (.tmp t2)]) w)
    (h1 : ∀ (μ : Nat → Nat) (a : Act), Known ops i its olds it.need μ a → a.eval (.tmp t1) = s1.at μ) (h2 : ∀ (μ : Nat → Nat) (a : Act), Known ops i its olds it.need μ a → a.eval (.tmp t2) = v2)
    (hc : ∀ (μ : Nat → Nat) (w : World), μ b < w.heap.size → w.rangeAt (μ b) 0 e.before → Calls P f #[s1.at μ, v2] w (Ret fun r w' => Below w.heap.size w w' ∧ r = v)) : Cert P Q w0 k0 X ops i its bl olds o it :=
  cert_callM hk b e hb hal hst he f (fun μ => #[s1.at μ, v2]) v hout (fun μ a w hK => by rw [hrun, h1 μ a hK, h2 μ a hK]) hc
end Go.Proofs.Ytdeidgbknlmhjab.RG
