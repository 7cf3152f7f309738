import Derived.Test.YtdeidgbknlmhjabRG8
namespace Go.Proofs.Ytdeidgbknlmhjab.RG
open Go Go.RowKit

variable {P : Program} {ops : Array Oper} {Q : Exit → Act → World → Prop} {w0 w : World} {k0 : Nat} {X : List Nat} {its : List It} {bl : List Bl} {olds : List (Tmp × SV)} {a : Act} {i : Nat} {o : Oper} {it : It}

theorem cert_index (hk : it.kind = .stay) (T : TypeId) (t : Tmp) (lo v v' : Value) (ho : o.op = .index T (.tmp t) (.const lo)) (hout : it.out = .v v') (hx : ∀ (μ : Nat → Nat) (a : Act), Known ops i its olds it.need μ a → a.eval (.tmp t) = v)
    (hf : ∀ w : World, (Instr.index T v lo).run P w = .ok v' w) : Cert P Q w0 k0 X ops i its bl olds o it := by
  refine cert_stay hk fun μ a w hK _ => ?_
  unfold execOp
  rw [ho, hout]
  dsimp only
  rw [hx μ a hK]
  show ((Instr.index T v lo) >>= fun v => pure (Next.value v)).run P w = _
  rw [Sem.run_bind, hf]
  rfl
/-- A slice of one, built out of one value. -/
theorem cert_bs1 (b : Nat) (hk : it.kind = .make b) (e : Bl) (hb : bl[b]? = some e) (T E : TypeId) (t : Tmp) (v : Value) (hout : it.out = .s b 1 1) (ho : o.op = .buildSlice T 1 #[(0, .tmp t)])
    (hx : ∀ (μ : Nat → Nat) (a : Act), Known ops i its olds it.need μ a → a.eval (.tmp t) = v)
    (hz : ∀ w : World, (Instr.buildSlice T 1 #[(0, v)]).run P w = .ok (.slice (some ⟨w.heap.size, 0, none⟩) 1 1) (w.alloc (.cells e.before.toArray E))) : Cert P Q w0 k0 X ops i its bl olds o it := by
  refine cert_make b hk e hb E fun μ a w hK _ => ?_
  have hm : it.out.at (upd μ b w.heap.size) = .slice (some ⟨w.heap.size, 0, none⟩) 1 1 := by
    rw [hout]
    show Value.slice (some ⟨upd μ b w.heap.size b, 0, none⟩) 1 1 = _
    unfold upd
    rw [if_pos rfl]
  unfold execOp
  rw [ho, hm]
  dsimp only
  rw [show Array.map (fun x : Nat × Operand => match x with | (i, x) => (i, a.eval x)) #[(0, Operand.tmp t)] = #[(0, v)] by rw [List.map_toArray]; simp only [List.map_cons, List.map_nil]; rw [hx μ a hK], Sem.run_bind, hz]
  rfl
/-- A text out of a block that was made in this region. -/
theorem cert_str (hk : it.kind = .stay) (b j : Nat) (e : Bl) (hb : bl[b]? = some e) (oo : Oper) (hoo : ops[i]? = some oo) (hal : e.al = some j) (hdep : depB oo j = true) (hst : readB ops i e = true) (S T : TypeId) (t : Tmp) (n : Nat) (v : Value) (ho : o.op = .convert S T (.tmp t)) (hout : it.out = .v v)
    (hx : ∀ (μ : Nat → Nat) (a : Act), Known ops i its olds it.need μ a → a.eval (.tmp t) = (SV.s b n n).at μ)
    (hf : ∀ (w : World) (k : Nat), w.rangeAt k 0 e.before → (convert S T (.slice (some ⟨k, 0, none⟩) n n)).run P w = .ok v w) : Cert P Q w0 k0 X ops i its bl olds o it := by
  intro μ a w K hK hR _
  rw [hk]
  intro h
  rw [hout] at h
  have h1 := hR b e hb (Or.inr ⟨oo, j, hoo, hal, hdep⟩) hst
  unfold Oper.wp execOp
  rw [ho]
  dsimp only
  rw [hx μ a hK]
  show Oper.upon P o a K Q (((convert S T (.slice (some ⟨μ b, 0, none⟩) n n)) >>= fun v => pure (Next.value v)).run P w)
  rw [Sem.run_bind, hf w (μ b) h1]
  exact h
theorem cert_cbin (hk : it.kind = .stay) (op : BinOp) (T T' : TypeId) (t1 : Tmp) (v1 v2 v : Value) (ho : o.op = .binOp op T (.const v1) (.tmp t1) T') (hout : it.out = .v v)
    (h1 : ∀ (μ : Nat → Nat) (a : Act), Known ops i its olds it.need μ a → a.eval (.tmp t1) = v2)
    (hg : ∀ w, (eqGuard op T (.const v1) (.tmp t1) v1 v2).run P w = .ok () w) (hb : ∀ w, (binOp op T v1 v2).run P w = .ok v w) : Cert P Q w0 k0 X ops i its bl olds o it := by
  refine cert_stay hk fun μ a w hK _ => ?_
  unfold execOp
  rw [ho, hout]
  dsimp only
  rw [h1 μ a hK]
  show (((eqGuard op T (.const v1) (.tmp t1) v1 v2) >>= fun _ => binOp op T v1 v2) >>= fun v => pure (Next.value v)).run P w = _
  rw [Sem.run_bind, Sem.run_bind, hg]
  dsimp only [Result.andThen]
  rw [hb]
  rfl
/-- Three slots are known, in the middle of a walk. -/
theorem mid3 {c : Code} {v0 v1 v2 : Value} {n : Nat} (t0 t1 t2 : Tmp) (h0 : a.tmps[t0]? = some v0) (h1 : a.tmps[t1]? = some v1) (h2 : a.tmps[t2]? = some v2) (hs : a.tmps.size = n) (hd : a.defers = [])
    (h : ∀ a, Sl a n → a.tmps[t0]? = some v0 → a.tmps[t1]? = some v1 → a.tmps[t2]? = some v2 → c.wp P Q a w) : c.wp P Q a w := h a ⟨hs, hd⟩ h0 h1 h2
/-- A block that was made just now. -/
theorem St.new (w : World) (C : List Value) (T : TypeId) : St w w.heap.size [] [C] [w.heap.size] (w.alloc (.cells C.toArray T)) := by
  refine ⟨⟨rfl, rfl, rfl, by rw [World.size_alloc]; omega, fun j hj _ => (below1 w _).block j hj⟩, by rw [World.size_alloc]; omega, rfl, fun b c h => ?_, fun b c hb hc hne => ?_⟩
  · cases b with
    | zero =>
      obtain rfl : C = c := by simpa using h
      refine ⟨fun j v hv => ?_, fun j hj => ?_, ?_, Or.inl (Nat.le_refl _)⟩
      · show (w.alloc _).cell? ⟨w.heap.size, 0 + j, none⟩ = some v
        rw [Nat.zero_add, World.cell?_alloc_new]
        simpa using hv
      · refine ⟨?_, World.frozen?_alloc_new _ _ _ _⟩
        show ((w.alloc _).cell? ⟨w.heap.size, 0 + j, none⟩).isSome = true
        rw [Nat.zero_add, World.cell?_alloc_new]
        simp [hj]
      · show w.heap.size < _
        rw [World.size_alloc]; omega
    | succ b => simp at h
  · simp only [List.length_cons, List.length_nil] at hb hc
    omega
theorem St.more {cs : List (List Value)} {ks : List Nat} {w' : World} (h : St w0 k0 X cs ks w) (hb : Below w.heap.size w w') : St w0 k0 X cs ks w' := by
  refine ⟨⟨hb.os.trans h.bel.os, hb.tape.trans h.bel.tape, hb.output.trans h.bel.output, Nat.le_trans h.bel.size hb.size, fun j hj hX => ?_⟩, Nat.le_trans h.le hb.size, h.len, fun b c hc => ?_, h.inj⟩
  · rw [hb.block j (Nat.lt_of_lt_of_le hj h.le)]
    exact h.bel.block j hj hX
  · obtain ⟨h1, h2, h3, h4⟩ := h.has b c hc
    exact ⟨range_below h1 hb h3, there_below h2 hb h3, Nat.lt_of_lt_of_le h3 hb.size, h4⟩
theorem St.store1 {C D : List Value} {k : Nat} (h : St w0 k0 X [C] [k] w) (T : TypeId) (hl : D.length = C.length) (hi : (P.info? T).map (·.size) = some D.length) (h1 : D.all (·.oneCell') = true) :
    ∃ w2, (storeCells ⟨k, 0, none⟩ D).run P w = .ok () w2 ∧ (storeVar T ⟨k, 0, none⟩ (.agg D.toArray)).run P w = .ok () w2 ∧ (Instr.storeAt T (.pointer (some ⟨k, 0, none⟩)) (.agg D.toArray)).run P w = .ok () w2 ∧ St w0 k0 X [D] [k] w2 := by
  have hh := h.has 0 C rfl
  rw [show ad [k] 0 = k from rfl] at hh
  obtain ⟨hr, ht, hlt, hor⟩ := hh
  have hPT := PutTo.whole ht hr hl
  have hv := run_storeVar_mid (P := P) w k 0 T D.toArray (by rw [List.size_toArray, hl]; exact ht) (by rw [List.size_toArray]; exact hi) (all_oneCell_toArray (fun v hv => List.all_eq_true.1 h1 v hv))
  have hc := run_storeCells_cells (P := P) k 0 D 0 w (fun j hj => by simpa using (ht j (by rw [← hl]; exact hj)).1) (fun j hj => by simpa using (ht j (by rw [← hl]; exact hj)).2) (fun v hv => List.all_eq_true.1 h1 v hv)
  refine ⟨_, hc, hv, ?_, ⟨⟨hPT.os.trans h.bel.os, hPT.tape.trans h.bel.tape, hPT.output.trans h.bel.output, Nat.le_trans h.bel.size hPT.size, fun j hj hX => ?_⟩, Nat.le_trans h.le hPT.size, rfl, fun b c hc => ?_, h.inj⟩⟩
  · simp only [Instr.storeAt, Instr.sureAddr, Sem.run_bind, Sem.run_pure, Result.andThen_ok, hv]
  · rw [← h.bel.block j hj hX]
    refine hPT.block j (Nat.lt_of_lt_of_le hj h.le) (fun e => ?_)
    rcases hor with h5 | h5
    · omega
    · exact hX (by rw [e]; exact h5)
  · cases b with
    | zero =>
      obtain rfl : D = c := by simpa using hc
      refine ⟨hPT.range, ?_, Nat.lt_of_lt_of_le hlt hPT.size, hor⟩
      have := hPT.there
      rw [← hl] at this
      exact this
    | succ b => simp at hc
/-- A row that lies in a block is read. -/
theorem read_row {k : Nat} {C : List Value} (T : TypeId) (h : w.rangeAt k 0 C) (hu : (P.underlying T).map (·.isRow) = some true) (hi : (P.info? T).map (·.size) = some C.length) :
    (loadVar T ⟨k, 0, none⟩).run P w = .ok (.agg C.toArray) w ∧ (Instr.loadAt T (.pointer (some ⟨k, 0, none⟩))).run P w = .ok (.agg C.toArray) w := by
  obtain ⟨d, hu, hd⟩ := Option.map_eq_some_iff.1 hu
  have h1 := run_loadVar_mid (P := P) w k 0 T C d h hu hd hi
  refine ⟨h1, ?_⟩
  simp only [Instr.loadAt, Instr.sureAddr, Sem.run_bind, Sem.run_pure, Result.andThen_ok, h1]
end Go.Proofs.Ytdeidgbknlmhjab.RG
