import Derived.Orders
import Derived.Deep.AppendSrc
import Derived.Test.YthbgppnhlpjngaaRt2
set_option linter.unusedVariables false
set_option linter.unusedSimpArgs false
namespace Go.Proofs.Ythbgppnhlpjngaa.RG
open Go Go.RowKit
variable {P : Program} {ops : Array Oper} {Q : Exit → Act → World → Prop} {w0 w : World} {k0 : Nat} {X : List Nat} {its : List It} {bl : List Bl} {olds : List (Tmp × SV)} {a : Act} {i : Nat} {o : Oper} {it : It}
theorem cert_index (hk : it.kind = .stay) (T : TypeId) (t : Tmp) (lo v v' : Value) (ho : o.op = .index T (.tmp t) (.const lo)) (hout : it.out = .v v') (hx : ∀ (μ : Nat → Nat) (a : Act), Known ops i its olds it.need μ a → a.eval (.tmp t) = v)
    (hf : ∀ w : World, (Instr.index T v lo).run P w = .ok v' w) : Cert P Q w0 k0 X ops i its bl olds o it := by
  refine cert_stay hk fun μ a w hK _ => ?_
  unfold execOp
  rw [ho, hout]
  dsimp only
  rw [hx μ a hK]
  show ((Instr.index T v lo) >>= fun v => pure (Next.value v)).run P w = _
  rw [Sem.run_bind, hf]
  rfl
/-- A slice of one, built out of one value. -/
theorem cert_bs1 (b : Nat) (hk : it.kind = .make b) (e : Bl) (hb : bl[b]? = some e) (T E : TypeId) (t : Tmp) (v : Value) (hout : it.out = .s b 1 1) (ho : o.op = .buildSlice T 1 #[(0, .tmp t)])
    (hx : ∀ (μ : Nat → Nat) (a : Act), Known ops i its olds it.need μ a → a.eval (.tmp t) = v)
    (hz : ∀ w : World, (Instr.buildSlice T 1 #[(0, v)]).run P w = .ok (.slice (some ⟨w.heap.size, 0, none⟩) 1 1) (w.alloc (.cells e.before.toArray E))) : Cert P Q w0 k0 X ops i its bl olds o it := by
  refine cert_make b hk e hb E fun μ a w hK _ => ?_
  have hm : it.out.at (upd μ b w.heap.size) = .slice (some ⟨w.heap.size, 0, none⟩) 1 1 := by
    rw [hout]
    show Value.slice (some ⟨upd μ b w.heap.size b, 0, none⟩) 1 1 = _
    unfold upd
    rw [if_pos rfl]
  unfold execOp
  rw [ho, hm]
  dsimp only
  rw [show Array.map (fun x : Nat × Operand => match x with | (i, x) => (i, a.eval x)) #[(0, Operand.tmp t)] = #[(0, v)] by rw [List.map_toArray]; simp only [List.map_cons, List.map_nil]; rw [hx μ a hK], Sem.run_bind, hz]
  rfl
/-- A text out of a block that was made in this region. -/
theorem cert_str (hk : it.kind = .stay) (b j : Nat) (e : Bl) (hb : bl[b]? = some e) (oo : Oper) (hoo : ops[i]? = some oo) (hal : e.al = some j) (hdep : depB oo j = true) (hst : readB ops i e = true) (S T : TypeId) (t : Tmp) (n : Nat) (v : Value) (ho : o.op = .convert S T (.tmp t)) (hout : it.out = .v v)
    (hx : ∀ (μ : Nat → Nat) (a : Act), Known ops i its olds it.need μ a → a.eval (.tmp t) = (SV.s b n n).at μ)
    (hf : ∀ (w : World) (k : Nat), w.rangeAt k 0 e.before → (convert S T (.slice (some ⟨k, 0, none⟩) n n)).run P w = .ok v w) : Cert P Q w0 k0 X ops i its bl olds o it := by
  intro μ a w K hK hR _
  rw [hk]
  intro h
  rw [hout] at h
  have h1 := hR b e hb (Or.inr ⟨oo, j, hoo, hal, hdep⟩) hst
  unfold Oper.wp execOp
  rw [ho]
  dsimp only
  rw [hx μ a hK]
  show Oper.upon P o a K Q (((convert S T (.slice (some ⟨μ b, 0, none⟩) n n)) >>= fun v => pure (Next.value v)).run P w)
  rw [Sem.run_bind, hf w (μ b) h1]
  exact h
theorem cert_cbin (hk : it.kind = .stay) (op : BinOp) (T T' : TypeId) (t1 : Tmp) (v1 v2 v : Value) (ho : o.op = .binOp op T (.const v1) (.tmp t1) T') (hout : it.out = .v v)
    (h1 : ∀ (μ : Nat → Nat) (a : Act), Known ops i its olds it.need μ a → a.eval (.tmp t1) = v2)
    (hg : ∀ w, (eqGuard op T (.const v1) (.tmp t1) v1 v2).run P w = .ok () w) (hb : ∀ w, (binOp op T v1 v2).run P w = .ok v w) : Cert P Q w0 k0 X ops i its bl olds o it := by
  refine cert_stay hk fun μ a w hK _ => ?_
  unfold execOp
  rw [ho, hout]
  dsimp only
  rw [h1 μ a hK]
  show (((eqGuard op T (.const v1) (.tmp t1) v1 v2) >>= fun _ => binOp op T v1 v2) >>= fun v => pure (Next.value v)).run P w = _
  rw [Sem.run_bind, Sem.run_bind, hg]
  dsimp only [Result.andThen]
  rw [hb]
  rfl
/-- Three slots are known, in the middle of a walk. -/
theorem mid3 {c : Code} {v0 v1 v2 : Value} {n : Nat} (t0 t1 t2 : Tmp) (h0 : a.tmps[t0]? = some v0) (h1 : a.tmps[t1]? = some v1) (h2 : a.tmps[t2]? = some v2) (hs : a.tmps.size = n) (hd : a.defers = [])
    (h : ∀ a, Sl a n → a.tmps[t0]? = some v0 → a.tmps[t1]? = some v1 → a.tmps[t2]? = some v2 → c.wp P Q a w) : c.wp P Q a w := h a ⟨hs, hd⟩ h0 h1 h2
/-- A block that was made just now. -/
theorem St.new (w : World) (C : List Value) (T : TypeId) : St w w.heap.size [] [C] [w.heap.size] (w.alloc (.cells C.toArray T)) := by
  refine ⟨⟨rfl, rfl, rfl, by rw [World.size_alloc]; omega, fun j hj _ => (below1 w _).block j hj⟩, by rw [World.size_alloc]; omega, rfl, fun b c h => ?_, fun b c hb hc hne => ?_⟩
  · cases b with
    | zero =>
      obtain rfl : C = c := by simpa using h
      refine ⟨fun j v hv => ?_, fun j hj => ?_, ?_, Or.inl (Nat.le_refl _)⟩
      · show (w.alloc _).cell? ⟨w.heap.size, 0 + j, none⟩ = some v
        rw [Nat.zero_add, World.cell?_alloc_new]
        simpa using hv
      · refine ⟨?_, World.frozen?_alloc_new _ _ _ _⟩
        show ((w.alloc _).cell? ⟨w.heap.size, 0 + j, none⟩).isSome = true
        rw [Nat.zero_add, World.cell?_alloc_new]
        simp [hj]
      · show w.heap.size < _
        rw [World.size_alloc]; omega
    | succ b => simp at h
  · simp only [List.length_cons, List.length_nil] at hb hc
    omega
theorem St.more {cs : List (List Value)} {ks : List Nat} {w' : World} (h : St w0 k0 X cs ks w) (hb : Below w.heap.size w w') : St w0 k0 X cs ks w' := by
  refine ⟨⟨hb.os.trans h.bel.os, hb.tape.trans h.bel.tape, hb.output.trans h.bel.output, Nat.le_trans h.bel.size hb.size, fun j hj hX => ?_⟩, Nat.le_trans h.le hb.size, h.len, fun b c hc => ?_, h.inj⟩
  · rw [hb.block j (Nat.lt_of_lt_of_le hj h.le)]
    exact h.bel.block j hj hX
  · obtain ⟨h1, h2, h3, h4⟩ := h.has b c hc
    exact ⟨range_below h1 hb h3, there_below h2 hb h3, Nat.lt_of_lt_of_le h3 hb.size, h4⟩
theorem St.store1 {C D : List Value} {k : Nat} (h : St w0 k0 X [C] [k] w) (T : TypeId) (hl : D.length = C.length) (hi : (P.info? T).map (·.size) = some D.length) (h1 : D.all (·.oneCell') = true) :
    ∃ w2, (storeCells ⟨k, 0, none⟩ D).run P w = .ok () w2 ∧ (storeVar T ⟨k, 0, none⟩ (.agg D.toArray)).run P w = .ok () w2 ∧ (Instr.storeAt T (.pointer (some ⟨k, 0, none⟩)) (.agg D.toArray)).run P w = .ok () w2 ∧ St w0 k0 X [D] [k] w2 := by
  have hh := h.has 0 C rfl
  rw [show ad [k] 0 = k from rfl] at hh
  obtain ⟨hr, ht, hlt, hor⟩ := hh
  have hPT := PutTo.whole ht hr hl
  have hv := run_storeVar_mid (P := P) w k 0 T D.toArray (by rw [List.size_toArray, hl]; exact ht) (by rw [List.size_toArray]; exact hi) (all_oneCell_toArray (fun v hv => List.all_eq_true.1 h1 v hv))
  have hc := run_storeCells_cells (P := P) k 0 D 0 w (fun j hj => by simpa using (ht j (by rw [← hl]; exact hj)).1) (fun j hj => by simpa using (ht j (by rw [← hl]; exact hj)).2) (fun v hv => List.all_eq_true.1 h1 v hv)
  refine ⟨_, hc, hv, ?_, ⟨⟨hPT.os.trans h.bel.os, hPT.tape.trans h.bel.tape, hPT.output.trans h.bel.output, Nat.le_trans h.bel.size hPT.size, fun j hj hX => ?_⟩, Nat.le_trans h.le hPT.size, rfl, fun b c hc => ?_, h.inj⟩⟩
  · simp only [Instr.storeAt, Instr.sureAddr, Sem.run_bind, Sem.run_pure, Result.andThen_ok, hv]
  · rw [← h.bel.block j hj hX]
    refine hPT.block j (Nat.lt_of_lt_of_le hj h.le) (fun e => ?_)
    rcases hor with h5 | h5
    · omega
    · exact hX (by rw [e]; exact h5)
  · cases b with
    | zero =>
      obtain rfl : D = c := by simpa using hc
      refine ⟨hPT.range, ?_, Nat.lt_of_lt_of_le hlt hPT.size, hor⟩
      have := hPT.there
      rw [← hl] at this
      exact this
    | succ b => simp at hc
/-- A row that lies in a block is read. -/
theorem read_row {k : Nat} {C : List Value} (T : TypeId) (h : w.rangeAt k 0 C) (hu : (P.underlying T).map (·.isRow) = some true) (hi : (P.info? T).map (·.size) = some C.length) :
    (loadVar T ⟨k, 0, none⟩).run P w = .ok (.agg C.toArray) w ∧ (Instr.loadAt T (.pointer (some ⟨k, 0, none⟩))).run P w = .ok (.agg C.toArray) w := by
  obtain ⟨d, hu, hd⟩ := Option.map_eq_some_iff.1 hu
  have h1 := run_loadVar_mid (P := P) w k 0 T C d h hu hd hi
  refine ⟨h1, ?_⟩
  simp only [Instr.loadAt, Instr.sureAddr, Sem.run_bind, Sem.run_pure, Result.andThen_ok, h1]
end Go.Proofs.Ythbgppnhlpjngaa.RG
set_option linter.unusedVariables false
set_option linter.unusedSimpArgs false
namespace Go.Proofs.Ythbgppnhlpjngaa.RG
open Go Go.RowKit
variable {P : Program} {ops : Array Oper} {Q : Exit → Act → World → Prop} {w0 w : World} {k0 n : Nat} {X : List Nat} {its : List It} {bl : List Bl} {os : List (Tmp × SV)} {a : Act} {i : Nat} {o : Oper} {it : It} {μ : Nat → Nat} {need : List (Tmp × Nat)}
/-- What a slot holds, where operation i looks at it. -/
def src (ops : Array Oper) (its : List It) (os : List (Tmp × SV)) (need : List (Tmp × Nat)) (i : Nat) (t : Tmp) : Option SV :=
  match need.find? (fun x => x.1 == t) with
  | some x => (its[x.2]?).map (·.out)
  | none => match os.find? (fun x => x.1 == t) with
    | some x => bif freeB ops its i t then some x.2 else none
    | none => none
theorem src_eval {t : Tmp} {s : SV} (h : src ops its os need i t = some s) (K : Known ops i its os need μ a) : a.eval (.tmp t) = s.at μ := by
  unfold src at h
  cases hn : need.find? (fun x => x.1 == t) with
  | some x =>
    rw [hn] at h
    dsimp only at h
    have h1 := List.mem_of_find?_eq_some hn
    have h2 : x.1 = t := by simpa using List.find?_some hn
    obtain ⟨jt, hj, rfl⟩ := Option.map_eq_some_iff.1 h
    exact K.op t x.2 (by rw [← h2]; exact h1) hj
  | none =>
    rw [hn] at h
    dsimp only at h
    cases ho : os.find? (fun x => x.1 == t) with
    | none => rw [ho] at h; cases h
    | some x =>
      rw [ho] at h
      dsimp only at h
      have h1 := List.mem_of_find?_eq_some ho
      have h2 : x.1 = t := by simpa using List.find?_some ho
      cases hf : freeB ops its i t with
      | false => rw [hf] at h; cases h
      | true =>
        rw [hf] at h
        obtain rfl : x.2 = s := Option.some.inj h
        exact K.old t x.2 (by rw [← h2]; exact h1) hf
theorem sx {t : Tmp} {f : (Nat → Nat) → Value} (h : ∀ μ : Nat → Nat, (src ops its os need i t).map (fun s => s.at μ) = some (f μ) := by intro _; kernel_rfl) : ∀ (μ : Nat → Nat) (a : Act), Known ops i its os need μ a → a.eval (.tmp t) = f μ := fun μ _ K => by
  obtain ⟨s, hs, he⟩ := Option.map_eq_some_iff.1 (h μ)
  rw [src_eval hs K]
  exact he
def ro (ops : Array Oper) (its : List It) (os : List (Tmp × SV)) (need : List (Tmp × Nat)) (i : Nat) (μ : Nat → Nat) : Operand → Value
  | .tmp t => match src ops its os need i t with | some s => s.at μ | none => undef
  | .const v => v
  | .global g => .pointer (some ⟨g, 0, none⟩)
  | .func f => .func (.func f) #[] #[]
def seen (ops : Array Oper) (its : List It) (os : List (Tmp × SV)) (need : List (Tmp × Nat)) (i : Nat) (o : Oper) : Bool :=
  (match o.op with | .select _ _ => false | _ => true) && o.op.operands.all (fun x => match x with | .tmp t => (src ops its os need i t).isSome | _ => true)
theorem exec_ro (h : seen ops its os need i o = true) (K : Known ops i its os need μ a) : execOp a.eval o = execOp (ro ops its os need i μ) o := by
  simp only [seen, Bool.and_eq_true] at h
  refine execOp_congr o (fun cs b he => ?_) (fun x hx => ?_)
  · rw [he] at h; exact absurd h.1 (by simp)
  · have h1 := Array.all_eq_true'.1 h.2 x hx
    cases x with
    | tmp t =>
      dsimp only at h1
      obtain ⟨s, hs⟩ := Option.isSome_iff_exists.1 h1
      rw [src_eval hs K]
      show _ = (match src ops its os need i t with | some s => s.at μ | none => undef)
      rw [hs]
    | const v => rfl
    | global g => rfl
    | func f => rfl
/-- An operation that the kernel runs. -/
theorem st (h : ∀ (μ : Nat → Nat) (w : World), ((seen ops its os it.need i o, it.kind), (execOp (ro ops its os it.need i μ) o).run P w) = ((true, Kind.stay), .ok (.value (it.out.at μ)) w) := by intro _ _; kernel_rfl) : Cert P Q w0 k0 X ops i its bl os o it := by
  intro μ a w K hK _ hbel
  have h0 := h μ w
  simp only [Prod.mk.injEq] at h0
  rw [h0.1.2]
  intro hK2
  unfold Oper.wp
  rw [exec_ro h0.1.1 hK, h0.2]
  exact hK2
theorem se {v v' : Value} (e : v' = v) (h : ∀ (μ : Nat → Nat) (w : World), ((seen ops its os it.need i o, it.kind, it.out), (execOp (ro ops its os it.need i μ) o).run P w) = ((true, Kind.stay, SV.v v), .ok (.value v') w) := by intro _ _; kernel_rfl) : Cert P Q w0 k0 X ops i its bl os o it := by
  intro μ a w K hK _ hbel
  have h0 := h μ w
  simp only [Prod.mk.injEq] at h0
  rw [h0.1.2.1]
  intro hK2
  rw [h0.1.2.2] at hK2
  unfold Oper.wp
  rw [exec_ro h0.1.1 hK, h0.2, e]
  exact hK2
/-- A new block. -/
theorem mk (b : Nat) (T : TypeId) (h : ∀ (μ : Nat → Nat) (w : World), ((seen ops its os it.need i o, it.kind), (execOp (ro ops its os it.need i μ) o).run P w) = ((true, Kind.make b), .ok (.value (it.out.at (upd μ b w.heap.size))) (w.alloc (.cells (((bl[b]?).map (·.before)).getD []).toArray T))) := by intro _ _; kernel_rfl) : Cert P Q w0 k0 X ops i its bl os o it := by
  intro μ a w K hK _ hbel
  have h0 := h μ w
  simp only [Prod.mk.injEq] at h0
  rw [h0.1.2]
  intro e hb h2
  unfold Oper.wp
  rw [exec_ro h0.1.1 hK, h0.2, hb]
  exact h2 _ _ (Made.alloc w e.before T)
/-- A call. -/
theorem clB {f : FuncId} {args : Array Value} {v : Value} (h : ∀ (μ : Nat → Nat) (w : World), ((seen ops its os it.need i o, it.kind, it.out), (execOp (ro ops its os it.need i μ) o).run P w) = ((true, Kind.call, SV.v v), .ok (.enter f args) w))
    (hc : ∀ w, BelX k0 X w0 w → Calls P f args w (Ret fun e w' => Below w.heap.size w w' ∧ e = v)) : Cert P Q w0 k0 X ops i its bl os o it := by
  intro μ a w K hK _ hbel
  have h0 := h μ w
  simp only [Prod.mk.injEq] at h0
  rw [h0.1.2.1]
  intro hk
  rw [h0.1.2.2] at hk
  unfold Oper.wp
  rw [exec_ro h0.1.1 hK, h0.2, Oper.upon_enter]
  refine (hc w hbel).mono ?_
  rintro e w' ⟨v', rfl, hb, rfl⟩
  exact hk w' hb
theorem cl {f : FuncId} {args : Array Value} {v : Value} (hc : ∀ w, Calls P f args w (Ret fun e w' => Below w.heap.size w w' ∧ e = v)) (h : ∀ (μ : Nat → Nat) (w : World), ((seen ops its os it.need i o, it.kind, it.out), (execOp (ro ops its os it.need i μ) o).run P w) = ((true, Kind.call, SV.v v), .ok (.enter f args) w) := by intro _ _; kernel_rfl) : Cert P Q w0 k0 X ops i its bl os o it :=
  clB h (fun w _ => hc w)
/-- A call that answers new memory. -/
theorem cm (b : Nat) {f : FuncId} {args : Array Value} {c : List Value} (hc : ∀ w, BelX k0 X w0 w → Calls P f args w (Ret fun e w' => ∃ k, Made w k c w' ∧ e = it.out.at (fun _ => k)))
    (h : ∀ (μ : Nat → Nat) (w : World), ((seen ops its os it.need i o, it.kind, (bl[b]?).map (·.before), it.out.blk), (execOp (ro ops its os it.need i μ) o).run P w) = ((true, Kind.make b, some c, some b), .ok (.enter f args) w)) : Cert P Q w0 k0 X ops i its bl os o it := by
  intro μ a w K hK _ hbel
  have h0 := h μ w
  simp only [Prod.mk.injEq] at h0
  obtain ⟨⟨h1, h2, h3, h4⟩, h5⟩ := h0
  rw [h2]
  intro e hb hk
  rw [hb] at h3
  obtain rfl : e.before = c := Option.some.inj h3
  unfold Oper.wp
  rw [exec_ro h1 hK, h5, Oper.upon_enter]
  refine (hc w hbel).mono ?_
  rintro r w' ⟨v', rfl, k, hm, rfl⟩
  have he : it.out.at (upd μ b k) = it.out.at (fun _ => k) := SV.at_congr fun b' hb' => by
    rw [h4] at hb'
    obtain rfl := Option.some.inj hb'
    unfold upd
    rw [if_pos rfl]
  have := hk k w' hm
  rw [he] at this
  exact this
/-- Operation i may read block b. -/
def canRead (ops : Array Oper) (i : Nat) (o : Oper) (bl : List Bl) (b : Nat) : Bool := match bl[b]? with
  | some e => (match e.al with | none => true | some j => depB o j) && readB ops i e
  | none => false
def Seen (bl : List Bl) (bs : List Nat) (μ : Nat → Nat) (w : World) : Prop := ∀ b ∈ bs, ∀ e : Bl, bl[b]? = some e → e.before ≠ [] → w.rangeAt (μ b) 0 e.before ∧ μ b < w.heap.size
theorem seen_of {bs : List Nat} (ho : ops[i]? = some o) (h : bs.all (canRead ops i o bl) = true) (hR : Reads ops i bl μ w) : Seen bl bs μ w := fun b hb e he hne => by
  have h1 := List.all_eq_true.1 h b hb
  unfold canRead at h1
  rw [he] at h1
  dsimp only at h1
  rw [Bool.and_eq_true] at h1
  have hr := hR b e he (by
    cases ha : e.al with
    | none => exact Or.inl rfl
    | some j => rw [ha] at h1; exact Or.inr ⟨o, j, ho, rfl, h1.1⟩) h1.2
  refine ⟨hr, ?_⟩
  cases hee : e.before with
  | nil => exact absurd hee hne
  | cons x r =>
    have h2 := hr 0 x (by rw [hee]; rfl)
    exact Classical.byContradiction fun hn => by
      have h3 : w.heap[μ b]? = none := Array.getElem?_eq_none (by omega)
      simp [World.cell?, h3] at h2
/-- A call that looks at blocks. -/
theorem cr (bs : List Nat) {f : FuncId} {args : (Nat → Nat) → Array Value} {v : Value} (hc : ∀ (μ : Nat → Nat) (w : World), BelX k0 X w0 w → Seen bl bs μ w → Calls P f (args μ) w (Ret fun e w' => Below w.heap.size w w' ∧ e = v))
    (h : ∀ (μ : Nat → Nat) (w : World), ((seen ops its os it.need i o, it.kind, it.out, bs.all (canRead ops i o bl), ops[i]?), (execOp (ro ops its os it.need i μ) o).run P w) = ((true, Kind.call, SV.v v, true, some o), .ok (.enter f (args μ)) w)) : Cert P Q w0 k0 X ops i its bl os o it := by
  intro μ a w K hK hR hbel
  have h0 := h μ w
  simp only [Prod.mk.injEq] at h0
  obtain ⟨⟨h1, h2, h3, h4, h6⟩, h5⟩ := h0
  rw [h2]
  intro hk
  rw [h3] at hk
  unfold Oper.wp
  rw [exec_ro h1 hK, h5, Oper.upon_enter]
  refine (hc μ w hbel (seen_of h6 h4 hR)).mono ?_
  rintro e w' ⟨v', rfl, hb, rfl⟩
  exact hk w' hb
/-- A call that looks at blocks and answers new memory. -/
theorem crm (b : Nat) (bs : List Nat) {f : FuncId} {args : (Nat → Nat) → Array Value} {c : List Value} (hc : ∀ (μ : Nat → Nat) (w : World), BelX k0 X w0 w → Seen bl bs μ w → Calls P f (args μ) w (Ret fun e w' => ∃ k, Made w k c w' ∧ e = it.out.at (fun _ => k)))
    (h : ∀ (μ : Nat → Nat) (w : World), ((seen ops its os it.need i o, it.kind, (bl[b]?).map (·.before), it.out.blk, bs.all (canRead ops i o bl), ops[i]?), (execOp (ro ops its os it.need i μ) o).run P w) = ((true, Kind.make b, some c, some b, true, some o), .ok (.enter f (args μ)) w)) : Cert P Q w0 k0 X ops i its bl os o it := by
  intro μ a w K hK hR hbel
  have h0 := h μ w
  simp only [Prod.mk.injEq] at h0
  obtain ⟨⟨h1, h2, h3, h4, h6, h7⟩, h5⟩ := h0
  rw [h2]
  intro e hb hk
  rw [hb] at h3
  obtain rfl : e.before = c := Option.some.inj h3
  unfold Oper.wp
  rw [exec_ro h1 hK, h5, Oper.upon_enter]
  refine (hc μ w hbel (seen_of h7 h6 hR)).mono ?_
  rintro r w' ⟨v', rfl, k, hm, rfl⟩
  have he : it.out.at (upd μ b k) = it.out.at (fun _ => k) := SV.at_congr fun b' hb' => by
    rw [h4] at hb'
    obtain rfl := Option.some.inj hb'
    unfold upd
    rw [if_pos rfl]
  have := hk k w' hm
  rw [he] at this
  exact this
/-- What a load of a row of n cells gives. -/
def ldv (ops : Array Oper) (its : List It) (bl : List Bl) (os : List (Tmp × SV)) (i : Nat) (o : Oper) (it : It) (T : TypeId) (n : Nat) : Option SV :=
  match it.kind, o.op with
  | .stay, .load T' (.tmp t) => match src ops its os it.need i t with
    | some (.p b off) => match bl[b]? with
      | some e => bif T' == T && e.al.isNone && readB ops i e && (off + n).ble e.before.length then some (.v (.agg ((e.before.drop off).take n).toArray)) else none
      | none => none
    | _ => none
  | _, _ => none
theorem ld {T : TypeId} {n : Nat} (hu : (P.underlying T).map (·.isRow) = some true) (hi : (P.info? T).map (·.size) = some n) (h : ldv ops its bl os i o it T n = some it.out := by kernel_rfl) : Cert P Q w0 k0 X ops i its bl os o it := by
  unfold ldv at h
  split at h
  · rename_i T' t hk ho
    split at h
    · rename_i b off hs
      split at h
      · rename_i e hb
        cases hc : (T' == T && e.al.isNone && readB ops i e && (off + n).ble e.before.length) with
        | false => rw [hc] at h; cases h
        | true =>
          rw [hc] at h
          have h' : some (SV.v (.agg ((e.before.drop off).take n).toArray)) = some it.out := h
          simp only [Bool.and_eq_true, beq_iff_eq, Option.isNone_iff_eq_none, Nat.ble_eq] at hc
          obtain ⟨⟨⟨rfl, hal⟩, hr⟩, hle⟩ := hc
          have hlen : ((e.before.drop off).take n).length = n := by rw [List.length_take, List.length_drop]; omega
          refine cert_load hk b off e hb hal hr T' t ho ((e.before.drop off).take n) (Option.some.inj h').symm (fun _ _ K => src_eval hs K) ?_ hu (by rw [hlen]; exact hi)
          rw [hlen]
      · cases h
    · cases h
  · cases h
/-- What a load of one cell gives. -/
def ldw (ops : Array Oper) (its : List It) (bl : List Bl) (os : List (Tmp × SV)) (i : Nat) (o : Oper) (it : It) (T : TypeId) : Option SV :=
  match it.kind, o.op with
  | .stay, .load T' (.tmp t) => match src ops its os it.need i t with
    | some (.p b off) => match bl[b]? with
      | some e => bif T' == T && e.al.isNone && readB ops i e then (e.before[off]?).map .v else none
      | none => none
    | _ => none
  | _, _ => none
theorem ld1 {T : TypeId} (hu : (P.underlying T).map (·.isRow) = some false) (h : ldw ops its bl os i o it T = some it.out := by kernel_rfl) : Cert P Q w0 k0 X ops i its bl os o it := by
  unfold ldw at h
  split at h
  · rename_i T' t hk ho
    split at h
    · rename_i b off hs
      split at h
      · rename_i e hb
        cases hc : (T' == T && e.al.isNone && readB ops i e) with
        | false => rw [hc] at h; cases h
        | true =>
          rw [hc] at h
          have h' : (e.before[off]?).map SV.v = some it.out := h
          obtain ⟨v, hv, hvo⟩ := Option.map_eq_some_iff.1 h'
          simp only [Bool.and_eq_true, beq_iff_eq, Option.isNone_iff_eq_none] at hc
          obtain ⟨⟨rfl, hal⟩, hr⟩ := hc
          exact cert_load1 hk b off e hb hal hr T' t ho v hvo.symm (fun _ _ K => src_eval hs K) hv hu
      · cases h
    · cases h
  · cases h
/-- What lies in a block behind a store of n cells. -/
def ptv (ops : Array Oper) (its : List It) (bl : List Bl) (os : List (Tmp × SV)) (i : Nat) (o : Oper) (it : It) (T : TypeId) (n : Nat) : Option (List Value) :=
  match it.kind, o.op, o.dst with
  | .put b, .store T' (.tmp x) (.tmp y), none => match src ops its os it.need i x, src ops its os it.need i y with
    | some (.p b' off), some (.v (.agg vs)) => match bl[b]? with
      | some e => bif T' == T && b' == b && vs.size == n && (off + n).ble e.before.length && vs.toList.all (·.oneCell') then some (rep e.before off vs.toList) else none
      | none => none
    | _, _ => none
  | _, _, _ => none
theorem pt {T : TypeId} {n : Nat} (hi : (P.info? T).map (·.size) = some n) (h : ((ptv ops its bl os i o it T n).isSome, ptv ops its bl os i o it T n) = (true, match it.kind with | .put b => (bl[b]?).map (·.after) | _ => none) := by kernel_rfl) : Cert P Q w0 k0 X ops i its bl os o it := by
  simp only [Prod.mk.injEq] at h
  obtain ⟨hso, h⟩ := h
  rw [h] at hso
  unfold ptv at h
  split at h
  · rename_i b T' x y hk ho hdn
    rw [hk] at h hso
    dsimp only at h hso
    cases hb : bl[b]? with
    | none => rw [hb] at hso; cases hso
    | some e =>
      rw [hb] at h
      split at h
      · rename_i b' off vs hx hy
        dsimp only at h
        cases hc : (T' == T && b' == b && vs.size == n && (off + n).ble e.before.length && vs.toList.all (·.oneCell')) with
        | false => rw [hc] at h; cases h
        | true =>
          rw [hc] at h
          have h' : some (rep e.before off vs.toList) = some e.after := h
          simp only [Bool.and_eq_true, beq_iff_eq, Nat.ble_eq] at hc
          obtain ⟨⟨⟨⟨rfl, rfl⟩, hn⟩, hle⟩, h1⟩ := hc
          have hlen : vs.toList.length = n := by rw [Array.length_toList]; exact hn
          refine cert_putAt b' off hk e hb T' (.tmp x) (.tmp y) vs.toList ho hdn (fun _ _ K => src_eval hx K) (fun _ _ K => ?_) (by rw [hlen]; exact hle) (fun j => ?_) (by rw [hlen]; exact hi) h1
          · rw [Array.toArray_toList]; exact src_eval hy K
          · rw [← Option.some.inj h', rep_at (by rw [hlen]; exact hle)]
      · cases h
  · rw [← h] at hso; cases hso
/-- Blocks: those that are there (cs), those that are made (which operation, what lies in it), what is stored (where, which operation, what). -/
def aft (pu : List (Nat × Nat × List Value)) (b : Nat) (c : List Value) : List Value := match pu.find? (fun x => x.1 == b) with | some x => x.2.2 | none => c
def sto (pu : List (Nat × Nat × List Value)) (b : Nat) : Option Nat := (pu.find? (fun x => x.1 == b)).map (·.2.1)
def olB (pu : List (Nat × Nat × List Value)) : Nat → List (List Value) → List Bl
  | _, [] => []
  | b, c :: r => ⟨c, aft pu b c, none, sto pu b⟩ :: olB pu (b + 1) r
def mkB (pu : List (Nat × Nat × List Value)) : Nat → List (Nat × List Value) → List Bl
  | _, [] => []
  | b, c :: r => ⟨c.2, aft pu b c.2, some c.1, sto pu b⟩ :: mkB pu (b + 1) r
def bls (cs : List (List Value)) (mk : List (Nat × List Value)) (pu : List (Nat × Nat × List Value)) : List Bl := olB pu 0 cs ++ mkB pu cs.length mk
theorem olB_len (pu : List (Nat × Nat × List Value)) : ∀ (cs : List (List Value)) (b : Nat), (olB pu b cs).length = cs.length
  | [], _ => rfl
  | c :: r, b => by rw [olB, List.length_cons, olB_len pu r, List.length_cons]
theorem mkB_len (pu : List (Nat × Nat × List Value)) : ∀ (cs : List (Nat × List Value)) (b : Nat), (mkB pu b cs).length = cs.length
  | [], _ => rfl
  | c :: r, b => by rw [mkB, List.length_cons, mkB_len pu r, List.length_cons]
theorem olB_before (pu : List (Nat × Nat × List Value)) : ∀ (cs : List (List Value)) (b : Nat), (olB pu b cs).map (·.before) = cs
  | [], _ => rfl
  | c :: r, b => by rw [olB, List.map_cons, olB_before pu r]
theorem mkB_before (pu : List (Nat × Nat × List Value)) : ∀ (cs : List (Nat × List Value)) (b : Nat), (mkB pu b cs).map (·.before) = cs.map (·.2)
  | [], _ => rfl
  | c :: r, b => by rw [mkB, List.map_cons, mkB_before pu r, List.map_cons]
theorem olB_get (pu : List (Nat × Nat × List Value)) : ∀ (cs : List (List Value)) (b j : Nat) (e : Bl), (olB pu b cs)[j]? = some e → e.al = none ∧ e.after = aft pu (b + j) e.before ∧ e.st = sto pu (b + j)
  | [], _, _, _, h => by simp [olB] at h
  | c :: r, b, 0, e, h => by
    rw [olB, List.getElem?_cons_zero] at h
    obtain rfl := Option.some.inj h
    exact ⟨rfl, rfl, rfl⟩
  | c :: r, b, j + 1, e, h => by
    rw [olB, List.getElem?_cons_succ] at h
    have := olB_get pu r (b + 1) j e h
    rwa [show b + 1 + j = b + (j + 1) by omega] at this
theorem mkB_get (pu : List (Nat × Nat × List Value)) : ∀ (cs : List (Nat × List Value)) (b j : Nat) (e : Bl), (mkB pu b cs)[j]? = some e → (∃ x ∈ cs, e.al = some x.1) ∧ e.after = aft pu (b + j) e.before ∧ e.st = sto pu (b + j)
  | [], _, _, _, h => by simp [mkB] at h
  | c :: r, b, 0, e, h => by
    rw [mkB, List.getElem?_cons_zero] at h
    obtain rfl := Option.some.inj h
    exact ⟨⟨c, List.mem_cons_self, rfl⟩, rfl, rfl⟩
  | c :: r, b, j + 1, e, h => by
    rw [mkB, List.getElem?_cons_succ] at h
    obtain ⟨⟨x, hx, h1⟩, h2⟩ := mkB_get pu r (b + 1) j e h
    refine ⟨⟨x, List.mem_cons_of_mem _ hx, h1⟩, ?_⟩
    rwa [show b + 1 + j = b + (j + 1) by omega] at h2
variable {cs cs' : List (List Value)} {mk : List (Nat × List Value)} {pu : List (Nat × Nat × List Value)} {ks : List Nat}
theorem bls_len : (bls cs mk pu).length = cs.length + mk.length := by rw [bls, List.length_append, olB_len, mkB_len]
theorem bls_before : (bls cs mk pu).map (·.before) = cs ++ mk.map (·.2) := by rw [bls, List.map_append, olB_before, mkB_before]
theorem bls_get {b : Nat} {e : Bl} (h : (bls cs mk pu)[b]? = some e) : e.after = aft pu b e.before ∧ e.st = sto pu b ∧ ((b < cs.length ∧ e.al = none) ∨ (cs.length ≤ b ∧ ∃ x ∈ mk, e.al = some x.1)) := by
  unfold bls at h
  by_cases hb : b < cs.length
  · rw [List.getElem?_append_left (by rw [olB_len]; exact hb)] at h
    have := olB_get pu cs 0 b e h
    rw [Nat.zero_add] at this
    exact ⟨this.2.1, this.2.2, Or.inl ⟨hb, this.1⟩⟩
  · rw [List.getElem?_append_right (by rw [olB_len]; omega), olB_len] at h
    have := mkB_get pu mk cs.length (b - cs.length) e h
    rw [show cs.length + (b - cs.length) = b by omega] at this
    exact ⟨this.2.1, this.2.2, Or.inr ⟨by omega, this.1⟩⟩
theorem bls_start : startB (bls cs mk pu) cs.length = true := by
  simp only [startB, Bool.and_eq_true, decide_eq_true_eq]
  refine ⟨List.all_eq_true.2 fun x hx => ?_, by rw [bls_len]; omega⟩
  rw [List.mem_zipIdx_iff_getElem?] at hx
  rcases (bls_get hx).2.2 with ⟨h1, h2⟩ | ⟨h1, y, -, h2⟩
  · rw [h2]; simp [h1]
  · rw [h2]; simp; omega
def inB (m : Nat) (mk : List (Nat × List Value)) (pu : List (Nat × Nat × List Value)) : Bool := mk.all (fun x => x.1.blt m) && pu.all (fun x => x.2.1.blt m)
theorem bls_end (h : inB its.length mk pu = true) (hl : pu.map (fun x => x.2.2.length) = pu.map (fun x => (((cs ++ mk.map (·.2))[x.1]?).getD []).length)) :
    (∀ e ∈ bls cs mk pu, ∀ j, e.al = some j ∨ e.st = some j → j < its.length) ∧ ∀ e ∈ bls cs mk pu, e.fin.length = e.before.length := by
  simp only [inB, Bool.and_eq_true] at h
  refine ⟨fun e he j hj => ?_, fun e he => ?_⟩
  · obtain ⟨b, hb⟩ := List.getElem?_of_mem he
    obtain ⟨h1, h2, h3⟩ := bls_get hb
    rcases hj with hj | hj
    · rcases h3 with ⟨-, h4⟩ | ⟨-, x, hx, h4⟩
      · rw [h4] at hj; cases hj
      · rw [h4] at hj
        obtain rfl := Option.some.inj hj
        have := List.all_eq_true.1 h.1 x hx
        exact Nat.lt_of_succ_le (Nat.le_of_ble_eq_true this)
    · rw [h2] at hj
      unfold sto at hj
      obtain ⟨x, hx, rfl⟩ := Option.map_eq_some_iff.1 hj
      have := List.all_eq_true.1 h.2 x (List.mem_of_find?_eq_some hx)
      exact Nat.lt_of_succ_le (Nat.le_of_ble_eq_true this)
  · obtain ⟨b, hb⟩ := List.getElem?_of_mem he
    obtain ⟨h1, h2, -⟩ := bls_get hb
    unfold Bl.fin
    rw [h2, h1]
    unfold sto aft
    cases hp : pu.find? (fun x => x.1 == b) with
    | none => rfl
    | some x =>
      show x.2.2.length = _
      have hm := List.mem_of_find?_eq_some hp
      have hx : x.1 = b := by simpa using List.find?_some hp
      have h5 := List.map_inj_left.1 hl x hm
      rw [h5, ← bls_before (pu := pu), hx, List.getElem?_map, hb]
      rfl
/-- What a slot holds behind a region. -/
def lk (its : List It) (os : List (Tmp × SV)) (t : Tmp) : Option SV :=
  match its.find? (fun it => it.dst == some t) with
  | some it => some it.out
  | none => (os.find? (fun x => x.1 == t)).map (·.2)
/-- THE MACHINE: the blocks, the slots. -/
structure M (w0 : World) (k0 : Nat) (X : List Nat) (n : Nat) (cs : List (List Value)) (ks : List Nat) (os : List (Tmp × SV)) (a : Act) (w : World) : Prop where
  st : St w0 k0 X cs ks w
  sl : Sl a n
  os : Olds a (ad ks) os
def All : Nat → (List Nat → Prop) → Prop
  | 0, f => f []
  | n + 1, f => ∀ k : Nat, All n fun l => f (k :: l)
theorem All.get : ∀ {n : Nat} {f : List Nat → Prop}, All n f → ∀ l : List Nat, l.length = n → f l
  | 0, f, h, l, hl => by rw [List.length_eq_zero_iff.1 hl]; exact h
  | n + 1, f, h, [], hl => by simp at hl
  | n + 1, f, h, k :: l, hl => All.get (h k) l (by simpa using hl)
theorem at_more {s : SV} {new : List Nat} (h : ∀ b, s.blk = some b → b < ks.length) : s.at (ad (ks ++ new)) = s.at (ad ks) := SV.at_congr fun b hb => by
  unfold ad
  rw [List.getD_eq_getElem?_getD, List.getD_eq_getElem?_getD, List.getElem?_append_left (h b hb)]
theorem Olds.mk' {μ : Nat → Nat} : ∀ {l : List (Tmp × SV)}, (∀ x ∈ l, a.tmps[x.1]? = some (x.2.at μ)) → Olds a μ l
  | [], _ => trivial
  | x :: r, h => ⟨h x List.mem_cons_self, Olds.mk' fun y hy => h y (List.mem_cons_of_mem _ hy)⟩
theorem M.next {os' : List (Tmp × SV)} {new : List Nat} {w' : World} (h : M w0 k0 X n cs ks os a w) (hall : allB ops its (bls cs mk pu) os n = true) (hlk : (os'.map fun x => lk its os x.1) = os'.map fun x => some x.2)
    (hS : St w0 k0 X cs' (ks ++ new) w') : M w0 k0 X n cs' (ks ++ new) os' (puts (ad (ks ++ new)) its a) w' := by
  refine ⟨hS, h.sl.puts, Olds.mk' fun x hx => ?_⟩
  have h1 := List.map_inj_left.1 hlk x hx
  simp only [allB, Bool.and_eq_true, beq_iff_eq] at hall
  obtain ⟨⟨⟨⟨hsz, hd⟩, hold⟩, hin⟩, hok⟩ := hall
  unfold lk at h1
  cases hf : its.find? (fun it => it.dst == some x.1) with
  | some it =>
    rw [hf] at h1
    have hm := List.mem_of_find?_eq_some hf
    have hdt : it.dst = some x.1 := by simpa using List.find?_some hf
    obtain ⟨j, hj⟩ := List.getElem?_of_mem hm
    have hlt := List.all_eq_true.1 hin it hm
    rw [hdt] at hlt
    have := puts_same (ad (ks ++ new)) its a j it x.1 hd hj hdt (by rw [h.sl.size]; simpa using hlt)
    rw [this, ← Option.some.inj h1]
  | none =>
    rw [hf] at h1
    obtain ⟨y, hy, hyx⟩ := Option.map_eq_some_iff.1 h1
    have hm := List.mem_of_find?_eq_some hy
    have hyt : y.1 = x.1 := by simpa using List.find?_some hy
    have h2 := h.os.get y.1 y.2 hm
    rw [puts_other _ its a x.1 (fun it hit hdd => by
      have := List.find?_eq_none.1 hf it hit
      rw [hdd] at this
      simp at this), ← hyt, h2, ← hyx]
    congr 1
    refine (at_more fun b hb => ?_).symm
    have h3 := List.all_eq_true.1 hold y hm
    rw [hb] at h3
    dsimp only at h3
    cases he : (bls cs mk pu)[b]? with
    | none => rw [he] at h3; cases h3
    | some e =>
      rw [he] at h3
      rcases (bls_get he).2.2 with ⟨h4, -⟩ | ⟨-, z, -, h5⟩
      · rw [h.st.len]; exact h4
      · dsimp only at h3; rw [h5] at h3; simp at h3
theorem M.reg (h : M w0 k0 X n cs ks os a w) (hall : allB ops its (bls cs mk pu) os n = true) (hc : Certs P Q w0 k0 X ops its (bls cs mk pu) os 0 ops.toList its) : Reg P ops Q w0 k0 X its (bls cs mk pu) os a (ad ks) :=
  Reg.mk' (by rw [h.sl.size]; exact hall) h.os hc
theorem bls_take : ((bls cs mk pu).map (·.before)).take cs.length = cs := by rw [bls_before, List.take_left']; rfl
/-- A region in the order of its text. -/
theorem M.tx {id : Nat} (h : M w0 k0 X n cs ks os a w) (its : List It) (mk : List (Nat × List Value)) (pu : List (Nat × Nat × List Value)) (cs' : List (List Value)) (os' : List (Tmp × SV))
    (hk : (allB ops its (bls cs mk pu) os n && inB its.length mk pu, (bls cs mk pu).map Bl.fin, os'.map fun x => lk its os x.1) = (true, cs', os'.map fun x => some x.2))
    (hl : pu.map (fun x => x.2.2.length) = pu.map (fun x => (((cs ++ mk.map (·.2))[x.1]?).getD []).length))
    (hc : Certs P Q w0 k0 X ops its (bls cs mk pu) os 0 ops.toList its)
    (hp : All mk.length fun new => ∀ a' w', M w0 k0 X n cs' (ks ++ new) os' a' w' → Q .normal a' w') : (Code.region id ops false).wp P Q a w := by
  simp only [Prod.mk.injEq, Bool.and_eq_true] at hk
  obtain ⟨⟨h1, h2⟩, h3, h4⟩ := hk
  refine region_text' h.st (h.reg h1 hc) bls_start bls_take (bls_end h2 hl) fun new w' hn hS => ?_
  rw [bls_len, Nat.add_sub_cancel_left] at hn
  exact hp.get new hn _ _ (h.next h1 h4 (h3 ▸ hS))
/-- A region that draws its order. -/
theorem M.dr {id : Nat} (h : M w0 k0 X n cs ks os a w) (hm : P.follows .mixedOrders = true) (its : List It) (mk : List (Nat × List Value)) (pu : List (Nat × Nat × List Value)) (cs' : List (List Value)) (os' : List (Tmp × SV))
    (hk : (allB ops its (bls cs mk pu) os n && inB its.length mk pu, (bls cs mk pu).map Bl.fin, os'.map fun x => lk its os x.1) = (true, cs', os'.map fun x => some x.2))
    (hl : pu.map (fun x => x.2.2.length) = pu.map (fun x => (((cs ++ mk.map (·.2))[x.1]?).getD []).length))
    (hc : Certs P Q w0 k0 X ops its (bls cs mk pu) os 0 ops.toList its)
    (hp : All mk.length fun new => ∀ a' w', M w0 k0 X n cs' (ks ++ new) os' a' w' → Q .normal a' w') : (Code.region id ops true).wp P Q a w := by
  simp only [Prod.mk.injEq, Bool.and_eq_true] at hk
  obtain ⟨⟨h1, h2⟩, h3, h4⟩ := hk
  refine region_draws' hm h.st (h.reg h1 hc) bls_start bls_take (bls_end h2 hl) fun new w' hn hS => ?_
  rw [bls_len, Nat.add_sub_cancel_left] at hn
  exact hp.get new hn _ _ (h.next h1 h4 (h3 ▸ hS))
theorem bls_nil : (bls cs [] []).map Bl.fin = cs := by
  have h : ∀ (cs : List (List Value)) (b : Nat), (olB [] b cs).map Bl.fin = cs := fun cs => by
    induction cs with
    | nil => intro _; rfl
    | cons c r ih => intro b; rw [olB, List.map_cons, ih]; rfl
  rw [bls, List.map_append, h]
  exact List.append_nil _
theorem M.tx0 {id : Nat} (h : M w0 k0 X n cs ks os a w) (its : List It) (os' : List (Tmp × SV)) (hk : (allB ops its (bls cs [] []) os n, os'.map fun x => lk its os x.1) = (true, os'.map fun x => some x.2))
    (hc : Certs P Q w0 k0 X ops its (bls cs [] []) os 0 ops.toList its) (hp : ∀ a' w', M w0 k0 X n cs ks os' a' w' → Q .normal a' w') : (Code.region id ops false).wp P Q a w := by
  simp only [Prod.mk.injEq] at hk
  refine h.tx its [] [] cs os' (by simp only [hk.1, hk.2, bls_nil]; rfl) rfl hc (fun a' w' hM => hp a' w' ?_)
  rwa [List.append_nil] at hM
theorem M.dr0 {id : Nat} (h : M w0 k0 X n cs ks os a w) (hm : P.follows .mixedOrders = true) (its : List It) (os' : List (Tmp × SV)) (hk : (allB ops its (bls cs [] []) os n, os'.map fun x => lk its os x.1) = (true, os'.map fun x => some x.2))
    (hc : Certs P Q w0 k0 X ops its (bls cs [] []) os 0 ops.toList its) (hp : ∀ a' w', M w0 k0 X n cs ks os' a' w' → Q .normal a' w') : (Code.region id ops true).wp P Q a w := by
  simp only [Prod.mk.injEq] at hk
  refine h.dr hm its [] [] cs os' (by simp only [hk.1, hk.2, bls_nil]; rfl) rfl hc (fun a' w' hM => hp a' w' ?_)
  rwa [List.append_nil] at hM
/-- The same, with what the kernel finds by itself behind. -/
theorem M.t {id : Nat} (h : M w0 k0 X n cs ks os a w) (its : List It) (mk : List (Nat × List Value)) (pu : List (Nat × Nat × List Value)) (cs' : List (List Value)) (os' : List (Tmp × SV)) (hc : Certs P Q w0 k0 X ops its (bls cs mk pu) os 0 ops.toList its) (hp : All mk.length fun new => ∀ a' w', M w0 k0 X n cs' (ks ++ new) os' a' w' → Q .normal a' w') (hk : (allB ops its (bls cs mk pu) os n && inB its.length mk pu, (bls cs mk pu).map Bl.fin, os'.map fun x => lk its os x.1) = (true, cs', os'.map fun x => some x.2) := by kernel_rfl) (hl : pu.map (fun x => x.2.2.length) = pu.map (fun x => (((cs ++ mk.map (·.2))[x.1]?).getD []).length) := by kernel_rfl) : (Code.region id ops false).wp P Q a w := h.tx its mk pu cs' os' hk hl hc hp
theorem M.d {id : Nat} (h : M w0 k0 X n cs ks os a w) (its : List It) (mk : List (Nat × List Value)) (pu : List (Nat × Nat × List Value)) (cs' : List (List Value)) (os' : List (Tmp × SV)) (hc : Certs P Q w0 k0 X ops its (bls cs mk pu) os 0 ops.toList its) (hp : All mk.length fun new => ∀ a' w', M w0 k0 X n cs' (ks ++ new) os' a' w' → Q .normal a' w') (hk : (allB ops its (bls cs mk pu) os n && inB its.length mk pu, (bls cs mk pu).map Bl.fin, os'.map fun x => lk its os x.1) = (true, cs', os'.map fun x => some x.2) := by kernel_rfl) (hl : pu.map (fun x => x.2.2.length) = pu.map (fun x => (((cs ++ mk.map (·.2))[x.1]?).getD []).length) := by kernel_rfl) (hm : P.follows .mixedOrders = true := by kernel_rfl) : (Code.region id ops true).wp P Q a w := h.dr hm its mk pu cs' os' hk hl hc hp
theorem M.u {id : Nat} (h : M w0 k0 X n cs ks os a w) (its : List It) (os' : List (Tmp × SV)) (hc : Certs P Q w0 k0 X ops its (bls cs [] []) os 0 ops.toList its) (hp : ∀ a' w', M w0 k0 X n cs ks os' a' w' → Q .normal a' w') (hk : (allB ops its (bls cs [] []) os n, os'.map fun x => lk its os x.1) = (true, os'.map fun x => some x.2) := by kernel_rfl) : (Code.region id ops false).wp P Q a w := h.tx0 its os' hk hc hp
theorem M.e {id : Nat} (h : M w0 k0 X n cs ks os a w) (its : List It) (os' : List (Tmp × SV)) (hc : Certs P Q w0 k0 X ops its (bls cs [] []) os 0 ops.toList its) (hp : ∀ a' w', M w0 k0 X n cs ks os' a' w' → Q .normal a' w') (hk : (allB ops its (bls cs [] []) os n, os'.map fun x => lk its os x.1) = (true, os'.map fun x => some x.2) := by kernel_rfl) (hm : P.follows .mixedOrders = true := by kernel_rfl) : (Code.region id ops true).wp P Q a w := h.dr0 hm its os' hk hc hp
theorem M.at (h : M w0 k0 X n cs ks os a w) {t : Tmp} {s : SV} (hs : (os.find? (fun x => x.1 == t)).map (·.2) = some s := by kernel_rfl) : a.tmps[t]? = some (s.at (ad ks)) := by
  obtain ⟨y, hy, rfl⟩ := Option.map_eq_some_iff.1 hs
  have hyt : y.1 = t := by simpa using List.find?_some hy
  rw [← hyt]
  exact h.os.get y.1 y.2 (List.mem_of_find?_eq_some hy)
theorem St.made {w w' : World} {cs : List (List Value)} {ks : List Nat} (h : St w w.heap.size [] cs ks w') {b : Nat} {c : List Value} (hb : cs[b]? = some c) : Made w (ad ks b) c w' := by
  obtain ⟨h1, h2, h3, h4⟩ := h.has b c hb
  exact ⟨h.bel.below, h4.elim id (fun h => absurd h List.not_mem_nil), h3, h1, h2⟩
theorem M.av (h : M w0 k0 X n cs ks os a w) {t : Tmp} {v : Value} (hs : (os.find? (fun x => x.1 == t)).map (·.2) = some (.v v) := by kernel_rfl) : a.tmps[t]? = some v := h.at hs
theorem M.ev (h : M w0 k0 X n cs ks os a w) {t : Tmp} {v : Value} (hs : (os.find? (fun x => x.1 == t)).map (·.2) = some (.v v) := by kernel_rfl) : a.eval (.tmp t) = v := eval_of (h.at hs)
/-- A call begins. -/
theorem M.enter {c : Code} (os : List (Tmp × SV)) (n : Nat) (h : (os.map fun x => a.tmps[x.1]?, a.tmps.size, a.defers) = (os.map fun x => some (x.2.at (ad [])), n, [])) (hp : ∀ a, M w w.heap.size [] n [] [] os a w → c.wp P Q a w) : c.wp P Q a w := by
  simp only [Prod.mk.injEq] at h
  exact hp a ⟨St.begin w, ⟨h.2.1, h.2.2⟩, Olds.mk' fun x hx => List.map_inj_left.1 h.1 x hx⟩
/-- Blocks that nobody asks for any more. -/
theorem M.drop {w0 w : World} {k0 n : Nat} {X : List Nat} {cs cs2 : List (List Value)} {ks ks2 : List Nat} {os : List (Tmp × SV)} {a : Act} (h : M w0 k0 X n (cs ++ cs2) (ks ++ ks2) os a w) (hl : ks.length = cs.length)
    (ho : os.all (fun x => match x.2.blk with | none => true | some b => b.blt cs.length) = true) : M w0 k0 X n cs ks os a w := by
  have had : ∀ b, b < cs.length → ad (ks ++ ks2) b = ad ks b := fun b hb => by
    unfold ad
    rw [List.getD_eq_getElem?_getD, List.getD_eq_getElem?_getD, List.getElem?_append_left (by omega)]
  refine ⟨⟨h.st.bel, h.st.le, hl, fun b c hb => ?_, fun b c hb hc hne => ?_⟩, h.sl, Olds.mk' fun x hx => ?_⟩
  · have hlt := (List.getElem?_eq_some_iff.1 hb).1
    have := h.st.has b c (by rw [List.getElem?_append_left hlt]; exact hb)
    rwa [had b hlt] at this
  · have := h.st.inj b c (by rw [List.length_append]; omega) (by rw [List.length_append]; omega) hne
    rwa [had b hb, had c hc] at this
  · rw [h.os.get x.1 x.2 hx]
    congr 1
    refine SV.at_congr fun b hb => ?_
    have h1 := List.all_eq_true.1 ho x hx
    rw [hb] at h1
    exact had b (Nat.lt_of_succ_le (Nat.le_of_ble_eq_true h1))
/-- n words that are 0. -/
abbrev z (n : Nat) : List Value := List.replicate n (.int .u64 0)
def It.s (d : Tmp) (need : List (Tmp × Nat)) (out : SV) : It := ⟨some d, need, out, .stay⟩
def It.x (d : Tmp) (need : List (Tmp × Nat)) (v : Value) : It := ⟨some d, need, .v v, .stay⟩
def It.c (d : Tmp) (need : List (Tmp × Nat)) (v : Value) : It := ⟨some d, need, .v v, .call⟩
def It.m (d : Tmp) (need : List (Tmp × Nat)) (b : Nat) : It := ⟨some d, need, .p b 0, .make b⟩
def It.u (need : List (Tmp × Nat)) (b : Nat) : It := ⟨none, need, .v undef, .put b⟩
end Go.Proofs.Ythbgppnhlpjngaa.RG
set_option linter.unusedVariables false
set_option linter.unusedSimpArgs false
namespace Go.Proofs.Ythbgppnhlpjngaa.RG
open Go Go.RowKit
variable {P : Program} {ops : Array Oper} {Q : Exit → Act → World → Prop} {w : World} {a0 : Act} {L : Array Bool}
/-- A region as a flow: what holds of each operation's value, what holds at first, what each does to the world, who ends what holds. -/
structure Flow where
  R : Nat → Value → World → Prop
  B : Nat → World → Prop
  E : Nat → World → World → Prop
  kill : Nat → List Nat
  killB : Nat → List Nat
def dstOf (ops : Array Oper) (i : Nat) : Option Tmp := (ops[i]?).bind (·.dst)
def depOn (ops : Array Oper) (x k : Nat) : Bool := match ops[x]? with | some o => depB o k | none => true
def okK (ops : Array Oper) (k : Nat) (l : List Nat) : Bool := l.all (fun x => x == k || depOn ops x k)
/-- Slot t is filled by operations alone that wait for k. -/
def freeF (ops : Array Oper) (k : Nat) (t : Tmp) : Bool := (List.range ops.size).all (fun i => dstOf ops i != some t || i == k || depOn ops i k)
structure InvF (F : Flow) (ops : Array Oper) (a0 : Act) (L : Array Bool) (a : Act) (w : World) : Prop where
  size : L.size = ops.size
  cl : ∀ (i : Nat) (o : Oper), ops[i]? = some o → on L i = true → ∀ e ∈ o.after, Region.binds .any e = true → on L e.on = true
  def' : a.defers = a0.defers
  sz : a.tmps.size = a0.tmps.size
  rest : ∀ t : Tmp, (∀ i, on L i = true → dstOf ops i ≠ some t) → a.tmps[t]? = a0.tmps[t]?
  all : ∃ V : Nat → Value, (∀ i d, on L i = true → dstOf ops i = some d → a.tmps[d]? = some (V i)) ∧ (∀ i, on L i = true → (∀ x ∈ F.kill i, on L x = false) → F.R i (V i) w)
  base : ∀ b, (∀ x ∈ F.killB b, on L x = false) → F.B b w
/-- What an operation is asked for. -/
def CertF (P : Program) (Q : Exit → Act → World → Prop) (F : Flow) (ops : Array Oper) (a0 : Act) (k : Nat) (o : Oper) : Prop :=
  ∀ (a : Act) (w : World) (K : Act → World → Prop),
    (∀ j d, depB o j = true → okK ops k (F.kill j) = true → dstOf ops j = some d → F.R j (a.eval (.tmp d)) w) →
    (∀ t, freeF ops k t = true → a.eval (.tmp t) = a0.eval (.tmp t)) →
    (∀ b, okK ops k (F.killB b) = true → F.B b w) →
    (∀ v w', F.E k w w' → F.R k v w' → K (a.put o.dst v) w') → o.wp P a w K Q
/-- An operation that may be guarded: it is wanted, or it is passed by. -/
def CertH (P : Program) (Q : Exit → Act → World → Prop) (F : Flow) (ops : Array Oper) (a0 : Act) (k : Nat) (o : Oper) : Prop :=
  match o.guard with
  | none => CertF P Q F ops a0 k o
  | some (j, want) => depB o j = true ∧ (dstOf ops j).isSome = true ∧ okK ops k (F.kill j) = true ∧
    (((∀ v w, F.R j v w → v = .bool want) ∧ CertF P Q F ops a0 k o) ∨ ((∀ v w, F.R j v w → v = .bool (!want)) ∧ ∀ w, F.E k w w ∧ F.R k undef w))
def chkF (ops : Array Oper) (n : Nat) : Bool :=
  (List.range ops.size).all (fun i => match ops[i]? with
    | some o => o.after.all (fun e => !Region.binds .any e || e.on < i) && (match o.dst with | none => true | some d => decide (d < n) && (List.range ops.size).all (fun j => j == i || dstOf ops j != some d))
    | none => false)
structure RegF (P : Program) (Q : Exit → Act → World → Prop) (F : Flow) (ops : Array Oper) (a0 : Act) (m : Nat) : Prop where
  chk : chkF ops a0.tmps.size = true
  cert : ∀ k o, k < m → ops[k]? = some o → CertH P Q F ops a0 k o
  stab : ∀ i j, i < m → j < m → i ≠ j → (F.kill j).contains i = false → depOn ops j i = false → ∀ v w w', F.E i w w' → F.R j v w → F.R j v w'
  stabB : ∀ i b, i < m → (F.killB b).contains i = false → ∀ w w', F.E i w w' → F.B b w → F.B b w'
variable {F : Flow} {m : Nat}
theorem RegF.of {k : Nat} {o : Oper} (h : RegF P Q F ops a0 m) (ho : ops[k]? = some o) : (∀ e ∈ o.after, Region.binds .any e = true → e.on < k) ∧ ∀ d, o.dst = some d → d < a0.tmps.size ∧ ∀ j, dstOf ops j = some d → j = k := by
  have hk : k < ops.size := (Array.getElem?_eq_some_iff.1 ho).1
  have h1 := List.all_eq_true.1 h.chk k (List.mem_range.2 hk)
  rw [ho] at h1
  simp only [Bool.and_eq_true] at h1
  obtain ⟨h2, h3⟩ := h1
  refine ⟨fun e he hb => ?_, fun d hd => ?_⟩
  · have := Array.all_eq_true'.1 h2 e he
    simpa [hb] using this
  · rw [hd] at h3
    simp only [Bool.and_eq_true, decide_eq_true_eq] at h3
    refine ⟨h3.1, fun j hj => ?_⟩
    have hjs : j < ops.size := by
      unfold dstOf at hj
      cases hx : ops[j]? with
      | none => rw [hx] at hj; cases hj
      | some x => exact (Array.getElem?_eq_some_iff.1 hx).1
    have := List.all_eq_true.1 h3.2 j (List.mem_range.2 hjs)
    simpa [hj] using this
theorem dstOf_some {i : Nat} {o : Oper} (ho : ops[i]? = some o) : dstOf ops i = o.dst := by unfold dstOf; rw [ho]; rfl
theorem dep_on {a : Act} {x k : Nat} {o : Oper} (h : InvF F ops a0 L a w) {ho : ops[x]? = some o} (hd : depB o k = true) (hx : on L x = true) : on L k = true := by
  obtain ⟨e, he, hb⟩ := Array.any_eq_true'.1 hd
  simp only [Bool.and_eq_true, beq_iff_eq] at hb
  rw [← hb.2]
  exact h.cl x o ho hx e he hb.1
theorem on_lt {L : Array Bool} {x : Nat} (h : on L x = true) : x < L.size := by
  rcases Nat.lt_or_ge x L.size with h1 | h1
  · exact h1
  · unfold on at h
    rw [Array.getD_eq_getD_getElem?, Array.getElem?_eq_none h1] at h
    cases h
theorem stepF {k : Nat} {o : Oper} {a : Act} (R : RegF P Q F ops a0 m) (hkm : k < m) (hlt : ∀ i, on L i = true → i < m) (ho : ops[k]? = some o) (hun : on L k = false) (hdep : ∀ e ∈ o.after, Region.binds .any e = true → on L e.on = true) (h : InvF F ops a0 L a w) :
    wpOp P ops Q k (InvF F ops a0 (L.setIfInBounds k true)) a w := by
  obtain ⟨hback, hdst⟩ := R.of ho
  have hks : k < ops.size := (Array.getElem?_eq_some_iff.1 ho).1
  have hkL : k < L.size := by rw [h.size]; exact hks
  have hdo : dstOf ops k = o.dst := dstOf_some ho
  have hnot : ∀ x, (x == k || depOn ops x k) = true → on L x = false := fun x hx => by
    cases hon : on L x with
    | false => rfl
    | true =>
      rcases Bool.or_eq_true _ _ ▸ hx with h1 | h1
      · rw [show x = k by simpa using h1, hun] at hon; cases hon
      · unfold depOn at h1
        have hxs : x < ops.size := by rw [← h.size]; exact on_lt hon
        have hox : ops[x]? = some ops[x] := Array.getElem?_eq_getElem hxs
        rw [hox] at h1
        have := dep_on (ho := hox) h h1 hon
        rw [hun] at this; cases this
  obtain ⟨V, hV1, hV2⟩ := h.all
  have hp1 : ∀ j d, depB o j = true → okK ops k (F.kill j) = true → dstOf ops j = some d → a.tmps[d]? = some (V j) ∧ F.R j (V j) w := fun j d hj hok hd => by
    obtain ⟨e, he, hb⟩ := Array.any_eq_true'.1 hj
    simp only [Bool.and_eq_true, beq_iff_eq] at hb
    have hjon : on L j = true := by rw [← hb.2]; exact hdep e he hb.1
    exact ⟨hV1 j d hjon hd, hV2 j hjon fun x hx => hnot x (List.all_eq_true.1 hok x hx)⟩
  have hpre1 : ∀ j d, depB o j = true → okK ops k (F.kill j) = true → dstOf ops j = some d → F.R j (a.eval (.tmp d)) w := fun j d hj hok hd => by
    rw [eval_of (hp1 j d hj hok hd).1]
    exact (hp1 j d hj hok hd).2
  have hpre2 : ∀ t, freeF ops k t = true → a.eval (.tmp t) = a0.eval (.tmp t) := fun t hf => by
    have h1 := h.rest t fun i hi hd => by
      have his : i < ops.size := by rw [← h.size]; exact on_lt hi
      have h2 := List.all_eq_true.1 hf i (List.mem_range.2 his)
      rw [hd] at h2
      have h3 : (i == k || depOn ops i k) = true := by simpa using h2
      rw [hnot i h3] at hi; cases hi
    show a.tmps.getD t undef = a0.tmps.getD t undef
    rw [Array.getD_eq_getD_getElem?, Array.getD_eq_getD_getElem?, h1]
  have hpre3 : ∀ b, okK ops k (F.killB b) = true → F.B b w := fun b hb => h.base b fun x hx => hnot x (List.all_eq_true.1 hb x hx)
  have hpost : ∀ v w', F.E k w w' → F.R k v w' → InvF F ops a0 (L.setIfInBounds k true) (a.put o.dst v) w' := fun v w' hE hR => by
    have hon : ∀ x, on (L.setIfInBounds k true) x = (on L x || k == x) := fun x => on_set hkL
    refine ⟨by rw [Array.size_setIfInBounds]; exact h.size, fun i oi hoi hi e he hb => ?_, ?_, ?_, fun t ht => ?_, ⟨fun x => if x = k then v else V x, fun i d hi hd => ?_, fun i hi hkl => ?_⟩, fun b hb => ?_⟩
    · rw [hon] at hi ⊢
      by_cases hik : k = i
      · subst hik
        rw [ho] at hoi
        obtain rfl := Option.some.inj hoi
        rw [hdep e he hb, Bool.true_or]
      · rw [h.cl i oi hoi (by simpa [hik] using hi) e he hb, Bool.true_or]
    · rw [← h.def']; cases o.dst <;> rfl
    · rw [put_size]; exact h.sz
    · have h1 : o.dst ≠ some t := fun hd => ht k (by rw [hon]; simp) (by rw [hdo]; exact hd)
      rw [put_other a v h1]
      exact h.rest t fun i hi => ht i (by rw [hon, hi, Bool.true_or])
    · rw [hon] at hi
      by_cases hik : i = k
      · subst hik
        rw [hdo] at hd
        rw [hd]
        show (a.tmps.setIfInBounds d v)[d]? = some (if i = i then v else V i)
        rw [if_pos (rfl : i = i)]
        rw [Array.getElem?_setIfInBounds, if_pos rfl, if_pos (by rw [h.sz]; exact (hdst d hd).1)]
      · have hne : o.dst ≠ some d := fun hd2 => hik ((hdst d hd2).2 i hd)
        rw [put_other a v hne]
        show _ = some (if i = k then v else V i)
        rw [if_neg hik]
        have hik' : ¬ k = i := fun e => hik e.symm
        exact hV1 i d (by simpa [hik'] using hi) hd
    · rw [hon] at hi
      by_cases hik : i = k
      · subst hik
        show F.R i (if i = i then v else V i) w'
        rw [if_pos rfl]; exact hR
      · show F.R i (if i = k then v else V i) w'
        rw [if_neg hik]
        have hik' : ¬ k = i := fun e => hik e.symm
        have hi' : on L i = true := by simpa [hik'] using hi
        have h1 : ∀ x ∈ F.kill i, on L x = false := fun x hx => by
          have := hkl x hx
          rw [hon, Bool.or_eq_false_iff] at this
          exact this.1
        have h2 : (F.kill i).contains k = false := by
          cases hc : (F.kill i).contains k with
          | false => rfl
          | true =>
            have := hkl k (by simpa using hc)
            rw [hon] at this
            simp at this
        have his : i < ops.size := by rw [← h.size]; exact on_lt hi'
        have h3 : depOn ops i k = false := by
          cases hc : depOn ops i k with
          | false => rfl
          | true => rw [hnot i (by rw [hc, Bool.or_true])] at hi'; cases hi'
        exact R.stab k i hkm (hlt i hi') (Ne.symm hik) h2 h3 _ _ _ hE (hV2 i hi' h1)
    · have h1 : ∀ x ∈ F.killB b, on L x = false := fun x hx => by
        have := hb x hx
        rw [hon, Bool.or_eq_false_iff] at this
        exact this.1
      have h2 : (F.killB b).contains k = false := by
        cases hc : (F.killB b).contains k with
        | false => rfl
        | true =>
          have := hb k (by simpa using hc)
          rw [hon] at this
          simp at this
      exact R.stabB k b hkm h2 _ _ hE (h.base b h1)
  have hC := R.cert k o hkm ho
  unfold CertH at hC
  unfold wpOp
  rw [ho]
  dsimp only
  cases hg : o.guard with
  | none =>
    rw [hg] at hC
    rw [wanted_none hg, if_pos rfl]
    left
    exact hC a w _ hpre1 hpre2 hpre3 hpost
  | some jw =>
    obtain ⟨j, want⟩ := jw
    rw [hg] at hC
    obtain ⟨hd1, hd2, hd3, hcase⟩ := hC
    obtain ⟨d, hd⟩ := Option.isSome_iff_exists.1 hd2
    obtain ⟨hs, hRj⟩ := hp1 j d hd1 hd3 hd
    have hy : ∀ b, V j = .bool b → Region.wanted o (yielded ops a.tmps) = (b == want) := fun b hb => by
      have h4 : yielded ops a.tmps j = some b := by
        unfold dstOf at hd
        unfold yielded
        cases hoj : ops[j]? with
        | none => rw [hoj] at hd; cases hd
        | some oj =>
          rw [hoj] at hd
          show (match oj.dst.bind (a.tmps[·]?) with | some (.bool b) => some b | _ => none) = _
          rw [show oj.dst = some d from hd]
          show (match a.tmps[d]? with | some (.bool b) => some b | _ => none) = _
          rw [hs, hb]
      unfold Region.wanted
      rw [hg]
      show (yielded ops a.tmps j == some want) = _
      rw [h4]
      cases b <;> cases want <;> rfl
    rcases hcase with ⟨hw, hc⟩ | ⟨hw, hsk⟩
    · rw [hy _ (hw _ _ hRj), show (want == want) = true by cases want <;> rfl, if_pos rfl]
      left
      exact hc a w _ hpre1 hpre2 hpre3 hpost
    · rw [hy _ (hw _ _ hRj), show ((!want) == want) = false by cases want <;> rfl]
      exact hpost undef w (hsk w).1 (hsk w).2
/-- All slots that were filled. -/
def putV (V : Nat → Value) : List Oper → Nat → Act → Act
  | [], _, a => a
  | o :: r, i, a => putV V r (i + 1) (a.put o.dst (V i))
theorem putV_defers (V : Nat → Value) : ∀ (l : List Oper) (i : Nat) (a : Act), (putV V l i a).defers = a.defers
  | [], _, _ => rfl
  | o :: r, i, a => by
    rw [putV, putV_defers V r]
    cases o.dst <;> rfl
theorem putV_other (V : Nat → Value) : ∀ (l : List Oper) (i : Nat) (a : Act) (t : Tmp), (∀ o ∈ l, o.dst ≠ some t) → (putV V l i a).tmps[t]? = a.tmps[t]?
  | [], _, _, _, _ => rfl
  | o :: r, i, a, t, h => by
    rw [putV, putV_other V r _ _ t (fun x hx => h x (List.mem_cons_of_mem _ hx)), put_other a _ (h o List.mem_cons_self)]
theorem putV_same (V : Nat → Value) : ∀ (l : List Oper) (i : Nat) (a : Act) (j : Nat) (o : Oper) (d : Tmp), l[j]? = some o → o.dst = some d → (∀ j' o', l[j']? = some o' → o'.dst = some d → j' = j) → d < a.tmps.size → (putV V l i a).tmps[d]? = some (V (i + j))
  | [], _, _, _, _, _, h, _, _, _ => by simp at h
  | x :: r, i, a, 0, o, d, h, hd, hu, hs => by
    obtain rfl : x = o := by simpa using h
    rw [putV, putV_other V r _ _ d (fun y hy hyd => by
      obtain ⟨j', hj'⟩ := List.getElem?_of_mem hy
      have := hu (j' + 1) y (by simpa using hj') hyd
      omega), hd]
    show (a.tmps.setIfInBounds d _)[d]? = _
    rw [Array.getElem?_setIfInBounds, if_pos rfl, if_pos hs]
    rfl
  | x :: r, i, a, j + 1, o, d, h, hd, hu, hs => by
    rw [putV, putV_same V r (i + 1) _ j o d (by simpa using h) hd (fun j' o' h' hd' => by
      have := hu (j' + 1) o' (by simpa using h') hd'
      omega) (by rw [put_size]; exact hs)]
    congr 2
    omega
theorem InvF.done {a : Act} (R : RegF P Q F ops a0 m) (h : InvF F ops a0 L a w) (hall : ∀ i, i < ops.size → on L i = true)
    (hp : ∀ (V : Nat → Value), (∀ i, i < ops.size → F.kill i = [] → F.R i (V i) w) → (∀ b, F.killB b = [] → F.B b w) → Q .normal (putV V ops.toList 0 a0) w) : Q .normal a w := by
  obtain ⟨V, hV1, hV2⟩ := h.all
  have e : a = putV V ops.toList 0 a0 := by
    refine Act.ext' ?_ (by rw [putV_defers]; exact h.def')
    apply Array.ext_getElem?
    intro t
    by_cases ht : ∃ (i : Nat) (o : Oper), ops[i]? = some o ∧ o.dst = some t
    · obtain ⟨i, o, ho, hd⟩ := ht
      rw [hV1 i t (hall i (Array.getElem?_eq_some_iff.1 ho).1) (by rw [dstOf_some ho]; exact hd)]
      rw [putV_same V ops.toList 0 a0 i o t (by rw [Array.getElem?_toList]; exact ho) hd (fun j' o' hj' hd' => ((R.of ho).2 t hd).2 j' (by rw [Array.getElem?_toList] at hj'; rw [dstOf_some hj']; exact hd')) ((R.of ho).2 t hd).1, Nat.zero_add]
    · rw [h.rest t (fun i hi hd => ?_), putV_other V ops.toList 0 a0 t (fun o hm hd => ?_)]
      · obtain ⟨i, hi⟩ := List.getElem?_of_mem hm
        rw [Array.getElem?_toList] at hi
        exact ht ⟨i, o, hi, hd⟩
      · unfold dstOf at hd
        cases hx : ops[i]? with
        | none => rw [hx] at hd; cases hd
        | some x => rw [hx] at hd; exact ht ⟨i, x, hx, hd⟩
  rw [e]
  exact hp V (fun i hi hk => hV2 i (hall i hi) (by rw [hk]; simp)) (fun b hb => h.base b (by rw [hb]; simp))
theorem InvF.full {a : Act} (R : RegF P Q F ops a0 m) (h : InvF F ops a0 L a w) (hr : Region.ready .any ops L = []) : ∀ i, i < ops.size → on L i = true := by
  intro i
  induction i using Nat.strongRecOn with
  | ind i ih =>
    intro hi
    have ho : ops[i]? = some ops[i] := Array.getElem?_eq_getElem _
    cases hon : on L i with
    | true => rfl
    | false =>
      have : i ∈ Region.ready .any ops L := mem_ready.2 ⟨?_, _, ho, fun e he hb => ?_⟩
      · rw [hr] at this; cases this
      · unfold on at hon
        rw [Array.getD_eq_getD_getElem?, Array.getElem?_eq_getElem (by rw [h.size]; exact hi)] at hon ⊢
        exact hon
      · have hlt := (R.of ho).1 e he hb
        exact ih e.on hlt (Nat.lt_trans hlt hi)
/-- THE LAW of flows, for a region that draws its order. -/
theorem flow_draws {id : Nat} (F : Flow) (hm : P.follows .mixedOrders = true) (R : RegF P Q F ops a0 ops.size) (hB : ∀ b, F.B b w.drew)
    (hp : ∀ (V : Nat → Value) (w' : World), (∀ i, i < ops.size → F.kill i = [] → F.R i (V i) w') → (∀ b, F.killB b = [] → F.B b w') → Q .normal (putV V ops.toList 0 a0) w') : (Code.region id ops true).wp P Q a0 w := by
  have key : ∀ (fuel : Nat) (L : Array Bool) (a : Act) (w : World), unl L = fuel → InvF F ops a0 L a w → wpAny P .any ops Q fuel L a w := by
    intro fuel
    induction fuel with
    | zero =>
      intro L a w hu hI
      have hall : ∀ i, i < ops.size → on L i = true := fun i hi => unl_zero hu i (by rw [hI.size]; exact hi)
      refine ⟨?_, hI.done R hall (fun V => hp V w)⟩
      apply List.eq_nil_iff_forall_not_mem.2
      intro i hi
      obtain ⟨h1, o, ho, -⟩ := mem_ready.1 hi
      have h2 := hall i (Array.getElem?_eq_some_iff.1 ho).1
      unfold on at h2
      rw [Array.getD_eq_getD_getElem?] at h1 h2
      cases hh : L[i]? with
      | none => rw [hh] at h1; cases h1
      | some b => rw [hh] at h1 h2; rw [show b = false from h1] at h2; cases h2
    | succ fuel ih =>
      intro L a w hu hI
      refine ⟨fun hr => hI.done R (hI.full R hr) (fun V => hp V w), fun i hi => ?_⟩
      obtain ⟨h1, o, ho, hdep⟩ := mem_ready.1 hi
      have hoff : on L i = false := by
        unfold on
        rw [Array.getD_eq_getD_getElem?] at h1 ⊢
        cases hh : L[i]? with
        | none => rfl
        | some b => rw [hh] at h1; exact h1
      exact wpOp_mono (fun a' w' hI' => ih _ a' w' (by have := unl_set h1; omega) hI') (stepF R (Array.getElem?_eq_some_iff.1 ho).1 (fun i hi => by rw [← hI.size]; exact on_lt hi) ho hoff hdep hI)
  have hoff : ∀ i, on (Array.replicate ops.size false) i = false := fun i => by
    unfold on
    rw [Array.getD_eq_getD_getElem?, Array.getElem?_replicate]
    by_cases h : i < ops.size
    · rw [if_pos h]; rfl
    · rw [if_neg h]; rfl
  refine wp_region_any hm (key _ _ a0 _ ?_ ⟨Array.size_replicate, (fun i o _ h => by rw [hoff] at h; cases h), rfl, rfl, fun _ _ => rfl, ⟨fun _ => undef, fun i d h => (by rw [hoff] at h; cases h), fun i h => (by rw [hoff] at h; cases h)⟩, fun b _ => hB b⟩)
  unfold unl
  rw [Array.toList_replicate, List.countP_replicate]
  simp
theorem putV_size (V : Nat → Value) : ∀ (l : List Oper) (i : Nat) (a : Act), (putV V l i a).tmps.size = a.tmps.size
  | [], _, _ => rfl
  | o :: r, i, a => by rw [putV, putV_size V r, put_size]
theorem RegF.slot {V : Nat → Value} (R : RegF P Q F ops a0 m) {i : Nat} {d : Tmp} (hd : dstOf ops i = some d) : (putV V ops.toList 0 a0).tmps[d]? = some (V i) := by
  cases ho : ops[i]? with
  | none => unfold dstOf at hd; rw [ho] at hd; cases hd
  | some o =>
    have hd' : o.dst = some d := by rw [← dstOf_some ho]; exact hd
    rw [putV_same V ops.toList 0 a0 i o d (by rw [Array.getElem?_toList]; exact ho) hd' (fun j' o' hj' hdj => ((R.of ho).2 d hd').2 j' (by rw [Array.getElem?_toList] at hj'; rw [dstOf_some hj']; exact hdj)) ((R.of ho).2 d hd').1, Nat.zero_add]
/-- What an operation may lean on. -/
structure PreF (F : Flow) (ops : Array Oper) (a0 : Act) (k : Nat) (o : Oper) (a : Act) (w : World) : Prop where
  n : ∀ j d, depB o j = true → okK ops k (F.kill j) = true → dstOf ops j = some d → F.R j (a.eval (.tmp d)) w
  o : ∀ t, freeF ops k t = true → a.eval (.tmp t) = a0.eval (.tmp t)
  b : ∀ b, okK ops k (F.killB b) = true → F.B b w
def CertsF (P : Program) (Q : Exit → Act → World → Prop) (F : Flow) (ops : Array Oper) (a0 : Act) : Nat → List Oper → Prop
  | _, [] => True
  | k, o :: r => CertH P Q F ops a0 k o ∧ CertsF P Q F ops a0 (k + 1) r
theorem certs_go : ∀ (l : List Oper) (i : Nat), CertsF P Q F ops a0 i l → ∀ k o, l[k]? = some o → CertH P Q F ops a0 (i + k) o
  | [], _, _, k, o, h => by simp at h
  | x :: r, i, hc, 0, o, h => by
    obtain rfl : x = o := by simpa using h
    exact hc.1
  | x :: r, i, hc, k + 1, o, h => by
    have := certs_go r (i + 1) hc.2 k o (by simpa using h)
    rwa [show i + 1 + k = i + (k + 1) by omega] at this
theorem certs_of (h : CertsF P Q F ops a0 0 ops.toList) : ∀ k o, k < ops.size → ops[k]? = some o → CertH P Q F ops a0 k o := fun k o _ ho => by
  have := certs_go ops.toList 0 h k o (by rw [Array.getElem?_toList]; exact ho)
  rwa [Nat.zero_add] at this
def evo (ev : Tmp → Value) : Operand → Value
  | .tmp t => ev t
  | .const v => v
  | .global g => .pointer (some ⟨g, 0, none⟩)
  | .func f => .func (.func f) #[] #[]
def seenT (T : List Tmp) (o : Oper) : Bool :=
  (match o.op with | .select _ _ => false | _ => true) && o.op.operands.all (fun x => match x with | .tmp t => T.contains t | _ => true)
theorem exec_ev {a : Act} {o : Oper} (ev : Tmp → Value) (T : List Tmp) (h : seenT T o = true) (he : ∀ t ∈ T, a.eval (.tmp t) = ev t) : execOp a.eval o = execOp (evo ev) o := by
  simp only [seenT, Bool.and_eq_true] at h
  refine execOp_congr o (fun cs b he => ?_) (fun x hx => ?_)
  · rw [he] at h; exact absurd h.1 (by simp)
  · have h1 := Array.all_eq_true'.1 h.2 x hx
    cases x with
    | tmp t => exact he t (by simpa using h1)
    | const v => rfl
    | global g => rfl
    | func f => rfl
/-- An operation that is run. -/
theorem cf_val {k : Nat} {o : Oper} (h : ∀ (a : Act) (w : World), PreF F ops a0 k o a w → ∃ v w', (execOp a.eval o).run P w = .ok (.value v) w' ∧ F.E k w w' ∧ F.R k v w') : CertF P Q F ops a0 k o := by
  intro a w K h1 h2 h3 hK
  obtain ⟨v, w', hr, hE, hR⟩ := h a w ⟨h1, h2, h3⟩
  unfold Oper.wp
  rw [hr]
  exact hK v w' hE hR
/-- An operation over one slot. -/
theorem cf_one {k : Nat} {o : Oper} (t : Tmp) (h : ∀ (a : Act) (w : World), PreF F ops a0 k o a w → ∃ v w', (seenT [t] o = true) ∧ (execOp (evo fun _ => a.eval (.tmp t)) o).run P w = .ok (.value v) w' ∧ F.E k w w' ∧ F.R k v w') : CertF P Q F ops a0 k o := by
  refine cf_val fun a w hp => ?_
  obtain ⟨v, w', hs, hr, hE⟩ := h a w hp
  refine ⟨v, w', ?_, hE⟩
  rw [exec_ev (fun _ => a.eval (.tmp t)) [t] hs (fun x hx => by rw [show x = t by simpa using hx])]
  exact hr
/-- A call. -/
theorem cf_call {k : Nat} {o : Oper} (t : Tmp) (h : ∀ (a : Act) (w : World), PreF F ops a0 k o a w → ∃ f args, (seenT [t] o = true) ∧ (execOp (evo fun _ => a.eval (.tmp t)) o).run P w = .ok (.enter f args) w ∧ Calls P f args w (Ret fun e w' => F.E k w w' ∧ F.R k e w')) : CertF P Q F ops a0 k o := by
  intro a w K h1 h2 h3 hK
  obtain ⟨f, args, hs, hr, hc⟩ := h a w ⟨h1, h2, h3⟩
  unfold Oper.wp
  rw [exec_ev (fun _ => a.eval (.tmp t)) [t] hs (fun x hx => by rw [show x = t by simpa using hx]), hr, Oper.upon_enter]
  refine hc.mono ?_
  rintro e w' ⟨v, rfl, hE, hR⟩
  exact hK _ _ hE hR
/-- A row is loaded. -/
theorem cf_load {k : Nat} {o : Oper} (T : TypeId) (t : Tmp) (ho : o.op = .load T (.tmp t)) (hu : (P.underlying T).map (·.isRow) = some true)
    (h : ∀ (a : Act) (w : World), PreF F ops a0 k o a w → ∃ g off cs, a.eval (.tmp t) = .pointer (some ⟨g, off, none⟩) ∧ w.rangeAt g off cs ∧ (P.info? T).map (·.size) = some cs.length ∧ F.E k w w ∧ F.R k (.agg cs.toArray) w) : CertF P Q F ops a0 k o := by
  intro a w K h1 h2 h3 hK
  obtain ⟨g, off, cs, he, hr, hi, hE, hR⟩ := h a w ⟨h1, h2, h3⟩
  obtain ⟨d, hu, hd⟩ := Option.map_eq_some_iff.1 hu
  exact wp_load_mid T (.tmp t) ho g off he cs d hr hu hd hi (hK _ _ hE hR)
/-- A list is appended to another. -/
theorem cf_app {k : Nat} {o : Oper} (s u : Tmp) (t : TypeId) (ho : o.op = .call { callee := .builtin .append, args := #[.tmp s, .tmp u], argTypes := #[t, t] })
    (h : ∀ (a : Act) (w : World), PreF F ops a0 k o a w → ∃ v w', (Builtin.append_ #[t, t] o.type #[a.eval (.tmp s), a.eval (.tmp u)]).run P w = .ok v w' ∧ F.E k w w' ∧ F.R k v w') : CertF P Q F ops a0 k o := by
  intro a w K h1 h2 h3 hK
  obtain ⟨v, w', hr, hE, hR⟩ := h a w ⟨h1, h2, h3⟩
  unfold Oper.wp execOp
  simp only [ho, resolve, invoke, builtin, Sem.run_bind, Sem.run_pure, Result.andThen_ok, List.map_toArray, List.map_cons, List.map_nil, hr]
  exact hK _ _ hE hR
theorem certs_but (h : CertsF P Q F ops a0 0 (ops.toList.take m)) : ∀ k o, k < m → ops[k]? = some o → CertH P Q F ops a0 k o := fun k o hk ho => by
  have := certs_go (ops.toList.take m) 0 h k o (by rw [List.getElem?_take, if_pos hk, Array.getElem?_toList]; exact ho)
  rwa [Nat.zero_add] at this
theorem InvF.act {a : Act} (R : RegF P Q F ops a0 m) (h : InvF F ops a0 L a w) (hm : m ≤ ops.size) (hall : ∀ i, on L i = true ↔ i < m) {V : Nat → Value} (hV1 : ∀ i d, on L i = true → dstOf ops i = some d → a.tmps[d]? = some (V i)) : a = putV V (ops.toList.take m) 0 a0 := by
  refine Act.ext' ?_ (by rw [putV_defers]; exact h.def')
  apply Array.ext_getElem?
  intro t
  by_cases ht : ∃ (i : Nat) (o : Oper), i < m ∧ ops[i]? = some o ∧ o.dst = some t
  · obtain ⟨i, o, him, ho, hd⟩ := ht
    rw [hV1 i t ((hall i).2 him) (by rw [dstOf_some ho]; exact hd)]
    rw [putV_same V (ops.toList.take m) 0 a0 i o t (by rw [List.getElem?_take, if_pos him, Array.getElem?_toList]; exact ho) hd (fun j' o' hj' hd' => ((R.of ho).2 t hd).2 j' (by
      rw [List.getElem?_take] at hj'
      split at hj'
      · rw [Array.getElem?_toList] at hj'; rw [dstOf_some hj']; exact hd'
      · cases hj')) ((R.of ho).2 t hd).1, Nat.zero_add]
  · rw [h.rest t (fun i hi hd => ?_), putV_other V (ops.toList.take m) 0 a0 t (fun o hm' hd => ?_)]
    · obtain ⟨i, hi⟩ := List.getElem?_of_mem hm'
      rw [List.getElem?_take] at hi
      split at hi
      · rename_i him
        rw [Array.getElem?_toList] at hi
        exact ht ⟨i, o, him, hi, hd⟩
      · cases hi
    · unfold dstOf at hd
      cases hx : ops[i]? with
      | none => rw [hx] at hd; cases hd
      | some x => rw [hx] at hd; exact ht ⟨i, x, (hall i).1 hi, hx, hd⟩
/-- THE LAW of flows, for a region whose last operation waits for all others. -/
theorem flow_last {id : Nat} (F : Flow) (n : Nat) (hn : ops.size = n + 1) (hd : (List.range n).all (fun j => depOn ops n j || (List.range n).any (fun i => depOn ops n i && depOn ops i j)) = true) (hm : P.follows .mixedOrders = true) (R : RegF P Q F ops a0 n) (hB : ∀ b, F.B b w.drew)
    (hp : ∀ (V : Nat → Value) (w' : World), (∀ i, i < n → F.kill i = [] → F.R i (V i) w') → (∀ b, F.killB b = [] → F.B b w') → wpList P ops Q (ops.toList.drop n) (putV V (ops.toList.take n) 0 a0) w') : (Code.region id ops true).wp P Q a0 w := by
  have hon' : ops[n]? = some (ops[n]'(by omega)) := Array.getElem?_eq_getElem _
  have key : ∀ (fuel : Nat) (L : Array Bool) (a : Act) (w : World), unl L = fuel → on L n = false → InvF F ops a0 L a w → wpAny P .any ops Q fuel L a w := by
    intro fuel
    induction fuel with
    | zero =>
      intro L a w hu hoff hI
      have := unl_zero hu n (by rw [hI.size]; omega)
      rw [hoff] at this; cases this
    | succ fuel ih =>
      intro L a w hu hoff hI
      refine ⟨fun hr => ?_, fun i hi => ?_⟩
      · have := hI.full R hr n (by omega)
        rw [hoff] at this; cases this
      · obtain ⟨h1, o, ho, hdep⟩ := mem_ready.1 hi
        have his : i < ops.size := (Array.getElem?_eq_some_iff.1 ho).1
        have hoi : on L i = false := by
          unfold on
          rw [Array.getD_eq_getD_getElem?] at h1 ⊢
          cases hh : L[i]? with
          | none => rfl
          | some b => rw [hh] at h1; exact h1
        by_cases hin : i = n
        · subst hin
          have hall : ∀ j, on L j = true ↔ j < i := fun j => by
            constructor
            · intro hj
              have h2 : j < ops.size := by rw [← hI.size]; exact on_lt hj
              rcases Nat.lt_or_ge j i with h | h
              · exact h
              · obtain rfl : j = i := by omega
                rw [hoff] at hj; cases hj
            · intro hj
              have hdir : ∀ j, depOn ops i j = true → on L j = true := fun j h2 => by
                unfold depOn at h2
                rw [ho] at h2
                obtain ⟨e, he, hb⟩ := Array.any_eq_true'.1 h2
                simp only [Bool.and_eq_true, beq_iff_eq] at hb
                have := hdep e he hb.1
                rw [hb.2] at this
                exact this
              have h2 := List.all_eq_true.1 hd j (List.mem_range.2 hj)
              rw [Bool.or_eq_true] at h2
              rcases h2 with h2 | h2
              · exact hdir j h2
              · obtain ⟨x, hx, h3⟩ := List.any_eq_true.1 h2
                rw [Bool.and_eq_true] at h3
                have hxo := hdir x h3.1
                have hxs : x < ops.size := by have := List.mem_range.1 hx; omega
                have hox : ops[x]? = some ops[x] := Array.getElem?_eq_getElem hxs
                have h4 := h3.2
                unfold depOn at h4
                rw [hox] at h4
                exact dep_on (ho := hox) hI h4 hxo
          obtain ⟨V, hV1, hV2⟩ := hI.all
          have ha := hI.act R (by omega) hall hV1
          have hkl : ∀ l : List Nat, l = [] → ∀ x ∈ l, on L x = false := fun l hl x hx => by rw [hl] at hx; cases hx
          have hfin := hp V w (fun j hj hk => hV2 j ((hall j).2 hj) (hkl _ hk)) (fun b hb => hI.base b (hkl _ hb))
          have hdrop : ops.toList.drop i = [o] := by
            have hlen : ops.toList.length = i + 1 := by rw [Array.length_toList]; exact hn
            rw [List.drop_eq_getElem_cons (by omega), List.drop_of_length_le (by omega)]
            have : ops.toList[i]? = some o := by rw [Array.getElem?_toList]; exact ho
            rw [List.getElem?_eq_getElem (by omega)] at this
            rw [Option.some.inj this]
          rw [hdrop, ← ha] at hfin
          have hop : wpOp P ops Q i (fun a' w' => Q .normal a' w') a w := by
            unfold wpOp
            rw [ho]
            exact hfin
          refine wpOp_mono (fun a' w' hq => ?_) hop
          have hon2 : ∀ j, j < ops.size → on (L.setIfInBounds i true) j = true := fun j hj => by
            rw [on_set (by rw [hI.size]; omega)]
            by_cases h : j < i
            · rw [(hall j).2 h, Bool.true_or]
            · rw [show j = i by omega]; simp
          have hr : Region.ready .any ops (L.setIfInBounds i true) = [] := by
            apply List.eq_nil_iff_forall_not_mem.2
            intro j hj
            obtain ⟨h1, o', ho', -⟩ := mem_ready.1 hj
            have h2 := hon2 j (Array.getElem?_eq_some_iff.1 ho').1
            unfold on at h2
            rw [Array.getD_eq_getD_getElem?] at h1 h2
            cases hh : (L.setIfInBounds i true)[j]? with
            | none => rw [hh] at h1; cases h1
            | some b => rw [hh] at h1 h2; rw [show b = false from h1] at h2; cases h2
          cases fuel with
          | zero => exact ⟨hr, hq⟩
          | succ f => exact ⟨fun _ => hq, fun j hj => by rw [hr] at hj; cases hj⟩
        · refine wpOp_mono (fun a' w' hI' => ih _ a' w' (by have := unl_set h1; omega) ?_ hI') (stepF R (by omega) (fun j hj => ?_) ho hoi hdep hI)
          · rw [on_set (by rw [hI.size]; exact his), hoff]
            simpa using hin
          · have h2 : j < ops.size := by rw [← hI.size]; exact on_lt hj
            rcases Nat.lt_or_ge j n with h | h
            · exact h
            · obtain rfl : j = n := by omega
              rw [hoff] at hj; cases hj
  have hoff : ∀ i, on (Array.replicate ops.size false) i = false := fun i => by
    unfold on
    rw [Array.getD_eq_getD_getElem?, Array.getElem?_replicate]
    by_cases h : i < ops.size
    · rw [if_pos h]; rfl
    · rw [if_neg h]; rfl
  refine wp_region_any hm (key _ _ a0 _ ?_ (hoff n) ⟨Array.size_replicate, (fun i o _ h => by rw [hoff] at h; cases h), rfl, rfl, fun _ _ => rfl, ⟨fun _ => undef, fun i d h => (by rw [hoff] at h; cases h), fun i h => (by rw [hoff] at h; cases h)⟩, fun b _ => hB b⟩)
  unfold unl
  rw [Array.toList_replicate, List.countP_replicate]
  simp
end Go.Proofs.Ythbgppnhlpjngaa.RG
set_option linter.unusedVariables false
set_option linter.unusedSimpArgs false
namespace Go.Proofs.Ythbgppnhlpjngaa.RG
open Go Go.RowKit
variable {P : Program} {ops : Array Oper} {Q : Exit → Act → World → Prop} {w : World} {a0 : Act}
def AllE (a : Act) : List (Tmp × Value) → Prop
  | [] => True
  | x :: r => a.eval (.tmp x.1) = x.2 ∧ AllE a r
def evl (ps : List (Tmp × Value)) (t : Tmp) : Value := match ps.find? (fun x => x.1 == t) with | some x => x.2 | none => undef
theorem AllE.mem {a : Act} : ∀ {ps : List (Tmp × Value)}, AllE a ps → ∀ x ∈ ps, a.eval (.tmp x.1) = x.2
  | [], _, x, hx => by cases hx
  | y :: r, h, x, hx => by
    rcases List.mem_cons.1 hx with rfl | hx
    · exact h.1
    · exact AllE.mem h.2 x hx
theorem AllE.ev {a : Act} {ps : List (Tmp × Value)} (h : AllE a ps) : ∀ t ∈ ps.map (·.1), a.eval (.tmp t) = evl ps t := fun t ht => by
  obtain ⟨x, hx, rfl⟩ := List.mem_map.1 ht
  unfold evl
  cases hf : ps.find? (fun y => y.1 == x.1) with
  | none =>
    have := List.find?_eq_none.1 hf x hx
    simp at this
  | some y =>
    have h1 := List.mem_of_find?_eq_some hf
    have h2 : y.1 = x.1 := by simpa using List.find?_some hf
    have := h.mem y h1
    rw [h2] at this
    exact this
/-- A region of operations that only make the world grow. -/
structure Gw where
  R : Nat → Value → World → Prop
  B : World → Prop
  sR : ∀ i v w w', Below w.heap.size w w' → R i v w → R i v w'
  sB : ∀ w w', Below w.heap.size w w' → B w → B w'
def Gw.flow (G : Gw) : Flow := ⟨G.R, fun _ => G.B, fun _ w w' => Below w.heap.size w w', fun _ => [], fun _ => []⟩
/-- What an operation may lean on. -/
structure PreG (G : Gw) (ops : Array Oper) (a0 : Act) (k : Nat) (o : Oper) (a : Act) (w : World) : Prop where
  n : ∀ j d, depB o j = true → dstOf ops j = some d → G.R j (a.eval (.tmp d)) w
  o : ∀ t, freeF ops k t = true → a.eval (.tmp t) = a0.eval (.tmp t)
  b : G.B w
variable {G : Gw}
theorem pre_of {k : Nat} {o : Oper} {a : Act} (h : PreF G.flow ops a0 k o a w) : PreG G ops a0 k o a w := ⟨fun j d hj hd => h.n j d hj rfl hd, h.o, h.b 0 rfl⟩
theorem gw_val {k : Nat} {o : Oper} (h : ∀ (a : Act) (w : World), PreG G ops a0 k o a w → ∃ (ps : List (Tmp × Value)) (v : Value) (w' : World), AllE a ps ∧ (seenT (ps.map (·.1)) o, (execOp (evo (evl ps)) o).run P w) = (true, .ok (.value v) w') ∧ Below w.heap.size w w' ∧ G.R k v w') : CertF P Q G.flow ops a0 k o :=
  cf_val fun a w hp => by
    obtain ⟨ps, v, w', he, hs, hE⟩ := h a w (pre_of hp)
    simp only [Prod.mk.injEq] at hs
    refine ⟨v, w', ?_, hE⟩
    rw [exec_ev (evl ps) (ps.map (·.1)) hs.1 he.ev]
    exact hs.2
theorem gw_call {k : Nat} {o : Oper} (h : ∀ (a : Act) (w : World), PreG G ops a0 k o a w → ∃ (ps : List (Tmp × Value)) (f : FuncId) (args : Array Value), AllE a ps ∧ (seenT (ps.map (·.1)) o, (execOp (evo (evl ps)) o).run P w) = (true, .ok (.enter f args) w) ∧ Calls P f args w (Ret fun e w' => Below w.heap.size w w' ∧ G.R k e w')) : CertF P Q G.flow ops a0 k o := by
  intro a w K h1 h2 h3 hK
  obtain ⟨ps, f, args, he, hs, hc⟩ := h a w (pre_of ⟨h1, h2, h3⟩)
  simp only [Prod.mk.injEq] at hs
  unfold Oper.wp
  rw [exec_ev (evl ps) (ps.map (·.1)) hs.1 he.ev, hs.2, Oper.upon_enter]
  refine hc.mono ?_
  rintro e w' ⟨v, rfl, hE, hR⟩
  exact hK _ _ hE hR
theorem gw_load {k : Nat} {o : Oper} (T : TypeId) (t : Tmp) (ho : o.op = .load T (.tmp t)) (hu : (P.underlying T).map (·.isRow) = some true)
    (h : ∀ (a : Act) (w : World), PreG G ops a0 k o a w → ∃ g off cs, a.eval (.tmp t) = .pointer (some ⟨g, off, none⟩) ∧ w.rangeAt g off cs ∧ (P.info? T).map (·.size) = some cs.length ∧ G.R k (.agg cs.toArray) w) : CertF P Q G.flow ops a0 k o :=
  cf_load T t ho hu fun a w hp => by
    obtain ⟨g, off, cs, h1, h2, h3, h4⟩ := h a w (pre_of hp)
    exact ⟨g, off, cs, h1, h2, h3, Below.refl _ _, h4⟩
theorem gw_bin {k : Nat} {o : Oper} (op : BinOp) (T T' : TypeId) (t1 t2 : Tmp) (ho : o.op = .binOp op T (.tmp t1) (.tmp t2) T')
    (h : ∀ (a : Act) (w : World), PreG G ops a0 k o a w → ∃ v1 v2 v, a.eval (.tmp t1) = v1 ∧ a.eval (.tmp t2) = v2 ∧ (eqGuard op T (.tmp t1) (.tmp t2) v1 v2).run P w = .ok () w ∧ (binOp op T v1 v2).run P w = .ok v w ∧ G.R k v w) : CertF P Q G.flow ops a0 k o :=
  cf_val fun a w hp => by
    obtain ⟨v1, v2, v, h1, h2, hg, hb, hR⟩ := h a w (pre_of hp)
    refine ⟨v, w, ?_, Below.refl _ _, hR⟩
    unfold execOp
    rw [ho]
    dsimp only
    rw [h1, h2, Sem.run_bind, Sem.run_bind, hg]
    dsimp only [Result.andThen]
    rw [hb]
    rfl
/-- An operation that is passed by. -/
theorem gw_pass {k : Nat} {o : Oper} {j : Nat} {want : Bool} (hg : o.guard = some (j, want)) (h : (depB o j, (dstOf ops j).isSome) = (true, true)) (hw : ∀ v w, G.R j v w → v = .bool (!want)) (hR : ∀ w, G.R k undef w) : CertH P Q G.flow ops a0 k o := by
  unfold CertH
  rw [hg]
  simp only [Prod.mk.injEq] at h
  exact ⟨h.1, h.2, rfl, Or.inr ⟨hw, fun w => ⟨Below.refl _ _, hR w⟩⟩⟩
theorem gw_want {k : Nat} {o : Oper} {j : Nat} {want : Bool} (hg : o.guard = some (j, want)) (h : (depB o j, (dstOf ops j).isSome) = (true, true)) (hw : ∀ v w, G.R j v w → v = .bool want) (hc : CertF P Q G.flow ops a0 k o) : CertH P Q G.flow ops a0 k o := by
  unfold CertH
  rw [hg]
  simp only [Prod.mk.injEq] at h
  exact ⟨h.1, h.2, rfl, Or.inl ⟨hw, hc⟩⟩
theorem Gw.reg {m : Nat} (hc : chkF ops a0.tmps.size = true) (h : CertsF P Q G.flow ops a0 0 (ops.toList.take m)) : RegF P Q G.flow ops a0 m :=
  ⟨hc, certs_but h, fun i j _ _ _ _ _ v w w' hE hR => G.sR j v w w' hE hR, fun i b _ _ w w' hE hB => G.sB w w' hE hB⟩
theorem Gw.draws {id : Nat} (G : Gw) (hm : P.follows .mixedOrders = true) (hc : chkF ops a0.tmps.size = true) (h : CertsF P Q G.flow ops a0 0 (ops.toList.take ops.size)) (hB : G.B w.drew)
    (hp : ∀ (V : Nat → Value) (w' : World), (∀ i, i < ops.size → G.R i (V i) w') → G.B w' → Q .normal (putV V ops.toList 0 a0) w') : (Code.region id ops true).wp P Q a0 w :=
  flow_draws G.flow hm (Gw.reg hc h) (fun _ => hB) fun V w' h1 h2 => hp V w' (fun i hi => h1 i hi rfl) (h2 0 rfl)
theorem Gw.last {id : Nat} (G : Gw) (n : Nat) (hn : ((ops.size == n + 1) && (List.range n).all (fun j => depOn ops n j || (List.range n).any (fun i => depOn ops n i && depOn ops i j))) = true) (hm : P.follows .mixedOrders = true) (hc : chkF ops a0.tmps.size = true) (h : CertsF P Q G.flow ops a0 0 (ops.toList.take n)) (hB : G.B w.drew)
    (hp : ∀ (V : Nat → Value) (w' : World), (∀ i, i < n → G.R i (V i) w') → G.B w' → wpList P ops Q (ops.toList.drop n) (putV V (ops.toList.take n) 0 a0) w') : (Code.region id ops true).wp P Q a0 w := by
  rw [Bool.and_eq_true, beq_iff_eq] at hn
  exact flow_last G.flow n hn.1 hn.2 hm (Gw.reg hc h) (fun _ => hB) fun V w' h1 h2 => hp V w' (fun i hi => h1 i hi rfl) (h2 0 rfl)
end Go.Proofs.Ythbgppnhlpjngaa.RG
namespace Go.Proofs.Ythbgppnhlpjngaa
open Go.RowKit Go.Sort Go.Deep
namespace TG
/-- A row in a block of its own. -/
def Row (W : World) (k : Nat) (vs : List Value) : Prop := k < W.heap.size ∧ W.rangeAt k 0 vs ∧ W.there k 0 vs.length
theorem Row.below {W W' : World} {k : Nat} {vs : List Value} (h : Row W k vs) (hb : Below W.heap.size W W') : Row W' k vs := by
  have e := hb.block k h.1
  refine ⟨Nat.lt_of_lt_of_le h.1 hb.size, fun j v hj => ?_, fun j hj => ?_⟩
  · exact (World.cell?_of_block e).trans (h.2.1 j v hj)
  · have h1 := h.2.2 j hj
    exact ⟨by rw [World.cell?_of_block e]; exact h1.1, (World.frozen?_of_block e).trans h1.2⟩
theorem Row.put {W : World} {k : Nat} {vs us : List Value} (h : Row W k vs) (hl : us.length = vs.length) : Row (W.setCells k 0 us) k us :=
  ⟨by rw [RG.setCells_size]; exact h.1, World.rangeAt_setCells_same W k 0 us (by rw [hl]; exact h.2.2), by rw [hl]; exact World.there_setCells h.2.2 _ _ _⟩
theorem Row.other {W : World} {k j : Nat} {vs us : List Value} (h : Row W k vs) (hne : k ≠ j) : Row (W.setCells j 0 us) k vs :=
  ⟨by rw [RG.setCells_size]; exact h.1, World.rangeAt_setCells_apart h.2.1 j 0 us (Or.inl hne), World.there_setCells h.2.2 _ _ _⟩
theorem row_new (w : World) (c : List Value) (T : TypeId) : Row (w.alloc (.cells c.toArray T)) w.heap.size c :=
  have h := RG.Made.alloc w c T
  ⟨h.lt, h.range, h.there⟩
theorem results_ct {P : Program} {fn : Func} {tmps : Array Value} {W : World} {k : Nat} {vs : List Value} {v : Value} (t u : Tmp) (T : TypeId) (hr : fn.results = #[.cell t T, .tmp u]) (h : Row W k vs) (ht : tmps[t]? = some (.pointer (some ⟨k, 0, none⟩))) (hv : tmps[u]? = some v)
    (hu : (P.underlying T).map (·.isRow) = some true) (hi : (P.info? T).map (·.size) = some vs.length) : (results fn tmps).run P W = .ok (.tuple #[.agg vs.toArray, v]) W := by
  obtain ⟨d, hu, hd⟩ := Option.map_eq_some_iff.1 hu
  have h1 := run_loadVar_mid (P := P) W k 0 T vs d h.2.1 hu hd hi
  have h2 : tmps.getD t undef = .pointer (some ⟨k, 0, none⟩) := by rw [Array.getD_eq_getD_getElem?, ht]; rfl
  have h3 : tmps.getD u undef = v := by rw [Array.getD_eq_getD_getElem?, hv]; rfl
  unfold results
  rw [hr]
  simp only [Array.mapM_eq_mapM_toList, List.mapM_cons, List.mapM_nil, h2, h3, asAddr]
  simp [Sem.run_bind, h1]
theorem Row.two {W : World} {k : Nat} {x y : Value} (h : Row W k [x, y]) : W.cell? ⟨k, 0, none⟩ = some x ∧ W.cell? ⟨k, 1, none⟩ = some y ∧ W.frozen? ⟨k, 0, none⟩ = false ∧ W.frozen? ⟨k, 1, none⟩ = false :=
  ⟨h.2.1 0 x rfl, h.2.1 1 y rfl, (h.2.2 0 (by simp)).2, (h.2.2 1 (by simp)).2⟩
theorem below2 (w : World) (a b : Obj) : Below w.heap.size w ((w.alloc a).alloc b) := ((Below.refl _ _).alloc (Nat.le_refl _) _).alloc (by rw [World.size_alloc]; exact Nat.le_succ _) _
end TG
set_option maxHeartbeats 1000000 in
theorem start_y (bq : Option Addr) (bn bc : Nat) (q : Option Addr) (j c : Nat) (w : World) : Calls Try.prog 40 #[.agg #[.slice bq bn bc, .bool true], .slice q j c] w (Ret fun e w' => Below w.heap.size w w' ∧ e = .tuple #[.agg #[.slice bq bn bc, .slice bq bn bc], .bool (decide (j = 0))]) := by
  have HD : Hid (((j : Int) == 0) = decide (j = 0)) := by
    show _ = _
    by_cases h : j = 0
    · subst h; rfl
    · rw [decide_eq_false h]; simpa using h
  obtain ⟨d, hd⟩ : ∃ d, Hid (decide (j = 0) = d) := ⟨_, rfl⟩
  have h0 : ((j : Int) == 0) = d := HD.out.trans hd.out
  rw [hd.out]
  go_enter Try.func40, Try.ntmps40
  go_wp2
  refine bodyPost_ret (v := .tuple #[.agg #[.slice bq bn bc, .slice bq bn bc], .bool d]) (TG.results_ct 4 5 50 rfl (k := w.heap.size + 1) (vs := [.slice bq bn bc, .slice bq bn bc]) (by
    have := TG.row_new (w.alloc (Obj.cells #[Value.slice bq bn bc, Value.bool true] 53)) [.slice bq bn bc, .slice bq bn bc] 50
    rwa [World.size_alloc] at this) rfl rfl (by kernel_rfl) (by kernel_rfl)) rfl ?_
  exact ⟨_, rfl, TG.below2 _ _ _, rfl⟩
set_option maxHeartbeats 1000000 in
theorem start_n (bq : Option Addr) (bn bc : Nat) (q : Option Addr) (j c : Nat) (w : World) (hj : ¬ j = 1) : Calls Try.prog 40 #[.agg #[.slice bq bn bc, .bool false], .slice q j c] w (Ret fun e w' => Below w.heap.size w w' ∧ e = .tuple #[.agg #[.slice none 0 0, .slice none 0 0], .bool false]) := by
  have g1 : ¬ (j : Int) = 1 := by omega
  have g0 : ((j : Int) == 1) = false := by simpa using g1
  go_enter Try.func40, Try.ntmps40
  go_wp2
  refine bodyPost_ret (v := .tuple #[.agg #[.slice none 0 0, .slice none 0 0], .bool false]) (TG.results_ct 4 5 50 rfl (k := w.heap.size + 1) (vs := [.slice none 0 0, .slice none 0 0]) (by
    have := TG.row_new (w.alloc (Obj.cells #[Value.slice bq bn bc, Value.bool false] 53)) [.slice none 0 0, .slice none 0 0] 50
    rwa [World.size_alloc] at this) rfl rfl (by kernel_rfl) (by kernel_rfl)) rfl ?_
  exact ⟨_, rfl, TG.below2 _ _ _, rfl⟩
set_option maxHeartbeats 1000000 in
theorem start_1 (bq : Option Addr) (bn bc : Nat) (gg oo c : Nat) (vq : Option Addr) (vn vc : Nat) (w : World) (hgg : gg < w.heap.size) (hv : w.cell? ⟨gg, oo, none⟩ = some (.slice vq vn vc)) : Calls Try.prog 40 #[.agg #[.slice bq bn bc, .bool false], .slice (some ⟨gg, oo, none⟩) 1 c] w (Ret fun e w' => Below w.heap.size w w' ∧ e = .tuple #[.agg #[.slice vq vn vc, .slice vq vn vc], .bool true]) := by
  obtain ⟨w1, hw1⟩ : ∃ w1, Hid ((w.alloc (Obj.cells #[Value.slice bq bn bc, Value.bool false] 53)).alloc (Obj.cells #[.slice none 0 0, .slice none 0 0] 50) = w1) := ⟨_, rfl⟩
  have hb1 : Below w.heap.size w w1 := by rw [← hw1.out]; exact TG.below2 _ _ _
  have hv1 : w1.cell? ⟨gg, oo, none⟩ = some (.slice vq vn vc) := by rw [hb1.cell (p := ⟨gg, oo, none⟩) hgg]; exact hv
  have c0 : w1.cell? ⟨w.heap.size + 1, 0, none⟩ = some (.slice none 0 0) := by rw [← hw1.out]; simp
  have c1 : w1.cell? ⟨w.heap.size + 1, 1, none⟩ = some (.slice none 0 0) := by rw [← hw1.out]; simp
  have f0 : w1.frozen? ⟨w.heap.size + 1, 0, none⟩ = false := by rw [← hw1.out]; simp
  have f1 : w1.frozen? ⟨w.heap.size + 1, 1, none⟩ = false := by rw [← hw1.out]; simp
  go_enter Try.func40, Try.ntmps40
  go_wp2_with fail
  rw [hw1.out]
  go_region
  go_wp2
  have hR : TG.Row w1 (w.heap.size + 1) [.slice none 0 0, .slice none 0 0] := by
    rw [← hw1.out]
    have := TG.row_new (w.alloc (Obj.cells #[Value.slice bq bn bc, Value.bool false] 53)) [.slice none 0 0, .slice none 0 0] 50
    rwa [World.size_alloc] at this
  refine bodyPost_ret (v := .tuple #[.agg #[.slice vq vn vc, .slice vq vn vc], .bool true]) (TG.results_ct 4 5 50 rfl (k := w.heap.size + 1) (vs := [.slice vq vn vc, .slice vq vn vc]) (hR.put (us := [.slice vq vn vc, .slice vq vn vc]) rfl) rfl rfl (by kernel_rfl) (by kernel_rfl)) rfl ?_
  exact ⟨_, rfl, (RG.below_setCells (w0 := w) (Nat.le_succ w.heap.size) [.slice vq vn vc, .slice vq vn vc] 0 w1 hb1).drew, rfl⟩
end Go.Proofs.Ythbgppnhlpjngaa
namespace Go.Proofs.Ythbgppnhlpjngaa
open Go.RowKit Go.Sort Go.Deep
namespace RG
variable {P : Program} {ops : Array Oper} {Q : Exit → Act → World → Prop} {a0 : Act} {F : Flow}
theorem cf_many {k : Nat} {o : Oper} (h : ∀ (a : Act) (w : World), PreF F ops a0 k o a w → ∃ (ps : List (Tmp × Value)) (v : Value) (w' : World), AllE a ps ∧ (seenT (ps.map (·.1)) o, (execOp (evo (evl ps)) o).run P w) = (true, .ok (.value v) w') ∧ F.E k w w' ∧ F.R k v w') : CertF P Q F ops a0 k o :=
  cf_val fun a w hp => by
    obtain ⟨ps, v, w', he, hs, hE⟩ := h a w hp
    simp only [Prod.mk.injEq] at hs
    refine ⟨v, w', ?_, hE⟩
    rw [exec_ev (evl ps) (ps.map (·.1)) hs.1 he.ev]
    exact hs.2
theorem cf_skip {k : Nat} {o : Oper} (h : ∀ (a : Act) (w : World), PreF F ops a0 k o a w → ∃ (ps : List (Tmp × Value)) (w' : World), AllE a ps ∧ seenT (ps.map (·.1)) o = true ∧ (execOp (evo (evl ps)) o).run P w = .ok .skip w' ∧ F.E k w w' ∧ F.R k undef w') : CertF P Q F ops a0 k o := by
  intro a w K h1 h2 h3 hK
  obtain ⟨ps, w', he, hs, hr, hE, hR⟩ := h a w ⟨h1, h2, h3⟩
  unfold Oper.wp
  rw [exec_ev (evl ps) (ps.map (·.1)) hs he.ev, hr]
  exact hK undef w' hE hR
theorem cf_calls {k : Nat} {o : Oper} (h : ∀ (a : Act) (w : World), PreF F ops a0 k o a w → ∃ (ps : List (Tmp × Value)) (f : FuncId) (args : Array Value), AllE a ps ∧ (seenT (ps.map (·.1)) o, (execOp (evo (evl ps)) o).run P w) = (true, .ok (.enter f args) w) ∧ Calls P f args w (Ret fun e w' => F.E k w w' ∧ F.R k e w')) : CertF P Q F ops a0 k o := by
  intro a w K h1 h2 h3 hK
  obtain ⟨ps, f, args, he, hs, hc⟩ := h a w ⟨h1, h2, h3⟩
  simp only [Prod.mk.injEq] at hs
  unfold Oper.wp
  rw [exec_ev (evl ps) (ps.map (·.1)) hs.1 he.ev, hs.2, Oper.upon_enter]
  refine hc.mono ?_
  rintro e w' ⟨v, rfl, hE, hR⟩
  exact hK _ _ hE hR
end RG
namespace TG
def PS (w : World) (v : Value) (T : Bs) : Prop := PartS w v T.toList
def Slc (v : Value) : Prop := ∃ q n c, v = .slice q n c
def Two (w : World) (r : Nat) : Prop := ∃ x y, Slc x ∧ Slc y ∧ Row w r [x, y]
/-- What an operation does: the world grows, or operation K stores two slices. -/
def Ex (r K i : Nat) (w w' : World) : Prop := Below w.heap.size w w' ∨ (i = K ∧ Two w r ∧ ∃ x y, Slc x ∧ Slc y ∧ w' = w.setCells r 0 [x, y])
theorem PS.below {w w' : World} {v : Value} {T : Bs} (h : PS w v T) (hb : Below w.heap.size w w') : PS w' v T := ⟨h.1, h.2.below hb⟩
theorem PS.put {w : World} {v : Value} {T : Bs} {r : Nat} {x y : Value} (h : PS w v T) (h2 : Two w r) : PS (w.setCells r 0 [x, y]) v T := by
  obtain ⟨h1, a, sb, so, cap, bs, e1, e2, e3, e4, e5⟩ := h
  refine ⟨h1, a, sb, so, cap, bs, e1, e2, e3, e4, ?_⟩
  rcases e5 with e5 | ⟨e5, e6⟩
  · exact Or.inl e5
  · refine Or.inr ⟨e5, ?_⟩
    obtain ⟨x0, y0, ⟨q0, n0, c0, rfl⟩, ⟨q1, n1, c1, rfl⟩, hR⟩ := h2
    have hO : Only r 0 2 w (w.setCells r 0 [x, y]) := (Only.refl _ _ _ _).setCells [x, y] 0 (Nat.le_refl _) (by simp)
    intro j hj
    have hh := e6 j hj
    by_cases hb : sb = r
    · subst hb
      have h0 := hR.two
      have hne : 2 ≤ so + j := by
        rcases Nat.lt_or_ge (so + j) 2 with h | h
        · exfalso
          have hc := hh.1
          rcases (by omega : so + j = 0 ∨ so + j = 1) with e | e
          · rw [e, h0.1] at hc; cases hc
          · rw [e, h0.2.1] at hc; cases hc
        · exact h
      exact ⟨(hO.cell _ (Or.inr (by omega))).trans hh.1, (hO.froz _).trans hh.2⟩
    · have hs : sb < w.heap.size := World.block_lt_of_cell? _ _ hh.1
      have := hO.other (o := so + j) hb hs
      exact ⟨this.1.trans hh.1, this.2.trans hh.2⟩
theorem PS.ex {w w' : World} {v : Value} {T : Bs} {r K i : Nat} (h : PS w v T) (hE : Ex r K i w w') : PS w' v T := by
  rcases hE with hb | ⟨-, h2, x, y, -, -, rfl⟩
  · exact h.below hb
  · exact h.put h2
/-- What holds all the while. -/
def Bx (w0 : World) (r r1 : Nat) (ve vo vn : Value) (e To Tn : Bs) (w : World) : Prop := Below w0.heap.size w0 w ∧ Row w r1 [vo, vn] ∧ Two w r ∧ PS w ve e ∧ PS w vo To ∧ PS w vn Tn
theorem Two.below {w w' : World} {r : Nat} (h : Two w r) (hb : Below w.heap.size w w') : Two w' r := by
  obtain ⟨x, y, hx, hy, hR⟩ := h
  exact ⟨x, y, hx, hy, hR.below hb⟩
theorem Bx.ex {w0 w w' : World} {r r1 K i : Nat} {ve vo vn : Value} {e To Tn : Bs} (hr : w0.heap.size ≤ r) (hne : r1 ≠ r) (h : Bx w0 r r1 ve vo vn e To Tn w) (hE : Ex r K i w w') : Bx w0 r r1 ve vo vn e To Tn w' := by
  obtain ⟨h1, h2, h3, h4, h5, h6⟩ := h
  refine ⟨?_, ?_, ?_, h4.ex hE, h5.ex hE, h6.ex hE⟩
  · rcases hE with hb | ⟨-, -, x, y, -, -, rfl⟩
    · exact h1.trans (hb.mono h1.size)
    · exact RG.below_setCells hr _ _ _ h1
  · rcases hE with hb | ⟨-, -, x, y, -, -, rfl⟩
    · exact h2.below hb
    · exact h2.other hne
  · rcases hE with hb | ⟨-, -, x, y, hx, hy, rfl⟩
    · exact h3.below hb
    · obtain ⟨x0, y0, -, -, hR⟩ := h3
      exact ⟨x, y, hx, hy, hR.put rfl⟩
def Fin2 (r : Nat) (T1 T2 : Bs) (w : World) : Prop := ∃ x y, Row w r [x, y] ∧ PS w x T1 ∧ PS w y T2
theorem Fin2.below {w w' : World} {r : Nat} {T1 T2 : Bs} (h : Fin2 r T1 T2 w) (hb : Below w.heap.size w w') : Fin2 r T1 T2 w' := by
  obtain ⟨x, y, h1, h2, h3⟩ := h
  exact ⟨x, y, h1.below hb, h2.below hb, h3.below hb⟩
def Agg2 (w : World) (v : Value) (T1 T2 : Bs) : Prop := ∃ x y, v = .agg #[x, y] ∧ PS w x T1 ∧ PS w y T2
theorem Agg2.ex {w w' : World} {v : Value} {T1 T2 : Bs} {r K i : Nat} (h : Agg2 w v T1 T2) (hE : Ex r K i w w') : Agg2 w' v T1 T2 := by
  obtain ⟨x, y, h1, h2, h3⟩ := h
  exact ⟨x, y, h1, h2.ex hE, h3.ex hE⟩
/-- The region where the beginning lies in the second half. -/
def F9 (w0 : World) (r r1 : Nat) (ve vo vn : Value) (e To Tn : Bs) (ok : Bool) : RG.Flow where
  R i v w := match i with
    | 0 => v = ve
    | 1 => v = .pointer (some ⟨r1, 0, none⟩)
    | 2 => v = vo
    | 3 => PS w v (nodeH e To)
    | 4 => v = ve
    | 5 => v = .pointer (some ⟨r1, 1, none⟩)
    | 6 => v = vn
    | 7 => PS w v (nodeH e Tn)
    | 8 => Agg2 w v (nodeH e To) (nodeH e Tn)
    | 9 => v = .bool ok
    | 10 => Fin2 r (nodeH e To) (nodeH e Tn) w
    | _ => v = .bool ok
  B _ w := Bx w0 r r1 ve vo vn e To Tn w
  E := Ex r 10
  kill _ := []
  killB _ := []
theorem F9.stab {w0 : World} {r r1 : Nat} {ve vo vn : Value} {e To Tn : Bs} {ok : Bool} (i j : Nat) (hij : i ≠ j) (v : Value) (w w' : World) (hE : Ex r 10 i w w') (hR : (F9 w0 r r1 ve vo vn e To Tn ok).R j v w) : (F9 w0 r r1 ve vo vn e To Tn ok).R j v w' := by
  match j with
  | 0 => exact hR
  | 1 => exact hR
  | 2 => exact hR
  | 3 => exact PS.ex (show PS w v _ from hR) hE
  | 4 => exact hR
  | 5 => exact hR
  | 6 => exact hR
  | 7 => exact PS.ex (show PS w v _ from hR) hE
  | 8 => exact Agg2.ex (show Agg2 w v _ _ from hR) hE
  | 9 => exact hR
  | 10 =>
    rcases hE with hb | ⟨h, -⟩
    · exact Fin2.below (show Fin2 r _ _ w from hR) hb
    · exact absurd h hij
  | j + 11 => exact hR
/-- And in the first. -/
def F11 (w0 : World) (r r1 : Nat) (ve vo vn : Value) (e To Tn : Bs) (ok : Bool) : RG.Flow where
  R i v w := match i with
    | 0 => v = .pointer (some ⟨r1, 0, none⟩)
    | 1 => v = vo
    | 2 => v = .pointer (some ⟨r1, 1, none⟩)
    | 3 => v = vn
    | 4 => v = ve
    | 5 => PS w v (nodeH Tn e)
    | 6 => Agg2 w v To (nodeH Tn e)
    | 7 => v = .bool ok
    | 8 => Fin2 r To (nodeH Tn e) w
    | _ => v = .bool ok
  B _ w := Bx w0 r r1 ve vo vn e To Tn w
  E := Ex r 8
  kill _ := []
  killB _ := []
theorem F11.stab {w0 : World} {r r1 : Nat} {ve vo vn : Value} {e To Tn : Bs} {ok : Bool} (i j : Nat) (hij : i ≠ j) (v : Value) (w w' : World) (hE : Ex r 8 i w w') (hR : (F11 w0 r r1 ve vo vn e To Tn ok).R j v w) : (F11 w0 r r1 ve vo vn e To Tn ok).R j v w' := by
  match j with
  | 0 => exact hR
  | 1 => exact hR
  | 2 => exact hR
  | 3 => exact hR
  | 4 => exact hR
  | 5 => exact PS.ex (show PS w v _ from hR) hE
  | 6 => exact Agg2.ex (show Agg2 w v _ _ from hR) hE
  | 7 => exact hR
  | 8 =>
    rcases hE with hb | ⟨h, -⟩
    · exact Fin2.below (show Fin2 r _ _ w from hR) hb
    · exact absurd h hij
  | j + 9 => exact hR
end TG
end Go.Proofs.Ythbgppnhlpjngaa
namespace Go.Proofs.Ythbgppnhlpjngaa
open Go.RowKit Go.Sort Go.Deep
theorem ld_two {P : Program} {T : TypeId} {t : Tmp} {o : Oper} {a : Act} {w : World} {r off : Nat} {v : Value} (ho : o.op = .load T (.tmp t)) (hu : (P.underlying T).map (·.isRow) = some false) (he : a.eval (.tmp t) = .pointer (some ⟨r, off, none⟩)) (hc : w.cell? ⟨r, off, none⟩ = some v) : (execOp a.eval o).run P w = .ok (.value v) w := by
  unfold execOp
  rw [ho]
  dsimp only
  rw [he, Sem.run_bind, RG.run_load1 hc hu]
  rfl
theorem RG.cf_store {P : Program} {ops : Array Oper} {Q : Exit → Act → World → Prop} {a0 : Act} {F : RG.Flow} {k : Nat} {o : Oper} (T : TypeId) (t u : Tmp) (ho : o.op = .store T (.tmp t) (.tmp u)) (hd : o.dst = none)
    (h : ∀ (a : Act) (w : World), RG.PreF F ops a0 k o a w → ∃ (g off : Nat) (cs : List Value), a.eval (.tmp t) = .pointer (some ⟨g, off, none⟩) ∧ a.eval (.tmp u) = .agg cs.toArray ∧ w.there g off cs.length ∧ (P.info? T).map (·.size) = some cs.length ∧ cs.all (·.oneCell') = true ∧ F.E k w (w.setCells g off cs) ∧ F.R k undef (w.setCells g off cs)) : RG.CertF P Q F ops a0 k o := by
  intro a w K h1 h2 h3 hK
  obtain ⟨g, off, cs, e1, e2, e3, e4, e5, hE, hR⟩ := h a w ⟨h1, h2, h3⟩
  refine wp_store_mid T _ _ ho g off cs.toArray e1 e2 (by rw [List.size_toArray]; exact e3) (by rw [List.size_toArray]; exact e4) (all_oneCell_toArray (fun v hv => List.all_eq_true.1 e5 v hv)) ?_
  have := hK undef _ hE hR
  rw [hd] at this ⊢
  exact this
set_option maxHeartbeats 1000000 in
theorem leads_eq (bv : Value) (kn : Bool) (bq : Option Addr) (bn bc : Nat) (hbv : bv = .slice bq bn bc) (m : Int) (q : Option Addr) (j c : Nat) (xq yq : Option Addr) (xn xc yn yc : Nat) (ok : Bool) (w : World)
    (hst : ∀ w', Below w.heap.size w w' → Calls Try.prog 40 #[.agg #[.slice bq bn bc, .bool kn], .slice q j c] w' (Ret fun e w'' => Below w'.heap.size w' w'' ∧ e = .tuple #[.agg #[.slice xq xn xc, .slice yq yn yc], .bool ok])) :
    Calls Try.prog 28 #[.agg #[.slice bq bn bc, .bool kn], .int .i64 m, .int .i64 m, .slice q j c] w (Ret fun e w' => Below w.heap.size w w' ∧ e = .tuple #[.agg #[.slice xq xn xc, .slice yq yn yc], .bool ok]) := by
  obtain ⟨w1, hw1⟩ : ∃ w1, Hid ((w.alloc (Obj.cells #[Value.slice bq bn bc, Value.bool kn] 53)).alloc (Obj.cells #[.slice none 0 0, .slice none 0 0] 50) = w1) := ⟨_, rfl⟩
  have HB : Hid (Below w.heap.size w w1 ∧ TG.Row w1 (w.heap.size + 1) [.slice none 0 0, .slice none 0 0]) := by
    rw [← hw1.out]
    refine ⟨TG.below2 _ _ _, ?_⟩
    have := TG.row_new (w.alloc (Obj.cells #[Value.slice bq bn bc, Value.bool kn] 53)) [.slice none 0 0, .slice none 0 0] 50
    rwa [World.size_alloc] at this
  have HS := Hid.mk2 hst
  clear hst
  go_enter Try.func28, Try.ntmps28
  go_wp2_with fail
  rw [hw1.out]
  refine (HS.out w1 HB.out.1).mono ?_
  rintro e w2 ⟨v2, rfl, hb2, rfl⟩
  have K2 : Hid (Below w.heap.size w w2 ∧ TG.Row w2 (w.heap.size + 1) [.slice none 0 0, .slice none 0 0]) := ⟨HB.out.1.trans (hb2.mono HB.out.1.size), HB.out.2.below hb2⟩
  have c0 := K2.out.2.two.1
  have c1 := K2.out.2.two.2.1
  have f0 := K2.out.2.two.2.2.1
  have f1 := K2.out.2.two.2.2.2
  clear hb2 HB hw1 HS
  go_wp2
  refine bodyPost_ret (v := .tuple #[.agg #[.slice xq xn xc, .slice yq yn yc], .bool ok]) (TG.results_ct 8 9 50 rfl (k := w.heap.size + 1) (vs := [.slice xq xn xc, .slice yq yn yc]) (K2.out.2.put (us := [.slice xq xn xc, .slice yq yn yc]) rfl) rfl rfl (by kernel_rfl) (by kernel_rfl)) rfl ?_
  exact ⟨_, rfl, RG.below_setCells (w0 := w) (Nat.le_succ w.heap.size) [.slice xq xn xc, .slice yq yn yc] 0 w2 K2.out.1, rfl⟩
set_option maxHeartbeats 1000000 in
theorem leads_0 (kn : Bool) (bq : Option Addr) (bn bc : Nat) (m n : Int) (hmn : ¬ m = n) (q : Option Addr) (c : Nat) (w : World) :
    Calls Try.prog 28 #[.agg #[.slice bq bn bc, .bool kn], .int .i64 m, .int .i64 n, .slice q 0 c] w (Ret fun e w' => Below w.heap.size w w' ∧ e = .tuple #[.agg #[.slice none 0 0, .slice none 0 0], .bool false]) := by
  obtain ⟨w1, hw1⟩ : ∃ w1, Hid ((w.alloc (Obj.cells #[Value.slice bq bn bc, Value.bool kn] 53)).alloc (Obj.cells #[.slice none 0 0, .slice none 0 0] 50) = w1) := ⟨_, rfl⟩
  have HB : Hid (Below w.heap.size w w1 ∧ TG.Row w1 (w.heap.size + 1) [.slice none 0 0, .slice none 0 0]) := by
    rw [← hw1.out]
    refine ⟨TG.below2 _ _ _, ?_⟩
    have := TG.row_new (w.alloc (Obj.cells #[Value.slice bq bn bc, Value.bool kn] 53)) [.slice none 0 0, .slice none 0 0] 50
    rwa [World.size_alloc] at this
  have g0 : (m == n) = false := by simpa using hmn
  go_enter Try.func28, Try.ntmps28
  go_wp2_with fail
  rw [hw1.out]
  refine (last_n q c w1).mono ?_
  rintro e w2 ⟨v2, rfl, hb2, rfl⟩
  have K2 : Hid (Below w.heap.size w w2 ∧ TG.Row w2 (w.heap.size + 1) [.slice none 0 0, .slice none 0 0]) := ⟨HB.out.1.trans (hb2.mono HB.out.1.size), HB.out.2.below hb2⟩
  have c0 := K2.out.2.two.1
  have c1 := K2.out.2.two.2.1
  have f0 := K2.out.2.two.2.2.1
  have f1 := K2.out.2.two.2.2.2
  clear hb2 HB hw1
  go_wp2
  refine bodyPost_ret (v := .tuple #[.agg #[.slice none 0 0, .slice none 0 0], .bool false]) (TG.results_ct 8 9 50 rfl (k := w.heap.size + 1) (vs := [.slice none 0 0, .slice none 0 0]) (K2.out.2.put (us := [.slice none 0 0, .slice none 0 0]) rfl) rfl rfl (by kernel_rfl) (by kernel_rfl)) rfl ?_
  exact ⟨_, rfl, RG.below_setCells (w0 := w) (Nat.le_succ w.heap.size) [.slice none 0 0, .slice none 0 0] 0 w2 K2.out.1, rfl⟩
set_option maxHeartbeats 4000000 in
/-- One step, where the beginning reaches into the second half. -/
theorem leads_hi (kn : Bool) (bq : Option Addr) (bn bc : Nat) (m n k m2 n2 : Nat) (hmn : ¬ m = n) (hk : k < m) (hm2 : m - k = m2) (hn2 : n - k = n2) (hm : m ≤ n) (hn : n ≤ 1048576) (gg oo j c : Nat) (vq : Option Addr) (vn vc : Nat) (e To Tn : Bs) (ok : Bool) (w : World)
    (hLs : ∀ w', Below w.heap.size w w' → Calls Try.prog 41 #[.slice (some ⟨gg, oo, none⟩) (j + 1) c] w' (Ret fun e w'' => Below w'.heap.size w' w'' ∧ e = .tuple #[.slice (some ⟨gg, oo, none⟩) j c, .slice vq vn vc, .bool true]))
    (hHf : ∀ w, Calls Try.prog 42 #[.int .i64 (n : Int)] w fun e w' => e = .returned (.int .i64 (k : Int)) ∧ w' = w)
    (hR : ∀ w', Below w.heap.size w w' → Calls Try.prog 28 #[.agg #[.slice none 0 0, .bool false], .int .i64 (m2 : Int), .int .i64 (n2 : Int), .slice (some ⟨gg, oo, none⟩) j c] w' (Ret fun e w'' => Below w'.heap.size w' w'' ∧ ∃ x y, e = .tuple #[.agg #[x, y], .bool ok] ∧ TG.PS w'' x To ∧ TG.PS w'' y Tn))
    (hv : TG.PS w (.slice vq vn vc) e) :
    Calls Try.prog 28 #[.agg #[.slice bq bn bc, .bool kn], .int .i64 (m : Int), .int .i64 (n : Int), .slice (some ⟨gg, oo, none⟩) (j + 1) c] w (Ret fun e' w' => Below w.heap.size w w' ∧ ∃ x y, e' = .tuple #[.agg #[x, y], .bool ok] ∧ TG.PS w' x (nodeH e To) ∧ TG.PS w' y (nodeH e Tn)) := by
  obtain ⟨w1, hw1⟩ : ∃ w1, Hid ((w.alloc (Obj.cells #[Value.slice bq bn bc, Value.bool kn] 53)).alloc (Obj.cells #[.slice none 0 0, .slice none 0 0] 50) = w1) := ⟨_, rfl⟩
  have HB : Hid (Below w.heap.size w w1 ∧ TG.Row w1 (w.heap.size + 1) [.slice none 0 0, .slice none 0 0]) := by
    rw [← hw1.out]
    refine ⟨TG.below2 _ _ _, ?_⟩
    have := TG.row_new (w.alloc (Obj.cells #[Value.slice bq bn bc, Value.bool kn] 53)) [.slice none 0 0, .slice none 0 0] 50
    rwa [World.size_alloc] at this
  have g1 : ¬ (m : Int) = (n : Int) := by omega
  have g0 : ((m : Int) == (n : Int)) = false := by simpa using g1
  have e3 : (k : Int) < (m : Int) := by omega
  have e1 : wrap64 ((m : Int) - (k : Int)) = (m2 : Int) := by unfold wrap64; omega
  have e2 : wrap64 ((n : Int) - (k : Int)) = (n2 : Int) := by unfold wrap64; omega
  have HS := Hid.mk2 (And.intro hLs (And.intro hHf (And.intro hR hv)))
  clear hLs hHf hR hv hmn hk hm2 hn2 hm hn g1
  go_enter Try.func28, Try.ntmps28
  go_wp2_with fail
  rw [hw1.out]
  refine (HS.out.1 w1 HB.out.1).mono ?_
  rintro e' w2 ⟨v2, rfl, hb2, rfl⟩
  have K2 : Hid (Below w.heap.size w w2 ∧ TG.Row w2 (w.heap.size + 1) [.slice none 0 0, .slice none 0 0]) := ⟨HB.out.1.trans (hb2.mono HB.out.1.size), HB.out.2.below hb2⟩
  clear hb2 HB hw1
  go_wp2_with fail
  refine (HS.out.2.1 w2).mono ?_
  rintro e' w' ⟨rfl, rfl⟩
  go_wp2_with fail
  refine (HS.out.2.2.1 w' K2.out.1).mono ?_
  rintro e' w3 ⟨v3, rfl, hb3, x, y, rfl, ⟨⟨xq, xn, xc, rfl⟩, hx⟩, ⟨⟨yq, yn, yc, rfl⟩, hy⟩⟩
  have K3 : Hid (Below w.heap.size w w3 ∧ TG.Row w3 (w.heap.size + 1) [.slice none 0 0, .slice none 0 0] ∧ TG.PS w3 (.slice xq xn xc) To ∧ TG.PS w3 (.slice yq yn yc) Tn ∧ TG.PS w3 (.slice vq vn vc) e) := by
    have hb := K2.out.1.trans (hb3.mono K2.out.1.size)
    exact ⟨hb, K2.out.2.below hb3, ⟨⟨_, _, _, rfl⟩, hx⟩, ⟨⟨_, _, _, rfl⟩, hy⟩, HS.out.2.2.2.below hb⟩
  clear hb3 hx hy K2 HS e1 e2 e3
  go_wp2_with fail
  obtain ⟨w4, hw4⟩ : ∃ w4, Hid (w3.alloc (Obj.cells #[.slice xq xn xc, .slice yq yn yc] 50) = w4) := ⟨_, rfl⟩
  rw [hw4.out]
  have HB4 : Hid (TG.Bx w (w.heap.size + 1) w3.heap.size (.slice vq vn vc) (.slice xq xn xc) (.slice yq yn yc) e To Tn w4.drew ∧ w3.heap.size ≠ (w.heap.size + 1)) := by
    have hb4 : Below w3.heap.size w3 w4 := by rw [← hw4.out]; exact (Below.refl _ _).alloc (Nat.le_refl _) _
    have hR4 : TG.Row w4 w3.heap.size [.slice xq xn xc, .slice yq yn yc] := by rw [← hw4.out]; exact TG.row_new w3 [.slice xq xn xc, .slice yq yn yc] _
    have hlt := K3.out.2.1.1
    exact ⟨⟨(K3.out.1.trans (hb4.mono K3.out.1.size)).drew, hR4, ⟨_, _, ⟨_, _, _, rfl⟩, ⟨_, _, _, rfl⟩, K3.out.2.1.below hb4.drew⟩, K3.out.2.2.2.2.below hb4.drew, K3.out.2.2.1.below hb4.drew, K3.out.2.2.2.1.below hb4.drew⟩, by omega⟩
  clear hw4 K3
  refine RG.flow_draws (TG.F9 w (w.heap.size + 1) w3.heap.size (.slice vq vn vc) (.slice xq xn xc) (.slice yq yn yc) e To Tn ok) (by kernel_rfl) ⟨by kernel_rfl, RG.certs_of ?_, fun i j _ _ hij _ _ => TG.F9.stab i j hij, fun i b _ _ w1 w' hE hB => TG.Bx.ex (Nat.le_succ _) HB4.out.2 hB hE⟩ (fun _ => HB4.out.1) ?_
  · exact ⟨RG.cf_many fun a W hp => ⟨[(11, .slice vq vn vc)], .slice vq vn vc, W, ⟨hp.o 11 (by kernel_rfl), trivial⟩, by kernel_rfl, Or.inl (Below.refl _ _), rfl⟩,
      RG.cf_many fun a W hp => ⟨[(14, .pointer (some ⟨w3.heap.size, 0, none⟩))], .pointer (some ⟨w3.heap.size, 0, none⟩), W, ⟨hp.o 14 (by kernel_rfl), trivial⟩, by kernel_rfl, Or.inl (Below.refl _ _), rfl⟩,
      RG.cf_val fun a W hp => ⟨.slice xq xn xc, W, ld_two (T := 26) (t := 52) rfl (by kernel_rfl) (hp.n 1 52 (by kernel_rfl) (by kernel_rfl) (by kernel_rfl)) (TG.Row.two (hp.b 0 (by kernel_rfl)).2.1).1, Or.inl (Below.refl _ _), rfl⟩,
      RG.cf_calls fun a W hp => ⟨[(51, .slice vq vn vc), (53, .slice xq xn xc)], 36, #[.slice vq vn vc, .slice xq xn xc], ⟨hp.n 0 51 (by kernel_rfl) (by kernel_rfl) (by kernel_rfl), hp.n 2 53 (by kernel_rfl) (by kernel_rfl) (by kernel_rfl), trivial⟩, by kernel_rfl, (node_c _ _ _ _ _ _ e To W (hp.b 0 (by kernel_rfl)).2.2.2.1.2 (hp.b 0 (by kernel_rfl)).2.2.2.2.1.2).mono (by
      rintro e' W' ⟨u, rfl, hb, hp'⟩
      exact ⟨_, rfl, Or.inl hb, hp'⟩)⟩,
      RG.cf_many fun a W hp => ⟨[(11, .slice vq vn vc)], .slice vq vn vc, W, ⟨hp.o 11 (by kernel_rfl), trivial⟩, by kernel_rfl, Or.inl (Below.refl _ _), rfl⟩,
      RG.cf_many fun a W hp => ⟨[(14, .pointer (some ⟨w3.heap.size, 0, none⟩))], .pointer (some ⟨w3.heap.size, 1, none⟩), W, ⟨hp.o 14 (by kernel_rfl), trivial⟩, by kernel_rfl, Or.inl (Below.refl _ _), rfl⟩,
      RG.cf_val fun a W hp => ⟨.slice yq yn yc, W, ld_two (T := 26) (t := 56) rfl (by kernel_rfl) (hp.n 5 56 (by kernel_rfl) (by kernel_rfl) (by kernel_rfl)) (TG.Row.two (hp.b 0 (by kernel_rfl)).2.1).2.1, Or.inl (Below.refl _ _), rfl⟩,
      RG.cf_calls fun a W hp => ⟨[(55, .slice vq vn vc), (57, .slice yq yn yc)], 36, #[.slice vq vn vc, .slice yq yn yc], ⟨hp.n 4 55 (by kernel_rfl) (by kernel_rfl) (by kernel_rfl), hp.n 6 57 (by kernel_rfl) (by kernel_rfl) (by kernel_rfl), trivial⟩, by kernel_rfl, (node_c _ _ _ _ _ _ e Tn W (hp.b 0 (by kernel_rfl)).2.2.2.1.2 (hp.b 0 (by kernel_rfl)).2.2.2.2.2.2).mono (by
      rintro e' W' ⟨u, rfl, hb, hp'⟩
      exact ⟨_, rfl, Or.inl hb, hp'⟩)⟩,
      RG.cf_many fun a W hp => by
      obtain ⟨⟨q1, n1, c1, he1⟩, hp1⟩ := show TG.PS W (a.eval (.tmp 54)) (nodeH e To) from hp.n 3 54 (by kernel_rfl) (by kernel_rfl) (by kernel_rfl)
      rw [he1] at hp1
      obtain ⟨⟨q2, n2, c2, he2⟩, hp2⟩ := show TG.PS W (a.eval (.tmp 58)) (nodeH e Tn) from hp.n 7 58 (by kernel_rfl) (by kernel_rfl) (by kernel_rfl)
      rw [he2] at hp2
      exact ⟨[(54, .slice q1 n1 c1), (58, .slice q2 n2 c2)], .agg #[.slice q1 n1 c1, .slice q2 n2 c2], W, ⟨he1, he2, trivial⟩, by kernel_rfl, Or.inl (Below.refl _ _), _, _, rfl, ⟨⟨_, _, _, rfl⟩, hp1⟩, ⟨⟨_, _, _, rfl⟩, hp2⟩⟩,
      RG.cf_many fun a W hp => ⟨[(15, .bool ok)], .bool ok, W, ⟨hp.o 15 (by kernel_rfl), trivial⟩, by kernel_rfl, Or.inl (Below.refl _ _), rfl⟩,
      RG.cf_store 50 8 59 rfl rfl fun a W hp => by
      obtain ⟨x, y, he, ⟨⟨q1, n1, c1, rfl⟩, h1⟩, ⟨⟨q2, n2, c2, rfl⟩, h2⟩⟩ := show TG.Agg2 W (a.eval (.tmp 59)) (nodeH e To) (nodeH e Tn) from hp.n 8 59 (by kernel_rfl) (by kernel_rfl) (by kernel_rfl)
      have hT : TG.Two W (w.heap.size + 1) := (hp.b 0 (by kernel_rfl)).2.2.1
      obtain ⟨x0, y0, -, -, hR⟩ := hT
      have hT : TG.Two W (w.heap.size + 1) := (hp.b 0 (by kernel_rfl)).2.2.1
      exact ⟨(w.heap.size + 1), 0, [.slice q1 n1 c1, .slice q2 n2 c2], hp.o 8 (by kernel_rfl), he, hR.2.2, by kernel_rfl, rfl, Or.inr ⟨rfl, hT, _, _, ⟨_, _, _, rfl⟩, ⟨_, _, _, rfl⟩, rfl⟩, _, _, hR.put rfl, TG.PS.put ⟨⟨_, _, _, rfl⟩, h1⟩ hT, TG.PS.put ⟨⟨_, _, _, rfl⟩, h2⟩ hT⟩,
      RG.cf_many fun a W hp => ⟨[(60, .bool ok)], .bool ok, W, ⟨hp.n 9 60 (by kernel_rfl) (by kernel_rfl) (by kernel_rfl), trivial⟩, by kernel_rfl, Or.inl (Below.refl _ _), rfl⟩,
      trivial⟩
  · intro V w5 hV hB
    obtain ⟨x, y, hR, hx, hy⟩ := show TG.Fin2 (w.heap.size + 1) (nodeH e To) (nodeH e Tn) w5 from hV 10 (Nat.lt_of_succ_le (Nat.le_of_ble_eq_true (by kernel_rfl))) rfl
    have hVn : V 11 = .bool ok := hV 11 (Nat.lt_of_succ_le (Nat.le_of_ble_eq_true (by kernel_rfl))) rfl
    have K5 : Hid (Below w.heap.size w w5 ∧ TG.Row w5 (w.heap.size + 1) [x, y] ∧ TG.PS w5 x (nodeH e To) ∧ TG.PS w5 y (nodeH e Tn)) := ⟨(show TG.Bx w (w.heap.size + 1) w3.heap.size (.slice vq vn vc) (.slice xq xn xc) (.slice yq yn yc) e To Tn w5 from hB 0 rfl).1, hR, hx, hy⟩
    dsimp only [RG.putV, Nat.reduceAdd]
    simp only [Act.put, List.setIfInBounds_toArray, List.set_cons_succ, List.set_cons_zero]
    rw [hVn]
    clear hV hB hR hx hy HB4
    go_wp2
    refine bodyPost_ret (v := .tuple #[.agg #[x, y], .bool ok]) (TG.results_ct 8 9 50 rfl (k := w.heap.size + 1) (vs := [x, y]) K5.out.2.1 rfl rfl (by kernel_rfl) rfl) rfl ?_
    exact ⟨_, rfl, K5.out.1, x, y, rfl, K5.out.2.2.1, K5.out.2.2.2⟩
set_option maxHeartbeats 4000000 in
/-- And where it does not. -/
theorem leads_lo (kn : Bool) (bq : Option Addr) (bn bc : Nat) (m n k : Nat) (hmn : ¬ m = n) (hk : ¬ k < m) (gg oo j c : Nat) (vq : Option Addr) (vn vc : Nat) (e To Tn : Bs) (ok : Bool) (w : World)
    (hLs : ∀ w', Below w.heap.size w w' → Calls Try.prog 41 #[.slice (some ⟨gg, oo, none⟩) (j + 1) c] w' (Ret fun e w'' => Below w'.heap.size w' w'' ∧ e = .tuple #[.slice (some ⟨gg, oo, none⟩) j c, .slice vq vn vc, .bool true]))
    (hHf : ∀ w, Calls Try.prog 42 #[.int .i64 (n : Int)] w fun e w' => e = .returned (.int .i64 (k : Int)) ∧ w' = w)
    (hR : ∀ w', Below w.heap.size w w' → Calls Try.prog 28 #[.agg #[.slice bq bn bc, .bool kn], .int .i64 (m : Int), .int .i64 (k : Int), .slice (some ⟨gg, oo, none⟩) j c] w' (Ret fun e w'' => Below w'.heap.size w' w'' ∧ ∃ x y, e = .tuple #[.agg #[x, y], .bool ok] ∧ TG.PS w'' x To ∧ TG.PS w'' y Tn))
    (hv : TG.PS w (.slice vq vn vc) e) :
    Calls Try.prog 28 #[.agg #[.slice bq bn bc, .bool kn], .int .i64 (m : Int), .int .i64 (n : Int), .slice (some ⟨gg, oo, none⟩) (j + 1) c] w (Ret fun e' w' => Below w.heap.size w w' ∧ ∃ x y, e' = .tuple #[.agg #[x, y], .bool ok] ∧ TG.PS w' x To ∧ TG.PS w' y (nodeH Tn e)) := by
  obtain ⟨w1, hw1⟩ : ∃ w1, Hid ((w.alloc (Obj.cells #[Value.slice bq bn bc, Value.bool kn] 53)).alloc (Obj.cells #[.slice none 0 0, .slice none 0 0] 50) = w1) := ⟨_, rfl⟩
  have HB : Hid (Below w.heap.size w w1 ∧ TG.Row w1 (w.heap.size + 1) [.slice none 0 0, .slice none 0 0] ∧ TG.Row w1 w.heap.size [.slice bq bn bc, .bool kn]) := by
    rw [← hw1.out]
    refine ⟨TG.below2 _ _ _, ?_, (TG.row_new w [.slice bq bn bc, .bool kn] _).below ((Below.refl _ _).alloc (Nat.le_refl _) _)⟩
    have := TG.row_new (w.alloc (Obj.cells #[Value.slice bq bn bc, Value.bool kn] 53)) [.slice none 0 0, .slice none 0 0] 50
    rwa [World.size_alloc] at this
  have g1 : ¬ (m : Int) = (n : Int) := by omega
  have g0 : ((m : Int) == (n : Int)) = false := by simpa using g1
  have e3 : ¬ (k : Int) < (m : Int) := by omega
  have HS := Hid.mk2 (And.intro hLs (And.intro hHf (And.intro hR hv)))
  clear hLs hHf hR hv hmn hk g1
  go_enter Try.func28, Try.ntmps28
  go_wp2_with fail
  rw [hw1.out]
  refine (HS.out.1 w1 HB.out.1).mono ?_
  rintro e' w2 ⟨v2, rfl, hb2, rfl⟩
  have K2 : Hid (Below w.heap.size w w2 ∧ TG.Row w2 (w.heap.size + 1) [.slice none 0 0, .slice none 0 0]) := ⟨HB.out.1.trans (hb2.mono HB.out.1.size), HB.out.2.1.below hb2⟩
  have c0 := (HB.out.2.2.below hb2).two.1
  have c1 := (HB.out.2.2.below hb2).two.2.1
  clear hb2 HB hw1
  go_wp2_with fail
  refine (HS.out.2.1 w2).mono ?_
  rintro e' w' ⟨rfl, rfl⟩
  go_wp2_with fail
  refine (HS.out.2.2.1 w' K2.out.1).mono ?_
  rintro e' w3 ⟨v3, rfl, hb3, x, y, rfl, ⟨⟨xq, xn, xc, rfl⟩, hx⟩, ⟨⟨yq, yn, yc, rfl⟩, hy⟩⟩
  have K3 : Hid (Below w.heap.size w w3 ∧ TG.Row w3 (w.heap.size + 1) [.slice none 0 0, .slice none 0 0] ∧ TG.PS w3 (.slice xq xn xc) To ∧ TG.PS w3 (.slice yq yn yc) Tn ∧ TG.PS w3 (.slice vq vn vc) e) := by
    have hb := K2.out.1.trans (hb3.mono K2.out.1.size)
    exact ⟨hb, K2.out.2.below hb3, ⟨⟨_, _, _, rfl⟩, hx⟩, ⟨⟨_, _, _, rfl⟩, hy⟩, HS.out.2.2.2.below hb⟩
  clear hb3 hx hy K2 HS e3
  go_wp2_with fail
  obtain ⟨w4, hw4⟩ : ∃ w4, Hid (w3.alloc (Obj.cells #[.slice xq xn xc, .slice yq yn yc] 50) = w4) := ⟨_, rfl⟩
  rw [hw4.out]
  have HB4 : Hid (TG.Bx w (w.heap.size + 1) w3.heap.size (.slice vq vn vc) (.slice xq xn xc) (.slice yq yn yc) e To Tn w4.drew ∧ w3.heap.size ≠ (w.heap.size + 1)) := by
    have hb4 : Below w3.heap.size w3 w4 := by rw [← hw4.out]; exact (Below.refl _ _).alloc (Nat.le_refl _) _
    have hR4 : TG.Row w4 w3.heap.size [.slice xq xn xc, .slice yq yn yc] := by rw [← hw4.out]; exact TG.row_new w3 [.slice xq xn xc, .slice yq yn yc] _
    have hlt := K3.out.2.1.1
    exact ⟨⟨(K3.out.1.trans (hb4.mono K3.out.1.size)).drew, hR4, ⟨_, _, ⟨_, _, _, rfl⟩, ⟨_, _, _, rfl⟩, K3.out.2.1.below hb4.drew⟩, K3.out.2.2.2.2.below hb4.drew, K3.out.2.2.1.below hb4.drew, K3.out.2.2.2.1.below hb4.drew⟩, by omega⟩
  clear hw4 K3
  refine RG.flow_draws (TG.F11 w (w.heap.size + 1) w3.heap.size (.slice vq vn vc) (.slice xq xn xc) (.slice yq yn yc) e To Tn ok) (by kernel_rfl) ⟨by kernel_rfl, RG.certs_of ?_, fun i j _ _ hij _ _ => TG.F11.stab i j hij, fun i b _ _ w1 w' hE hB => TG.Bx.ex (Nat.le_succ _) HB4.out.2 hB hE⟩ (fun _ => HB4.out.1) ?_
  · exact ⟨RG.cf_many fun a W hp => ⟨[(16, .pointer (some ⟨w3.heap.size, 0, none⟩))], .pointer (some ⟨w3.heap.size, 0, none⟩), W, ⟨hp.o 16 (by kernel_rfl), trivial⟩, by kernel_rfl, Or.inl (Below.refl _ _), rfl⟩,
      RG.cf_val fun a W hp => ⟨.slice xq xn xc, W, ld_two (T := 26) (t := 69) rfl (by kernel_rfl) (hp.n 0 69 (by kernel_rfl) (by kernel_rfl) (by kernel_rfl)) (TG.Row.two (hp.b 0 (by kernel_rfl)).2.1).1, Or.inl (Below.refl _ _), rfl⟩,
      RG.cf_many fun a W hp => ⟨[(16, .pointer (some ⟨w3.heap.size, 0, none⟩))], .pointer (some ⟨w3.heap.size, 1, none⟩), W, ⟨hp.o 16 (by kernel_rfl), trivial⟩, by kernel_rfl, Or.inl (Below.refl _ _), rfl⟩,
      RG.cf_val fun a W hp => ⟨.slice yq yn yc, W, ld_two (T := 26) (t := 71) rfl (by kernel_rfl) (hp.n 2 71 (by kernel_rfl) (by kernel_rfl) (by kernel_rfl)) (TG.Row.two (hp.b 0 (by kernel_rfl)).2.1).2.1, Or.inl (Below.refl _ _), rfl⟩,
      RG.cf_many fun a W hp => ⟨[(11, .slice vq vn vc)], .slice vq vn vc, W, ⟨hp.o 11 (by kernel_rfl), trivial⟩, by kernel_rfl, Or.inl (Below.refl _ _), rfl⟩,
      RG.cf_calls fun a W hp => ⟨[(72, .slice yq yn yc), (73, .slice vq vn vc)], 36, #[.slice yq yn yc, .slice vq vn vc], ⟨hp.n 3 72 (by kernel_rfl) (by kernel_rfl) (by kernel_rfl), hp.n 4 73 (by kernel_rfl) (by kernel_rfl) (by kernel_rfl), trivial⟩, by kernel_rfl, (node_c _ _ _ _ _ _ Tn e W (hp.b 0 (by kernel_rfl)).2.2.2.2.2.2 (hp.b 0 (by kernel_rfl)).2.2.2.1.2).mono (by
      rintro e' W' ⟨u, rfl, hb, hp'⟩
      exact ⟨_, rfl, Or.inl hb, hp'⟩)⟩,
      RG.cf_many fun a W hp => by
      have he1 : a.eval (.tmp 70) = .slice xq xn xc := hp.n 1 70 (by kernel_rfl) (by kernel_rfl) (by kernel_rfl)
      have hp1 : SP.PartOk W (.slice xq xn xc) To.toList := (hp.b 0 (by kernel_rfl)).2.2.2.2.1.2
      obtain ⟨⟨q2, n2, c2, he2⟩, hp2⟩ := show TG.PS W (a.eval (.tmp 74)) (nodeH Tn e) from hp.n 5 74 (by kernel_rfl) (by kernel_rfl) (by kernel_rfl)
      rw [he2] at hp2
      exact ⟨[(70, .slice xq xn xc), (74, .slice q2 n2 c2)], .agg #[.slice xq xn xc, .slice q2 n2 c2], W, ⟨he1, he2, trivial⟩, by kernel_rfl, Or.inl (Below.refl _ _), _, _, rfl, ⟨⟨_, _, _, rfl⟩, hp1⟩, ⟨⟨_, _, _, rfl⟩, hp2⟩⟩,
      RG.cf_many fun a W hp => ⟨[(12, .bool ok)], .bool ok, W, ⟨hp.o 12 (by kernel_rfl), trivial⟩, by kernel_rfl, Or.inl (Below.refl _ _), rfl⟩,
      RG.cf_store 50 8 75 rfl rfl fun a W hp => by
      obtain ⟨x, y, he, ⟨⟨q1, n1, c1, rfl⟩, h1⟩, ⟨⟨q2, n2, c2, rfl⟩, h2⟩⟩ := show TG.Agg2 W (a.eval (.tmp 75)) To (nodeH Tn e) from hp.n 6 75 (by kernel_rfl) (by kernel_rfl) (by kernel_rfl)
      have hT : TG.Two W (w.heap.size + 1) := (hp.b 0 (by kernel_rfl)).2.2.1
      obtain ⟨x0, y0, -, -, hR⟩ := hT
      have hT : TG.Two W (w.heap.size + 1) := (hp.b 0 (by kernel_rfl)).2.2.1
      exact ⟨(w.heap.size + 1), 0, [.slice q1 n1 c1, .slice q2 n2 c2], hp.o 8 (by kernel_rfl), he, hR.2.2, by kernel_rfl, rfl, Or.inr ⟨rfl, hT, _, _, ⟨_, _, _, rfl⟩, ⟨_, _, _, rfl⟩, rfl⟩, _, _, hR.put rfl, TG.PS.put ⟨⟨_, _, _, rfl⟩, h1⟩ hT, TG.PS.put ⟨⟨_, _, _, rfl⟩, h2⟩ hT⟩,
      RG.cf_many fun a W hp => ⟨[(76, .bool ok)], .bool ok, W, ⟨hp.n 7 76 (by kernel_rfl) (by kernel_rfl) (by kernel_rfl), trivial⟩, by kernel_rfl, Or.inl (Below.refl _ _), rfl⟩,
      trivial⟩
  · intro V w5 hV hB
    obtain ⟨x, y, hR, hx, hy⟩ := show TG.Fin2 (w.heap.size + 1) To (nodeH Tn e) w5 from hV 8 (Nat.lt_of_succ_le (Nat.le_of_ble_eq_true (by kernel_rfl))) rfl
    have hVn : V 9 = .bool ok := hV 9 (Nat.lt_of_succ_le (Nat.le_of_ble_eq_true (by kernel_rfl))) rfl
    have K5 : Hid (Below w.heap.size w w5 ∧ TG.Row w5 (w.heap.size + 1) [x, y] ∧ TG.PS w5 x To ∧ TG.PS w5 y (nodeH Tn e)) := ⟨(show TG.Bx w (w.heap.size + 1) w3.heap.size (.slice vq vn vc) (.slice xq xn xc) (.slice yq yn yc) e To Tn w5 from hB 0 rfl).1, hR, hx, hy⟩
    dsimp only [RG.putV, Nat.reduceAdd]
    simp only [Act.put, List.setIfInBounds_toArray, List.set_cons_succ, List.set_cons_zero]
    rw [hVn]
    clear hV hB hR hx hy HB4
    go_wp2
    refine bodyPost_ret (v := .tuple #[.agg #[x, y], .bool ok]) (TG.results_ct 8 9 50 rfl (k := w.heap.size + 1) (vs := [x, y]) K5.out.2.1 rfl rfl (by kernel_rfl) rfl) rfl ?_
    exact ⟨_, rfl, K5.out.1, x, y, rfl, K5.out.2.2.1, K5.out.2.2.2⟩
end Go.Proofs.Ythbgppnhlpjngaa
namespace Go.Proofs.Ythbgppnhlpjngaa
open Go.RowKit Go.Sort Go.Deep
theorem pn2 (w : World) : TG.PS w (.slice none 0 0) #[] := ⟨⟨_, _, _, rfl⟩, part_nil2 w⟩
set_option maxRecDepth 100000 in
theorem leadsB_c (old : Bs) (S : Nat → Bs) (q : Option Addr) (c : Nat) : ∀ (j m n : Nat) (kn : Bool) (bq : Option Addr) (bn bc : Nat) (w : World), j ≤ 1048576 → j ≤ c → 1 ≤ m → m ≤ n → n ≤ 1048576 → (kn = true → SP.PartOk w (.slice bq bn bc) old.toList) → Lists w q j S →
    Calls Try.prog 28 #[.agg #[.slice bq bn bc, .bool kn], .int .i64 (m : Int), .int .i64 (n : Int), .slice q j c] w (Ret fun e w' => Below w.heap.size w w' ∧ ∃ x y, e = .tuple #[.agg #[x, y], .bool (grw old (revL S j) kn m n).2.2] ∧ TG.PS w' x (grw old (revL S j) kn m n).1 ∧ TG.PS w' y (grw old (revL S j) kn m n).2.1) := by
  intro j
  induction j with
  | zero =>
    intro m n kn bq bn bc w _ _ hm1 hmn hn hK _
    by_cases h1 : m = n
    · subst h1
      rw [revL, grw, if_pos rfl]
      cases kn with
      | true =>
        refine (leads_eq (.slice bq bn bc) true bq bn bc rfl _ q 0 c bq bq bn bc bn bc true w fun w' _ => start_y bq bn bc q 0 c w').mono ?_
        rintro e w' ⟨v, rfl, hb, rfl⟩
        have hp := (hK rfl).below hb
        exact ⟨_, rfl, hb, _, _, rfl, ⟨⟨_, _, _, rfl⟩, hp⟩, ⟨⟨_, _, _, rfl⟩, hp⟩⟩
      | false =>
        refine (leads_eq (.slice bq bn bc) false bq bn bc rfl _ q 0 c none none 0 0 0 0 false w fun w' _ => start_n bq bn bc q 0 c w' (by decide)).mono ?_
        rintro e w' ⟨v, rfl, hb, rfl⟩
        exact ⟨_, rfl, hb, _, _, rfl, pn2 w', pn2 w'⟩
    · rw [revL, grw_nil h1]
      refine (leads_0 kn bq bn bc (m : Int) (n : Int) (by omega) q c w).mono ?_
      rintro e w' ⟨v, rfl, hb, rfl⟩
      exact ⟨_, rfl, hb, _, _, rfl, pn2 w', pn2 w'⟩
  | succ j ih =>
    intro m n kn bq bn bc w hj hc hm1 hmn hn hK hL
    obtain ⟨gg, oo, rfl, hgg, hcell⟩ := hL (by omega)
    obtain ⟨v, hv, ⟨vq, vn, vc, rfl⟩, hvp⟩ := hcell j (by omega)
    by_cases h1 : m = n
    · subst h1
      rw [revL, grw, if_pos rfl]
      cases kn with
      | true =>
        refine (leads_eq (.slice bq bn bc) true bq bn bc rfl _ _ (j + 1) c bq bq bn bc bn bc false w fun w' _ => ?_).mono ?_
        · have := start_y bq bn bc (some ⟨gg, oo, none⟩) (j + 1) c w'
          rwa [decide_eq_false (by omega)] at this
        · rintro e w' ⟨v, rfl, hb, rfl⟩
          have hp := (hK rfl).below hb
          exact ⟨_, rfl, hb, _, _, rfl, ⟨⟨_, _, _, rfl⟩, hp⟩, ⟨⟨_, _, _, rfl⟩, hp⟩⟩
      | false =>
        by_cases h0 : j = 0
        · subst h0
          rw [if_neg (by decide), revL, if_pos rfl]
          refine (leads_eq (.slice bq bn bc) false bq bn bc rfl _ _ 1 c vq vq vn vc vn vc true w fun w' hb => start_1 bq bn bc gg oo c vq vn vc w' (Nat.lt_of_lt_of_le hgg hb.size) (by rw [hb.cell (p := ⟨gg, oo, none⟩) hgg]; exact hv)).mono ?_
          rintro e w' ⟨v, rfl, hb, rfl⟩
          have hp := hvp.below hb
          exact ⟨_, rfl, hb, _, _, rfl, ⟨⟨_, _, _, rfl⟩, hp⟩, ⟨⟨_, _, _, rfl⟩, hp⟩⟩
        · have hne : ¬ revL S j = [] := by
            cases j with
            | zero => exact absurd rfl h0
            | succ j => rw [revL]; exact List.cons_ne_nil _ _
          rw [if_neg (by decide), if_neg hne]
          refine (leads_eq (.slice bq bn bc) false bq bn bc rfl _ _ (j + 1) c none none 0 0 0 0 false w fun w' _ => start_n bq bn bc _ (j + 1) c w' (by omega)).mono ?_
          rintro e w' ⟨v, rfl, hb, rfl⟩
          exact ⟨_, rfl, hb, _, _, rfl, pn2 w', pn2 w'⟩
    · have hf3 := hf_lt (n := n) (by omega)
      have hLs : ∀ w', Below w.heap.size w w' → Calls Try.prog 41 #[.slice (some ⟨gg, oo, none⟩) (j + 1) c] w' (Ret fun e w'' => Below w'.heap.size w' w'' ∧ e = .tuple #[.slice (some ⟨gg, oo, none⟩) j c, .slice vq vn vc, .bool true]) := fun w' hb =>
        last_y gg oo j c (.slice vq vn vc) w' hj hc (by rw [hb.cell (p := ⟨gg, oo + j, none⟩) hgg]; exact hv)
      have hHf := fun w => half_c n (by omega) hn w
      have hLj : Lists w (some ⟨gg, oo, none⟩) j S := hL.less (by omega)
      by_cases hk : hf n < m
      · rw [revL, grw_hi h1 hk]
        have hr := fun w' (hb : Below w.heap.size w w') => ih (m - hf n) (n - hf n) false none 0 0 w' (by omega) (by omega) (by omega) (by omega) (by omega) (fun h => by cases h) (hLj.below hb)
        generalize grw old (revL S j) false (m - hf n) (n - hf n) = g at hr ⊢
        obtain ⟨To, Tn, ok⟩ := g
        dsimp only at hr ⊢
        generalize hf n = k at hHf hf3 hk hr
        generalize hm2 : m - k = m2 at hr
        generalize hn2 : n - k = n2 at hr
        exact leads_hi kn bq bn bc m n k m2 n2 h1 hk hm2 hn2 hmn hn gg oo j c vq vn vc (S j) To Tn ok w hLs hHf hr ⟨⟨_, _, _, rfl⟩, hvp⟩
      · rw [revL, grw_lo h1 hk]
        have hr := fun w' (hb : Below w.heap.size w w') => ih m (hf n) kn bq bn bc w' (by omega) (by omega) hm1 (by omega) (by omega) (fun h => (hK h).below hb) (hLj.below hb)
        generalize grw old (revL S j) kn m (hf n) = g at hr ⊢
        obtain ⟨To, Tn, ok⟩ := g
        dsimp only at hr ⊢
        generalize hf n = k at hHf hf3 hk hr
        exact leads_lo kn bq bn bc m n k h1 hk gg oo j c vq vn vc (S j) To Tn ok w hLs hHf hr ⟨⟨_, _, _, rfl⟩, hvp⟩
/-- What Grown answers. -/
def grewT (old root : Bs) (m n : Int) (S : Nat → Bs) (j : Nat) : Bool :=
  if (1 ≤ n ∧ n ≤ 1048576) ∧ (1 ≤ m ∧ m ≤ n) ∧ (∀ i, i < j → (S i).size = 32) then (grw old (revL S j) true m.toNat n.toNat).2.2 && decide ((grw old (revL S j) true m.toNat n.toNat).1 = old) && decide ((grw old (revL S j) true m.toNat n.toNat).2.1 = root) else false
set_option maxHeartbeats 2000000 in
theorem Grown_c (oq rq' q : Option Addr) (on oc rn rc j c : Nat) (old root : Bs) (m n : Int) (S : Nat → Bs) (w : World) (hj : j ≤ 1048576) (hjc : j ≤ c) (hO : SP.PartOk w (.slice oq on oc) old.toList) (hR : SP.PartOk w (.slice rq' rn rc) root.toList) (hL : Lists w q j S) :
    Calls Try.prog 16 #[.slice oq on oc, .int .i64 m, .slice rq' rn rc, .int .i64 n, .slice q j c] w (Ret fun e w' => Below w.heap.size w w' ∧ e = .bool (grewT old root m n S j)) := by
  have HL : Hid (Lists w q j S ∧ SP.PartOk w (.slice oq on oc) old.toList ∧ SP.PartOk w (.slice rq' rn rc) root.toList) := ⟨hL, hO, hR⟩
  have hA := allH_c q j c S w hj hL
  clear hL hR hO
  by_cases h1 : 1 ≤ n ∧ n ≤ 1048576
  · have w1 := within_c n 1 1048576 w
    rw [decide_eq_true h1] at w1
    by_cases h2 : 1 ≤ m ∧ m ≤ n
    · have w2 := within_c m 1 n w
      rw [decide_eq_true h2] at w2
      by_cases h3 : ∀ i, i < j → (S i).size = 32
      · rw [decide_eq_true h3] at hA
        obtain ⟨n', rfl⟩ : ∃ n' : Nat, n = (n' : Int) := ⟨n.toNat, by omega⟩
        obtain ⟨m', rfl⟩ : ∃ m' : Nat, m = (m' : Int) := ⟨m.toNat, by omega⟩
        obtain ⟨T1, T2, ok, hT, hp⟩ : ∃ T1 T2 ok, grewT old root (m' : Int) (n' : Int) S j = (ok && decide (T1 = old) && decide (T2 = root)) ∧ Calls Try.prog 28 #[.agg #[.slice oq on oc, .bool true], .int .i64 (m' : Int), .int .i64 (n' : Int), .slice q j c] w (Ret fun e w' => Below w.heap.size w w' ∧ ∃ x y, e = .tuple #[.agg #[x, y], .bool ok] ∧ TG.PS w' x T1 ∧ TG.PS w' y T2) :=
          ⟨_, _, _, by unfold grewT; rw [if_pos ⟨h1, h2, h3⟩]; rfl, leadsB_c old S q c j m' n' true oq on oc w hj hjc (by omega) (by omega) (by omega) (fun _ => HL.out.2.1) HL.out.1⟩
        rw [hT]
        clear hT
        go_enter Try.func16, Try.ntmps16
        go_wp2_with fail
        refine w1.mono ?_
        rintro e w' ⟨rfl, rfl⟩
        go_wp2_with fail
        refine w2.mono ?_
        rintro e w' ⟨rfl, rfl⟩
        go_wp2_with fail
        refine hA.mono ?_
        rintro e w' ⟨rfl, rfl⟩
        go_wp2_with fail
        refine hp.mono ?_
        rintro e w4 ⟨v4, rfl, hb4, x, y, rfl, ⟨⟨xq, xn, xc, rfl⟩, hx⟩, ⟨⟨yq, yn, yc, rfl⟩, hy⟩⟩
        obtain ⟨w5, hw5⟩ : ∃ w5, Hid (w4.alloc (Obj.cells #[.slice xq xn xc, .slice yq yn yc] 50) = w5) := ⟨_, rfl⟩
        have hb5 : Below w4.heap.size w4 w5 := by rw [← hw5.out]; exact (Below.refl _ _).alloc (Nat.le_refl _) _
        have hr5 : TG.Row w5 w4.heap.size [.slice xq xn xc, .slice yq yn yc] := by rw [← hw5.out]; exact TG.row_new w4 [.slice xq xn xc, .slice yq yn yc] _
        have K4 : Hid (Below w'.heap.size w' w5 ∧ SP.PartOk w5 (.slice xq xn xc) T1.toList ∧ SP.PartOk w5 (.slice yq yn yc) T2.toList) := ⟨hb4.trans (hb5.mono hb4.size), hx.below hb5, hy.below hb5⟩
        have c0 := hr5.two.1
        have c1 := hr5.two.2.1
        clear hb4 hb5 hr5 hx hy hp w1 w2 hA h1 h2
        cases ok with
        | false =>
          go_wp2
          go_ret
          exact ⟨_, rfl, by rw [hw5.out]; exact K4.out.1, rfl⟩
        | true =>
          go_wp2_with fail
          rw [hw5.out]
          refine (equal_c xq oq xn xc on oc T1 old w5 K4.out.2.1 (HL.out.2.1.below K4.out.1)).mono ?_
          rintro e w6 ⟨rfl, rfl⟩
          by_cases hq : T1 = old
          · rw [decide_eq_true hq]
            go_wp2_with fail
            refine (equal_c yq rq' yn yc rn rc T2 root w6 K4.out.2.2 (HL.out.2.2.below K4.out.1)).mono ?_
            rintro e w7 ⟨rfl, rfl⟩
            go_wp2
            go_ret
            exact ⟨_, rfl, K4.out.1, by simp [hq]⟩
          · rw [decide_eq_false hq]
            go_wp2
            go_ret
            exact ⟨_, rfl, K4.out.1, by simp [hq]⟩
      · rw [decide_eq_false h3] at hA
        have hT : grewT old root m n S j = false := by unfold grewT; rw [if_neg (fun h => h3 h.2.2)]
        rw [hT]
        clear HL h3
        go_enter Try.func16, Try.ntmps16
        go_wp2_with fail
        refine w1.mono ?_
        rintro e w' ⟨rfl, rfl⟩
        go_wp2_with fail
        refine w2.mono ?_
        rintro e w' ⟨rfl, rfl⟩
        go_wp2_with fail
        refine hA.mono ?_
        rintro e w' ⟨rfl, rfl⟩
        go_wp2
        go_ret
        exact ⟨_, rfl, Below.refl _ _, rfl⟩
    · have w2 := within_c m 1 n w
      rw [decide_eq_false h2] at w2
      have hT : grewT old root m n S j = false := by unfold grewT; rw [if_neg (fun h => h2 h.2.1)]
      rw [hT]
      clear HL hA
      go_enter Try.func16, Try.ntmps16
      go_wp2_with fail
      refine w1.mono ?_
      rintro e w' ⟨rfl, rfl⟩
      go_wp2_with fail
      refine w2.mono ?_
      rintro e w' ⟨rfl, rfl⟩
      go_wp2
      go_ret
      exact ⟨_, rfl, Below.refl _ _, rfl⟩
  · have w1 := within_c n 1 1048576 w
    rw [decide_eq_false h1] at w1
    have hT : grewT old root m n S j = false := by unfold grewT; rw [if_neg (fun h => h1 h.1)]
    rw [hT]
    clear HL hA
    go_enter Try.func16, Try.ntmps16
    go_wp2_with fail
    refine w1.mono ?_
    rintro e w' ⟨rfl, rfl⟩
    go_wp2
    go_ret
    exact ⟨_, rfl, Below.refl _ _, rfl⟩
end Go.Proofs.Ythbgppnhlpjngaa
namespace Go.Proofs.Ythbgppnhlpjngaa
open Go.RowKit Go.Sort Go.Deep
theorem zeros_one {z : Value} (e : z.cells = #[z]) (n : Nat) : Builtin.zeroCells z.cells n = Array.replicate n z := by
  unfold Builtin.zeroCells
  rw [e]
  apply Array.ext
  · simp
  · intro k h2 h3
    simp [Nat.mod_one]
def encV (v : Value) : Value := v
theorem slice46 : Try.prog.underlying 24 = some (.slice 26) := by kernel_rfl
theorem slice45 : Try.prog.underlying 22 = some (.slice 9) := by kernel_rfl
theorem info23 : (Try.prog.info? 26).map (fun i => (i.zero, i.size, i.bytes)) = some (some (.slice none 0 0), 1, 24) := by kernel_rfl
theorem info9 : (Try.prog.info? 9).map (fun i => (i.zero, i.size, i.bytes)) = some (some (.string ⟨#[]⟩), 1, 16) := by kernel_rfl
/-- A list of values of one's own, in block g. -/
structure ListAt (w : World) (g cap : Nat) (vs : List Value) (cur : Array Value) : Prop where
  lt : g < w.heap.size
  size : cur.size = cap
  fits : vs.length ≤ cap
  holds : Holds encV w g 0 cur
  front : ∀ j, j < vs.length → cur[j]! = vs[j]!
theorem ListAt.below {w w1 : World} {g cap : Nat} {vs : List Value} {cur : Array Value} (h : ListAt w g cap vs cur) (k : Below w.heap.size w w1) : ListAt w1 g cap vs cur :=
  ⟨Nat.lt_of_lt_of_le h.lt k.size, h.size, h.fits, Holds.below h.holds k h.lt, h.front⟩
theorem val_front (a b : List Value) (j : Nat) (h : j < a.length) : (a ++ b)[j]! = a[j]! := by
  rw [getElem!_pos (a ++ b) j (by rw [List.length_append]; omega), getElem!_pos a j h, List.getElem_append_left h]
theorem val_last (a : List Value) (x : Value) : (a ++ [x])[a.length]! = x := by
  rw [getElem!_pos (a ++ [x]) a.length (by simp)]
  simp
theorem arr_list_at (T : List Value) (n j : Nat) (z : Value) (h : j < T.length) : (T.toArray ++ Array.replicate n z)[j]! = T[j]! := by
  rw [getElem!_pos _ j (by simp; omega), getElem!_pos T j h, Array.getElem_append_left (by simpa using h)]
  simp
theorem src_oneG {w : World} {T E : TypeId} (hT : Try.prog.underlying T = some (.slice E)) {r : Nat} {x : Value} (hx : w.cell? ⟨r, 0, none⟩ = some x) (h1 : x.oneCell' = true) : Src Try.prog 1 T (.slice (some ⟨r, 0, none⟩) 1 1) 1 [x] w := by
  refine Src.ofSlice w hT ⟨r, 0, none⟩ 1 1 _ rfl (fun j u hj => ?_) (fun u hu => ?_)
  · cases j with
    | zero =>
      have : u = x := by simpa using hj.symm
      rw [this]
      exact hx
    | succ j => simp at hj
  · have : u = x := by simpa using hu
    rw [this]
    exact h1
/-- 'append(l, x)', l a list of slices of one's own. -/
theorem append_valS {T E : TypeId} {z : Value} (hT : Try.prog.underlying T = some (.slice E)) (hE : (Try.prog.info? E).map (fun i => (i.zero, i.size, i.bytes)) = some (some z, 1, 16)) (hzc : z.cells = #[z]) {w : World} {g cap r : Nat} {vs : List Value} {cur : Array Value} {x : Value} (h : ListAt w g cap vs cur) (hx : w.cell? ⟨r, 0, none⟩ = some x) (h1 : x.oneCell' = true) (hbig : vs.length ≤ 1048576) :
    ∃ g' cap' cur' w', (Builtin.append_ #[T, T] T #[.slice (some ⟨g, 0, none⟩) vs.length cap, .slice (some ⟨r, 0, none⟩) 1 1]).run Try.prog w = .ok (.slice (some ⟨g', 0, none⟩) (vs.length + 1) cap') w' ∧
      ListAt w' g' cap' (vs ++ [x]) cur' ∧ Only g 0 cap w w' ∧ (g' = g ∨ w.heap.size ≤ g') := by
  obtain ⟨i, hi, hz, hsz, hby⟩ := info_parts hE
  have hsrc := src_oneG hT (r := r) hx h1
  by_cases hroom : vs.length + 1 ≤ cap
  · have hap := run_append_room_src (P := Try.prog) w T T T E i hT hi g 0 vs.length cap (.slice (some ⟨r, 0, none⟩) 1 1) 1 [x] (by rw [hsz]; exact hsrc) hroom
      (fun j hj => by
        have hj0 : j = 0 := by simpa using hj
        subst hj0
        rw [hsz, Nat.mul_one, Nat.add_zero, (h.holds vs.length (by rw [h.size]; omega)).1]; rfl)
      (fun j hj => by
        have hj0 : j = 0 := by simpa using hj
        subst hj0
        rw [hsz, Nat.mul_one, Nat.add_zero]
        exact (h.holds vs.length (by rw [h.size]; omega)).2)
    rw [hsz, Nat.mul_one, Nat.zero_add] at hap
    have hset : w.setCells g vs.length [x] = w.setCell ⟨g, vs.length, none⟩ x := rfl
    rw [hset] at hap
    have hH := Holds.set h.holds (i := vs.length) (by rw [h.size]; omega) x
    rw [Nat.zero_add] at hH
    refine ⟨g, cap, cur.setIfInBounds vs.length x, _, hap, ⟨by rw [World.size_setCell]; exact h.lt, by rw [Array.size_setIfInBounds, h.size], by rw [List.length_append]; exact hroom, hH, fun j hj => ?_⟩, (Only.refl _ _ _ _).setCell (by omega) (by omega) _, Or.inl rfl⟩
    rw [List.length_append, List.length_singleton] at hj
    by_cases hj1 : j = vs.length
    · rw [hj1, val_last, getElem!_set_same _ _ _ (by rw [h.size]; omega)]
    · rw [getElem!_set_other _ _ _ _ hj1, val_front _ _ _ (by omega), h.front j (by omega)]
  · have hold : (Builtin.firstCells i.size vs.length (.slice (some ⟨g, 0, none⟩) vs.length cap)).run Try.prog w.drew = .ok vs.toArray w.drew := by
      rw [hsz]
      refine run_firstCells_some w.drew 1 vs.length ⟨g, 0, none⟩ vs.length cap vs (by rw [Nat.mul_one]) (fun j u hj => ?_)
      obtain ⟨h2, h3⟩ := List.getElem?_eq_some_iff.1 hj
      have hc := (h.holds j (by rw [h.size]; have := h.fits; omega)).1
      rw [h.front j h2, getElem!_pos vs j h2, h3] at hc
      have e1 : (⟨g, 0, none⟩ : Addr).add j = ⟨g, 0 + j, none⟩ := by
        unfold Addr.add
        by_cases h0 : j = 0
        · subst h0; rw [if_pos rfl]
        · rw [if_neg h0]
      rw [e1, World.cell?_drew, hc]
      rfl
    have hf := h.fits
    have hnc : Builtin.nextslicecap (vs.length + 1) cap ≤ 2 * (vs.length + 1) + 768 := by
      unfold Builtin.nextslicecap
      split
      · omega
      · split
        · omega
        · simp only [Builtin.growBy]
          repeat' split
          all_goals omega
    have hap := run_append_grow_src (P := Try.prog) w T T T E i z hT hi hz (some ⟨g, 0, none⟩) vs.length cap vs hold _ 1 [x] (by rw [hsz]; exact hsrc) (by omega) (by omega) (by rw [hby]; omega)
    generalize hG : grownCap w (vs.length + 1) cap E = G at hap
    have hGl : vs.length + 1 ≤ G := by
      rw [← hG]
      unfold grownCap Question.cut
      exact Nat.le_add_right _ _
    have hcells : (vs ++ [x]).toArray ++ Builtin.zeroCells z.cells (G - (vs.length + 1)) = ((vs ++ [x]).toArray ++ Array.replicate (G - (vs.length + 1)) (z)).map encV := by
      have e0 : ∀ a : Array Value, a.map encV = a := fun a => by
        have : encV = id := rfl
        rw [this, Array.map_id]
      rw [e0, zeros_one hzc]
    rw [hcells] at hap
    refine ⟨w.heap.size, G, (vs ++ [x]).toArray ++ Array.replicate (G - (vs.length + 1)) (z), _, hap, ⟨by simp, ?_, by rw [List.length_append]; exact hGl, ?_, fun j hj => arr_list_at _ _ _ _ hj⟩, ?_, Or.inr (Nat.le_refl _)⟩
    · simp; omega
    · exact Holds.new (enc := encV) w.drew E _
    · exact (Only.refl g 0 cap w).drew.alloc h.lt _
/-- .. and the first of them. -/
theorem append_firstS {T E : TypeId} {z : Value} (hT : Try.prog.underlying T = some (.slice E)) (hE : (Try.prog.info? E).map (fun i => (i.zero, i.size, i.bytes)) = some (some z, 1, 16)) (hzc : z.cells = #[z]) {w : World} {r : Nat} {x : Value} (hx : w.cell? ⟨r, 0, none⟩ = some x) (h1 : x.oneCell' = true) :
    ∃ cap' cur' w', (Builtin.append_ #[T, T] T #[.slice none 0 0, .slice (some ⟨r, 0, none⟩) 1 1]).run Try.prog w = .ok (.slice (some ⟨w.heap.size, 0, none⟩) 1 cap') w' ∧
      ListAt w' w.heap.size cap' [x] cur' ∧ Below w.heap.size w w' := by
  obtain ⟨i, hi, hz, hsz, hby⟩ := info_parts hE
  have hsrc := src_oneG hT (r := r) hx h1
  have hold : (Builtin.firstCells i.size 0 (.slice none 0 0)).run Try.prog w.drew = .ok ([] : List Value).toArray w.drew := run_firstCells_none w.drew i.size 0 0 0
  have hnc : Builtin.nextslicecap (0 + 1) 0 ≤ 770 := by decide
  have hap := run_append_grow_src (P := Try.prog) w T T T E i z hT hi hz none 0 0 [] hold _ 1 [x] (by rw [hsz]; exact hsrc) (by omega) (by omega) (by rw [hby]; omega)
  rw [Nat.zero_add] at hap
  generalize hG : grownCap w 1 0 E = G at hap
  have hGl : 1 ≤ G := by
    rw [← hG]
    unfold grownCap Question.cut
    exact Nat.le_add_right _ _
  have hcells : (([] : List Value) ++ [x]).toArray ++ Builtin.zeroCells z.cells (G - 1) = ([x].toArray ++ Array.replicate (G - 1) (z)).map encV := by
    have e0 : ∀ a : Array Value, a.map encV = a := fun a => by
      have : encV = id := rfl
      rw [this, Array.map_id]
    rw [e0, List.nil_append, zeros_one hzc]
  rw [hcells] at hap
  refine ⟨G, [x].toArray ++ Array.replicate (G - 1) (z), _, hap, ⟨by simp, ?_, hGl, ?_, fun j hj => arr_list_at [x] _ _ _ hj⟩, ?_⟩
  · simp; omega
  · exact Holds.new (enc := encV) w.drew E _
  · exact ((Below.refl w.heap.size w).drew).alloc (Nat.le_refl _) _
/-- 'append(l, x)', l a list of slices of one's own. -/
theorem append_valL {T E : TypeId} {z : Value} (hT : Try.prog.underlying T = some (.slice E)) (hE : (Try.prog.info? E).map (fun i => (i.zero, i.size, i.bytes)) = some (some z, 1, 24)) (hzc : z.cells = #[z]) {w : World} {g cap r : Nat} {vs : List Value} {cur : Array Value} {x : Value} (h : ListAt w g cap vs cur) (hx : w.cell? ⟨r, 0, none⟩ = some x) (h1 : x.oneCell' = true) (hbig : vs.length ≤ 1048576) :
    ∃ g' cap' cur' w', (Builtin.append_ #[T, T] T #[.slice (some ⟨g, 0, none⟩) vs.length cap, .slice (some ⟨r, 0, none⟩) 1 1]).run Try.prog w = .ok (.slice (some ⟨g', 0, none⟩) (vs.length + 1) cap') w' ∧
      ListAt w' g' cap' (vs ++ [x]) cur' ∧ Only g 0 cap w w' ∧ (g' = g ∨ w.heap.size ≤ g') := by
  obtain ⟨i, hi, hz, hsz, hby⟩ := info_parts hE
  have hsrc := src_oneG hT (r := r) hx h1
  by_cases hroom : vs.length + 1 ≤ cap
  · have hap := run_append_room_src (P := Try.prog) w T T T E i hT hi g 0 vs.length cap (.slice (some ⟨r, 0, none⟩) 1 1) 1 [x] (by rw [hsz]; exact hsrc) hroom
      (fun j hj => by
        have hj0 : j = 0 := by simpa using hj
        subst hj0
        rw [hsz, Nat.mul_one, Nat.add_zero, (h.holds vs.length (by rw [h.size]; omega)).1]; rfl)
      (fun j hj => by
        have hj0 : j = 0 := by simpa using hj
        subst hj0
        rw [hsz, Nat.mul_one, Nat.add_zero]
        exact (h.holds vs.length (by rw [h.size]; omega)).2)
    rw [hsz, Nat.mul_one, Nat.zero_add] at hap
    have hset : w.setCells g vs.length [x] = w.setCell ⟨g, vs.length, none⟩ x := rfl
    rw [hset] at hap
    have hH := Holds.set h.holds (i := vs.length) (by rw [h.size]; omega) x
    rw [Nat.zero_add] at hH
    refine ⟨g, cap, cur.setIfInBounds vs.length x, _, hap, ⟨by rw [World.size_setCell]; exact h.lt, by rw [Array.size_setIfInBounds, h.size], by rw [List.length_append]; exact hroom, hH, fun j hj => ?_⟩, (Only.refl _ _ _ _).setCell (by omega) (by omega) _, Or.inl rfl⟩
    rw [List.length_append, List.length_singleton] at hj
    by_cases hj1 : j = vs.length
    · rw [hj1, val_last, getElem!_set_same _ _ _ (by rw [h.size]; omega)]
    · rw [getElem!_set_other _ _ _ _ hj1, val_front _ _ _ (by omega), h.front j (by omega)]
  · have hold : (Builtin.firstCells i.size vs.length (.slice (some ⟨g, 0, none⟩) vs.length cap)).run Try.prog w.drew = .ok vs.toArray w.drew := by
      rw [hsz]
      refine run_firstCells_some w.drew 1 vs.length ⟨g, 0, none⟩ vs.length cap vs (by rw [Nat.mul_one]) (fun j u hj => ?_)
      obtain ⟨h2, h3⟩ := List.getElem?_eq_some_iff.1 hj
      have hc := (h.holds j (by rw [h.size]; have := h.fits; omega)).1
      rw [h.front j h2, getElem!_pos vs j h2, h3] at hc
      have e1 : (⟨g, 0, none⟩ : Addr).add j = ⟨g, 0 + j, none⟩ := by
        unfold Addr.add
        by_cases h0 : j = 0
        · subst h0; rw [if_pos rfl]
        · rw [if_neg h0]
      rw [e1, World.cell?_drew, hc]
      rfl
    have hf := h.fits
    have hnc : Builtin.nextslicecap (vs.length + 1) cap ≤ 2 * (vs.length + 1) + 768 := by
      unfold Builtin.nextslicecap
      split
      · omega
      · split
        · omega
        · simp only [Builtin.growBy]
          repeat' split
          all_goals omega
    have hap := run_append_grow_src (P := Try.prog) w T T T E i z hT hi hz (some ⟨g, 0, none⟩) vs.length cap vs hold _ 1 [x] (by rw [hsz]; exact hsrc) (by omega) (by omega) (by rw [hby]; omega)
    generalize hG : grownCap w (vs.length + 1) cap E = G at hap
    have hGl : vs.length + 1 ≤ G := by
      rw [← hG]
      unfold grownCap Question.cut
      exact Nat.le_add_right _ _
    have hcells : (vs ++ [x]).toArray ++ Builtin.zeroCells z.cells (G - (vs.length + 1)) = ((vs ++ [x]).toArray ++ Array.replicate (G - (vs.length + 1)) (z)).map encV := by
      have e0 : ∀ a : Array Value, a.map encV = a := fun a => by
        have : encV = id := rfl
        rw [this, Array.map_id]
      rw [e0, zeros_one hzc]
    rw [hcells] at hap
    refine ⟨w.heap.size, G, (vs ++ [x]).toArray ++ Array.replicate (G - (vs.length + 1)) (z), _, hap, ⟨by simp, ?_, by rw [List.length_append]; exact hGl, ?_, fun j hj => arr_list_at _ _ _ _ hj⟩, ?_, Or.inr (Nat.le_refl _)⟩
    · simp; omega
    · exact Holds.new (enc := encV) w.drew E _
    · exact (Only.refl g 0 cap w).drew.alloc h.lt _
/-- .. and the first of them. -/
theorem append_firstL {T E : TypeId} {z : Value} (hT : Try.prog.underlying T = some (.slice E)) (hE : (Try.prog.info? E).map (fun i => (i.zero, i.size, i.bytes)) = some (some z, 1, 24)) (hzc : z.cells = #[z]) {w : World} {r : Nat} {x : Value} (hx : w.cell? ⟨r, 0, none⟩ = some x) (h1 : x.oneCell' = true) :
    ∃ cap' cur' w', (Builtin.append_ #[T, T] T #[.slice none 0 0, .slice (some ⟨r, 0, none⟩) 1 1]).run Try.prog w = .ok (.slice (some ⟨w.heap.size, 0, none⟩) 1 cap') w' ∧
      ListAt w' w.heap.size cap' [x] cur' ∧ Below w.heap.size w w' := by
  obtain ⟨i, hi, hz, hsz, hby⟩ := info_parts hE
  have hsrc := src_oneG hT (r := r) hx h1
  have hold : (Builtin.firstCells i.size 0 (.slice none 0 0)).run Try.prog w.drew = .ok ([] : List Value).toArray w.drew := run_firstCells_none w.drew i.size 0 0 0
  have hnc : Builtin.nextslicecap (0 + 1) 0 ≤ 770 := by decide
  have hap := run_append_grow_src (P := Try.prog) w T T T E i z hT hi hz none 0 0 [] hold _ 1 [x] (by rw [hsz]; exact hsrc) (by omega) (by omega) (by rw [hby]; omega)
  rw [Nat.zero_add] at hap
  generalize hG : grownCap w 1 0 E = G at hap
  have hGl : 1 ≤ G := by
    rw [← hG]
    unfold grownCap Question.cut
    exact Nat.le_add_right _ _
  have hcells : (([] : List Value) ++ [x]).toArray ++ Builtin.zeroCells z.cells (G - 1) = ([x].toArray ++ Array.replicate (G - 1) (z)).map encV := by
    have e0 : ∀ a : Array Value, a.map encV = a := fun a => by
      have : encV = id := rfl
      rw [this, Array.map_id]
    rw [e0, List.nil_append, zeros_one hzc]
  rw [hcells] at hap
  refine ⟨G, [x].toArray ++ Array.replicate (G - 1) (z), _, hap, ⟨by simp, ?_, hGl, ?_, fun j hj => arr_list_at [x] _ _ _ hj⟩, ?_⟩
  · simp; omega
  · exact Holds.new (enc := encV) w.drew E _
  · exact ((Below.refl w.heap.size w).drew).alloc (Nat.le_refl _) _
/-- 'append(l, x)', l a list of slices of one's own. -/
theorem append_valB {T E : TypeId} {z : Value} (hT : Try.prog.underlying T = some (.slice E)) (hE : (Try.prog.info? E).map (fun i => (i.zero, i.size, i.bytes)) = some (some z, 1, 1)) (hzc : z.cells = #[z]) {w : World} {g cap r : Nat} {vs : List Value} {cur : Array Value} {x : Value} (h : ListAt w g cap vs cur) (hx : w.cell? ⟨r, 0, none⟩ = some x) (h1 : x.oneCell' = true) (hbig : vs.length ≤ 1048576) :
    ∃ g' cap' cur' w', (Builtin.append_ #[T, T] T #[.slice (some ⟨g, 0, none⟩) vs.length cap, .slice (some ⟨r, 0, none⟩) 1 1]).run Try.prog w = .ok (.slice (some ⟨g', 0, none⟩) (vs.length + 1) cap') w' ∧
      ListAt w' g' cap' (vs ++ [x]) cur' ∧ Only g 0 cap w w' ∧ (vs.length + 1 ≤ cap ∧ g' = g ∨ w.heap.size ≤ g' ∧ Below w.heap.size w w') := by
  obtain ⟨i, hi, hz, hsz, hby⟩ := info_parts hE
  have hsrc := src_oneG hT (r := r) hx h1
  by_cases hroom : vs.length + 1 ≤ cap
  · have hap := run_append_room_src (P := Try.prog) w T T T E i hT hi g 0 vs.length cap (.slice (some ⟨r, 0, none⟩) 1 1) 1 [x] (by rw [hsz]; exact hsrc) hroom
      (fun j hj => by
        have hj0 : j = 0 := by simpa using hj
        subst hj0
        rw [hsz, Nat.mul_one, Nat.add_zero, (h.holds vs.length (by rw [h.size]; omega)).1]; rfl)
      (fun j hj => by
        have hj0 : j = 0 := by simpa using hj
        subst hj0
        rw [hsz, Nat.mul_one, Nat.add_zero]
        exact (h.holds vs.length (by rw [h.size]; omega)).2)
    rw [hsz, Nat.mul_one, Nat.zero_add] at hap
    have hset : w.setCells g vs.length [x] = w.setCell ⟨g, vs.length, none⟩ x := rfl
    rw [hset] at hap
    have hH := Holds.set h.holds (i := vs.length) (by rw [h.size]; omega) x
    rw [Nat.zero_add] at hH
    refine ⟨g, cap, cur.setIfInBounds vs.length x, _, hap, ⟨by rw [World.size_setCell]; exact h.lt, by rw [Array.size_setIfInBounds, h.size], by rw [List.length_append]; exact hroom, hH, fun j hj => ?_⟩, (Only.refl _ _ _ _).setCell (by omega) (by omega) _, Or.inl ⟨hroom, rfl⟩⟩
    rw [List.length_append, List.length_singleton] at hj
    by_cases hj1 : j = vs.length
    · rw [hj1, val_last, getElem!_set_same _ _ _ (by rw [h.size]; omega)]
    · rw [getElem!_set_other _ _ _ _ hj1, val_front _ _ _ (by omega), h.front j (by omega)]
  · have hold : (Builtin.firstCells i.size vs.length (.slice (some ⟨g, 0, none⟩) vs.length cap)).run Try.prog w.drew = .ok vs.toArray w.drew := by
      rw [hsz]
      refine run_firstCells_some w.drew 1 vs.length ⟨g, 0, none⟩ vs.length cap vs (by rw [Nat.mul_one]) (fun j u hj => ?_)
      obtain ⟨h2, h3⟩ := List.getElem?_eq_some_iff.1 hj
      have hc := (h.holds j (by rw [h.size]; have := h.fits; omega)).1
      rw [h.front j h2, getElem!_pos vs j h2, h3] at hc
      have e1 : (⟨g, 0, none⟩ : Addr).add j = ⟨g, 0 + j, none⟩ := by
        unfold Addr.add
        by_cases h0 : j = 0
        · subst h0; rw [if_pos rfl]
        · rw [if_neg h0]
      rw [e1, World.cell?_drew, hc]
      rfl
    have hf := h.fits
    have hnc : Builtin.nextslicecap (vs.length + 1) cap ≤ 2 * (vs.length + 1) + 768 := by
      unfold Builtin.nextslicecap
      split
      · omega
      · split
        · omega
        · simp only [Builtin.growBy]
          repeat' split
          all_goals omega
    have hap := run_append_grow_src (P := Try.prog) w T T T E i z hT hi hz (some ⟨g, 0, none⟩) vs.length cap vs hold _ 1 [x] (by rw [hsz]; exact hsrc) (by omega) (by omega) (by rw [hby]; omega)
    generalize hG : grownCap w (vs.length + 1) cap E = G at hap
    have hGl : vs.length + 1 ≤ G := by
      rw [← hG]
      unfold grownCap Question.cut
      exact Nat.le_add_right _ _
    have hcells : (vs ++ [x]).toArray ++ Builtin.zeroCells z.cells (G - (vs.length + 1)) = ((vs ++ [x]).toArray ++ Array.replicate (G - (vs.length + 1)) (z)).map encV := by
      have e0 : ∀ a : Array Value, a.map encV = a := fun a => by
        have : encV = id := rfl
        rw [this, Array.map_id]
      rw [e0, zeros_one hzc]
    rw [hcells] at hap
    refine ⟨w.heap.size, G, (vs ++ [x]).toArray ++ Array.replicate (G - (vs.length + 1)) (z), _, hap, ⟨by simp, ?_, by rw [List.length_append]; exact hGl, ?_, fun j hj => arr_list_at _ _ _ _ hj⟩, ?_, Or.inr ⟨Nat.le_refl _, ((Below.refl w.heap.size w).drew).alloc (Nat.le_refl _) _⟩⟩
    · simp; omega
    · exact Holds.new (enc := encV) w.drew E _
    · exact (Only.refl g 0 cap w).drew.alloc h.lt _
/-- .. and the first of them. -/
theorem append_firstB {T E : TypeId} {z : Value} (hT : Try.prog.underlying T = some (.slice E)) (hE : (Try.prog.info? E).map (fun i => (i.zero, i.size, i.bytes)) = some (some z, 1, 1)) (hzc : z.cells = #[z]) {w : World} {r : Nat} {x : Value} (hx : w.cell? ⟨r, 0, none⟩ = some x) (h1 : x.oneCell' = true) :
    ∃ cap' cur' w', (Builtin.append_ #[T, T] T #[.slice none 0 0, .slice (some ⟨r, 0, none⟩) 1 1]).run Try.prog w = .ok (.slice (some ⟨w.heap.size, 0, none⟩) 1 cap') w' ∧
      ListAt w' w.heap.size cap' [x] cur' ∧ Below w.heap.size w w' := by
  obtain ⟨i, hi, hz, hsz, hby⟩ := info_parts hE
  have hsrc := src_oneG hT (r := r) hx h1
  have hold : (Builtin.firstCells i.size 0 (.slice none 0 0)).run Try.prog w.drew = .ok ([] : List Value).toArray w.drew := run_firstCells_none w.drew i.size 0 0 0
  have hnc : Builtin.nextslicecap (0 + 1) 0 ≤ 770 := by decide
  have hap := run_append_grow_src (P := Try.prog) w T T T E i z hT hi hz none 0 0 [] hold _ 1 [x] (by rw [hsz]; exact hsrc) (by omega) (by omega) (by rw [hby]; omega)
  rw [Nat.zero_add] at hap
  generalize hG : grownCap w 1 0 E = G at hap
  have hGl : 1 ≤ G := by
    rw [← hG]
    unfold grownCap Question.cut
    exact Nat.le_add_right _ _
  have hcells : (([] : List Value) ++ [x]).toArray ++ Builtin.zeroCells z.cells (G - 1) = ([x].toArray ++ Array.replicate (G - 1) (z)).map encV := by
    have e0 : ∀ a : Array Value, a.map encV = a := fun a => by
      have : encV = id := rfl
      rw [this, Array.map_id]
    rw [e0, List.nil_append, zeros_one hzc]
  rw [hcells] at hap
  refine ⟨G, [x].toArray ++ Array.replicate (G - 1) (z), _, hap, ⟨by simp, ?_, hGl, ?_, fun j hj => arr_list_at [x] _ _ _ hj⟩, ?_⟩
  · simp; omega
  · exact Holds.new (enc := encV) w.drew E _
  · exact ((Below.refl w.heap.size w).drew).alloc (Nat.le_refl _) _
end Go.Proofs.Ythbgppnhlpjngaa
namespace Go.Proofs.Ythbgppnhlpjngaa.NT
def IsP (n : Nat) : Prop := 2 ≤ n ∧ ∀ m, m ∣ n → m = 1 ∨ m = n
theorem IsP.cop {p k : Nat} (h : IsP p) (h0 : 0 < k) (hk : k < p) : Nat.Coprime p k := by
  unfold Nat.Coprime
  rcases h.2 _ (Nat.gcd_dvd_left p k) with e | e
  · exact e
  · have := Nat.le_of_dvd h0 (Nat.gcd_dvd_right p k)
    omega
theorem IsP.cop_of {p k : Nat} (h : IsP p) (hk : ¬ p ∣ k) : Nat.Coprime p k := by
  unfold Nat.Coprime
  rcases h.2 _ (Nat.gcd_dvd_left p k) with e | e
  · exact e
  · exact absurd (e ▸ Nat.gcd_dvd_right p k) hk
theorem IsP.euclid {p a b : Nat} (h : IsP p) (hd : p ∣ a * b) : p ∣ a ∨ p ∣ b := by
  by_cases ha : p ∣ a
  · exact Or.inl ha
  · exact Or.inr ((h.cop_of ha).dvd_of_dvd_mul_left hd)
/-! the binomials -/
def ch : Nat → Nat → Nat
  | _, 0 => 1
  | 0, _ + 1 => 0
  | n + 1, k + 1 => ch n k + ch n (k + 1)
theorem ch_zero (n : Nat) : ch n 0 = 1 := by cases n <;> rfl
theorem ch_above : ∀ (n k : Nat), n < k → ch n k = 0
  | 0, k + 1, _ => rfl
  | n + 1, k + 1, h => by
    rw [ch, ch_above n k (by omega), ch_above n (k + 1) (by omega)]
theorem ch_self : ∀ (n : Nat), ch n n = 1
  | 0 => rfl
  | n + 1 => by rw [ch, ch_self n, ch_above n (n + 1) (by omega)]
theorem ch_step : ∀ (n k : Nat), (k + 1) * ch (n + 1) (k + 1) = (n + 1) * ch n k
  | 0, 0 => rfl
  | 0, k + 1 => by simp [ch]
  | n + 1, 0 => by
    have h := ch_step n 0
    have e : ch (n + 1 + 1) (0 + 1) = ch (n + 1) 0 + ch (n + 1) (0 + 1) := rfl
    rw [ch_zero] at h
    rw [e, ch_zero]
    omega
  | n + 1, k + 1 => by
    have h1 := ch_step n k
    have h2 := ch_step n (k + 1)
    have e : ch (n + 1 + 1) (k + 1 + 1) = ch (n + 1) (k + 1) + ch (n + 1) (k + 1 + 1) := rfl
    have e3 : ch (n + 1) (k + 1) = ch n k + ch n (k + 1) := rfl
    rw [e, Nat.mul_add, h2]
    have : (k + 1 + 1) * ch (n + 1) (k + 1) = (n + 1) * ch n k + ch (n + 1) (k + 1) := by
      rw [← h1, Nat.add_mul (k + 1) 1, Nat.one_mul]
    rw [this, e3, Nat.add_mul (n + 1) 1, Nat.one_mul, Nat.mul_add]
    omega
def sumTo : Nat → (Nat → Nat) → Nat
  | 0, _ => 0
  | n + 1, f => sumTo n f + f n
theorem sumTo_congr (f g : Nat → Nat) : ∀ n, (∀ k, k < n → f k = g k) → sumTo n f = sumTo n g
  | 0, _ => rfl
  | n + 1, h => by
    rw [sumTo, sumTo, sumTo_congr f g n (fun k hk => h k (by omega)), h n (by omega)]
theorem sumTo_add (f g : Nat → Nat) : ∀ n, sumTo n (fun k => f k + g k) = sumTo n f + sumTo n g
  | 0 => rfl
  | n + 1 => by simp only [sumTo]; rw [sumTo_add f g n]; omega
theorem sumTo_mul (a : Nat) (f : Nat → Nat) : ∀ n, sumTo n (fun k => a * f k) = a * sumTo n f
  | 0 => rfl
  | n + 1 => by simp only [sumTo]; rw [sumTo_mul a f n, Nat.mul_add]
theorem sumTo_front (f : Nat → Nat) : ∀ n, sumTo (n + 1) f = f 0 + sumTo n (fun k => f (k + 1))
  | 0 => by simp [sumTo]
  | n + 1 => by rw [sumTo, sumTo_front f n]; simp only [sumTo]; omega
theorem sumTo_dvd (p : Nat) (f : Nat → Nat) : ∀ n, (∀ k, k < n → p ∣ f k) → p ∣ sumTo n f
  | 0, _ => Nat.dvd_zero p
  | n + 1, h => Nat.dvd_add (sumTo_dvd p f n (fun k hk => h k (by omega))) (h n (by omega))
theorem binom (a : Nat) : ∀ n, (a + 1) ^ n = sumTo (n + 1) (fun k => ch n k * a ^ k)
  | 0 => by simp [sumTo, ch]
  | n + 1 => by
    rw [Nat.pow_succ, binom a n, Nat.mul_add, Nat.mul_one]
    rw [sumTo_front (fun k => ch (n + 1) k * a ^ k) (n + 1)]
    have e : sumTo (n + 1) (fun k => ch (n + 1) (k + 1) * a ^ (k + 1))
        = sumTo (n + 1) (fun k => a * (ch n k * a ^ k)) + sumTo (n + 1) (fun k => ch n (k + 1) * a ^ (k + 1)) := by
      rw [← sumTo_add]
      refine sumTo_congr _ _ _ ?_
      intro k _
      show (ch n k + ch n (k + 1)) * a ^ (k + 1) = _
      rw [Nat.add_mul, Nat.pow_succ]
      have : ch n k * (a ^ k * a) = a * (ch n k * a ^ k) := by
        rw [Nat.mul_comm a, Nat.mul_assoc]
      rw [this]
    rw [e, sumTo_mul]
    have e2 : sumTo (n + 1) (fun k => ch n k * a ^ k)
        = ch n 0 * a ^ 0 + sumTo n (fun k => ch n (k + 1) * a ^ (k + 1)) := sumTo_front (fun k => ch n k * a ^ k) n
    have e3 : sumTo (n + 1) (fun k => ch n (k + 1) * a ^ (k + 1)) = sumTo n (fun k => ch n (k + 1) * a ^ (k + 1)) := by
      rw [sumTo, ch_above n (n + 1) (by omega), Nat.zero_mul, Nat.add_zero]
    have e4 : ch (n + 1) 0 * a ^ 0 = ch n 0 * a ^ 0 := by rw [ch_zero, ch_zero]
    rw [e3, e4, Nat.mul_comm _ a]
    omega
theorem IsP.ch_dvd {p k : Nat} (h : IsP p) (hk : k + 1 < p) : p ∣ ch p (k + 1) := by
  obtain ⟨n, rfl⟩ : ∃ n, p = n + 1 := ⟨p - 1, by have := h.1; omega⟩
  have e := ch_step n k
  have hd : (n + 1) ∣ (k + 1) * ch (n + 1) (k + 1) := e ▸ Nat.dvd_mul_right _ _
  exact (h.cop (by omega) hk).dvd_of_dvd_mul_left hd
theorem IsP.frob {p : Nat} (h : IsP p) (a : Nat) : (a + 1) ^ p % p = (a ^ p + 1) % p := by
  obtain ⟨n, rfl⟩ : ∃ n, p = n + 1 := ⟨p - 1, by have := h.1; omega⟩
  rw [binom, sumTo, sumTo_front, ch_self, ch_zero]
  obtain ⟨c, hc⟩ : (n + 1) ∣ sumTo n (fun k => ch (n + 1) (k + 1) * a ^ (k + 1)) :=
    sumTo_dvd _ _ _ (fun k hk => Nat.dvd_mul_right_of_dvd (h.ch_dvd (by omega)) _)
  rw [hc]
  have : 1 * a ^ 0 + (n + 1) * c + 1 * a ^ (n + 1) = (a ^ (n + 1) + 1) + (n + 1) * c := by
    rw [Nat.pow_zero]; omega
  rw [this, Nat.add_mul_mod_self_left]
theorem IsP.fermat {p : Nat} (h : IsP p) : ∀ a, a ^ p % p = a % p
  | 0 => by
    rw [Nat.zero_pow (by have := h.1; omega)]
  | a + 1 => by
    rw [h.frob, Nat.add_mod, h.fermat a, ← Nat.add_mod]
theorem IsP.cancel {p a x y : Nat} (h : IsP p) (ha : ¬ p ∣ a) (e : a * x % p = a * y % p) : x % p = y % p := by
  have key : ∀ x y, y ≤ x → a * x % p = a * y % p → x % p = y % p := by
    intro x y hle e
    have h1 : p ∣ a * x - a * y := Nat.dvd_of_mod_eq_zero (Nat.sub_mod_eq_zero_of_mod_eq e)
    rw [← Nat.mul_sub] at h1
    obtain ⟨c, hc⟩ := (h.cop_of ha).dvd_of_dvd_mul_left h1
    have : x = y + p * c := by omega
    rw [this, Nat.add_mul_mod_self_left]
  rcases Nat.le_total y x with hle | hle
  · exact key x y hle e
  · exact (key y x hle e.symm).symm
theorem IsP.fermat1 {p : Nat} (h : IsP p) (a : Nat) (ha : ¬ p ∣ a) : a ^ (p - 1) % p = 1 := by
  obtain ⟨n, rfl⟩ : ∃ n, p = n + 1 := ⟨p - 1, by have := h.1; omega⟩
  have e := h.fermat a
  rw [Nat.pow_succ, Nat.mul_comm] at e
  have := h.cancel ha (x := a ^ n) (y := 1) (by rw [e, Nat.mul_one])
  rw [Nat.add_sub_cancel, this, Nat.mod_eq_of_lt h.1]
/-! powers that are 1 -/
theorem pow_gcd (b r : Nat) (hr : 1 < r) (x y : Nat) : b ^ x % r = 1 → b ^ y % r = 1 → b ^ (Nat.gcd x y) % r = 1 := by
  induction x, y using Nat.gcd.induction with
  | H0 n => intro _ h; rw [Nat.gcd_zero_left]; exact h
  | H1 m n hm ih =>
    intro h1 h2
    rw [Nat.gcd_rec]
    refine ih ?_ h1
    have e : b ^ n = (b ^ m) ^ (n / m) * b ^ (n % m) := by
      rw [← Nat.pow_mul, ← Nat.pow_add, Nat.div_add_mod]
    rw [e, Nat.mul_mod, Nat.pow_mod, h1, Nat.one_pow, Nat.mod_eq_of_lt hr, Nat.one_mul, Nat.mod_mod] at h2
    exact h2
theorem exists_prime : ∀ n, 2 ≤ n → ∃ r, IsP r ∧ r ∣ n ∧ (IsP n ∨ r * r ≤ n) := by
  intro n
  induction n using Nat.strongRecOn with
  | _ n ih =>
    intro hn
    by_cases hp : IsP n
    · exact ⟨n, hp, Nat.dvd_refl n, Or.inl hp⟩
    · have : ∃ m, m ∣ n ∧ m ≠ 1 ∧ m ≠ n := by
        refine Classical.byContradiction fun hc => hp ⟨hn, fun m hm => ?_⟩
        refine Classical.byContradiction fun hc2 => hc ⟨m, hm, fun e => hc2 (Or.inl e), fun e => hc2 (Or.inr e)⟩
      obtain ⟨m, ⟨k, hk⟩, h1, h2⟩ := this
      have hm0 : m ≠ 0 := by intro e; rw [e, Nat.zero_mul] at hk; omega
      have hk0 : k ≠ 0 := by intro e; rw [e, Nat.mul_zero] at hk; omega
      have hk1 : k ≠ 1 := by intro e; rw [e, Nat.mul_one] at hk; omega
      have hmn : m < n := by
        have := Nat.le_of_dvd (by omega) (⟨k, hk⟩ : m ∣ n); omega
      have hkn : k < n := by
        have := Nat.mul_le_mul_right k (show 2 ≤ m by omega); omega
      rcases Nat.le_total m k with hle | hle
      · obtain ⟨r, hr, hrd, _⟩ := ih m hmn (by omega)
        have hrm := Nat.le_of_dvd (by omega) hrd
        refine ⟨r, hr, Nat.dvd_trans hrd ⟨k, hk⟩, Or.inr ?_⟩
        rw [hk]; exact Nat.mul_le_mul hrm (Nat.le_trans hrm hle)
      · obtain ⟨r, hr, hrd, _⟩ := ih k hkn (by omega)
        have hrm := Nat.le_of_dvd (by omega) hrd
        refine ⟨r, hr, Nat.dvd_trans hrd ⟨m, by rw [hk, Nat.mul_comm]⟩, Or.inr ?_⟩
        rw [hk]; exact Nat.mul_le_mul (Nat.le_trans hrm hle) hrm
/-! what of a prime of n - 1 goes into the primes of n -/
theorem part {n q a r : Nat} (hq : IsP q) (hr : IsP r) (hrn : r ∣ n) (hn : 1 < n)
    (h1 : a ^ (n - 1) % n = 1) (hd : q ∣ n - 1) (h2 : Nat.gcd (a ^ ((n - 1) / q) % n + (n - 1)) n = 1) : q ∣ r - 1 := by
  have hr2 := hr.1
  have toR : ∀ x y, x % n = y % n → x % r = y % r := by
    intro x y e
    rw [← Nat.mod_mod_of_dvd x hrn, e, Nat.mod_mod_of_dvd y hrn]
  have hm : a ^ (n - 1) % r = 1 := by
    have := toR (a ^ (n - 1)) 1 (by rw [h1, Nat.mod_eq_of_lt hn])
    rw [this, Nat.mod_eq_of_lt hr2]
  have hra : ¬ r ∣ a := by
    intro hc
    have hz : a ^ (n - 1) % r = 0 := Nat.mod_eq_zero_of_dvd (Nat.dvd_trans hc (by
      have : a ^ 1 ∣ a ^ (n - 1) := Nat.pow_dvd_pow a (by omega)
      rwa [Nat.pow_one] at this))
    omega
  have hb : (a ^ ((n - 1) / q)) ^ q % r = 1 := by
    rw [← Nat.pow_mul, Nat.div_mul_cancel hd]; exact hm
  have hbr : ¬ r ∣ a ^ ((n - 1) / q) := by
    intro hc
    have : r ∣ (a ^ ((n - 1) / q)) ^ q := Nat.dvd_trans hc (by
      have : (a ^ ((n - 1) / q)) ^ 1 ∣ (a ^ ((n - 1) / q)) ^ q := Nat.pow_dvd_pow _ (by have := hq.1; omega)
      rwa [Nat.pow_one] at this)
    have := Nat.mod_eq_zero_of_dvd this
    omega
  have hg := pow_gcd _ r hr2 q (r - 1) hb (hr.fermat1 _ hbr)
  rcases hq.2 _ (Nat.gcd_dvd_left q (r - 1)) with e | e
  · rw [e, Nat.pow_one] at hg
    exfalso
    have hx : r ∣ a ^ ((n - 1) / q) % n + (n - 1) := by
      refine Nat.dvd_of_mod_eq_zero ?_
      have e1 : (a ^ ((n - 1) / q) % n) % r = 1 := by rw [Nat.mod_mod_of_dvd _ hrn]; exact hg
      have e2 : (n - 1 + 1) % r = 0 := by
        rw [Nat.sub_add_cancel (by omega)]; exact Nat.mod_eq_zero_of_dvd hrn
      have : (a ^ ((n - 1) / q) % n + (n - 1)) % r = (1 + (n - 1)) % r := by
        rw [Nat.add_mod, e1, Nat.add_mod 1 (n - 1), Nat.mod_eq_of_lt hr2]
      rw [this, Nat.add_comm, e2]
    have := Nat.dvd_gcd hx hrn
    rw [h2] at this
    have := Nat.le_of_dvd (by omega) this
    omega
  · rw [← e]; exact Nat.gcd_dvd_right _ _
theorem pock {n f : Nat} (hn : 1 < n) (hf : n < (f + 1) * (f + 1))
    (hall : ∀ r, IsP r → r ∣ n → f ∣ r - 1) : IsP n := by
  obtain ⟨r, hr, hrn, h | h⟩ := exists_prime n hn
  · exact h
  · have := Nat.le_of_dvd (by have := hr.1; omega) (hall r hr hrn)
    have h2 : f + 1 ≤ r := by have := hr.1; omega
    have := Nat.mul_le_mul h2 h2
    omega
/-! trial -/
def trial (n : Nat) : Nat → Nat → Bool
  | 0, _ => true
  | k + 1, d => (n % d != 0) && trial n k (d + 1)
theorem trial_no (n : Nat) : ∀ k d, trial n k d = true → ∀ m, d ≤ m → m < d + k → ¬ m ∣ n
  | 0, _, _, m, _, _ => by omega
  | k + 1, d, h, m, h1, h2 => by
    simp only [trial, Bool.and_eq_true, bne_iff_ne, ne_eq] at h
    rcases Nat.lt_or_ge d m with hlt | hge
    · exact trial_no n k (d + 1) h.2 m hlt (by omega)
    · have : m = d := by omega
      subst this
      intro hd
      exact h.1 (Nat.mod_eq_zero_of_dvd hd)
theorem small {n k : Nat} (hn : 2 ≤ n) (ht : trial n k 2 = true) (hk : n < (k + 2) * (k + 2)) : IsP n := by
  obtain ⟨r, hr, hrn, h | h⟩ := exists_prime n hn
  · exact h
  · have h2 := hr.1
    have hlt : r < 2 + k := by
      refine Classical.byContradiction fun hc => ?_
      have := Nat.mul_le_mul (show k + 2 ≤ r by omega) (show k + 2 ≤ r by omega)
      omega
    exact absurd hrn (trial_no n k 2 ht r h2 hlt)
/-! powers, reckoned -/
def pm (n : Nat) : Nat → Nat → Nat → Nat → Nat
  | 0, _, _, acc => acc
  | k + 1, a, e, acc => pm n k (a * a % n) (e / 2) (if e % 2 = 1 then acc * a % n else acc)
theorem pm_eq (n : Nat) : ∀ k a e acc, e < 2 ^ k → acc < n → pm n k a e acc = acc * a ^ e % n
  | 0, a, e, acc, h, ha => by
    have : e = 0 := by simpa using h
    subst this
    rw [pm, Nat.pow_zero, Nat.mul_one, Nat.mod_eq_of_lt ha]
  | k + 1, a, e, acc, h, ha => by
    have hn : 0 < n := by omega
    have hacc : (if e % 2 = 1 then acc * a % n else acc) < n := by
      split
      · exact Nat.mod_lt _ hn
      · exact ha
    rw [pm, pm_eq n k _ _ _ (by rw [Nat.pow_succ] at h; omega) hacc]
    have hsq : ∀ y, y * (a * a % n) ^ (e / 2) % n = y * (a * a) ^ (e / 2) % n := by
      intro y
      rw [Nat.mul_mod, ← Nat.pow_mod, ← Nat.mul_mod]
    rw [hsq]
    have he : a ^ e = a ^ (e % 2) * (a * a) ^ (e / 2) := by
      have : (a * a) = a ^ 2 := by rw [Nat.pow_succ, Nat.pow_one]
      rw [this, ← Nat.pow_mul, ← Nat.pow_add, Nat.mod_add_div]
    rw [he]
    split
    · rename_i h1
      rw [h1, Nat.pow_one, Nat.mul_mod, Nat.mod_mod, ← Nat.mul_mod, Nat.mul_assoc]
    · rename_i h1
      have : e % 2 = 0 := by omega
      rw [this, Nat.pow_zero, Nat.one_mul]
theorem part' {n q a r k : Nat} (hq : IsP q) (hr : IsP r) (hrn : r ∣ n) (hn : 1 < n) (hk : n < 2 ^ k)
    (h1 : pm n k a (n - 1) 1 = 1) (hd : (n - 1) % q = 0) (h2 : Nat.gcd (pm n k a ((n - 1) / q) 1 + (n - 1)) n = 1) : q ∣ r - 1 := by
  rw [pm_eq n k a (n - 1) 1 (by omega) hn, Nat.one_mul] at h1
  rw [pm_eq n k a _ 1 (Nat.lt_of_le_of_lt (Nat.div_le_self _ _) (by omega)) hn, Nat.one_mul] at h2
  exact part hq hr hrn hn h1 (Nat.dvd_of_mod_eq_zero hd) h2
/-! the two primes -/
theorem x21 : IsP 1627771 := small (k := 1275) (by decide) (by decide +kernel) (by decide)
theorem x30 : IsP 545358713 := small (k := 23352) (by decide) (by decide +kernel) (by decide)
theorem x26 : IsP 44706919 := small (k := 6686) (by decide) (by decide +kernel) (by decide)
theorem x17 : IsP 120233 := small (k := 346) (by decide) (by decide +kernel) (by decide)
theorem x27 : IsP 107590001 := small (k := 10372) (by decide) (by decide +kernel) (by decide)
theorem x23 : IsP 7240687 := small (k := 2690) (by decide) (by decide +kernel) (by decide)
theorem x16 : IsP 96557 := small (k := 310) (by decide) (by decide +kernel) (by decide)
theorem x39 : IsP 297159362677 :=
  pock (f := 1627771) (by decide) (by decide +kernel) (fun r hr hd => part' (k := 39) (a := 2) x21 hr hd (by decide) (by decide +kernel) (by decide +kernel) (by decide +kernel) (by decide +kernel))
theorem c95 : IsP 29047611873442575647497758179 :=
  pock (f := (545358713 * 297159362677)) (by decide) (by decide +kernel) (fun r hr hd => Nat.Coprime.mul_dvd_of_dvd_of_dvd (by decide +kernel) (part' (k := 95) (a := 2) x30 hr hd (by decide) (by decide +kernel) (by decide +kernel) (by decide +kernel) (by decide +kernel)) (part' (k := 95) (a := 2) x39 hr hd (by decide) (by decide +kernel) (by decide +kernel) (by decide +kernel) (by decide +kernel)))
theorem b68 : IsP 174723607534414371449 :=
  pock (f := (44706919 * 120233)) (by decide) (by decide +kernel) (fun r hr hd => Nat.Coprime.mul_dvd_of_dvd_of_dvd (by decide +kernel) (part' (k := 68) (a := 2) x26 hr hd (by decide) (by decide +kernel) (by decide +kernel) (by decide +kernel) (by decide +kernel)) (part' (k := 68) (a := 2) x17 hr hd (by decide) (by decide +kernel) (by decide +kernel) (by decide +kernel) (by decide +kernel)))
theorem c109 : IsP 341948486974166000522343609283189 :=
  pock (f := 29047611873442575647497758179) (by decide) (by decide +kernel) (fun r hr hd => part' (k := 109) (a := 2) c95 hr hd (by decide) (by decide +kernel) (by decide +kernel) (by decide +kernel) (by decide +kernel))
theorem pN : IsP 115792089237316195423570985008687907852837564279074904382605163141518161494337 :=
  pock (f := (174723607534414371449 * 341948486974166000522343609283189)) (by decide) (by decide +kernel) (fun r hr hd => Nat.Coprime.mul_dvd_of_dvd_of_dvd (by decide +kernel) (part' (k := 256) (a := 2) b68 hr hd (by decide) (by decide +kernel) (by decide +kernel) (by decide +kernel) (by decide +kernel)) (part' (k := 256) (a := 2) c109 hr hd (by decide) (by decide +kernel) (by decide +kernel) (by decide +kernel) (by decide +kernel)))
theorem e128 : IsP 255515944373312847190720520512484175977 :=
  pock (f := (107590001 * 7240687 * 96557)) (by decide) (by decide +kernel) (fun r hr hd => Nat.Coprime.mul_dvd_of_dvd_of_dvd (by decide +kernel) (Nat.Coprime.mul_dvd_of_dvd_of_dvd (by decide +kernel) (part' (k := 128) (a := 2) x27 hr hd (by decide) (by decide +kernel) (by decide +kernel) (by decide +kernel) (by decide +kernel)) (part' (k := 128) (a := 2) x23 hr hd (by decide) (by decide +kernel) (by decide +kernel) (by decide +kernel) (by decide +kernel))) (part' (k := 128) (a := 2) x16 hr hd (by decide) (by decide +kernel) (by decide +kernel) (by decide +kernel) (by decide +kernel)))
theorem q237 : IsP 205115282021455665897114700593932402728804164701536103180137503955397371 :=
  pock (f := 255515944373312847190720520512484175977) (by decide) (by decide +kernel) (fun r hr hd => part' (k := 237) (a := 2) e128 hr hd (by decide) (by decide +kernel) (by decide +kernel) (by decide +kernel) (by decide +kernel))
theorem pP : IsP 115792089237316195423570985008687907853269984665640564039457584007908834671663 :=
  pock (f := 205115282021455665897114700593932402728804164701536103180137503955397371) (by decide) (by decide +kernel) (fun r hr hd => part' (k := 256) (a := 2) q237 hr hd (by decide) (by decide +kernel) (by decide +kernel) (by decide +kernel) (by decide +kernel))
end Go.Proofs.Ythbgppnhlpjngaa.NT
namespace Go.Proofs.Ythbgppnhlpjngaa.EC
/-- A line through two points of the curve (or at one, twice): its slope l. -/
structure Line {P : Nat} [NeZero P] (x1 y1 x2 y2 l : Fin P) : Prop where
  go : y2 = y1 + l * (x2 - x1)
  on : l * (y1 + y2) = x1 ^ 2 + x1 * x2 + x2 ^ 2
variable {P : Nat} [NeZero P]
theorem on_curve (x1 y1 x2 y2 l x4 y4 : Fin P) (h1 : y1 ^ 2 = x1 ^ 3 + 7) (h2 : y2 ^ 2 = x2 ^ 3 + 7) (hl : Line x1 y1 x2 y2 l) (hx : x4 = l ^ 2 - x1 - x2) (hy : y4 = l * (x1 - x4) - y1) : y4 ^ 2 = x4 ^ 3 + 7 := by
  obtain ⟨e, h⟩ := hl
  subst hy hx e
  grobner
set_option maxHeartbeats 40000000 in
set_option maxRecDepth 100000 in
theorem assoc_x (x1 y1 x2 x3 l1 l2 y2 y3 x4 y4 x5 y5 : Fin P) (L1 : Line x1 y1 x2 y2 l1) (L2 : Line x2 y2 x3 y3 l2)
    (e4 : x4 = l1 ^ 2 - x1 - x2) (f4 : y4 = l1 * (x1 - x4) - y1) (e5 : x5 = l2 ^ 2 - x2 - x3) (f5 : y5 = l2 * (x2 - x5) - y2) :
    ((y4 - y3) ^ 2 - (x4 + x3) * (x4 - x3) ^ 2) * (x5 - x1) ^ 2 = ((y5 - y1) ^ 2 - (x1 + x5) * (x5 - x1) ^ 2) * (x4 - x3) ^ 2 := by
  obtain ⟨e2, h2⟩ := L1
  obtain ⟨e3, h3⟩ := L2
  subst f4 f5 e4 e5 e3 e2
  grobner
set_option maxHeartbeats 40000000 in
set_option maxRecDepth 100000 in
theorem assoc_y (x1 y1 x2 x3 l1 l2 y2 y3 x4 y4 x5 y5 : Fin P) (L1 : Line x1 y1 x2 y2 l1) (L2 : Line x2 y2 x3 y3 l2)
    (e4 : x4 = l1 ^ 2 - x1 - x2) (f4 : y4 = l1 * (x1 - x4) - y1) (e5 : x5 = l2 ^ 2 - x2 - x3) (f5 : y5 = l2 * (x2 - x5) - y2) :
    ((y4 - y3) ^ 2 - (x3 + x4) * (x4 - x3) ^ 2) * ((y5 - y1) * (x4 - x3) - (y4 - y3) * (x5 - x1)) + (x4 - x3) ^ 2 * (((y4 - y3) * x3 - y3 * (x4 - x3)) * (x5 - x1) - ((y5 - y1) * x1 - y1 * (x5 - x1)) * (x4 - x3)) = 0 := by
  obtain ⟨e2, h2⟩ := L1
  obtain ⟨e3, h3⟩ := L2
  subst f4 f5 e4 e5 e3 e2
  grobner (ringSteps := 100000000)
set_option maxHeartbeats 40000000 in
set_option maxRecDepth 100000 in
/-- Where C = A + B. -/
theorem assoc_x2 (x1 y1 x2 x3 l1 l2 y2 y3 x5 y5 : Fin P) (L1 : Line x1 y1 x2 y2 l1) (L2 : Line x2 y2 x3 y3 l2)
    (e4 : x3 = l1 ^ 2 - x1 - x2) (f4 : y3 = l1 * (x1 - x3) - y1) (e5 : x5 = l2 ^ 2 - x2 - x3) (f5 : y5 = l2 * (x2 - x5) - y2) :
    (9 * x3 ^ 4 - 8 * x3 * y3 ^ 2) * (x5 - x1) ^ 2 = ((y5 - y1) ^ 2 - (x1 + x5) * (x5 - x1) ^ 2) * (4 * y3 ^ 2) := by
  obtain ⟨e2, h2⟩ := L1
  obtain ⟨e3, h3⟩ := L2
  subst f5 e5 f4 e4 e2
  grobner (ringSteps := 100000000)
set_option maxHeartbeats 40000000 in
set_option maxRecDepth 100000 in
theorem assoc_y2 (x1 y1 x2 x3 l1 l2 y2 y3 x5 y5 : Fin P) (L1 : Line x1 y1 x2 y2 l1) (L2 : Line x2 y2 x3 y3 l2)
    (e4 : x3 = l1 ^ 2 - x1 - x2) (f4 : y3 = l1 * (x1 - x3) - y1) (e5 : x5 = l2 ^ 2 - x2 - x3) (f5 : y5 = l2 * (x2 - x5) - y2) :
    (3 * x3 ^ 2 * (x3 * (4 * y3 ^ 2) - (9 * x3 ^ 4 - 8 * x3 * y3 ^ 2)) - 2 * y3 ^ 2 * (4 * y3 ^ 2)) * (x5 - x1) = ((y5 - y1) * (x1 * (4 * y3 ^ 2) - (9 * x3 ^ 4 - 8 * x3 * y3 ^ 2)) - y1 * (x5 - x1) * (4 * y3 ^ 2)) * (2 * y3) := by
  obtain ⟨e2, h2⟩ := L1
  obtain ⟨e3, h3⟩ := L2
  subst f5 e5 f4 e4 e2
  grobner (ringSteps := 100000000)
end Go.Proofs.Ythbgppnhlpjngaa.EC
namespace Go.Proofs.Ythbgppnhlpjngaa.EC
variable {P : Nat} [NeZero P]
theorem val_zero : (0 : Fin P).val = 0 := by simp
theorem val_one (h : NT.IsP P) : (1 : Fin P).val = 1 := by
  have h2 := h.1
  show 1 % P = 1
  exact Nat.mod_eq_of_lt (by omega)
/-- No product of two that are not 0 is 0. -/
theorem nzd (h : NT.IsP P) {a b : Fin P} (e : a * b = 0) : a = 0 ∨ b = 0 := by
  have h1 : a.val * b.val % P = 0 := by
    have := congrArg Fin.val e
    rw [Fin.val_mul, val_zero] at this
    exact this
  rcases h.euclid (Nat.dvd_of_mod_eq_zero h1) with h2 | h2
  · exact Or.inl (Fin.ext (by rw [val_zero]; exact Nat.eq_zero_of_dvd_of_lt h2 a.isLt))
  · exact Or.inr (Fin.ext (by rw [val_zero]; exact Nat.eq_zero_of_dvd_of_lt h2 b.isLt))
theorem mul_ne (h : NT.IsP P) {a b : Fin P} (ha : a ≠ 0) (hb : b ≠ 0) : a * b ≠ 0 := fun e => (nzd h e).elim ha hb
theorem cancel (h : NT.IsP P) {a b c : Fin P} (ha : a ≠ 0) (e : b * a = c * a) : b = c := by
  have h1 : (b - c) * a = 0 := by grobner
  rcases nzd h h1 with h2 | h2
  · grobner
  · exact absurd h2 ha
/-- The inverse. -/
def inv (a : Fin P) : Fin P := Fin.ofNat P (a.val ^ (P - 2))
theorem inv_mul (h : NT.IsP P) {a : Fin P} (ha : a ≠ 0) : inv a * a = 1 := by
  apply Fin.ext
  have h2 := h.1
  have hn : ¬ P ∣ a.val := fun hd => ha (Fin.ext (by rw [val_zero]; exact Nat.eq_zero_of_dvd_of_lt hd a.isLt))
  rw [Fin.val_mul, val_one h]
  show a.val ^ (P - 2) % P * a.val % P = 1
  rw [Nat.mod_mul_mod, ← Nat.pow_succ, show (P - 2).succ = P - 1 by omega]
  exact h.fermat1 _ hn
end Go.Proofs.Ythbgppnhlpjngaa.EC
namespace Go.Proofs.Ythbgppnhlpjngaa.EC
variable {P : Nat} [NeZero P]
/-- A point, or nothing. -/
abbrev Pt (P : Nat) := Option (Fin P × Fin P)
def On : Pt P → Prop
  | none => True
  | some (x, y) => y ^ 2 = x ^ 3 + 7
def neg : Pt P → Pt P
  | none => none
  | some (x, y) => some (x, -y)
def slope (x1 y1 x2 y2 : Fin P) : Fin P := if x1 = x2 then 3 * x1 ^ 2 * inv (2 * y1) else (y2 - y1) * inv (x2 - x1)
/-- What a slope makes of two points. -/
def third (x1 y1 x2 l : Fin P) : Pt P := some (l ^ 2 - x1 - x2, l * (x1 - (l ^ 2 - x1 - x2)) - y1)
def add : Pt P → Pt P → Pt P
  | none, b => b
  | a, none => a
  | some (x1, y1), some (x2, y2) => if x1 = x2 ∧ y2 = -y1 then none else third x1 y1 x2 (slope x1 y1 x2 y2)
theorem same_y (h : NT.IsP P) {x y1 y2 : Fin P} (h1 : y1 ^ 2 = x ^ 3 + 7) (h2 : y2 ^ 2 = x ^ 3 + 7) (ho : ¬ y2 = -y1) : y2 = y1 := by
  have e : (y2 - y1) * (y2 + y1) = 0 := by grobner
  rcases nzd h e with e | e
  · grobner
  · exact absurd (by grobner) ho
theorem twice_ne {x y1 : Fin P} (h : NT.IsP P) (h2 : (2 : Fin P) ≠ 0) (ho : ¬ (x = x ∧ y1 = -y1)) : 2 * y1 ≠ 0 := fun e => by
  rcases nzd h e with e | e
  · exact h2 e
  · exact ho ⟨rfl, by rw [e]; grobner⟩
theorem slope_line (h : NT.IsP P) (h2 : (2 : Fin P) ≠ 0) {x1 y1 x2 y2 : Fin P} (o1 : y1 ^ 2 = x1 ^ 3 + 7) (o2 : y2 ^ 2 = x2 ^ 3 + 7) (ho : ¬ (x1 = x2 ∧ y2 = -y1)) : Line x1 y1 x2 y2 (slope x1 y1 x2 y2) := by
  unfold slope
  by_cases hx : x1 = x2
  · subst hx
    rw [if_pos rfl]
    have hy := same_y h o1 o2 (fun e => ho ⟨rfl, e⟩)
    subst hy
    have hi := inv_mul h (twice_ne h h2 ho)
    generalize inv (2 * y2) = i at hi
    exact ⟨by grobner, by grobner⟩
  · rw [if_neg hx]
    have hd : x2 - x1 ≠ 0 := fun e => hx (by grobner)
    have hi := inv_mul h hd
    generalize inv (x2 - x1) = i at hi
    refine ⟨by grobner, cancel h hd (by grobner)⟩
theorem line_unique (h : NT.IsP P) (h2 : (2 : Fin P) ≠ 0) {x1 y1 x2 y2 l m : Fin P} (o1 : y1 ^ 2 = x1 ^ 3 + 7) (o2 : y2 ^ 2 = x2 ^ 3 + 7) (ho : ¬ (x1 = x2 ∧ y2 = -y1)) (L : Line x1 y1 x2 y2 l) (M : Line x1 y1 x2 y2 m) : l = m := by
  obtain ⟨a1, b1⟩ := L
  obtain ⟨a2, b2⟩ := M
  by_cases hx : x1 = x2
  · subst hx
    have hy := same_y h o1 o2 (fun e => ho ⟨rfl, e⟩)
    subst hy
    exact cancel h (twice_ne h h2 ho) (by grobner)
  · have hd : x2 - x1 ≠ 0 := fun e => hx (by grobner)
    exact cancel h hd (by grobner)
theorem add_line (h : NT.IsP P) (h2 : (2 : Fin P) ≠ 0) {x1 y1 x2 y2 l : Fin P} (o1 : y1 ^ 2 = x1 ^ 3 + 7) (o2 : y2 ^ 2 = x2 ^ 3 + 7) (ho : ¬ (x1 = x2 ∧ y2 = -y1)) (L : Line x1 y1 x2 y2 l) : add (some (x1, y1)) (some (x2, y2)) = third x1 y1 x2 l := by
  show (if x1 = x2 ∧ y2 = -y1 then none else third x1 y1 x2 (slope x1 y1 x2 y2)) = _
  rw [if_neg ho, line_unique h h2 o1 o2 ho (slope_line h h2 o1 o2 ho) L]
theorem add_opp {x1 y1 x2 y2 : Fin P} (ho : x1 = x2 ∧ y2 = -y1) : add (some (x1, y1)) (some (x2, y2)) = none := by
  show (if x1 = x2 ∧ y2 = -y1 then none else third x1 y1 x2 (slope x1 y1 x2 y2)) = _
  rw [if_pos ho]
theorem add_none (a : Pt P) : add a none = a := by cases a <;> rfl
theorem Line.swap {x1 y1 x2 y2 l : Fin P} (L : Line x1 y1 x2 y2 l) : Line x2 y2 x1 y1 l := by
  obtain ⟨a, b⟩ := L
  exact ⟨by grobner, by grobner⟩
theorem third_swap {x1 y1 x2 y2 l : Fin P} (L : Line x1 y1 x2 y2 l) : third x1 y1 x2 l = third x2 y2 x1 l := by
  obtain ⟨a, b⟩ := L
  unfold third
  have e1 : l ^ 2 - x1 - x2 = l ^ 2 - x2 - x1 := by grobner
  have e2 : l * (x1 - (l ^ 2 - x1 - x2)) - y1 = l * (x2 - (l ^ 2 - x2 - x1)) - y2 := by grobner
  rw [e2, e1]
theorem add_comm (h : NT.IsP P) (h2 : (2 : Fin P) ≠ 0) (a b : Pt P) (ha : On a) (hb : On b) : add a b = add b a := by
  rcases a with _ | ⟨x1, y1⟩
  · rw [add_none]; rfl
  · rcases b with _ | ⟨x2, y2⟩
    · rfl
    · by_cases ho : x1 = x2 ∧ y2 = -y1
      · rw [add_opp ho, add_opp ⟨ho.1.symm, by rw [ho.2]; grobner⟩]
      · have ho' : ¬ (x2 = x1 ∧ y1 = -y2) := fun e => ho ⟨e.1.symm, by rw [e.2]; grobner⟩
        have L := slope_line h h2 ha hb ho
        rw [add_line h h2 ha hb ho L, add_line h h2 hb ha ho' L.swap, third_swap L]
theorem add_on (h : NT.IsP P) (h2 : (2 : Fin P) ≠ 0) (a b : Pt P) (ha : On a) (hb : On b) : On (add a b) := by
  rcases a with _ | ⟨x1, y1⟩
  · exact hb
  · rcases b with _ | ⟨x2, y2⟩
    · exact ha
    · by_cases ho : x1 = x2 ∧ y2 = -y1
      · rw [add_opp ho]; trivial
      · have L := slope_line h h2 ha hb ho
        rw [add_line h h2 ha hb ho L]
        exact on_curve x1 y1 x2 y2 _ _ _ ha hb L rfl rfl
end Go.Proofs.Ythbgppnhlpjngaa.EC
namespace Go.Proofs.Ythbgppnhlpjngaa.EC
variable {P : Nat} [NeZero P]
theorem neg_on {a : Pt P} (h : On a) : On (neg a) := by
  rcases a with _ | ⟨x, y⟩
  · trivial
  · have h' : y ^ 2 = x ^ 3 + 7 := h
    show (-y) ^ 2 = x ^ 3 + 7
    grobner
theorem neg_neg' (a : Pt P) : neg (neg a) = a := by
  rcases a with _ | ⟨x, y⟩
  · rfl
  · show some (x, - -y) = some (x, y)
    have : - -y = y := by grobner
    rw [this]
theorem add_neg (a : Pt P) : add a (neg a) = none := by
  rcases a with _ | ⟨x, y⟩
  · rfl
  · exact add_opp ⟨rfl, rfl⟩
theorem Line.neg {x1 y1 x2 y2 l : Fin P} (L : Line x1 y1 x2 y2 l) : Line x1 (-y1) x2 (-y2) (-l) := by
  obtain ⟨a, b⟩ := L
  exact ⟨by grobner, by grobner⟩
theorem neg_add (h : NT.IsP P) (h2 : (2 : Fin P) ≠ 0) {a b : Pt P} (ha : On a) (hb : On b) : neg (add a b) = add (neg a) (neg b) := by
  rcases a with _ | ⟨x1, y1⟩
  · rfl
  · rcases b with _ | ⟨x2, y2⟩
    · rfl
    · by_cases ho : x1 = x2 ∧ y2 = -y1
      · rw [add_opp ho]
        exact (add_opp ⟨ho.1, by rw [ho.2]⟩).symm
      · have L := slope_line h h2 ha hb ho
        have ho' : ¬ (x1 = x2 ∧ -y2 = - -y1) := fun e => ho ⟨e.1, by have := e.2; grobner⟩
        rw [add_line h h2 ha hb ho L]
        refine Eq.trans ?_ (add_line h h2 (neg_on (a := some (x1, y1)) ha) (neg_on (a := some (x2, y2)) hb) ho' L.neg).symm
        generalize slope x1 y1 x2 y2 = l
        unfold third
        show some (l ^ 2 - x1 - x2, -(l * (x1 - (l ^ 2 - x1 - x2)) - y1)) = some ((-l) ^ 2 - x1 - x2, -l * (x1 - ((-l) ^ 2 - x1 - x2)) - -y1)
        have e1 : (-l) ^ 2 = l ^ 2 := by grobner
        rw [e1]
        have e2 : -(l * (x1 - (l ^ 2 - x1 - x2)) - y1) = -l * (x1 - (l ^ 2 - x1 - x2)) - -y1 := by grobner
        rw [e2]
theorem Line.back {x2 y2 x3 y3 l x5 y5 : Fin P} (L : Line x2 y2 x3 y3 l) (e5 : x5 = l ^ 2 - x2 - x3) (f5 : y5 = l * (x2 - x5) - y2) : Line x2 (-y2) x5 y5 (-l) := by
  obtain ⟨a, b⟩ := L
  subst f5 e5 a
  exact ⟨by grobner, by grobner (ringSteps := 10000000)⟩
theorem back_x {x2 x3 x5 l : Fin P} (e5 : x5 = l ^ 2 - x2 - x3) : (-l) ^ 2 - x2 - x5 = x3 := by
  subst e5
  grobner
theorem back_y {x2 x3 y2 y3 l : Fin P} (a : y3 = y2 + l * (x3 - x2)) : -l * (x2 - x3) - -y2 = y3 := by
  subst a
  grobner
theorem no_y {x y : Fin P} (z : y = 0) (hb : y ^ 2 = x ^ 3 + 7) : x ^ 3 + 7 = 0 := by
  have e : y * y = 0 := by rw [z]; exact Fin.ext (by rw [Fin.val_mul, val_zero]; simp)
  grobner
/-- -B + (B + C) is C. -/
theorem neg_add_add (h : NT.IsP P) (h2 : (2 : Fin P) ≠ 0) (h7 : ∀ x : Fin P, x ^ 3 + 7 ≠ 0) {b c : Pt P} (hb : On b) (hc : On c) : add (neg b) (add b c) = c := by
  rcases b with _ | ⟨x2, y2⟩
  · rfl
  · rcases c with _ | ⟨x3, y3⟩
    · rw [add_none]
      exact add_opp ⟨rfl, by grobner⟩
    · have hb' : y2 ^ 2 = x2 ^ 3 + 7 := hb
      have hc' : y3 ^ 2 = x3 ^ 3 + 7 := hc
      by_cases ho : x2 = x3 ∧ y3 = -y2
      · rw [add_opp ho, add_none, ho.1, ho.2]
        rfl
      · have L := slope_line h h2 hb hc ho
        have hon := on_curve x2 y2 x3 y3 _ _ _ hb hc L rfl rfl
        rw [add_line h h2 hb hc ho L]
        generalize slope x2 y2 x3 y3 = l at L hon
        obtain ⟨x5, e5⟩ : ∃ x5, x5 = l ^ 2 - x2 - x3 := ⟨_, rfl⟩
        unfold third
        rw [← e5] at hon ⊢
        obtain ⟨y5, f5⟩ : ∃ y5, y5 = l * (x2 - x5) - y2 := ⟨_, rfl⟩
        rw [← f5] at hon ⊢
        have M := L.back e5 f5
        have a := L.go
        clear L
        have ho' : ¬ (x2 = x5 ∧ y5 = - -y2) := fun e => by
          obtain ⟨u, v⟩ := e
          have z : 2 * y2 = 0 := by
            clear hon hb' hc' h7 M ho a e5 h2
            grobner
          rcases nzd h z with z | z
          · exact h2 z
          · exact h7 x2 (no_y z hb')
        refine (add_line h h2 (neg_on (a := some (x2, y2)) hb) hon ho' M).trans ?_
        unfold third
        rw [back_x e5, back_y a]
end Go.Proofs.Ythbgppnhlpjngaa.EC
namespace Go.Proofs.Ythbgppnhlpjngaa.EC
variable {P : Nat} [NeZero P]
theorem gen_x (h : NT.IsP P) {x1 x3 x4 x5 y1 y3 y4 y5 l3 l4 : Fin P} (d3 : x4 - x3 ≠ 0) (d4 : x5 - x1 ≠ 0) (g3 : y4 - y3 = l3 * (x4 - x3)) (g4 : y5 - y1 = l4 * (x5 - x1))
    (hx : ((y4 - y3) ^ 2 - (x4 + x3) * (x4 - x3) ^ 2) * (x5 - x1) ^ 2 = ((y5 - y1) ^ 2 - (x1 + x5) * (x5 - x1) ^ 2) * (x4 - x3) ^ 2) : l3 ^ 2 - x4 - x3 = l4 ^ 2 - x1 - x5 := by
  rw [g3, g4] at hx
  generalize x4 - x3 = a at d3 hx
  generalize x5 - x1 = b at d4 hx
  clear g3 g4
  refine cancel h (mul_ne h (mul_ne h d3 d3) (mul_ne h d4 d4)) ?_
  grobner
theorem gen_y (h : NT.IsP P) {x1 x3 x4 x5 y1 y3 y4 y5 l3 l4 X : Fin P} (d3 : x4 - x3 ≠ 0) (d4 : x5 - x1 ≠ 0) (g3 : y4 - y3 = l3 * (x4 - x3)) (g4 : y5 - y1 = l4 * (x5 - x1)) (hX : l3 ^ 2 - x4 - x3 = X)
    (hy : ((y4 - y3) ^ 2 - (x3 + x4) * (x4 - x3) ^ 2) * ((y5 - y1) * (x4 - x3) - (y4 - y3) * (x5 - x1)) + (x4 - x3) ^ 2 * (((y4 - y3) * x3 - y3 * (x4 - x3)) * (x5 - x1) - ((y5 - y1) * x1 - y1 * (x5 - x1)) * (x4 - x3)) = 0) : l3 * (x4 - X) - y4 = l4 * (x1 - X) - y1 := by
  rw [g3, g4] at hy
  have e4 : y4 = y3 + l3 * (x4 - x3) := by clear hy hX; grobner
  have e5 : x4 + x3 = l3 ^ 2 - X := by clear hy; grobner
  rw [e4]
  obtain ⟨a, ha⟩ : ∃ a, x4 - x3 = a := ⟨_, rfl⟩
  rw [ha] at d3 hy ⊢
  generalize x5 - x1 = b at d4 hy
  have e6 : (l4 * (x1 - X) - y1 - (l3 * (x3 - X) - y3)) * (a * a * a * b) = 0 := by
    have e7 : x3 + x4 = l3 ^ 2 - X := by rw [← e5]; clear hy; grobner
    rw [e7] at hy
    clear e5 e7 e4 hX g3 g4 ha
    grobner
  rcases nzd h e6 with e | e
  · have e8 : x4 = x3 + a := by clear hy e6 e e5 e4 hX g3 g4; grobner
    rw [e8]
    clear hy e6 e5 e4 hX g3 g4 ha e8
    grobner
  · exact absurd e (mul_ne h (mul_ne h (mul_ne h d3 d3) d3) d4)
theorem dbl_x (h : NT.IsP P) {x1 x3 x5 y1 y3 y5 l3 l4 : Fin P} (t3 : 2 * y3 ≠ 0) (d4 : x5 - x1 ≠ 0) (g3 : l3 * (2 * y3) = 3 * x3 ^ 2) (g4 : y5 - y1 = l4 * (x5 - x1))
    (hx : (9 * x3 ^ 4 - 8 * x3 * y3 ^ 2) * (x5 - x1) ^ 2 = ((y5 - y1) ^ 2 - (x1 + x5) * (x5 - x1) ^ 2) * (4 * y3 ^ 2)) : l3 ^ 2 - x3 - x3 = l4 ^ 2 - x1 - x5 := by
  rw [g4] at hx
  generalize x5 - x1 = b at d4 hx
  clear g4
  refine cancel h (mul_ne h (mul_ne h t3 t3) (mul_ne h d4 d4)) ?_
  have e : 9 * x3 ^ 4 = (l3 * (2 * y3)) * (l3 * (2 * y3)) := by rw [g3]; clear hx g3; grobner
  rw [e] at hx
  clear e g3
  grobner
theorem dbl_y (h : NT.IsP P) {x1 x3 x5 y1 y3 y5 l3 l4 X : Fin P} (t3 : 2 * y3 ≠ 0) (d4 : x5 - x1 ≠ 0) (g3 : l3 * (2 * y3) = 3 * x3 ^ 2) (g4 : y5 - y1 = l4 * (x5 - x1)) (hX : l3 ^ 2 - x3 - x3 = X)
    (hy : (3 * x3 ^ 2 * (x3 * (4 * y3 ^ 2) - (9 * x3 ^ 4 - 8 * x3 * y3 ^ 2)) - 2 * y3 ^ 2 * (4 * y3 ^ 2)) * (x5 - x1) = ((y5 - y1) * (x1 * (4 * y3 ^ 2) - (9 * x3 ^ 4 - 8 * x3 * y3 ^ 2)) - y1 * (x5 - x1) * (4 * y3 ^ 2)) * (2 * y3)) : l3 * (x3 - X) - y3 = l4 * (x1 - X) - y1 := by
  rw [g4] at hy
  generalize x5 - x1 = b at d4 hy
  clear g4
  have e : 9 * x3 ^ 4 - 8 * x3 * y3 ^ 2 = X * (4 * y3 ^ 2) := by
    have e1 : 9 * x3 ^ 4 = (l3 * (2 * y3)) * (l3 * (2 * y3)) := by rw [g3]; clear hy g3; grobner
    rw [e1, ← hX]
    clear hy e1 g3 hX
    grobner
  rw [e, ← g3] at hy
  clear e g3 hX
  refine cancel h (mul_ne h (mul_ne h (mul_ne h t3 t3) t3) d4) ?_
  grobner
end Go.Proofs.Ythbgppnhlpjngaa.EC
namespace Go.Proofs.Ythbgppnhlpjngaa.EC
variable {P : Nat} [NeZero P]
theorem sub_ne {a b : Fin P} (h : ¬ a = b) : a - b ≠ 0 := fun e => h (by grobner)
theorem Line.run {x1 y1 x2 y2 l : Fin P} (L : Line x1 y1 x2 y2 l) : y2 - y1 = l * (x2 - x1) ∧ y1 - y2 = l * (x1 - x2) := by
  obtain ⟨a, -⟩ := L
  exact ⟨by grobner, by grobner⟩
theorem Line.at {x y l : Fin P} (L : Line x y x y l) : l * (2 * y) = 3 * x ^ 2 := by
  obtain ⟨-, b⟩ := L
  grobner
theorem sq_mul {m l d : Fin P} (s : m ^ 2 = l ^ 2) : (m * d) ^ 2 = (l * d) ^ 2 := by grobner
theorem four_of {y1 y2 : Fin P} (s : (y1 - -y2) ^ 2 = (y1 - y2) ^ 2) : 4 * (y1 * y2) = 0 := by grobner
theorem m_sq {m l x1 x2 x3 : Fin P} (r : m ^ 2 - x2 - x1 = x3) (e : x3 = l ^ 2 - x1 - x2) : m ^ 2 = l ^ 2 := by grobner
theorem sw_e {x l a b : Fin P} (e : x = l ^ 2 - a - b) : x = l ^ 2 - b - a := by grobner
theorem sw_f {x2 y2 x3 y3 x5 y5 l : Fin P} (L : Line x2 y2 x3 y3 l) (f : y5 = l * (x2 - x5) - y2) : y5 = l * (x3 - x5) - y3 := by
  obtain ⟨a, -⟩ := L
  grobner
theorem four_ne (h : NT.IsP P) (h2 : (2 : Fin P) ≠ 0) : (4 : Fin P) ≠ 0 := fun e => by
  have : (2 : Fin P) * 2 = 0 := by grobner
  rcases nzd h this with e | e <;> exact h2 e
theorem opp_swap {y z : Fin P} (e : y = -z) : z = -y := by grobner
/-- Where no sum is nothing, and A is not of the x of B + C. -/
theorem assoc_far (h : NT.IsP P) (h2 : (2 : Fin P) ≠ 0) {x1 y1 x2 y2 x3 y3 l1 l2 x4 y4 x5 y5 : Fin P} (o3 : y3 ^ 2 = x3 ^ 3 + 7) (o1 : y1 ^ 2 = x1 ^ 3 + 7)
    (L1 : Line x1 y1 x2 y2 l1) (L2 : Line x2 y2 x3 y3 l2) (e4 : x4 = l1 ^ 2 - x1 - x2) (f4 : y4 = l1 * (x1 - x4) - y1) (e5 : x5 = l2 ^ 2 - x2 - x3) (f5 : y5 = l2 * (x2 - x5) - y2)
    (o4 : y4 ^ 2 = x4 ^ 3 + 7) (o5 : y5 ^ 2 = x5 ^ 3 + 7) (h3 : ¬ (x4 = x3 ∧ y3 = -y4)) (h4 : ¬ (x1 = x5 ∧ y5 = -y1)) (hx : ¬ x5 = x1) :
    add (some (x4, y4)) (some (x3, y3)) = add (some (x1, y1)) (some (x5, y5)) := by
  have L3 := slope_line h h2 o4 o3 h3
  have L4 := slope_line h h2 o1 o5 h4
  rw [add_line h h2 o4 o3 h3 L3, add_line h h2 o1 o5 h4 L4]
  generalize slope x4 y4 x3 y3 = l3 at L3
  generalize slope x1 y1 x5 y5 = l4 at L4
  unfold third
  by_cases hd : x4 = x3
  · have hy := same_y h o4 (hd ▸ o3) (fun e => h3 ⟨hd, e⟩)
    subst hd hy
    have t := twice_ne (x := x4) h h2 h3
    have hX := dbl_x h t (sub_ne hx) L3.at L4.run.1 (assoc_x2 x1 y1 x2 x4 l1 l2 y2 y3 x5 y5 L1 L2 e4 f4 e5 f5)
    have hY := dbl_y h t (sub_ne hx) L3.at L4.run.1 rfl (assoc_y2 x1 y1 x2 x4 l1 l2 y2 y3 x5 y5 L1 L2 e4 f4 e5 f5)
    rw [hY, hX]
  · have hX := gen_x h (sub_ne hd) (sub_ne hx) L3.run.2 L4.run.1 (assoc_x x1 y1 x2 x3 l1 l2 y2 y3 x4 y4 x5 y5 L1 L2 e4 f4 e5 f5)
    have hY := gen_y h (sub_ne hd) (sub_ne hx) L3.run.2 L4.run.1 rfl (assoc_y x1 y1 x2 x3 l1 l2 y2 y3 x4 y4 x5 y5 L1 L2 e4 f4 e5 f5)
    rw [hY, hX]
/-- THE GROUP LAW: sums do not hang on brackets. -/
theorem add_assoc (h : NT.IsP P) (h2 : (2 : Fin P) ≠ 0) (h7 : ∀ x : Fin P, x ^ 3 + 7 ≠ 0) (a b c : Pt P) (ha : On a) (hb : On b) (hc : On c) : add (add a b) c = add a (add b c) := by
  have comm := fun (a b : Pt P) (ha : On a) (hb : On b) => add_comm h h2 a b ha hb
  have hab := add_on h h2 a b ha hb
  have hbc := add_on h h2 b c hb hc
  have n1 : ∀ {u v : Pt P}, On u → On v → add (neg u) (add u v) = v := fun hu hv => neg_add_add h h2 h7 hu hv
  by_cases z1 : b = neg a
  · subst z1
    rw [add_neg]
    have := n1 hb hc
    rw [neg_neg'] at this
    exact this.symm
  by_cases z2 : c = neg b
  · subst z2
    rw [add_neg, add_none, comm _ _ hab hc, comm a b ha hb]
    exact n1 hb ha
  by_cases z3 : c = neg (add a b)
  · subst z3
    rw [add_neg]
    have e : add b (neg (add a b)) = neg a := by
      rw [comm a b ha hb, neg_add h h2 hb ha]
      have := n1 (neg_on hb) (neg_on ha)
      rw [neg_neg'] at this
      exact this
    rw [e, add_neg]
  by_cases z4 : add b c = neg a
  · rw [z4, add_neg]
    have e : a = neg (add b c) := by rw [z4, neg_neg']
    have e2 : add a b = neg c := by
      rw [comm a b ha hb, e, neg_add h h2 hb hc]
      have := n1 (neg_on hb) (neg_on hc)
      rw [neg_neg'] at this
      exact this
    rw [e2, comm _ _ (neg_on hc) hc, add_neg]
  rcases a with _ | ⟨x1, y1⟩
  · rfl
  rcases b with _ | ⟨x2, y2⟩
  · rfl
  rcases c with _ | ⟨x3, y3⟩
  · rw [add_none, add_none]
  have w1 : ¬ (x1 = x2 ∧ y2 = -y1) := fun e => z1 (by rw [e.1, e.2]; rfl)
  have w2 : ¬ (x2 = x3 ∧ y3 = -y2) := fun e => z2 (by rw [e.1, e.2]; rfl)
  have L1 := slope_line h h2 ha hb w1
  have L2 := slope_line h h2 hb hc w2
  have q1 := add_line h h2 ha hb w1 L1
  have q2 := add_line h h2 hb hc w2 L2
  rw [q1] at hab z3 ⊢
  rw [q2] at hbc z4 ⊢
  generalize slope x1 y1 x2 y2 = l1 at L1 q1 hab z3 ⊢
  generalize slope x2 y2 x3 y3 = l2 at L2 q2 hbc z4 ⊢
  unfold third at hab hbc z3 z4 q1 q2 ⊢
  obtain ⟨x4, e4⟩ : ∃ x4, x4 = l1 ^ 2 - x1 - x2 := ⟨_, rfl⟩
  obtain ⟨x5, e5⟩ : ∃ x5, x5 = l2 ^ 2 - x2 - x3 := ⟨_, rfl⟩
  rw [← e4] at hab z3 q1 ⊢
  rw [← e5] at hbc z4 q2 ⊢
  obtain ⟨y4, f4⟩ : ∃ y4, y4 = l1 * (x1 - x4) - y1 := ⟨_, rfl⟩
  obtain ⟨y5, f5⟩ : ∃ y5, y5 = l2 * (x2 - x5) - y2 := ⟨_, rfl⟩
  rw [← f4] at hab z3 q1 ⊢
  rw [← f5] at hbc z4 q2 ⊢
  have w3 : ¬ (x4 = x3 ∧ y3 = -y4) := fun e => z3 (by rw [e.2, ← e.1]; rfl)
  have w4 : ¬ (x1 = x5 ∧ y5 = -y1) := fun e => z4 (by rw [e.2, ← e.1]; rfl)
  by_cases hx : x5 = x1
  · have hy : y5 = y1 := by
      have o5 : y5 ^ 2 = x5 ^ 3 + 7 := hbc
      rw [hx] at o5
      exact same_y h ha o5 (fun e => w4 ⟨hx.symm, e⟩)
    by_cases hd : x4 = x3
    · exfalso
      have hy4 : y3 = y4 := by
        have o4 : y4 ^ 2 = x4 ^ 3 + 7 := hab
        exact same_y h o4 (hd ▸ hc) (fun e => w3 ⟨hd, e⟩)
      have r1 := n1 hb hc
      rw [q2, hx, hy] at r1
      rw [hd, ← hy4] at q1
      have hne : ¬ x1 = x2 := fun e => by
        subst e
        have hyy := same_y h ha hb (fun e => w1 ⟨rfl, e⟩)
        subst hyy
        rw [comm _ _ (neg_on hb) ha, add_neg] at r1
        cases r1
      have u1 : ¬ (x2 = x1 ∧ y1 = - -y2) := fun e => hne e.1.symm
      have M := slope_line h h2 (neg_on (a := some (x2, y2)) hb) ha u1
      have r2 := add_line h h2 (neg_on (a := some (x2, y2)) hb) ha u1 M
      have r3 : third x2 (-y2) x1 (slope x2 (-y2) x1 y1) = some (x3, y3) := r2.symm.trans r1
      generalize slope x2 (-y2) x1 y1 = m at M r3
      unfold third at r3
      have r4 : m ^ 2 - x2 - x1 = x3 := by injection r3 with r3; injection r3
      have k1 := M.run.1
      have k2 := L1.run.2
      rw [hd] at e4
      have s2 := sq_mul (d := x1 - x2) (m_sq r4 e4)
      rw [← k1, ← k2] at s2
      have k3 := four_of s2
      have hne0 : ∀ {x y : Fin P}, y ^ 2 = x ^ 3 + 7 → y ≠ 0 := fun o z => h7 _ (no_y z o)
      rcases nzd h k3 with e | e
      · exact four_ne h h2 e
      · rcases nzd h e with e | e
        · exact hne0 ha e
        · exact hne0 hb e
    · -- the same, from the other side
      have hF := assoc_far h h2 ha hc L2.swap L1.swap (sw_e e5) (sw_f L2 f5) (sw_e e4) (sw_f L1 f4) hbc hab (fun e => w4 ⟨e.1.symm, opp_swap e.2⟩) (fun e => w3 ⟨e.1.symm, opp_swap e.2⟩) hd
      rw [comm _ _ hab hc, comm _ _ ha hbc]
      exact hF.symm
  · exact assoc_far h h2 hc ha L1 L2 e4 f4 e5 f5 hab hbc w3 w4 hx
end Go.Proofs.Ythbgppnhlpjngaa.EC
