import Derived.Orders
import Derived.Deep.LoopGhost
import Derived.Deep.RegionHeld3
import Derived.Deep.CutRange
import Derived.Deep.DeepCutAuto
import Derived.Laws.MakeOwn
import Derived.ChangeKeysEq
import Derived.Deep.AppendSrc
import Derived.Lib.AppendZeros
import Derived.LoopN
import Derived.Deep.RegionWith
import Derived.BigQuiet
import Derived.Test.YtifkmkllljfeaaaZ3
set_option linter.unusedVariables false
set_option linter.unusedSimpArgs false
set_option linter.unusedVariables false
set_option linter.unusedSimpArgs false
namespace Go.Proofs.Ytifkmkllljfeaaa.RG
open Go Go.RowKit
variable {P : Program} {ops : Array Oper} {Q : Exit → Act → World → Prop} {w0 w : World} {k0 n : Nat} {X : List Nat} {its : List It} {bl : List Bl} {os : List (Tmp × SV)} {a : Act} {i : Nat} {o : Oper} {it : It} {μ : Nat → Nat} {need : List (Tmp × Nat)}
/-- What a slot holds, where operation i looks at it. -/
def src (ops : Array Oper) (its : List It) (os : List (Tmp × SV)) (need : List (Tmp × Nat)) (i : Nat) (t : Tmp) : Option SV :=
  match need.find? (fun x => x.1 == t) with
  | some x => (its[x.2]?).map (·.out)
  | none => match os.find? (fun x => x.1 == t) with
    | some x => bif freeB ops its i t then some x.2 else none
    | none => none
theorem src_eval {t : Tmp} {s : SV} (h : src ops its os need i t = some s) (K : Known ops i its os need μ a) : a.eval (.tmp t) = s.at μ := by
  unfold src at h
  cases hn : need.find? (fun x => x.1 == t) with
  | some x =>
    rw [hn] at h
    dsimp only at h
    have h1 := List.mem_of_find?_eq_some hn
    have h2 : x.1 = t := by simpa using List.find?_some hn
    obtain ⟨jt, hj, rfl⟩ := Option.map_eq_some_iff.1 h
    exact K.op t x.2 (by rw [← h2]; exact h1) hj
  | none =>
    rw [hn] at h
    dsimp only at h
    cases ho : os.find? (fun x => x.1 == t) with
    | none => rw [ho] at h; cases h
    | some x =>
      rw [ho] at h
      dsimp only at h
      have h1 := List.mem_of_find?_eq_some ho
      have h2 : x.1 = t := by simpa using List.find?_some ho
      cases hf : freeB ops its i t with
      | false => rw [hf] at h; cases h
      | true =>
        rw [hf] at h
        obtain rfl : x.2 = s := Option.some.inj h
        exact K.old t x.2 (by rw [← h2]; exact h1) hf
theorem sx {t : Tmp} {f : (Nat → Nat) → Value} (h : ∀ μ : Nat → Nat, (src ops its os need i t).map (fun s => s.at μ) = some (f μ) := by intro _; kernel_rfl) : ∀ (μ : Nat → Nat) (a : Act), Known ops i its os need μ a → a.eval (.tmp t) = f μ := fun μ _ K => by
  obtain ⟨s, hs, he⟩ := Option.map_eq_some_iff.1 (h μ)
  rw [src_eval hs K]
  exact he
def ro (ops : Array Oper) (its : List It) (os : List (Tmp × SV)) (need : List (Tmp × Nat)) (i : Nat) (μ : Nat → Nat) : Operand → Value
  | .tmp t => match src ops its os need i t with | some s => s.at μ | none => undef
  | .const v => v
  | .global g => .pointer (some ⟨g, 0, none⟩)
  | .func f => .func (.func f) #[] #[]
def seen (ops : Array Oper) (its : List It) (os : List (Tmp × SV)) (need : List (Tmp × Nat)) (i : Nat) (o : Oper) : Bool :=
  (match o.op with | .select _ _ => false | _ => true) && o.op.operands.all (fun x => match x with | .tmp t => (src ops its os need i t).isSome | _ => true)
theorem exec_ro (h : seen ops its os need i o = true) (K : Known ops i its os need μ a) : execOp a.eval o = execOp (ro ops its os need i μ) o := by
  simp only [seen, Bool.and_eq_true] at h
  refine execOp_congr o (fun cs b he => ?_) (fun x hx => ?_)
  · rw [he] at h; exact absurd h.1 (by simp)
  · have h1 := Array.all_eq_true'.1 h.2 x hx
    cases x with
    | tmp t =>
      dsimp only at h1
      obtain ⟨s, hs⟩ := Option.isSome_iff_exists.1 h1
      rw [src_eval hs K]
      show _ = (match src ops its os need i t with | some s => s.at μ | none => undef)
      rw [hs]
    | const v => rfl
    | global g => rfl
    | func f => rfl
/-- An operation that the kernel runs. -/
theorem st (h : ∀ (μ : Nat → Nat) (w : World), ((seen ops its os it.need i o, it.kind), (execOp (ro ops its os it.need i μ) o).run P w) = ((true, Kind.stay), .ok (.value (it.out.at μ)) w) := by intro _ _; kernel_rfl) : Cert P Q w0 k0 X ops i its bl os o it := by
  intro μ a w K hK _ hbel
  have h0 := h μ w
  simp only [Prod.mk.injEq] at h0
  rw [h0.1.2]
  intro hK2
  unfold Oper.wp
  rw [exec_ro h0.1.1 hK, h0.2]
  exact hK2
theorem se {v v' : Value} (e : v' = v) (h : ∀ (μ : Nat → Nat) (w : World), ((seen ops its os it.need i o, it.kind, it.out), (execOp (ro ops its os it.need i μ) o).run P w) = ((true, Kind.stay, SV.v v), .ok (.value v') w) := by intro _ _; kernel_rfl) : Cert P Q w0 k0 X ops i its bl os o it := by
  intro μ a w K hK _ hbel
  have h0 := h μ w
  simp only [Prod.mk.injEq] at h0
  rw [h0.1.2.1]
  intro hK2
  rw [h0.1.2.2] at hK2
  unfold Oper.wp
  rw [exec_ro h0.1.1 hK, h0.2, e]
  exact hK2
/-- A new block. -/
theorem mk (b : Nat) (T : TypeId) (h : ∀ (μ : Nat → Nat) (w : World), ((seen ops its os it.need i o, it.kind), (execOp (ro ops its os it.need i μ) o).run P w) = ((true, Kind.make b), .ok (.value (it.out.at (upd μ b w.heap.size))) (w.alloc (.cells (((bl[b]?).map (·.before)).getD []).toArray T))) := by intro _ _; kernel_rfl) : Cert P Q w0 k0 X ops i its bl os o it := by
  intro μ a w K hK _ hbel
  have h0 := h μ w
  simp only [Prod.mk.injEq] at h0
  rw [h0.1.2]
  intro e hb h2
  unfold Oper.wp
  rw [exec_ro h0.1.1 hK, h0.2, hb]
  exact h2 _ _ (Made.alloc w e.before T)
/-- A call. -/
theorem clB {f : FuncId} {args : Array Value} {v : Value} (h : ∀ (μ : Nat → Nat) (w : World), ((seen ops its os it.need i o, it.kind, it.out), (execOp (ro ops its os it.need i μ) o).run P w) = ((true, Kind.call, SV.v v), .ok (.enter f args) w))
    (hc : ∀ w, BelX k0 X w0 w → Calls P f args w (Ret fun e w' => Below w.heap.size w w' ∧ e = v)) : Cert P Q w0 k0 X ops i its bl os o it := by
  intro μ a w K hK _ hbel
  have h0 := h μ w
  simp only [Prod.mk.injEq] at h0
  rw [h0.1.2.1]
  intro hk
  rw [h0.1.2.2] at hk
  unfold Oper.wp
  rw [exec_ro h0.1.1 hK, h0.2, Oper.upon_enter]
  refine (hc w hbel).mono ?_
  rintro e w' ⟨v', rfl, hb, rfl⟩
  exact hk w' hb
theorem cl {f : FuncId} {args : Array Value} {v : Value} (hc : ∀ w, Calls P f args w (Ret fun e w' => Below w.heap.size w w' ∧ e = v)) (h : ∀ (μ : Nat → Nat) (w : World), ((seen ops its os it.need i o, it.kind, it.out), (execOp (ro ops its os it.need i μ) o).run P w) = ((true, Kind.call, SV.v v), .ok (.enter f args) w) := by intro _ _; kernel_rfl) : Cert P Q w0 k0 X ops i its bl os o it :=
  clB h (fun w _ => hc w)
/-- A call that answers new memory. -/
theorem cm (b : Nat) {f : FuncId} {args : Array Value} {c : List Value} (hc : ∀ w, BelX k0 X w0 w → Calls P f args w (Ret fun e w' => ∃ k, Made w k c w' ∧ e = it.out.at (fun _ => k)))
    (h : ∀ (μ : Nat → Nat) (w : World), ((seen ops its os it.need i o, it.kind, (bl[b]?).map (·.before), it.out.blk), (execOp (ro ops its os it.need i μ) o).run P w) = ((true, Kind.make b, some c, some b), .ok (.enter f args) w)) : Cert P Q w0 k0 X ops i its bl os o it := by
  intro μ a w K hK _ hbel
  have h0 := h μ w
  simp only [Prod.mk.injEq] at h0
  obtain ⟨⟨h1, h2, h3, h4⟩, h5⟩ := h0
  rw [h2]
  intro e hb hk
  rw [hb] at h3
  obtain rfl : e.before = c := Option.some.inj h3
  unfold Oper.wp
  rw [exec_ro h1 hK, h5, Oper.upon_enter]
  refine (hc w hbel).mono ?_
  rintro r w' ⟨v', rfl, k, hm, rfl⟩
  have he : it.out.at (upd μ b k) = it.out.at (fun _ => k) := SV.at_congr fun b' hb' => by
    rw [h4] at hb'
    obtain rfl := Option.some.inj hb'
    unfold upd
    rw [if_pos rfl]
  have := hk k w' hm
  rw [he] at this
  exact this
/-- Operation i may read block b. -/
def canRead (ops : Array Oper) (i : Nat) (o : Oper) (bl : List Bl) (b : Nat) : Bool := match bl[b]? with
  | some e => (match e.al with | none => true | some j => depB o j) && readB ops i e
  | none => false
def Seen (bl : List Bl) (bs : List Nat) (μ : Nat → Nat) (w : World) : Prop := ∀ b ∈ bs, ∀ e : Bl, bl[b]? = some e → e.before ≠ [] → w.rangeAt (μ b) 0 e.before ∧ μ b < w.heap.size
theorem seen_of {bs : List Nat} (ho : ops[i]? = some o) (h : bs.all (canRead ops i o bl) = true) (hR : Reads ops i bl μ w) : Seen bl bs μ w := fun b hb e he hne => by
  have h1 := List.all_eq_true.1 h b hb
  unfold canRead at h1
  rw [he] at h1
  dsimp only at h1
  rw [Bool.and_eq_true] at h1
  have hr := hR b e he (by
    cases ha : e.al with
    | none => exact Or.inl rfl
    | some j => rw [ha] at h1; exact Or.inr ⟨o, j, ho, rfl, h1.1⟩) h1.2
  refine ⟨hr, ?_⟩
  cases hee : e.before with
  | nil => exact absurd hee hne
  | cons x r =>
    have h2 := hr 0 x (by rw [hee]; rfl)
    exact Classical.byContradiction fun hn => by
      have h3 : w.heap[μ b]? = none := Array.getElem?_eq_none (by omega)
      simp [World.cell?, h3] at h2
/-- A call that looks at blocks. -/
theorem cr (bs : List Nat) {f : FuncId} {args : (Nat → Nat) → Array Value} {v : Value} (hc : ∀ (μ : Nat → Nat) (w : World), BelX k0 X w0 w → Seen bl bs μ w → Calls P f (args μ) w (Ret fun e w' => Below w.heap.size w w' ∧ e = v))
    (h : ∀ (μ : Nat → Nat) (w : World), ((seen ops its os it.need i o, it.kind, it.out, bs.all (canRead ops i o bl), ops[i]?), (execOp (ro ops its os it.need i μ) o).run P w) = ((true, Kind.call, SV.v v, true, some o), .ok (.enter f (args μ)) w)) : Cert P Q w0 k0 X ops i its bl os o it := by
  intro μ a w K hK hR hbel
  have h0 := h μ w
  simp only [Prod.mk.injEq] at h0
  obtain ⟨⟨h1, h2, h3, h4, h6⟩, h5⟩ := h0
  rw [h2]
  intro hk
  rw [h3] at hk
  unfold Oper.wp
  rw [exec_ro h1 hK, h5, Oper.upon_enter]
  refine (hc μ w hbel (seen_of h6 h4 hR)).mono ?_
  rintro e w' ⟨v', rfl, hb, rfl⟩
  exact hk w' hb
/-- A call that looks at blocks and answers new memory. -/
theorem crm (b : Nat) (bs : List Nat) {f : FuncId} {args : (Nat → Nat) → Array Value} {c : List Value} (hc : ∀ (μ : Nat → Nat) (w : World), BelX k0 X w0 w → Seen bl bs μ w → Calls P f (args μ) w (Ret fun e w' => ∃ k, Made w k c w' ∧ e = it.out.at (fun _ => k)))
    (h : ∀ (μ : Nat → Nat) (w : World), ((seen ops its os it.need i o, it.kind, (bl[b]?).map (·.before), it.out.blk, bs.all (canRead ops i o bl), ops[i]?), (execOp (ro ops its os it.need i μ) o).run P w) = ((true, Kind.make b, some c, some b, true, some o), .ok (.enter f (args μ)) w)) : Cert P Q w0 k0 X ops i its bl os o it := by
  intro μ a w K hK hR hbel
  have h0 := h μ w
  simp only [Prod.mk.injEq] at h0
  obtain ⟨⟨h1, h2, h3, h4, h6, h7⟩, h5⟩ := h0
  rw [h2]
  intro e hb hk
  rw [hb] at h3
  obtain rfl : e.before = c := Option.some.inj h3
  unfold Oper.wp
  rw [exec_ro h1 hK, h5, Oper.upon_enter]
  refine (hc μ w hbel (seen_of h7 h6 hR)).mono ?_
  rintro r w' ⟨v', rfl, k, hm, rfl⟩
  have he : it.out.at (upd μ b k) = it.out.at (fun _ => k) := SV.at_congr fun b' hb' => by
    rw [h4] at hb'
    obtain rfl := Option.some.inj hb'
    unfold upd
    rw [if_pos rfl]
  have := hk k w' hm
  rw [he] at this
  exact this
/-- What a load of a row of n cells gives. -/
def ldv (ops : Array Oper) (its : List It) (bl : List Bl) (os : List (Tmp × SV)) (i : Nat) (o : Oper) (it : It) (T : TypeId) (n : Nat) : Option SV :=
  match it.kind, o.op with
  | .stay, .load T' (.tmp t) => match src ops its os it.need i t with
    | some (.p b off) => match bl[b]? with
      | some e => bif T' == T && e.al.isNone && readB ops i e && (off + n).ble e.before.length then some (.v (.agg ((e.before.drop off).take n).toArray)) else none
      | none => none
    | _ => none
  | _, _ => none
theorem ld {T : TypeId} {n : Nat} (hu : (P.underlying T).map (·.isRow) = some true) (hi : (P.info? T).map (·.size) = some n) (h : ldv ops its bl os i o it T n = some it.out := by kernel_rfl) : Cert P Q w0 k0 X ops i its bl os o it := by
  unfold ldv at h
  split at h
  · rename_i T' t hk ho
    split at h
    · rename_i b off hs
      split at h
      · rename_i e hb
        cases hc : (T' == T && e.al.isNone && readB ops i e && (off + n).ble e.before.length) with
        | false => rw [hc] at h; cases h
        | true =>
          rw [hc] at h
          have h' : some (SV.v (.agg ((e.before.drop off).take n).toArray)) = some it.out := h
          simp only [Bool.and_eq_true, beq_iff_eq, Option.isNone_iff_eq_none, Nat.ble_eq] at hc
          obtain ⟨⟨⟨rfl, hal⟩, hr⟩, hle⟩ := hc
          have hlen : ((e.before.drop off).take n).length = n := by rw [List.length_take, List.length_drop]; omega
          refine cert_load hk b off e hb hal hr T' t ho ((e.before.drop off).take n) (Option.some.inj h').symm (fun _ _ K => src_eval hs K) ?_ hu (by rw [hlen]; exact hi)
          rw [hlen]
      · cases h
    · cases h
  · cases h
/-- What a load of one cell gives. -/
def ldw (ops : Array Oper) (its : List It) (bl : List Bl) (os : List (Tmp × SV)) (i : Nat) (o : Oper) (it : It) (T : TypeId) : Option SV :=
  match it.kind, o.op with
  | .stay, .load T' (.tmp t) => match src ops its os it.need i t with
    | some (.p b off) => match bl[b]? with
      | some e => bif T' == T && e.al.isNone && readB ops i e then (e.before[off]?).map .v else none
      | none => none
    | _ => none
  | _, _ => none
theorem ld1 {T : TypeId} (hu : (P.underlying T).map (·.isRow) = some false) (h : ldw ops its bl os i o it T = some it.out := by kernel_rfl) : Cert P Q w0 k0 X ops i its bl os o it := by
  unfold ldw at h
  split at h
  · rename_i T' t hk ho
    split at h
    · rename_i b off hs
      split at h
      · rename_i e hb
        cases hc : (T' == T && e.al.isNone && readB ops i e) with
        | false => rw [hc] at h; cases h
        | true =>
          rw [hc] at h
          have h' : (e.before[off]?).map SV.v = some it.out := h
          obtain ⟨v, hv, hvo⟩ := Option.map_eq_some_iff.1 h'
          simp only [Bool.and_eq_true, beq_iff_eq, Option.isNone_iff_eq_none] at hc
          obtain ⟨⟨rfl, hal⟩, hr⟩ := hc
          exact cert_load1 hk b off e hb hal hr T' t ho v hvo.symm (fun _ _ K => src_eval hs K) hv hu
      · cases h
    · cases h
  · cases h
/-- What lies in a block behind a store of n cells. -/
def ptv (ops : Array Oper) (its : List It) (bl : List Bl) (os : List (Tmp × SV)) (i : Nat) (o : Oper) (it : It) (T : TypeId) (n : Nat) : Option (List Value) :=
  match it.kind, o.op, o.dst with
  | .put b, .store T' (.tmp x) (.tmp y), none => match src ops its os it.need i x, src ops its os it.need i y with
    | some (.p b' off), some (.v (.agg vs)) => match bl[b]? with
      | some e => bif T' == T && b' == b && vs.size == n && (off + n).ble e.before.length && vs.toList.all (·.oneCell') then some (rep e.before off vs.toList) else none
      | none => none
    | _, _ => none
  | _, _, _ => none
theorem pt {T : TypeId} {n : Nat} (hi : (P.info? T).map (·.size) = some n) (h : ((ptv ops its bl os i o it T n).isSome, ptv ops its bl os i o it T n) = (true, match it.kind with | .put b => (bl[b]?).map (·.after) | _ => none) := by kernel_rfl) : Cert P Q w0 k0 X ops i its bl os o it := by
  simp only [Prod.mk.injEq] at h
  obtain ⟨hso, h⟩ := h
  rw [h] at hso
  unfold ptv at h
  split at h
  · rename_i b T' x y hk ho hdn
    rw [hk] at h hso
    dsimp only at h hso
    cases hb : bl[b]? with
    | none => rw [hb] at hso; cases hso
    | some e =>
      rw [hb] at h
      split at h
      · rename_i b' off vs hx hy
        dsimp only at h
        cases hc : (T' == T && b' == b && vs.size == n && (off + n).ble e.before.length && vs.toList.all (·.oneCell')) with
        | false => rw [hc] at h; cases h
        | true =>
          rw [hc] at h
          have h' : some (rep e.before off vs.toList) = some e.after := h
          simp only [Bool.and_eq_true, beq_iff_eq, Nat.ble_eq] at hc
          obtain ⟨⟨⟨⟨rfl, rfl⟩, hn⟩, hle⟩, h1⟩ := hc
          have hlen : vs.toList.length = n := by rw [Array.length_toList]; exact hn
          refine cert_putAt b' off hk e hb T' (.tmp x) (.tmp y) vs.toList ho hdn (fun _ _ K => src_eval hx K) (fun _ _ K => ?_) (by rw [hlen]; exact hle) (fun j => ?_) (by rw [hlen]; exact hi) h1
          · rw [Array.toArray_toList]; exact src_eval hy K
          · rw [← Option.some.inj h', rep_at (by rw [hlen]; exact hle)]
      · cases h
  · rw [← h] at hso; cases hso
/-- Blocks: those that are there (cs), those that are made (which operation, what lies in it), what is stored (where, which operation, what). -/
def aft (pu : List (Nat × Nat × List Value)) (b : Nat) (c : List Value) : List Value := match pu.find? (fun x => x.1 == b) with | some x => x.2.2 | none => c
def sto (pu : List (Nat × Nat × List Value)) (b : Nat) : Option Nat := (pu.find? (fun x => x.1 == b)).map (·.2.1)
def olB (pu : List (Nat × Nat × List Value)) : Nat → List (List Value) → List Bl
  | _, [] => []
  | b, c :: r => ⟨c, aft pu b c, none, sto pu b⟩ :: olB pu (b + 1) r
def mkB (pu : List (Nat × Nat × List Value)) : Nat → List (Nat × List Value) → List Bl
  | _, [] => []
  | b, c :: r => ⟨c.2, aft pu b c.2, some c.1, sto pu b⟩ :: mkB pu (b + 1) r
def bls (cs : List (List Value)) (mk : List (Nat × List Value)) (pu : List (Nat × Nat × List Value)) : List Bl := olB pu 0 cs ++ mkB pu cs.length mk
theorem olB_len (pu : List (Nat × Nat × List Value)) : ∀ (cs : List (List Value)) (b : Nat), (olB pu b cs).length = cs.length
  | [], _ => rfl
  | c :: r, b => by rw [olB, List.length_cons, olB_len pu r, List.length_cons]
theorem mkB_len (pu : List (Nat × Nat × List Value)) : ∀ (cs : List (Nat × List Value)) (b : Nat), (mkB pu b cs).length = cs.length
  | [], _ => rfl
  | c :: r, b => by rw [mkB, List.length_cons, mkB_len pu r, List.length_cons]
theorem olB_before (pu : List (Nat × Nat × List Value)) : ∀ (cs : List (List Value)) (b : Nat), (olB pu b cs).map (·.before) = cs
  | [], _ => rfl
  | c :: r, b => by rw [olB, List.map_cons, olB_before pu r]
theorem mkB_before (pu : List (Nat × Nat × List Value)) : ∀ (cs : List (Nat × List Value)) (b : Nat), (mkB pu b cs).map (·.before) = cs.map (·.2)
  | [], _ => rfl
  | c :: r, b => by rw [mkB, List.map_cons, mkB_before pu r, List.map_cons]
theorem olB_get (pu : List (Nat × Nat × List Value)) : ∀ (cs : List (List Value)) (b j : Nat) (e : Bl), (olB pu b cs)[j]? = some e → e.al = none ∧ e.after = aft pu (b + j) e.before ∧ e.st = sto pu (b + j)
  | [], _, _, _, h => by simp [olB] at h
  | c :: r, b, 0, e, h => by
    rw [olB, List.getElem?_cons_zero] at h
    obtain rfl := Option.some.inj h
    exact ⟨rfl, rfl, rfl⟩
  | c :: r, b, j + 1, e, h => by
    rw [olB, List.getElem?_cons_succ] at h
    have := olB_get pu r (b + 1) j e h
    rwa [show b + 1 + j = b + (j + 1) by omega] at this
theorem mkB_get (pu : List (Nat × Nat × List Value)) : ∀ (cs : List (Nat × List Value)) (b j : Nat) (e : Bl), (mkB pu b cs)[j]? = some e → (∃ x ∈ cs, e.al = some x.1) ∧ e.after = aft pu (b + j) e.before ∧ e.st = sto pu (b + j)
  | [], _, _, _, h => by simp [mkB] at h
  | c :: r, b, 0, e, h => by
    rw [mkB, List.getElem?_cons_zero] at h
    obtain rfl := Option.some.inj h
    exact ⟨⟨c, List.mem_cons_self, rfl⟩, rfl, rfl⟩
  | c :: r, b, j + 1, e, h => by
    rw [mkB, List.getElem?_cons_succ] at h
    obtain ⟨⟨x, hx, h1⟩, h2⟩ := mkB_get pu r (b + 1) j e h
    refine ⟨⟨x, List.mem_cons_of_mem _ hx, h1⟩, ?_⟩
    rwa [show b + 1 + j = b + (j + 1) by omega] at h2
variable {cs cs' : List (List Value)} {mk : List (Nat × List Value)} {pu : List (Nat × Nat × List Value)} {ks : List Nat}
theorem bls_len : (bls cs mk pu).length = cs.length + mk.length := by rw [bls, List.length_append, olB_len, mkB_len]
theorem bls_before : (bls cs mk pu).map (·.before) = cs ++ mk.map (·.2) := by rw [bls, List.map_append, olB_before, mkB_before]
theorem bls_get {b : Nat} {e : Bl} (h : (bls cs mk pu)[b]? = some e) : e.after = aft pu b e.before ∧ e.st = sto pu b ∧ ((b < cs.length ∧ e.al = none) ∨ (cs.length ≤ b ∧ ∃ x ∈ mk, e.al = some x.1)) := by
  unfold bls at h
  by_cases hb : b < cs.length
  · rw [List.getElem?_append_left (by rw [olB_len]; exact hb)] at h
    have := olB_get pu cs 0 b e h
    rw [Nat.zero_add] at this
    exact ⟨this.2.1, this.2.2, Or.inl ⟨hb, this.1⟩⟩
  · rw [List.getElem?_append_right (by rw [olB_len]; omega), olB_len] at h
    have := mkB_get pu mk cs.length (b - cs.length) e h
    rw [show cs.length + (b - cs.length) = b by omega] at this
    exact ⟨this.2.1, this.2.2, Or.inr ⟨by omega, this.1⟩⟩
theorem bls_start : startB (bls cs mk pu) cs.length = true := by
  simp only [startB, Bool.and_eq_true, decide_eq_true_eq]
  refine ⟨List.all_eq_true.2 fun x hx => ?_, by rw [bls_len]; omega⟩
  rw [List.mem_zipIdx_iff_getElem?] at hx
  rcases (bls_get hx).2.2 with ⟨h1, h2⟩ | ⟨h1, y, -, h2⟩
  · rw [h2]; simp [h1]
  · rw [h2]; simp; omega
def inB (m : Nat) (mk : List (Nat × List Value)) (pu : List (Nat × Nat × List Value)) : Bool := mk.all (fun x => x.1.blt m) && pu.all (fun x => x.2.1.blt m)
theorem bls_end (h : inB its.length mk pu = true) (hl : pu.map (fun x => x.2.2.length) = pu.map (fun x => (((cs ++ mk.map (·.2))[x.1]?).getD []).length)) :
    (∀ e ∈ bls cs mk pu, ∀ j, e.al = some j ∨ e.st = some j → j < its.length) ∧ ∀ e ∈ bls cs mk pu, e.fin.length = e.before.length := by
  simp only [inB, Bool.and_eq_true] at h
  refine ⟨fun e he j hj => ?_, fun e he => ?_⟩
  · obtain ⟨b, hb⟩ := List.getElem?_of_mem he
    obtain ⟨h1, h2, h3⟩ := bls_get hb
    rcases hj with hj | hj
    · rcases h3 with ⟨-, h4⟩ | ⟨-, x, hx, h4⟩
      · rw [h4] at hj; cases hj
      · rw [h4] at hj
        obtain rfl := Option.some.inj hj
        have := List.all_eq_true.1 h.1 x hx
        exact Nat.lt_of_succ_le (Nat.le_of_ble_eq_true this)
    · rw [h2] at hj
      unfold sto at hj
      obtain ⟨x, hx, rfl⟩ := Option.map_eq_some_iff.1 hj
      have := List.all_eq_true.1 h.2 x (List.mem_of_find?_eq_some hx)
      exact Nat.lt_of_succ_le (Nat.le_of_ble_eq_true this)
  · obtain ⟨b, hb⟩ := List.getElem?_of_mem he
    obtain ⟨h1, h2, -⟩ := bls_get hb
    unfold Bl.fin
    rw [h2, h1]
    unfold sto aft
    cases hp : pu.find? (fun x => x.1 == b) with
    | none => rfl
    | some x =>
      show x.2.2.length = _
      have hm := List.mem_of_find?_eq_some hp
      have hx : x.1 = b := by simpa using List.find?_some hp
      have h5 := List.map_inj_left.1 hl x hm
      rw [h5, ← bls_before (pu := pu), hx, List.getElem?_map, hb]
      rfl
/-- What a slot holds behind a region. -/
def lk (its : List It) (os : List (Tmp × SV)) (t : Tmp) : Option SV :=
  match its.find? (fun it => it.dst == some t) with
  | some it => some it.out
  | none => (os.find? (fun x => x.1 == t)).map (·.2)
/-- THE MACHINE: the blocks, the slots. -/
structure M (w0 : World) (k0 : Nat) (X : List Nat) (n : Nat) (cs : List (List Value)) (ks : List Nat) (os : List (Tmp × SV)) (a : Act) (w : World) : Prop where
  st : St w0 k0 X cs ks w
  sl : Sl a n
  os : Olds a (ad ks) os
def All : Nat → (List Nat → Prop) → Prop
  | 0, f => f []
  | n + 1, f => ∀ k : Nat, All n fun l => f (k :: l)
theorem All.get : ∀ {n : Nat} {f : List Nat → Prop}, All n f → ∀ l : List Nat, l.length = n → f l
  | 0, f, h, l, hl => by rw [List.length_eq_zero_iff.1 hl]; exact h
  | n + 1, f, h, [], hl => by simp at hl
  | n + 1, f, h, k :: l, hl => All.get (h k) l (by simpa using hl)
theorem at_more {s : SV} {new : List Nat} (h : ∀ b, s.blk = some b → b < ks.length) : s.at (ad (ks ++ new)) = s.at (ad ks) := SV.at_congr fun b hb => by
  unfold ad
  rw [List.getD_eq_getElem?_getD, List.getD_eq_getElem?_getD, List.getElem?_append_left (h b hb)]
theorem Olds.mk' {μ : Nat → Nat} : ∀ {l : List (Tmp × SV)}, (∀ x ∈ l, a.tmps[x.1]? = some (x.2.at μ)) → Olds a μ l
  | [], _ => trivial
  | x :: r, h => ⟨h x List.mem_cons_self, Olds.mk' fun y hy => h y (List.mem_cons_of_mem _ hy)⟩
theorem M.next {os' : List (Tmp × SV)} {new : List Nat} {w' : World} (h : M w0 k0 X n cs ks os a w) (hall : allB ops its (bls cs mk pu) os n = true) (hlk : (os'.map fun x => lk its os x.1) = os'.map fun x => some x.2)
    (hS : St w0 k0 X cs' (ks ++ new) w') : M w0 k0 X n cs' (ks ++ new) os' (puts (ad (ks ++ new)) its a) w' := by
  refine ⟨hS, h.sl.puts, Olds.mk' fun x hx => ?_⟩
  have h1 := List.map_inj_left.1 hlk x hx
  simp only [allB, Bool.and_eq_true, beq_iff_eq] at hall
  obtain ⟨⟨⟨⟨hsz, hd⟩, hold⟩, hin⟩, hok⟩ := hall
  unfold lk at h1
  cases hf : its.find? (fun it => it.dst == some x.1) with
  | some it =>
    rw [hf] at h1
    have hm := List.mem_of_find?_eq_some hf
    have hdt : it.dst = some x.1 := by simpa using List.find?_some hf
    obtain ⟨j, hj⟩ := List.getElem?_of_mem hm
    have hlt := List.all_eq_true.1 hin it hm
    rw [hdt] at hlt
    have := puts_same (ad (ks ++ new)) its a j it x.1 hd hj hdt (by rw [h.sl.size]; simpa using hlt)
    rw [this, ← Option.some.inj h1]
  | none =>
    rw [hf] at h1
    obtain ⟨y, hy, hyx⟩ := Option.map_eq_some_iff.1 h1
    have hm := List.mem_of_find?_eq_some hy
    have hyt : y.1 = x.1 := by simpa using List.find?_some hy
    have h2 := h.os.get y.1 y.2 hm
    rw [puts_other _ its a x.1 (fun it hit hdd => by
      have := List.find?_eq_none.1 hf it hit
      rw [hdd] at this
      simp at this), ← hyt, h2, ← hyx]
    congr 1
    refine (at_more fun b hb => ?_).symm
    have h3 := List.all_eq_true.1 hold y hm
    rw [hb] at h3
    dsimp only at h3
    cases he : (bls cs mk pu)[b]? with
    | none => rw [he] at h3; cases h3
    | some e =>
      rw [he] at h3
      rcases (bls_get he).2.2 with ⟨h4, -⟩ | ⟨-, z, -, h5⟩
      · rw [h.st.len]; exact h4
      · dsimp only at h3; rw [h5] at h3; simp at h3
theorem M.reg (h : M w0 k0 X n cs ks os a w) (hall : allB ops its (bls cs mk pu) os n = true) (hc : Certs P Q w0 k0 X ops its (bls cs mk pu) os 0 ops.toList its) : Reg P ops Q w0 k0 X its (bls cs mk pu) os a (ad ks) :=
  Reg.mk' (by rw [h.sl.size]; exact hall) h.os hc
theorem bls_take : ((bls cs mk pu).map (·.before)).take cs.length = cs := by rw [bls_before, List.take_left']; rfl
/-- A region in the order of its text. -/
theorem M.tx {id : Nat} (h : M w0 k0 X n cs ks os a w) (its : List It) (mk : List (Nat × List Value)) (pu : List (Nat × Nat × List Value)) (cs' : List (List Value)) (os' : List (Tmp × SV))
    (hk : (allB ops its (bls cs mk pu) os n && inB its.length mk pu, (bls cs mk pu).map Bl.fin, os'.map fun x => lk its os x.1) = (true, cs', os'.map fun x => some x.2))
    (hl : pu.map (fun x => x.2.2.length) = pu.map (fun x => (((cs ++ mk.map (·.2))[x.1]?).getD []).length))
    (hc : Certs P Q w0 k0 X ops its (bls cs mk pu) os 0 ops.toList its)
    (hp : All mk.length fun new => ∀ a' w', M w0 k0 X n cs' (ks ++ new) os' a' w' → Q .normal a' w') : (Code.region id ops false).wp P Q a w := by
  simp only [Prod.mk.injEq, Bool.and_eq_true] at hk
  obtain ⟨⟨h1, h2⟩, h3, h4⟩ := hk
  refine region_text' h.st (h.reg h1 hc) bls_start bls_take (bls_end h2 hl) fun new w' hn hS => ?_
  rw [bls_len, Nat.add_sub_cancel_left] at hn
  exact hp.get new hn _ _ (h.next h1 h4 (h3 ▸ hS))
/-- A region that draws its order. -/
theorem M.dr {id : Nat} (h : M w0 k0 X n cs ks os a w) (hm : P.follows .mixedOrders = true) (its : List It) (mk : List (Nat × List Value)) (pu : List (Nat × Nat × List Value)) (cs' : List (List Value)) (os' : List (Tmp × SV))
    (hk : (allB ops its (bls cs mk pu) os n && inB its.length mk pu, (bls cs mk pu).map Bl.fin, os'.map fun x => lk its os x.1) = (true, cs', os'.map fun x => some x.2))
    (hl : pu.map (fun x => x.2.2.length) = pu.map (fun x => (((cs ++ mk.map (·.2))[x.1]?).getD []).length))
    (hc : Certs P Q w0 k0 X ops its (bls cs mk pu) os 0 ops.toList its)
    (hp : All mk.length fun new => ∀ a' w', M w0 k0 X n cs' (ks ++ new) os' a' w' → Q .normal a' w') : (Code.region id ops true).wp P Q a w := by
  simp only [Prod.mk.injEq, Bool.and_eq_true] at hk
  obtain ⟨⟨h1, h2⟩, h3, h4⟩ := hk
  refine region_draws' hm h.st (h.reg h1 hc) bls_start bls_take (bls_end h2 hl) fun new w' hn hS => ?_
  rw [bls_len, Nat.add_sub_cancel_left] at hn
  exact hp.get new hn _ _ (h.next h1 h4 (h3 ▸ hS))
theorem bls_nil : (bls cs [] []).map Bl.fin = cs := by
  have h : ∀ (cs : List (List Value)) (b : Nat), (olB [] b cs).map Bl.fin = cs := fun cs => by
    induction cs with
    | nil => intro _; rfl
    | cons c r ih => intro b; rw [olB, List.map_cons, ih]; rfl
  rw [bls, List.map_append, h]
  exact List.append_nil _
theorem M.tx0 {id : Nat} (h : M w0 k0 X n cs ks os a w) (its : List It) (os' : List (Tmp × SV)) (hk : (allB ops its (bls cs [] []) os n, os'.map fun x => lk its os x.1) = (true, os'.map fun x => some x.2))
    (hc : Certs P Q w0 k0 X ops its (bls cs [] []) os 0 ops.toList its) (hp : ∀ a' w', M w0 k0 X n cs ks os' a' w' → Q .normal a' w') : (Code.region id ops false).wp P Q a w := by
  simp only [Prod.mk.injEq] at hk
  refine h.tx its [] [] cs os' (by simp only [hk.1, hk.2, bls_nil]; rfl) rfl hc (fun a' w' hM => hp a' w' ?_)
  rwa [List.append_nil] at hM
theorem M.dr0 {id : Nat} (h : M w0 k0 X n cs ks os a w) (hm : P.follows .mixedOrders = true) (its : List It) (os' : List (Tmp × SV)) (hk : (allB ops its (bls cs [] []) os n, os'.map fun x => lk its os x.1) = (true, os'.map fun x => some x.2))
    (hc : Certs P Q w0 k0 X ops its (bls cs [] []) os 0 ops.toList its) (hp : ∀ a' w', M w0 k0 X n cs ks os' a' w' → Q .normal a' w') : (Code.region id ops true).wp P Q a w := by
  simp only [Prod.mk.injEq] at hk
  refine h.dr hm its [] [] cs os' (by simp only [hk.1, hk.2, bls_nil]; rfl) rfl hc (fun a' w' hM => hp a' w' ?_)
  rwa [List.append_nil] at hM
/-- The same, with what the kernel finds by itself behind. -/
theorem M.t {id : Nat} (h : M w0 k0 X n cs ks os a w) (its : List It) (mk : List (Nat × List Value)) (pu : List (Nat × Nat × List Value)) (cs' : List (List Value)) (os' : List (Tmp × SV)) (hc : Certs P Q w0 k0 X ops its (bls cs mk pu) os 0 ops.toList its) (hp : All mk.length fun new => ∀ a' w', M w0 k0 X n cs' (ks ++ new) os' a' w' → Q .normal a' w') (hk : (allB ops its (bls cs mk pu) os n && inB its.length mk pu, (bls cs mk pu).map Bl.fin, os'.map fun x => lk its os x.1) = (true, cs', os'.map fun x => some x.2) := by kernel_rfl) (hl : pu.map (fun x => x.2.2.length) = pu.map (fun x => (((cs ++ mk.map (·.2))[x.1]?).getD []).length) := by kernel_rfl) : (Code.region id ops false).wp P Q a w := h.tx its mk pu cs' os' hk hl hc hp
theorem M.d {id : Nat} (h : M w0 k0 X n cs ks os a w) (its : List It) (mk : List (Nat × List Value)) (pu : List (Nat × Nat × List Value)) (cs' : List (List Value)) (os' : List (Tmp × SV)) (hc : Certs P Q w0 k0 X ops its (bls cs mk pu) os 0 ops.toList its) (hp : All mk.length fun new => ∀ a' w', M w0 k0 X n cs' (ks ++ new) os' a' w' → Q .normal a' w') (hk : (allB ops its (bls cs mk pu) os n && inB its.length mk pu, (bls cs mk pu).map Bl.fin, os'.map fun x => lk its os x.1) = (true, cs', os'.map fun x => some x.2) := by kernel_rfl) (hl : pu.map (fun x => x.2.2.length) = pu.map (fun x => (((cs ++ mk.map (·.2))[x.1]?).getD []).length) := by kernel_rfl) (hm : P.follows .mixedOrders = true := by kernel_rfl) : (Code.region id ops true).wp P Q a w := h.dr hm its mk pu cs' os' hk hl hc hp
theorem M.u {id : Nat} (h : M w0 k0 X n cs ks os a w) (its : List It) (os' : List (Tmp × SV)) (hc : Certs P Q w0 k0 X ops its (bls cs [] []) os 0 ops.toList its) (hp : ∀ a' w', M w0 k0 X n cs ks os' a' w' → Q .normal a' w') (hk : (allB ops its (bls cs [] []) os n, os'.map fun x => lk its os x.1) = (true, os'.map fun x => some x.2) := by kernel_rfl) : (Code.region id ops false).wp P Q a w := h.tx0 its os' hk hc hp
theorem M.e {id : Nat} (h : M w0 k0 X n cs ks os a w) (its : List It) (os' : List (Tmp × SV)) (hc : Certs P Q w0 k0 X ops its (bls cs [] []) os 0 ops.toList its) (hp : ∀ a' w', M w0 k0 X n cs ks os' a' w' → Q .normal a' w') (hk : (allB ops its (bls cs [] []) os n, os'.map fun x => lk its os x.1) = (true, os'.map fun x => some x.2) := by kernel_rfl) (hm : P.follows .mixedOrders = true := by kernel_rfl) : (Code.region id ops true).wp P Q a w := h.dr0 hm its os' hk hc hp
theorem M.at (h : M w0 k0 X n cs ks os a w) {t : Tmp} {s : SV} (hs : (os.find? (fun x => x.1 == t)).map (·.2) = some s := by kernel_rfl) : a.tmps[t]? = some (s.at (ad ks)) := by
  obtain ⟨y, hy, rfl⟩ := Option.map_eq_some_iff.1 hs
  have hyt : y.1 = t := by simpa using List.find?_some hy
  rw [← hyt]
  exact h.os.get y.1 y.2 (List.mem_of_find?_eq_some hy)
theorem St.made {w w' : World} {cs : List (List Value)} {ks : List Nat} (h : St w w.heap.size [] cs ks w') {b : Nat} {c : List Value} (hb : cs[b]? = some c) : Made w (ad ks b) c w' := by
  obtain ⟨h1, h2, h3, h4⟩ := h.has b c hb
  exact ⟨h.bel.below, h4.elim id (fun h => absurd h List.not_mem_nil), h3, h1, h2⟩
theorem M.av (h : M w0 k0 X n cs ks os a w) {t : Tmp} {v : Value} (hs : (os.find? (fun x => x.1 == t)).map (·.2) = some (.v v) := by kernel_rfl) : a.tmps[t]? = some v := h.at hs
theorem M.ev (h : M w0 k0 X n cs ks os a w) {t : Tmp} {v : Value} (hs : (os.find? (fun x => x.1 == t)).map (·.2) = some (.v v) := by kernel_rfl) : a.eval (.tmp t) = v := eval_of (h.at hs)
/-- A call begins. -/
theorem M.enter {c : Code} (os : List (Tmp × SV)) (n : Nat) (h : (os.map fun x => a.tmps[x.1]?, a.tmps.size, a.defers) = (os.map fun x => some (x.2.at (ad [])), n, [])) (hp : ∀ a, M w w.heap.size [] n [] [] os a w → c.wp P Q a w) : c.wp P Q a w := by
  simp only [Prod.mk.injEq] at h
  exact hp a ⟨St.begin w, ⟨h.2.1, h.2.2⟩, Olds.mk' fun x hx => List.map_inj_left.1 h.1 x hx⟩
/-- Blocks that nobody asks for any more. -/
theorem M.drop {w0 w : World} {k0 n : Nat} {X : List Nat} {cs cs2 : List (List Value)} {ks ks2 : List Nat} {os : List (Tmp × SV)} {a : Act} (h : M w0 k0 X n (cs ++ cs2) (ks ++ ks2) os a w) (hl : ks.length = cs.length)
    (ho : os.all (fun x => match x.2.blk with | none => true | some b => b.blt cs.length) = true) : M w0 k0 X n cs ks os a w := by
  have had : ∀ b, b < cs.length → ad (ks ++ ks2) b = ad ks b := fun b hb => by
    unfold ad
    rw [List.getD_eq_getElem?_getD, List.getD_eq_getElem?_getD, List.getElem?_append_left (by omega)]
  refine ⟨⟨h.st.bel, h.st.le, hl, fun b c hb => ?_, fun b c hb hc hne => ?_⟩, h.sl, Olds.mk' fun x hx => ?_⟩
  · have hlt := (List.getElem?_eq_some_iff.1 hb).1
    have := h.st.has b c (by rw [List.getElem?_append_left hlt]; exact hb)
    rwa [had b hlt] at this
  · have := h.st.inj b c (by rw [List.length_append]; omega) (by rw [List.length_append]; omega) hne
    rwa [had b hb, had c hc] at this
  · rw [h.os.get x.1 x.2 hx]
    congr 1
    refine SV.at_congr fun b hb => ?_
    have h1 := List.all_eq_true.1 ho x hx
    rw [hb] at h1
    exact had b (Nat.lt_of_succ_le (Nat.le_of_ble_eq_true h1))
/-- n words that are 0. -/
abbrev z (n : Nat) : List Value := List.replicate n (.int .u64 0)
def It.s (d : Tmp) (need : List (Tmp × Nat)) (out : SV) : It := ⟨some d, need, out, .stay⟩
def It.x (d : Tmp) (need : List (Tmp × Nat)) (v : Value) : It := ⟨some d, need, .v v, .stay⟩
def It.c (d : Tmp) (need : List (Tmp × Nat)) (v : Value) : It := ⟨some d, need, .v v, .call⟩
def It.m (d : Tmp) (need : List (Tmp × Nat)) (b : Nat) : It := ⟨some d, need, .p b 0, .make b⟩
def It.u (need : List (Tmp × Nat)) (b : Nat) : It := ⟨none, need, .v undef, .put b⟩
end Go.Proofs.Ytifkmkllljfeaaa.RG
namespace Go.Proofs.Ytifkmkllljfeaaa
open Go.RowKit Go.Sort
variable {P : Nat} [NeZero P]
omit [NeZero P] in
theorem Gives.e {f : FuncId} {args : Array Value} {x c : Fin P} (h : Gives f args (fv x)) (e : c = x) : Gives f args (fv c) := e ▸ h
omit [NeZero P] in
theorem Gives.e3 {f : FuncId} {args : Array Value} {x y z a b c : Fin P} (h : Gives f args (rv x y z)) (e : a = x) (e' : b = y) (e'' : c = z) : Gives f args (rv a b c) := e ▸ e' ▸ e'' ▸ h
theorem wn_inj {m n : Nat} (hm : m < top) (hn : n < top) : (m % 18446744073709551616 = n % 18446744073709551616 ∧ m / 18446744073709551616 % 18446744073709551616 = n / 18446744073709551616 % 18446744073709551616 ∧ m / 340282366920938463463374607431768211456 % 18446744073709551616 = n / 340282366920938463463374607431768211456 % 18446744073709551616 ∧ m / 6277101735386680763835789423207666416102355444464034512896 % 18446744073709551616 = n / 6277101735386680763835789423207666416102355444464034512896 % 18446744073709551616) ↔ m = n := by
  constructor
  · rintro ⟨h0, h1, h2, h3⟩
    unfold top at hm hn
    omega
  · rintro rfl
    exact ⟨rfl, rfl, rfl, rfl⟩
end Go.Proofs.Ytifkmkllljfeaaa
namespace Go.Proofs.Ytifkmkllljfeaaa
open Go.RowKit Go.Sort
variable {P : Nat} [NeZero P]
theorem u85 : (Try.prog.underlying 37).map (·.isRow) = some true := by kernel_rfl
theorem i85 : (Try.prog.info? 37).map (·.size) = some 4 := by kernel_rfl
theorem u79 : (Try.prog.underlying 88).map (·.isRow) = some true := by kernel_rfl
theorem i79 : (Try.prog.info? 88).map (·.size) = some 4 := by kernel_rfl
end Go.Proofs.Ytifkmkllljfeaaa
namespace Go.Proofs.Ytifkmkllljfeaaa
open Go.RowKit Go.Sort
variable {P : Nat} [NeZero P]
end Go.Proofs.Ytifkmkllljfeaaa
namespace Go.Proofs.Ytifkmkllljfeaaa
open Go.RowKit Go.Sort
variable {P : Nat} [NeZero P]
end Go.Proofs.Ytifkmkllljfeaaa
namespace Go.Proofs.Ytifkmkllljfeaaa
open Go.RowKit Go.Sort
variable {P : Nat} [NeZero P]
/-- Three coordinates. -/
abbrev T3 (P : Nat) := Fin P × Fin P × Fin P
abbrev tv (t : T3 P) : Value := rv t.1 t.2.1 t.2.2
abbrev tw (t : T3 P) : List Value := ws t.1 ++ (ws t.2.1 ++ ws t.2.2)
def JacT (t : T3 P) (p : EC.Pt P) : Prop := EC.Jac t.1 t.2.1 t.2.2 p ∧ EC.On p
def twJ (t : T3 P) : T3 P := (EC.twX t.1 t.2.1, EC.twY t.1 t.2.1, EC.twZ t.2.1 t.2.2)
def plJ (a b : T3 P) : T3 P :=
  if a.2.2 = 0 then b else if b.2.2 = 0 then a else
  if EC.plAx a.1 b.2.2 = EC.plAx b.1 a.2.2 ∧ EC.plAy a.2.1 b.2.2 = EC.plAy b.2.1 a.2.2 then twJ a else
  (EC.plX (EC.plAx a.1 b.2.2) (EC.plAy a.2.1 b.2.2) (EC.plAx b.1 a.2.2) (EC.plAy b.2.1 a.2.2), EC.plY (EC.plAx a.1 b.2.2) (EC.plAy a.2.1 b.2.2) (EC.plAx b.1 a.2.2) (EC.plAy b.2.1 a.2.2), EC.plZ a.2.2 b.2.2 (EC.plAx a.1 b.2.2) (EC.plAx b.1 a.2.2))
def opJ (t : T3 P) : T3 P := (t.1, 0 - t.2.1, t.2.2)
def raJ (x y : Fin P) : T3 P := if x = 0 ∧ y = 0 then (0, 0, 0) else (x, y, 1)
theorem JacT.twice (C : Fld P) {t : T3 P} {p : EC.Pt P} (h : JacT t p) : JacT (twJ t) (EC.add p p) := ⟨h.1.twice C.cur h.2, C.cur.on h.2 h.2⟩
theorem JacT.plus (C : Fld P) {a b : T3 P} {p q : EC.Pt P} (h : JacT a p) (h' : JacT b q) : JacT (plJ a b) (EC.add p q) := by
  refine ⟨?_, C.cur.on h.2 h'.2⟩
  obtain ⟨x1, y1, z1⟩ := a
  obtain ⟨x2, y2, z2⟩ := b
  unfold plJ
  by_cases n1 : z1 = 0
  · rw [if_pos n1]
    obtain rfl := h.1.zero C.cur n1
    exact h'.1
  · rw [if_neg n1]
    by_cases n2 : z2 = 0
    · rw [if_pos n2]
      obtain rfl := h'.1.zero C.cur n2
      rw [EC.add_none]
      exact h.1
    · rw [if_neg n2]
      rcases h.1.plus C.cur h.2 h'.1 h'.2 n1 n2 with ⟨e1, e2, e3⟩ | ⟨e1, e2⟩
      · rw [if_pos ⟨e1, e2⟩, e3]
        exact h.1.twice C.cur h.2
      · rw [if_neg e1]
        exact e2
theorem JacT.neg {t : T3 P} {p : EC.Pt P} (h : JacT t p) : JacT (opJ t) (EC.neg p) := ⟨h.1.neg, EC.neg_on h.2⟩
theorem raJ_J (C : Fld P) {x y : Fin P} {p : EC.Pt P} (h : EC.Pair x y p) (hp : EC.On p) : JacT (raJ x y) p := by
  refine ⟨?_, hp⟩
  unfold raJ
  by_cases hz : x = 0 ∧ y = 0
  · obtain rfl := h.nothing C.cur hp hz
    rw [if_pos hz]
    rfl
  · rw [if_neg hz]
    exact h.jac C.cur hz
theorem JacT.pair (C : Fld P) {t : T3 P} {p : EC.Pt P} (h : JacT t p) : EC.Pair (t.1 * (EC.inv t.2.2 * EC.inv t.2.2)) (t.2.1 * (EC.inv t.2.2 * EC.inv t.2.2) * EC.inv t.2.2) p := h.1.pair C.cur
theorem JacT.none : JacT ((0, 0, 0) : T3 P) .none := ⟨rfl, EC.none_on⟩
end Go.Proofs.Ytifkmkllljfeaaa
namespace Go.Proofs.Ytifkmkllljfeaaa.DG
def dsum (d : Nat → Int) : Nat → Int
  | 0 => 0
  | k + 1 => dsum d k + d k * 2 ^ k
def upd (d : Nat → Int) (i : Nat) (v : Int) : Nat → Int := fun j => if j = i then v else d j
theorem dsum_congr {d e : Nat → Int} : ∀ k, (∀ j, j < k → d j = e j) → dsum d k = dsum e k
  | 0, _ => rfl
  | k + 1, h => by
    show dsum d k + d k * 2 ^ k = dsum e k + e k * 2 ^ k
    rw [dsum_congr k fun j hj => h j (by omega), h k (by omega)]
theorem dsum_pad {d : Nat → Int} (i : Nat) (h : ∀ j, i ≤ j → d j = 0) : ∀ k, dsum d (i + k) = dsum d i
  | 0 => rfl
  | k + 1 => by
    show dsum d (i + k) + d (i + k) * 2 ^ (i + k) = _
    rw [h (i + k) (by omega), Int.zero_mul, Int.add_zero, dsum_pad i h k]
theorem upd_same (d : Nat → Int) (i : Nat) (v : Int) : upd d i v i = v := if_pos rfl
theorem upd_other {d : Nat → Int} {i j : Nat} {v : Int} (h : j ≠ i) : upd d i v j = d j := if_neg h
theorem dsum_upd {d : Nat → Int} (i : Nat) (v : Int) (h : ∀ j, i ≤ j → d j = 0) (k : Nat) : dsum (upd d i v) (i + 1 + k) = dsum d i + v * 2 ^ i := by
  rw [dsum_pad (i + 1) (fun j hj => by rw [upd_other (by omega)]; exact h j (by omega)) k]
  show dsum (upd d i v) i + upd d i v i * 2 ^ i = _
  rw [upd_same, dsum_congr i fun j hj => upd_other (by omega)]
/-- The digits of n, as far as i. -/
structure DI (n : Nat) (d : Nat → Int) (i c : Nat) : Prop where
  hc : c ≤ 1
  hz : ∀ j, i ≤ j → d j = 0
  hw : ∀ j, 257 ≤ j → d j = 0
  ho : ∀ j, d j = 0 ∨ (d j % 2 = 1 ∧ -15 ≤ d j ∧ d j ≤ 15)
  hs : (n : Int) = dsum d i + ((n / 2 ^ i + c : Nat) : Int) * 2 ^ i
  he : 257 ≤ i → n / 2 ^ i + c = 0
theorem DI.start (n : Nat) : DI n (fun _ => 0) 0 0 := by
  refine ⟨by decide, fun _ _ => rfl, fun _ _ => rfl, fun _ => Or.inl rfl, ?_, fun h => by omega⟩
  rw [Nat.pow_zero, Nat.div_one]
  show (n : Int) = 0 + ((n + 0 : Nat) : Int) * 1
  omega
theorem high {n i : Nat} (hn : n < 2 ^ 256) (hi : 256 ≤ i) : n / 2 ^ i = 0 :=
  Nat.div_eq_of_lt (Nat.lt_of_lt_of_le hn (Nat.pow_le_pow_right (by decide) hi))
theorem DI.skip {n i c : Nat} {d : Nat → Int} (h : DI n d i c) (hn : n < 2 ^ 256) (hi : i < 257) (hb : n / 2 ^ i % 2 = c) : DI n d (i + 1) c := by
  have hdiv : n / 2 ^ (i + 1) = n / 2 ^ i / 2 := by rw [Nat.pow_succ, Nat.div_div_eq_div_mul]
  refine ⟨h.hc, fun j hj => h.hz j (by omega), h.hw, h.ho, ?_, fun h257 => ?_⟩
  · rw [h.hs]
    show _ = dsum d i + d i * 2 ^ i + _
    rw [h.hz i (Nat.le_refl _), Int.zero_mul, Int.add_zero, hdiv, show n / 2 ^ i + c = (n / 2 ^ i / 2 + c) * 2 by have := h.hc; omega]
    rw [show (2 : Int) ^ (i + 1) = 2 ^ i * 2 by rw [Int.pow_succ]]
    generalize (2 : Int) ^ i = t
    rw [Int.natCast_mul, Int.mul_assoc, Int.mul_comm (2 : Nat) t]
    rfl
  · have h1 : i = 256 := by omega
    have h2 : n / 2 ^ i = 0 := high hn (by omega)
    rw [hdiv, h2]
    rw [h2] at hb
    omega
theorem DI.take {n i c : Nat} {d : Nat → Int} (h : DI n d i c) (hn : n < 2 ^ 256) (hi : i < 257) (hb : n / 2 ^ i % 2 ≠ c) :
    DI n (upd d i (((n / 2 ^ i % 32 + c : Nat) : Int) - 32 * (((n / 2 ^ i % 32 + c) / 16 : Nat) : Int))) (i + 5) ((n / 2 ^ i % 32 + c) / 16) := by
  have hdiv : n / 2 ^ (i + 5) = n / 2 ^ i / 32 := by rw [Nat.pow_add, Nat.div_div_eq_div_mul]
  have hc := h.hc
  have hodd : (n / 2 ^ i % 32 + c) % 2 = 1 := by omega
  have hlt : n / 2 ^ i % 32 + c < 32 := by omega
  refine ⟨by omega, fun j hj => ?_, fun j hj => ?_, fun j => ?_, ?_, fun h257 => ?_⟩
  · rw [upd_other (by omega)]; exact h.hz j (by omega)
  · rw [upd_other (by omega)]; exact h.hw j hj
  · by_cases hj : j = i
    · subst hj
      rw [upd_same]
      right
      omega
    · rw [upd_other hj]; exact h.ho j
  · rw [show i + 5 = i + 1 + 4 by omega, dsum_upd i _ h.hz 4, show i + 1 + 4 = i + 5 by omega, h.hs, Int.add_assoc]
    congr 1
    rw [hdiv, Int.pow_add, show (2 : Int) ^ 5 = 32 by decide, ← Int.mul_comm (32 : Int), ← Int.mul_assoc, ← Int.add_mul]
    congr 1
    omega
  · have h2 : n / 2 ^ i < 16 := by
      rw [Nat.div_lt_iff_lt_mul (Nat.pow_pos (by decide))]
      refine Nat.lt_of_lt_of_le hn ?_
      calc 2 ^ 256 = 16 * 2 ^ 252 := by decide +kernel
        _ ≤ 16 * 2 ^ i := Nat.mul_le_mul (Nat.le_refl _) (Nat.pow_le_pow_right (by decide) (by omega))
    rw [hdiv]
    generalize n / 2 ^ i = m at h2 hb hodd hlt ⊢
    rw [Nat.mod_eq_of_lt (show m < 32 by omega)] at hodd ⊢
    have h3 : m + c < 16 := by omega
    rw [Nat.div_eq_of_lt h3, Nat.div_eq_of_lt (show m < 32 by omega)]
theorem DI.all {n i c : Nat} {d : Nat → Int} (h : DI n d i c) (hi : 257 ≤ i) : (n : Int) = dsum d 257 := by
  have h1 := h.hs
  rw [h.he hi, Int.natCast_zero, Int.zero_mul, Int.add_zero] at h1
  rw [h1, show i = 257 + (i - 257) by omega, dsum_pad 257 h.hw]
/-- The digits from the top, k of them. -/
def hor (d : Nat → Int) : Nat → Int
  | 0 => 0
  | k + 1 => 2 * hor d k + d (256 - k)
theorem hor_sum (d : Nat → Int) : ∀ k, k ≤ 257 → hor d k * 2 ^ (257 - k) + dsum d (257 - k) = dsum d 257
  | 0, _ => by show 0 * _ + _ = _; rw [Int.zero_mul, Int.zero_add]
  | k + 1, hk => by
    rw [← hor_sum d k (by omega)]
    show (2 * hor d k + d (256 - k)) * 2 ^ (257 - (k + 1)) + dsum d (257 - (k + 1)) = _
    rw [show 257 - (k + 1) = 256 - k by omega, show 257 - k = (256 - k) + 1 by omega]
    show _ = hor d k * 2 ^ (256 - k + 1) + (dsum d (256 - k) + d (256 - k) * 2 ^ (256 - k))
    rw [Int.pow_succ]
    generalize (2 : Int) ^ (256 - k) = t
    generalize hor d k = a
    generalize dsum d (256 - k) = b
    rw [Int.add_mul, Int.mul_comm t 2, ← Int.mul_assoc, Int.mul_comm a 2]
    omega
theorem hor_all {n i c : Nat} {d : Nat → Int} (h : DI n d i c) (hi : 257 ≤ i) : hor d 257 = (n : Int) := by
  have h1 := hor_sum d 257 (Nat.le_refl _)
  rw [Nat.sub_self] at h1
  rw [h.all hi, ← h1]
  show hor d 257 = hor d 257 * 1 + 0
  omega
end Go.Proofs.Ytifkmkllljfeaaa.DG
set_option linter.unusedVariables false
set_option linter.unusedSimpArgs false
namespace Go.Proofs.Ytifkmkllljfeaaa
open Go.RowKit Go.Sort
theorem i8neg (d : Int) (hd : -15 ≤ d ∧ d ≤ 15) (w : World) : (Op.unary .neg (.int .i8 d)).run Try.prog w = .ok (.int .i8 (-d)) w := by
  have h := IntWalk.i8_in (-d) (by omega)
  go_simp
theorem shr4 (g : Nat) (hg : g < 32) (w : World) : (binOp .shr 3 (.int .i64 (g : Int)) (.int .u64 4)).run Try.prog w = .ok (.int .i64 ((g / 16 : Nat) : Int)) w := by
  go_simp
theorem shl5 (g : Nat) (hg : g < 32) (w : World) : (binOp .shl 3 (.int .i64 (g : Int)) (.int .u64 5)).run Try.prog w = .ok (.int .i64 (32 * (g : Int))) w := by
  have h := IntWalk.i64_in (32 * (g : Int)) (by omega)
  have h2 : (g : Int) * 32 = 32 * (g : Int) := by omega
  go_simp
theorem sub64i (a b : Int) (ha : -1000 ≤ a ∧ a ≤ 1000) (hb : -1000 ≤ b ∧ b ≤ 1000) (w : World) : (binOp .sub 3 (.int .i64 a) (.int .i64 b)).run Try.prog w = .ok (.int .i64 (a - b)) w := by
  have h := IntWalk.i64_in (a - b) (by omega)
  go_simp
theorem addn (a b : Nat) (ha : a ≤ 1000000) (hb : b ≤ 1000000) (w : World) : (binOp .add 3 (.int .i64 (a : Int)) (.int .i64 (b : Int))).run Try.prog w = .ok (.int .i64 ((a + b : Nat) : Int)) w := by
  have h := IntWalk.i64_in ((a : Int) + (b : Int)) (by omega)
  go_simp
theorem cmp_t {b c : Nat} (e : b = c) (w : World) : (binOp .eql 3 (.int .i64 (b : Int)) (.int .i64 (c : Int))).run Try.prog w = .ok (.bool true) w := by
  subst e
  go_simp
theorem cmp_f {b c : Nat} (e : ¬ b = c) (w : World) : (binOp .eql 3 (.int .i64 (b : Int)) (.int .i64 (c : Int))).run Try.prog w = .ok (.bool false) w := by
  have h : ¬ (b : Int) = (c : Int) := by omega
  go_simp
theorem lssn_t {i n : Nat} (e : i < n) (w : World) : (binOp .lss 3 (.int .i64 (i : Int)) (.int .i64 (n : Int))).run Try.prog w = .ok (.bool true) w := by
  have h : (i : Int) < (n : Int) := by omega
  go_simp
theorem lssn_f {i n : Nat} (e : ¬ i < n) (w : World) : (binOp .lss 3 (.int .i64 (i : Int)) (.int .i64 (n : Int))).run Try.prog w = .ok (.bool false) w := by
  have h : ¬ (i : Int) < (n : Int) := by omega
  go_simp
/-- 257 digits. -/
def dg (d : Nat → Int) : List Value := (List.range 257).map (fun j => Value.int .i8 (d j))
def dv (d : Nat → Int) : Value := .agg (dg d).toArray
theorem dg_length (d : Nat → Int) : (dg d).length = 257 := by unfold dg; rw [List.length_map, List.length_range]
theorem dg_at (d : Nat → Int) (j : Nat) (hj : j < 257) : (dg d)[j]? = some (.int .i8 (d j)) := by
  unfold dg
  rw [List.getElem?_map, List.getElem?_range hj]
  rfl
theorem dg_set (d : Nat → Int) (i : Nat) (v : Int) : dg (DG.upd d i v) = (dg d).set i (.int .i8 v) := by
  apply List.ext_getElem?
  intro j
  rw [List.getElem?_set]
  by_cases hj : j < 257
  · rw [dg_at _ j hj, dg_at _ j hj]
    by_cases hij : i = j
    · subst hij
      rw [if_pos rfl, if_pos (by rw [dg_length]; exact hj), DG.upd_same]
    · rw [if_neg hij, DG.upd_other (fun h => hij h.symm)]
  · rw [List.getElem?_eq_none (by rw [dg_length]; omega)]
    by_cases hij : i = j
    · rw [if_pos hij, if_neg (by rw [dg_length]; omega)]
    · rw [if_neg hij, List.getElem?_eq_none (by rw [dg_length]; omega)]
theorem dg_one (d : Nat → Int) : (dg d).all (·.oneCell') = true := by
  unfold dg
  rw [List.all_map]
  exact List.all_eq_true.2 fun _ _ => rfl
theorem dg_sub (d : Nat → Int) : ((dg d).drop 0).take (dg d).length = dg d := by rw [List.drop_zero, List.take_length]
/-- The digits, as they come. -/
def dgo (n : Nat) : Nat → (Nat → Int) → Nat → Nat → (Nat → Int)
  | 0, d, _, _ => d
  | f + 1, d, i, c => if i < 257 then (if n / 2 ^ i % 2 = c then dgo n f d (i + 1) c else
      dgo n f (DG.upd d i (((n / 2 ^ i % 32 + c : Nat) : Int) - 32 * (((n / 2 ^ i % 32 + c) / 16 : Nat) : Int))) (i + 5) ((n / 2 ^ i % 32 + c) / 16)) else d
theorem dgo_end (n : Nat) (f : Nat) (d : Nat → Int) (i c : Nat) (h : ¬ i < 257) : dgo n f d i c = d := by
  cases f with
  | zero => rfl
  | succ f => rw [dgo, if_neg h]
theorem dgo_DI {n : Nat} (hn : n < 2 ^ 256) : ∀ (f : Nat) (d : Nat → Int) (i c : Nat), DG.DI n d i c → 257 ≤ i + f → ∃ i' c', 257 ≤ i' ∧ DG.DI n (dgo n f d i c) i' c'
  | 0, d, i, c, h, hf => ⟨i, c, by omega, h⟩
  | f + 1, d, i, c, h, hf => by
    by_cases hi : i < 257
    · rw [dgo, if_pos hi]
      by_cases hb : n / 2 ^ i % 2 = c
      · rw [if_pos hb]
        exact dgo_DI hn f d (i + 1) c (h.skip hn hi hb) (by omega)
      · rw [if_neg hb]
        exact dgo_DI hn f _ (i + 5) _ (h.take hn hi hb) (by omega)
    · rw [dgo_end n _ d i c hi]
      exact ⟨i, c, by omega, h⟩
def digs (n : Nat) : Nat → Int := dgo n 257 (fun _ => 0) 0 0
theorem digs_DI {n : Nat} (hn : n < 2 ^ 256) : ∃ i c, 257 ≤ i ∧ DG.DI n (digs n) i c := dgo_DI hn 257 _ 0 0 (DG.DI.start n) (by omega)
end Go.Proofs.Ytifkmkllljfeaaa
namespace Go.Proofs.Ytifkmkllljfeaaa
open Go.RowKit Go.Sort
variable {P : Nat} [NeZero P]
end Go.Proofs.Ytifkmkllljfeaaa
namespace Go.Proofs.Ytifkmkllljfeaaa
open Go.RowKit Go.Sort
variable {P : Nat} [NeZero P]
omit [NeZero P] in
theorem tw_length (t : T3 P) : (tw t).length = 12 := rfl
omit [NeZero P] in
theorem tw_one (t : T3 P) : (tw t).all (·.oneCell') = true := rfl
/-- The odd multiples as they are made. -/
def od (x y : Fin P) : Nat → T3 P
  | 0 => raJ x y
  | q + 1 => plJ (od x y q) (twJ (raJ x y))
theorem od_J (C : Fld P) {x y : Fin P} {p : EC.Pt P} (h : EC.Pair x y p) (hp : EC.On p) : ∀ q, JacT (od x y q) (EC.zmul ((2 * q + 1 : Nat) : Int) p)
  | 0 => by
    show JacT (raJ x y) (EC.zmul 1 p)
    rw [EC.zmul_one]
    exact raJ_J C h hp
  | q + 1 => by
    have h1 := od_J C h hp q
    have h2 := (raJ_J C h hp).twice C
    have h3 := h1.plus C h2
    have e : EC.zmul ((2 * (q + 1) + 1 : Nat) : Int) p = EC.add (EC.zmul ((2 * q + 1 : Nat) : Int) p) (EC.add p p) := by
      have : EC.add p p = EC.zmul 2 p := by
        rw [show (2 : Int) = 1 + 1 by rfl, EC.zmul_add C.cur hp, EC.zmul_one]
      rw [this, ← EC.zmul_add C.cur hp]
      congr 1
    rw [e]
    exact h3
/-- A block as fill leaves it, behind m odd multiples. -/
structure Fi (x y : Fin P) (D : Nat → Int) (C0 : List Value) (off m : Nat) (C : List Value) : Prop where
  len : C.length = C0.length
  out : ∀ j, j < off ∨ off + 353 ≤ j → C[j]? = C0[j]?
  dig : ∀ j, j < 257 → C[off + 96 + j]? = some (.int .i8 (D j))
  odd : ∀ q j, q < m → j < 12 → C[off + 12 * q + j]? = (tw (od x y q))[j]?
theorem Fi.first {x y : Fin P} {D : Nat → Int} {C0 : List Value} {off : Nat} (h : off + 353 ≤ C0.length) : Fi x y D C0 off 0 (RG.rep C0 (off + 96) (dg D)) := by
  have hl : off + 96 + (dg D).length ≤ C0.length := by rw [dg_length]; omega
  refine ⟨RG.rep_length hl, fun j hj => ?_, fun j hj => ?_, fun q j hq _ => by omega⟩
  · rw [RG.rep_at hl, if_neg (by rw [dg_length]; omega)]
  · rw [RG.rep_at hl, if_pos (by rw [dg_length]; omega), show off + 96 + j - (off + 96) = j by omega, dg_at D j hj]
theorem Fi.next {x y : Fin P} {D : Nat → Int} {C0 C : List Value} {off m : Nat} (h : off + 353 ≤ C0.length) (hF : Fi x y D C0 off m C) (hm : m < 8) : Fi x y D C0 off (m + 1) (RG.rep C (off + 12 * m) (tw (od x y m))) := by
  have hlen := hF.len
  have hl : off + 12 * m + (tw (od x y m)).length ≤ C.length := by rw [tw_length]; omega
  refine ⟨by rw [RG.rep_length hl]; exact hlen, fun j hj => ?_, fun j hj => ?_, fun q j hq hj => ?_⟩
  · rw [RG.rep_at hl, if_neg (by rw [tw_length]; omega)]
    exact hF.out j hj
  · rw [RG.rep_at hl, if_neg (by rw [tw_length]; omega)]
    exact hF.dig j hj
  · rw [RG.rep_at hl]
    by_cases hqm : q = m
    · subst hqm
      rw [if_pos (by rw [tw_length]; omega), show off + 12 * q + j - (off + 12 * q) = j by omega]
    · rw [if_neg (by rw [tw_length]; omega)]
      exact hF.odd q j (by omega) hj
theorem Fi.sub {x y : Fin P} {D : Nat → Int} {C0 C : List Value} {off m q : Nat} (h : off + 353 ≤ C0.length) (hF : Fi x y D C0 off m C) (hq : q < m) (hm : m ≤ 8) : (C.drop (off + 12 * q)).take (tw (od x y q)).length = tw (od x y q) :=
  RG.sub_of (fun j hj => hF.odd q j hq (by rw [tw_length] at hj; exact hj)) (by rw [tw_length]; have := hF.len; omega)
/-- The block behind fill. -/
def fc (x y : Fin P) (D : Nat → Int) (C0 : List Value) (off : Nat) : Nat → List Value
  | 0 => RG.rep C0 (off + 96) (dg D)
  | m + 1 => RG.rep (fc x y D C0 off m) (off + 12 * m) (tw (od x y m))
theorem fc_Fi {x y : Fin P} {D : Nat → Int} {C0 : List Value} {off : Nat} (h : off + 353 ≤ C0.length) : ∀ m, m ≤ 8 → Fi x y D C0 off m (fc x y D C0 off m)
  | 0, _ => Fi.first h
  | m + 1, hm => (fc_Fi h m (by omega)).next h (by omega)
theorem Fi.uniq {x y : Fin P} {D : Nat → Int} {C0 C C' : List Value} {off : Nat} (h : Fi x y D C0 off 8 C) (h' : Fi x y D C0 off 8 C') : C = C' := by
  apply List.ext_getElem?
  intro j
  by_cases h1 : j < off ∨ off + 353 ≤ j
  · rw [h.out j h1, h'.out j h1]
  · by_cases h2 : j < off + 96
    · have e : j = off + 12 * ((j - off) / 12) + (j - off) % 12 := by omega
      rw [e, h.odd _ _ (by omega) (by omega), h'.odd _ _ (by omega) (by omega)]
    · have e : j = off + 96 + (j - off - 96) := by omega
      rw [e, h.dig _ (by omega), h'.dig _ (by omega)]
end Go.Proofs.Ytifkmkllljfeaaa
namespace Go.Proofs.Ytifkmkllljfeaaa
open Go.RowKit Go.Sort
variable {P : Nat} [NeZero P]
end Go.Proofs.Ytifkmkllljfeaaa
namespace Go.Proofs.Ytifkmkllljfeaaa
open Go.RowKit Go.Sort
variable {P : Nat} [NeZero P]
end Go.Proofs.Ytifkmkllljfeaaa
namespace Go.Proofs.Ytifkmkllljfeaaa
open Go.RowKit Go.Sort
variable {P : Nat} [NeZero P]
/-- A term times a digit. -/
def tmJ (x y : Fin P) (d : Int) : T3 P := if d < 0 then opJ (od x y ((-d).toNat / 2)) else od x y (d.toNat / 2)
theorem tmJ_J (C : Fld P) {x y : Fin P} {p : EC.Pt P} (h : EC.Pair x y p) (hp : EC.On p) {d : Int} (hd : d % 2 = 1) : JacT (tmJ x y d) (EC.zmul d p) := by
  unfold tmJ
  by_cases hn : d < 0
  · rw [if_pos hn]
    have h1 := (od_J C h hp ((-d).toNat / 2)).neg
    rw [← EC.zmul_neg C.cur hp] at h1
    rw [show -((2 * ((-d).toNat / 2) + 1 : Nat) : Int) = d by omega] at h1
    exact h1
  · rw [if_neg hn]
    have h1 := od_J C h hp (d.toNat / 2)
    rw [show ((2 * (d.toNat / 2) + 1 : Nat) : Int) = d by omega] at h1
    exact h1
/-- What a place adds, of i terms. -/
def inn (ns : Nat → Nat) (xs ys : Nat → Fin P) (st : T3 P) (place : Nat) : Nat → T3 P
  | 0 => st
  | i + 1 => if digs (ns i) place = 0 then inn ns xs ys st place i else plJ (inn ns xs ys st place i) (tmJ (xs i) (ys i) (digs (ns i) place))
/-- The sum behind m places. -/
def sumJ (ns : Nat → Nat) (xs ys : Nat → Fin P) (N : Nat) : Nat → T3 P
  | 0 => (0, 0, 0)
  | m + 1 => inn ns xs ys (twJ (sumJ ns xs ys N m)) (256 - m) N
theorem inn_J (C : Fld P) {ns : Nat → Nat} {xs ys : Nat → Fin P} {p : Nat → EC.Pt P} {N : Nat} (hns : ∀ i, i < N → ns i < 2 ^ 256) (hp : ∀ i, i < N → EC.Pair (xs i) (ys i) (p i)) (ho : ∀ i, i < N → EC.On (p i)) {st : T3 P} {g : Nat → Int} {place : Nat}
    (h : JacT st (EC.tot p N g)) : ∀ i, i ≤ N → JacT (inn ns xs ys st place i) (EC.tot p N (fun j => if j < i then g j + digs (ns j) place else g j))
  | 0, _ => by
    have : EC.tot p N (fun j => if j < 0 then g j + digs (ns j) place else g j) = EC.tot p N g := EC.tot_congr N fun j _ => if_neg (by omega)
    rw [this]
    exact h
  | i + 1, hi => by
    have ih := inn_J C hns hp ho (place := place) h i (by omega)
    have e : EC.tot p N (fun j => if j < i + 1 then g j + digs (ns j) place else g j) = EC.add (EC.tot p N (fun j => if j < i then g j + digs (ns j) place else g j)) (EC.zmul (digs (ns i) place) (p i)) := by
      rw [← EC.tot_upd C.cur _ i (digs (ns i) place) N (by omega) ho]
      refine EC.tot_congr N fun j _ => ?_
      by_cases h1 : j = i
      · subst h1
        rw [if_pos (by omega), if_pos rfl, if_neg (by omega)]
      · rw [if_neg h1]
        by_cases h2 : j < i
        · rw [if_pos (by omega), if_pos h2]
        · rw [if_neg (by omega), if_neg h2]
    rw [e]
    unfold inn
    by_cases hz : digs (ns i) place = 0
    · rw [if_pos hz, hz, EC.zmul_zero, EC.add_none]
      exact ih
    · rw [if_neg hz]
      obtain ⟨q, c, -, hD⟩ := digs_DI (hns i (by omega))
      rcases hD.ho place with h1 | h1
      · exact absurd h1 hz
      · exact ih.plus C (tmJ_J C (hp i (by omega)) (ho i (by omega)) h1.1)
theorem sumJ_J (C : Fld P) {ns : Nat → Nat} {xs ys : Nat → Fin P} {p : Nat → EC.Pt P} {N : Nat} (hns : ∀ i, i < N → ns i < 2 ^ 256) (hp : ∀ i, i < N → EC.Pair (xs i) (ys i) (p i)) (ho : ∀ i, i < N → EC.On (p i)) :
    ∀ m, m ≤ 257 → JacT (sumJ ns xs ys N m) (EC.tot p N (fun j => DG.hor (digs (ns j)) m))
  | 0, _ => by
    rw [show EC.tot p N (fun j => DG.hor (digs (ns j)) 0) = .none from EC.tot_zero p N (fun _ _ => rfl)]
    exact JacT.none
  | m + 1, hm => by
    have ih := (sumJ_J C hns hp ho m (by omega)).twice C
    rw [← EC.tot_twice C.cur _ N ho] at ih
    have h1 := inn_J C hns hp ho (place := 256 - m) ih N (Nat.le_refl _)
    have e : EC.tot p N (fun j => DG.hor (digs (ns j)) (m + 1)) = EC.tot p N (fun j => if j < N then 2 * DG.hor (digs (ns j)) m + digs (ns j) (256 - m) else 2 * DG.hor (digs (ns j)) m) :=
      EC.tot_congr N fun j hj => by rw [if_pos hj]; rfl
    rw [e]
    exact h1
theorem sumJ_all (C : Fld P) {ns : Nat → Nat} {xs ys : Nat → Fin P} {p : Nat → EC.Pt P} {N : Nat} (hns : ∀ i, i < N → ns i < 2 ^ 256) (hp : ∀ i, i < N → EC.Pair (xs i) (ys i) (p i)) (ho : ∀ i, i < N → EC.On (p i)) :
    JacT (sumJ ns xs ys N 257) (EC.tot p N (fun j => (ns j : Int))) := by
  have h := sumJ_J C hns hp ho 257 (Nat.le_refl _)
  have e : EC.tot p N (fun j => (ns j : Int)) = EC.tot p N (fun j => DG.hor (digs (ns j)) 257) := EC.tot_congr N fun j hj => by
    obtain ⟨q, c, hq, hD⟩ := digs_DI (hns j hj)
    exact (DG.hor_all hD hq).symm
  rw [e]
  exact h
/-- The block of terms, i of them filled. -/
def cc (ns : Nat → Nat) (xs ys : Nat → Fin P) (C0 : List Value) : Nat → List Value
  | 0 => C0
  | i + 1 => fc (xs i) (ys i) (digs (ns i)) (cc ns xs ys C0 i) (353 * i) 8
theorem cc_at {ns : Nat → Nat} {xs ys : Nat → Fin P} {C0 : List Value} {N : Nat} (hl : C0.length = 353 * N) : ∀ i, i ≤ N → (cc ns xs ys C0 i).length = 353 * N ∧
    ∀ j, j < i → (∀ q, q < 257 → (cc ns xs ys C0 i)[353 * j + 96 + q]? = some (.int .i8 (digs (ns j) q))) ∧ ∀ q r, q < 8 → r < 12 → (cc ns xs ys C0 i)[353 * j + 12 * q + r]? = (tw (od (xs j) (ys j) q))[r]?
  | 0, _ => ⟨hl, fun j hj => by omega⟩
  | i + 1, hi => by
    obtain ⟨h1, h2⟩ := cc_at hl i (by omega)
    have hF := fc_Fi (x := xs i) (y := ys i) (D := digs (ns i)) (C0 := cc ns xs ys C0 i) (off := 353 * i) (by rw [h1]; omega) 8 (Nat.le_refl _)
    refine ⟨by rw [← h1]; exact hF.len, fun j hj => ?_⟩
    by_cases hji : j = i
    · subst hji
      exact ⟨hF.dig, fun q r hq hr => hF.odd q r hq hr⟩
    · obtain ⟨g1, g2⟩ := h2 j (by omega)
      exact ⟨fun q hq => (hF.out _ (by omega)).trans (g1 q hq), fun q r hq hr => (hF.out _ (by omega)).trans (g2 q r hq hr)⟩
end Go.Proofs.Ytifkmkllljfeaaa
namespace Go.Proofs.Ytifkmkllljfeaaa
open Go.RowKit Go.Sort
variable {P : Nat} [NeZero P]
theorem sub1' (q : Nat) (hq : q < 1000) (w : World) : (binOp .sub 3 (.int .i64 (q : Int)) (.int .i64 1)).run Try.prog w = .ok (.int .i64 ((q : Int) - 1)) w := sub64i _ _ (by omega) (by omega) w
theorem geq0' (i : Nat) (w : World) : (binOp .geq 3 (.int .i64 (i : Int)) (.int .i64 0)).run Try.prog w = .ok (.bool true) w := by
  go_simp
end Go.Proofs.Ytifkmkllljfeaaa
set_option linter.unusedVariables false
set_option linter.unusedSimpArgs false
namespace Go.Proofs.Ytifkmkllljfeaaa
open Go.RowKit Go.Sort
variable {P : Nat} [NeZero P]
theorem ws_one (h : Fld P) : ([.int .u64 1, .int .u64 0, .int .u64 0, .int .u64 0] : List Value) = ws (1 : Fin P) := by
  have h := one_fv h
  unfold nv at h
  injection h with h
  exact congrArg Array.toList h
/-- The even root of a number, if there is one. -/
def rt (m : Fin P) : Option (Fin P) := if m.val ^ (P / 4 + 1) % P * (m.val ^ (P / 4 + 1) % P) % P = m.val then some (Fin.ofNat P (even P (m.val ^ (P / 4 + 1) % P))) else none
omit [NeZero P] in
theorem even_lt {r : Nat} (hP : 0 < P) (h : r < P) : even P r < P := by unfold even; split <;> omega
theorem rt_four {m y : Fin P} {v : Value} (h : rt m = some y) (hF : Four v (even P (m.val ^ (P / 4 + 1) % P))) : v = fv y := by
  unfold rt at h
  split at h
  · obtain rfl := Option.some.inj h
    have : (Fin.ofNat P (even P (m.val ^ (P / 4 + 1) % P))).val = even P (m.val ^ (P / 4 + 1) % P) := Nat.mod_eq_of_lt (even_lt (Nat.pos_of_neZero P) (Nat.mod_lt _ (Nat.pos_of_neZero P)))
    show v = nv _
    rw [this]
    exact hF.nv
  · cases h
theorem rt_yes {m y : Fin P} (h : rt m = some y) : m.val ^ (P / 4 + 1) % P * (m.val ^ (P / 4 + 1) % P) % P = m.val := by
  unfold rt at h
  split at h
  · assumption
  · cases h
theorem rt_no {m : Fin P} (h : rt m = none) : ¬ m.val ^ (P / 4 + 1) % P * (m.val ^ (P / 4 + 1) % P) % P = m.val := by
  unfold rt at h
  split at h
  · cases h
  · assumption
theorem RootR.val {m : Fin P} {e : Value} (h : RootR P m.val (m.val ^ (P / 4 + 1) % P) e) : (∀ y, rt m = some y → e = .tuple #[fv y, .bool true]) ∧ (rt m = none → e = .tuple #[fv (0 : Fin P), .bool false]) := by
  obtain ⟨ya, yb, yc, yd, ok, rfl, h1, h2, h3⟩ := h
  refine ⟨fun y hy => ?_, fun hn => ?_⟩
  · cases ok with
    | true => rw [rt_four hy (h1 rfl).2]
    | false => exact absurd (rt_yes hy) (h2 rfl)
  · cases ok with
    | true => exact absurd (h1 rfl).1 (rt_no hn)
    | false =>
      obtain ⟨rfl, rfl, rfl, rfl⟩ := h3 rfl
      rw [← zero_fv]
      rfl
end Go.Proofs.Ytifkmkllljfeaaa
namespace Go.Proofs.Ytifkmkllljfeaaa
open Go.RowKit Go.Sort
variable {P : Nat} [NeZero P]
def gl0 : List Value := [.int .u64 4294968273, .int .u64 0, .int .u64 0, .int .u64 0]
end Go.Proofs.Ytifkmkllljfeaaa
namespace Go.Proofs.Ytifkmkllljfeaaa
open Go.RowKit Go.Sort Go.Deep
theorem readS_of {w W : World} {k0 k1 k6 a b c d g0 g1 g2 : Nat} (h : Kept w k0 [⟨k6, 0, a, b, c, d⟩, ⟨k0, 0, g0, g1, g2, 0⟩, ⟨k1, 0, 0, 0, 0, 0⟩] W) : W.cell? ⟨k6, 0, none⟩ = some (.int .u64 (a : Int)) ∧ W.cell? ⟨k6, 1, none⟩ = some (.int .u64 (b : Int)) ∧ W.cell? ⟨k6, 2, none⟩ = some (.int .u64 (c : Int)) ∧ W.cell? ⟨k6, 3, none⟩ = some (.int .u64 (d : Int)) ∧ W.cell? ⟨k0, 0, none⟩ = some (.int .u64 (g0 : Int)) ∧ W.cell? ⟨k0, 1, none⟩ = some (.int .u64 (g1 : Int)) ∧ W.cell? ⟨k0, 2, none⟩ = some (.int .u64 (g2 : Int)) ∧ W.cell? ⟨k0, 3, none⟩ = some (.int .u64 0) ∧ Kept w k0 [⟨k6, 0, a, b, c, d⟩, ⟨k0, 0, g0, g1, g2, 0⟩, ⟨k1, 0, 0, 0, 0, 0⟩] W := ⟨h.head.c0, h.head.c1, h.head.c2, h.head.c3, h.tail.head.c0, h.tail.head.c1, h.tail.head.c2, h.tail.head.c3, h⟩
theorem readS_get {w W : World} {k0 k1 k6 a b c d g0 g1 g2 : Nat} (h : W.cell? ⟨k6, 0, none⟩ = some (.int .u64 (a : Int)) ∧ W.cell? ⟨k6, 1, none⟩ = some (.int .u64 (b : Int)) ∧ W.cell? ⟨k6, 2, none⟩ = some (.int .u64 (c : Int)) ∧ W.cell? ⟨k6, 3, none⟩ = some (.int .u64 (d : Int)) ∧ W.cell? ⟨k0, 0, none⟩ = some (.int .u64 (g0 : Int)) ∧ W.cell? ⟨k0, 1, none⟩ = some (.int .u64 (g1 : Int)) ∧ W.cell? ⟨k0, 2, none⟩ = some (.int .u64 (g2 : Int)) ∧ W.cell? ⟨k0, 3, none⟩ = some (.int .u64 0) ∧ Kept w k0 [⟨k6, 0, a, b, c, d⟩, ⟨k0, 0, g0, g1, g2, 0⟩, ⟨k1, 0, 0, 0, 0, 0⟩] W) : Kept w k0 [⟨k6, 0, a, b, c, d⟩, ⟨k0, 0, g0, g1, g2, 0⟩, ⟨k1, 0, 0, 0, 0, 0⟩] W := h.2.2.2.2.2.2.2.2
theorem readS_alloc {w W : World} {k0 k1 k6 a b c d g0 g1 g2 : Nat} {o : Obj} (h : W.cell? ⟨k6, 0, none⟩ = some (.int .u64 (a : Int)) ∧ W.cell? ⟨k6, 1, none⟩ = some (.int .u64 (b : Int)) ∧ W.cell? ⟨k6, 2, none⟩ = some (.int .u64 (c : Int)) ∧ W.cell? ⟨k6, 3, none⟩ = some (.int .u64 (d : Int)) ∧ W.cell? ⟨k0, 0, none⟩ = some (.int .u64 (g0 : Int)) ∧ W.cell? ⟨k0, 1, none⟩ = some (.int .u64 (g1 : Int)) ∧ W.cell? ⟨k0, 2, none⟩ = some (.int .u64 (g2 : Int)) ∧ W.cell? ⟨k0, 3, none⟩ = some (.int .u64 0) ∧ Kept w k0 [⟨k6, 0, a, b, c, d⟩, ⟨k0, 0, g0, g1, g2, 0⟩, ⟨k1, 0, 0, 0, 0, 0⟩] W) : (W.alloc o).cell? ⟨k6, 0, none⟩ = some (.int .u64 (a : Int)) ∧ (W.alloc o).cell? ⟨k6, 1, none⟩ = some (.int .u64 (b : Int)) ∧ (W.alloc o).cell? ⟨k6, 2, none⟩ = some (.int .u64 (c : Int)) ∧ (W.alloc o).cell? ⟨k6, 3, none⟩ = some (.int .u64 (d : Int)) ∧ (W.alloc o).cell? ⟨k0, 0, none⟩ = some (.int .u64 (g0 : Int)) ∧ (W.alloc o).cell? ⟨k0, 1, none⟩ = some (.int .u64 (g1 : Int)) ∧ (W.alloc o).cell? ⟨k0, 2, none⟩ = some (.int .u64 (g2 : Int)) ∧ (W.alloc o).cell? ⟨k0, 3, none⟩ = some (.int .u64 0) ∧ Kept w k0 [⟨k6, 0, a, b, c, d⟩, ⟨k0, 0, g0, g1, g2, 0⟩, ⟨k1, 0, 0, 0, 0, 0⟩] (W.alloc o) := readS_of ((readS_get h).alloc o)
theorem readS_allocd {w W : World} {k0 k1 k6 a b c d g0 g1 g2 : Nat} {o : Obj} (h : W.drew.cell? ⟨k6, 0, none⟩ = some (.int .u64 (a : Int)) ∧ W.drew.cell? ⟨k6, 1, none⟩ = some (.int .u64 (b : Int)) ∧ W.drew.cell? ⟨k6, 2, none⟩ = some (.int .u64 (c : Int)) ∧ W.drew.cell? ⟨k6, 3, none⟩ = some (.int .u64 (d : Int)) ∧ W.drew.cell? ⟨k0, 0, none⟩ = some (.int .u64 (g0 : Int)) ∧ W.drew.cell? ⟨k0, 1, none⟩ = some (.int .u64 (g1 : Int)) ∧ W.drew.cell? ⟨k0, 2, none⟩ = some (.int .u64 (g2 : Int)) ∧ W.drew.cell? ⟨k0, 3, none⟩ = some (.int .u64 0) ∧ Kept w k0 [⟨k6, 0, a, b, c, d⟩, ⟨k0, 0, g0, g1, g2, 0⟩, ⟨k1, 0, 0, 0, 0, 0⟩] W.drew) : (W.alloc o).drew.cell? ⟨k6, 0, none⟩ = some (.int .u64 (a : Int)) ∧ (W.alloc o).drew.cell? ⟨k6, 1, none⟩ = some (.int .u64 (b : Int)) ∧ (W.alloc o).drew.cell? ⟨k6, 2, none⟩ = some (.int .u64 (c : Int)) ∧ (W.alloc o).drew.cell? ⟨k6, 3, none⟩ = some (.int .u64 (d : Int)) ∧ (W.alloc o).drew.cell? ⟨k0, 0, none⟩ = some (.int .u64 (g0 : Int)) ∧ (W.alloc o).drew.cell? ⟨k0, 1, none⟩ = some (.int .u64 (g1 : Int)) ∧ (W.alloc o).drew.cell? ⟨k0, 2, none⟩ = some (.int .u64 (g2 : Int)) ∧ (W.alloc o).drew.cell? ⟨k0, 3, none⟩ = some (.int .u64 0) ∧ Kept w k0 [⟨k6, 0, a, b, c, d⟩, ⟨k0, 0, g0, g1, g2, 0⟩, ⟨k1, 0, 0, 0, 0, 0⟩] (W.alloc o).drew := readS_of (((readS_get h).undrew).alloc o).drew
end Go.Proofs.Ytifkmkllljfeaaa
namespace Go.Proofs.Ytifkmkllljfeaaa
open Go.RowKit Go.Sort Go.Deep
/-- Numbers of four words, one behind the other, in a block: the first i of n are f. -/
def Nums (W : World) (k n i : Nat) (f : Nat → Nat) : Prop := ∀ j, j < n → ∃ a b c d : Nat, (Blk.mk k (j * 4) a b c d).at W ∧ (j < i → Four (.agg #[.int .u64 (a : Int), .int .u64 (b : Int), .int .u64 (c : Int), .int .u64 (d : Int)]) (f j))
theorem Nums.call {W w1 : World} {k n i : Nat} {f : Nat → Nat} (h : Nums W k n i f) (hb : Below W.heap.size W w1) : Nums w1 k n i f := fun j hj => by
  obtain ⟨a, b, c, d, h1, h2⟩ := h j hj
  exact ⟨a, b, c, d, h1.call hb, h2⟩
theorem Nums.drew {W : World} {k n i : Nat} {f : Nat → Nat} (h : Nums W k n i f) : Nums W.drew k n i f := fun j hj => by
  obtain ⟨a, b, c, d, h1, h2⟩ := h j hj
  exact ⟨a, b, c, d, ⟨h1.c0, h1.c1, h1.c2, h1.c3, h1.f⟩, h2⟩
theorem Nums.put {W : World} {k n i x y z t : Nat} {f : Nat → Nat} (h : Nums W k n i f) (hi : i < n) (hF : Four (.agg #[.int .u64 (x : Int), .int .u64 (y : Int), .int .u64 (z : Int), .int .u64 (t : Int)]) (f i)) :
    Nums ((((W.setCell ⟨k, i * 4, none⟩ (.int .u64 (x : Int))).setCell ⟨k, i * 4 + 1, none⟩ (.int .u64 (y : Int))).setCell ⟨k, i * 4 + 2, none⟩ (.int .u64 (z : Int))).setCell ⟨k, i * 4 + 3, none⟩ (.int .u64 (t : Int))) k n (i + 1) f := fun j hj => by
  obtain ⟨a, b, c, d, h1, h2⟩ := h j hj
  by_cases hji : j = i
  · subst hji
    exact ⟨x, y, z, t, h1.put x y z t, fun _ => hF⟩
  · refine ⟨a, b, c, d, ?_, fun h3 => h2 (by omega)⟩
    exact (((h1.off (by simp only; omega) _).off (by simp only; omega) _).off (by simp only; omega) _).off (by simp only; omega) _
theorem made_at (N j : Nat) (hj : j < N) : (madeCells #[.int .u64 0, .int .u64 0, .int .u64 0, .int .u64 0] N)[j]? = some (.int .u64 0) := by
  unfold madeCells
  rw [Array.getElem?_map, Array.getElem?_range]
  have h : j % 4 = 0 ∨ j % 4 = 1 ∨ j % 4 = 2 ∨ j % 4 = 3 := by omega
  simp only [hj, if_true, Option.map_some, List.size_toArray, List.length_cons, List.length_nil, Nat.zero_add]
  rcases h with h | h | h | h <;> rw [h] <;> rfl
theorem Nums.new (w : World) (t : TypeId) (n : Nat) (f : Nat → Nat) : Nums (w.alloc (.cells (madeCells #[.int .u64 0, .int .u64 0, .int .u64 0, .int .u64 0] (n * 4)) t)) w.heap.size n 0 f := fun j hj =>
  ⟨0, 0, 0, 0, ⟨by rw [World.cell?_alloc_new]; exact made_at _ _ (by simp only; omega), by rw [World.cell?_alloc_new]; exact made_at _ _ (by simp only; omega), by rw [World.cell?_alloc_new]; exact made_at _ _ (by simp only; omega), by rw [World.cell?_alloc_new]; exact made_at _ _ (by simp only; omega), fun o => World.frozen?_alloc_new _ _ _ _⟩, fun h => by omega⟩
theorem infoN : (Try.prog.info? 37).map (fun i => (i.zero, i.size, i.bytes)) = some (some (.agg #[.int .u64 0, .int .u64 0, .int .u64 0, .int .u64 0]), 4, 32) := by kernel_rfl
/-- Bytes as an argument: where there are 32, they lie there. -/
def Arg (w : World) (v : Value) (bs : Bs) : Prop := ∃ (p : Option Addr) (n cap : Nat), v = .slice p n cap ∧ bs.size = n ∧ (n = 32 → ∃ g o, p = some ⟨g, o, none⟩ ∧ 32 ≤ cap ∧ g < w.heap.size ∧ Holds encB w g o bs)
theorem Arg.below {w w1 : World} {v : Value} {bs : Bs} (h : Arg w v bs) (hb : Below w.heap.size w w1) : Arg w1 v bs := by
  obtain ⟨p, n, cap, rfl, hs, h1⟩ := h
  refine ⟨p, n, cap, rfl, hs, fun h2 => ?_⟩
  obtain ⟨g, o, h3, h4, h6, h7⟩ := h1 h2
  exact ⟨g, o, h3, h4, Nat.lt_of_lt_of_le h6 hb.size, Holds.below h7 hb h6⟩
/-- Bytes are a number of the prime. -/
def IsNum (P : Nat) (bs : Bs) : Prop := bs.size = 32 ∧ beV bs.toList < P
/-- A list of arguments in a block. -/
def Args (w : World) (q : Option Addr) (n : Nat) (L : Nat → Bs) : Prop := 0 < n → ∃ gg, q = some ⟨gg, 0, none⟩ ∧ gg < w.heap.size ∧ ∀ j, j < n → ∃ v, w.cell? ⟨gg, j, none⟩ = some v ∧ Arg w v (L j)
/-- What numbers answers. -/
def NumsR (w : World) (P n : Nat) (L : Nat → Bs) (e : Value) (w' : World) : Prop :=
  ((∀ j, j < n → IsNum P (L j)) ∧ ∃ k, w.heap.size ≤ k ∧ e = .tuple #[.slice (some ⟨k, 0, none⟩) n n, .int .i64 0] ∧ Nums w' k n n (fun j => beV (L j).toList)) ∨
  ((∃ j, j < n ∧ ¬ IsNum P (L j)) ∧ e = .tuple #[.slice none 0 0, .int .i64 3])
end Go.Proofs.Ytifkmkllljfeaaa
namespace Go.Proofs.Ytifkmkllljfeaaa
open Go.RowKit Go.Sort
theorem u5 : (Try.prog.underlying 5).map (·.isRow) = some false := by kernel_rfl
theorem und5 : Try.prog.underlying 5 = some (.int .u8) := by kernel_rfl
theorem cells5 : Try.prog.cellsOf 5 = 1 := by kernel_rfl
theorem sl33 (g o cap : Nat) (hc : 33 ≤ cap) (w : World) : (Instr.sliceAt 23 (.slice (some ⟨g, o, none⟩) 33 cap) (some (.int .i64 1)) none none).run Try.prog w = .ok (.slice (some ⟨g, o + 1, none⟩) 32 (cap - 1)) w := by
  go_simp
  omega
theorem at23 (g o n cap : Nat) (hn : 0 < n) (w : World) : (Instr.indexAt 23 (.slice (some ⟨g, o, none⟩) n cap) (.int .i64 0)).run Try.prog w = .ok (.pointer (some ⟨g, o, none⟩)) w := by
  have h : (0 : Int) < (n : Int) := by omega
  go_simp
theorem part5 (xs : Array Value) (i : Nat) (v : Value) (h : xs[i]? = some v) (w : World) : (part 5 xs i).run Try.prog w = .ok v w := by
  go_simp
theorem eqI (xs ys : Array Value) (a b : Nat → Int) (D : Nat) (w : World) : ∀ (is : List Nat), (∀ i ∈ is, xs[i]? = some (.int .u8 (a i))) → (∀ i ∈ is, ys[i]? = some (.int .u8 (b i))) →
    (Op.eqItems (D + 1) 5 1 xs ys is).run Try.prog w = .ok (decide (∀ i ∈ is, a i = b i)) w
  | [], _, _ => by
    rw [Op.eqItems]
    simp
  | i :: is, hx, hy => by
    have ih := eqI xs ys a b D w is (fun j hj => hx j (List.mem_cons_of_mem _ hj)) (fun j hj => hy j (List.mem_cons_of_mem _ hj))
    have p1 := part5 xs (i * 1) _ (by rw [Nat.mul_one]; exact hx i List.mem_cons_self) w
    have p2 := part5 ys (i * 1) _ (by rw [Nat.mul_one]; exact hy i List.mem_cons_self) w
    have p3 := run_equalIn_int (P := Try.prog) w D 5 .u8 .u8 (a i) (b i) und5
    rw [Op.eqItems]
    simp only [Sem.run_bind, p1, p2, p3, Result.andThen_ok]
    by_cases h : a i = b i
    · simp only [h, beq_self_eq_true, Bool.not_true, Bool.false_eq_true, if_false, ih, List.forall_mem_cons, true_and]
    · have h2 : (a i == b i) = false := by simpa using h
      simp only [h2, Bool.not_false, if_true, Sem.run_pure, List.forall_mem_cons, h, false_and, decide_false]
/-- 33 bytes as cells. -/
def bl33 (bs : Bs) : List Value := bs.toList.map encB
def z33 : List Value := List.replicate 33 (.int .u8 0)
theorem bl33_at (bs : Bs) (i : Nat) (h : i < bs.size) : (bl33 bs)[i]? = some (.int .u8 (ub bs[i]!)) := by
  unfold bl33
  rw [List.getElem?_map, Array.getElem?_toList, Array.getElem?_eq_getElem h, getElem!_pos bs i h]
  rfl
@[reducible] def Zero33 (bs : Bs) : Prop := ∀ i ∈ List.range 33, ub bs[i]! = 0
theorem bl33_length {bs : Bs} (h : bs.size = 33) : (bl33 bs).length = 33 := by unfold bl33; rw [List.length_map, Array.length_toList, h]
theorem bl33_range {bs : Bs} {w : World} {g o : Nat} (hB : Holds encB w g o bs) : w.rangeAt g o (bl33 bs) := fun j v hv => by
  have hj : j < bs.size := by
    have := (List.getElem?_eq_some_iff.1 hv).1
    unfold bl33 at this
    rwa [List.length_map, Array.length_toList] at this
  rw [bl33_at bs j hj] at hv
  rw [(hB j hj).1]
  exact hv
/-- All but the first. -/
def tl33 (bs : Bs) : Bs := bs.extract 1 33
theorem tl33_size {bs : Bs} (h : bs.size = 33) : (tl33 bs).size = 32 := by unfold tl33; rw [Array.size_extract, h]; rfl
theorem tl33_holds {bs : Bs} {w : World} {g o : Nat} (h : bs.size = 33) (hB : Holds encB w g o bs) : Holds encB w g (o + 1) (tl33 bs) :=
  Holds.part hB (by rw [tl33_size h, h]; decide) (fun j hj => by
    rw [tl33_size h] at hj
    unfold tl33
    rw [getElem!_pos _ j (by rw [Array.size_extract, h]; omega), getElem!_pos _ (1 + j) (by rw [h]; omega), Array.getElem_extract])
variable {P : Nat} [NeZero P]
/-- Bytes as a pair. -/
def rdx (P : Nat) [NeZero P] (bs : Bs) : Fin P := Fin.ofNat P (beV (tl33 bs).toList)
def rd (P : Nat) [NeZero P] (bs : Bs) : Option (Fin P × Fin P) :=
  if bs.size = 33 then
    if Zero33 bs then some (0, 0) else
    if ub bs[0]! = 2 ∨ ub bs[0]! = 3 then
      if beV (tl33 bs).toList < P then
        (rt (rdx P bs * rdx P bs * rdx P bs + 7)).map (fun y => (rdx P bs, if ub bs[0]! = 3 then 0 - y else y))
      else none
    else none
  else none
def rdV : Option (Fin P × Fin P) → Value
  | none => .tuple #[pv (0 : Fin P) 0, .bool false]
  | some p => .tuple #[pv p.1 p.2, .bool true]
end Go.Proofs.Ytifkmkllljfeaaa
namespace Go.Proofs.Ytifkmkllljfeaaa
open Go.RowKit Go.Sort
variable {P : Nat} [NeZero P]
abbrev v33 (g o cap : Nat) : Value := .slice (some ⟨g, o, none⟩) 33 cap
/-- Bytes as an argument: where there are 33, they lie there. -/
def Arg33 (w : World) (v : Value) (bs : Bs) : Prop := ∃ (p : Option Addr) (n cap : Nat), v = .slice p n cap ∧ bs.size = n ∧ (n = 33 → ∃ g o, p = some ⟨g, o, none⟩ ∧ 33 ≤ cap ∧ g < w.heap.size ∧ Holds encB w g o bs)
theorem Arg33.below {w w1 : World} {v : Value} {bs : Bs} (h : Arg33 w v bs) (hb : Below w.heap.size w w1) : Arg33 w1 v bs := by
  obtain ⟨p, n, cap, rfl, hs, h1⟩ := h
  refine ⟨p, n, cap, rfl, hs, fun h2 => ?_⟩
  obtain ⟨g, o, h3, h4, h6, h7⟩ := h1 h2
  exact ⟨g, o, h3, h4, Nat.lt_of_lt_of_le h6 hb.size, Holds.below h7 hb h6⟩
end Go.Proofs.Ytifkmkllljfeaaa
namespace Go.Proofs.Ytifkmkllljfeaaa
open Go.RowKit Go.Sort Go.Deep
variable {P : Nat} [NeZero P]
/-- A number's 32 bytes. -/
def bx (n : Nat) : Bs := be32 (n % 18446744073709551616) (n / 18446744073709551616 % 18446744073709551616) (n / 340282366920938463463374607431768211456 % 18446744073709551616) (n / 6277101735386680763835789423207666416102355444464034512896 % 18446744073709551616)
theorem bx_size (n : Nat) : (bx n).size = 32 := by unfold bx; exact be32_size _ _ _ _
def mark (n : Nat) : UInt8 := if n % 2 = 1 then 3 else 2
/-- A point's 33 bytes. -/
def by33 (x y : Fin P) : Bs := if x = 0 ∧ y = 0 then Array.replicate 33 0 else #[mark y.val] ++ bx x.val
theorem Bytes_c (C : Fld P) (x : Fin P) (w : World) : Calls Try.prog 25 #[fv x] w (Ret fun e w' => Below w.heap.size w w' ∧ ∃ g, e = .slice (some ⟨g, 0, none⟩) 32 32 ∧ w.heap.size ≤ g ∧ Holds encB w' g 0 (bx x.val)) :=
  (Bytes_any _ _ w (C.four x)).mono (by
    rintro e w' ⟨v, rfl, hb, g, a, b, c, d, rfl, hg, he, hH⟩
    refine ⟨_, rfl, hb, g, rfl, hg, ?_⟩
    have h2 : fv x = .agg #[.int .u64 ((x.val % 18446744073709551616 : Nat) : Int), .int .u64 ((x.val / 18446744073709551616 % 18446744073709551616 : Nat) : Int), .int .u64 ((x.val / 340282366920938463463374607431768211456 % 18446744073709551616 : Nat) : Int), .int .u64 ((x.val / 6277101735386680763835789423207666416102355444464034512896 % 18446744073709551616 : Nat) : Int)] := rfl
    rw [h2] at he
    simp only [Value.agg.injEq, Array.mk.injEq, List.cons.injEq, Value.int.injEq, true_and, and_true, Int.ofNat_inj] at he
    obtain ⟨rfl, rfl, rfl, rfl⟩ := he
    exact hH)
theorem info5b : (Try.prog.info? 5).map (fun i => (i.zero, i.size, i.bytes)) = some (some (.int .u8 0), 1, 1) := by kernel_rfl
theorem und23 : Try.prog.underlying 23 = some (.slice 5) := by kernel_rfl
/-- What bytes answers. -/
def BytesR (w : World) (T : Bs) (e : Value) (w' : World) : Prop := ∃ g cap, e = .slice (some ⟨g, 0, none⟩) 33 cap ∧ 33 ≤ cap ∧ w.heap.size ≤ g ∧ g < w'.heap.size ∧ Holds encB w' g 0 T
theorem mk33 (w : World) : (Instr.makeSlice 23 (.int .i64 33) (.int .i64 33)).run Try.prog w = .ok (.slice (some ⟨w.heap.size, 0, none⟩) 33 33) (w.alloc (.cells (madeCells #[.int .u8 0] 33) 5)) :=
  run_make_row' (P := Try.prog) 23 5 (.int .u8 0) 1 und23 info5b rfl .i64 .i64 33 (by decide) (by decide) w
theorem made33 (w : World) (o : Obj) : Holds encB ((w.alloc o).alloc (.cells (madeCells #[.int .u8 0] 33) 5)) (w.heap.size + 1) 0 (Array.replicate 33 0) := by
  have h := Holds.made (enc := encB) (w.alloc o) 5 33 (0 : UInt8)
  rw [World.size_alloc] at h
  exact h
omit [NeZero P] in
theorem pv_words (x y : Fin P) : pv x y = .agg #[.int .u64 ((x.val % 18446744073709551616 : Nat) : Int), .int .u64 ((x.val / 18446744073709551616 % 18446744073709551616 : Nat) : Int), .int .u64 ((x.val / 340282366920938463463374607431768211456 % 18446744073709551616 : Nat) : Int), .int .u64 ((x.val / 6277101735386680763835789423207666416102355444464034512896 % 18446744073709551616 : Nat) : Int), .int .u64 ((y.val % 18446744073709551616 : Nat) : Int), .int .u64 ((y.val / 18446744073709551616 % 18446744073709551616 : Nat) : Int), .int .u64 ((y.val / 340282366920938463463374607431768211456 % 18446744073709551616 : Nat) : Int), .int .u64 ((y.val / 6277101735386680763835789423207666416102355444464034512896 % 18446744073709551616 : Nat) : Int)] := rfl
theorem grow33 (w : World) (k g m : Nat) (B : Bs) (hB : B.size = 32) (hc : w.cell? ⟨k, 0, none⟩ = some (.int .u8 (m : Int))) (hH : Holds encB w g 0 B) (hm : m < 256 := by decide) :
    ∃ (w' : World) (cap : Nat), (Builtin.append_ #[23, 23] 23 #[.slice (some ⟨k, 0, none⟩) 1 1, .slice (some ⟨g, 0, none⟩) 32 32]).run Try.prog w = .ok (.slice (some ⟨w.heap.size, 0, none⟩) 33 cap) w' ∧ Below w.heap.size w w' ∧ 33 ≤ cap ∧ w.heap.size < w'.heap.size ∧ Holds encB w' w.heap.size 0 (#[UInt8.ofNat m] ++ B) := by
  obtain ⟨i, hi, hzz⟩ := Option.map_eq_some_iff.1 info5b
  simp only [Prod.mk.injEq] at hzz
  obtain ⟨hz, hs, hb⟩ := hzz
  have hap := run_append_grow (P := Try.prog) w 23 23 5 i (.int .u8 0) und23 hi hz ⟨k, 0, none⟩ 1 1 [.int .u8 (m : Int)] (by rw [hs]; rfl) (fun j v hj => by
      cases j with
      | zero =>
        obtain rfl : Value.int .u8 (m : Int) = v := by simpa using hj
        rw [Addr.add_mid]
        exact hc
      | succ j => simp at hj) ⟨g, 0, none⟩ 32 32 (B.toList.map encB) (by rw [hs, List.length_map, Array.length_toList, hB]) (fun j v hj => by
      have hj' : j < B.size := by
        have := (List.getElem?_eq_some_iff.1 hj).1
        rwa [List.length_map, Array.length_toList] at this
      rw [Addr.add_mid, (hH j hj').1]
      rw [List.getElem?_map, Array.getElem?_toList, Array.getElem?_eq_getElem hj'] at hj
      rw [getElem!_pos B j hj']
      exact hj) (by decide) (by decide) (by rw [hb]; decide)
  refine ⟨_, _, hap, ?_, ?_, ?_, ?_⟩
  · exact (Below.refl _ w).drew.trans (below1 w.drew _)
  · exact grownCap_ge w (1 + 32) 1 5
  · show w.drew.heap.size < (w.drew.alloc _).heap.size
    rw [World.size_alloc]
    exact Nat.lt_succ_self _
  · intro j hj
    have hsz : (#[UInt8.ofNat m] ++ B).size = 33 := by rw [Array.size_append, hB]; rfl
    have hj' : j < 33 := by rw [← hsz]; exact hj
    refine ⟨?_, World.frozen?_alloc_new w.drew _ _ _⟩
    show (w.drew.alloc _).cell? ⟨w.drew.heap.size, 0 + j, none⟩ = _
    rw [Nat.zero_add, World.cell?_alloc_new, getElem!_pos _ j hj, Array.getElem?_append_left (by
      rw [Array.size_append, List.size_toArray, List.size_toArray, List.length_map, Array.length_toList]
      show j < 1 + B.size
      omega)]
    cases j with
    | zero =>
      rw [Array.getElem?_append_left (by simp), Array.getElem_append_left (by simp)]
      show some (Value.int .u8 (m : Int)) = some (encB (UInt8.ofNat m))
      unfold encB
      rw [ub_ofNat, Nat.mod_eq_of_lt hm]
    | succ i =>
      rw [Array.getElem?_append_right (by simp), Array.getElem_append_right (by simp), List.getElem?_toArray, List.getElem?_map, Array.getElem?_toList]
      show Option.map encB B[i]? = some (encB B[i])
      rw [Array.getElem?_eq_getElem (by omega)]
      rfl
end Go.Proofs.Ytifkmkllljfeaaa
namespace Go.Proofs.Ytifkmkllljfeaaa
open Go.RowKit Go.Sort Go.Deep
theorem u23 : (Try.prog.underlying 23).map (·.isRow) = some false := by kernel_rfl
theorem at46 (k o n c i : Nat) (hi : i < n) (w : World) : (Instr.indexAt 54 (.slice (some ⟨k, o, none⟩) n c) (.int .i64 (i : Int))).run Try.prog w = .ok (.pointer (some ⟨k, o + i, none⟩)) w := by
  have h1 : ¬ (i : Int) < 0 := by omega
  have h2 : (i : Int) < n := by omega
  go_simp
/-- Rows of sz cells: m of them are there. -/
structure Rows (sz N : Nat) (cell : Nat → List Value) (m : Nat) (C : List Value) : Prop where
  len : C.length = sz * N
  row : ∀ j r, j < m → r < sz → C[sz * j + r]? = (cell j)[r]?
theorem Rows.next {sz N m : Nat} {cell : Nat → List Value} {C : List Value} (h : Rows sz N cell m C) (hm : m < N) (hc : (cell m).length = sz) : Rows sz N cell (m + 1) (RG.rep C (0 + sz * m) (cell m)) := by
  have hlen := h.len
  have hb : sz * m + sz ≤ sz * N := by rw [← Nat.mul_succ]; exact Nat.mul_le_mul_left _ hm
  have hl : 0 + sz * m + (cell m).length ≤ C.length := by rw [hc]; omega
  refine ⟨by rw [RG.rep_length hl]; exact hlen, fun j r hj hr => ?_⟩
  rw [RG.rep_at hl]
  by_cases hjm : j = m
  · subst hjm
    rw [if_pos (by rw [hc]; omega), show sz * j + r - (0 + sz * j) = r by omega]
  · have h2 : sz * j + sz ≤ sz * m := by rw [← Nat.mul_succ]; exact Nat.mul_le_mul_left _ (by omega)
    rw [if_neg (by rw [hc]; omega)]
    exact h.row j r (by omega) hr
/-- Bytes as a number of the order. -/
def rq (N : Nat) (bs : Bs) : Option Nat := if bs.size = 32 ∧ beV bs.toList < N then some (beV bs.toList) else none
def rqV : Option Nat → Value
  | none => .tuple #[nv 0, .bool false]
  | some n => .tuple #[nv n, .bool true]
theorem Scalars_c : Gives 48 #[] gv1 := fun w => (Scalars_any w).mono (by rintro e w' ⟨rfl, rfl⟩; exact ⟨_, rfl, below1 _ _, rfl⟩)
end Go.Proofs.Ytifkmkllljfeaaa
namespace Go.Proofs.Ytifkmkllljfeaaa
open Go.RowKit Go.Sort
/-- A prime as the reference has it: itself, and what is missing to 2^256. -/
structure RefP (p0 p1 p2 p3 c0 c1 c2 c3 P : Nat) : Prop where
  hp0 : p0 < 18446744073709551616
  hp1 : p1 < 18446744073709551616
  hp2 : p2 < 18446744073709551616
  hp3 : p3 < 18446744073709551616
  hc0 : c0 < 18446744073709551616
  hc1 : c1 < 18446744073709551616
  hc2 : c2 < 18446744073709551616
  hc3 : c3 < 18446744073709551616
  eP : P = val p0 p1 p2 p3
  hP : P + val c0 c1 c2 c3 = top
  hP2 : top < 2 * P
theorem refP0 : RefP 18446744069414583343 18446744073709551615 18446744073709551615 18446744073709551615 4294968273 0 0 0 Go.Proofs.Ytifkmkllljfeaaa.p0 :=
  ⟨by decide, by decide, by decide, by decide, by decide, by decide, by decide, by decide, by decide +kernel, by decide +kernel, by decide +kernel⟩
theorem refP1 : RefP 13822214165235122497 13451932020343611451 18446744073709551614 18446744073709551615 4624529908474429119 4994812053365940164 1 0 Go.Proofs.Ytifkmkllljfeaaa.p1 :=
  ⟨by decide, by decide, by decide, by decide, by decide, by decide, by decide, by decide, by decide +kernel, by decide +kernel, by decide +kernel⟩
theorem low0 : 2 ≤ Go.Proofs.Ytifkmkllljfeaaa.p0 % 18446744073709551616 := by decide +kernel
theorem low1 : 2 ≤ Go.Proofs.Ytifkmkllljfeaaa.p1 % 18446744073709551616 := by decide +kernel
end Go.Proofs.Ytifkmkllljfeaaa
namespace Go.Proofs.Ytifkmkllljfeaaa
open Go.RowKit Go.Sort
set_option maxHeartbeats 2000000 in
set_option maxRecDepth 100000 in
theorem rless_any (x y : Value) (m n : Nat) (hx : Four x m) (hy : Four y n) (w : World) :
    Calls Try.prog 43 #[x, y] w (Ret fun e w' => Below w.heap.size w w' ∧ ∃ (v : Value) (s k : Nat), e = .tuple #[v, .int .u64 (k : Int)] ∧ Four v s ∧ k ≤ 1 ∧ s + n = m + top * k) := by
  obtain ⟨a, b, c, d, rfl, ha, hb, hc, hd, em⟩ := hx
  obtain ⟨p, q, r, s, rfl, hp, hq, hr, hs, en⟩ := hy
  obtain ⟨s0, k0, a0, hs0, hk0, e0⟩ := sub64z a p ha hp
  obtain ⟨s1, k1, a1, hs1, hk1, e1⟩ := sub64 b q k0 hb hq hk0
  obtain ⟨s2, k2, a2, hs2, hk2, e2⟩ := sub64 c r k1 hc hr hk1
  obtain ⟨s3, k3, a3, hs3, hk3, e3⟩ := sub64 d s k2 hd hs hk2
  have hv : val s0 s1 s2 s3 + n = m + top * k3 := by rw [em, en]; unfold val top; omega
  clear e0 e1 e2 e3 em en
  go_enter Try.func43, Try.ntmps43
  go_wp2
  refine wp_loop_rounds 5 ?_
  rw [rounds_succ]; go_wp2; go_region
  go_wp2; rw [rounds_succ]; go_wp2; go_region
  go_wp2; rw [rounds_succ]; go_wp2; go_region
  go_wp2; rw [rounds_succ]; go_wp2; go_region
  go_wp2; rw [rounds_succ]; go_wp2
  refine bodyPost_ret (v := ?v) ?hr rfl ?hR
  case hr => simp [results, Try.results43, go_sem]; rfl
  exact ⟨_, rfl, (below4 _ _ _ _ _).drew.drew.drew.drew, _, _, k3, rfl, Four.mk hs0 hs1 hs2 hs3 rfl, hk3, hv⟩
/-- Eight words are the number n. -/
def Eight (v : Value) (n : Nat) : Prop := ∃ a b c d a' b' c' d' : Nat, v = .agg #[.int .u64 (a : Int), .int .u64 (b : Int), .int .u64 (c : Int), .int .u64 (d : Int), .int .u64 (a' : Int), .int .u64 (b' : Int), .int .u64 (c' : Int), .int .u64 (d' : Int)] ∧
  a < 18446744073709551616 ∧ b < 18446744073709551616 ∧ c < 18446744073709551616 ∧ d < 18446744073709551616 ∧ a' < 18446744073709551616 ∧ b' < 18446744073709551616 ∧ c' < 18446744073709551616 ∧ d' < 18446744073709551616 ∧
  n = val a b c d + top * val a' b' c' d'
theorem add_halves {m n a b c d s u k l : Nat} (em : m = a + top * b) (en : n = c + top * d) (h1 : s + top * k = a + c) (h2 : u + top * l = b + d + k) (hlt : m + n < top * top) : m + n = s + top * u := by
  have h3 : top * u + top * top * l = top * b + top * d + top * k := by rw [Nat.mul_assoc, ← Nat.mul_add, h2, Nat.mul_add, Nat.mul_add]
  have h4 : m + n = s + top * u + top * top * l := by omega
  have h5 : l = 0 := by
    rcases Nat.eq_zero_or_pos l with h | h
    · exact h
    · have := Nat.le_mul_of_pos_right (top * top) h
      omega
  rw [h4, h5, Nat.mul_zero, Nat.add_zero]
set_option maxHeartbeats 4000000 in
set_option maxRecDepth 100000 in
theorem rplus_any (x y : Value) (m n : Nat) (hx : Eight x m) (hy : Eight y n) (hlt : m + n < top * top) (w : World) :
    Calls Try.prog 31 #[x, y] w (Ret fun e w' => Below w.heap.size w w' ∧ Eight e (m + n)) := by
  obtain ⟨a, b, c, d, aa, bb, cc, dd, rfl, ha, hb, hc, hd, haa, hbb, hcc, hdd, em⟩ := hx
  obtain ⟨p, q, r, s, pp, qq, rr, ss, rfl, hp, hq, hr, hs, hpp, hqq, hrr, hss, en⟩ := hy
  obtain ⟨s0, k0, a0, hs0, hk0, e0⟩ := add64z a p ha hp
  obtain ⟨s1, k1, a1, hs1, hk1, e1⟩ := add64 b q k0 hb hq hk0
  obtain ⟨s2, k2, a2, hs2, hk2, e2⟩ := add64 c r k1 hc hr hk1
  obtain ⟨s3, k3, a3, hs3, hk3, e3⟩ := add64 d s k2 hd hs hk2
  obtain ⟨s4, k4, a4, hs4, hk4, e4⟩ := add64 aa pp k3 haa hpp hk3
  obtain ⟨s5, k5, a5, hs5, hk5, e5⟩ := add64 bb qq k4 hbb hqq hk4
  obtain ⟨s6, k6, a6, hs6, hk6, e6⟩ := add64 cc rr k5 hcc hrr hk5
  obtain ⟨s7, k7, a7, hs7, hk7, e7⟩ := add64 dd ss k6 hdd hss hk6
  have v1 : val s0 s1 s2 s3 + top * k3 = val a b c d + val p q r s := by clear em en hlt e4 e5 e6 e7; unfold val top; omega
  have v2 : val s4 s5 s6 s7 + top * k7 = val aa bb cc dd + val pp qq rr ss + k3 := by clear em en hlt e0 e1 e2 e3; unfold val top; omega
  have hv : m + n = val s0 s1 s2 s3 + top * val s4 s5 s6 s7 := add_halves em en v1 v2 hlt
  clear e0 e1 e2 e3 e4 e5 e6 e7 em en hlt
  go_enter Try.func31, Try.ntmps31
  go_wp2
  refine wp_loop_rounds 9 ?_
  rw [rounds_succ]; go_wp2; go_region
  go_wp2; rw [rounds_succ]; go_wp2; go_region
  go_wp2; rw [rounds_succ]; go_wp2; go_region
  go_wp2; rw [rounds_succ]; go_wp2; go_region
  go_wp2; rw [rounds_succ]; go_wp2; go_region
  go_wp2; rw [rounds_succ]; go_wp2; go_region
  go_wp2; rw [rounds_succ]; go_wp2; go_region
  go_wp2; rw [rounds_succ]; go_wp2; go_region
  go_wp2; rw [rounds_succ]; go_wp2
  refine bodyPost_ret (v := ?v) ?hr rfl ?hR
  case hr => simp [results, Try.results31, go_sem]; rfl
  exact ⟨_, rfl, (below3 _ _ _ _).drew.drew.drew.drew.drew.drew.drew.drew, s0, s1, s2, s3, s4, s5, s6, s7, rfl, hs0, hs1, hs2, hs3, hs4, hs5, hs6, hs7, hv⟩
end Go.Proofs.Ytifkmkllljfeaaa
namespace Go.Proofs.Ytifkmkllljfeaaa
open Go.RowKit Go.Sort
theorem four_rows {a b c d n r0 r1 r2 r3 s0 s1 s2 s3 t0 t1 t2 t3 u0 u1 u2 u3 h0 h1 h2 h3 : Nat}
    (e0 : r0 + 18446744073709551616 * val r1 r2 r3 h0 = a * n + val 0 0 0 0)
    (e1 : s0 + 18446744073709551616 * val s1 s2 s3 h1 = b * n + val r1 r2 r3 h0)
    (e2 : t0 + 18446744073709551616 * val t1 t2 t3 h2 = c * n + val s1 s2 s3 h1)
    (e3 : u0 + 18446744073709551616 * val u1 u2 u3 h3 = d * n + val t1 t2 t3 h2) :
    val a b c d * n = val r0 s0 t0 u0 + top * val u1 u2 u3 h3 := by
  have hm : val a b c d * n = val (a * n) (b * n) (c * n) (d * n) := by
    rw [Nat.mul_comm, mul_val, Nat.mul_comm n a, Nat.mul_comm n b, Nat.mul_comm n c, Nat.mul_comm n d]
  rw [hm]
  generalize a * n = x0 at *
  generalize b * n = x1 at *
  generalize c * n = x2 at *
  generalize d * n = x3 at *
  generalize val r1 r2 r3 h0 = y0 at *
  generalize val s1 s2 s3 h1 = y1 at *
  generalize val t1 t2 t3 h2 = y2 at *
  generalize val u1 u2 u3 h3 = y3 at *
  unfold val at *
  unfold top
  omega
set_option maxHeartbeats 16000000 in
set_option maxRecDepth 100000 in
theorem rproduct_any (x y : Value) (m n : Nat) (hx : Four x m) (hy : Four y n) (w : World) :
    Calls Try.prog 29 #[x, y] w (Ret fun e w' => Below w.heap.size w w' ∧ Eight e (m * n)) := by
  obtain ⟨a, b, c, d, rfl, ha, hb, hc, hd, em⟩ := hx
  obtain ⟨p, q, r, s, rfl, hp, hq, hr, hs, en⟩ := hy
  go_enter Try.func29, Try.ntmps29
  go_wp2
  refine wp_loop_rounds 5 ?_
  have X := (((At4.made w 44 a b c d rfl).alloc (.cells #[.int .u64 (p : Int), .int .u64 (q : Int), .int .u64 (r : Int), .int .u64 (s : Int)] 44)).alloc (.cells #[.int .u64 0, .int .u64 0, .int .u64 0, .int .u64 0, .int .u64 0, .int .u64 0, .int .u64 0, .int .u64 0] 62)).alloc (.cells #[.int .u64 0, .int .u64 0, .int .u64 0, .int .u64 0, .int .u64 0, .int .u64 0, .int .u64 0, .int .u64 0] 62)
  have Y := ((At4.made (w.alloc (.cells #[.int .u64 (a : Int), .int .u64 (b : Int), .int .u64 (c : Int), .int .u64 (d : Int)] 44)) 44 p q r s (World.size_alloc _ _)).alloc (.cells #[.int .u64 0, .int .u64 0, .int .u64 0, .int .u64 0, .int .u64 0, .int .u64 0, .int .u64 0, .int .u64 0] 62)).alloc (.cells #[.int .u64 0, .int .u64 0, .int .u64 0, .int .u64 0, .int .u64 0, .int .u64 0, .int .u64 0, .int .u64 0] 62)
  have R := (At8.made ((w.alloc (.cells #[.int .u64 (a : Int), .int .u64 (b : Int), .int .u64 (c : Int), .int .u64 (d : Int)] 44)).alloc (.cells #[.int .u64 (p : Int), .int .u64 (q : Int), .int .u64 (r : Int), .int .u64 (s : Int)] 44)) 62 0 0 0 0 0 0 0 0 (k := w.heap.size + 1 + 1) (by simp)).alloc (.cells #[.int .u64 0, .int .u64 0, .int .u64 0, .int .u64 0, .int .u64 0, .int .u64 0, .int .u64 0, .int .u64 0] 62)
  have O := At8.made (((w.alloc (.cells #[.int .u64 (a : Int), .int .u64 (b : Int), .int .u64 (c : Int), .int .u64 (d : Int)] 44)).alloc (.cells #[.int .u64 (p : Int), .int .u64 (q : Int), .int .u64 (r : Int), .int .u64 (s : Int)] 44)).alloc (.cells #[.int .u64 0, .int .u64 0, .int .u64 0, .int .u64 0, .int .u64 0, .int .u64 0, .int .u64 0, .int .u64 0] 62)) 62 0 0 0 0 0 0 0 0 (k := w.heap.size + 1 + 1 + 1) (by simp)
  have BL : Hid (Below w.heap.size w _) := below4 w (.cells #[.int .u64 (a : Int), .int .u64 (b : Int), .int .u64 (c : Int), .int .u64 (d : Int)] 44) (.cells #[.int .u64 (p : Int), .int .u64 (q : Int), .int .u64 (r : Int), .int .u64 (s : Int)] 44) (.cells #[.int .u64 0, .int .u64 0, .int .u64 0, .int .u64 0, .int .u64 0, .int .u64 0, .int .u64 0, .int .u64 0] 62) (.cells #[.int .u64 0, .int .u64 0, .int .u64 0, .int .u64 0, .int .u64 0, .int .u64 0, .int .u64 0, .int .u64 0] 62)
  simp only [Int.natCast_zero] at R O
  generalize World.alloc _ _ = W0 at X Y R O BL ⊢
  generalize h3 : w.heap.size + 1 + 1 + 1 = k3 at O ⊢
  generalize h2 : w.heap.size + 1 + 1 = k2 at R ⊢
  generalize h1 : w.heap.size + 1 = k1 at Y ⊢
  have Q3 : Hid (w.heap.size ≤ k3) := by unfold Hid; omega
  have Q2 : Hid (w.heap.size ≤ k2) := by unfold Hid; omega
  generalize h0 : w.heap.size = k0 at X BL Q2 Q3 ⊢
  have n03 : k0 ≠ k3 := by omega
  have n13 : k1 ≠ k3 := by omega
  have n23 : k2 ≠ k3 := by omega
  have H0 : Hid (w.heap.size = k0) := h0
  clear h0 h1 h2 h3
  obtain ⟨xc0, xc1, xc2, xc3, xf⟩ := id X
  obtain ⟨yc0, yc1, yc2, yc3, yf⟩ := id Y
  obtain ⟨oc0, oc1, oc2, oc3, oc4, oc5, oc6, oc7, of⟩ := id O
  simp only [Int.natCast_zero] at oc0 oc1 oc2 oc3 oc4 oc5 oc6 oc7
  rw [rounds_succ]; go_wp2
  refine wp_loop_rounds 5 ?_
  obtain ⟨h00, l00, s00, k00, o00, j00, g00, y00, m00, b00, d00, v00, z00, ho00, hy00, e00⟩ := mulstep a p 0 0 ha hp (by decide) (by decide)
  simp only [Int.natCast_zero] at b00
  simp only [Int.natCast_zero] at d00
  rw [rounds_succ]; go_wp2
  go_quiet ((go_at_call 41; exact Calls.quiet_of_same (m00 _)))
  revert nq; intro nq00
  go_wp2_with (first | simp only [b00] | simp only [d00])
  obtain ⟨h01, l01, s01, k01, o01, j01, g01, y01, m01, b01, d01, v01, z01, ho01, hy01, e01⟩ := mulstep a q 0 y00 ha hq (by decide) hy00
  simp only [Int.natCast_zero] at d01
  rw [rounds_succ]; go_wp2
  go_quiet ((go_at_call 41; exact Calls.quiet_of_same (m01 _)))
  revert nq; intro nq01
  go_wp2_with (first | simp only [b01] | simp only [d01])
  obtain ⟨h02, l02, s02, k02, o02, j02, g02, y02, m02, b02, d02, v02, z02, ho02, hy02, e02⟩ := mulstep a r 0 y01 ha hr (by decide) hy01
  simp only [Int.natCast_zero] at d02
  rw [rounds_succ]; go_wp2
  go_quiet ((go_at_call 41; exact Calls.quiet_of_same (m02 _)))
  revert nq; intro nq02
  go_wp2_with (first | simp only [b02] | simp only [d02])
  obtain ⟨h03, l03, s03, k03, o03, j03, g03, y03, m03, b03, d03, v03, z03, ho03, hy03, e03⟩ := mulstep a s 0 y02 ha hs (by decide) hy02
  simp only [Int.natCast_zero] at d03
  rw [rounds_succ]; go_wp2
  go_quiet ((go_at_call 41; exact Calls.quiet_of_same (m03 _)))
  revert nq; intro nq03
  go_wp2_with (first | simp only [b03] | simp only [d03])
  rw [rounds_succ]; go_wp2
  have R0 := row_sum (n := val 0 0 0 0) (p := 0) (q := 0) (r := 0) (s := 0) (x := a) (l0 := o00) (l1 := o01) (l2 := o02) (l3 := o03) en rfl e00 e01 e02 e03
  have HR0 : Hid _ := R0
  clear R0
  clear e00 e01 e02 e03 m00 b00 d00 v00 z00 m01 b01 d01 v01 z01 m02 b02 d02 v02 z02 m03 b03 d03 v03 z03
  clear xc0 xc1 xc2 xc3 xf yc0 yc1 yc2 yc3 yf oc0 oc1 oc2 oc3 oc4 oc5 oc6 oc7 of
  have X0 := (((((((((X).drewN nq00).other (o := 0) n03.symm (.int .u64 (o00 : Int))).drewN nq01).other (o := 1) n03.symm (.int .u64 (o01 : Int))).drewN nq02).other (o := 2) n03.symm (.int .u64 (o02 : Int))).drewN nq03).other (o := 3) n03.symm (.int .u64 (o03 : Int))).other (o := 4) n03.symm (.int .u64 (y03 : Int))
  have Y0 := (((((((((Y).drewN nq00).other (o := 0) n13.symm (.int .u64 (o00 : Int))).drewN nq01).other (o := 1) n13.symm (.int .u64 (o01 : Int))).drewN nq02).other (o := 2) n13.symm (.int .u64 (o02 : Int))).drewN nq03).other (o := 3) n13.symm (.int .u64 (o03 : Int))).other (o := 4) n13.symm (.int .u64 (y03 : Int))
  have RR0 := (((((((((R).drewN nq00).other (o := 0) n23.symm (.int .u64 (o00 : Int))).drewN nq01).other (o := 1) n23.symm (.int .u64 (o01 : Int))).drewN nq02).other (o := 2) n23.symm (.int .u64 (o02 : Int))).drewN nq03).other (o := 3) n23.symm (.int .u64 (o03 : Int))).other (o := 4) n23.symm (.int .u64 (y03 : Int))
  have O0 := (((((((((O).drewN nq00).set0 o00).drewN nq01).set1 o01).drewN nq02).set2 o02).drewN nq03).set3 o03).set4 y03
  have BL0 : Hid (Below k0 w _) := ((belowDrewN ((belowDrewN ((belowDrewN ((belowDrewN (BL.out) nq00).setCell (p := ⟨k3, 0, none⟩) Q3.out (.int .u64 (o00 : Int))) nq01).setCell (p := ⟨k3, 1, none⟩) Q3.out (.int .u64 (o01 : Int))) nq02).setCell (p := ⟨k3, 2, none⟩) Q3.out (.int .u64 (o02 : Int))) nq03).setCell (p := ⟨k3, 3, none⟩) Q3.out (.int .u64 (o03 : Int))).setCell (p := ⟨k3, 4, none⟩) Q3.out (.int .u64 (y03 : Int))
  generalize World.setCell _ _ _ = W1 at X0 Y0 RR0 O0 BL0 ⊢
  clear X Y R O BL
  have X := X0
  have Y := Y0
  have R := RR0
  have O := O0
  have BL := BL0
  clear X0 Y0 RR0 O0 BL0
  obtain ⟨xc0, xc1, xc2, xc3, xf⟩ := id X
  obtain ⟨yc0, yc1, yc2, yc3, yf⟩ := id Y
  obtain ⟨oc0, oc1, oc2, oc3, oc4, oc5, oc6, oc7, of⟩ := id O
  simp only [Int.natCast_zero] at oc5 oc6 oc7
  rw [rounds_succ]; go_wp2
  refine wp_loop_rounds 5 ?_
  obtain ⟨h10, l10, s10, k10, o10, j10, g10, y10, m10, b10, d10, v10, z10, ho10, hy10, e10⟩ := mulstep b p o01 0 hb hp ho01 (by decide)
  simp only [Int.natCast_zero] at b10
  rw [rounds_succ]; go_wp2
  go_quiet ((go_at_call 41; exact Calls.quiet_of_same (m10 _)))
  revert nq; intro nq10
  go_wp2_with (first | simp only [b10] | simp only [d10])
  obtain ⟨h11, l11, s11, k11, o11, j11, g11, y11, m11, b11, d11, v11, z11, ho11, hy11, e11⟩ := mulstep b q o02 y10 hb hq ho02 hy10
  rw [rounds_succ]; go_wp2
  go_quiet ((go_at_call 41; exact Calls.quiet_of_same (m11 _)))
  revert nq; intro nq11
  go_wp2_with (first | simp only [b11] | simp only [d11])
  obtain ⟨h12, l12, s12, k12, o12, j12, g12, y12, m12, b12, d12, v12, z12, ho12, hy12, e12⟩ := mulstep b r o03 y11 hb hr ho03 hy11
  rw [rounds_succ]; go_wp2
  go_quiet ((go_at_call 41; exact Calls.quiet_of_same (m12 _)))
  revert nq; intro nq12
  go_wp2_with (first | simp only [b12] | simp only [d12])
  obtain ⟨h13, l13, s13, k13, o13, j13, g13, y13, m13, b13, d13, v13, z13, ho13, hy13, e13⟩ := mulstep b s y03 y12 hb hs hy03 hy12
  rw [rounds_succ]; go_wp2
  go_quiet ((go_at_call 41; exact Calls.quiet_of_same (m13 _)))
  revert nq; intro nq13
  go_wp2_with (first | simp only [b13] | simp only [d13])
  rw [rounds_succ]; go_wp2
  have R1 := row_sum (n := val o01 o02 o03 y03) (p := o01) (q := o02) (r := o03) (s := y03) (x := b) (l0 := o10) (l1 := o11) (l2 := o12) (l3 := o13) en rfl e10 e11 e12 e13
  have HR1 : Hid _ := R1
  clear R1
  clear e10 e11 e12 e13 m10 b10 d10 v10 z10 m11 b11 d11 v11 z11 m12 b12 d12 v12 z12 m13 b13 d13 v13 z13
  clear xc0 xc1 xc2 xc3 xf yc0 yc1 yc2 yc3 yf oc0 oc1 oc2 oc3 oc4 oc5 oc6 oc7 of
  have X1 := (((((((((X).drewN nq10).other (o := 1) n03.symm (.int .u64 (o10 : Int))).drewN nq11).other (o := 2) n03.symm (.int .u64 (o11 : Int))).drewN nq12).other (o := 3) n03.symm (.int .u64 (o12 : Int))).drewN nq13).other (o := 4) n03.symm (.int .u64 (o13 : Int))).other (o := 5) n03.symm (.int .u64 (y13 : Int))
  have Y1 := (((((((((Y).drewN nq10).other (o := 1) n13.symm (.int .u64 (o10 : Int))).drewN nq11).other (o := 2) n13.symm (.int .u64 (o11 : Int))).drewN nq12).other (o := 3) n13.symm (.int .u64 (o12 : Int))).drewN nq13).other (o := 4) n13.symm (.int .u64 (o13 : Int))).other (o := 5) n13.symm (.int .u64 (y13 : Int))
  have RR1 := (((((((((R).drewN nq10).other (o := 1) n23.symm (.int .u64 (o10 : Int))).drewN nq11).other (o := 2) n23.symm (.int .u64 (o11 : Int))).drewN nq12).other (o := 3) n23.symm (.int .u64 (o12 : Int))).drewN nq13).other (o := 4) n23.symm (.int .u64 (o13 : Int))).other (o := 5) n23.symm (.int .u64 (y13 : Int))
  have O1 := (((((((((O).drewN nq10).set1 o10).drewN nq11).set2 o11).drewN nq12).set3 o12).drewN nq13).set4 o13).set5 y13
  have BL1 : Hid (Below k0 w _) := ((belowDrewN ((belowDrewN ((belowDrewN ((belowDrewN (BL.out) nq10).setCell (p := ⟨k3, 1, none⟩) Q3.out (.int .u64 (o10 : Int))) nq11).setCell (p := ⟨k3, 2, none⟩) Q3.out (.int .u64 (o11 : Int))) nq12).setCell (p := ⟨k3, 3, none⟩) Q3.out (.int .u64 (o12 : Int))) nq13).setCell (p := ⟨k3, 4, none⟩) Q3.out (.int .u64 (o13 : Int))).setCell (p := ⟨k3, 5, none⟩) Q3.out (.int .u64 (y13 : Int))
  generalize World.setCell _ _ _ = W2 at X1 Y1 RR1 O1 BL1 ⊢
  clear X Y R O BL
  have X := X1
  have Y := Y1
  have R := RR1
  have O := O1
  have BL := BL1
  clear X1 Y1 RR1 O1 BL1
  obtain ⟨xc0, xc1, xc2, xc3, xf⟩ := id X
  obtain ⟨yc0, yc1, yc2, yc3, yf⟩ := id Y
  obtain ⟨oc0, oc1, oc2, oc3, oc4, oc5, oc6, oc7, of⟩ := id O
  simp only [Int.natCast_zero] at oc6 oc7
  rw [rounds_succ]; go_wp2
  refine wp_loop_rounds 5 ?_
  obtain ⟨h20, l20, s20, k20, o20, j20, g20, y20, m20, b20, d20, v20, z20, ho20, hy20, e20⟩ := mulstep c p o11 0 hc hp ho11 (by decide)
  simp only [Int.natCast_zero] at b20
  rw [rounds_succ]; go_wp2
  go_quiet ((go_at_call 41; exact Calls.quiet_of_same (m20 _)))
  revert nq; intro nq20
  go_wp2_with (first | simp only [b20] | simp only [d20])
  obtain ⟨h21, l21, s21, k21, o21, j21, g21, y21, m21, b21, d21, v21, z21, ho21, hy21, e21⟩ := mulstep c q o12 y20 hc hq ho12 hy20
  rw [rounds_succ]; go_wp2
  go_quiet ((go_at_call 41; exact Calls.quiet_of_same (m21 _)))
  revert nq; intro nq21
  go_wp2_with (first | simp only [b21] | simp only [d21])
  obtain ⟨h22, l22, s22, k22, o22, j22, g22, y22, m22, b22, d22, v22, z22, ho22, hy22, e22⟩ := mulstep c r o13 y21 hc hr ho13 hy21
  rw [rounds_succ]; go_wp2
  go_quiet ((go_at_call 41; exact Calls.quiet_of_same (m22 _)))
  revert nq; intro nq22
  go_wp2_with (first | simp only [b22] | simp only [d22])
  obtain ⟨h23, l23, s23, k23, o23, j23, g23, y23, m23, b23, d23, v23, z23, ho23, hy23, e23⟩ := mulstep c s y13 y22 hc hs hy13 hy22
  rw [rounds_succ]; go_wp2
  go_quiet ((go_at_call 41; exact Calls.quiet_of_same (m23 _)))
  revert nq; intro nq23
  go_wp2_with (first | simp only [b23] | simp only [d23])
  rw [rounds_succ]; go_wp2
  have R2 := row_sum (n := val o11 o12 o13 y13) (p := o11) (q := o12) (r := o13) (s := y13) (x := c) (l0 := o20) (l1 := o21) (l2 := o22) (l3 := o23) en rfl e20 e21 e22 e23
  have HR2 : Hid _ := R2
  clear R2
  clear e20 e21 e22 e23 m20 b20 d20 v20 z20 m21 b21 d21 v21 z21 m22 b22 d22 v22 z22 m23 b23 d23 v23 z23
  clear xc0 xc1 xc2 xc3 xf yc0 yc1 yc2 yc3 yf oc0 oc1 oc2 oc3 oc4 oc5 oc6 oc7 of
  have X2 := (((((((((X).drewN nq20).other (o := 2) n03.symm (.int .u64 (o20 : Int))).drewN nq21).other (o := 3) n03.symm (.int .u64 (o21 : Int))).drewN nq22).other (o := 4) n03.symm (.int .u64 (o22 : Int))).drewN nq23).other (o := 5) n03.symm (.int .u64 (o23 : Int))).other (o := 6) n03.symm (.int .u64 (y23 : Int))
  have Y2 := (((((((((Y).drewN nq20).other (o := 2) n13.symm (.int .u64 (o20 : Int))).drewN nq21).other (o := 3) n13.symm (.int .u64 (o21 : Int))).drewN nq22).other (o := 4) n13.symm (.int .u64 (o22 : Int))).drewN nq23).other (o := 5) n13.symm (.int .u64 (o23 : Int))).other (o := 6) n13.symm (.int .u64 (y23 : Int))
  have RR2 := (((((((((R).drewN nq20).other (o := 2) n23.symm (.int .u64 (o20 : Int))).drewN nq21).other (o := 3) n23.symm (.int .u64 (o21 : Int))).drewN nq22).other (o := 4) n23.symm (.int .u64 (o22 : Int))).drewN nq23).other (o := 5) n23.symm (.int .u64 (o23 : Int))).other (o := 6) n23.symm (.int .u64 (y23 : Int))
  have O2 := (((((((((O).drewN nq20).set2 o20).drewN nq21).set3 o21).drewN nq22).set4 o22).drewN nq23).set5 o23).set6 y23
  have BL2 : Hid (Below k0 w _) := ((belowDrewN ((belowDrewN ((belowDrewN ((belowDrewN (BL.out) nq20).setCell (p := ⟨k3, 2, none⟩) Q3.out (.int .u64 (o20 : Int))) nq21).setCell (p := ⟨k3, 3, none⟩) Q3.out (.int .u64 (o21 : Int))) nq22).setCell (p := ⟨k3, 4, none⟩) Q3.out (.int .u64 (o22 : Int))) nq23).setCell (p := ⟨k3, 5, none⟩) Q3.out (.int .u64 (o23 : Int))).setCell (p := ⟨k3, 6, none⟩) Q3.out (.int .u64 (y23 : Int))
  generalize World.setCell _ _ _ = W3 at X2 Y2 RR2 O2 BL2 ⊢
  clear X Y R O BL
  have X := X2
  have Y := Y2
  have R := RR2
  have O := O2
  have BL := BL2
  clear X2 Y2 RR2 O2 BL2
  obtain ⟨xc0, xc1, xc2, xc3, xf⟩ := id X
  obtain ⟨yc0, yc1, yc2, yc3, yf⟩ := id Y
  obtain ⟨oc0, oc1, oc2, oc3, oc4, oc5, oc6, oc7, of⟩ := id O
  simp only [Int.natCast_zero] at oc7
  rw [rounds_succ]; go_wp2
  refine wp_loop_rounds 5 ?_
  obtain ⟨h30, l30, s30, k30, o30, j30, g30, y30, m30, b30, d30, v30, z30, ho30, hy30, e30⟩ := mulstep d p o21 0 hd hp ho21 (by decide)
  simp only [Int.natCast_zero] at b30
  rw [rounds_succ]; go_wp2
  go_quiet ((go_at_call 41; exact Calls.quiet_of_same (m30 _)))
  revert nq; intro nq30
  go_wp2_with (first | simp only [b30] | simp only [d30])
  obtain ⟨h31, l31, s31, k31, o31, j31, g31, y31, m31, b31, d31, v31, z31, ho31, hy31, e31⟩ := mulstep d q o22 y30 hd hq ho22 hy30
  rw [rounds_succ]; go_wp2
  go_quiet ((go_at_call 41; exact Calls.quiet_of_same (m31 _)))
  revert nq; intro nq31
  go_wp2_with (first | simp only [b31] | simp only [d31])
  obtain ⟨h32, l32, s32, k32, o32, j32, g32, y32, m32, b32, d32, v32, z32, ho32, hy32, e32⟩ := mulstep d r o23 y31 hd hr ho23 hy31
  rw [rounds_succ]; go_wp2
  go_quiet ((go_at_call 41; exact Calls.quiet_of_same (m32 _)))
  revert nq; intro nq32
  go_wp2_with (first | simp only [b32] | simp only [d32])
  obtain ⟨h33, l33, s33, k33, o33, j33, g33, y33, m33, b33, d33, v33, z33, ho33, hy33, e33⟩ := mulstep d s y23 y32 hd hs hy23 hy32
  rw [rounds_succ]; go_wp2
  go_quiet ((go_at_call 41; exact Calls.quiet_of_same (m33 _)))
  revert nq; intro nq33
  go_wp2_with (first | simp only [b33] | simp only [d33])
  rw [rounds_succ]; go_wp2
  have R3 := row_sum (n := val o21 o22 o23 y23) (p := o21) (q := o22) (r := o23) (s := y23) (x := d) (l0 := o30) (l1 := o31) (l2 := o32) (l3 := o33) en rfl e30 e31 e32 e33
  have HR3 : Hid _ := R3
  clear R3
  clear e30 e31 e32 e33 m30 b30 d30 v30 z30 m31 b31 d31 v31 z31 m32 b32 d32 v32 z32 m33 b33 d33 v33 z33
  clear xc0 xc1 xc2 xc3 xf yc0 yc1 yc2 yc3 yf oc0 oc1 oc2 oc3 oc4 oc5 oc6 oc7 of
  have X3 := (((((((((X).drewN nq30).other (o := 3) n03.symm (.int .u64 (o30 : Int))).drewN nq31).other (o := 4) n03.symm (.int .u64 (o31 : Int))).drewN nq32).other (o := 5) n03.symm (.int .u64 (o32 : Int))).drewN nq33).other (o := 6) n03.symm (.int .u64 (o33 : Int))).other (o := 7) n03.symm (.int .u64 (y33 : Int))
  have Y3 := (((((((((Y).drewN nq30).other (o := 3) n13.symm (.int .u64 (o30 : Int))).drewN nq31).other (o := 4) n13.symm (.int .u64 (o31 : Int))).drewN nq32).other (o := 5) n13.symm (.int .u64 (o32 : Int))).drewN nq33).other (o := 6) n13.symm (.int .u64 (o33 : Int))).other (o := 7) n13.symm (.int .u64 (y33 : Int))
  have RR3 := (((((((((R).drewN nq30).other (o := 3) n23.symm (.int .u64 (o30 : Int))).drewN nq31).other (o := 4) n23.symm (.int .u64 (o31 : Int))).drewN nq32).other (o := 5) n23.symm (.int .u64 (o32 : Int))).drewN nq33).other (o := 6) n23.symm (.int .u64 (o33 : Int))).other (o := 7) n23.symm (.int .u64 (y33 : Int))
  have O3 := (((((((((O).drewN nq30).set3 o30).drewN nq31).set4 o31).drewN nq32).set5 o32).drewN nq33).set6 o33).set7 y33
  have BL3 : Hid (Below k0 w _) := ((belowDrewN ((belowDrewN ((belowDrewN ((belowDrewN (BL.out) nq30).setCell (p := ⟨k3, 3, none⟩) Q3.out (.int .u64 (o30 : Int))) nq31).setCell (p := ⟨k3, 4, none⟩) Q3.out (.int .u64 (o31 : Int))) nq32).setCell (p := ⟨k3, 5, none⟩) Q3.out (.int .u64 (o32 : Int))) nq33).setCell (p := ⟨k3, 6, none⟩) Q3.out (.int .u64 (o33 : Int))).setCell (p := ⟨k3, 7, none⟩) Q3.out (.int .u64 (y33 : Int))
  generalize World.setCell _ _ _ = W4 at X3 Y3 RR3 O3 BL3 ⊢
  clear X Y R O BL
  have X := X3
  have Y := Y3
  have R := RR3
  have O := O3
  have BL := BL3
  clear X3 Y3 RR3 O3 BL3
  obtain ⟨oc0, oc1, oc2, oc3, oc4, oc5, oc6, oc7, of⟩ := id O
  obtain ⟨rc0, rc1, rc2, rc3, rc4, rc5, rc6, rc7, rf⟩ := id R
  have z3 := O.lt
  have z2 := R.lt
  rw [rounds_succ]; go_wp2
  have RF := R.self8 o00 o10 o20 o30 o31 o32 o33 y33
  unfold set8c at RF
  refine bodyPost_ret (v := ?v) ?hr rfl ?hR
  case hr => simp [results, Try.results29, go_sem, RF.c0, RF.c1, RF.c2, RF.c3, RF.c4, RF.c5, RF.c6, RF.c7]; rfl
  refine ⟨_, rfl, ?_, o00, o10, o20, o30, o31, o32, o33, y33, rfl, ho00, ho10, ho20, ho30, ho31, ho32, ho33, hy33, ?_⟩
  · rw [H0.out]; exact below_set8c BL.out Q2.out _ _ _ _ _ _ _ _
  · rw [em]; exact four_rows HR0.out HR1.out HR2.out HR3.out
end Go.Proofs.Ytifkmkllljfeaaa
namespace Go.Proofs.Ytifkmkllljfeaaa
open Go.RowKit Go.Sort
structure LessI (w wr : World) (p0 p1 p2 p3 c0 c1 c2 c3 a b c d e f g h : Nat) : Prop where
  bl : Below w.heap.size w wr
  fr : At8 wr w.heap.size p0 p1 p2 p3 c0 c1 c2 c3
  wi : At8 wr (w.heap.size + 1) a b c d e f g h
  re : At4 wr (w.heap.size + 1 + 1) 0 0 0 0
  ha : a < 18446744073709551616
  hb : b < 18446744073709551616
  hc : c < 18446744073709551616
  hd : d < 18446744073709551616
  he : e < 18446744073709551616
  hf : f < 18446744073709551616
  hg : g < 18446744073709551616
  hh : h < 18446744073709551616
theorem blcall8 {k a b c d e f g h : Nat} {w W w1 : World} (H : Hid (Below k w W)) (pr : At8 W k a b c d e f g h) (hb : Below W.heap.size W w1) : Hid (Below k w w1) := H.out.trans (hb.mono (Nat.le_of_lt pr.lt))
theorem mul_lt_top {x y : Nat} (hx : x < top) (hy : y < top) : x * y + top ≤ top * top := by
  have h1 : x * y ≤ (top - 1) * (top - 1) := Nat.mul_le_mul (by omega) (by omega)
  have h2 : (top - 1) * (top - 1) + top ≤ top * top := by unfold top; decide
  omega
section
variable {w w0 : World} {k a b c d e f g h j B : Nat}
theorem below_set8x (H : Below B w0 w) (hj : B ≤ j) (x0 x1 x2 x3 x4 x5 x6 x7 : Value) : Below B w0 ((((((((w.setCell ⟨j, 0, none⟩ x0).setCell ⟨j, 1, none⟩ x1).setCell ⟨j, 2, none⟩ x2).setCell ⟨j, 3, none⟩ x3).setCell ⟨j, 4, none⟩ x4).setCell ⟨j, 5, none⟩ x5).setCell ⟨j, 6, none⟩ x6).setCell ⟨j, 7, none⟩ x7) := below_set8c H hj x0 x1 x2 x3 x4 x5 x6 x7
theorem At8.other8x (H : At8 w k a b c d e f g h) (hj : j ≠ k) (x0 x1 x2 x3 x4 x5 x6 x7 : Value) : At8 ((((((((w.setCell ⟨j, 0, none⟩ x0).setCell ⟨j, 1, none⟩ x1).setCell ⟨j, 2, none⟩ x2).setCell ⟨j, 3, none⟩ x3).setCell ⟨j, 4, none⟩ x4).setCell ⟨j, 5, none⟩ x5).setCell ⟨j, 6, none⟩ x6).setCell ⟨j, 7, none⟩ x7) k a b c d e f g h := H.other8 hj x0 x1 x2 x3 x4 x5 x6 x7
theorem At4.other8x (H : At4 w k a b c d) (hj : j ≠ k) (x0 x1 x2 x3 x4 x5 x6 x7 : Value) : At4 ((((((((w.setCell ⟨j, 0, none⟩ x0).setCell ⟨j, 1, none⟩ x1).setCell ⟨j, 2, none⟩ x2).setCell ⟨j, 3, none⟩ x3).setCell ⟨j, 4, none⟩ x4).setCell ⟨j, 5, none⟩ x5).setCell ⟨j, 6, none⟩ x6).setCell ⟨j, 7, none⟩ x7) k a b c d := H.other8 hj x0 x1 x2 x3 x4 x5 x6 x7
theorem At8.self8x (H : At8 w k a b c d e f g h) (x0 x1 x2 x3 x4 x5 x6 x7 : Nat) : At8 ((((((((w.setCell ⟨k, 0, none⟩ (.int .u64 (x0 : Int))).setCell ⟨k, 1, none⟩ (.int .u64 (x1 : Int))).setCell ⟨k, 2, none⟩ (.int .u64 (x2 : Int))).setCell ⟨k, 3, none⟩ (.int .u64 (x3 : Int))).setCell ⟨k, 4, none⟩ (.int .u64 (x4 : Int))).setCell ⟨k, 5, none⟩ (.int .u64 (x5 : Int))).setCell ⟨k, 6, none⟩ (.int .u64 (x6 : Int))).setCell ⟨k, 7, none⟩ (.int .u64 (x7 : Int))) k x0 x1 x2 x3 x4 x5 x6 x7 := H.self8 x0 x1 x2 x3 x4 x5 x6 x7
end
theorem lessS_of {w W : World} {k0 k1 k2 p0 p1 p2 p3 c0 c1 c2 c3 a b c d e f g h : Nat} (H : Kept w k0 [⟨k0, 0, p0, p1, p2, p3⟩, ⟨k0, 4, c0, c1, c2, c3⟩, ⟨k1, 0, a, b, c, d⟩, ⟨k1, 4, e, f, g, h⟩, ⟨k2, 0, 0, 0, 0, 0⟩] W) : W.cell? ⟨k0, 4, none⟩ = some (.int .u64 (c0 : Int)) ∧ W.cell? ⟨k0, 5, none⟩ = some (.int .u64 (c1 : Int)) ∧ W.cell? ⟨k0, 6, none⟩ = some (.int .u64 (c2 : Int)) ∧ W.cell? ⟨k0, 7, none⟩ = some (.int .u64 (c3 : Int)) ∧ W.cell? ⟨k1, 0, none⟩ = some (.int .u64 (a : Int)) ∧ W.cell? ⟨k1, 1, none⟩ = some (.int .u64 (b : Int)) ∧ W.cell? ⟨k1, 2, none⟩ = some (.int .u64 (c : Int)) ∧ W.cell? ⟨k1, 3, none⟩ = some (.int .u64 (d : Int)) ∧ W.cell? ⟨k1, 4, none⟩ = some (.int .u64 (e : Int)) ∧ W.cell? ⟨k1, 5, none⟩ = some (.int .u64 (f : Int)) ∧ W.cell? ⟨k1, 6, none⟩ = some (.int .u64 (g : Int)) ∧ W.cell? ⟨k1, 7, none⟩ = some (.int .u64 (h : Int)) ∧ Kept w k0 [⟨k0, 0, p0, p1, p2, p3⟩, ⟨k0, 4, c0, c1, c2, c3⟩, ⟨k1, 0, a, b, c, d⟩, ⟨k1, 4, e, f, g, h⟩, ⟨k2, 0, 0, 0, 0, 0⟩] W :=
  ⟨H.tail.head.c0, H.tail.head.c1, H.tail.head.c2, H.tail.head.c3, H.tail.tail.head.c0, H.tail.tail.head.c1, H.tail.tail.head.c2, H.tail.tail.head.c3, H.tail.tail.tail.head.c0, H.tail.tail.tail.head.c1, H.tail.tail.tail.head.c2, H.tail.tail.tail.head.c3, H⟩
theorem keep_call {W w1 : World} {p : Addr} {v : Value} (hb : Below W.heap.size W w1) (h : W.cell? p = some v) : w1.cell? p = some v := by
  rw [hb.cell (World.block_lt_of_cell? _ _ h)]; exact h
theorem or4 (a b c d : Nat) (ha : a < 18446744073709551616) (hb : b < 18446744073709551616) (hc : c < 18446744073709551616) (hd : d < 18446744073709551616) :
    ∃ o : Nat, bits .or .u64 (bits .or .u64 (bits .or .u64 (a : Int) (b : Int)) (c : Int)) (d : Int) = (o : Int) ∧ (o = 0 ↔ (a = 0 ∧ b = 0 ∧ c = 0 ∧ d = 0)) := by
  have lt : ∀ x y : Nat, x < 18446744073709551616 → y < 18446744073709551616 → x ||| y < 18446744073709551616 := fun x y hx hy => Nat.or_lt_two_pow (n := 64) hx hy
  refine ⟨a ||| b ||| c ||| d, ?_, ?_⟩
  · rw [bits_or_u64_nat a b ha hb, bits_or_u64_nat _ c (lt _ _ ha hb) hc, bits_or_u64_nat _ d (lt _ _ (lt _ _ ha hb) hc) hd]
  · constructor
    · intro h
      have h1 := Nat.left_le_or (n := a ||| b ||| c) (m := d)
      have h2 := Nat.right_le_or (n := a ||| b ||| c) (m := d)
      have h3 := Nat.left_le_or (n := a ||| b) (m := c)
      have h4 := Nat.right_le_or (n := a ||| b) (m := c)
      have h5 := Nat.left_le_or (n := a) (m := b)
      have h6 := Nat.right_le_or (n := a) (m := b)
      omega
    · rintro ⟨rfl, rfl, rfl, rfl⟩
      rfl
theorem less_step {lo hi cc P gk : Nat} (hP : P + cc = top) (hP2 : top < 2 * P) (hpos : 0 < hi) (hg : gk = lo + top * hi) : hi * cc + lo < gk ∧ (hi * cc + lo) % P = gk % P := by
  have e : gk = hi * cc + lo + P * hi := by rw [hg, ← hP, Nat.add_mul, Nat.mul_comm cc]; omega
  rw [e, Nat.add_mul_mod_self_left]
  have : 0 < P * hi := Nat.mul_pos (by omega) hpos
  exact ⟨by omega, rfl⟩
set_option maxHeartbeats 4000000 in
set_option maxRecDepth 100000 in
theorem rLess_any (p0 p1 p2 p3 c0 c1 c2 c3 P : Nat) (x : Value) (m : Nat) (hp0 : p0 < 18446744073709551616) (hp1 : p1 < 18446744073709551616) (hp2 : p2 < 18446744073709551616) (hp3 : p3 < 18446744073709551616)
    (hc0 : c0 < 18446744073709551616) (hc1 : c1 < 18446744073709551616) (hc2 : c2 < 18446744073709551616) (hc3 : c3 < 18446744073709551616) (eP : P = val p0 p1 p2 p3) (hP : P + val c0 c1 c2 c3 = top) (hP2 : top < 2 * P) (hx : Eight x m) (w : World) :
    Calls Try.prog 30 #[.agg #[.int .u64 (p0 : Int), .int .u64 (p1 : Int), .int .u64 (p2 : Int), .int .u64 (p3 : Int), .int .u64 (c0 : Int), .int .u64 (c1 : Int), .int .u64 (c2 : Int), .int .u64 (c3 : Int)], x] w (Ret fun e w' => Below w.heap.size w w' ∧ Four e (m % P)) := by
  obtain ⟨a, b, c, d, e, f, g, h, rfl, ha, hb, hc, hd, he, hf, hg, hh, em⟩ := hx
  go_enter Try.func30, Try.ntmps30
  go_wp2
  have HEP : Hid (P = val p0 p1 p2 p3) := eP
  clear eP
  go_loopg [] (val a b c d + top * val e f g h) (fun gk wr => ∃ (a b c d e f g h : Nat), LessI w wr p0 p1 p2 p3 c0 c1 c2 c3 a b c d e f g h ∧ gk = val a b c d + top * val e f g h ∧ Hid (gk % P = m % P))
  case atStart =>
    refine ⟨a, b, c, d, e, f, g, h, ⟨below3 _ _ _ _, ?_, ?_, ?_, ha, hb, hc, hd, he, hf, hg, hh⟩, rfl, ?_⟩
    · exact (((At8.made w 46 p0 p1 p2 p3 c0 c1 c2 c3 rfl).alloc _).alloc _)
    · exact (At8.made (w.alloc _) 62 a b c d e f g h (World.size_alloc _ _)).alloc _
    · exact At4.made ((w.alloc _).alloc _) 44 0 0 0 0 (by simp)
    · rw [em]; rfl
  case round =>
    obtain ⟨a, b, c, d, e, f, g, h, hI, hgk, HE⟩ := hrel
    clear em ha hb hc hd he hf hg hh
    obtain ⟨bl, fr, wi, re, ha, hb, hc, hd, he, hf, hg, hh⟩ := hI
    have HB : Hid (Below w.heap.size w wr) := bl
    clear bl
    generalize q2 : w.heap.size + 1 + 1 = k2 at re ⊢
    generalize q1 : w.heap.size + 1 = k1 at wi ⊢
    have H : Hid (w.heap.size + 1 = k1 ∧ w.heap.size + 1 + 1 = k2) := ⟨q1, q2⟩
    have Q1 : Hid (w.heap.size ≤ k1) := by unfold Hid; omega
    have Q2 : Hid (w.heap.size ≤ k2) := by unfold Hid; omega
    generalize q0 : w.heap.size = k0 at fr HB Q1 Q2 ⊢
    have H0 : Hid (w.heap.size = k0) := q0
    have n01 : k0 ≠ k1 := by omega
    have n02 : k0 ≠ k2 := by omega
    have n12 : k1 ≠ k2 := by omega
    have z0 := fr.lt
    have z1 := wi.lt
    have z2 := re.lt
    clear q0 q1 q2
    obtain ⟨o, ho, hoz⟩ := or4 e f g h he hf hg hh
    obtain ⟨fc0, fc1, fc2, fc3, fc4, fc5, fc6, fc7, ff⟩ := id fr
    obtain ⟨wc0, wc1, wc2, wc3, wc4, wc5, wc6, wc7, wf⟩ := id wi
    obtain ⟨rc0, rc1, rc2, rc3, rf⟩ := id re
    by_cases hz : o = 0
    · obtain ⟨rfl, rfl, rfl, rfl⟩ := hoz.1 hz
      have hlow : gk = val a b c d := by rw [hgk]; rfl
      have HE2 : Hid (val a b c d % P = m % P) := by unfold Hid; rw [← hlow]; exact HE.out
      clear hgk HE hoz hlow
      subst hz
      go_wp2
      have N := At4.made wr 44 a b c d rfl
      have M0 : k0 ≠ wr.heap.size := Nat.ne_of_lt z0
      have M2 : k2 ≠ wr.heap.size := Nat.ne_of_lt z2
      have M5 : Hid (k0 ≤ wr.heap.size) := Nat.le_of_lt z0
      have HB0 : Hid (Below k0 w _) := HB.out.alloc (Nat.le_of_lt z0) (.cells #[.int .u64 (a : Int), .int .u64 (b : Int), .int .u64 (c : Int), .int .u64 (d : Int)] 44)
      replace fr := fr.alloc (.cells #[.int .u64 (a : Int), .int .u64 (b : Int), .int .u64 (c : Int), .int .u64 (d : Int)] 44)
      replace re := re.alloc (.cells #[.int .u64 (a : Int), .int .u64 (b : Int), .int .u64 (c : Int), .int .u64 (d : Int)] 44)
      clear wi fc0 fc1 fc2 fc3 fc4 fc5 fc6 fc7 ff wc0 wc1 wc2 wc3 wc4 wc5 wc6 wc7 wf rc0 rc1 rc2 rc3 rf z0 z1 z2 HB ho
      generalize World.alloc _ _ = W0 at N fr re HB0 ⊢
      generalize wr.heap.size = k5 at N M0 M2 M5 ⊢
      have hB4 : Hid (a < 18446744073709551616 ∧ b < 18446744073709551616 ∧ c < 18446744073709551616 ∧ d < 18446744073709551616) := ⟨ha, hb, hc, hd⟩
      have HPP : Hid (0 < P) := by unfold Hid; have := hP2; omega
      clear ha hb hc hd hP hP2
      have KP : Kept w k0 [⟨k5, 0, a, b, c, d⟩, ⟨k0, 0, p0, p1, p2, p3⟩, ⟨k2, 0, 0, 0, 0, 0⟩] W0 :=
        (((Kept.mk1 HB0.out (Nat.le_of_lt fr.lt)).cons re.blk).cons (x := ⟨k0, 0, p0, p1, p2, p3⟩) ⟨fr.c0, fr.c1, fr.c2, fr.c3, fr.fz⟩).cons N.blk
      clear fr re N HB0
      go_loopg [] (val a b c d) (fun gk2 wr2 => ∃ (a b c d : Nat), gk2 = val a b c d ∧ Kept w k0 [⟨k5, 0, a, b, c, d⟩, ⟨k0, 0, p0, p1, p2, p3⟩, ⟨k2, 0, 0, 0, 0, 0⟩] wr2 ∧ Hid (a < 18446744073709551616 ∧ b < 18446744073709551616 ∧ c < 18446744073709551616 ∧ d < 18446744073709551616) ∧ Hid (val a b c d % P = m % P))
      case atStart => exact ⟨a, b, c, d, rfl, KP, hB4, HE2⟩
      case round =>
        clear KP hB4 HE2
        obtain ⟨a, b, c, d, hgk2, KP, hB4, HE2⟩ := hrel
        obtain ⟨xc0, xc1, xc2, xc3, xf⟩ := KP.head.at4
        obtain ⟨pc0, pc1, pc2, pc3, pf⟩ := KP.tail.head.at4
        have z5 := KP.head.lt
        have z0 := KP.tail.head.lt
        go_wp2_with fail
        refine (rless_any _ _ _ _ (Four.mk hB4.out.1 hB4.out.2.1 hB4.out.2.2.1 hB4.out.2.2.2 rfl) (Four.mk hp0 hp1 hp2 hp3 rfl) _).mono ?_
        rintro r w2 ⟨v, rfl, hb2, v2, t2, j, rfl, ⟨a2, b2, c2, d2, rfl, ha2, hb2', hc2, hd2, es2⟩, hj, he2⟩
        clear xc0 xc1 xc2 xc3 xf pc0 pc1 pc2 pc3 pf z5 z0
        replace KP := KP.call hb2
        clear hb2
        have HE3 : Hid (val a2 b2 c2 d2 + P = val a b c d + top * j) := by unfold Hid; rw [← es2, HEP.out]; exact he2
        clear he2 es2
        have hj' : j = 0 ∨ j = 1 := by omega
        rcases hj' with rfl | rfl
        · obtain ⟨xc0, xc1, xc2, xc3, xf⟩ := KP.head.at4
          have z5 := KP.head.lt
          go_wp2
          go_roundg (val a2 b2 c2 d2)
          case measure => have := HE3.out; have := HPP.out; omega
          case rel =>
            refine ⟨a2, b2, c2, d2, rfl, ?_, ⟨ha2, hb2', hc2, hd2⟩, ?_⟩
            · exact (KP.put M5.out (by simp only [List.mem_cons, List.not_mem_nil, or_false]; rintro x (rfl | rfl); exact M0.symm; exact M2.symm) a2 b2 c2 d2).alloc _
            · unfold Hid
              rw [← HE2.out, show val a b c d = val a2 b2 c2 d2 + P by have := HE3.out; omega, Nat.add_mod_right]
        · obtain ⟨xc0, xc1, xc2, xc3, xf⟩ := KP.head.at4
          obtain ⟨rc0, rc1, rc2, rc3, rf⟩ := KP.tail.tail.head.at4
          have z5 := KP.head.lt
          have z3 := KP.tail.tail.head.lt
          go_wp2
          have RF := (KP.tail.tail.head.at4.self4 a b c d).alloc (.cells #[.int .u64 (a2 : Int), .int .u64 (b2 : Int), .int .u64 (c2 : Int), .int .u64 (d2 : Int)] 44)
          unfold set4 at RF
          refine bodyPost_ret (v := ?v) ?hr rfl ?hR
          case hr => simp [results, Try.results30, go_sem, RF.c0, RF.c1, RF.c2, RF.c3]; rfl
          refine ⟨_, rfl, ?_, Four.mk hB4.out.1 hB4.out.2.1 hB4.out.2.2.1 hB4.out.2.2.2 ?_⟩
          · rw [H0.out]
            exact (below_set4 KP.bl Q2.out _ _ _ _).alloc (by rw [size_set4]; exact KP.le) _
          · rw [← HE2.out, Nat.mod_eq_of_lt (by have := HE3.out; have := val_lt ha2 hb2' hc2 hd2; omega)]
    · have hpos : 0 < val e f g h := by
        rcases Nat.eq_zero_or_pos (val e f g h) with h0 | h0
        · exact absurd (hoz.2 (by unfold val at h0; omega)) hz
        · exact h0
      have HL : Hid (_ ∧ _) := less_step hP hP2 hpos hgk
      clear hoz hgk hpos
      go_wp2
      have KP : Kept w k0 [⟨k0, 0, p0, p1, p2, p3⟩, ⟨k0, 4, c0, c1, c2, c3⟩, ⟨k1, 0, a, b, c, d⟩, ⟨k1, 4, e, f, g, h⟩, ⟨k2, 0, 0, 0, 0, 0⟩] wr :=
        (((((Kept.mk1 HB.out (Nat.le_of_lt z0)).cons re.blk).cons (x := ⟨k1, 4, e, f, g, h⟩) ⟨wi.c4, wi.c5, wi.c6, wi.c7, wi.fz⟩).cons (x := ⟨k1, 0, a, b, c, d⟩) ⟨wi.c0, wi.c1, wi.c2, wi.c3, wi.fz⟩).cons (x := ⟨k0, 4, c0, c1, c2, c3⟩) ⟨fr.c4, fr.c5, fr.c6, fr.c7, fr.fz⟩).cons (x := ⟨k0, 0, p0, p1, p2, p3⟩) ⟨fr.c0, fr.c1, fr.c2, fr.c3, fr.fz⟩
      clear HEP rc0 rc1 rc2 rc3 rf fc0 fc1 fc2 fc3 fr wi re HB
      refine anyTill.begin (fun w' => w'.cell? ⟨k0, 4, none⟩ = some (.int .u64 (c0 : Int)) ∧ w'.cell? ⟨k0, 5, none⟩ = some (.int .u64 (c1 : Int)) ∧ w'.cell? ⟨k0, 6, none⟩ = some (.int .u64 (c2 : Int)) ∧ w'.cell? ⟨k0, 7, none⟩ = some (.int .u64 (c3 : Int)) ∧ w'.cell? ⟨k1, 0, none⟩ = some (.int .u64 (a : Int)) ∧ w'.cell? ⟨k1, 1, none⟩ = some (.int .u64 (b : Int)) ∧ w'.cell? ⟨k1, 2, none⟩ = some (.int .u64 (c : Int)) ∧ w'.cell? ⟨k1, 3, none⟩ = some (.int .u64 (d : Int)) ∧ w'.cell? ⟨k1, 4, none⟩ = some (.int .u64 (e : Int)) ∧ w'.cell? ⟨k1, 5, none⟩ = some (.int .u64 (f : Int)) ∧ w'.cell? ⟨k1, 6, none⟩ = some (.int .u64 (g : Int)) ∧ w'.cell? ⟨k1, 7, none⟩ = some (.int .u64 (h : Int)) ∧ Kept w k0 [⟨k0, 0, p0, p1, p2, p3⟩, ⟨k0, 4, c0, c1, c2, c3⟩, ⟨k1, 0, a, b, c, d⟩, ⟨k1, 4, e, f, g, h⟩, ⟨k2, 0, 0, 0, 0, 0⟩] w') 22 mixed (lessS_of KP.drew) (fun hS => ?_)
      refine anyTill.tk (i := 0) (v := ?_) rfl (Or.inl ⟨by rfl, ?_⟩) hS ?_
      rotate_left
      · intro w hSw
        (try dsimp only at hSw)
        go_simp
        try (with_reducible rfl)
      simp only [Act.put, List.setIfInBounds_toArray]
      refine anyTill.tk (i := 1) (v := ?_) rfl (Or.inl ⟨by rfl, ?_⟩) hS ?_
      rotate_left
      · intro w hSw
        (try dsimp only at hSw)
        go_simp
        try (with_reducible rfl)
      simp only [Act.put]
      refine anyTill.tk (i := 2) (v := ?_) rfl (Or.inl ⟨by rfl, ?_⟩) hS ?_
      rotate_left
      · intro w hSw
        (try dsimp only at hSw)
        go_simp
        try (with_reducible rfl)
      simp only [Act.put]
      refine anyTill.tk (i := 3) (v := ?_) rfl (Or.inl ⟨by rfl, ?_⟩) hS ?_
      rotate_left
      · intro w hSw
        (try dsimp only at hSw)
        go_simp
        try (with_reducible rfl)
      simp only [Act.put]
      refine anyTill.tk (i := 4) (v := ?_) rfl (Or.inl ⟨by rfl, ?_⟩) hS ?_
      rotate_left
      · intro w hSw
        (try dsimp only at hSw)
        go_simp
        try (with_reducible rfl)
      simp only [Act.put]
      refine anyTill.tk (i := 5) (v := ?_) rfl (Or.inl ⟨by rfl, ?_⟩) hS ?_
      rotate_left
      · intro w hSw
        (try dsimp only at hSw)
        go_simp
        try (with_reducible rfl)
      simp only [Act.put]
      refine anyTill.tk (i := 6) (v := ?_) rfl (Or.inl ⟨by rfl, ?_⟩) hS ?_
      rotate_left
      · intro w hSw
        (try dsimp only at hSw)
        go_simp
        try (with_reducible rfl)
      simp only [Act.put]
      refine anyTill.tk (i := 7) (v := ?_) rfl (Or.inl ⟨by rfl, ?_⟩) hS ?_
      rotate_left
      · intro w hSw
        (try dsimp only at hSw)
        go_simp
        try (with_reducible rfl)
      simp only [Act.put]
      refine anyTill.tk (i := 8) (v := ?_) rfl (Or.inl ⟨by rfl, ?_⟩) hS ?_
      rotate_left
      · intro w hSw
        (try dsimp only at hSw)
        go_simp
        try (with_reducible rfl)
      simp only [Act.put]
      refine anyTill.tk (i := 9) (v := ?_) rfl (Or.inl ⟨by rfl, ?_⟩) hS ?_
      rotate_left
      · intro w hSw
        (try dsimp only at hSw)
        go_simp
        try (with_reducible rfl)
      simp only [Act.put]
      refine anyTill.tk (i := 10) (v := ?_) rfl (Or.inl ⟨by rfl, ?_⟩) hS ?_
      rotate_left
      · intro w hSw
        (try dsimp only at hSw)
        go_simp
        try (with_reducible rfl)
      simp only [Act.put]
      refine anyTill.tk (i := 12) (v := ?_) rfl (Or.inl ⟨by rfl, ?_⟩) hS ?_
      rotate_left
      · intro w hSw
        (try dsimp only at hSw)
        go_simp
        try (with_reducible rfl)
      simp only [Act.put]
      refine anyTill.tk (i := 13) (v := ?_) rfl (Or.inl ⟨by rfl, ?_⟩) hS ?_
      rotate_left
      · intro w hSw
        (try dsimp only at hSw)
        go_simp
        try (with_reducible rfl)
      simp only [Act.put]
      refine anyTill.tk (i := 14) (v := ?_) rfl (Or.inl ⟨by rfl, ?_⟩) hS ?_
      rotate_left
      · intro w hSw
        (try dsimp only at hSw)
        go_simp
        try (with_reducible rfl)
      simp only [Act.put]
      refine anyTill.tk (i := 15) (v := ?_) rfl (Or.inl ⟨by rfl, ?_⟩) hS ?_
      rotate_left
      · intro w hSw
        (try dsimp only at hSw)
        go_simp
        try (with_reducible rfl)
      simp only [Act.put]
      refine anyTill.tk (i := 16) (v := ?_) rfl (Or.inl ⟨by rfl, ?_⟩) hS ?_
      rotate_left
      · intro w hSw
        (try dsimp only at hSw)
        go_simp
        try (with_reducible rfl)
      simp only [Act.put]
      refine anyTill.tk (i := 17) (v := ?_) rfl (Or.inl ⟨by rfl, ?_⟩) hS ?_
      rotate_left
      · intro w hSw
        (try dsimp only at hSw)
        go_simp
        try (with_reducible rfl)
      simp only [Act.put]
      refine anyTill.tk (i := 18) (v := ?_) rfl (Or.inl ⟨by rfl, ?_⟩) hS ?_
      rotate_left
      · intro w hSw
        (try dsimp only at hSw)
        go_simp
        try (with_reducible rfl)
      simp only [Act.put]
      refine anyTill.tk (i := 19) (v := ?_) rfl (Or.inl ⟨by rfl, ?_⟩) hS ?_
      rotate_left
      · intro w hSw
        (try dsimp only at hSw)
        go_simp
        try (with_reducible rfl)
      simp only [Act.put]
      refine anyTill.tk (i := 20) (v := ?_) rfl (Or.inl ⟨by rfl, ?_⟩) hS ?_
      rotate_left
      · intro w hSw
        (try dsimp only at hSw)
        go_simp
        try (with_reducible rfl)
      simp only [Act.put]
      refine anyTill.step (i := 11) rfl (by kernel_rfl) (fun K hK => ?_)
      go_simp
      refine (rproduct_any _ _ _ _ (Four.mk he hf hg hh rfl) (Four.mk hc0 hc1 hc2 hc3 rfl) _).mono ?_
      rintro r w1 ⟨v, rfl, hb1, hE1⟩
      obtain ⟨x0, x1, x2, x3, x4, x5, x6, x7, rfl, hx0, hx1, hx2, hx3, hx4, hx5, hx6, hx7, hxe⟩ := id hE1
      clear hxe hS
      have KP1 := KP.drew.call hb1
      clear hb1 KP
      refine hK.out _ _ (fun _ => lessS_of KP1) ?_
      clear hK K
      try simp only [Act.put, List.setIfInBounds_toArray, List.set_cons_zero, List.set_cons_succ]
      refine anyTill.step (i := 21) rfl (by kernel_rfl) (fun K hK => ?_)
      go_simp
      refine (rplus_any _ _ _ _ hE1 ⟨a, b, c, d, 0, 0, 0, 0, rfl, ha, hb, hc, hd, by decide, by decide, by decide, by decide, rfl⟩ (by have h1 := mul_lt_top (val_lt he hf hg hh) (val_lt hc0 hc1 hc2 hc3); have h2 := val_lt ha hb hc hd; have e0 : val 0 0 0 0 = 0 := rfl; rw [e0, Nat.mul_zero, Nat.add_zero]; omega) _).mono ?_
      rintro r w2 ⟨v, rfl, hb2, hE2⟩
      obtain ⟨y0, y1, y2, y3, y4, y5, y6, y7, rfl, hy0, hy1, hy2, hy3, hy4, hy5, hy6, hy7, hye⟩ := id hE2
      rw [show val 0 0 0 0 = 0 from rfl, Nat.mul_zero, Nat.add_zero] at hye
      have HY : Hid (_ = _) := hye
      clear hye hE1 hE2
      have KP2 := KP1.call hb2
      clear hb2 KP1
      refine hK.out _ _ (fun _ => lessS_of KP2) ?_
      clear hK K
      try simp only [Act.put, List.setIfInBounds_toArray, List.set_cons_zero, List.set_cons_succ]
      have fr : At8 w2 k0 p0 p1 p2 p3 c0 c1 c2 c3 := ⟨KP2.head.c0, KP2.head.c1, KP2.head.c2, KP2.head.c3, KP2.tail.head.c0, KP2.tail.head.c1, KP2.tail.head.c2, KP2.tail.head.c3, KP2.head.f⟩
      have wi : At8 w2 k1 a b c d e f g h := ⟨KP2.tail.tail.head.c0, KP2.tail.tail.head.c1, KP2.tail.tail.head.c2, KP2.tail.tail.head.c3, KP2.tail.tail.tail.head.c0, KP2.tail.tail.tail.head.c1, KP2.tail.tail.tail.head.c2, KP2.tail.tail.tail.head.c3, KP2.tail.tail.head.f⟩
      have re : At4 w2 k2 0 0 0 0 := KP2.tail.tail.tail.tail.head.at4
      have HB : Hid (Below k0 w w2) := KP2.bl
      clear KP2 wc0 wc1 wc2 wc3 wc4 wc5 wc6 wc7 wf z0 z1 z2
      obtain ⟨wc0, wc1, wc2, wc3, wc4, wc5, wc6, wc7, wf⟩ := id wi
      have z1 := wi.lt
      refine anyTill.step (i := 22) rfl (by kernel_rfl) (fun K hK => ?_)
      go_simp
      refine hK.out _ _ (fun h => Bool.noConfusion h) ?_
      clear hK K
      try simp only [Act.put, List.setIfInBounds_toArray, List.set_cons_zero, List.set_cons_succ]
      refine anyTill.done (by kernel_rfl) ?_ _
      obtain ⟨q1, q2⟩ := H.out
      have q0 := H0.out
      subst q1 q2 q0
      go_wp2
      go_roundg (val y0 y1 y2 y3 + top * val y4 y5 y6 y7)
      case measure => rw [← HY.out]; exact HL.out.1
      case rel =>
        refine ⟨y0, y1, y2, y3, y4, y5, y6, y7, ⟨?_, ?_, ?_, ?_, hy0, hy1, hy2, hy3, hy4, hy5, hy6, hy7⟩, rfl, ?_⟩
        · exact below_set8x HB.out Q1.out _ _ _ _ _ _ _ _
        · exact At8.other8x fr n01.symm _ _ _ _ _ _ _ _
        · exact At8.self8x wi y0 y1 y2 y3 y4 y5 y6 y7
        · exact At4.other8x re n12 _ _ _ _ _ _ _ _
        · unfold Hid
          rw [← HY.out, ← HE.out]
          exact HL.out.2
end Go.Proofs.Ytifkmkllljfeaaa
namespace Go.Proofs.Ytifkmkllljfeaaa
open Go.RowKit Go.Sort
theorem mulS_of {w W : World} {k0 k1 k2 p0 p1 p2 p3 c0 c1 c2 c3 a b c d p q r s : Nat} (h : Kept w k0 [⟨k0, 0, p0, p1, p2, p3⟩, ⟨k0, 4, c0, c1, c2, c3⟩, ⟨k1, 0, a, b, c, d⟩, ⟨k2, 0, p, q, r, s⟩] W) : W.cell? ⟨k0, 0, none⟩ = some (.int .u64 (p0 : Int)) ∧ W.cell? ⟨k0, 1, none⟩ = some (.int .u64 (p1 : Int)) ∧ W.cell? ⟨k0, 2, none⟩ = some (.int .u64 (p2 : Int)) ∧ W.cell? ⟨k0, 3, none⟩ = some (.int .u64 (p3 : Int)) ∧ W.cell? ⟨k0, 4, none⟩ = some (.int .u64 (c0 : Int)) ∧ W.cell? ⟨k0, 5, none⟩ = some (.int .u64 (c1 : Int)) ∧ W.cell? ⟨k0, 6, none⟩ = some (.int .u64 (c2 : Int)) ∧ W.cell? ⟨k0, 7, none⟩ = some (.int .u64 (c3 : Int)) ∧ W.cell? ⟨k1, 0, none⟩ = some (.int .u64 (a : Int)) ∧ W.cell? ⟨k1, 1, none⟩ = some (.int .u64 (b : Int)) ∧ W.cell? ⟨k1, 2, none⟩ = some (.int .u64 (c : Int)) ∧ W.cell? ⟨k1, 3, none⟩ = some (.int .u64 (d : Int)) ∧ W.cell? ⟨k2, 0, none⟩ = some (.int .u64 (p : Int)) ∧ W.cell? ⟨k2, 1, none⟩ = some (.int .u64 (q : Int)) ∧ W.cell? ⟨k2, 2, none⟩ = some (.int .u64 (r : Int)) ∧ W.cell? ⟨k2, 3, none⟩ = some (.int .u64 (s : Int)) ∧ Kept w k0 [⟨k0, 0, p0, p1, p2, p3⟩, ⟨k0, 4, c0, c1, c2, c3⟩, ⟨k1, 0, a, b, c, d⟩, ⟨k2, 0, p, q, r, s⟩] W :=
  ⟨h.head.c0, h.head.c1, h.head.c2, h.head.c3, h.tail.head.c0, h.tail.head.c1, h.tail.head.c2, h.tail.head.c3, h.tail.tail.head.c0, h.tail.tail.head.c1, h.tail.tail.head.c2, h.tail.tail.head.c3, h.tail.tail.tail.head.c0, h.tail.tail.tail.head.c1, h.tail.tail.tail.head.c2, h.tail.tail.tail.head.c3, h⟩
end Go.Proofs.Ytifkmkllljfeaaa
namespace Go.Proofs.Ytifkmkllljfeaaa
open Go.RowKit Go.Sort
theorem Four.eight {a b c d m : Nat} (h : Four (.agg #[.int .u64 (a : Int), .int .u64 (b : Int), .int .u64 (c : Int), .int .u64 (d : Int)]) m) :
    Eight (.agg #[.int .u64 (a : Int), .int .u64 (b : Int), .int .u64 (c : Int), .int .u64 (d : Int), .int .u64 0, .int .u64 0, .int .u64 0, .int .u64 0]) m := by
  obtain ⟨p, q, r, s, e, hp, hq, hr, hs, rfl⟩ := h
  simp only [Value.agg.injEq, Array.mk.injEq, List.cons.injEq, Value.int.injEq, true_and, and_true, Int.ofNat_inj] at e
  obtain ⟨rfl, rfl, rfl, rfl⟩ := e
  exact ⟨a, b, c, d, 0, 0, 0, 0, rfl, hp, hq, hr, hs, by decide, by decide, by decide, by decide, rfl⟩
theorem add_bound {v u : Value} {m n : Nat} (hx : Four v m) (hy : Four u n) : m + n < top * top := by
  have h1 := hx.lt
  have h2 := hy.lt
  have h3 : top + top ≤ top * top := by unfold top; decide
  omega
end Go.Proofs.Ytifkmkllljfeaaa
namespace Go.Proofs.Ytifkmkllljfeaaa
open Go.RowKit Go.Sort
end Go.Proofs.Ytifkmkllljfeaaa
namespace Go.Proofs.Ytifkmkllljfeaaa
open Go.RowKit Go.Sort Go.Deep
theorem At4.setq {w : World} {k a b c d : Nat} (h : At4 w k a b c d) (q o : Nat) (hq : q < 4) :
    At4 (w.setCell ⟨k, q, none⟩ (.int .u64 (o : Int))) k (if q = 0 then o else a) (if q = 1 then o else b) (if q = 2 then o else c) (if q = 3 then o else d) := by
  have h' : q = 0 ∨ q = 1 ∨ q = 2 ∨ q = 3 := by omega
  rcases h' with rfl | rfl | rfl | rfl
  · exact h.set0 o
  · exact h.set1 o
  · exact h.set2 o
  · exact h.set3 o
theorem of_word {a b c d M k B : Nat} (ha : a < 18446744073709551616) (hb : b < 18446744073709551616) (hc : c < 18446744073709551616) (hd : d < 18446744073709551616) (hk : k < 32) (hB : B < 256) (hv : val a b c d = M * 256 ^ (k + 1)) :
    bits .or .u64 (wd a b c d (k / 8) : Int) ((B * 2 ^ (8 * (k % 8)) : Nat) : Int) = ((wd a b c d (k / 8) + B * 2 ^ (8 * (k % 8)) : Nat) : Int) ∧ wd a b c d (k / 8) + B * 2 ^ (8 * (k % 8)) < 18446744073709551616 := by
  have h1 : wd a b c d (k / 8) = 256 ^ (k % 8 + 1) * (M % 256 ^ (7 - k % 8)) := by
    rw [wd_eq (k / 8) (by omega) ha hb hc hd, hv, of_div rfl rfl]
  obtain ⟨h2, h3⟩ := of_or (y := M % 256 ^ (7 - k % 8)) (x := B) (r := k % 8) (by omega) hB (Nat.mod_lt _ (Nat.pow_pos (by decide)))
  rw [h1]
  refine ⟨?_, h3⟩
  rw [bits_or_u64_nat _ _ (by omega) (by omega), h2]
theorem of_step {a b c d k B o : Nat} (hk : k < 32) (ho : o = wd a b c d (k / 8) + B * 2 ^ (8 * (k % 8))) :
    val (if k / 8 = 0 then o else a) (if k / 8 = 1 then o else b) (if k / 8 = 2 then o else c) (if k / 8 = 3 then o else d) = val a b c d + B * 256 ^ k := by
  have h := val_set a b c d (k / 8) o (by omega)
  have e : (256 : Nat) ^ k = 2 ^ (64 * (k / 8)) * 2 ^ (8 * (k % 8)) := by
    rw [← Nat.pow_add, show 64 * (k / 8) + 8 * (k % 8) = 8 * k by omega, Nat.pow_mul]
  rw [ho, Nat.mul_add, ← Nat.mul_assoc, Nat.mul_comm (2 ^ (64 * (k / 8))) B, Nat.mul_assoc, ← e] at h
  rw [ho]
  omega
theorem beV_next (s : ByteArray) (i : Nat) (hi : i < s.size) : beV (s.data.extract 0 (i + 1)).toList = beV (s.data.extract 0 i).toList * 256 + s[i].toNat := by
  have e : (s.data.extract 0 (i + 1)).toList = (s.data.extract 0 i).toList ++ [s[i]] := by
    rw [Array.extract_succ_right (by omega) hi, Array.toList_push]
    rfl
  rw [e, beV_append]
  simp [beV]
end Go.Proofs.Ytifkmkllljfeaaa
namespace Go.Proofs.Ytifkmkllljfeaaa
open Go.RowKit Go.Sort Go.Deep
/-- A prime of the reference, two numbers and a result, each in a block of its own. -/
theorem keptF3 (w : World) (p0 p1 p2 p3 c0 c1 c2 c3 a b c d p q r s : Nat) :
    Kept w w.heap.size [⟨w.heap.size, 0, p0, p1, p2, p3⟩, ⟨w.heap.size, 4, c0, c1, c2, c3⟩, ⟨w.heap.size + 1, 0, a, b, c, d⟩, ⟨w.heap.size + 1 + 1, 0, p, q, r, s⟩, ⟨w.heap.size + 1 + 1 + 1, 0, 0, 0, 0, 0⟩]
      ((((w.alloc (.cells #[.int .u64 (p0 : Int), .int .u64 (p1 : Int), .int .u64 (p2 : Int), .int .u64 (p3 : Int), .int .u64 (c0 : Int), .int .u64 (c1 : Int), .int .u64 (c2 : Int), .int .u64 (c3 : Int)] 46)).alloc (.cells #[.int .u64 (a : Int), .int .u64 (b : Int), .int .u64 (c : Int), .int .u64 (d : Int)] 44)).alloc (.cells #[.int .u64 (p : Int), .int .u64 (q : Int), .int .u64 (r : Int), .int .u64 (s : Int)] 44)).alloc (.cells #[.int .u64 0, .int .u64 0, .int .u64 0, .int .u64 0] 44)) := by
  have F := (((At8.made w 46 p0 p1 p2 p3 c0 c1 c2 c3 rfl).alloc (.cells #[.int .u64 (a : Int), .int .u64 (b : Int), .int .u64 (c : Int), .int .u64 (d : Int)] 44)).alloc (.cells #[.int .u64 (p : Int), .int .u64 (q : Int), .int .u64 (r : Int), .int .u64 (s : Int)] 44)).alloc (.cells #[.int .u64 0, .int .u64 0, .int .u64 0, .int .u64 0] 44)
  refine (((((Kept.mk1 (below4 w _ _ _ _) (below4 w _ _ _ _).size).cons ?_).cons ?_).cons ?_).cons ?_).cons ?_
  · exact (At4.made _ 44 0 0 0 0 (by simp)).blk
  · exact ((At4.made _ 44 p q r s (by simp)).alloc _).blk
  · exact (((At4.made _ 44 a b c d (by simp)).alloc _).alloc _).blk
  · exact ⟨F.c4, F.c5, F.c6, F.c7, F.fz⟩
  · exact ⟨F.c0, F.c1, F.c2, F.c3, F.fz⟩
theorem keptF2 (w : World) (p0 p1 p2 p3 c0 c1 c2 c3 a b c d : Nat) :
    Kept w w.heap.size [⟨w.heap.size, 0, p0, p1, p2, p3⟩, ⟨w.heap.size, 4, c0, c1, c2, c3⟩, ⟨w.heap.size + 1, 0, a, b, c, d⟩, ⟨w.heap.size + 1 + 1, 0, 0, 0, 0, 0⟩]
      (((w.alloc (.cells #[.int .u64 (p0 : Int), .int .u64 (p1 : Int), .int .u64 (p2 : Int), .int .u64 (p3 : Int), .int .u64 (c0 : Int), .int .u64 (c1 : Int), .int .u64 (c2 : Int), .int .u64 (c3 : Int)] 46)).alloc (.cells #[.int .u64 (a : Int), .int .u64 (b : Int), .int .u64 (c : Int), .int .u64 (d : Int)] 44)).alloc (.cells #[.int .u64 0, .int .u64 0, .int .u64 0, .int .u64 0] 44)) := by
  have F := ((At8.made w 46 p0 p1 p2 p3 c0 c1 c2 c3 rfl).alloc (.cells #[.int .u64 (a : Int), .int .u64 (b : Int), .int .u64 (c : Int), .int .u64 (d : Int)] 44)).alloc (.cells #[.int .u64 0, .int .u64 0, .int .u64 0, .int .u64 0] 44)
  refine ((((Kept.mk1 (below3 w _ _ _) (below3 w _ _ _).size).cons ?_).cons ?_).cons ?_).cons ?_
  · exact (At4.made _ 44 0 0 0 0 (by simp)).blk
  · exact ((At4.made _ 44 a b c d (by simp)).alloc _).blk
  · exact ⟨F.c4, F.c5, F.c6, F.c7, F.fz⟩
  · exact ⟨F.c0, F.c1, F.c2, F.c3, F.fz⟩
theorem keptF1 (w : World) (p0 p1 p2 p3 c0 c1 c2 c3 : Nat) :
    Kept w w.heap.size [⟨w.heap.size, 0, p0, p1, p2, p3⟩, ⟨w.heap.size, 4, c0, c1, c2, c3⟩, ⟨w.heap.size + 1, 0, 0, 0, 0, 0⟩] ((w.alloc (.cells #[.int .u64 (p0 : Int), .int .u64 (p1 : Int), .int .u64 (p2 : Int), .int .u64 (p3 : Int), .int .u64 (c0 : Int), .int .u64 (c1 : Int), .int .u64 (c2 : Int), .int .u64 (c3 : Int)] 46)).alloc (.cells #[.int .u64 0, .int .u64 0, .int .u64 0, .int .u64 0] 44)) := by
  have F := (At8.made w 46 p0 p1 p2 p3 c0 c1 c2 c3 rfl).alloc (.cells #[.int .u64 0, .int .u64 0, .int .u64 0, .int .u64 0] 44)
  refine (((Kept.mk1 (below2 w _ _) (below2 w _ _).size).cons ?_).cons ?_).cons ?_
  · exact (At4.made _ 44 0 0 0 0 (by simp)).blk
  · exact ⟨F.c4, F.c5, F.c6, F.c7, F.fz⟩
  · exact ⟨F.c0, F.c1, F.c2, F.c3, F.fz⟩
theorem or_nat (a b : Nat) (ha : a < 18446744073709551616) (hb : b < 18446744073709551616) : ∃ x : Nat, bits .or .u64 (a : Int) (b : Int) = (x : Int) ∧ (x = 0 ↔ a = 0 ∧ b = 0) ∧ x < 18446744073709551616 :=
  ⟨a ||| b, bits_or_u64_nat a b ha hb, Nat.or_eq_zero_iff, Nat.or_lt_two_pow (n := 64) ha hb⟩
set_option maxHeartbeats 1000000 in
theorem rZero_any (x : Value) (m : Nat) (hx : Four x m) (w : World) : Calls Try.prog 19 #[x] w (Ret fun e w' => Below w.heap.size w w' ∧ e = .bool (decide (m = 0))) := by
  obtain ⟨a, b, c, d, rfl, ha, hb, hc, hd, em⟩ := id hx
  obtain ⟨y, o1, z1, l1⟩ := or_nat a b ha hb
  obtain ⟨z, o2, z2, l2⟩ := or_nat y c l1 hc
  obtain ⟨t, o3, z3, l3⟩ := or_nat z d l2 hd
  have hz : decide (m = 0) = decide (t = 0) := by
    rw [decide_eq_decide, z3, z2, z1, em]
    unfold val
    omega
  rw [hz]
  clear z1 z2 z3 hz em hx
  go_enter Try.func19, Try.ntmps19
  go_wp2
  go_ret
  exact ⟨_, rfl, below1 _ _, by by_cases h : t = 0 <;> simp [h]⟩
theorem neg_val {P m s k : Nat} (hm : m < P) (_ : P < top) (h0 : ¬ m = 0) (hs : s < top) (hk : k ≤ 1) (h : s + m = P + top * k) : s = (P - m) % P := by
  have : k = 0 ∨ k = 1 := by omega
  rw [Nat.mod_eq_of_lt (by omega)]
  rcases this with h' | h' <;> rw [h'] at h <;> omega
end Go.Proofs.Ytifkmkllljfeaaa
namespace Go.Proofs.Ytifkmkllljfeaaa
open Go.RowKit Go.Sort Go.Deep
theorem uFq : (Try.prog.underlying 46).map (·.isRow) = some true := by kernel_rfl
theorem iFq : (Try.prog.info? 46).map (·.size) = some 8 := by kernel_rfl
def rl1 : List Value := [.int .u64 13822214165235122497, .int .u64 13451932020343611451, .int .u64 18446744073709551614, .int .u64 18446744073709551615, .int .u64 4624529908474429119, .int .u64 4994812053365940164, .int .u64 1, .int .u64 0]
def rv1 : Value := .agg rl1.toArray
theorem rMake1_c : Gives 28 #[.int .i64 1] rv1 := fun w => (rMake1 w).mono (by rintro e w' ⟨v, rfl, hb, rfl⟩; exact ⟨_, rfl, hb, rfl⟩)
set_option maxHeartbeats 2000000 in
set_option maxRecDepth 100000 in
theorem Q3_c  : Gives 16 #[] rv1 := by
  intro w
  go_enter Try.func16, Try.ntmps16
  refine RG.M.enter [] 2 (by kernel_rfl) ?_
  intro a0 M0
  repeat refine wp_seq ?_
  refine M0.t [.m 0 [] 0] [(0, (RG.z 8))] [] [(RG.z 8)] [(0, (.p 0 0))] ⟨RG.mk 0 46, trivial⟩ ?_
  intro j1 a1 w1 M1
  repeat refine wp_seq ?_
  refine M1.t [.c 1 [] rv1, .u [(1, 0)] 0] [] [(0, 1, rl1)] [rl1] [(0, (.p 0 0))] ⟨RG.cl (rMake1_c), RG.pt iFq, trivial⟩ ?_
  intro a2 w2 M2
  refine wp_ret ?_
  refine bodyPost_ret (v := rv1) (RG.results_row M2.st 0 46 rfl 0 _ rfl (M2.at (s := (.p 0 0))) uFq iFq) M2.sl.defers ?_
  exact ⟨_, rfl, M2.st.bel.below, rfl⟩
/-- What the reference's Number answers, modulo the order. -/
def nuV (bs : Bs) : Nat := if bs.size = 32 then beV bs.toList else 0
theorem rq_nu {N : Nat} {bs : Bs} {n : Nat} (h : rq N bs = some n) : n = nuV bs := by
  unfold rq at h
  split at h
  · rename_i hc
    unfold nuV
    rw [if_pos hc.1]
    exact (Option.some.inj h).symm
  · cases h
end Go.Proofs.Ytifkmkllljfeaaa
namespace Go.Proofs.Ytifkmkllljfeaaa
open Go.RowKit Go.Sort Go.Deep
theorem sub_val {P m n : Nat} (hn : n < P) : (m + (P - n) % P) % P = (m + P - n) % P := by
  rw [Nat.add_mod, Nat.mod_mod, ← Nat.add_mod, show m + P - n = m + (P - n) by omega]
end Go.Proofs.Ytifkmkllljfeaaa
namespace Go.Proofs.Ytifkmkllljfeaaa
open Go.RowKit Go.Sort Go.Deep
end Go.Proofs.Ytifkmkllljfeaaa
namespace Go.Proofs.Ytifkmkllljfeaaa
open Go.RowKit Go.Sort Go.Deep
theorem or_high (v t r : Nat) (hr : r < 64) (hv : v < 2 ^ r) (ht : t < 2) : bits .or .u64 (v : Int) ((t * 2 ^ r : Nat) : Int) = ((v + t * 2 ^ r : Nat) : Int) ∧ v + t * 2 ^ r < 18446744073709551616 := by
  have h1 : 2 ^ r ≤ 2 ^ 63 := Nat.pow_le_pow_right (by decide) (by omega)
  have h2 : t * 2 ^ r ≤ 1 * 2 ^ r := Nat.mul_le_mul_right _ (by omega)
  have h3 : (2 : Nat) ^ 63 = 9223372036854775808 := by decide
  have e := Nat.two_pow_add_eq_or_of_lt hv t
  refine ⟨?_, by omega⟩
  rw [bits_or_u64_nat _ _ (by omega) (by omega), Nat.or_comm, Nat.mul_comm t, ← e, Nat.add_comm]
/-- The word that gets a bit of a quarter is empty from there on. -/
theorem quart_word {a b c d Q i : Nat} (ha : a < 18446744073709551616) (hb : b < 18446744073709551616) (hc : c < 18446744073709551616) (hd : d < 18446744073709551616) (hi : i < 256) (hv : val a b c d = Q % 2 ^ i) : wd a b c d (i / 64) < 2 ^ (i % 64) := by
  rw [wd_eq (i / 64) (by omega) ha hb hc hd, hv]
  refine Nat.lt_of_le_of_lt (Nat.mod_le _ _) ?_
  refine Nat.div_lt_of_lt_mul ?_
  rw [← Nat.pow_add, show 64 * (i / 64) + i % 64 = i by omega]
  exact Nat.mod_lt _ (Nat.pow_pos (by decide))
theorem quart_step {a b c d Q i t o : Nat} (hi : i < 256) (hv : val a b c d = Q % 2 ^ i) (ht : t = Q / 2 ^ i % 2) (ho : o = wd a b c d (i / 64) + t * 2 ^ (i % 64)) :
    val (if i / 64 = 0 then o else a) (if i / 64 = 1 then o else b) (if i / 64 = 2 then o else c) (if i / 64 = 3 then o else d) = Q % 2 ^ (i + 1) := by
  have h := val_set a b c d (i / 64) o (by omega)
  have e : (2 : Nat) ^ i = 2 ^ (64 * (i / 64)) * 2 ^ (i % 64) := by
    rw [← Nat.pow_add, show 64 * (i / 64) + i % 64 = i by omega]
  rw [ho, Nat.mul_add, ← Nat.mul_assoc, Nat.mul_comm (2 ^ (64 * (i / 64))) t, Nat.mul_assoc, ← e] at h
  rw [ho, Nat.pow_succ, Nat.mod_mul, ← ht, Nat.mul_comm (2 ^ i)]
  omega
theorem sqS_of {w W : World} {k0 k1 k2 k3 j v p0 p1 p2 p3 c0 c1 c2 c3 a b c d qa qb qc qd : Nat} (h : Kept w k0 (⟨k3, 0, qa, qb, qc, qd⟩ :: [⟨k0, 0, p0, p1, p2, p3⟩, ⟨k0, 4, c0, c1, c2, c3⟩, ⟨k1, 0, a, b, c, d⟩, ⟨k2, 0, 0, 0, 0, 0⟩]) W) (hx : W.cell? ⟨k3, j, none⟩ = some (.int .u64 (v : Int))) : W.cell? ⟨k0, 0, none⟩ = some (.int .u64 (p0 : Int)) ∧ W.cell? ⟨k0, 1, none⟩ = some (.int .u64 (p1 : Int)) ∧ W.cell? ⟨k0, 2, none⟩ = some (.int .u64 (p2 : Int)) ∧ W.cell? ⟨k0, 3, none⟩ = some (.int .u64 (p3 : Int)) ∧ W.cell? ⟨k3, j, none⟩ = some (.int .u64 (v : Int)) ∧ Kept w k0 (⟨k3, 0, qa, qb, qc, qd⟩ :: [⟨k0, 0, p0, p1, p2, p3⟩, ⟨k0, 4, c0, c1, c2, c3⟩, ⟨k1, 0, a, b, c, d⟩, ⟨k2, 0, 0, 0, 0, 0⟩]) W :=
  ⟨h.tail.head.c0, h.tail.head.c1, h.tail.head.c2, h.tail.head.c3, hx, h⟩
theorem sqrS_of {w W : World} {k0 k1 k2 k8 p0 p1 p2 p3 c0 c1 c2 c3 a b c d ra rb rc rd : Nat} (h : Kept w k0 (⟨k8, 0, ra, rb, rc, rd⟩ :: [⟨k0, 0, p0, p1, p2, p3⟩, ⟨k0, 4, c0, c1, c2, c3⟩, ⟨k1, 0, a, b, c, d⟩, ⟨k2, 0, 0, 0, 0, 0⟩]) W) : W.cell? ⟨k0, 0, none⟩ = some (.int .u64 (p0 : Int)) ∧ W.cell? ⟨k0, 1, none⟩ = some (.int .u64 (p1 : Int)) ∧ W.cell? ⟨k0, 2, none⟩ = some (.int .u64 (p2 : Int)) ∧ W.cell? ⟨k0, 3, none⟩ = some (.int .u64 (p3 : Int)) ∧ W.cell? ⟨k0, 4, none⟩ = some (.int .u64 (c0 : Int)) ∧ W.cell? ⟨k0, 5, none⟩ = some (.int .u64 (c1 : Int)) ∧ W.cell? ⟨k0, 6, none⟩ = some (.int .u64 (c2 : Int)) ∧ W.cell? ⟨k0, 7, none⟩ = some (.int .u64 (c3 : Int)) ∧ W.cell? ⟨k8, 0, none⟩ = some (.int .u64 (ra : Int)) ∧ W.cell? ⟨k8, 1, none⟩ = some (.int .u64 (rb : Int)) ∧ W.cell? ⟨k8, 2, none⟩ = some (.int .u64 (rc : Int)) ∧ W.cell? ⟨k8, 3, none⟩ = some (.int .u64 (rd : Int)) ∧ W.cell? ⟨k1, 0, none⟩ = some (.int .u64 (a : Int)) ∧ W.cell? ⟨k1, 1, none⟩ = some (.int .u64 (b : Int)) ∧ W.cell? ⟨k1, 2, none⟩ = some (.int .u64 (c : Int)) ∧ W.cell? ⟨k1, 3, none⟩ = some (.int .u64 (d : Int)) ∧ Kept w k0 (⟨k8, 0, ra, rb, rc, rd⟩ :: [⟨k0, 0, p0, p1, p2, p3⟩, ⟨k0, 4, c0, c1, c2, c3⟩, ⟨k1, 0, a, b, c, d⟩, ⟨k2, 0, 0, 0, 0, 0⟩]) W :=
  ⟨h.tail.head.c0, h.tail.head.c1, h.tail.head.c2, h.tail.head.c3, h.tail.tail.head.c0, h.tail.tail.head.c1, h.tail.tail.head.c2, h.tail.tail.head.c3, h.head.c0, h.head.c1, h.head.c2, h.head.c3, h.tail.tail.tail.head.c0, h.tail.tail.tail.head.c1, h.tail.tail.tail.head.c2, h.tail.tail.tail.head.c3, h⟩
end Go.Proofs.Ytifkmkllljfeaaa
namespace Go.Proofs.Ytifkmkllljfeaaa
open Go.RowKit Go.Sort Go.Deep
/-- Bytes of a number, one by one, as the reference lays them. -/
def bytesTo (T : Bs) : Nat → Bs
  | 0 => Array.replicate 32 0
  | k + 1 => (bytesTo T k).setIfInBounds k T[k]!
theorem bytesTo_size (T : Bs) (k : Nat) : (bytesTo T k).size = 32 := by
  induction k with
  | zero => simp [bytesTo]
  | succ k ih => simp [bytesTo, ih]
theorem bytesTo_at (T : Bs) (k j : Nat) (hk : k ≤ 32) (hj : j < k) : (bytesTo T k)[j]! = T[j]! := by
  induction k with
  | zero => omega
  | succ k ih =>
    by_cases h : j = k
    · subst h
      exact getElem!_set_same _ _ _ (by rw [bytesTo_size]; omega)
    · rw [bytesTo, getElem!_set_other _ _ _ _ h]
      exact ih (by omega) (by omega)
theorem bytesTo_all {w : World} {g : Nat} {T : Bs} (hT : T.size = 32) (h : Holds encB w g 0 (bytesTo T 32)) : Holds encB w g 0 T := by
  intro j hj
  rw [← bytesTo_at T 32 j (Nat.le_refl _) (by omega)]
  exact h j (by rw [bytesTo_size]; omega)
/-- The word in which a byte lies. -/
def wordOf (a b c d k : Nat) : Nat := if k < 8 then a else if k < 16 then b else if k < 24 then c else d
theorem be8_at (x j : Nat) (hj : j < 8) : (be8 x)[j]! = UInt8.ofNat (x / 2 ^ (8 * (7 - j))) := by
  match j, hj with
  | 0, _ => rfl
  | 1, _ => rfl
  | 2, _ => rfl
  | 3, _ => rfl
  | 4, _ => rfl
  | 5, _ => rfl
  | 6, _ => rfl
  | 7, _ =>
    show UInt8.ofNat x = UInt8.ofNat (x / 2 ^ (8 * (7 - 7)))
    rw [Nat.sub_self, Nat.mul_zero, Nat.pow_zero, Nat.div_one]
theorem be32_at (a b c d i : Nat) (hi : i < 32) : (be32 a b c d)[i]! = UInt8.ofNat (wordOf a b c d (31 - i) / 2 ^ (8 * ((31 - i) % 8))) := by
  have e : be32 a b c d = be8 d ++ be8 c ++ be8 b ++ be8 a := rfl
  have s1 : (be8 d ++ be8 c).size = 16 := by simp only [Array.size_append, be8_size]
  have s2 : (be8 d ++ be8 c ++ be8 b).size = 24 := by simp only [Array.size_append, be8_size]
  unfold wordOf
  by_cases k1 : i < 8
  · rw [if_neg (by omega), if_neg (by omega), if_neg (by omega), show (31 - i) % 8 = 7 - i by omega, ← be8_at d i k1,
      e, app_front _ _ i (by omega), ← getElem!_pos (be8 d ++ be8 c ++ be8 b) i (by omega), app_front _ _ i (by omega), ← getElem!_pos (be8 d ++ be8 c) i (by omega), app_front _ _ i (by rw [be8_size]; exact k1), ← getElem!_pos (be8 d) i (by rw [be8_size]; exact k1)]
  · by_cases k2 : i < 16
    · rw [if_neg (by omega), if_neg (by omega), if_pos (by omega), show (31 - i) % 8 = 7 - (i - 8) by omega, ← be8_at c (i - 8) (by omega),
        e, app_front _ _ i (by omega), ← getElem!_pos (be8 d ++ be8 c ++ be8 b) i (by omega), app_front _ _ i (by omega), ← getElem!_pos (be8 d ++ be8 c) i (by omega), app_back _ _ i (by rw [be8_size]; omega) (by rw [be8_size, be8_size]; omega), be8_size]
    · by_cases k3 : i < 24
      · rw [if_neg (by omega), if_pos (by omega), show (31 - i) % 8 = 7 - (i - 16) by omega, ← be8_at b (i - 16) (by omega),
          e, app_front _ _ i (by omega), ← getElem!_pos (be8 d ++ be8 c ++ be8 b) i (by omega), app_back _ _ i (by omega) (by rw [s1, be8_size]; omega), s1]
      · rw [if_pos (by omega), show (31 - i) % 8 = 7 - (i - 24) by omega, ← be8_at a (i - 24) (by omega),
          e, app_back _ _ i (by omega) (by rw [s2, be8_size]; omega), s2]
theorem wordOf_lt {a b c d : Nat} (k : Nat) (ha : a < 18446744073709551616) (hb : b < 18446744073709551616) (hc : c < 18446744073709551616) (hd : d < 18446744073709551616) : wordOf a b c d k < 18446744073709551616 := by
  unfold wordOf; split; exact ha; split; exact hb; split; exact hc; exact hd
theorem At4.word {w : World} {k a b c d : Nat} (h : At4 w k a b c d) (i : Nat) (hi : i < 32) : w.cell? ⟨k, i / 8, none⟩ = some (.int .u64 (wordOf a b c d i : Int)) := by
  unfold wordOf
  by_cases h1 : i < 8
  · rw [if_pos h1, show i / 8 = 0 by omega]; exact h.c0
  · rw [if_neg h1]
    by_cases h2 : i < 16
    · rw [if_pos h2, show i / 8 = 1 by omega]; exact h.c1
    · rw [if_neg h2]
      by_cases h3 : i < 24
      · rw [if_pos h3, show i / 8 = 2 by omega]; exact h.c2
      · rw [if_neg h3, show i / 8 = 3 by omega]; exact h.c3
set_option maxHeartbeats 2000000 in
set_option maxRecDepth 100000 in
theorem rBytes_any (x : Value) (m : Nat) (w : World) (hx : Four x m) :
    Calls Try.prog 20 #[x] w (Ret fun e w' => Below w.heap.size w w' ∧ ∃ a b c d : Nat, x = .agg #[.int .u64 (a : Int), .int .u64 (b : Int), .int .u64 (c : Int), .int .u64 (d : Int)] ∧ e = .string ⟨be32 a b c d⟩) := by
  obtain ⟨a, b, c, d, rfl, ha, hb, hc, hd, em⟩ := hx
  clear em
  have hmk : ∀ w : World, (Instr.makeSlice 23 (.int .i64 32) (.int .i64 32)).run Try.prog w = .ok (.slice (some ⟨w.heap.size, 0, none⟩) 32 32) (w.alloc (.cells (madeCells #[.int .u8 0] 32) 5)) :=
    run_make_row' (P := Try.prog) 23 5 (.int .u8 0) 1 slice22 info5 rfl .i64 .i64 32 (by omega) (by omega)
  go_enter Try.func20, Try.ntmps20
  go_wp2
  have hH0 : Holds encB (((w.alloc (.cells #[.int .u64 (a : Int), .int .u64 (b : Int), .int .u64 (c : Int), .int .u64 (d : Int)] 44)).alloc (.cells (madeCells #[.int .u8 0] 32) 5))) (w.heap.size + 1) 0 (Array.replicate 32 0) := by
    have := Holds.made (enc := encB) (w.alloc (.cells #[.int .u64 (a : Int), .int .u64 (b : Int), .int .u64 (c : Int), .int .u64 (d : Int)] 44)) 5 32 0
    rw [World.size_alloc] at this
    exact this
  have hb0 := below2 w (.cells #[.int .u64 (a : Int), .int .u64 (b : Int), .int .u64 (c : Int), .int .u64 (d : Int)] 44) (.cells (madeCells #[.int .u8 0] 32) 5)
  have X := (At4.made w 44 a b c d rfl).alloc (.cells (madeCells #[.int .u8 0] 32) 5)
  generalize World.alloc _ _ = W at hH0 hb0 X ⊢
  have HBW : Hid (Below w.heap.size w W) := hb0
  clear hb0 hmk
  go_loopg [4] 32 (fun gk s4 wr => ∃ (k : Nat), k + gk = 32 ∧ s4 = .int .i64 (k : Int) ∧ Holds encB wr (w.heap.size + 1) 0 (bytesTo (be32 a b c d) k) ∧ At4 wr w.heap.size a b c d ∧ Hid (Below w.heap.size w wr))
  case atStart => exact ⟨0, rfl, rfl, hH0, X, HBW⟩
  case round =>
    obtain ⟨k, hk, rfl, hB, X', HB⟩ := hrel
    by_cases hlt : k < 32
    · obtain ⟨c0, f0⟩ := hB k (by rw [bytesTo_size]; omega)
      rw [Nat.zero_add] at c0 f0
      have xw := X'.word (31 - k) (by omega)
      have hwl := wordOf_lt (31 - k) ha hb hc hd
      have hbyte := be32_at a b c d k hlt
      obtain ⟨q, hq⟩ : ∃ q, 31 - k = q := ⟨_, rfl⟩
      rw [hq] at xw hwl hbyte
      generalize wordOf a b c d q = v at xw hwl hbyte
      have i1 : (31 : Int) - (k : Int) = (q : Int) := by omega
      have i2 : (q : Int).tdiv 8 = ((q / 8 : Nat) : Int) := by rw [Int.tdiv_eq_ediv_of_nonneg (by omega)]; omega
      have i3 : (q : Int).tmod 8 = ((q % 8 : Nat) : Int) := by rw [Int.tmod_eq_emod_of_nonneg (by omega)]; omega
      have i4 : (q / 8 : Nat) < 4 := by omega
      have hlt' : (k : Int) < 32 := by omega
      have hs1 : (8 : Int) * ((q % 8 : Nat) : Int) = ((8 * (q % 8) : Nat) : Int) := by omega
      have hv : (Value.int .u8 ((v : Int) / 2 ^ (8 * (q % 8)) % 256)) = encB (be32 a b c d)[k]! := by
        rw [hbyte, ← byte_at v (2 ^ (8 * (q % 8))), Int.natCast_pow]
        rfl
      have Hv : Hid (_ = _) := hv
      clear hv hbyte hq
      go_wp2
      rw [Hv.out]
      go_roundg (gk - 1)
      case measure => omega
      case rel =>
        refine ⟨k + 1, by omega, rfl, ?_, X'.other (by omega) _, HB.out.setCell (p := ⟨w.heap.size + 1, k, none⟩) (Nat.le_succ _) _⟩
        have := Holds.set hB (i := k) (by rw [bytesTo_size]; omega) (be32 a b c d)[k]!
        rw [Nat.zero_add] at this
        exact this
    · have hk32 : k = 32 := by omega
      subst hk32
      have hT := bytesTo_all (be32_size a b c d) hB
      have kc := conv_str Try.prog 23 9 5 slice22 int5 str9 wr (w.heap.size + 1) 0 32 32 _ hT (be32_size a b c d)
      clear hB hT
      go_wp2
      go_ret
      exact ⟨_, rfl, HB.out, a, b, c, d, rfl, rfl⟩
end Go.Proofs.Ytifkmkllljfeaaa
namespace Go.Proofs.Ytifkmkllljfeaaa
open Go.RowKit Go.Sort Go.Deep
/-- The order. -/
structure Ord (N : Nat) : Prop where
  gap : Gap 4624529908474429119 4994812053365940164 1 N
  ref : RefP 13822214165235122497 13451932020343611451 18446744073709551614 18446744073709551615 4624529908474429119 4994812053365940164 1 0 N
  le : N ≤ top
  n2 : 2 ≤ N % 18446744073709551616
variable {N : Nat}
theorem Ord.pos (O : Ord N) : 0 < N := by have := O.n2; omega
theorem Ord.four (O : Ord N) {a : Nat} (h : a < N) : Four (nv a) a := four_nv (Nat.lt_of_lt_of_le h O.le)
def sMi (N a b : Nat) : Nat := (a + N - b) % N
def sTi (N a b : Nat) : Nat := a * b % N
def sIn (N a : Nat) : Nat := a ^ (N - 2) % N
theorem Ord.mi (O : Ord N) (a b : Nat) : sMi N a b < N := Nat.mod_lt _ O.pos
theorem Ord.ti (O : Ord N) (a b : Nat) : sTi N a b < N := Nat.mod_lt _ O.pos
theorem Ord.inv (O : Ord N) (a : Nat) : sIn N a < N := Nat.mod_lt _ O.pos
theorem nv_words {a x y z u : Nat} (h : nv a = .agg #[.int .u64 (x : Int), .int .u64 (y : Int), .int .u64 (z : Int), .int .u64 (u : Int)]) : be32 x y z u = bx a := by
  have h1 : wn a = [.int .u64 (x : Int), .int .u64 (y : Int), .int .u64 (z : Int), .int .u64 (u : Int)] := by
    unfold nv at h
    injection h with h
    exact congrArg Array.toList h
  unfold wn at h1
  simp only [List.cons.injEq, Value.int.injEq, true_and, and_true, Int.natCast_inj] at h1
  obtain ⟨rfl, rfl, rfl, rfl⟩ := h1
  rfl
theorem qBytes_c (O : Ord N) {a : Nat} (ha : a < N) : Gives 20 #[nv a] (.string ⟨bx a⟩) := fun w =>
  (rBytes_any _ a w (O.four ha)).mono (by
    rintro e w' ⟨v, rfl, hb, x, y, z, u, he, rfl⟩
    exact ⟨_, rfl, hb, by rw [nv_words he]⟩)
/-- Bytes as cells. -/
def cb (b : Bs) : List Value := b.toList.map encB
theorem cb_length (b : Bs) : (cb b).length = b.size := by unfold cb; rw [List.length_map, Array.length_toList]
theorem cb_range {w : World} {g : Nat} {b : Bs} (h : Holds encB w g 0 b) : w.rangeAt g 0 (cb b) ∧ w.there g 0 (cb b).length := by
  refine ⟨fun j v hv => ?_, fun j hj => ?_⟩
  · have hj : j < b.size := by rw [← cb_length]; exact (List.getElem?_eq_some_iff.1 hv).1
    rw [(h j hj).1]
    unfold cb at hv
    rw [List.getElem?_map, Array.getElem?_toList, Array.getElem?_eq_getElem hj] at hv
    rw [getElem!_pos b j hj]
    exact hv
  · rw [cb_length] at hj
    exact ⟨by rw [(h j hj).1]; rfl, (h j hj).2⟩
theorem cb_holds {w : World} {g : Nat} {b : Bs} (h1 : w.rangeAt g 0 (cb b)) (h2 : w.there g 0 (cb b).length) : Holds encB w g 0 b := fun j hj => by
  refine ⟨h1 j _ ?_, (h2 j (by rw [cb_length]; exact hj)).2⟩
  unfold cb
  rw [List.getElem?_map, Array.getElem?_toList, Array.getElem?_eq_getElem hj, getElem!_pos b j hj]
  rfl
/-- A call answers new memory: n bytes. -/
def GivesB (f : FuncId) (args : Array Value) (b : Bs) (n : Nat) : Prop := ∀ w, Calls Try.prog f args w (Ret fun e w' => ∃ k, RG.Made w k (cb b) w' ∧ e = .slice (some ⟨k, 0, none⟩) n n)
theorem sBytes_c (O : Ord N) {a : Nat} (ha : a < N) : GivesB 25 #[nv a] (bx a) 32 := fun w =>
  (Bytes_any _ a w (O.four ha)).mono (by
    rintro e w' ⟨v, rfl, hb, g, x, y, z, u, rfl, hle, he, hH⟩
    rw [nv_words he] at hH
    obtain ⟨h1, h2⟩ := cb_range hH
    exact ⟨_, rfl, g, ⟨hb, hle, Holds.lt hH (by rw [bx_size]; omega), h1, h2⟩, rfl⟩)
/-- Two numbers are one? -/
theorem nv_inj {a b : Nat} (ha : a < top) (hb : b < top) : (nv a = nv b) ↔ a = b := ⟨fun h => (four_nv ha).num (h ▸ four_nv hb), fun h => h ▸ rfl⟩
end Go.Proofs.Ytifkmkllljfeaaa
namespace Go.Proofs.Ytifkmkllljfeaaa
open Go.RowKit Go.Sort Go.Deep
theorem eqN {a b : Nat} (ha : a < top) (hb : b < top) (w : World) : (binOp .eql 44 (nv a) (nv b)).run Try.prog w = .ok (.bool (decide (a = b))) w := by
  have h1 : (binOp .eql 44 (nv a) (nv b)).run Try.prog w = .ok (.bool (decide (a % 18446744073709551616 = b % 18446744073709551616 ∧ a / 18446744073709551616 % 18446744073709551616 = b / 18446744073709551616 % 18446744073709551616 ∧ a / 340282366920938463463374607431768211456 % 18446744073709551616 = b / 340282366920938463463374607431768211456 % 18446744073709551616 ∧ a / 6277101735386680763835789423207666416102355444464034512896 % 18446744073709551616 = b / 6277101735386680763835789423207666416102355444464034512896 % 18446744073709551616))) w := by
    show (binOp .eql 44 (.agg _) (.agg _)).run Try.prog w = _
    rw [run_eql_struct]
    have h2 := eqR_d 9998 (a % 18446744073709551616) (a / 18446744073709551616 % 18446744073709551616) (a / 340282366920938463463374607431768211456 % 18446744073709551616) (a / 6277101735386680763835789423207666416102355444464034512896 % 18446744073709551616) (b % 18446744073709551616) (b / 18446744073709551616 % 18446744073709551616) (b / 340282366920938463463374607431768211456 % 18446744073709551616) (b / 6277101735386680763835789423207666416102355444464034512896 % 18446744073709551616) w
    unfold wn
    rw [h2, Result.andThen_ok]
  rw [h1]
  simp only [wn_inj ha hb]
theorem eqS2 (a b c d p q r s : Nat) (w : World) : (binOp .eql 39 (.agg #[.int .u64 (a : Int), .int .u64 (b : Int), .int .u64 (c : Int), .int .u64 (d : Int)]) (.agg #[.int .u64 (p : Int), .int .u64 (q : Int), .int .u64 (r : Int), .int .u64 (s : Int)])).run Try.prog w = .ok (.bool (decide (a = p ∧ b = q ∧ c = r ∧ d = s))) w := by
  go_simp
  rw [eqP_d 9997, Result.andThen_ok]
  by_cases h1 : a = p ∧ b = q ∧ c = r ∧ d = s
  · rw [decide_eq_true h1]
    obtain ⟨rfl, rfl, rfl, rfl⟩ := h1
    simp
  · have h2 : (decide (a = p) && (decide (b = q) && (decide (c = r) && decide (d = s)))) = false := by
      rw [← Bool.not_eq_true, Bool.and_eq_true, Bool.and_eq_true, Bool.and_eq_true]
      simpa using h1
    rw [decide_eq_false h1, h2]
    simp
theorem eqS {a b : Nat} (ha : a < top) (hb : b < top) (w : World) : (binOp .eql 39 (nv a) (nv b)).run Try.prog w = .ok (.bool (decide (a = b))) w := by
  refine (eqS2 (a % 18446744073709551616) (a / 18446744073709551616 % 18446744073709551616) (a / 340282366920938463463374607431768211456 % 18446744073709551616) (a / 6277101735386680763835789423207666416102355444464034512896 % 18446744073709551616) (b % 18446744073709551616) (b / 18446744073709551616 % 18446744073709551616) (b / 340282366920938463463374607431768211456 % 18446744073709551616) (b / 6277101735386680763835789423207666416102355444464034512896 % 18446744073709551616) w).trans ?_
  simp only [wn_inj ha hb]
end Go.Proofs.Ytifkmkllljfeaaa
set_option linter.unusedVariables false
namespace Go.Proofs.Ytifkmkllljfeaaa
open Go.RowKit Go.Sort Go.Deep
variable {N : Nat}
theorem u40 : (Try.prog.underlying 39).map (·.isRow) = some true := by kernel_rfl
theorem i40 : (Try.prog.info? 39).map (·.size) = some 4 := by kernel_rfl
theorem u38 : (Try.prog.underlying 37).map (·.isRow) = some true := by kernel_rfl
theorem i38 : (Try.prog.info? 37).map (·.size) = some 4 := by kernel_rfl
theorem u44 : (Try.prog.underlying 44).map (·.isRow) = some true := by kernel_rfl
theorem i44 : (Try.prog.info? 44).map (·.size) = some 4 := by kernel_rfl
theorem u48 : (Try.prog.underlying 46).map (·.isRow) = some true := by kernel_rfl
theorem i48 : (Try.prog.info? 46).map (·.size) = some 8 := by kernel_rfl
set_option maxHeartbeats 2000000 in
set_option maxRecDepth 100000 in
theorem sbytes_c (O : Ord N) {a : Nat} (ha : a < N) : GivesB 13 #[nv a] (bx a) 32 := by
  intro w
  go_enter Try.func13, Try.ntmps13
  refine RG.M.enter [(0, .v (nv a))] 6 (by kernel_rfl) ?_
  intro a0 M0
  repeat refine wp_seq ?_
  refine M0.t [.m 1 [] 0, .x 2 [] (.slice none 0 0)] [(0, (wn a))] [] [(wn a)] [(1, (.p 0 0)), (2, (.v (.slice none 0 0)))] ⟨RG.mk 0 39, RG.st, trivial⟩ ?_
  intro j1 a1 w1 M1
  repeat refine wp_seq ?_
  refine M1.t [.s 3 [] (.p 0 0), .x 4 [(3, 0)] (nv a), ⟨some 5, [(4, 1)], (.s 1 32 32), .make 1⟩, .s 2 [(5, 2)] (.s 1 32 32)] [(2, (cb (bx a)))] [] [(wn a), (cb (bx a))] [(2, (.s 1 32 32))] ⟨RG.st, RG.ld u38 i38, RG.cm 1 (fun w _ => sBytes_c O ha w) fun _ _ => by kernel_rfl, RG.st, trivial⟩ ?_
  intro j2 a2 w2 M2
  refine wp_ret ?_
  refine bodyPost_ret (v := _) (RG.results_t 2 rfl _ (M2.at (s := .s 1 32 32))) M2.sl.defers ?_
  exact ⟨_, rfl, _, M2.st.made (b := 1) rfl, rfl⟩
end Go.Proofs.Ytifkmkllljfeaaa
namespace Go.Proofs.Ytifkmkllljfeaaa.SP
open Go.RowKit Go.Sort Go.Deep
theorem copy_log {w : World} {b r : Nat} {L T : Bs} (hL : Holds encB w b 0 L) (hl : L.size = 32) (hT : Holds encB w r 0 T) (ht : T.size = 32) :
    (Builtin.copy_ #[23, 23] 3 #[.slice (some ⟨b, 0, none⟩) 32 32, .slice (some ⟨r, 0, none⟩) 32 32]).run Try.prog w = .ok (goInt 32) (w.setCells b 0 (T.toList.map encB)) := by
  have hlen : (T.toList.map encB).length = 32 := by rw [List.length_map, Array.length_toList, ht]
  have := run_copy_cells (P := Try.prog) w 23 23 3 5 b 0 32 32 ⟨r, 0, none⟩ 32 32 (T.toList.map encB) slice22 ints5 (by rw [hlen]; rfl)
    (fun j u hj => by
      obtain ⟨h1, h2⟩ := List.getElem?_eq_some_iff.1 hj
      rw [hlen] at h1
      have hc := (hT j (by omega)).1
      rw [getElem!_pos T j (by omega)] at hc
      rw [List.getElem_map, Array.getElem_toList] at h2
      have e1 : (⟨r, 0, none⟩ : Addr).add j = ⟨r, 0 + j, none⟩ := by
        unfold Addr.add
        by_cases h0 : j = 0
        · subst h0; rw [if_pos rfl]
        · rw [if_neg h0]
      rw [e1, hc, h2])
    (fun j hj => by rw [(hL j (by omega)).1]; rfl) (fun j hj => (hL j (by omega)).2)
    (fun u hu => by obtain ⟨x, _, rfl⟩ := List.mem_map.1 hu; rfl)
  rw [hlen] at this
  exact this
theorem holds_copied {w : World} {b : Nat} {L T : Bs} (hL : Holds encB w b 0 L) (hl : L.size = 32) (ht : T.size = 32) : Holds encB (w.setCells b 0 (T.toList.map encB)) b 0 T := by
  have hlen : (T.toList.map encB).length = 32 := by rw [List.length_map, Array.length_toList, ht]
  refine Holds.setCells hL (T.toList.map encB) 0 (by omega) (by omega) (fun j hj => ?_) (fun j h1 h2 => by omega)
  rw [hlen] at hj
  rw [List.getElem_map, Array.getElem_toList, Nat.zero_add, getElem!_pos T j (by omega)]
theorem become_end {w w2 : World} {b : Nat} {L T : Bs} (hL : Holds encB w b 0 L) (hl : L.size = 32) (ht : T.size = 32) (hb : b < w.heap.size) (hb2 : Below w.drew.heap.size w.drew w2) :
    Only b 0 32 w (w2.setCells b 0 (T.toList.map encB)) ∧ Holds encB (w2.setCells b 0 (T.toList.map encB)) b 0 T := by
  have hlen : (T.toList.map encB).length = 32 := by rw [List.length_map, Array.length_toList, ht]
  refine ⟨?_, holds_copied (Holds.below (Holds.drew hL) hb2 hb) hl ht⟩
  exact Only.setCells (((Only.refl b 0 32 w).drew).trans (Only.of_below hb2 rfl hb)) _ 0 (Nat.le_refl _) (by omega)
end Go.Proofs.Ytifkmkllljfeaaa.SP
namespace Go.Proofs.Ytifkmkllljfeaaa.SP
open Go.RowKit Go.Sort Go.Deep
def encV (v : Value) : Value := v
theorem strm_size (l : List UInt8) (n : Nat) : (strmL l n).size = n := by rw [strmL, streamL_size]
/-- S4: what a log bears. -/
def newL (label : List UInt8) : Bs := tagL [108, 111, 103] [label]
def sayL (L : Bs) (label text : List UInt8) : Bs := tagL [115, 97, 121] [L.toList, label, text]
def askL (L : Bs) (label : List UInt8) (n : Nat) : Bs := strmL (tagL [97, 115, 107] [L.toList, label]).toList n
def askedL (L : Bs) (label : List UInt8) : Bs := tagL [97, 115, 107, 101, 100] [L.toList, label]
theorem newL_size (l : List UInt8) : (newL l).size = 32 := tagL_size _ _
theorem sayL_size (L : Bs) (l t : List UInt8) : (sayL L l t).size = 32 := tagL_size _ _
theorem askedL_size (L : Bs) (l : List UInt8) : (askedL L l).size = 32 := tagL_size _ _
theorem askL_size (L : Bs) (l : List UInt8) (n : Nat) : (askL L l n).size = n := strm_size _ _
/-- '[]byte(s)' as a part. -/
theorem conv_part (s : ByteArray) (w : World) (hs : s.size ≤ 1099511627776) :
    ∃ c w', (convert 9 23 (.string s)).run Try.prog w = .ok (.slice (some ⟨w.heap.size, 0, none⟩) s.size c) w' ∧ s.size ≤ c ∧ Holds encB w' w.heap.size 0 s.data ∧ PartOk w' (.slice (some ⟨w.heap.size, 0, none⟩) s.size c) s.data.toList ∧ Below w.heap.size w w' ∧ w.heap.size < w'.heap.size := by
  obtain ⟨v2, W2, hcv, own2, hb2, hv2⟩ := conv_bytes (w := w) (B := 0) s (Nat.zero_le _)
  rw [hv2] at hcv own2
  have hlt : w.heap.size < W2.heap.size := by
    obtain ⟨g, cap, cur, h1, _, h3, _⟩ := own2
    injection h1 with h1
    injection h1 with h1
    injection h1 with h1
    omega
  obtain ⟨hq0, hq1, hle2, hH2⟩ := own2.holds
  rw [← hq1] at hle2
  have hH2' : Holds encB W2 w.heap.size 0 s.data := by simpa using hH2
  have hle : s.size ≤ grownCap w s.size 0 5 := hle2
  exact ⟨_, W2, hcv, hle, hH2', ⟨_, w.heap.size, 0, _, s.data, rfl, rfl, hle, hs, Or.inr ⟨rfl, hH2'⟩⟩, hb2, hlt⟩
/-- A list of parts that has just been laid. -/
theorem parts_new (W : World) (vs : Array Value) (ps : List (List UInt8)) (t : TypeId) (hl : vs.size = ps.length) (h : ∀ j, j < ps.length → PartOk W vs[j]! ps[j]!) :
    PartsOk (W.alloc (.cells vs t)) (some ⟨W.heap.size, 0, none⟩) ps := by
  refine Or.inr ⟨W.heap.size, 0, rfl, fun j hj => ⟨vs[j]!, ?_, (h j hj).below ((Below.refl _ _).alloc (Nat.le_refl _) _)⟩⟩
  have e0 : vs.map encV = vs := by
    have : encV = id := rfl
    rw [this, Array.map_id]
  have := (Holds.new (enc := encV) W t vs j (by omega)).1
  rw [e0] at this
  exact this
theorem part_log {w : World} {b : Nat} {L : Bs} (hL : Holds encB w b 0 L) (hl : L.size = 32) : PartOk w (.slice (some ⟨b, 0, none⟩) 32 32) L.toList :=
  ⟨_, b, 0, 32, L, by rw [hl], rfl, by omega, by omega, Or.inr ⟨rfl, hL⟩⟩
end Go.Proofs.Ytifkmkllljfeaaa.SP
namespace Go.Proofs.Ytifkmkllljfeaaa.SP
open Go.RowKit Go.Sort Go.Deep
end Go.Proofs.Ytifkmkllljfeaaa.SP
namespace Go.Proofs.Ytifkmkllljfeaaa
open Go.RowKit Go.Sort
variable {P : Nat} [NeZero P]
/-- A list of arguments in a block. -/
def ArgsPts (w : World) (q : Option Addr) (n : Nat) (L : Nat → Bs) : Prop := 0 < n → ∃ gg, q = some ⟨gg, 0, none⟩ ∧ gg < w.heap.size ∧ ∀ j, j < n → ∃ v, w.cell? ⟨gg, j, none⟩ = some v ∧ Arg33 w v (L j)
def PtsR (P : Nat) [NeZero P] (w : World) (n : Nat) (L : Nat → Bs) (e : Value) (w' : World) : Prop :=
  (∃ k, w.heap.size ≤ k ∧ k < w'.heap.size ∧ e = .tuple #[.slice (some ⟨k, 0, none⟩) n n, .int .i64 0] ∧ ∀ j, j < n → ∃ p, rd P (L j) = some p ∧ w'.rangeAt k (8 * j) (ws p.1 ++ ws p.2)) ∨
  ((∃ j, j < n ∧ rd P (L j) = none) ∧ e = .tuple #[.slice none 0 0, .int .i64 4])
/-- A list of arguments in a block. -/
def ArgsScs (w : World) (q : Option Addr) (n : Nat) (L : Nat → Bs) : Prop := 0 < n → ∃ gg, q = some ⟨gg, 0, none⟩ ∧ gg < w.heap.size ∧ ∀ j, j < n → ∃ v, w.cell? ⟨gg, j, none⟩ = some v ∧ Arg w v (L j)
def ScsR (N : Nat) (w : World) (n : Nat) (L : Nat → Bs) (e : Value) (w' : World) : Prop :=
  (∃ k, w.heap.size ≤ k ∧ k < w'.heap.size ∧ e = .tuple #[.slice (some ⟨k, 0, none⟩) n n, .int .i64 0] ∧ ∀ j, j < n → ∃ p, rq N (L j) = some p ∧ w'.rangeAt k (4 * j) (wn p)) ∨
  ((∃ j, j < n ∧ rq N (L j) = none) ∧ e = .tuple #[.slice none 0 0, .int .i64 3])
end Go.Proofs.Ytifkmkllljfeaaa
set_option linter.unusedVariables false
set_option linter.unusedSimpArgs false
namespace Go.Proofs.Ytifkmkllljfeaaa
open Go.RowKit Go.Sort Go.Deep
variable {P : Nat} [NeZero P]
omit [NeZero P] in
theorem words2 (x y : Fin P) : ∃ a b c d p q r s : Nat, pv x y = .agg #[.int .u64 (a : Int), .int .u64 (b : Int), .int .u64 (c : Int), .int .u64 (d : Int), .int .u64 (p : Int), .int .u64 (q : Int), .int .u64 (r : Int), .int .u64 (s : Int)] ∧ ws x ++ ws y = [.int .u64 (a : Int), .int .u64 (b : Int), .int .u64 (c : Int), .int .u64 (d : Int), .int .u64 (p : Int), .int .u64 (q : Int), .int .u64 (r : Int), .int .u64 (s : Int)] :=
  ⟨_, _, _, _, _, _, _, _, rfl, rfl⟩
theorem cells8 {w : World} {k o : Nat} {a b c d p q r s : Nat} (h : w.rangeAt k o [.int .u64 (a : Int), .int .u64 (b : Int), .int .u64 (c : Int), .int .u64 (d : Int), .int .u64 (p : Int), .int .u64 (q : Int), .int .u64 (r : Int), .int .u64 (s : Int)]) :
    w.cell? ⟨k, o, none⟩ = some (.int .u64 (a : Int)) ∧ w.cell? ⟨k, o + 1, none⟩ = some (.int .u64 (b : Int)) ∧ w.cell? ⟨k, o + 2, none⟩ = some (.int .u64 (c : Int)) ∧ w.cell? ⟨k, o + 3, none⟩ = some (.int .u64 (d : Int)) ∧
    w.cell? ⟨k, o + 4, none⟩ = some (.int .u64 (p : Int)) ∧ w.cell? ⟨k, o + 5, none⟩ = some (.int .u64 (q : Int)) ∧ w.cell? ⟨k, o + 6, none⟩ = some (.int .u64 (r : Int)) ∧ w.cell? ⟨k, o + 7, none⟩ = some (.int .u64 (s : Int)) :=
  ⟨h 0 _ rfl, h 1 _ rfl, h 2 _ rfl, h 3 _ rfl, h 4 _ rfl, h 5 _ rfl, h 6 _ rfl, h 7 _ rfl⟩
/-- What a call of the face answers: an errno, or a point's bytes in new memory. -/
def OutE (c : Int) (e : Value) : Prop := e = .tuple #[.slice none 0 0, .int .i64 c]
def OutP (w : World) (T : Bs) (e : Value) (w' : World) : Prop := ∃ g cap, e = .tuple #[.slice (some ⟨g, 0, none⟩) 33 cap, .int .i64 0] ∧ 33 ≤ cap ∧ w.heap.size ≤ g ∧ g < w'.heap.size ∧ Holds encB w' g 0 T
def MinusR (P : Nat) [NeZero P] (w : World) (bs : Bs) (e : Value) (w' : World) : Prop := match rd P bs with
  | none => OutE 4 e
  | some p => OutP w (by33 p.1 (0 - p.2)) e w'
theorem one_args {w : World} {v : Value} {bs : Bs} (T : TypeId) (h : Arg33 w v bs) : ArgsPts (w.alloc (.cells #[v] T)) (some ⟨w.heap.size, 0, none⟩) 1 (fun _ => bs) := fun _ =>
  ⟨w.heap.size, rfl, by rw [World.size_alloc]; omega, fun j hj => by
    obtain rfl : j = 0 := by omega
    exact ⟨v, by rw [World.cell?_alloc_new]; rfl, h.below (below1 w _)⟩⟩
/-- Two points in a block. -/
structure PS (w : World) (k : Nat) (a1 b1 c1 d1 p1 q1 r1 s1 a2 b2 c2 d2 p2 q2 r2 s2 : Nat) (W : World) : Prop where
  r1 : W.rangeAt k 0 [.int .u64 (a1 : Int), .int .u64 (b1 : Int), .int .u64 (c1 : Int), .int .u64 (d1 : Int), .int .u64 (p1 : Int), .int .u64 (q1 : Int), .int .u64 (r1 : Int), .int .u64 (s1 : Int)]
  r2 : W.rangeAt k 8 [.int .u64 (a2 : Int), .int .u64 (b2 : Int), .int .u64 (c2 : Int), .int .u64 (d2 : Int), .int .u64 (p2 : Int), .int .u64 (q2 : Int), .int .u64 (r2 : Int), .int .u64 (s2 : Int)]
  lt : k < W.heap.size
  bl : Below w.heap.size w W
theorem PS.call {w W W' : World} {k a1 b1 c1 d1 p1 q1 r1 s1 a2 b2 c2 d2 p2 q2 r2 s2 : Nat} (h : PS w k a1 b1 c1 d1 p1 q1 r1 s1 a2 b2 c2 d2 p2 q2 r2 s2 W) (hb : Below W.heap.size W W') : PS w k a1 b1 c1 d1 p1 q1 r1 s1 a2 b2 c2 d2 p2 q2 r2 s2 W' :=
  ⟨RG.range_below h.r1 hb h.lt, RG.range_below h.r2 hb h.lt, Nat.lt_of_lt_of_le h.lt hb.size, h.bl.trans (hb.mono h.bl.size)⟩
theorem PS.drew {w W : World} {k a1 b1 c1 d1 p1 q1 r1 s1 a2 b2 c2 d2 p2 q2 r2 s2 : Nat} (h : PS w k a1 b1 c1 d1 p1 q1 r1 s1 a2 b2 c2 d2 p2 q2 r2 s2 W) : PS w k a1 b1 c1 d1 p1 q1 r1 s1 a2 b2 c2 d2 p2 q2 r2 s2 W.drew := ⟨h.r1, h.r2, h.lt, h.bl.drew⟩
theorem psS {w W : World} {k a1 b1 c1 d1 p1 q1 r1 s1 a2 b2 c2 d2 p2 q2 r2 s2 : Nat} (h : PS w k a1 b1 c1 d1 p1 q1 r1 s1 a2 b2 c2 d2 p2 q2 r2 s2 W) : W.cell? ⟨k, 0, none⟩ = some (.int .u64 (a1 : Int)) ∧ W.cell? ⟨k, 1, none⟩ = some (.int .u64 (b1 : Int)) ∧ W.cell? ⟨k, 2, none⟩ = some (.int .u64 (c1 : Int)) ∧ W.cell? ⟨k, 3, none⟩ = some (.int .u64 (d1 : Int)) ∧ W.cell? ⟨k, 4, none⟩ = some (.int .u64 (p1 : Int)) ∧ W.cell? ⟨k, 5, none⟩ = some (.int .u64 (q1 : Int)) ∧ W.cell? ⟨k, 6, none⟩ = some (.int .u64 (r1 : Int)) ∧ W.cell? ⟨k, 7, none⟩ = some (.int .u64 (s1 : Int)) ∧ W.cell? ⟨k, 8, none⟩ = some (.int .u64 (a2 : Int)) ∧ W.cell? ⟨k, 9, none⟩ = some (.int .u64 (b2 : Int)) ∧ W.cell? ⟨k, 10, none⟩ = some (.int .u64 (c2 : Int)) ∧ W.cell? ⟨k, 11, none⟩ = some (.int .u64 (d2 : Int)) ∧ W.cell? ⟨k, 12, none⟩ = some (.int .u64 (p2 : Int)) ∧ W.cell? ⟨k, 13, none⟩ = some (.int .u64 (q2 : Int)) ∧ W.cell? ⟨k, 14, none⟩ = some (.int .u64 (r2 : Int)) ∧ W.cell? ⟨k, 15, none⟩ = some (.int .u64 (s2 : Int)) ∧ PS w k a1 b1 c1 d1 p1 q1 r1 s1 a2 b2 c2 d2 p2 q2 r2 s2 W :=
  let ⟨x0, x1, x2, x3, x4, x5, x6, x7⟩ := cells8 h.r1
  let ⟨y0, y1, y2, y3, y4, y5, y6, y7⟩ := cells8 h.r2
  ⟨x0, x1, x2, x3, x4, x5, x6, x7, y0, y1, y2, y3, y4, y5, y6, y7, h⟩
theorem two_args {w : World} {v u : Value} {az bs : Bs} (T : TypeId) (h : Arg33 w v az) (h' : Arg33 w u bs) : ArgsPts (w.alloc (.cells #[v, u] T)) (some ⟨w.heap.size, 0, none⟩) 2 (fun j => if j = 0 then az else bs) := fun _ =>
  ⟨w.heap.size, rfl, by rw [World.size_alloc]; omega, fun j hj => by
    by_cases h0 : j = 0
    · subst h0
      exact ⟨v, by rw [World.cell?_alloc_new]; rfl, h.below (below1 w _)⟩
    · obtain rfl : j = 1 := by omega
      exact ⟨u, by rw [World.cell?_alloc_new]; rfl, h'.below (below1 w _)⟩⟩
/-- The point that Plus answers. -/
def plP (p q : Fin P × Fin P) : T3 P := plJ (raJ p.1 p.2) (raJ q.1 q.2)
def ptP (s : T3 P) : Fin P × Fin P := (s.1 * (EC.inv s.2.2 * EC.inv s.2.2), s.2.1 * (EC.inv s.2.2 * EC.inv s.2.2) * EC.inv s.2.2)
def PlusR (P : Nat) [NeZero P] (w : World) (az bs : Bs) (e : Value) (w' : World) : Prop := match rd P az, rd P bs with
  | some p, some q => OutP w (by33 (ptP (plP p q)).1 (ptP (plP p q)).2) e w'
  | _, _ => OutE 4 e
end Go.Proofs.Ytifkmkllljfeaaa
namespace Go.Proofs.Ytifkmkllljfeaaa
open Go.RowKit Go.Sort Go.Deep
variable {P : Nat} [NeZero P]
theorem cell_below {w w1 : World} {k j : Nat} {v : Value} (h : w.cell? ⟨k, j, none⟩ = some v) (hb : Below w.heap.size w w1) (hk : k < w.heap.size) : w1.cell? ⟨k, j, none⟩ = some v := by
  have h1 : w.rangeAt k j [v] := fun i u hu => by
    cases i with
    | zero =>
      obtain rfl : v = u := Option.some.inj hu
      exact h
    | succ i => exact absurd hu (by simp)
  exact RG.range_below h1 hb hk 0 v rfl
theorem ArgsPts.below {w w1 : World} {q : Option Addr} {n : Nat} {L : Nat → Bs} (h : ArgsPts w q n L) (hb : Below w.heap.size w w1) : ArgsPts w1 q n L := fun hn => by
  obtain ⟨gg, hq, hlt, hc⟩ := h hn
  refine ⟨gg, hq, Nat.lt_of_lt_of_le hlt hb.size, fun j hj => ?_⟩
  obtain ⟨v, hv, ha⟩ := hc j hj
  exact ⟨v, cell_below hv hb hlt, ha.below hb⟩
theorem ArgsScs.below {w w1 : World} {q : Option Addr} {n : Nat} {L : Nat → Bs} (h : ArgsScs w q n L) (hb : Below w.heap.size w w1) : ArgsScs w1 q n L := fun hn => by
  obtain ⟨gg, hq, hlt, hc⟩ := h hn
  refine ⟨gg, hq, Nat.lt_of_lt_of_le hlt hb.size, fun j hj => ?_⟩
  obtain ⟨v, hv, ha⟩ := hc j hj
  exact ⟨v, cell_below hv hb hlt, ha.below hb⟩
/-- What Sum answers. -/
def SumR (P : Nat) [NeZero P] (N : Nat) (w : World) (n a : Nat) (L M : Nat → Bs) (e : Value) (w' : World) : Prop :=
  (n ≠ a ∧ OutE 2 e) ∨ (n = a ∧ 512 < n ∧ OutE 1 e) ∨ (n = a ∧ n ≤ 512 ∧ (((∃ j, j < n ∧ rq N (L j) = none) ∧ OutE 3 e) ∨
    ∃ ns : Nat → Nat, (∀ j, j < n → rq N (L j) = some (ns j)) ∧ (((∃ j, j < n ∧ rd P (M j) = none) ∧ OutE 4 e) ∨
      ∃ xs ys : Nat → Fin P, (∀ j, j < n → rd P (M j) = some (xs j, ys j)) ∧ OutP w (by33 (ptP (sumJ ns xs ys n 257)).1 (ptP (sumJ ns xs ys n 257)).2) e w')))
theorem choose_nat {A : Type} [Inhabited A] {n : Nat} {p : Nat → A → Prop} (h : ∀ j, j < n → ∃ a, p j a) : ∃ f : Nat → A, ∀ j, j < n → p j (f j) :=
  ⟨fun j => if hj : j < n then (h j hj).choose else default, fun j hj => by
    show p j (if hj : j < n then (h j hj).choose else default)
    rw [dif_pos hj]
    exact (h j hj).choose_spec⟩
theorem rq_top {N : Nat} (hN : N ≤ top) {bs : Bs} {m : Nat} (h : rq N bs = some m) : m < top := by
  unfold rq at h
  split at h
  · rename_i h1
    obtain rfl : beV bs.toList = m := Option.some.inj h
    exact Nat.lt_of_lt_of_le h1.2 hN
  · exact absurd h (by simp)
theorem one_scs {w : World} {v : Value} {bs : Bs} (T : TypeId) (h : Arg w v bs) : ArgsScs (w.alloc (.cells #[v] T)) (some ⟨w.heap.size, 0, none⟩) 1 (fun _ => bs) := fun _ =>
  ⟨w.heap.size, rfl, by rw [World.size_alloc]; omega, fun j hj => by
    obtain rfl : j = 0 := by omega
    exact ⟨v, by rw [World.cell?_alloc_new]; rfl, h.below (below1 w _)⟩⟩
theorem inn_one (ns : Nat → Nat) (xs ys : Nat → Fin P) (st : T3 P) (p : Nat) : inn ns xs ys st p 1 = inn (fun _ => ns 0) (fun _ => xs 0) (fun _ => ys 0) st p 1 := rfl
theorem sumJ_one (ns : Nat → Nat) (xs ys : Nat → Fin P) : ∀ m, sumJ ns xs ys 1 m = sumJ (fun _ => ns 0) (fun _ => xs 0) (fun _ => ys 0) 1 m
  | 0 => rfl
  | m + 1 => by
    unfold sumJ
    rw [sumJ_one ns xs ys m, inn_one]
/-- What Times answers. -/
def TimesR (P : Nat) [NeZero P] (N : Nat) (w : World) (az bs : Bs) (e : Value) (w' : World) : Prop := match rq N az, rd P bs with
  | none, _ => OutE 3 e
  | some _, none => OutE 4 e
  | some n, some p => OutP w (by33 (ptP (sumJ (fun _ => n) (fun _ => p.1) (fun _ => p.2) 1 257)).1 (ptP (sumJ (fun _ => n) (fun _ => p.1) (fun _ => p.2) 1 257)).2) e w'
end Go.Proofs.Ytifkmkllljfeaaa
namespace Go.Proofs.Ytifkmkllljfeaaa
open Go.RowKit Go.Sort Go.Deep
variable {P : Nat} [NeZero P]
/-- 33 zeros. -/
def zs33 : Bs := Array.replicate 33 0
theorem sq_mod (r d : Nat) : d * d % (r + d) = r * r % (r + d) := by
  have h : d * d + (r + d) * r = r * r + (r + d) * d := by
    rw [Nat.add_mul, Nat.add_mul, Nat.mul_comm d r]
    omega
  have h1 := congrArg (· % (r + d)) h
  simp only [Nat.add_mul_mod_self_left] at h1
  exact h1
theorem rt_sq {m y : Fin P} (h : rt m = some y) : y * y = m := by
  have h0 := rt_yes h
  unfold rt at h
  rw [if_pos h0] at h
  obtain rfl := Option.some.inj h
  have hP := Nat.pos_of_neZero P
  have hr : m.val ^ (P / 4 + 1) % P < P := Nat.mod_lt _ hP
  generalize m.val ^ (P / 4 + 1) % P = r at h0 hr
  apply Fin.ext
  rw [Fin.val_mul]
  show (even P r % P) * (even P r % P) % P = m.val
  rw [Nat.mod_eq_of_lt (even_lt hP hr), ← h0]
  unfold even
  split
  · have h2 := sq_mod r (P - r)
    rw [show r + (P - r) = P by omega] at h2
    exact h2
  · rfl
theorem zero33_iff {bs : Bs} (hs : bs.size = 33) : Zero33 bs ↔ bs = zs33 := by
  constructor
  · intro h
    apply Array.ext
    · rw [hs]; rfl
    · intro i h1 h2
      have := h i (List.mem_range.2 (by omega))
      rw [getElem!_pos bs i h1] at this
      have h3 : bs[i].toNat = 0 := by
        have h4 : ub bs[i] = (bs[i].toNat : Int) := rfl
        rw [h4] at this
        omega
      have h5 : (zs33)[i] = 0 := by
        have h6 : (Array.replicate 33 (0 : UInt8))[i]'h2 = 0 := Array.getElem_replicate _
        exact h6
      rw [h5]
      exact UInt8.toNat_inj.1 h3
  · rintro rfl i hi
    have hi := List.mem_range.1 hi
    unfold zs33
    rw [getElem!_pos _ i (by rw [Array.size_replicate]; exact hi), Array.getElem_replicate]
    rfl
theorem on_of {x y : Fin P} (h : y * y = x * x * x + 7) : EC.On (.some (x, y) : EC.Pt P) := by
  show y ^ 2 = x ^ 3 + 7
  grobner
theorem on_neg {x y : Fin P} (h : y * y = x * x * x + 7) : EC.On (.some (x, 0 - y) : EC.Pt P) := by
  show (0 - y) ^ 2 = x ^ 3 + 7
  grobner
/-- A point's bytes. -/
def wr : EC.Pt P → Bs
  | none => zs33
  | some (x, y) => #[mark y.val] ++ bx x.val
theorem by33_wr (C : Fld P) {x y : Fin P} {p : EC.Pt P} (h : EC.Pair x y p) (ho : EC.On p) : by33 x y = wr p := by
  unfold by33
  match p, h, ho with
  | none, h, _ => rw [if_pos (show x = 0 ∧ y = 0 from h)]; rfl
  | some (a, b), h, ho =>
    obtain ⟨rfl, rfl⟩ := h
    rw [if_neg (fun e => C.cur.y_ne ho e.2)]
    rfl
/-- The point that a pair is. -/
def pt (p : Fin P × Fin P) : EC.Pt P := if p.1 = 0 ∧ p.2 = 0 then none else some p
theorem pair_pt (C : Fld P) {x y : Fin P} {q : EC.Pt P} (h : EC.Pair x y q) (ho : EC.On q) : q = pt (x, y) := by
  unfold pt
  match q, h, ho with
  | none, h, _ => rw [if_pos (show x = 0 ∧ y = 0 from h)]
  | some (a, b), h, ho =>
    obtain ⟨rfl, rfl⟩ := h
    rw [if_neg (fun e => C.cur.y_ne ho e.2)]
theorem rd_on (C : Fld P) {bs : Bs} {p : Fin P × Fin P} (h : rd P bs = some p) : EC.Pair p.1 p.2 (pt p) ∧ EC.On (pt p) := by
  have key : ∃ q : EC.Pt P, EC.Pair p.1 p.2 q ∧ EC.On q := by
    unfold rd at h
    split at h
    · split at h
      · obtain rfl := Option.some.inj h
        exact ⟨none, ⟨rfl, rfl⟩, EC.none_on⟩
      · split at h
        · split at h
          · obtain ⟨y, hr, rfl⟩ := Option.map_eq_some_iff.1 h
            have hsq := rt_sq hr
            refine ⟨some (rdx P bs, if ub bs[0]! = 3 then 0 - y else y), ⟨rfl, rfl⟩, ?_⟩
            split
            · exact on_neg hsq
            · exact on_of hsq
          · cases h
        · cases h
    · cases h
  obtain ⟨q, h1, h2⟩ := key
  have := pair_pt C h1 h2
  rw [show pt p = q from this.symm]
  exact ⟨h1, h2⟩
/-- What Plus answers, by the points. -/
def PlusQ (P : Nat) [NeZero P] (w : World) (az bs : Bs) (e : Value) (w' : World) : Prop := match rd P az, rd P bs with
  | some p, some q => OutP w (wr (EC.add (pt p) (pt q))) e w'
  | _, _ => OutE 4 e
theorem PlusR.q (C : Fld P) {w w' : World} {az bs : Bs} {e : Value} (h : PlusR P w az bs e w') : PlusQ P w az bs e w' := by
  unfold PlusR at h
  unfold PlusQ
  cases h1 : rd P az with
  | none => rw [h1] at h; exact h
  | some p =>
    cases h2 : rd P bs with
    | none => rw [h1, h2] at h; exact h
    | some q =>
      rw [h1, h2] at h
      have hp := rd_on C h1
      have hq := rd_on C h2
      have hJ := (raJ_J C hp.1 hp.2).plus C (raJ_J C hq.1 hq.2)
      have e1 := by33_wr C (hJ.pair C) hJ.2
      dsimp only at h ⊢
      rw [← e1]
      exact h
def MinusQ (P : Nat) [NeZero P] (w : World) (bs : Bs) (e : Value) (w' : World) : Prop := match rd P bs with
  | some p => OutP w (wr (EC.neg (pt p))) e w'
  | none => OutE 4 e
theorem MinusR.q (C : Fld P) {w w' : World} {bs : Bs} {e : Value} (h : MinusR P w bs e w') : MinusQ P w bs e w' := by
  unfold MinusR at h
  unfold MinusQ
  cases h1 : rd P bs with
  | none => rw [h1] at h; exact h
  | some p =>
    rw [h1] at h
    have hp := rd_on C h1
    have hn : EC.Pair p.1 (0 - p.2) (EC.neg (pt p)) := by
      generalize pt p = q at hp
      match q, hp.1 with
      | none, h => exact ⟨h.1, by rw [show p.2 = 0 from h.2]; grobner⟩
      | some (a, b), h => exact ⟨h.1, by rw [show p.2 = b from h.2]; grobner⟩
    have e1 := by33_wr C hn (EC.neg_on hp.2)
    dsimp only at h ⊢
    rw [← e1]
    exact h
def TimesQ (P : Nat) [NeZero P] (N : Nat) (w : World) (az bs : Bs) (e : Value) (w' : World) : Prop := match rq N az, rd P bs with
  | none, _ => OutE 3 e
  | some _, none => OutE 4 e
  | some n, some p => OutP w (wr (EC.mul n (pt p))) e w'
theorem TimesR.q (C : Fld P) {N : Nat} (hN : N ≤ top) {w w' : World} {az bs : Bs} {e : Value} (h : TimesR P N w az bs e w') : TimesQ P N w az bs e w' := by
  unfold TimesR at h
  unfold TimesQ
  cases h1 : rq N az with
  | none => rw [h1] at h; exact h
  | some n =>
    cases h2 : rd P bs with
    | none => rw [h1, h2] at h; exact h
    | some p =>
      rw [h1, h2] at h
      have hp := rd_on C h2
      have hJ := sumJ_all C (N := 1) (ns := fun _ => n) (xs := fun _ => p.1) (ys := fun _ => p.2) (p := fun _ => pt p) (fun _ _ => rq_top hN h1) (fun _ _ => hp.1) (fun _ _ => hp.2)
      have e1 := by33_wr C (hJ.pair C) hJ.2
      have e2 : EC.tot (fun _ => pt p) 1 (fun _ => (n : Int)) = EC.mul n (pt p) := by
        rfl
      rw [e2] at e1
      dsimp only at h ⊢
      rw [← e1]
      exact h
omit [NeZero P] in
theorem wr_size (p : EC.Pt P) : (wr p).size = 33 := by
  match p with
  | none => rfl
  | some (x, y) =>
    show (#[mark y.val] ++ bx x.val).size = 33
    rw [Array.size_append, bx_size]
    rfl
end Go.Proofs.Ytifkmkllljfeaaa
namespace Go.Proofs.Ytifkmkllljfeaaa
theorem add_assoc_mod (a b c P : Nat) : ((a + b) % P + c) % P = (a + (b + c) % P) % P := by
  rw [Nat.add_mod ((a + b) % P), Nat.mod_mod, ← Nat.add_mod, Nat.add_mod a ((b + c) % P), Nat.mod_mod, ← Nat.add_mod, Nat.add_assoc]
theorem mul_assoc_mod (a b c P : Nat) : a * b % P * c % P = a * (b * c % P) % P := by
  rw [Nat.mul_mod (a * b % P), Nat.mod_mod, ← Nat.mul_mod, Nat.mul_mod a (b * c % P), Nat.mod_mod, ← Nat.mul_mod, Nat.mul_assoc]
theorem distrib_mod (a b c P : Nat) : a * ((b + c) % P) % P = (a * b % P + a * c % P) % P := by
  rw [Nat.mul_mod, Nat.mod_mod, ← Nat.mul_mod, Nat.mul_add, ← Nat.add_mod]
theorem add_sub_mod {a b P : Nat} (ha : a < P) (hb : b < P) : ((a + b) % P + P - b) % P = a := by
  by_cases h : a + b < P
  · rw [Nat.mod_eq_of_lt h, show a + b + P - b = a + P by omega, Nat.add_mod_right, Nat.mod_eq_of_lt ha]
  · have e : (a + b) % P = a + b - P := by rw [Nat.mod_eq_sub_mod (by omega), Nat.mod_eq_of_lt (by omega)]
    rw [e, show a + b - P + P - b = a by omega, Nat.mod_eq_of_lt ha]
theorem sub_self_mod {a P : Nat} (ha : a < P) : (a + P - a) % P = 0 := by
  rw [show a + P - a = P by omega, Nat.mod_self]
theorem inv_mod {a P : Nat} (h : NT.IsP P) (ha : a < P) (h0 : ¬ a = 0) : a * (a ^ (P - 2) % P) % P = 1 := by
  have h2 := h.1
  rw [Nat.mul_mod, Nat.mod_mod, ← Nat.mul_mod, Nat.mul_comm, ← Nat.pow_succ, show (P - 2).succ = P - 1 by omega]
  exact h.fermat1 a (fun hd => h0 (Nat.eq_zero_of_dvd_of_lt hd ha))
theorem inv_zero_mod {P : Nat} (h : 2 < P) : 0 ^ (P - 2) % P = 0 := by
  rw [Nat.zero_pow (by omega), Nat.zero_mod]
theorem root_mod {a P : Nat} (h : NT.IsP P) (h4 : P % 4 = 3) : (a * a % P) ^ (P / 4 + 1) % P * ((a * a % P) ^ (P / 4 + 1) % P) % P = a * a % P := by
  rw [← Nat.mul_mod, ← Nat.pow_add, ← Nat.pow_mod, ← Nat.pow_two, ← Nat.pow_mul, show 2 * (P / 4 + 1 + (P / 4 + 1)) = P + 1 by omega, Nat.pow_succ, Nat.mul_mod, h.fermat a, ← Nat.mul_mod, Nat.pow_two]
theorem root_is {a R P : Nat} (h : NT.IsP P) (ha : a < P) (hR : R < P) (he : R * R % P = a * a % P) : R = a ∨ R + a = P := by
  have key : ∀ x y : Nat, x < P → y < P → y ≤ x → x * x % P = y * y % P → x = y ∨ x + y = P := by
    intro x y hx hy hxy hxe
    have hd : P ∣ x * x - y * y := by
      refine Nat.dvd_of_mod_eq_zero ?_
      exact Nat.sub_mod_eq_zero_of_mod_eq hxe
    have hf : x * x - y * y = (x - y) * (x + y) := by
      rw [Nat.mul_comm (x - y), Nat.mul_self_sub_mul_self_eq]
    rw [hf] at hd
    rcases h.euclid hd with h1 | h1
    · left
      have := Nat.eq_zero_of_dvd_of_lt h1 (by omega)
      omega
    · obtain ⟨k, hk⟩ := h1
      have : k = 0 ∨ k = 1 ∨ 2 ≤ k := by omega
      rcases this with rfl | rfl | h2
      · left; omega
      · right; omega
      · have := Nat.mul_le_mul_left P h2
        omega
  rcases Nat.le_total a R with h1 | h1
  · exact key R a hR ha h1 he
  · rcases key a R ha hR h1 he.symm with h2 | h2
    · left; exact h2.symm
    · right; omega
end Go.Proofs.Ytifkmkllljfeaaa
