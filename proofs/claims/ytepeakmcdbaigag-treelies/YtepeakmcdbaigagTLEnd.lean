import Derived.Orders
import Derived.Deep.LoopGhost
import Derived.Deep.RegionHeld3
import Derived.Deep.CutRange
import Derived.Deep.DeepCutAuto
import Derived.Laws.MakeOwn
import Derived.ChangeKeysEq
import Derived.Deep.AppendSrc
import Derived.Lib.AppendZeros
import Derived.OwnWalk
import Derived.ChangeOld
import Derived.Below
import Derived.WalkKit
import Derived.ProofKit
import Derived.OpenShut
import Derived.ShutString
import Derived.SliceStrings
import Derived.SizedLaws
import Derived.Test.YtepeakmcdbaigagTL3
set_option linter.unusedVariables false
set_option linter.unusedSimpArgs false
set_option linter.unusedVariables false
set_option linter.unusedSimpArgs false
namespace Go.Proofs.Ytepeakmcdbaigag.RG
open Go Go.RowKit
variable {P : Program} {ops : Array Oper} {Q : Exit → Act → World → Prop} {w0 w : World} {k0 n : Nat} {X : List Nat} {its : List It} {bl : List Bl} {os : List (Tmp × SV)} {a : Act} {i : Nat} {o : Oper} {it : It} {μ : Nat → Nat} {need : List (Tmp × Nat)}
/-- What a slot holds, where operation i looks at it. -/
def src (ops : Array Oper) (its : List It) (os : List (Tmp × SV)) (need : List (Tmp × Nat)) (i : Nat) (t : Tmp) : Option SV :=
  match need.find? (fun x => x.1 == t) with
  | some x => (its[x.2]?).map (·.out)
  | none => match os.find? (fun x => x.1 == t) with
    | some x => bif freeB ops its i t then some x.2 else none
    | none => none
theorem src_eval {t : Tmp} {s : SV} (h : src ops its os need i t = some s) (K : Known ops i its os need μ a) : a.eval (.tmp t) = s.at μ := by
  unfold src at h
  cases hn : need.find? (fun x => x.1 == t) with
  | some x =>
    rw [hn] at h
    dsimp only at h
    have h1 := List.mem_of_find?_eq_some hn
    have h2 : x.1 = t := by simpa using List.find?_some hn
    obtain ⟨jt, hj, rfl⟩ := Option.map_eq_some_iff.1 h
    exact K.op t x.2 (by rw [← h2]; exact h1) hj
  | none =>
    rw [hn] at h
    dsimp only at h
    cases ho : os.find? (fun x => x.1 == t) with
    | none => rw [ho] at h; cases h
    | some x =>
      rw [ho] at h
      dsimp only at h
      have h1 := List.mem_of_find?_eq_some ho
      have h2 : x.1 = t := by simpa using List.find?_some ho
      cases hf : freeB ops its i t with
      | false => rw [hf] at h; cases h
      | true =>
        rw [hf] at h
        obtain rfl : x.2 = s := Option.some.inj h
        exact K.old t x.2 (by rw [← h2]; exact h1) hf
theorem sx {t : Tmp} {f : (Nat → Nat) → Value} (h : ∀ μ : Nat → Nat, (src ops its os need i t).map (fun s => s.at μ) = some (f μ)) : ∀ (μ : Nat → Nat) (a : Act), Known ops i its os need μ a → a.eval (.tmp t) = f μ := fun μ _ K => by
  obtain ⟨s, hs, he⟩ := Option.map_eq_some_iff.1 (h μ)
  rw [src_eval hs K]
  exact he
def ro (ops : Array Oper) (its : List It) (os : List (Tmp × SV)) (need : List (Tmp × Nat)) (i : Nat) (μ : Nat → Nat) : Operand → Value
  | .tmp t => match src ops its os need i t with | some s => s.at μ | none => undef
  | .const v => v
  | .global g => .pointer (some ⟨g, 0, none⟩)
  | .func f => .func (.func f) #[] #[]
def seen (ops : Array Oper) (its : List It) (os : List (Tmp × SV)) (need : List (Tmp × Nat)) (i : Nat) (o : Oper) : Bool :=
  (match o.op with | .select _ _ => false | _ => true) && o.op.operands.all (fun x => match x with | .tmp t => (src ops its os need i t).isSome | _ => true)
theorem exec_ro (h : seen ops its os need i o = true) (K : Known ops i its os need μ a) : execOp a.eval o = execOp (ro ops its os need i μ) o := by
  simp only [seen, Bool.and_eq_true] at h
  refine execOp_congr o (fun cs b he => ?_) (fun x hx => ?_)
  · rw [he] at h; exact absurd h.1 (by simp)
  · have h1 := Array.all_eq_true'.1 h.2 x hx
    cases x with
    | tmp t =>
      dsimp only at h1
      obtain ⟨s, hs⟩ := Option.isSome_iff_exists.1 h1
      rw [src_eval hs K]
      show _ = (match src ops its os need i t with | some s => s.at μ | none => undef)
      rw [hs]
    | const v => rfl
    | global g => rfl
    | func f => rfl
/-- An operation that the kernel runs. -/
theorem st (h : ∀ (μ : Nat → Nat) (w : World), ((seen ops its os it.need i o, it.kind), (execOp (ro ops its os it.need i μ) o).run P w) = ((true, Kind.stay), .ok (.value (it.out.at μ)) w)) : Cert P Q w0 k0 X ops i its bl os o it := by
  intro μ a w K hK _ hbel
  have h0 := h μ w
  simp only [Prod.mk.injEq] at h0
  rw [h0.1.2]
  intro hK2
  unfold Oper.wp
  rw [exec_ro h0.1.1 hK, h0.2]
  exact hK2
theorem se {v v' : Value} (e : v' = v) (h : ∀ (μ : Nat → Nat) (w : World), ((seen ops its os it.need i o, it.kind, it.out), (execOp (ro ops its os it.need i μ) o).run P w) = ((true, Kind.stay, SV.v v), .ok (.value v') w)) : Cert P Q w0 k0 X ops i its bl os o it := by
  intro μ a w K hK _ hbel
  have h0 := h μ w
  simp only [Prod.mk.injEq] at h0
  rw [h0.1.2.1]
  intro hK2
  rw [h0.1.2.2] at hK2
  unfold Oper.wp
  rw [exec_ro h0.1.1 hK, h0.2, e]
  exact hK2
/-- A new block. -/
theorem mk (b : Nat) (T : TypeId) (h : ∀ (μ : Nat → Nat) (w : World), ((seen ops its os it.need i o, it.kind), (execOp (ro ops its os it.need i μ) o).run P w) = ((true, Kind.make b), .ok (.value (it.out.at (upd μ b w.heap.size))) (w.alloc (.cells (((bl[b]?).map (·.before)).getD []).toArray T)))) : Cert P Q w0 k0 X ops i its bl os o it := by
  intro μ a w K hK _ hbel
  have h0 := h μ w
  simp only [Prod.mk.injEq] at h0
  rw [h0.1.2]
  intro e hb h2
  unfold Oper.wp
  rw [exec_ro h0.1.1 hK, h0.2, hb]
  exact h2 _ _ (Made.alloc w e.before T)
/-- A call. -/
theorem clB {f : FuncId} {args : Array Value} {v : Value} (h : ∀ (μ : Nat → Nat) (w : World), ((seen ops its os it.need i o, it.kind, it.out), (execOp (ro ops its os it.need i μ) o).run P w) = ((true, Kind.call, SV.v v), .ok (.enter f args) w))
    (hc : ∀ w, BelX k0 X w0 w → Calls P f args w (Ret fun e w' => Below w.heap.size w w' ∧ e = v)) : Cert P Q w0 k0 X ops i its bl os o it := by
  intro μ a w K hK _ hbel
  have h0 := h μ w
  simp only [Prod.mk.injEq] at h0
  rw [h0.1.2.1]
  intro hk
  rw [h0.1.2.2] at hk
  unfold Oper.wp
  rw [exec_ro h0.1.1 hK, h0.2, Oper.upon_enter]
  refine (hc w hbel).mono ?_
  rintro e w' ⟨v', rfl, hb, rfl⟩
  exact hk w' hb
theorem cl {f : FuncId} {args : Array Value} {v : Value} (hc : ∀ w, Calls P f args w (Ret fun e w' => Below w.heap.size w w' ∧ e = v)) (h : ∀ (μ : Nat → Nat) (w : World), ((seen ops its os it.need i o, it.kind, it.out), (execOp (ro ops its os it.need i μ) o).run P w) = ((true, Kind.call, SV.v v), .ok (.enter f args) w)) : Cert P Q w0 k0 X ops i its bl os o it :=
  clB h (fun w _ => hc w)
/-- A call that answers new memory. -/
theorem cm (b : Nat) {f : FuncId} {args : Array Value} {c : List Value} (hc : ∀ w, BelX k0 X w0 w → Calls P f args w (Ret fun e w' => ∃ k, Made w k c w' ∧ e = it.out.at (fun _ => k)))
    (h : ∀ (μ : Nat → Nat) (w : World), ((seen ops its os it.need i o, it.kind, (bl[b]?).map (·.before), it.out.blk), (execOp (ro ops its os it.need i μ) o).run P w) = ((true, Kind.make b, some c, some b), .ok (.enter f args) w)) : Cert P Q w0 k0 X ops i its bl os o it := by
  intro μ a w K hK _ hbel
  have h0 := h μ w
  simp only [Prod.mk.injEq] at h0
  obtain ⟨⟨h1, h2, h3, h4⟩, h5⟩ := h0
  rw [h2]
  intro e hb hk
  rw [hb] at h3
  obtain rfl : e.before = c := Option.some.inj h3
  unfold Oper.wp
  rw [exec_ro h1 hK, h5, Oper.upon_enter]
  refine (hc w hbel).mono ?_
  rintro r w' ⟨v', rfl, k, hm, rfl⟩
  have he : it.out.at (upd μ b k) = it.out.at (fun _ => k) := SV.at_congr fun b' hb' => by
    rw [h4] at hb'
    obtain rfl := Option.some.inj hb'
    unfold upd
    rw [if_pos rfl]
  have := hk k w' hm
  rw [he] at this
  exact this
/-- Operation i may read block b. -/
def canRead (ops : Array Oper) (i : Nat) (o : Oper) (bl : List Bl) (b : Nat) : Bool := match bl[b]? with
  | some e => (match e.al with | none => true | some j => depB o j) && readB ops i e
  | none => false
def Seen (bl : List Bl) (bs : List Nat) (μ : Nat → Nat) (w : World) : Prop := ∀ b ∈ bs, ∀ e : Bl, bl[b]? = some e → e.before ≠ [] → w.rangeAt (μ b) 0 e.before ∧ μ b < w.heap.size
theorem seen_of {bs : List Nat} (ho : ops[i]? = some o) (h : bs.all (canRead ops i o bl) = true) (hR : Reads ops i bl μ w) : Seen bl bs μ w := fun b hb e he hne => by
  have h1 := List.all_eq_true.1 h b hb
  unfold canRead at h1
  rw [he] at h1
  dsimp only at h1
  rw [Bool.and_eq_true] at h1
  have hr := hR b e he (by
    cases ha : e.al with
    | none => exact Or.inl rfl
    | some j => rw [ha] at h1; exact Or.inr ⟨o, j, ho, rfl, h1.1⟩) h1.2
  refine ⟨hr, ?_⟩
  cases hee : e.before with
  | nil => exact absurd hee hne
  | cons x r =>
    have h2 := hr 0 x (by rw [hee]; rfl)
    exact Classical.byContradiction fun hn => by
      have h3 : w.heap[μ b]? = none := Array.getElem?_eq_none (by omega)
      simp [World.cell?, h3] at h2
/-- A call that looks at blocks. -/
theorem cr (bs : List Nat) {f : FuncId} {args : (Nat → Nat) → Array Value} {v : Value} (hc : ∀ (μ : Nat → Nat) (w : World), BelX k0 X w0 w → Seen bl bs μ w → Calls P f (args μ) w (Ret fun e w' => Below w.heap.size w w' ∧ e = v))
    (h : ∀ (μ : Nat → Nat) (w : World), ((seen ops its os it.need i o, it.kind, it.out, bs.all (canRead ops i o bl), ops[i]?), (execOp (ro ops its os it.need i μ) o).run P w) = ((true, Kind.call, SV.v v, true, some o), .ok (.enter f (args μ)) w)) : Cert P Q w0 k0 X ops i its bl os o it := by
  intro μ a w K hK hR hbel
  have h0 := h μ w
  simp only [Prod.mk.injEq] at h0
  obtain ⟨⟨h1, h2, h3, h4, h6⟩, h5⟩ := h0
  rw [h2]
  intro hk
  rw [h3] at hk
  unfold Oper.wp
  rw [exec_ro h1 hK, h5, Oper.upon_enter]
  refine (hc μ w hbel (seen_of h6 h4 hR)).mono ?_
  rintro e w' ⟨v', rfl, hb, rfl⟩
  exact hk w' hb
/-- A call that looks at blocks and answers new memory. -/
theorem crm (b : Nat) (bs : List Nat) {f : FuncId} {args : (Nat → Nat) → Array Value} {c : List Value} (hc : ∀ (μ : Nat → Nat) (w : World), BelX k0 X w0 w → Seen bl bs μ w → Calls P f (args μ) w (Ret fun e w' => ∃ k, Made w k c w' ∧ e = it.out.at (fun _ => k)))
    (h : ∀ (μ : Nat → Nat) (w : World), ((seen ops its os it.need i o, it.kind, (bl[b]?).map (·.before), it.out.blk, bs.all (canRead ops i o bl), ops[i]?), (execOp (ro ops its os it.need i μ) o).run P w) = ((true, Kind.make b, some c, some b, true, some o), .ok (.enter f (args μ)) w)) : Cert P Q w0 k0 X ops i its bl os o it := by
  intro μ a w K hK hR hbel
  have h0 := h μ w
  simp only [Prod.mk.injEq] at h0
  obtain ⟨⟨h1, h2, h3, h4, h6, h7⟩, h5⟩ := h0
  rw [h2]
  intro e hb hk
  rw [hb] at h3
  obtain rfl : e.before = c := Option.some.inj h3
  unfold Oper.wp
  rw [exec_ro h1 hK, h5, Oper.upon_enter]
  refine (hc μ w hbel (seen_of h7 h6 hR)).mono ?_
  rintro r w' ⟨v', rfl, k, hm, rfl⟩
  have he : it.out.at (upd μ b k) = it.out.at (fun _ => k) := SV.at_congr fun b' hb' => by
    rw [h4] at hb'
    obtain rfl := Option.some.inj hb'
    unfold upd
    rw [if_pos rfl]
  have := hk k w' hm
  rw [he] at this
  exact this
/-- What a load of a row of n cells gives. -/
def ldv (ops : Array Oper) (its : List It) (bl : List Bl) (os : List (Tmp × SV)) (i : Nat) (o : Oper) (it : It) (T : TypeId) (n : Nat) : Option SV :=
  match it.kind, o.op with
  | .stay, .load T' (.tmp t) => match src ops its os it.need i t with
    | some (.p b off) => match bl[b]? with
      | some e => bif T' == T && e.al.isNone && readB ops i e && (off + n).ble e.before.length then some (.v (.agg ((e.before.drop off).take n).toArray)) else none
      | none => none
    | _ => none
  | _, _ => none
theorem ld {T : TypeId} {n : Nat} (hu : (P.underlying T).map (·.isRow) = some true) (hi : (P.info? T).map (·.size) = some n) (h : ldv ops its bl os i o it T n = some it.out) : Cert P Q w0 k0 X ops i its bl os o it := by
  unfold ldv at h
  split at h
  · rename_i T' t hk ho
    split at h
    · rename_i b off hs
      split at h
      · rename_i e hb
        cases hc : (T' == T && e.al.isNone && readB ops i e && (off + n).ble e.before.length) with
        | false => rw [hc] at h; cases h
        | true =>
          rw [hc] at h
          have h' : some (SV.v (.agg ((e.before.drop off).take n).toArray)) = some it.out := h
          simp only [Bool.and_eq_true, beq_iff_eq, Option.isNone_iff_eq_none, Nat.ble_eq] at hc
          obtain ⟨⟨⟨rfl, hal⟩, hr⟩, hle⟩ := hc
          have hlen : ((e.before.drop off).take n).length = n := by rw [List.length_take, List.length_drop]; omega
          refine cert_load hk b off e hb hal hr T' t ho ((e.before.drop off).take n) (Option.some.inj h').symm (fun _ _ K => src_eval hs K) ?_ hu (by rw [hlen]; exact hi)
          rw [hlen]
      · cases h
    · cases h
  · cases h
/-- What a load of one cell gives. -/
def ldw (ops : Array Oper) (its : List It) (bl : List Bl) (os : List (Tmp × SV)) (i : Nat) (o : Oper) (it : It) (T : TypeId) : Option SV :=
  match it.kind, o.op with
  | .stay, .load T' (.tmp t) => match src ops its os it.need i t with
    | some (.p b off) => match bl[b]? with
      | some e => bif T' == T && e.al.isNone && readB ops i e then (e.before[off]?).map .v else none
      | none => none
    | _ => none
  | _, _ => none
theorem ld1 {T : TypeId} (hu : (P.underlying T).map (·.isRow) = some false) (h : ldw ops its bl os i o it T = some it.out) : Cert P Q w0 k0 X ops i its bl os o it := by
  unfold ldw at h
  split at h
  · rename_i T' t hk ho
    split at h
    · rename_i b off hs
      split at h
      · rename_i e hb
        cases hc : (T' == T && e.al.isNone && readB ops i e) with
        | false => rw [hc] at h; cases h
        | true =>
          rw [hc] at h
          have h' : (e.before[off]?).map SV.v = some it.out := h
          obtain ⟨v, hv, hvo⟩ := Option.map_eq_some_iff.1 h'
          simp only [Bool.and_eq_true, beq_iff_eq, Option.isNone_iff_eq_none] at hc
          obtain ⟨⟨rfl, hal⟩, hr⟩ := hc
          exact cert_load1 hk b off e hb hal hr T' t ho v hvo.symm (fun _ _ K => src_eval hs K) hv hu
      · cases h
    · cases h
  · cases h
/-- What lies in a block behind a store of n cells. -/
def ptv (ops : Array Oper) (its : List It) (bl : List Bl) (os : List (Tmp × SV)) (i : Nat) (o : Oper) (it : It) (T : TypeId) (n : Nat) : Option (List Value) :=
  match it.kind, o.op, o.dst with
  | .put b, .store T' (.tmp x) (.tmp y), none => match src ops its os it.need i x, src ops its os it.need i y with
    | some (.p b' off), some (.v (.agg vs)) => match bl[b]? with
      | some e => bif T' == T && b' == b && vs.size == n && (off + n).ble e.before.length && vs.toList.all (·.oneCell') then some (rep e.before off vs.toList) else none
      | none => none
    | _, _ => none
  | _, _, _ => none
theorem pt {T : TypeId} {n : Nat} (hi : (P.info? T).map (·.size) = some n) (h : ((ptv ops its bl os i o it T n).isSome, ptv ops its bl os i o it T n) = (true, match it.kind with | .put b => (bl[b]?).map (·.after) | _ => none)) : Cert P Q w0 k0 X ops i its bl os o it := by
  simp only [Prod.mk.injEq] at h
  obtain ⟨hso, h⟩ := h
  rw [h] at hso
  unfold ptv at h
  split at h
  · rename_i b T' x y hk ho hdn
    rw [hk] at h hso
    dsimp only at h hso
    cases hb : bl[b]? with
    | none => rw [hb] at hso; cases hso
    | some e =>
      rw [hb] at h
      split at h
      · rename_i b' off vs hx hy
        dsimp only at h
        cases hc : (T' == T && b' == b && vs.size == n && (off + n).ble e.before.length && vs.toList.all (·.oneCell')) with
        | false => rw [hc] at h; cases h
        | true =>
          rw [hc] at h
          have h' : some (rep e.before off vs.toList) = some e.after := h
          simp only [Bool.and_eq_true, beq_iff_eq, Nat.ble_eq] at hc
          obtain ⟨⟨⟨⟨rfl, rfl⟩, hn⟩, hle⟩, h1⟩ := hc
          have hlen : vs.toList.length = n := by rw [Array.length_toList]; exact hn
          refine cert_putAt b' off hk e hb T' (.tmp x) (.tmp y) vs.toList ho hdn (fun _ _ K => src_eval hx K) (fun _ _ K => ?_) (by rw [hlen]; exact hle) (fun j => ?_) (by rw [hlen]; exact hi) h1
          · rw [Array.toArray_toList]; exact src_eval hy K
          · rw [← Option.some.inj h', rep_at (by rw [hlen]; exact hle)]
      · cases h
  · rw [← h] at hso; cases hso
/-- Blocks: those that are there (cs), those that are made (which operation, what lies in it), what is stored (where, which operation, what). -/
def aft (pu : List (Nat × Nat × List Value)) (b : Nat) (c : List Value) : List Value := match pu.find? (fun x => x.1 == b) with | some x => x.2.2 | none => c
def sto (pu : List (Nat × Nat × List Value)) (b : Nat) : Option Nat := (pu.find? (fun x => x.1 == b)).map (·.2.1)
def olB (pu : List (Nat × Nat × List Value)) : Nat → List (List Value) → List Bl
  | _, [] => []
  | b, c :: r => ⟨c, aft pu b c, none, sto pu b⟩ :: olB pu (b + 1) r
def mkB (pu : List (Nat × Nat × List Value)) : Nat → List (Nat × List Value) → List Bl
  | _, [] => []
  | b, c :: r => ⟨c.2, aft pu b c.2, some c.1, sto pu b⟩ :: mkB pu (b + 1) r
def bls (cs : List (List Value)) (mk : List (Nat × List Value)) (pu : List (Nat × Nat × List Value)) : List Bl := olB pu 0 cs ++ mkB pu cs.length mk
theorem olB_len (pu : List (Nat × Nat × List Value)) : ∀ (cs : List (List Value)) (b : Nat), (olB pu b cs).length = cs.length
  | [], _ => rfl
  | c :: r, b => by rw [olB, List.length_cons, olB_len pu r, List.length_cons]
theorem mkB_len (pu : List (Nat × Nat × List Value)) : ∀ (cs : List (Nat × List Value)) (b : Nat), (mkB pu b cs).length = cs.length
  | [], _ => rfl
  | c :: r, b => by rw [mkB, List.length_cons, mkB_len pu r, List.length_cons]
theorem olB_before (pu : List (Nat × Nat × List Value)) : ∀ (cs : List (List Value)) (b : Nat), (olB pu b cs).map (·.before) = cs
  | [], _ => rfl
  | c :: r, b => by rw [olB, List.map_cons, olB_before pu r]
theorem mkB_before (pu : List (Nat × Nat × List Value)) : ∀ (cs : List (Nat × List Value)) (b : Nat), (mkB pu b cs).map (·.before) = cs.map (·.2)
  | [], _ => rfl
  | c :: r, b => by rw [mkB, List.map_cons, mkB_before pu r, List.map_cons]
theorem olB_get (pu : List (Nat × Nat × List Value)) : ∀ (cs : List (List Value)) (b j : Nat) (e : Bl), (olB pu b cs)[j]? = some e → e.al = none ∧ e.after = aft pu (b + j) e.before ∧ e.st = sto pu (b + j)
  | [], _, _, _, h => by simp [olB] at h
  | c :: r, b, 0, e, h => by
    rw [olB, List.getElem?_cons_zero] at h
    obtain rfl := Option.some.inj h
    exact ⟨rfl, rfl, rfl⟩
  | c :: r, b, j + 1, e, h => by
    rw [olB, List.getElem?_cons_succ] at h
    have := olB_get pu r (b + 1) j e h
    rwa [show b + 1 + j = b + (j + 1) by omega] at this
theorem mkB_get (pu : List (Nat × Nat × List Value)) : ∀ (cs : List (Nat × List Value)) (b j : Nat) (e : Bl), (mkB pu b cs)[j]? = some e → (∃ x ∈ cs, e.al = some x.1) ∧ e.after = aft pu (b + j) e.before ∧ e.st = sto pu (b + j)
  | [], _, _, _, h => by simp [mkB] at h
  | c :: r, b, 0, e, h => by
    rw [mkB, List.getElem?_cons_zero] at h
    obtain rfl := Option.some.inj h
    exact ⟨⟨c, List.mem_cons_self, rfl⟩, rfl, rfl⟩
  | c :: r, b, j + 1, e, h => by
    rw [mkB, List.getElem?_cons_succ] at h
    obtain ⟨⟨x, hx, h1⟩, h2⟩ := mkB_get pu r (b + 1) j e h
    refine ⟨⟨x, List.mem_cons_of_mem _ hx, h1⟩, ?_⟩
    rwa [show b + 1 + j = b + (j + 1) by omega] at h2
variable {cs cs' : List (List Value)} {mk : List (Nat × List Value)} {pu : List (Nat × Nat × List Value)} {ks : List Nat}
theorem bls_len : (bls cs mk pu).length = cs.length + mk.length := by rw [bls, List.length_append, olB_len, mkB_len]
theorem bls_before : (bls cs mk pu).map (·.before) = cs ++ mk.map (·.2) := by rw [bls, List.map_append, olB_before, mkB_before]
theorem bls_get {b : Nat} {e : Bl} (h : (bls cs mk pu)[b]? = some e) : e.after = aft pu b e.before ∧ e.st = sto pu b ∧ ((b < cs.length ∧ e.al = none) ∨ (cs.length ≤ b ∧ ∃ x ∈ mk, e.al = some x.1)) := by
  unfold bls at h
  by_cases hb : b < cs.length
  · rw [List.getElem?_append_left (by rw [olB_len]; exact hb)] at h
    have := olB_get pu cs 0 b e h
    rw [Nat.zero_add] at this
    exact ⟨this.2.1, this.2.2, Or.inl ⟨hb, this.1⟩⟩
  · rw [List.getElem?_append_right (by rw [olB_len]; omega), olB_len] at h
    have := mkB_get pu mk cs.length (b - cs.length) e h
    rw [show cs.length + (b - cs.length) = b by omega] at this
    exact ⟨this.2.1, this.2.2, Or.inr ⟨by omega, this.1⟩⟩
theorem bls_start : startB (bls cs mk pu) cs.length = true := by
  simp only [startB, Bool.and_eq_true, decide_eq_true_eq]
  refine ⟨List.all_eq_true.2 fun x hx => ?_, by rw [bls_len]; omega⟩
  rw [List.mem_zipIdx_iff_getElem?] at hx
  rcases (bls_get hx).2.2 with ⟨h1, h2⟩ | ⟨h1, y, -, h2⟩
  · rw [h2]; simp [h1]
  · rw [h2]; simp; omega
def inB (m : Nat) (mk : List (Nat × List Value)) (pu : List (Nat × Nat × List Value)) : Bool := mk.all (fun x => x.1.blt m) && pu.all (fun x => x.2.1.blt m)
theorem bls_end (h : inB its.length mk pu = true) (hl : pu.map (fun x => x.2.2.length) = pu.map (fun x => (((cs ++ mk.map (·.2))[x.1]?).getD []).length)) :
    (∀ e ∈ bls cs mk pu, ∀ j, e.al = some j ∨ e.st = some j → j < its.length) ∧ ∀ e ∈ bls cs mk pu, e.fin.length = e.before.length := by
  simp only [inB, Bool.and_eq_true] at h
  refine ⟨fun e he j hj => ?_, fun e he => ?_⟩
  · obtain ⟨b, hb⟩ := List.getElem?_of_mem he
    obtain ⟨h1, h2, h3⟩ := bls_get hb
    rcases hj with hj | hj
    · rcases h3 with ⟨-, h4⟩ | ⟨-, x, hx, h4⟩
      · rw [h4] at hj; cases hj
      · rw [h4] at hj
        obtain rfl := Option.some.inj hj
        have := List.all_eq_true.1 h.1 x hx
        exact Nat.lt_of_succ_le (Nat.le_of_ble_eq_true this)
    · rw [h2] at hj
      unfold sto at hj
      obtain ⟨x, hx, rfl⟩ := Option.map_eq_some_iff.1 hj
      have := List.all_eq_true.1 h.2 x (List.mem_of_find?_eq_some hx)
      exact Nat.lt_of_succ_le (Nat.le_of_ble_eq_true this)
  · obtain ⟨b, hb⟩ := List.getElem?_of_mem he
    obtain ⟨h1, h2, -⟩ := bls_get hb
    unfold Bl.fin
    rw [h2, h1]
    unfold sto aft
    cases hp : pu.find? (fun x => x.1 == b) with
    | none => rfl
    | some x =>
      show x.2.2.length = _
      have hm := List.mem_of_find?_eq_some hp
      have hx : x.1 = b := by simpa using List.find?_some hp
      have h5 := List.map_inj_left.1 hl x hm
      rw [h5, ← bls_before (pu := pu), hx, List.getElem?_map, hb]
      rfl
/-- What a slot holds behind a region. -/
def lk (its : List It) (os : List (Tmp × SV)) (t : Tmp) : Option SV :=
  match its.find? (fun it => it.dst == some t) with
  | some it => some it.out
  | none => (os.find? (fun x => x.1 == t)).map (·.2)
/-- THE MACHINE: the blocks, the slots. -/
structure M (w0 : World) (k0 : Nat) (X : List Nat) (n : Nat) (cs : List (List Value)) (ks : List Nat) (os : List (Tmp × SV)) (a : Act) (w : World) : Prop where
  st : St w0 k0 X cs ks w
  sl : Sl a n
  os : Olds a (ad ks) os
def All : Nat → (List Nat → Prop) → Prop
  | 0, f => f []
  | n + 1, f => ∀ k : Nat, All n fun l => f (k :: l)
theorem All.get : ∀ {n : Nat} {f : List Nat → Prop}, All n f → ∀ l : List Nat, l.length = n → f l
  | 0, f, h, l, hl => by rw [List.length_eq_zero_iff.1 hl]; exact h
  | n + 1, f, h, [], hl => by simp at hl
  | n + 1, f, h, k :: l, hl => All.get (h k) l (by simpa using hl)
theorem at_more {s : SV} {new : List Nat} (h : ∀ b, s.blk = some b → b < ks.length) : s.at (ad (ks ++ new)) = s.at (ad ks) := SV.at_congr fun b hb => by
  unfold ad
  rw [List.getD_eq_getElem?_getD, List.getD_eq_getElem?_getD, List.getElem?_append_left (h b hb)]
theorem Olds.mk' {μ : Nat → Nat} : ∀ {l : List (Tmp × SV)}, (∀ x ∈ l, a.tmps[x.1]? = some (x.2.at μ)) → Olds a μ l
  | [], _ => trivial
  | x :: r, h => ⟨h x List.mem_cons_self, Olds.mk' fun y hy => h y (List.mem_cons_of_mem _ hy)⟩
theorem M.next {os' : List (Tmp × SV)} {new : List Nat} {w' : World} (h : M w0 k0 X n cs ks os a w) (hall : allB ops its (bls cs mk pu) os n = true) (hlk : (os'.map fun x => lk its os x.1) = os'.map fun x => some x.2)
    (hS : St w0 k0 X cs' (ks ++ new) w') : M w0 k0 X n cs' (ks ++ new) os' (puts (ad (ks ++ new)) its a) w' := by
  refine ⟨hS, h.sl.puts, Olds.mk' fun x hx => ?_⟩
  have h1 := List.map_inj_left.1 hlk x hx
  simp only [allB, Bool.and_eq_true, beq_iff_eq] at hall
  obtain ⟨⟨⟨⟨hsz, hd⟩, hold⟩, hin⟩, hok⟩ := hall
  unfold lk at h1
  cases hf : its.find? (fun it => it.dst == some x.1) with
  | some it =>
    rw [hf] at h1
    have hm := List.mem_of_find?_eq_some hf
    have hdt : it.dst = some x.1 := by simpa using List.find?_some hf
    obtain ⟨j, hj⟩ := List.getElem?_of_mem hm
    have hlt := List.all_eq_true.1 hin it hm
    rw [hdt] at hlt
    have := puts_same (ad (ks ++ new)) its a j it x.1 hd hj hdt (by rw [h.sl.size]; simpa using hlt)
    rw [this, ← Option.some.inj h1]
  | none =>
    rw [hf] at h1
    obtain ⟨y, hy, hyx⟩ := Option.map_eq_some_iff.1 h1
    have hm := List.mem_of_find?_eq_some hy
    have hyt : y.1 = x.1 := by simpa using List.find?_some hy
    have h2 := h.os.get y.1 y.2 hm
    rw [puts_other _ its a x.1 (fun it hit hdd => by
      have := List.find?_eq_none.1 hf it hit
      rw [hdd] at this
      simp at this), ← hyt, h2, ← hyx]
    congr 1
    refine (at_more fun b hb => ?_).symm
    have h3 := List.all_eq_true.1 hold y hm
    rw [hb] at h3
    dsimp only at h3
    cases he : (bls cs mk pu)[b]? with
    | none => rw [he] at h3; cases h3
    | some e =>
      rw [he] at h3
      rcases (bls_get he).2.2 with ⟨h4, -⟩ | ⟨-, z, -, h5⟩
      · rw [h.st.len]; exact h4
      · dsimp only at h3; rw [h5] at h3; simp at h3
theorem M.reg (h : M w0 k0 X n cs ks os a w) (hall : allB ops its (bls cs mk pu) os n = true) (hc : Certs P Q w0 k0 X ops its (bls cs mk pu) os 0 ops.toList its) : Reg P ops Q w0 k0 X its (bls cs mk pu) os a (ad ks) :=
  Reg.mk' (by rw [h.sl.size]; exact hall) h.os hc
theorem bls_take : ((bls cs mk pu).map (·.before)).take cs.length = cs := by rw [bls_before, List.take_left']; rfl
/-- A region in the order of its text. -/
theorem M.tx {id : Nat} (h : M w0 k0 X n cs ks os a w) (its : List It) (mk : List (Nat × List Value)) (pu : List (Nat × Nat × List Value)) (cs' : List (List Value)) (os' : List (Tmp × SV))
    (hk : (allB ops its (bls cs mk pu) os n && inB its.length mk pu, (bls cs mk pu).map Bl.fin, os'.map fun x => lk its os x.1) = (true, cs', os'.map fun x => some x.2))
    (hl : pu.map (fun x => x.2.2.length) = pu.map (fun x => (((cs ++ mk.map (·.2))[x.1]?).getD []).length))
    (hc : Certs P Q w0 k0 X ops its (bls cs mk pu) os 0 ops.toList its)
    (hp : All mk.length fun new => ∀ a' w', M w0 k0 X n cs' (ks ++ new) os' a' w' → Q .normal a' w') : (Code.region id ops false).wp P Q a w := by
  simp only [Prod.mk.injEq, Bool.and_eq_true] at hk
  obtain ⟨⟨h1, h2⟩, h3, h4⟩ := hk
  refine region_text' h.st (h.reg h1 hc) bls_start bls_take (bls_end h2 hl) fun new w' hn hS => ?_
  rw [bls_len, Nat.add_sub_cancel_left] at hn
  exact hp.get new hn _ _ (h.next h1 h4 (h3 ▸ hS))
/-- A region that draws its order. -/
theorem M.dr {id : Nat} (h : M w0 k0 X n cs ks os a w) (hm : P.follows .mixedOrders = true) (its : List It) (mk : List (Nat × List Value)) (pu : List (Nat × Nat × List Value)) (cs' : List (List Value)) (os' : List (Tmp × SV))
    (hk : (allB ops its (bls cs mk pu) os n && inB its.length mk pu, (bls cs mk pu).map Bl.fin, os'.map fun x => lk its os x.1) = (true, cs', os'.map fun x => some x.2))
    (hl : pu.map (fun x => x.2.2.length) = pu.map (fun x => (((cs ++ mk.map (·.2))[x.1]?).getD []).length))
    (hc : Certs P Q w0 k0 X ops its (bls cs mk pu) os 0 ops.toList its)
    (hp : All mk.length fun new => ∀ a' w', M w0 k0 X n cs' (ks ++ new) os' a' w' → Q .normal a' w') : (Code.region id ops true).wp P Q a w := by
  simp only [Prod.mk.injEq, Bool.and_eq_true] at hk
  obtain ⟨⟨h1, h2⟩, h3, h4⟩ := hk
  refine region_draws' hm h.st (h.reg h1 hc) bls_start bls_take (bls_end h2 hl) fun new w' hn hS => ?_
  rw [bls_len, Nat.add_sub_cancel_left] at hn
  exact hp.get new hn _ _ (h.next h1 h4 (h3 ▸ hS))
theorem bls_nil : (bls cs [] []).map Bl.fin = cs := by
  have h : ∀ (cs : List (List Value)) (b : Nat), (olB [] b cs).map Bl.fin = cs := fun cs => by
    induction cs with
    | nil => intro _; rfl
    | cons c r ih => intro b; rw [olB, List.map_cons, ih]; rfl
  rw [bls, List.map_append, h]
  exact List.append_nil _
theorem M.tx0 {id : Nat} (h : M w0 k0 X n cs ks os a w) (its : List It) (os' : List (Tmp × SV)) (hk : (allB ops its (bls cs [] []) os n, os'.map fun x => lk its os x.1) = (true, os'.map fun x => some x.2))
    (hc : Certs P Q w0 k0 X ops its (bls cs [] []) os 0 ops.toList its) (hp : ∀ a' w', M w0 k0 X n cs ks os' a' w' → Q .normal a' w') : (Code.region id ops false).wp P Q a w := by
  simp only [Prod.mk.injEq] at hk
  refine h.tx its [] [] cs os' (by simp only [hk.1, hk.2, bls_nil]; rfl) rfl hc (fun a' w' hM => hp a' w' ?_)
  rwa [List.append_nil] at hM
theorem M.dr0 {id : Nat} (h : M w0 k0 X n cs ks os a w) (hm : P.follows .mixedOrders = true) (its : List It) (os' : List (Tmp × SV)) (hk : (allB ops its (bls cs [] []) os n, os'.map fun x => lk its os x.1) = (true, os'.map fun x => some x.2))
    (hc : Certs P Q w0 k0 X ops its (bls cs [] []) os 0 ops.toList its) (hp : ∀ a' w', M w0 k0 X n cs ks os' a' w' → Q .normal a' w') : (Code.region id ops true).wp P Q a w := by
  simp only [Prod.mk.injEq] at hk
  refine h.dr hm its [] [] cs os' (by simp only [hk.1, hk.2, bls_nil]; rfl) rfl hc (fun a' w' hM => hp a' w' ?_)
  rwa [List.append_nil] at hM
theorem M.at (h : M w0 k0 X n cs ks os a w) {t : Tmp} {s : SV} (hs : (os.find? (fun x => x.1 == t)).map (·.2) = some s) : a.tmps[t]? = some (s.at (ad ks)) := by
  obtain ⟨y, hy, rfl⟩ := Option.map_eq_some_iff.1 hs
  have hyt : y.1 = t := by simpa using List.find?_some hy
  rw [← hyt]
  exact h.os.get y.1 y.2 (List.mem_of_find?_eq_some hy)
theorem St.made {w w' : World} {cs : List (List Value)} {ks : List Nat} (h : St w w.heap.size [] cs ks w') {b : Nat} {c : List Value} (hb : cs[b]? = some c) : Made w (ad ks b) c w' := by
  obtain ⟨h1, h2, h3, h4⟩ := h.has b c hb
  exact ⟨h.bel.below, h4.elim id (fun h => absurd h List.not_mem_nil), h3, h1, h2⟩
theorem M.av (h : M w0 k0 X n cs ks os a w) {t : Tmp} {v : Value} (hs : (os.find? (fun x => x.1 == t)).map (·.2) = some (.v v)) : a.tmps[t]? = some v := h.at hs
theorem M.ev (h : M w0 k0 X n cs ks os a w) {t : Tmp} {v : Value} (hs : (os.find? (fun x => x.1 == t)).map (·.2) = some (.v v)) : a.eval (.tmp t) = v := eval_of (h.at hs)
/-- A call begins. -/
theorem M.enter {c : Code} (os : List (Tmp × SV)) (n : Nat) (h : (os.map fun x => a.tmps[x.1]?, a.tmps.size, a.defers) = (os.map fun x => some (x.2.at (ad [])), n, [])) (hp : ∀ a, M w w.heap.size [] n [] [] os a w → c.wp P Q a w) : c.wp P Q a w := by
  simp only [Prod.mk.injEq] at h
  exact hp a ⟨St.begin w, ⟨h.2.1, h.2.2⟩, Olds.mk' fun x hx => List.map_inj_left.1 h.1 x hx⟩
/-- Blocks that nobody asks for any more. -/
theorem M.drop {w0 w : World} {k0 n : Nat} {X : List Nat} {cs cs2 : List (List Value)} {ks ks2 : List Nat} {os : List (Tmp × SV)} {a : Act} (h : M w0 k0 X n (cs ++ cs2) (ks ++ ks2) os a w) (hl : ks.length = cs.length)
    (ho : os.all (fun x => match x.2.blk with | none => true | some b => b.blt cs.length) = true) : M w0 k0 X n cs ks os a w := by
  have had : ∀ b, b < cs.length → ad (ks ++ ks2) b = ad ks b := fun b hb => by
    unfold ad
    rw [List.getD_eq_getElem?_getD, List.getD_eq_getElem?_getD, List.getElem?_append_left (by omega)]
  refine ⟨⟨h.st.bel, h.st.le, hl, fun b c hb => ?_, fun b c hb hc hne => ?_⟩, h.sl, Olds.mk' fun x hx => ?_⟩
  · have hlt := (List.getElem?_eq_some_iff.1 hb).1
    have := h.st.has b c (by rw [List.getElem?_append_left hlt]; exact hb)
    rwa [had b hlt] at this
  · have := h.st.inj b c (by rw [List.length_append]; omega) (by rw [List.length_append]; omega) hne
    rwa [had b hb, had c hc] at this
  · rw [h.os.get x.1 x.2 hx]
    congr 1
    refine SV.at_congr fun b hb => ?_
    have h1 := List.all_eq_true.1 ho x hx
    rw [hb] at h1
    exact had b (Nat.lt_of_succ_le (Nat.le_of_ble_eq_true h1))
/-- n words that are 0. -/
abbrev z (n : Nat) : List Value := List.replicate n (.int .u64 0)
def It.s (d : Tmp) (need : List (Tmp × Nat)) (out : SV) : It := ⟨some d, need, out, .stay⟩
def It.x (d : Tmp) (need : List (Tmp × Nat)) (v : Value) : It := ⟨some d, need, .v v, .stay⟩
def It.c (d : Tmp) (need : List (Tmp × Nat)) (v : Value) : It := ⟨some d, need, .v v, .call⟩
def It.m (d : Tmp) (need : List (Tmp × Nat)) (b : Nat) : It := ⟨some d, need, .p b 0, .make b⟩
def It.u (need : List (Tmp × Nat)) (b : Nat) : It := ⟨none, need, .v undef, .put b⟩
end Go.Proofs.Ytepeakmcdbaigag.RG
namespace Go.Proofs.Ytepeakmcdbaigag
open Go.RowKit Go.Sort
variable {P : Nat} [NeZero P]
omit [NeZero P] in
theorem Gives.e {f : FuncId} {args : Array Value} {x c : Fin P} (h : Gives f args (fv x)) (e : c = x) : Gives f args (fv c) := e ▸ h
omit [NeZero P] in
theorem Gives.e3 {f : FuncId} {args : Array Value} {x y z a b c : Fin P} (h : Gives f args (rv x y z)) (e : a = x) (e' : b = y) (e'' : c = z) : Gives f args (rv a b c) := e ▸ e' ▸ e'' ▸ h
theorem wn_inj {m n : Nat} (hm : m < top) (hn : n < top) : (m % 18446744073709551616 = n % 18446744073709551616 ∧ m / 18446744073709551616 % 18446744073709551616 = n / 18446744073709551616 % 18446744073709551616 ∧ m / 340282366920938463463374607431768211456 % 18446744073709551616 = n / 340282366920938463463374607431768211456 % 18446744073709551616 ∧ m / 6277101735386680763835789423207666416102355444464034512896 % 18446744073709551616 = n / 6277101735386680763835789423207666416102355444464034512896 % 18446744073709551616) ↔ m = n := by
  constructor
  · rintro ⟨h0, h1, h2, h3⟩
    unfold top at hm hn
    omega
  · rintro rfl
    exact ⟨rfl, rfl, rfl, rfl⟩
end Go.Proofs.Ytepeakmcdbaigag
namespace Go.Proofs.Ytepeakmcdbaigag
open Go.RowKit Go.Sort
variable {P : Nat} [NeZero P]
def F102_0 : List RG.It := [.m 2 [] 0, .m 3 [] 1, .m 4 [] 2]
def F102_1 (x y c1 : Fin P) : List RG.It := [.c 5 [] gv0, .x 6 [] (fv x), .x 7 [] (fv y), .c 8 [(5, 0), (6, 1), (7, 2)] (fv c1), .u [(8, 3)] 2]
def F114_0 : List RG.It := [.m 2 [] 0, .m 3 [] 1, .m 4 [] 2]
def F114_1 (x y c1 : Fin P) : List RG.It := [.c 5 [] gv0, .x 6 [] (fv x), .x 7 [] (fv y), .c 8 [(5, 0), (6, 1), (7, 2)] (fv c1), .u [(8, 3)] 2]
def F104_0 : List RG.It := [.m 2 [] 0, .m 3 [] 1, .m 4 [] 2]
def F104_1 (x y c1 : Fin P) : List RG.It := [.c 5 [] gv0, .x 6 [] (fv x), .x 7 [] (fv y), .c 8 [(5, 0), (6, 1), (7, 2)] (fv c1), .u [(8, 3)] 2]
def F100_0 : List RG.It := [.m 1 [] 0, .m 2 [] 1]
def F100_1 (x : Fin P) : List RG.It := [.x 3 [] (fv x), .c 4 [(3, 0)] (fv x), .u [(4, 1)] 1]
def F106_0 : List RG.It := [.m 1 [] 0, .m 2 [] 1]
def F106_1 (x : Fin P) : List RG.It := [.x 3 [] (fv x), .c 4 [(3, 0)] (fv x), .u [(4, 1)] 1]
def F105_0 : List RG.It := [.m 1 [] 0, .m 2 [] 1]
def F105_1 (x c1 : Fin P) : List RG.It := [.x 3 [] (fv x), .x 4 [] (fv x), .c 5 [(3, 0), (4, 1)] (fv c1), .u [(5, 2)] 1]
end Go.Proofs.Ytepeakmcdbaigag
namespace Go.Proofs.Ytepeakmcdbaigag
open Go.RowKit Go.Sort
variable {P : Nat} [NeZero P]
def F103_0 : List RG.It := [.m 1 [] 0, .m 2 [] 1]
def F103_1 (x y c1 c2 : Fin P) : List RG.It := [.s 9 [] (.p 0 0), .x 10 [(9, 0)] (fv x), .s 11 [] (.p 0 0), .x 12 [(11, 2)] (fv x), .c 13 [(10, 1), (12, 3)] (fv c1), .s 14 [] (.p 0 4), .x 15 [(14, 5)] (fv y), .s 16 [] (.p 0 4), .x 17 [(16, 7)] (fv y), .c 18 [(15, 6), (17, 8)] (fv c2), .m 3 [] 2, .m 4 [] 3, .u [(3, 10), (13, 4)] 2, .u [(4, 11), (18, 9)] 3]
def F103_2 (x c2 c3 c4 c5 : Fin P) : List RG.It := [.s 19 [] (.p 0 0), .x 20 [(19, 0)] (fv x), .x 21 [] (fv c2), .c 22 [(20, 1), (21, 2)] (fv c3), .c 23 [(22, 3)] (fv c4), .c 24 [(23, 4)] (fv c5), .m 5 [] 4, .u [(5, 6), (24, 5)] 4]
def F103_3 (x c1 c6 c7 : Fin P) : List RG.It := [.x 25 [] (fv c1), .c 26 [(25, 0)] (fv c6), .x 27 [] (fv c1), .c 28 [(26, 1), (27, 2)] (fv c7), .m 6 [] 5, .u [(6, 4), (28, 3)] 5]
def F103_4 (x c5 c7 c8 c9 c10 : Fin P) : List RG.It := [.x 29 [] (fv c7), .x 30 [] (fv c7), .c 31 [(29, 0), (30, 1)] (fv c8), .x 32 [] (fv c5), .c 33 [(32, 3)] (fv c9), .c 34 [(31, 2), (33, 4)] (fv c10), .m 7 [] 6, .u [(7, 6), (34, 5)] 6]
def F103_5 (x c2 c5 c7 c10 c11 c12 c13 c14 c15 c16 c17 : Fin P) : List RG.It := [.x 35 [] (fv c7), .x 36 [] (fv c5), .x 37 [] (fv c10), .c 38 [(36, 1), (37, 2)] (fv c11), .c 39 [(35, 0), (38, 3)] (fv c12), .x 40 [] (fv c2), .x 41 [] (fv c2), .c 42 [(40, 5), (41, 6)] (fv c13), .c 43 [(42, 7)] (fv c14), .c 44 [(43, 8)] (fv c15), .c 45 [(44, 9)] (fv c16), .c 46 [(39, 4), (45, 10)] (fv c17), .m 8 [] 7, .u [(8, 12), (46, 11)] 7]
def F103_6 (x y z c10 c17 c18 c19 : Fin P) : List RG.It := [.x 47 [] (fv c10), .x 48 [] (fv c17), .s 49 [] (.p 0 4), .x 50 [(49, 2)] (fv y), .s 51 [] (.p 0 8), .x 52 [(51, 4)] (fv z), .c 53 [(50, 3), (52, 5)] (fv c18), .c 54 [(53, 6)] (fv c19), .x 55 [(47, 0), (48, 1), (54, 7)] (rv c10 c17 c19), .u [(55, 8)] 1]
def F116_0 : List RG.It := [.m 1 [] 0, .m 2 [] 1]
def F116_1 (x y z c1 : Fin P) : List RG.It := [.s 3 [] (.p 0 0), .x 4 [(3, 0)] (fv x), .x 5 [] (fv (0 : Fin P)), .s 6 [] (.p 0 4), .x 7 [(6, 3)] (fv y), .c 8 [(5, 2), (7, 4)] (fv c1), .s 9 [] (.p 0 8), .x 10 [(9, 6)] (fv z), .x 11 [(4, 1), (8, 5), (10, 7)] (rv x c1 z), .u [(11, 8)] 1]
def F75_0 : List RG.It := [.m 1 [] 0, .m 2 [] 1]
def F75_1 (x z c1 : Fin P) : List RG.It := [.c 5 [] gv0, .s 6 [] (.p 0 8), .x 7 [(6, 1)] (fv z), .c 8 [(7, 2)] (fv z), .c 9 [(5, 0), (8, 3)] (fv c1), .c 10 [(9, 4)] (fv c1), .m 3 [] 2, .u [(3, 6), (10, 5)] 2]
def F75_2 (x c1 c2 : Fin P) : List RG.It := [.x 11 [] (fv c1), .x 12 [] (fv c1), .c 13 [(11, 0), (12, 1)] (fv c2), .m 4 [] 3, .u [(4, 3), (13, 2)] 3]
def F75_3 (x y c1 c2 c3 c4 c5 : Fin P) : List RG.It := [.s 14 [] (.p 0 0), .x 15 [(14, 0)] (fv x), .x 16 [] (fv c2), .c 17 [(15, 1), (16, 2)] (fv c3), .c 18 [(17, 3)] (fv c3), .s 19 [] (.p 0 4), .x 20 [(19, 5)] (fv y), .x 21 [] (fv c2), .c 22 [(20, 6), (21, 7)] (fv c4), .x 23 [] (fv c1), .c 24 [(22, 8), (23, 9)] (fv c5), .c 25 [(24, 10)] (fv c5), .x 26 [(18, 4), (25, 11)] (pv c3 c5), .u [(26, 12)] 1]
end Go.Proofs.Ytepeakmcdbaigag
namespace Go.Proofs.Ytepeakmcdbaigag
open Go.RowKit Go.Sort
variable {P : Nat} [NeZero P]
def F101t_0 (x : Fin P) : List RG.It := [.m 1 [] 0, .x 2 [] (.bool false)]
def F101t_1 (x z : Fin P) : List RG.It := [.s 3 [] (.p 0 8), .x 4 [(3, 0)] (fv z), .x 5 [] (fv (0 : Fin P)), .x 6 [(4, 1), (5, 2)] (.bool true), .x 2 [(6, 3)] (.bool true)]
def F101f_0 (x : Fin P) : List RG.It := [.m 1 [] 0, .x 2 [] (.bool false)]
def F101f_1 (x z : Fin P) : List RG.It := [.s 3 [] (.p 0 8), .x 4 [(3, 0)] (fv z), .x 5 [] (fv (0 : Fin P)), .x 6 [(4, 1), (5, 2)] (.bool false), .x 2 [(6, 3)] (.bool false)]
def F73t_0 : List RG.It := [.m 1 [] 0, .m 2 [] 1]
def F73t_1 (x y : Fin P) : List RG.It := [.x 3 [] (pv x y), .x 4 [] (pv (0 : Fin P) (0 : Fin P)), .x 5 [(3, 0), (4, 1)] (.bool true)]
def F73t_2 (x : Fin P) : List RG.It := [.x 6 [] (rv (0 : Fin P) (0 : Fin P) (0 : Fin P)), .u [(6, 0)] 1]
def F73f_0 : List RG.It := [.m 1 [] 0, .m 2 [] 1]
def F73f_1 (x y : Fin P) : List RG.It := [.x 3 [] (pv x y), .x 4 [] (pv (0 : Fin P) (0 : Fin P)), .x 5 [(3, 0), (4, 1)] (.bool false)]
def F73f_3 (x y : Fin P) : List RG.It := [.s 7 [] (.p 0 0), .x 8 [(7, 0)] (fv x), .c 9 [(8, 1)] (fv x), .s 10 [] (.p 0 4), .x 11 [(10, 3)] (fv y), .c 12 [(11, 4)] (fv y), .x 13 [] (fv (1 : Fin P)), .c 14 [(13, 6)] (fv (1 : Fin P)), .x 15 [(9, 2), (12, 5), (14, 7)] (rv x y (1 : Fin P)), .u [(15, 8)] 1]
def F74a_0 : List RG.It := [.m 2 [] 0, .m 3 [] 1, .m 4 [] 2]
def F74a_1 (x1 y1 z1 : Fin P) : List RG.It := [.x 18 [] (rv x1 y1 z1), .c 19 [(18, 0)] (.bool true)]
def F74a_2 (x2 y2 z2 : Fin P) : List RG.It := [.x 20 [] (rv x2 y2 z2), .u [(20, 0)] 2]
def F74b_0 : List RG.It := [.m 2 [] 0, .m 3 [] 1, .m 4 [] 2]
def F74b_1 (x1 y1 z1 : Fin P) : List RG.It := [.x 18 [] (rv x1 y1 z1), .c 19 [(18, 0)] (.bool false)]
def F74b_3 (x2 y2 z2 : Fin P) : List RG.It := [.x 21 [] (rv x2 y2 z2), .c 22 [(21, 0)] (.bool true)]
def F74b_4 (x1 y1 z1 : Fin P) : List RG.It := [.x 23 [] (rv x1 y1 z1), .u [(23, 0)] 2]
def F74c_0 : List RG.It := [.m 2 [] 0, .m 3 [] 1, .m 4 [] 2]
def F74c_1 (x1 y1 z1 : Fin P) : List RG.It := [.x 18 [] (rv x1 y1 z1), .c 19 [(18, 0)] (.bool false)]
def F74c_3 (x2 y2 z2 : Fin P) : List RG.It := [.x 21 [] (rv x2 y2 z2), .c 22 [(21, 0)] (.bool false)]
def F74c_5 (z1 z2 c1 c2 : Fin P) : List RG.It := [.s 24 [] (.p 0 8), .x 25 [(24, 0)] (fv z1), .s 26 [] (.p 0 8), .x 27 [(26, 2)] (fv z1), .c 28 [(25, 1), (27, 3)] (fv c1), .s 29 [] (.p 1 8), .x 30 [(29, 5)] (fv z2), .s 31 [] (.p 1 8), .x 32 [(31, 7)] (fv z2), .c 33 [(30, 6), (32, 8)] (fv c2), .m 5 [] 3, .m 6 [] 4, .u [(5, 10), (28, 4)] 3, .u [(6, 11), (33, 9)] 4]
def F74c_6 (x1 x2 c1 c2 c3 c4 : Fin P) : List RG.It := [.s 34 [] (.p 0 0), .x 35 [(34, 0)] (fv x1), .x 36 [] (fv c2), .c 37 [(35, 1), (36, 2)] (fv c3), .s 38 [] (.p 1 0), .x 39 [(38, 4)] (fv x2), .x 40 [] (fv c1), .c 41 [(39, 5), (40, 6)] (fv c4), .m 7 [] 5, .m 8 [] 6, .u [(7, 8), (37, 3)] 5, .u [(8, 9), (41, 7)] 6]
def F74c_7 (y1 z1 y2 z2 c1 c2 c5 c6 c7 c8 : Fin P) : List RG.It := [.s 42 [] (.p 0 4), .x 43 [(42, 0)] (fv y1), .x 44 [] (fv c2), .c 45 [(43, 1), (44, 2)] (fv c5), .s 46 [] (.p 1 8), .x 47 [(46, 4)] (fv z2), .c 48 [(45, 3), (47, 5)] (fv c6), .s 49 [] (.p 1 4), .x 50 [(49, 7)] (fv y2), .x 51 [] (fv c1), .c 52 [(50, 8), (51, 9)] (fv c7), .s 53 [] (.p 0 8), .x 54 [(53, 11)] (fv z1), .c 55 [(52, 10), (54, 12)] (fv c8), .m 9 [] 7, .m 10 [] 8, .u [(9, 14), (48, 6)] 7, .u [(10, 15), (55, 13)] 8]
def F74c_8 (c3 c4 c6 c8 : Fin P) : List RG.It := [.x 56 [] (fv c3), .x 57 [] (fv c4), .x 58 [(56, 0), (57, 1)] (.bool true), .x 59 [(58, 2)] (.bool true), .x 60 [] (fv c6), .x 61 [] (fv c8), .x 62 [(60, 4), (61, 5)] (.bool true), .x 63 [(59, 3), (62, 6)] (.bool true)]
def F74c_9 (x1 y1 z1 c9 c10 c11 : Fin P) : List RG.It := [.x 64 [] (rv x1 y1 z1), .c 65 [(64, 0)] (rv c9 c10 c11), .u [(65, 1)] 2]
def F74d_0 : List RG.It := [.m 2 [] 0, .m 3 [] 1, .m 4 [] 2]
def F74d_1 (x1 y1 z1 : Fin P) : List RG.It := [.x 18 [] (rv x1 y1 z1), .c 19 [(18, 0)] (.bool false)]
def F74d_3 (x2 y2 z2 : Fin P) : List RG.It := [.x 21 [] (rv x2 y2 z2), .c 22 [(21, 0)] (.bool false)]
def F74d_5 (z1 z2 c1 c2 : Fin P) : List RG.It := [.s 24 [] (.p 0 8), .x 25 [(24, 0)] (fv z1), .s 26 [] (.p 0 8), .x 27 [(26, 2)] (fv z1), .c 28 [(25, 1), (27, 3)] (fv c1), .s 29 [] (.p 1 8), .x 30 [(29, 5)] (fv z2), .s 31 [] (.p 1 8), .x 32 [(31, 7)] (fv z2), .c 33 [(30, 6), (32, 8)] (fv c2), .m 5 [] 3, .m 6 [] 4, .u [(5, 10), (28, 4)] 3, .u [(6, 11), (33, 9)] 4]
def F74d_6 (x1 x2 c1 c2 c3 c4 : Fin P) : List RG.It := [.s 34 [] (.p 0 0), .x 35 [(34, 0)] (fv x1), .x 36 [] (fv c2), .c 37 [(35, 1), (36, 2)] (fv c3), .s 38 [] (.p 1 0), .x 39 [(38, 4)] (fv x2), .x 40 [] (fv c1), .c 41 [(39, 5), (40, 6)] (fv c4), .m 7 [] 5, .m 8 [] 6, .u [(7, 8), (37, 3)] 5, .u [(8, 9), (41, 7)] 6]
def F74d_7 (y1 z1 y2 z2 c1 c2 c5 c6 c7 c8 : Fin P) : List RG.It := [.s 42 [] (.p 0 4), .x 43 [(42, 0)] (fv y1), .x 44 [] (fv c2), .c 45 [(43, 1), (44, 2)] (fv c5), .s 46 [] (.p 1 8), .x 47 [(46, 4)] (fv z2), .c 48 [(45, 3), (47, 5)] (fv c6), .s 49 [] (.p 1 4), .x 50 [(49, 7)] (fv y2), .x 51 [] (fv c1), .c 52 [(50, 8), (51, 9)] (fv c7), .s 53 [] (.p 0 8), .x 54 [(53, 11)] (fv z1), .c 55 [(52, 10), (54, 12)] (fv c8), .m 9 [] 7, .m 10 [] 8, .u [(9, 14), (48, 6)] 7, .u [(10, 15), (55, 13)] 8]
def F74d_8 (c3 c4 : Fin P) : List RG.It := [.x 56 [] (fv c3), .x 57 [] (fv c4), .x 58 [(56, 0), (57, 1)] (.bool false), .x 59 [(58, 2)] (.bool false), ⟨some 60, [], (.v undef), .pass⟩, ⟨some 61, [], (.v undef), .pass⟩, ⟨some 62, [], (.v undef), .pass⟩, .x 63 [(59, 3), (62, 6)] (.bool false)]
def F74d_10 (c3 c4 c6 c8 c9 c10 : Fin P) : List RG.It := [.x 66 [] (fv c4), .x 67 [] (fv c3), .c 68 [(66, 0), (67, 1)] (fv c9), .x 69 [] (fv c8), .x 70 [] (fv c6), .c 71 [(69, 3), (70, 4)] (fv c10), .m 11 [] 9, .m 12 [] 10, .u [(11, 6), (68, 2)] 9, .u [(12, 7), (71, 5)] 10]
def F74d_11 (c9 c11 : Fin P) : List RG.It := [.x 72 [] (fv c9), .x 73 [] (fv c9), .c 74 [(72, 0), (73, 1)] (fv c11), .m 13 [] 11, .u [(13, 3), (74, 2)] 11]
def F74d_12 (c3 c9 c11 c12 c13 : Fin P) : List RG.It := [.x 75 [] (fv c11), .x 76 [] (fv c9), .c 77 [(75, 0), (76, 1)] (fv c12), .x 78 [] (fv c11), .x 79 [] (fv c3), .c 80 [(78, 3), (79, 4)] (fv c13), .m 14 [] 12, .m 15 [] 13, .u [(14, 6), (77, 2)] 12, .u [(15, 7), (80, 5)] 13]
def F74d_13 (c10 c12 c13 c14 c15 c16 c17 : Fin P) : List RG.It := [.x 81 [] (fv c10), .x 82 [] (fv c10), .c 83 [(81, 0), (82, 1)] (fv c14), .x 84 [] (fv c12), .c 85 [(83, 2), (84, 3)] (fv c15), .x 86 [] (fv c13), .c 87 [(86, 5)] (fv c16), .c 88 [(85, 4), (87, 6)] (fv c17), .m 16 [] 14, .u [(16, 8), (88, 7)] 14]
def F74d_14 (c6 c10 c12 c13 c17 c18 c19 c20 c21 : Fin P) : List RG.It := [.x 89 [] (fv c10), .x 90 [] (fv c13), .x 91 [] (fv c17), .c 92 [(90, 1), (91, 2)] (fv c18), .c 93 [(89, 0), (92, 3)] (fv c19), .x 94 [] (fv c12), .x 95 [] (fv c6), .c 96 [(94, 5), (95, 6)] (fv c20), .c 97 [(93, 4), (96, 7)] (fv c21), .m 17 [] 15, .u [(17, 9), (97, 8)] 15]
def F74d_15 (z1 z2 c9 c17 c21 c22 c23 : Fin P) : List RG.It := [.x 98 [] (fv c17), .x 99 [] (fv c21), .s 100 [] (.p 0 8), .x 101 [(100, 2)] (fv z1), .s 102 [] (.p 1 8), .x 103 [(102, 4)] (fv z2), .c 104 [(101, 3), (103, 5)] (fv c22), .x 105 [] (fv c9), .c 106 [(104, 6), (105, 7)] (fv c23), .x 107 [(98, 0), (99, 1), (106, 8)] (rv c17 c21 c23), .u [(107, 9)] 2]
def F74e_0 : List RG.It := [.m 2 [] 0, .m 3 [] 1, .m 4 [] 2]
def F74e_1 (x1 y1 z1 : Fin P) : List RG.It := [.x 18 [] (rv x1 y1 z1), .c 19 [(18, 0)] (.bool false)]
def F74e_3 (x2 y2 z2 : Fin P) : List RG.It := [.x 21 [] (rv x2 y2 z2), .c 22 [(21, 0)] (.bool false)]
def F74e_5 (z1 z2 c1 c2 : Fin P) : List RG.It := [.s 24 [] (.p 0 8), .x 25 [(24, 0)] (fv z1), .s 26 [] (.p 0 8), .x 27 [(26, 2)] (fv z1), .c 28 [(25, 1), (27, 3)] (fv c1), .s 29 [] (.p 1 8), .x 30 [(29, 5)] (fv z2), .s 31 [] (.p 1 8), .x 32 [(31, 7)] (fv z2), .c 33 [(30, 6), (32, 8)] (fv c2), .m 5 [] 3, .m 6 [] 4, .u [(5, 10), (28, 4)] 3, .u [(6, 11), (33, 9)] 4]
def F74e_6 (x1 x2 c1 c2 c3 c4 : Fin P) : List RG.It := [.s 34 [] (.p 0 0), .x 35 [(34, 0)] (fv x1), .x 36 [] (fv c2), .c 37 [(35, 1), (36, 2)] (fv c3), .s 38 [] (.p 1 0), .x 39 [(38, 4)] (fv x2), .x 40 [] (fv c1), .c 41 [(39, 5), (40, 6)] (fv c4), .m 7 [] 5, .m 8 [] 6, .u [(7, 8), (37, 3)] 5, .u [(8, 9), (41, 7)] 6]
def F74e_7 (y1 z1 y2 z2 c1 c2 c5 c6 c7 c8 : Fin P) : List RG.It := [.s 42 [] (.p 0 4), .x 43 [(42, 0)] (fv y1), .x 44 [] (fv c2), .c 45 [(43, 1), (44, 2)] (fv c5), .s 46 [] (.p 1 8), .x 47 [(46, 4)] (fv z2), .c 48 [(45, 3), (47, 5)] (fv c6), .s 49 [] (.p 1 4), .x 50 [(49, 7)] (fv y2), .x 51 [] (fv c1), .c 52 [(50, 8), (51, 9)] (fv c7), .s 53 [] (.p 0 8), .x 54 [(53, 11)] (fv z1), .c 55 [(52, 10), (54, 12)] (fv c8), .m 9 [] 7, .m 10 [] 8, .u [(9, 14), (48, 6)] 7, .u [(10, 15), (55, 13)] 8]
def F74e_8 (c3 c4 c6 c8 : Fin P) : List RG.It := [.x 56 [] (fv c3), .x 57 [] (fv c4), .x 58 [(56, 0), (57, 1)] (.bool true), .x 59 [(58, 2)] (.bool true), .x 60 [] (fv c6), .x 61 [] (fv c8), .x 62 [(60, 4), (61, 5)] (.bool false), .x 63 [(59, 3), (62, 6)] (.bool false)]
def F74e_10 (c3 c4 c6 c8 c9 c10 : Fin P) : List RG.It := [.x 66 [] (fv c4), .x 67 [] (fv c3), .c 68 [(66, 0), (67, 1)] (fv c9), .x 69 [] (fv c8), .x 70 [] (fv c6), .c 71 [(69, 3), (70, 4)] (fv c10), .m 11 [] 9, .m 12 [] 10, .u [(11, 6), (68, 2)] 9, .u [(12, 7), (71, 5)] 10]
def F74e_11 (c9 c11 : Fin P) : List RG.It := [.x 72 [] (fv c9), .x 73 [] (fv c9), .c 74 [(72, 0), (73, 1)] (fv c11), .m 13 [] 11, .u [(13, 3), (74, 2)] 11]
def F74e_12 (c3 c9 c11 c12 c13 : Fin P) : List RG.It := [.x 75 [] (fv c11), .x 76 [] (fv c9), .c 77 [(75, 0), (76, 1)] (fv c12), .x 78 [] (fv c11), .x 79 [] (fv c3), .c 80 [(78, 3), (79, 4)] (fv c13), .m 14 [] 12, .m 15 [] 13, .u [(14, 6), (77, 2)] 12, .u [(15, 7), (80, 5)] 13]
def F74e_13 (c10 c12 c13 c14 c15 c16 c17 : Fin P) : List RG.It := [.x 81 [] (fv c10), .x 82 [] (fv c10), .c 83 [(81, 0), (82, 1)] (fv c14), .x 84 [] (fv c12), .c 85 [(83, 2), (84, 3)] (fv c15), .x 86 [] (fv c13), .c 87 [(86, 5)] (fv c16), .c 88 [(85, 4), (87, 6)] (fv c17), .m 16 [] 14, .u [(16, 8), (88, 7)] 14]
def F74e_14 (c6 c10 c12 c13 c17 c18 c19 c20 c21 : Fin P) : List RG.It := [.x 89 [] (fv c10), .x 90 [] (fv c13), .x 91 [] (fv c17), .c 92 [(90, 1), (91, 2)] (fv c18), .c 93 [(89, 0), (92, 3)] (fv c19), .x 94 [] (fv c12), .x 95 [] (fv c6), .c 96 [(94, 5), (95, 6)] (fv c20), .c 97 [(93, 4), (96, 7)] (fv c21), .m 17 [] 15, .u [(17, 9), (97, 8)] 15]
def F74e_15 (z1 z2 c9 c17 c21 c22 c23 : Fin P) : List RG.It := [.x 98 [] (fv c17), .x 99 [] (fv c21), .s 100 [] (.p 0 8), .x 101 [(100, 2)] (fv z1), .s 102 [] (.p 1 8), .x 103 [(102, 4)] (fv z2), .c 104 [(101, 3), (103, 5)] (fv c22), .x 105 [] (fv c9), .c 106 [(104, 6), (105, 7)] (fv c23), .x 107 [(98, 0), (99, 1), (106, 8)] (rv c17 c21 c23), .u [(107, 9)] 2]
end Go.Proofs.Ytepeakmcdbaigag
namespace Go.Proofs.Ytepeakmcdbaigag
open Go.RowKit Go.Sort
variable {P : Nat} [NeZero P]
/-- Three coordinates. -/
abbrev T3 (P : Nat) := Fin P × Fin P × Fin P
abbrev tv (t : T3 P) : Value := rv t.1 t.2.1 t.2.2
abbrev tw (t : T3 P) : List Value := ws t.1 ++ (ws t.2.1 ++ ws t.2.2)
def JacT (t : T3 P) (p : EC.Pt P) : Prop := EC.Jac t.1 t.2.1 t.2.2 p ∧ EC.On p
def twJ (t : T3 P) : T3 P := (EC.twX t.1 t.2.1, EC.twY t.1 t.2.1, EC.twZ t.2.1 t.2.2)
def plJ (a b : T3 P) : T3 P :=
  if a.2.2 = 0 then b else if b.2.2 = 0 then a else
  if EC.plAx a.1 b.2.2 = EC.plAx b.1 a.2.2 ∧ EC.plAy a.2.1 b.2.2 = EC.plAy b.2.1 a.2.2 then twJ a else
  (EC.plX (EC.plAx a.1 b.2.2) (EC.plAy a.2.1 b.2.2) (EC.plAx b.1 a.2.2) (EC.plAy b.2.1 a.2.2), EC.plY (EC.plAx a.1 b.2.2) (EC.plAy a.2.1 b.2.2) (EC.plAx b.1 a.2.2) (EC.plAy b.2.1 a.2.2), EC.plZ a.2.2 b.2.2 (EC.plAx a.1 b.2.2) (EC.plAx b.1 a.2.2))
def opJ (t : T3 P) : T3 P := (t.1, 0 - t.2.1, t.2.2)
def raJ (x y : Fin P) : T3 P := if x = 0 ∧ y = 0 then (0, 0, 0) else (x, y, 1)
theorem JacT.twice (C : Fld P) {t : T3 P} {p : EC.Pt P} (h : JacT t p) : JacT (twJ t) (EC.add p p) := ⟨h.1.twice C.cur h.2, C.cur.on h.2 h.2⟩
theorem JacT.plus (C : Fld P) {a b : T3 P} {p q : EC.Pt P} (h : JacT a p) (h' : JacT b q) : JacT (plJ a b) (EC.add p q) := by
  refine ⟨?_, C.cur.on h.2 h'.2⟩
  obtain ⟨x1, y1, z1⟩ := a
  obtain ⟨x2, y2, z2⟩ := b
  unfold plJ
  by_cases n1 : z1 = 0
  · rw [if_pos n1]
    obtain rfl := h.1.zero C.cur n1
    exact h'.1
  · rw [if_neg n1]
    by_cases n2 : z2 = 0
    · rw [if_pos n2]
      obtain rfl := h'.1.zero C.cur n2
      rw [EC.add_none]
      exact h.1
    · rw [if_neg n2]
      rcases h.1.plus C.cur h.2 h'.1 h'.2 n1 n2 with ⟨e1, e2, e3⟩ | ⟨e1, e2⟩
      · rw [if_pos ⟨e1, e2⟩, e3]
        exact h.1.twice C.cur h.2
      · rw [if_neg e1]
        exact e2
theorem JacT.neg {t : T3 P} {p : EC.Pt P} (h : JacT t p) : JacT (opJ t) (EC.neg p) := ⟨h.1.neg, EC.neg_on h.2⟩
theorem raJ_J (C : Fld P) {x y : Fin P} {p : EC.Pt P} (h : EC.Pair x y p) (hp : EC.On p) : JacT (raJ x y) p := by
  refine ⟨?_, hp⟩
  unfold raJ
  by_cases hz : x = 0 ∧ y = 0
  · obtain rfl := h.nothing C.cur hp hz
    rw [if_pos hz]
    rfl
  · rw [if_neg hz]
    exact h.jac C.cur hz
theorem JacT.pair (C : Fld P) {t : T3 P} {p : EC.Pt P} (h : JacT t p) : EC.Pair (t.1 * (EC.inv t.2.2 * EC.inv t.2.2)) (t.2.1 * (EC.inv t.2.2 * EC.inv t.2.2) * EC.inv t.2.2) p := h.1.pair C.cur
theorem JacT.none : JacT ((0, 0, 0) : T3 P) .none := ⟨rfl, EC.none_on⟩
end Go.Proofs.Ytepeakmcdbaigag
namespace Go.Proofs.Ytepeakmcdbaigag.DG
def dsum (d : Nat → Int) : Nat → Int
  | 0 => 0
  | k + 1 => dsum d k + d k * 2 ^ k
def upd (d : Nat → Int) (i : Nat) (v : Int) : Nat → Int := fun j => if j = i then v else d j
theorem dsum_congr {d e : Nat → Int} : ∀ k, (∀ j, j < k → d j = e j) → dsum d k = dsum e k
  | 0, _ => rfl
  | k + 1, h => by
    show dsum d k + d k * 2 ^ k = dsum e k + e k * 2 ^ k
    rw [dsum_congr k fun j hj => h j (by omega), h k (by omega)]
theorem dsum_pad {d : Nat → Int} (i : Nat) (h : ∀ j, i ≤ j → d j = 0) : ∀ k, dsum d (i + k) = dsum d i
  | 0 => rfl
  | k + 1 => by
    show dsum d (i + k) + d (i + k) * 2 ^ (i + k) = _
    rw [h (i + k) (by omega), Int.zero_mul, Int.add_zero, dsum_pad i h k]
theorem upd_same (d : Nat → Int) (i : Nat) (v : Int) : upd d i v i = v := if_pos rfl
theorem upd_other {d : Nat → Int} {i j : Nat} {v : Int} (h : j ≠ i) : upd d i v j = d j := if_neg h
theorem dsum_upd {d : Nat → Int} (i : Nat) (v : Int) (h : ∀ j, i ≤ j → d j = 0) (k : Nat) : dsum (upd d i v) (i + 1 + k) = dsum d i + v * 2 ^ i := by
  rw [dsum_pad (i + 1) (fun j hj => by rw [upd_other (by omega)]; exact h j (by omega)) k]
  show dsum (upd d i v) i + upd d i v i * 2 ^ i = _
  rw [upd_same, dsum_congr i fun j hj => upd_other (by omega)]
/-- The digits of n, as far as i. -/
structure DI (n : Nat) (d : Nat → Int) (i c : Nat) : Prop where
  hc : c ≤ 1
  hz : ∀ j, i ≤ j → d j = 0
  hw : ∀ j, 257 ≤ j → d j = 0
  ho : ∀ j, d j = 0 ∨ (d j % 2 = 1 ∧ -15 ≤ d j ∧ d j ≤ 15)
  hs : (n : Int) = dsum d i + ((n / 2 ^ i + c : Nat) : Int) * 2 ^ i
  he : 257 ≤ i → n / 2 ^ i + c = 0
theorem DI.start (n : Nat) : DI n (fun _ => 0) 0 0 := by
  refine ⟨by decide, fun _ _ => rfl, fun _ _ => rfl, fun _ => Or.inl rfl, ?_, fun h => by omega⟩
  rw [Nat.pow_zero, Nat.div_one]
  show (n : Int) = 0 + ((n + 0 : Nat) : Int) * 1
  omega
theorem high {n i : Nat} (hn : n < 2 ^ 256) (hi : 256 ≤ i) : n / 2 ^ i = 0 :=
  Nat.div_eq_of_lt (Nat.lt_of_lt_of_le hn (Nat.pow_le_pow_right (by decide) hi))
theorem DI.skip {n i c : Nat} {d : Nat → Int} (h : DI n d i c) (hn : n < 2 ^ 256) (hi : i < 257) (hb : n / 2 ^ i % 2 = c) : DI n d (i + 1) c := by
  have hdiv : n / 2 ^ (i + 1) = n / 2 ^ i / 2 := by rw [Nat.pow_succ, Nat.div_div_eq_div_mul]
  refine ⟨h.hc, fun j hj => h.hz j (by omega), h.hw, h.ho, ?_, fun h257 => ?_⟩
  · rw [h.hs]
    show _ = dsum d i + d i * 2 ^ i + _
    rw [h.hz i (Nat.le_refl _), Int.zero_mul, Int.add_zero, hdiv, show n / 2 ^ i + c = (n / 2 ^ i / 2 + c) * 2 by have := h.hc; omega]
    rw [show (2 : Int) ^ (i + 1) = 2 ^ i * 2 by rw [Int.pow_succ]]
    generalize (2 : Int) ^ i = t
    rw [Int.natCast_mul, Int.mul_assoc, Int.mul_comm (2 : Nat) t]
    rfl
  · have h1 : i = 256 := by omega
    have h2 : n / 2 ^ i = 0 := high hn (by omega)
    rw [hdiv, h2]
    rw [h2] at hb
    omega
theorem DI.take {n i c : Nat} {d : Nat → Int} (h : DI n d i c) (hn : n < 2 ^ 256) (hi : i < 257) (hb : n / 2 ^ i % 2 ≠ c) :
    DI n (upd d i (((n / 2 ^ i % 32 + c : Nat) : Int) - 32 * (((n / 2 ^ i % 32 + c) / 16 : Nat) : Int))) (i + 5) ((n / 2 ^ i % 32 + c) / 16) := by
  have hdiv : n / 2 ^ (i + 5) = n / 2 ^ i / 32 := by rw [Nat.pow_add, Nat.div_div_eq_div_mul]
  have hc := h.hc
  have hodd : (n / 2 ^ i % 32 + c) % 2 = 1 := by omega
  have hlt : n / 2 ^ i % 32 + c < 32 := by omega
  refine ⟨by omega, fun j hj => ?_, fun j hj => ?_, fun j => ?_, ?_, fun h257 => ?_⟩
  · rw [upd_other (by omega)]; exact h.hz j (by omega)
  · rw [upd_other (by omega)]; exact h.hw j hj
  · by_cases hj : j = i
    · subst hj
      rw [upd_same]
      right
      omega
    · rw [upd_other hj]; exact h.ho j
  · rw [show i + 5 = i + 1 + 4 by omega, dsum_upd i _ h.hz 4, show i + 1 + 4 = i + 5 by omega, h.hs, Int.add_assoc]
    congr 1
    rw [hdiv, Int.pow_add, show (2 : Int) ^ 5 = 32 by decide, ← Int.mul_comm (32 : Int), ← Int.mul_assoc, ← Int.add_mul]
    congr 1
    omega
  · have h2 : n / 2 ^ i < 16 := by
      rw [Nat.div_lt_iff_lt_mul (Nat.pow_pos (by decide))]
      refine Nat.lt_of_lt_of_le hn ?_
      calc 2 ^ 256 = 16 * 2 ^ 252 := by decide +kernel
        _ ≤ 16 * 2 ^ i := Nat.mul_le_mul (Nat.le_refl _) (Nat.pow_le_pow_right (by decide) (by omega))
    rw [hdiv]
    generalize n / 2 ^ i = m at h2 hb hodd hlt ⊢
    rw [Nat.mod_eq_of_lt (show m < 32 by omega)] at hodd ⊢
    have h3 : m + c < 16 := by omega
    rw [Nat.div_eq_of_lt h3, Nat.div_eq_of_lt (show m < 32 by omega)]
theorem DI.all {n i c : Nat} {d : Nat → Int} (h : DI n d i c) (hi : 257 ≤ i) : (n : Int) = dsum d 257 := by
  have h1 := h.hs
  rw [h.he hi, Int.natCast_zero, Int.zero_mul, Int.add_zero] at h1
  rw [h1, show i = 257 + (i - 257) by omega, dsum_pad 257 h.hw]
/-- The digits from the top, k of them. -/
def hor (d : Nat → Int) : Nat → Int
  | 0 => 0
  | k + 1 => 2 * hor d k + d (256 - k)
theorem hor_sum (d : Nat → Int) : ∀ k, k ≤ 257 → hor d k * 2 ^ (257 - k) + dsum d (257 - k) = dsum d 257
  | 0, _ => by show 0 * _ + _ = _; rw [Int.zero_mul, Int.zero_add]
  | k + 1, hk => by
    rw [← hor_sum d k (by omega)]
    show (2 * hor d k + d (256 - k)) * 2 ^ (257 - (k + 1)) + dsum d (257 - (k + 1)) = _
    rw [show 257 - (k + 1) = 256 - k by omega, show 257 - k = (256 - k) + 1 by omega]
    show _ = hor d k * 2 ^ (256 - k + 1) + (dsum d (256 - k) + d (256 - k) * 2 ^ (256 - k))
    rw [Int.pow_succ]
    generalize (2 : Int) ^ (256 - k) = t
    generalize hor d k = a
    generalize dsum d (256 - k) = b
    rw [Int.add_mul, Int.mul_comm t 2, ← Int.mul_assoc, Int.mul_comm a 2]
    omega
theorem hor_all {n i c : Nat} {d : Nat → Int} (h : DI n d i c) (hi : 257 ≤ i) : hor d 257 = (n : Int) := by
  have h1 := hor_sum d 257 (Nat.le_refl _)
  rw [Nat.sub_self] at h1
  rw [h.all hi, ← h1]
  show hor d 257 = hor d 257 * 1 + 0
  omega
end Go.Proofs.Ytepeakmcdbaigag.DG
set_option linter.unusedVariables false
set_option linter.unusedSimpArgs false
namespace Go.Proofs.Ytepeakmcdbaigag
open Go.RowKit Go.Sort
theorem i8neg (d : Int) (hd : -15 ≤ d ∧ d ≤ 15) (w : World) : (Op.unary .neg (.int .i8 d)).run Try.prog w = .ok (.int .i8 (-d)) w := by
  have h := IntWalk.i8_in (-d) (by omega)
  go_simp
theorem shr4 (g : Nat) (hg : g < 32) (w : World) : (binOp .shr 3 (.int .i64 (g : Int)) (.int .u64 4)).run Try.prog w = .ok (.int .i64 ((g / 16 : Nat) : Int)) w := by
  go_simp
theorem shl5 (g : Nat) (hg : g < 32) (w : World) : (binOp .shl 3 (.int .i64 (g : Int)) (.int .u64 5)).run Try.prog w = .ok (.int .i64 (32 * (g : Int))) w := by
  have h := IntWalk.i64_in (32 * (g : Int)) (by omega)
  have h2 : (g : Int) * 32 = 32 * (g : Int) := by omega
  go_simp
theorem sub64i (a b : Int) (ha : -1000 ≤ a ∧ a ≤ 1000) (hb : -1000 ≤ b ∧ b ≤ 1000) (w : World) : (binOp .sub 3 (.int .i64 a) (.int .i64 b)).run Try.prog w = .ok (.int .i64 (a - b)) w := by
  have h := IntWalk.i64_in (a - b) (by omega)
  go_simp
theorem addn (a b : Nat) (ha : a ≤ 1000000) (hb : b ≤ 1000000) (w : World) : (binOp .add 3 (.int .i64 (a : Int)) (.int .i64 (b : Int))).run Try.prog w = .ok (.int .i64 ((a + b : Nat) : Int)) w := by
  have h := IntWalk.i64_in ((a : Int) + (b : Int)) (by omega)
  go_simp
theorem cmp_t {b c : Nat} (e : b = c) (w : World) : (binOp .eql 3 (.int .i64 (b : Int)) (.int .i64 (c : Int))).run Try.prog w = .ok (.bool true) w := by
  subst e
  go_simp
theorem cmp_f {b c : Nat} (e : ¬ b = c) (w : World) : (binOp .eql 3 (.int .i64 (b : Int)) (.int .i64 (c : Int))).run Try.prog w = .ok (.bool false) w := by
  have h : ¬ (b : Int) = (c : Int) := by omega
  go_simp
theorem lssn_t {i n : Nat} (e : i < n) (w : World) : (binOp .lss 3 (.int .i64 (i : Int)) (.int .i64 (n : Int))).run Try.prog w = .ok (.bool true) w := by
  have h : (i : Int) < (n : Int) := by omega
  go_simp
theorem lssn_f {i n : Nat} (e : ¬ i < n) (w : World) : (binOp .lss 3 (.int .i64 (i : Int)) (.int .i64 (n : Int))).run Try.prog w = .ok (.bool false) w := by
  have h : ¬ (i : Int) < (n : Int) := by omega
  go_simp
/-- 257 digits. -/
def dg (d : Nat → Int) : List Value := (List.range 257).map (fun j => Value.int .i8 (d j))
def dv (d : Nat → Int) : Value := .agg (dg d).toArray
theorem dg_length (d : Nat → Int) : (dg d).length = 257 := by unfold dg; rw [List.length_map, List.length_range]
theorem dg_at (d : Nat → Int) (j : Nat) (hj : j < 257) : (dg d)[j]? = some (.int .i8 (d j)) := by
  unfold dg
  rw [List.getElem?_map, List.getElem?_range hj]
  rfl
theorem dg_set (d : Nat → Int) (i : Nat) (v : Int) : dg (DG.upd d i v) = (dg d).set i (.int .i8 v) := by
  apply List.ext_getElem?
  intro j
  rw [List.getElem?_set]
  by_cases hj : j < 257
  · rw [dg_at _ j hj, dg_at _ j hj]
    by_cases hij : i = j
    · subst hij
      rw [if_pos rfl, if_pos (by rw [dg_length]; exact hj), DG.upd_same]
    · rw [if_neg hij, DG.upd_other (fun h => hij h.symm)]
  · rw [List.getElem?_eq_none (by rw [dg_length]; omega)]
    by_cases hij : i = j
    · rw [if_pos hij, if_neg (by rw [dg_length]; omega)]
    · rw [if_neg hij, List.getElem?_eq_none (by rw [dg_length]; omega)]
theorem dg_one (d : Nat → Int) : (dg d).all (·.oneCell') = true := by
  unfold dg
  rw [List.all_map]
  exact List.all_eq_true.2 fun _ _ => rfl
theorem dg_sub (d : Nat → Int) : ((dg d).drop 0).take (dg d).length = dg d := by rw [List.drop_zero, List.take_length]
/-- The digits, as they come. -/
def dgo (n : Nat) : Nat → (Nat → Int) → Nat → Nat → (Nat → Int)
  | 0, d, _, _ => d
  | f + 1, d, i, c => if i < 257 then (if n / 2 ^ i % 2 = c then dgo n f d (i + 1) c else
      dgo n f (DG.upd d i (((n / 2 ^ i % 32 + c : Nat) : Int) - 32 * (((n / 2 ^ i % 32 + c) / 16 : Nat) : Int))) (i + 5) ((n / 2 ^ i % 32 + c) / 16)) else d
theorem dgo_end (n : Nat) (f : Nat) (d : Nat → Int) (i c : Nat) (h : ¬ i < 257) : dgo n f d i c = d := by
  cases f with
  | zero => rfl
  | succ f => rw [dgo, if_neg h]
theorem dgo_DI {n : Nat} (hn : n < 2 ^ 256) : ∀ (f : Nat) (d : Nat → Int) (i c : Nat), DG.DI n d i c → 257 ≤ i + f → ∃ i' c', 257 ≤ i' ∧ DG.DI n (dgo n f d i c) i' c'
  | 0, d, i, c, h, hf => ⟨i, c, by omega, h⟩
  | f + 1, d, i, c, h, hf => by
    by_cases hi : i < 257
    · rw [dgo, if_pos hi]
      by_cases hb : n / 2 ^ i % 2 = c
      · rw [if_pos hb]
        exact dgo_DI hn f d (i + 1) c (h.skip hn hi hb) (by omega)
      · rw [if_neg hb]
        exact dgo_DI hn f _ (i + 5) _ (h.take hn hi hb) (by omega)
    · rw [dgo_end n _ d i c hi]
      exact ⟨i, c, by omega, h⟩
def digs (n : Nat) : Nat → Int := dgo n 257 (fun _ => 0) 0 0
theorem digs_DI {n : Nat} (hn : n < 2 ^ 256) : ∃ i c, 257 ≤ i ∧ DG.DI n (digs n) i c := dgo_DI hn 257 _ 0 0 (DG.DI.start n) (by omega)
end Go.Proofs.Ytepeakmcdbaigag
namespace Go.Proofs.Ytepeakmcdbaigag
open Go.RowKit Go.Sort
variable {P : Nat} [NeZero P]
def F115_0 : List RG.It := [.m 1 [] 0, .m 2 [] 1]
def F115_1 : List RG.It := [.m 3 [] 2]
def F115_2 : List RG.It := [.x 4 [] (.int .i64 0)]
def F115_3 : List RG.It := [.x 5 [] (.int .i64 0)]
def F115s_4 (i : Nat) : List RG.It := [.x 7 [] (.int .i64 (i : Int)), .x 8 [(7, 0)] (.bool true)]
def F115s_6 (n i c b : Nat) : List RG.It := [.x 11 [] (nv n), .x 12 [] (.int .i64 (i : Int)), .c 13 [(11, 0), (12, 1)] (.int .i64 (b : Int)), .x 14 [] (.int .i64 (c : Int)), .x 15 [(13, 2), (14, 3)] (.bool true)]
def F115s_5 (i : Nat) : List RG.It := [.x 9 [] (.int .i64 (i : Int)), .x 10 [(9, 0)] (.int .i64 ((i + 1 : Nat) : Int)), .x 5 [(10, 1)] (.int .i64 ((i + 1 : Nat) : Int))]
def F115t_4 (i : Nat) : List RG.It := [.x 7 [] (.int .i64 (i : Int)), .x 8 [(7, 0)] (.bool true)]
def F115t_6 (n i c b : Nat) : List RG.It := [.x 11 [] (nv n), .x 12 [] (.int .i64 (i : Int)), .c 13 [(11, 0), (12, 1)] (.int .i64 (b : Int)), .x 14 [] (.int .i64 (c : Int)), .x 15 [(13, 2), (14, 3)] (.bool false)]
def F115t_7 (n i c g e : Nat) : List RG.It := [.x 16 [] (nv n), .x 17 [] (.int .i64 (i : Int)), .c 18 [(16, 0), (17, 1)] (.int .i64 (e : Int)), .x 19 [] (.int .i64 (c : Int)), .x 20 [(18, 2), (19, 3)] (.int .i64 (g : Int)), .x 6 [(20, 4)] (.int .i64 (g : Int))]
def F115t_8 (g : Nat) : List RG.It := [.x 21 [] (.int .i64 (g : Int)), .x 22 [(21, 0)] (.int .i64 ((g / 16 : Nat) : Int)), .x 4 [(22, 1)] (.int .i64 ((g / 16 : Nat) : Int))]
def F115t_9 (i g : Nat) (v : Int) : List RG.It := [.x 23 [] (.int .i64 (i : Int)), .x 24 [] (.int .i64 (g : Int)), .x 25 [] (.int .i64 ((g / 16 : Nat) : Int)), .x 26 [(25, 2)] (.int .i64 (32 * ((g / 16 : Nat) : Int))), .x 27 [(24, 1), (26, 3)] (.int .i64 v), .x 28 [(27, 4)] (.int .i8 v), .s 29 [(23, 0)] (.p 2 i), .u [(29, 6), (28, 5)] 2]
def F115t_10 (i : Nat) : List RG.It := [.x 30 [] (.int .i64 (i : Int)), .x 31 [(30, 0)] (.int .i64 ((i + 4 : Nat) : Int)), .x 5 [(31, 1)] (.int .i64 ((i + 4 : Nat) : Int))]
def F115t_5 (i : Nat) : List RG.It := [.x 9 [] (.int .i64 ((i + 4 : Nat) : Int)), .x 10 [(9, 0)] (.int .i64 ((i + 4 + 1 : Nat) : Int)), .x 5 [(10, 1)] (.int .i64 ((i + 4 + 1 : Nat) : Int))]
def F115z_4 (i : Nat) : List RG.It := [.x 7 [] (.int .i64 (i : Int)), .x 8 [(7, 0)] (.bool false)]
def F115z_11 (d : Nat → Int) : List RG.It := [.x 32 [] (dv d), .u [(32, 0)] 1]
end Go.Proofs.Ytepeakmcdbaigag
namespace Go.Proofs.Ytepeakmcdbaigag
open Go.RowKit Go.Sort
variable {P : Nat} [NeZero P]
omit [NeZero P] in
theorem tw_length (t : T3 P) : (tw t).length = 12 := rfl
omit [NeZero P] in
theorem tw_one (t : T3 P) : (tw t).all (·.oneCell') = true := rfl
/-- The odd multiples as they are made. -/
def od (x y : Fin P) : Nat → T3 P
  | 0 => raJ x y
  | q + 1 => plJ (od x y q) (twJ (raJ x y))
theorem od_J (C : Fld P) {x y : Fin P} {p : EC.Pt P} (h : EC.Pair x y p) (hp : EC.On p) : ∀ q, JacT (od x y q) (EC.zmul ((2 * q + 1 : Nat) : Int) p)
  | 0 => by
    show JacT (raJ x y) (EC.zmul 1 p)
    rw [EC.zmul_one]
    exact raJ_J C h hp
  | q + 1 => by
    have h1 := od_J C h hp q
    have h2 := (raJ_J C h hp).twice C
    have h3 := h1.plus C h2
    have e : EC.zmul ((2 * (q + 1) + 1 : Nat) : Int) p = EC.add (EC.zmul ((2 * q + 1 : Nat) : Int) p) (EC.add p p) := by
      have : EC.add p p = EC.zmul 2 p := by
        rw [show (2 : Int) = 1 + 1 by rfl, EC.zmul_add C.cur hp, EC.zmul_one]
      rw [this, ← EC.zmul_add C.cur hp]
      congr 1
    rw [e]
    exact h3
/-- A block as fill leaves it, behind m odd multiples. -/
structure Fi (x y : Fin P) (D : Nat → Int) (C0 : List Value) (off m : Nat) (C : List Value) : Prop where
  len : C.length = C0.length
  out : ∀ j, j < off ∨ off + 353 ≤ j → C[j]? = C0[j]?
  dig : ∀ j, j < 257 → C[off + 96 + j]? = some (.int .i8 (D j))
  odd : ∀ q j, q < m → j < 12 → C[off + 12 * q + j]? = (tw (od x y q))[j]?
theorem Fi.first {x y : Fin P} {D : Nat → Int} {C0 : List Value} {off : Nat} (h : off + 353 ≤ C0.length) : Fi x y D C0 off 0 (RG.rep C0 (off + 96) (dg D)) := by
  have hl : off + 96 + (dg D).length ≤ C0.length := by rw [dg_length]; omega
  refine ⟨RG.rep_length hl, fun j hj => ?_, fun j hj => ?_, fun q j hq _ => by omega⟩
  · rw [RG.rep_at hl, if_neg (by rw [dg_length]; omega)]
  · rw [RG.rep_at hl, if_pos (by rw [dg_length]; omega), show off + 96 + j - (off + 96) = j by omega, dg_at D j hj]
theorem Fi.next {x y : Fin P} {D : Nat → Int} {C0 C : List Value} {off m : Nat} (h : off + 353 ≤ C0.length) (hF : Fi x y D C0 off m C) (hm : m < 8) : Fi x y D C0 off (m + 1) (RG.rep C (off + 12 * m) (tw (od x y m))) := by
  have hlen := hF.len
  have hl : off + 12 * m + (tw (od x y m)).length ≤ C.length := by rw [tw_length]; omega
  refine ⟨by rw [RG.rep_length hl]; exact hlen, fun j hj => ?_, fun j hj => ?_, fun q j hq hj => ?_⟩
  · rw [RG.rep_at hl, if_neg (by rw [tw_length]; omega)]
    exact hF.out j hj
  · rw [RG.rep_at hl, if_neg (by rw [tw_length]; omega)]
    exact hF.dig j hj
  · rw [RG.rep_at hl]
    by_cases hqm : q = m
    · subst hqm
      rw [if_pos (by rw [tw_length]; omega), show off + 12 * q + j - (off + 12 * q) = j by omega]
    · rw [if_neg (by rw [tw_length]; omega)]
      exact hF.odd q j (by omega) hj
theorem Fi.sub {x y : Fin P} {D : Nat → Int} {C0 C : List Value} {off m q : Nat} (h : off + 353 ≤ C0.length) (hF : Fi x y D C0 off m C) (hq : q < m) (hm : m ≤ 8) : (C.drop (off + 12 * q)).take (tw (od x y q)).length = tw (od x y q) :=
  RG.sub_of (fun j hj => hF.odd q j hq (by rw [tw_length] at hj; exact hj)) (by rw [tw_length]; have := hF.len; omega)
/-- The block behind fill. -/
def fc (x y : Fin P) (D : Nat → Int) (C0 : List Value) (off : Nat) : Nat → List Value
  | 0 => RG.rep C0 (off + 96) (dg D)
  | m + 1 => RG.rep (fc x y D C0 off m) (off + 12 * m) (tw (od x y m))
theorem fc_Fi {x y : Fin P} {D : Nat → Int} {C0 : List Value} {off : Nat} (h : off + 353 ≤ C0.length) : ∀ m, m ≤ 8 → Fi x y D C0 off m (fc x y D C0 off m)
  | 0, _ => Fi.first h
  | m + 1, hm => (fc_Fi h m (by omega)).next h (by omega)
theorem Fi.uniq {x y : Fin P} {D : Nat → Int} {C0 C C' : List Value} {off : Nat} (h : Fi x y D C0 off 8 C) (h' : Fi x y D C0 off 8 C') : C = C' := by
  apply List.ext_getElem?
  intro j
  by_cases h1 : j < off ∨ off + 353 ≤ j
  · rw [h.out j h1, h'.out j h1]
  · by_cases h2 : j < off + 96
    · have e : j = off + 12 * ((j - off) / 12) + (j - off) % 12 := by omega
      rw [e, h.odd _ _ (by omega) (by omega), h'.odd _ _ (by omega) (by omega)]
    · have e : j = off + 96 + (j - off - 96) := by omega
      rw [e, h.dig _ (by omega), h'.dig _ (by omega)]
end Go.Proofs.Ytepeakmcdbaigag
namespace Go.Proofs.Ytepeakmcdbaigag
open Go.RowKit Go.Sort
variable {P : Nat} [NeZero P]
def F107a_0 : List RG.It := [.m 4 [] 1, .m 5 [] 2]
def F107b_1 (n off : Nat) (x : Fin P) (D : Nat → Int) : List RG.It := [.s 8 [] (.p 0 off), .x 9 [] (nv n), .c 10 [(9, 1)] (dv D), .s 11 [(8, 0)] (.p 0 off), .s 12 [(11, 3)] (.p 0 (off + 96)), .u [(12, 4), (10, 2)] 0]
def F107c_2 (off : Nat) (x y : Fin P) (s0 : T3 P) : List RG.It := [.s 13 [] (.p 0 off), .x 14 [] (pv x y), .c 15 [(14, 1)] (tv s0), .s 16 [(13, 0)] (.p 0 off), .s 17 [(16, 3)] (.p 0 (off + 0)), .s 18 [(17, 4)] (.p 0 ((off + 0) + 12 * 0)), .u [(18, 5), (15, 2)] 0]
def F107d_3 (off : Nat) (x : Fin P) (s0 s2 : T3 P) : List RG.It := [.s 19 [] (.p 0 off), .s 20 [(19, 0)] (.p 0 off), .s 21 [(20, 1)] (.p 0 (off + 0)), .s 22 [(21, 2)] (.p 0 ((off + 0) + 12 * 0)), .x 23 [(22, 3)] (tv s0), .c 24 [(23, 4)] (tv s2), .m 6 [] 3, .u [(6, 6), (24, 5)] 3]
def F107d_4 (x : Fin P) : List RG.It := [.x 7 [] (.int .i64 1)]
def F107e_5 (i : Nat) (x : Fin P) : List RG.It := [.x 25 [] (.int .i64 (i : Int)), .x 26 [(25, 0)] (.bool true)]
def F107e_7 (off i : Nat) (x : Fin P) (s2 s3 sp : T3 P) : List RG.It := [.s 29 [] (.p 0 off), .x 30 [] (.int .i64 (i : Int)), .s 31 [] (.p 0 off), .x 32 [] (.int .i64 (i : Int)), .x 33 [(32, 3)] (.int .i64 ((i - 1 : Nat) : Int)), .s 34 [(31, 2)] (.p 0 off), .s 35 [(34, 5)] (.p 0 (off + 0)), .s 36 [(35, 6), (33, 4)] (.p 0 ((off + 0) + 12 * (i - 1))), .x 37 [(36, 7)] (tv sp), .x 38 [] (tv s2), .c 39 [(37, 8), (38, 9)] (tv s3), .s 40 [(29, 0)] (.p 0 off), .s 41 [(40, 11)] (.p 0 (off + 0)), .s 42 [(41, 12), (30, 1)] (.p 0 ((off + 0) + 12 * i)), .u [(42, 13), (39, 10)] 0]
def F107e_6 (i : Nat) (x : Fin P) : List RG.It := [.x 27 [] (.int .i64 (i : Int)), .x 28 [(27, 0)] (.int .i64 ((i + 1 : Nat) : Int)), .x 7 [(28, 1)] (.int .i64 ((i + 1 : Nat) : Int))]
def F107f_5 (i : Nat) (x : Fin P) : List RG.It := [.x 25 [] (.int .i64 (i : Int)), .x 26 [(25, 0)] (.bool false)]
end Go.Proofs.Ytepeakmcdbaigag
namespace Go.Proofs.Ytepeakmcdbaigag
open Go.RowKit Go.Sort
variable {P : Nat} [NeZero P]
def F108n_0 : List RG.It := [.m 4 [] 0]
def F108n_1 (k : Nat) : List RG.It := [.x 5 [] (.int .i8 (-(2 * (k : Int) + 1))), .x 6 [(5, 0)] (.bool true)]
def F108n_2 (kt o k : Nat) (s s2 : T3 P) : List RG.It := [.x 7 [] (.pointer (some ⟨kt, o, none⟩)), .x 8 [] (.int .i8 (-(2 * (k : Int) + 1))), .x 9 [(8, 1)] (.int .i8 (2 * (k : Int) + 1)), .x 10 [(9, 2)] (.int .i8 (k : Int)), .x 11 [(7, 0)] (.pointer (some ⟨kt, o, none⟩)), .x 12 [(11, 4)] (.pointer (some ⟨kt, (o + 0), none⟩)), .x 13 [(12, 5), (10, 3)] (.pointer (some ⟨kt, ((o + 0) + 12 * k), none⟩)), .x 14 [(13, 6)] (tv s), .c 15 [(14, 7)] (tv s2), .u [(15, 8)] 0]
def F108p_0 : List RG.It := [.m 4 [] 0]
def F108p_1 (k : Nat) : List RG.It := [.x 5 [] (.int .i8 (2 * (k : Int) + 1)), .x 6 [(5, 0)] (.bool false)]
def F108p_3 (kt o k : Nat) (s : T3 P) : List RG.It := [.x 16 [] (.pointer (some ⟨kt, o, none⟩)), .x 17 [] (.int .i8 (2 * (k : Int) + 1)), .x 18 [(17, 1)] (.int .i8 (k : Int)), .x 19 [(16, 0)] (.pointer (some ⟨kt, o, none⟩)), .x 20 [(19, 3)] (.pointer (some ⟨kt, (o + 0), none⟩)), .x 21 [(20, 4), (18, 2)] (.pointer (some ⟨kt, ((o + 0) + 12 * k), none⟩)), .x 22 [(21, 5)] (tv s), .u [(22, 6)] 0]
end Go.Proofs.Ytepeakmcdbaigag
namespace Go.Proofs.Ytepeakmcdbaigag
open Go.RowKit Go.Sort
variable {P : Nat} [NeZero P]
/-- A term times a digit. -/
def tmJ (x y : Fin P) (d : Int) : T3 P := if d < 0 then opJ (od x y ((-d).toNat / 2)) else od x y (d.toNat / 2)
theorem tmJ_J (C : Fld P) {x y : Fin P} {p : EC.Pt P} (h : EC.Pair x y p) (hp : EC.On p) {d : Int} (hd : d % 2 = 1) : JacT (tmJ x y d) (EC.zmul d p) := by
  unfold tmJ
  by_cases hn : d < 0
  · rw [if_pos hn]
    have h1 := (od_J C h hp ((-d).toNat / 2)).neg
    rw [← EC.zmul_neg C.cur hp] at h1
    rw [show -((2 * ((-d).toNat / 2) + 1 : Nat) : Int) = d by omega] at h1
    exact h1
  · rw [if_neg hn]
    have h1 := od_J C h hp (d.toNat / 2)
    rw [show ((2 * (d.toNat / 2) + 1 : Nat) : Int) = d by omega] at h1
    exact h1
/-- What a place adds, of i terms. -/
def inn (ns : Nat → Nat) (xs ys : Nat → Fin P) (st : T3 P) (place : Nat) : Nat → T3 P
  | 0 => st
  | i + 1 => if digs (ns i) place = 0 then inn ns xs ys st place i else plJ (inn ns xs ys st place i) (tmJ (xs i) (ys i) (digs (ns i) place))
/-- The sum behind m places. -/
def sumJ (ns : Nat → Nat) (xs ys : Nat → Fin P) (N : Nat) : Nat → T3 P
  | 0 => (0, 0, 0)
  | m + 1 => inn ns xs ys (twJ (sumJ ns xs ys N m)) (256 - m) N
theorem inn_J (C : Fld P) {ns : Nat → Nat} {xs ys : Nat → Fin P} {p : Nat → EC.Pt P} {N : Nat} (hns : ∀ i, i < N → ns i < 2 ^ 256) (hp : ∀ i, i < N → EC.Pair (xs i) (ys i) (p i)) (ho : ∀ i, i < N → EC.On (p i)) {st : T3 P} {g : Nat → Int} {place : Nat}
    (h : JacT st (EC.tot p N g)) : ∀ i, i ≤ N → JacT (inn ns xs ys st place i) (EC.tot p N (fun j => if j < i then g j + digs (ns j) place else g j))
  | 0, _ => by
    have : EC.tot p N (fun j => if j < 0 then g j + digs (ns j) place else g j) = EC.tot p N g := EC.tot_congr N fun j _ => if_neg (by omega)
    rw [this]
    exact h
  | i + 1, hi => by
    have ih := inn_J C hns hp ho (place := place) h i (by omega)
    have e : EC.tot p N (fun j => if j < i + 1 then g j + digs (ns j) place else g j) = EC.add (EC.tot p N (fun j => if j < i then g j + digs (ns j) place else g j)) (EC.zmul (digs (ns i) place) (p i)) := by
      rw [← EC.tot_upd C.cur _ i (digs (ns i) place) N (by omega) ho]
      refine EC.tot_congr N fun j _ => ?_
      by_cases h1 : j = i
      · subst h1
        rw [if_pos (by omega), if_pos rfl, if_neg (by omega)]
      · rw [if_neg h1]
        by_cases h2 : j < i
        · rw [if_pos (by omega), if_pos h2]
        · rw [if_neg (by omega), if_neg h2]
    rw [e]
    unfold inn
    by_cases hz : digs (ns i) place = 0
    · rw [if_pos hz, hz, EC.zmul_zero, EC.add_none]
      exact ih
    · rw [if_neg hz]
      obtain ⟨q, c, -, hD⟩ := digs_DI (hns i (by omega))
      rcases hD.ho place with h1 | h1
      · exact absurd h1 hz
      · exact ih.plus C (tmJ_J C (hp i (by omega)) (ho i (by omega)) h1.1)
theorem sumJ_J (C : Fld P) {ns : Nat → Nat} {xs ys : Nat → Fin P} {p : Nat → EC.Pt P} {N : Nat} (hns : ∀ i, i < N → ns i < 2 ^ 256) (hp : ∀ i, i < N → EC.Pair (xs i) (ys i) (p i)) (ho : ∀ i, i < N → EC.On (p i)) :
    ∀ m, m ≤ 257 → JacT (sumJ ns xs ys N m) (EC.tot p N (fun j => DG.hor (digs (ns j)) m))
  | 0, _ => by
    rw [show EC.tot p N (fun j => DG.hor (digs (ns j)) 0) = .none from EC.tot_zero p N (fun _ _ => rfl)]
    exact JacT.none
  | m + 1, hm => by
    have ih := (sumJ_J C hns hp ho m (by omega)).twice C
    rw [← EC.tot_twice C.cur _ N ho] at ih
    have h1 := inn_J C hns hp ho (place := 256 - m) ih N (Nat.le_refl _)
    have e : EC.tot p N (fun j => DG.hor (digs (ns j)) (m + 1)) = EC.tot p N (fun j => if j < N then 2 * DG.hor (digs (ns j)) m + digs (ns j) (256 - m) else 2 * DG.hor (digs (ns j)) m) :=
      EC.tot_congr N fun j hj => by rw [if_pos hj]; rfl
    rw [e]
    exact h1
theorem sumJ_all (C : Fld P) {ns : Nat → Nat} {xs ys : Nat → Fin P} {p : Nat → EC.Pt P} {N : Nat} (hns : ∀ i, i < N → ns i < 2 ^ 256) (hp : ∀ i, i < N → EC.Pair (xs i) (ys i) (p i)) (ho : ∀ i, i < N → EC.On (p i)) :
    JacT (sumJ ns xs ys N 257) (EC.tot p N (fun j => (ns j : Int))) := by
  have h := sumJ_J C hns hp ho 257 (Nat.le_refl _)
  have e : EC.tot p N (fun j => (ns j : Int)) = EC.tot p N (fun j => DG.hor (digs (ns j)) 257) := EC.tot_congr N fun j hj => by
    obtain ⟨q, c, hq, hD⟩ := digs_DI (hns j hj)
    exact (DG.hor_all hD hq).symm
  rw [e]
  exact h
/-- The block of terms, i of them filled. -/
def cc (ns : Nat → Nat) (xs ys : Nat → Fin P) (C0 : List Value) : Nat → List Value
  | 0 => C0
  | i + 1 => fc (xs i) (ys i) (digs (ns i)) (cc ns xs ys C0 i) (353 * i) 8
theorem cc_at {ns : Nat → Nat} {xs ys : Nat → Fin P} {C0 : List Value} {N : Nat} (hl : C0.length = 353 * N) : ∀ i, i ≤ N → (cc ns xs ys C0 i).length = 353 * N ∧
    ∀ j, j < i → (∀ q, q < 257 → (cc ns xs ys C0 i)[353 * j + 96 + q]? = some (.int .i8 (digs (ns j) q))) ∧ ∀ q r, q < 8 → r < 12 → (cc ns xs ys C0 i)[353 * j + 12 * q + r]? = (tw (od (xs j) (ys j) q))[r]?
  | 0, _ => ⟨hl, fun j hj => by omega⟩
  | i + 1, hi => by
    obtain ⟨h1, h2⟩ := cc_at hl i (by omega)
    have hF := fc_Fi (x := xs i) (y := ys i) (D := digs (ns i)) (C0 := cc ns xs ys C0 i) (off := 353 * i) (by rw [h1]; omega) 8 (Nat.le_refl _)
    refine ⟨by rw [← h1]; exact hF.len, fun j hj => ?_⟩
    by_cases hji : j = i
    · subst hji
      exact ⟨hF.dig, fun q r hq hr => hF.odd q r hq hr⟩
    · obtain ⟨g1, g2⟩ := h2 j (by omega)
      exact ⟨fun q hq => (hF.out _ (by omega)).trans (g1 q hq), fun q r hq hr => (hF.out _ (by omega)).trans (g2 q r hq hr)⟩
end Go.Proofs.Ytepeakmcdbaigag
namespace Go.Proofs.Ytepeakmcdbaigag
open Go.RowKit Go.Sort
variable {P : Nat} [NeZero P]
theorem sub1' (q : Nat) (hq : q < 1000) (w : World) : (binOp .sub 3 (.int .i64 (q : Int)) (.int .i64 1)).run Try.prog w = .ok (.int .i64 ((q : Int) - 1)) w := sub64i _ _ (by omega) (by omega) w
theorem geq0' (i : Nat) (w : World) : (binOp .geq 3 (.int .i64 (i : Int)) (.int .i64 0)).run Try.prog w = .ok (.bool true) w := by
  go_simp
def F82a_0 : List RG.It := [.m 4 [] 0]
def F82a_1 (N kn : Nat) (s : T3 P) : List RG.It := [.x 11 [] (.slice (some ⟨kn, 0, none⟩) N N), .x 12 [(11, 0)] (.int .i64 (N : Int)), ⟨some 13, [(12, 1)], (.s 1 N N), .make 1⟩, .s 5 [(13, 2)] (.s 1 N N)]
def F82a_2 (N : Nat) (s : T3 P) : List RG.It := [.s 14 [] (.s 1 N N), .x 15 [(14, 0)] (.int .i64 (N : Int)), .x 16 [] (.int .i64 0)]
def F82b_3 : List RG.It := [.x 17 [] (.bool true)]
def F82b_4 (i : Nat) : List RG.It := [.x 18 [] (.int .i64 (i : Int)), .x 6 [(18, 0)] (.int .i64 (i : Int))]
def F82b_5 (N kn ka i : Nat) (ns : Nat → Nat) (xs ys : Nat → Fin P) (s : T3 P) : List RG.It := [.s 19 [] (.s 1 N N), .x 20 [] (.int .i64 (i : Int)), .s 21 [(19, 0), (20, 1)] (.p 1 (353 * i)), .x 22 [] (.slice (some ⟨kn, 0, none⟩) N N), .x 23 [] (.int .i64 (i : Int)), .x 24 [(22, 3), (23, 4)] (.pointer (some ⟨kn, (0 + 4 * i), none⟩)), .x 25 [(24, 5)] (nv (ns i)), .x 26 [] (.slice (some ⟨ka, 0, none⟩) N N), .x 27 [] (.int .i64 (i : Int)), .x 28 [(26, 7), (27, 8)] (.pointer (some ⟨ka, (0 + 8 * i), none⟩)), .x 29 [(28, 9)] (pv (xs i) (ys i)), ⟨some 30, [(21, 2), (25, 6), (29, 10)], (.v (.tuple #[])), .put 1⟩]
def F82b_6 (i : Nat) : List RG.It := [.x 31 [] (.int .i64 ((i + 1 : Nat) : Int)), .x 16 [(31, 0)] (.int .i64 ((i + 1 : Nat) : Int))]
def F82c_3 : List RG.It := [.x 17 [] (.bool false)]
def F82c_7 : List RG.It := [.m 7 [] 2]
def F82c_8 : List RG.It := [.x 8 [] (.int .i64 256)]
def F82d_9 (q : Nat) : List RG.It := [.x 32 [] (.int .i64 (q : Int)), .x 33 [(32, 0)] (.bool true)]
def F82d_11 (s s2 : T3 P) : List RG.It := [.x 36 [] (tv s), .c 37 [(36, 0)] (tv s2), .u [(37, 1)] 2]
def F82d_12 (N : Nat) (s : T3 P) : List RG.It := [.s 38 [] (.s 1 N N), .x 39 [(38, 0)] (.int .i64 (N : Int)), .x 40 [] (.int .i64 0)]
def F82e_9 : List RG.It := [.x 32 [] (.int .i64 (-1)), .x 33 [(32, 0)] (.bool false)]
def F82e_19 (s : T3 P) : List RG.It := [.x 60 [] (tv s), .c 61 [(60, 0)] (pv (s.1 * (EC.inv s.2.2 * EC.inv s.2.2)) (s.2.1 * (EC.inv s.2.2 * EC.inv s.2.2) * EC.inv s.2.2)), .u [(61, 1)] 0]
def F82f_13 : List RG.It := [.x 41 [] (.bool true)]
def F82f_14 (i : Nat) : List RG.It := [.x 42 [] (.int .i64 (i : Int)), .x 9 [(42, 0)] (.int .i64 (i : Int))]
def F82f_15 (N i q : Nat) (s : T3 P) : List RG.It := [.s 43 [] (.s 1 N N), .x 44 [] (.int .i64 (i : Int)), .x 45 [] (.int .i64 (q : Int)), .s 46 [(43, 0), (44, 1)] (.p 1 (353 * i)), .s 47 [(46, 3)] (.p 1 ((353 * i) + 96)), .s 48 [(47, 4), (45, 2)] (.p 1 (((353 * i) + 96) + q)), .x 49 [(48, 5)] (.int .i8 0), .x 10 [(49, 6)] (.int .i8 0)]
def F82f_16 : List RG.It := [.x 50 [] (.int .i8 0), .x 51 [(50, 0)] (.bool false)]
def F82f_18 (i : Nat) : List RG.It := [.x 59 [] (.int .i64 ((i + 1 : Nat) : Int)), .x 40 [(59, 0)] (.int .i64 ((i + 1 : Nat) : Int))]
def F82g_13 : List RG.It := [.x 41 [] (.bool true)]
def F82g_14 (i : Nat) : List RG.It := [.x 42 [] (.int .i64 (i : Int)), .x 9 [(42, 0)] (.int .i64 (i : Int))]
def F82g_15 (N i q : Nat) (d : Int) (s : T3 P) : List RG.It := [.s 43 [] (.s 1 N N), .x 44 [] (.int .i64 (i : Int)), .x 45 [] (.int .i64 (q : Int)), .s 46 [(43, 0), (44, 1)] (.p 1 (353 * i)), .s 47 [(46, 3)] (.p 1 ((353 * i) + 96)), .s 48 [(47, 4), (45, 2)] (.p 1 (((353 * i) + 96) + q)), .x 49 [(48, 5)] (.int .i8 d), .x 10 [(49, 6)] (.int .i8 d)]
def F82g_16 (d : Int) : List RG.It := [.x 50 [] (.int .i8 d), .x 51 [(50, 0)] (.bool true)]
def F82g_17 (N i : Nat) (d : Int) (s s3 s4 : T3 P) : List RG.It := [.x 52 [] (tv s), .s 53 [] (.s 1 N N), .x 54 [] (.int .i64 (i : Int)), .s 55 [(53, 1), (54, 2)] (.p 1 (353 * i)), .x 56 [] (.int .i8 d), .c 57 [(55, 3), (56, 4)] (tv s3), .c 58 [(52, 0), (57, 5)] (tv s4), .u [(58, 6)] 2]
def F82g_18 (i : Nat) : List RG.It := [.x 59 [] (.int .i64 ((i + 1 : Nat) : Int)), .x 40 [(59, 0)] (.int .i64 ((i + 1 : Nat) : Int))]
def F82h_13 : List RG.It := [.x 41 [] (.bool false)]
def F82h_10 (q : Nat) : List RG.It := [.x 34 [] (.int .i64 (q : Int)), .x 35 [(34, 0)] (.int .i64 ((q : Int) - 1)), .x 8 [(35, 1)] (.int .i64 ((q : Int) - 1))]
end Go.Proofs.Ytepeakmcdbaigag
set_option linter.unusedVariables false
set_option linter.unusedSimpArgs false
namespace Go.Proofs.Ytepeakmcdbaigag
open Go.RowKit Go.Sort
variable {P : Nat} [NeZero P]
theorem ws_one (h : Fld P) : ([.int .u64 1, .int .u64 0, .int .u64 0, .int .u64 0] : List Value) = ws (1 : Fin P) := by
  have h := one_fv h
  unfold nv at h
  injection h with h
  exact congrArg Array.toList h
/-- The even root of a number, if there is one. -/
def rt (m : Fin P) : Option (Fin P) := if m.val ^ (P / 4 + 1) % P * (m.val ^ (P / 4 + 1) % P) % P = m.val then some (Fin.ofNat P (even P (m.val ^ (P / 4 + 1) % P))) else none
omit [NeZero P] in
theorem even_lt {r : Nat} (hP : 0 < P) (h : r < P) : even P r < P := by unfold even; split <;> omega
theorem rt_four {m y : Fin P} {v : Value} (h : rt m = some y) (hF : Four v (even P (m.val ^ (P / 4 + 1) % P))) : v = fv y := by
  unfold rt at h
  split at h
  · obtain rfl := Option.some.inj h
    have : (Fin.ofNat P (even P (m.val ^ (P / 4 + 1) % P))).val = even P (m.val ^ (P / 4 + 1) % P) := Nat.mod_eq_of_lt (even_lt (Nat.pos_of_neZero P) (Nat.mod_lt _ (Nat.pos_of_neZero P)))
    show v = nv _
    rw [this]
    exact hF.nv
  · cases h
theorem rt_yes {m y : Fin P} (h : rt m = some y) : m.val ^ (P / 4 + 1) % P * (m.val ^ (P / 4 + 1) % P) % P = m.val := by
  unfold rt at h
  split at h
  · assumption
  · cases h
theorem rt_no {m : Fin P} (h : rt m = none) : ¬ m.val ^ (P / 4 + 1) % P * (m.val ^ (P / 4 + 1) % P) % P = m.val := by
  unfold rt at h
  split at h
  · cases h
  · assumption
theorem RootR.val {m : Fin P} {e : Value} (h : RootR P m.val (m.val ^ (P / 4 + 1) % P) e) : (∀ y, rt m = some y → e = .tuple #[fv y, .bool true]) ∧ (rt m = none → e = .tuple #[fv (0 : Fin P), .bool false]) := by
  obtain ⟨ya, yb, yc, yd, ok, rfl, h1, h2, h3⟩ := h
  refine ⟨fun y hy => ?_, fun hn => ?_⟩
  · cases ok with
    | true => rw [rt_four hy (h1 rfl).2]
    | false => exact absurd (rt_yes hy) (h2 rfl)
  · cases ok with
    | true => exact absurd (h1 rfl).1 (rt_no hn)
    | false =>
      obtain ⟨rfl, rfl, rfl, rfl⟩ := h3 rfl
      rw [← zero_fv]
      rfl
end Go.Proofs.Ytepeakmcdbaigag
namespace Go.Proofs.Ytepeakmcdbaigag
open Go.RowKit Go.Sort
variable {P : Nat} [NeZero P]
def gl0 : List Value := [.int .u64 4294968273, .int .u64 0, .int .u64 0, .int .u64 0]
def F99y_0 (x : Fin P) : List RG.It := [.m 1 [] 0, .m 2 [] 1, .x 3 [] (.bool false)]
def F99y_1 : List RG.It := [.c 8 [] gv0, .m 4 [] 2, .u [(4, 1), (8, 0)] 2]
def F99y_2 (x c1 c2 c3 : Fin P) : List RG.It := [.x 9 [] gv0, .x 10 [] gv0, .x 11 [] gv0, .x 12 [] (fv x), .x 13 [] (fv x), .c 14 [(11, 2), (12, 3), (13, 4)] (fv c1), .x 15 [] (fv x), .c 16 [(10, 1), (14, 5), (15, 6)] (fv c2), .x 17 [] (fv (7 : Fin P)), .c 18 [(9, 0), (16, 7), (17, 8)] (fv c3), .m 5 [] 3, .u [(5, 10), (18, 9)] 3]
def F99y_3 (x y c3 : Fin P) : List RG.It := [.x 20 [] gv0, .x 21 [] (fv c3), .c 22 [(20, 0), (21, 1)] (.tuple #[(fv y), (.bool true)]), .x 19 [(22, 2)] (.tuple #[(fv y), (.bool true)]), .x 23 [(19, 3)] (fv y), .x 24 [(19, 3)] (.bool true), .m 6 [] 4, .u [(6, 6), (23, 4)] 4, .x 7 [(24, 5)] (.bool true)]
def F99y_4 (x : Fin P) : List RG.It := [.x 25 [] (.bool true), .x 26 [(25, 0)] (.bool false)]
def F99y_6 (x y : Fin P) : List RG.It := [.x 28 [] (fv x), .x 29 [] (fv y), .x 30 [(28, 0), (29, 1)] (pv x y), .u [(30, 2)] 1, .x 3 [] (.bool true)]
def F99n_0 (x : Fin P) : List RG.It := [.m 1 [] 0, .m 2 [] 1, .x 3 [] (.bool false)]
def F99n_1 : List RG.It := [.c 8 [] gv0, .m 4 [] 2, .u [(4, 1), (8, 0)] 2]
def F99n_2 (x c1 c2 c3 : Fin P) : List RG.It := [.x 9 [] gv0, .x 10 [] gv0, .x 11 [] gv0, .x 12 [] (fv x), .x 13 [] (fv x), .c 14 [(11, 2), (12, 3), (13, 4)] (fv c1), .x 15 [] (fv x), .c 16 [(10, 1), (14, 5), (15, 6)] (fv c2), .x 17 [] (fv (7 : Fin P)), .c 18 [(9, 0), (16, 7), (17, 8)] (fv c3), .m 5 [] 3, .u [(5, 10), (18, 9)] 3]
def F99n_3 (x c3 : Fin P) : List RG.It := [.x 20 [] gv0, .x 21 [] (fv c3), .c 22 [(20, 0), (21, 1)] (.tuple #[(fv (0 : Fin P)), (.bool false)]), .x 19 [(22, 2)] (.tuple #[(fv (0 : Fin P)), (.bool false)]), .x 23 [(19, 3)] (fv (0 : Fin P)), .x 24 [(19, 3)] (.bool false), .m 6 [] 4, .u [(6, 6), (23, 4)] 4, .x 7 [(24, 5)] (.bool false)]
def F99n_4 (x : Fin P) : List RG.It := [.x 25 [] (.bool false), .x 26 [(25, 0)] (.bool true)]
def F99n_5 (x : Fin P) : List RG.It := [.x 27 [] (pv (0 : Fin P) (0 : Fin P)), .u [(27, 0)] 1, .x 3 [] (.bool false)]
def F77_0 : List RG.It := [.m 1 [] 0, .m 2 [] 1]
def F77_1 (x y c1 : Fin P) : List RG.It := [.s 3 [] (.p 0 0), .x 4 [(3, 0)] (fv x), .c 5 [] gv0, .x 6 [] (fv (0 : Fin P)), .s 7 [] (.p 0 4), .x 8 [(7, 4)] (fv y), .c 9 [(5, 2), (6, 3), (8, 5)] (fv c1), .x 10 [(4, 1), (9, 6)] (pv x c1), .u [(10, 7)] 1]
end Go.Proofs.Ytepeakmcdbaigag
namespace Go.Proofs.Ytepeakmcdbaigag
open Go.RowKit Go.Sort Go.Deep
theorem readS_of {w W : World} {k0 k1 k6 a b c d g0 g1 g2 : Nat} (h : Kept w k0 [⟨k6, 0, a, b, c, d⟩, ⟨k0, 0, g0, g1, g2, 0⟩, ⟨k1, 0, 0, 0, 0, 0⟩] W) : W.cell? ⟨k6, 0, none⟩ = some (.int .u64 (a : Int)) ∧ W.cell? ⟨k6, 1, none⟩ = some (.int .u64 (b : Int)) ∧ W.cell? ⟨k6, 2, none⟩ = some (.int .u64 (c : Int)) ∧ W.cell? ⟨k6, 3, none⟩ = some (.int .u64 (d : Int)) ∧ W.cell? ⟨k0, 0, none⟩ = some (.int .u64 (g0 : Int)) ∧ W.cell? ⟨k0, 1, none⟩ = some (.int .u64 (g1 : Int)) ∧ W.cell? ⟨k0, 2, none⟩ = some (.int .u64 (g2 : Int)) ∧ W.cell? ⟨k0, 3, none⟩ = some (.int .u64 0) ∧ Kept w k0 [⟨k6, 0, a, b, c, d⟩, ⟨k0, 0, g0, g1, g2, 0⟩, ⟨k1, 0, 0, 0, 0, 0⟩] W := ⟨h.head.c0, h.head.c1, h.head.c2, h.head.c3, h.tail.head.c0, h.tail.head.c1, h.tail.head.c2, h.tail.head.c3, h⟩
theorem readS_get {w W : World} {k0 k1 k6 a b c d g0 g1 g2 : Nat} (h : W.cell? ⟨k6, 0, none⟩ = some (.int .u64 (a : Int)) ∧ W.cell? ⟨k6, 1, none⟩ = some (.int .u64 (b : Int)) ∧ W.cell? ⟨k6, 2, none⟩ = some (.int .u64 (c : Int)) ∧ W.cell? ⟨k6, 3, none⟩ = some (.int .u64 (d : Int)) ∧ W.cell? ⟨k0, 0, none⟩ = some (.int .u64 (g0 : Int)) ∧ W.cell? ⟨k0, 1, none⟩ = some (.int .u64 (g1 : Int)) ∧ W.cell? ⟨k0, 2, none⟩ = some (.int .u64 (g2 : Int)) ∧ W.cell? ⟨k0, 3, none⟩ = some (.int .u64 0) ∧ Kept w k0 [⟨k6, 0, a, b, c, d⟩, ⟨k0, 0, g0, g1, g2, 0⟩, ⟨k1, 0, 0, 0, 0, 0⟩] W) : Kept w k0 [⟨k6, 0, a, b, c, d⟩, ⟨k0, 0, g0, g1, g2, 0⟩, ⟨k1, 0, 0, 0, 0, 0⟩] W := h.2.2.2.2.2.2.2.2
theorem readS_alloc {w W : World} {k0 k1 k6 a b c d g0 g1 g2 : Nat} {o : Obj} (h : W.cell? ⟨k6, 0, none⟩ = some (.int .u64 (a : Int)) ∧ W.cell? ⟨k6, 1, none⟩ = some (.int .u64 (b : Int)) ∧ W.cell? ⟨k6, 2, none⟩ = some (.int .u64 (c : Int)) ∧ W.cell? ⟨k6, 3, none⟩ = some (.int .u64 (d : Int)) ∧ W.cell? ⟨k0, 0, none⟩ = some (.int .u64 (g0 : Int)) ∧ W.cell? ⟨k0, 1, none⟩ = some (.int .u64 (g1 : Int)) ∧ W.cell? ⟨k0, 2, none⟩ = some (.int .u64 (g2 : Int)) ∧ W.cell? ⟨k0, 3, none⟩ = some (.int .u64 0) ∧ Kept w k0 [⟨k6, 0, a, b, c, d⟩, ⟨k0, 0, g0, g1, g2, 0⟩, ⟨k1, 0, 0, 0, 0, 0⟩] W) : (W.alloc o).cell? ⟨k6, 0, none⟩ = some (.int .u64 (a : Int)) ∧ (W.alloc o).cell? ⟨k6, 1, none⟩ = some (.int .u64 (b : Int)) ∧ (W.alloc o).cell? ⟨k6, 2, none⟩ = some (.int .u64 (c : Int)) ∧ (W.alloc o).cell? ⟨k6, 3, none⟩ = some (.int .u64 (d : Int)) ∧ (W.alloc o).cell? ⟨k0, 0, none⟩ = some (.int .u64 (g0 : Int)) ∧ (W.alloc o).cell? ⟨k0, 1, none⟩ = some (.int .u64 (g1 : Int)) ∧ (W.alloc o).cell? ⟨k0, 2, none⟩ = some (.int .u64 (g2 : Int)) ∧ (W.alloc o).cell? ⟨k0, 3, none⟩ = some (.int .u64 0) ∧ Kept w k0 [⟨k6, 0, a, b, c, d⟩, ⟨k0, 0, g0, g1, g2, 0⟩, ⟨k1, 0, 0, 0, 0, 0⟩] (W.alloc o) := readS_of ((readS_get h).alloc o)
theorem readS_allocd {w W : World} {k0 k1 k6 a b c d g0 g1 g2 : Nat} {o : Obj} (h : W.drew.cell? ⟨k6, 0, none⟩ = some (.int .u64 (a : Int)) ∧ W.drew.cell? ⟨k6, 1, none⟩ = some (.int .u64 (b : Int)) ∧ W.drew.cell? ⟨k6, 2, none⟩ = some (.int .u64 (c : Int)) ∧ W.drew.cell? ⟨k6, 3, none⟩ = some (.int .u64 (d : Int)) ∧ W.drew.cell? ⟨k0, 0, none⟩ = some (.int .u64 (g0 : Int)) ∧ W.drew.cell? ⟨k0, 1, none⟩ = some (.int .u64 (g1 : Int)) ∧ W.drew.cell? ⟨k0, 2, none⟩ = some (.int .u64 (g2 : Int)) ∧ W.drew.cell? ⟨k0, 3, none⟩ = some (.int .u64 0) ∧ Kept w k0 [⟨k6, 0, a, b, c, d⟩, ⟨k0, 0, g0, g1, g2, 0⟩, ⟨k1, 0, 0, 0, 0, 0⟩] W.drew) : (W.alloc o).drew.cell? ⟨k6, 0, none⟩ = some (.int .u64 (a : Int)) ∧ (W.alloc o).drew.cell? ⟨k6, 1, none⟩ = some (.int .u64 (b : Int)) ∧ (W.alloc o).drew.cell? ⟨k6, 2, none⟩ = some (.int .u64 (c : Int)) ∧ (W.alloc o).drew.cell? ⟨k6, 3, none⟩ = some (.int .u64 (d : Int)) ∧ (W.alloc o).drew.cell? ⟨k0, 0, none⟩ = some (.int .u64 (g0 : Int)) ∧ (W.alloc o).drew.cell? ⟨k0, 1, none⟩ = some (.int .u64 (g1 : Int)) ∧ (W.alloc o).drew.cell? ⟨k0, 2, none⟩ = some (.int .u64 (g2 : Int)) ∧ (W.alloc o).drew.cell? ⟨k0, 3, none⟩ = some (.int .u64 0) ∧ Kept w k0 [⟨k6, 0, a, b, c, d⟩, ⟨k0, 0, g0, g1, g2, 0⟩, ⟨k1, 0, 0, 0, 0, 0⟩] (W.alloc o).drew := readS_of (((readS_get h).undrew).alloc o).drew
end Go.Proofs.Ytepeakmcdbaigag
namespace Go.Proofs.Ytepeakmcdbaigag
open Go.RowKit Go.Sort Go.Deep
/-- Numbers of four words, one behind the other, in a block: the first i of n are f. -/
def Nums (W : World) (k n i : Nat) (f : Nat → Nat) : Prop := ∀ j, j < n → ∃ a b c d : Nat, (Blk.mk k (j * 4) a b c d).at W ∧ (j < i → Four (.agg #[.int .u64 (a : Int), .int .u64 (b : Int), .int .u64 (c : Int), .int .u64 (d : Int)]) (f j))
theorem Nums.call {W w1 : World} {k n i : Nat} {f : Nat → Nat} (h : Nums W k n i f) (hb : Below W.heap.size W w1) : Nums w1 k n i f := fun j hj => by
  obtain ⟨a, b, c, d, h1, h2⟩ := h j hj
  exact ⟨a, b, c, d, h1.call hb, h2⟩
theorem Nums.drew {W : World} {k n i : Nat} {f : Nat → Nat} (h : Nums W k n i f) : Nums W.drew k n i f := fun j hj => by
  obtain ⟨a, b, c, d, h1, h2⟩ := h j hj
  exact ⟨a, b, c, d, ⟨h1.c0, h1.c1, h1.c2, h1.c3, h1.f⟩, h2⟩
theorem Nums.put {W : World} {k n i x y z t : Nat} {f : Nat → Nat} (h : Nums W k n i f) (hi : i < n) (hF : Four (.agg #[.int .u64 (x : Int), .int .u64 (y : Int), .int .u64 (z : Int), .int .u64 (t : Int)]) (f i)) :
    Nums ((((W.setCell ⟨k, i * 4, none⟩ (.int .u64 (x : Int))).setCell ⟨k, i * 4 + 1, none⟩ (.int .u64 (y : Int))).setCell ⟨k, i * 4 + 2, none⟩ (.int .u64 (z : Int))).setCell ⟨k, i * 4 + 3, none⟩ (.int .u64 (t : Int))) k n (i + 1) f := fun j hj => by
  obtain ⟨a, b, c, d, h1, h2⟩ := h j hj
  by_cases hji : j = i
  · subst hji
    exact ⟨x, y, z, t, h1.put x y z t, fun _ => hF⟩
  · refine ⟨a, b, c, d, ?_, fun h3 => h2 (by omega)⟩
    exact (((h1.off (by simp only; omega) _).off (by simp only; omega) _).off (by simp only; omega) _).off (by simp only; omega) _
theorem made_at (N j : Nat) (hj : j < N) : (madeCells #[.int .u64 0, .int .u64 0, .int .u64 0, .int .u64 0] N)[j]? = some (.int .u64 0) := by
  unfold madeCells
  rw [Array.getElem?_map, Array.getElem?_range]
  have h : j % 4 = 0 ∨ j % 4 = 1 ∨ j % 4 = 2 ∨ j % 4 = 3 := by omega
  simp only [hj, if_true, Option.map_some, List.size_toArray, List.length_cons, List.length_nil, Nat.zero_add]
  rcases h with h | h | h | h <;> rw [h] <;> rfl
theorem Nums.new (w : World) (t : TypeId) (n : Nat) (f : Nat → Nat) : Nums (w.alloc (.cells (madeCells #[.int .u64 0, .int .u64 0, .int .u64 0, .int .u64 0] (n * 4)) t)) w.heap.size n 0 f := fun j hj =>
  ⟨0, 0, 0, 0, ⟨by rw [World.cell?_alloc_new]; exact made_at _ _ (by simp only; omega), by rw [World.cell?_alloc_new]; exact made_at _ _ (by simp only; omega), by rw [World.cell?_alloc_new]; exact made_at _ _ (by simp only; omega), by rw [World.cell?_alloc_new]; exact made_at _ _ (by simp only; omega), fun o => World.frozen?_alloc_new _ _ _ _⟩, fun h => by omega⟩
/-- Bytes as an argument: where there are 32, they lie there. -/
def Arg (w : World) (v : Value) (bs : Bs) : Prop := ∃ (p : Option Addr) (n cap : Nat), v = .slice p n cap ∧ bs.size = n ∧ (n = 32 → ∃ g o, p = some ⟨g, o, none⟩ ∧ 32 ≤ cap ∧ g < w.heap.size ∧ Holds encB w g o bs)
theorem Arg.below {w w1 : World} {v : Value} {bs : Bs} (h : Arg w v bs) (hb : Below w.heap.size w w1) : Arg w1 v bs := by
  obtain ⟨p, n, cap, rfl, hs, h1⟩ := h
  refine ⟨p, n, cap, rfl, hs, fun h2 => ?_⟩
  obtain ⟨g, o, h3, h4, h6, h7⟩ := h1 h2
  exact ⟨g, o, h3, h4, Nat.lt_of_lt_of_le h6 hb.size, Holds.below h7 hb h6⟩
/-- Bytes are a number of the prime. -/
def IsNum (P : Nat) (bs : Bs) : Prop := bs.size = 32 ∧ beV bs.toList < P
/-- A list of arguments in a block. -/
def Args (w : World) (q : Option Addr) (n : Nat) (L : Nat → Bs) : Prop := 0 < n → ∃ gg, q = some ⟨gg, 0, none⟩ ∧ gg < w.heap.size ∧ ∀ j, j < n → ∃ v, w.cell? ⟨gg, j, none⟩ = some v ∧ Arg w v (L j)
/-- What numbers answers. -/
def NumsR (w : World) (P n : Nat) (L : Nat → Bs) (e : Value) (w' : World) : Prop :=
  ((∀ j, j < n → IsNum P (L j)) ∧ ∃ k, w.heap.size ≤ k ∧ e = .tuple #[.slice (some ⟨k, 0, none⟩) n n, .int .i64 0] ∧ Nums w' k n n (fun j => beV (L j).toList)) ∨
  ((∃ j, j < n ∧ ¬ IsNum P (L j)) ∧ e = .tuple #[.slice none 0 0, .int .i64 3])
end Go.Proofs.Ytepeakmcdbaigag
namespace Go.Proofs.Ytepeakmcdbaigag
open Go.RowKit Go.Sort
theorem u5 : (Try.prog.underlying 5).map (·.isRow) = some false := by kernel_rfl
theorem und5 : Try.prog.underlying 5 = some (.int .u8) := by kernel_rfl
theorem cells5 : Try.prog.cellsOf 5 = 1 := by kernel_rfl
theorem sl33 (g o cap : Nat) (hc : 33 ≤ cap) (w : World) : (Instr.sliceAt 26 (.slice (some ⟨g, o, none⟩) 33 cap) (some (.int .i64 1)) none none).run Try.prog w = .ok (.slice (some ⟨g, o + 1, none⟩) 32 (cap - 1)) w := by
  go_simp
  omega
theorem at23 (g o n cap : Nat) (hn : 0 < n) (w : World) : (Instr.indexAt 26 (.slice (some ⟨g, o, none⟩) n cap) (.int .i64 0)).run Try.prog w = .ok (.pointer (some ⟨g, o, none⟩)) w := by
  have h : (0 : Int) < (n : Int) := by omega
  go_simp
theorem part5 (xs : Array Value) (i : Nat) (v : Value) (h : xs[i]? = some v) (w : World) : (part 5 xs i).run Try.prog w = .ok v w := by
  go_simp
theorem eqI (xs ys : Array Value) (a b : Nat → Int) (D : Nat) (w : World) : ∀ (is : List Nat), (∀ i ∈ is, xs[i]? = some (.int .u8 (a i))) → (∀ i ∈ is, ys[i]? = some (.int .u8 (b i))) →
    (Op.eqItems (D + 1) 5 1 xs ys is).run Try.prog w = .ok (decide (∀ i ∈ is, a i = b i)) w
  | [], _, _ => by
    rw [Op.eqItems]
    simp
  | i :: is, hx, hy => by
    have ih := eqI xs ys a b D w is (fun j hj => hx j (List.mem_cons_of_mem _ hj)) (fun j hj => hy j (List.mem_cons_of_mem _ hj))
    have p1 := part5 xs (i * 1) _ (by rw [Nat.mul_one]; exact hx i List.mem_cons_self) w
    have p2 := part5 ys (i * 1) _ (by rw [Nat.mul_one]; exact hy i List.mem_cons_self) w
    have p3 := run_equalIn_int (P := Try.prog) w D 5 .u8 .u8 (a i) (b i) und5
    rw [Op.eqItems]
    simp only [Sem.run_bind, p1, p2, p3, Result.andThen_ok]
    by_cases h : a i = b i
    · simp only [h, beq_self_eq_true, Bool.not_true, Bool.false_eq_true, if_false, ih, List.forall_mem_cons, true_and]
    · have h2 : (a i == b i) = false := by simpa using h
      simp only [h2, Bool.not_false, if_true, Sem.run_pure, List.forall_mem_cons, h, false_and, decide_false]
/-- 33 bytes as cells. -/
def bl33 (bs : Bs) : List Value := bs.toList.map encB
def z33 : List Value := List.replicate 33 (.int .u8 0)
theorem bl33_at (bs : Bs) (i : Nat) (h : i < bs.size) : (bl33 bs)[i]? = some (.int .u8 (ub bs[i]!)) := by
  unfold bl33
  rw [List.getElem?_map, Array.getElem?_toList, Array.getElem?_eq_getElem h, getElem!_pos bs i h]
  rfl
@[reducible] def Zero33 (bs : Bs) : Prop := ∀ i ∈ List.range 33, ub bs[i]! = 0
theorem bl33_length {bs : Bs} (h : bs.size = 33) : (bl33 bs).length = 33 := by unfold bl33; rw [List.length_map, Array.length_toList, h]
theorem bl33_range {bs : Bs} {w : World} {g o : Nat} (hB : Holds encB w g o bs) : w.rangeAt g o (bl33 bs) := fun j v hv => by
  have hj : j < bs.size := by
    have := (List.getElem?_eq_some_iff.1 hv).1
    unfold bl33 at this
    rwa [List.length_map, Array.length_toList] at this
  rw [bl33_at bs j hj] at hv
  rw [(hB j hj).1]
  exact hv
/-- All but the first. -/
def tl33 (bs : Bs) : Bs := bs.extract 1 33
theorem tl33_size {bs : Bs} (h : bs.size = 33) : (tl33 bs).size = 32 := by unfold tl33; rw [Array.size_extract, h]; rfl
theorem tl33_holds {bs : Bs} {w : World} {g o : Nat} (h : bs.size = 33) (hB : Holds encB w g o bs) : Holds encB w g (o + 1) (tl33 bs) :=
  Holds.part hB (by rw [tl33_size h, h]; decide) (fun j hj => by
    rw [tl33_size h] at hj
    unfold tl33
    rw [getElem!_pos _ j (by rw [Array.size_extract, h]; omega), getElem!_pos _ (1 + j) (by rw [h]; omega), Array.getElem_extract])
variable {P : Nat} [NeZero P]
/-- Bytes as a pair. -/
def rdx (P : Nat) [NeZero P] (bs : Bs) : Fin P := Fin.ofNat P (beV (tl33 bs).toList)
def rd (P : Nat) [NeZero P] (bs : Bs) : Option (Fin P × Fin P) :=
  if bs.size = 33 then
    if Zero33 bs then some (0, 0) else
    if ub bs[0]! = 2 ∨ ub bs[0]! = 3 then
      if beV (tl33 bs).toList < P then
        (rt (rdx P bs * rdx P bs * rdx P bs + 7)).map (fun y => (rdx P bs, if ub bs[0]! = 3 then 0 - y else y))
      else none
    else none
  else none
def rdV : Option (Fin P × Fin P) → Value
  | none => .tuple #[pv (0 : Fin P) 0, .bool false]
  | some p => .tuple #[pv p.1 p.2, .bool true]
end Go.Proofs.Ytepeakmcdbaigag
namespace Go.Proofs.Ytepeakmcdbaigag
open Go.RowKit Go.Sort
variable {P : Nat} [NeZero P]
def F71a_0 (x : Fin P) : List RG.It := [.m 2 [] 0, .x 3 [] (.bool false)]
def F71a_1 (q : Option Addr) (n cap : Nat) (x : Fin P) : List RG.It := [.x 7 [] (.slice q n cap), .x 8 [(7, 0)] (.int .i64 (n : Int)), .x 9 [(8, 1)] (.bool true)]
def F71a_2 (x : Fin P) : List RG.It := [.x 10 [] (pv (0 : Fin P) (0 : Fin P)), .u [(10, 0)] 0, .x 3 [] (.bool false)]
def F71b_0 (m : Int) (x : Fin P) : List RG.It := [.m 2 [] 0, .x 3 [] (.bool false)]
def F71b_1 (g o cap : Nat) (x : Fin P) : List RG.It := [.x 7 [] (.slice (some ⟨g, o, none⟩) 33 cap), .x 8 [(7, 0)] (.int .i64 33), .x 9 [(8, 1)] (.bool false)]
def F71b_3 (g o cap : Nat) (bs : Bs) (x : Fin P) : List RG.It := [.x 11 [] (.slice (some ⟨g, o, none⟩) 33 cap), .x 12 [(11, 0)] (.pointer (some ⟨g, o, none⟩)), .x 13 [(12, 1)] (.agg (bl33 bs).toArray), .x 14 [] (.agg z33.toArray), .x 15 [(13, 2), (14, 3)] (.bool true)]
def F71b_4 (x : Fin P) : List RG.It := [.x 16 [] (pv (0 : Fin P) (0 : Fin P)), .u [(16, 0)] 0, .x 3 [] (.bool true)]
def F71c_0 (m : Int) (x : Fin P) : List RG.It := [.m 2 [] 0, .x 3 [] (.bool false)]
def F71c_1 (g o cap : Nat) (x : Fin P) : List RG.It := [.x 7 [] (.slice (some ⟨g, o, none⟩) 33 cap), .x 8 [(7, 0)] (.int .i64 33), .x 9 [(8, 1)] (.bool false)]
def F71c_3 (g o cap : Nat) (bs : Bs) (x : Fin P) : List RG.It := [.x 11 [] (.slice (some ⟨g, o, none⟩) 33 cap), .x 12 [(11, 0)] (.pointer (some ⟨g, o, none⟩)), .x 13 [(12, 1)] (.agg (bl33 bs).toArray), .x 14 [] (.agg z33.toArray), .x 15 [(13, 2), (14, 3)] (.bool false)]
def F71c_5 (g o cap : Nat) (m : Int) (x : Fin P) : List RG.It := [.x 17 [] (.slice (some ⟨g, o, none⟩) 33 cap), .x 18 [(17, 0)] (.pointer (some ⟨g, o, none⟩)), .x 19 [(18, 1)] (.int .u8 m), .x 20 [(19, 2)] (.bool true), .x 21 [(20, 3)] (.bool true), .x 22 [] (.slice (some ⟨g, o, none⟩) 33 cap), .x 23 [(22, 5)] (.pointer (some ⟨g, o, none⟩)), .x 24 [(23, 6)] (.int .u8 m), .x 25 [(24, 7)] (.bool true), .x 26 [(21, 4), (25, 8)] (.bool true)]
def F71c_6 (x : Fin P) : List RG.It := [.x 27 [] (pv (0 : Fin P) (0 : Fin P)), .u [(27, 0)] 0, .x 3 [] (.bool false)]
def F71d2_0 (m : Int) (x : Fin P) : List RG.It := [.m 2 [] 0, .x 3 [] (.bool false)]
def F71d2_1 (g o cap : Nat) (x : Fin P) : List RG.It := [.x 7 [] (.slice (some ⟨g, o, none⟩) 33 cap), .x 8 [(7, 0)] (.int .i64 33), .x 9 [(8, 1)] (.bool false)]
def F71d2_3 (g o cap : Nat) (bs : Bs) (x : Fin P) : List RG.It := [.x 11 [] (.slice (some ⟨g, o, none⟩) 33 cap), .x 12 [(11, 0)] (.pointer (some ⟨g, o, none⟩)), .x 13 [(12, 1)] (.agg (bl33 bs).toArray), .x 14 [] (.agg z33.toArray), .x 15 [(13, 2), (14, 3)] (.bool false)]
def F71d2_5 (g o cap : Nat) (x : Fin P) : List RG.It := [.x 17 [] (.slice (some ⟨g, o, none⟩) 33 cap), .x 18 [(17, 0)] (.pointer (some ⟨g, o, none⟩)), .x 19 [(18, 1)] (.int .u8 2), .x 20 [(19, 2)] (.bool false), .x 21 [(20, 3)] (.bool false), ⟨some 22, [], (.v undef), .pass⟩, ⟨some 23, [], (.v undef), .pass⟩, ⟨some 24, [], (.v undef), .pass⟩, ⟨some 25, [], (.v undef), .pass⟩, .x 26 [(21, 4), (25, 8)] (.bool false)]
def F71d2_7 (g o cap : Nat) (m : Int) (x : Fin P) : List RG.It := [.c 29 [] gv0, .x 30 [] (.slice (some ⟨g, o, none⟩) 33 cap), .x 31 [(30, 1)] (.slice (some ⟨g, o + 1, none⟩) 32 (cap - 1)), .c 32 [(29, 0), (31, 2)] (.tuple #[(fv (0 : Fin P)), (.bool false)]), .x 28 [(32, 3)] (.tuple #[(fv (0 : Fin P)), (.bool false)]), .x 33 [(28, 4)] (fv (0 : Fin P)), .x 34 [(28, 4)] (.bool false), .m 4 [] 1, .u [(4, 7), (33, 5)] 1, .x 5 [(34, 6)] (.bool false)]
def F71d2_8 (x : Fin P) : List RG.It := [.x 35 [] (.bool false), .x 36 [(35, 0)] (.bool true)]
def F71d2_9 (x : Fin P) : List RG.It := [.x 37 [] (pv (0 : Fin P) (0 : Fin P)), .u [(37, 0)] 0, .x 3 [] (.bool false)]
def F71e2_0 (m : Int) (x : Fin P) : List RG.It := [.m 2 [] 0, .x 3 [] (.bool false)]
def F71e2_1 (g o cap : Nat) (x : Fin P) : List RG.It := [.x 7 [] (.slice (some ⟨g, o, none⟩) 33 cap), .x 8 [(7, 0)] (.int .i64 33), .x 9 [(8, 1)] (.bool false)]
def F71e2_3 (g o cap : Nat) (bs : Bs) (x : Fin P) : List RG.It := [.x 11 [] (.slice (some ⟨g, o, none⟩) 33 cap), .x 12 [(11, 0)] (.pointer (some ⟨g, o, none⟩)), .x 13 [(12, 1)] (.agg (bl33 bs).toArray), .x 14 [] (.agg z33.toArray), .x 15 [(13, 2), (14, 3)] (.bool false)]
def F71e2_5 (g o cap : Nat) (x : Fin P) : List RG.It := [.x 17 [] (.slice (some ⟨g, o, none⟩) 33 cap), .x 18 [(17, 0)] (.pointer (some ⟨g, o, none⟩)), .x 19 [(18, 1)] (.int .u8 2), .x 20 [(19, 2)] (.bool false), .x 21 [(20, 3)] (.bool false), ⟨some 22, [], (.v undef), .pass⟩, ⟨some 23, [], (.v undef), .pass⟩, ⟨some 24, [], (.v undef), .pass⟩, ⟨some 25, [], (.v undef), .pass⟩, .x 26 [(21, 4), (25, 8)] (.bool false)]
def F71e2_7 (g o cap : Nat) (m : Int) (x : Fin P) : List RG.It := [.c 29 [] gv0, .x 30 [] (.slice (some ⟨g, o, none⟩) 33 cap), .x 31 [(30, 1)] (.slice (some ⟨g, o + 1, none⟩) 32 (cap - 1)), .c 32 [(29, 0), (31, 2)] (.tuple #[(fv x), (.bool true)]), .x 28 [(32, 3)] (.tuple #[(fv x), (.bool true)]), .x 33 [(28, 4)] (fv x), .x 34 [(28, 4)] (.bool true), .m 4 [] 1, .u [(4, 7), (33, 5)] 1, .x 5 [(34, 6)] (.bool true)]
def F71e2_8 (x : Fin P) : List RG.It := [.x 35 [] (.bool true), .x 36 [(35, 0)] (.bool false)]
def F71e2_10 (m : Int) (x : Fin P) : List RG.It := [.x 39 [] (fv x), .c 40 [(39, 0)] (.tuple #[(pv (0 : Fin P) (0 : Fin P)), (.bool false)]), .x 38 [(40, 1)] (.tuple #[(pv (0 : Fin P) (0 : Fin P)), (.bool false)]), .x 41 [(38, 2)] (pv (0 : Fin P) (0 : Fin P)), .x 42 [(38, 2)] (.bool false), .m 6 [] 2, .u [(6, 5), (41, 3)] 2, .x 5 [(42, 4)] (.bool false)]
def F71e2_11 (x : Fin P) : List RG.It := [.x 43 [] (.bool false), .x 44 [(43, 0)] (.bool false), ⟨some 45, [], (.v undef), .pass⟩, ⟨some 46, [], (.v undef), .pass⟩, ⟨some 47, [], (.v undef), .pass⟩, ⟨some 48, [], (.v undef), .pass⟩, .x 49 [(44, 1), (48, 5)] (.bool false)]
def F71e2_13 (x : Fin P) : List RG.It := [.x 52 [] (pv (0 : Fin P) (0 : Fin P)), .x 53 [] (.bool false), .u [(52, 0)] 0, .x 3 [(53, 1)] (.bool false)]
def F71f_0 (m : Int) (x : Fin P) : List RG.It := [.m 2 [] 0, .x 3 [] (.bool false)]
def F71f_1 (g o cap : Nat) (x : Fin P) : List RG.It := [.x 7 [] (.slice (some ⟨g, o, none⟩) 33 cap), .x 8 [(7, 0)] (.int .i64 33), .x 9 [(8, 1)] (.bool false)]
def F71f_3 (g o cap : Nat) (bs : Bs) (x : Fin P) : List RG.It := [.x 11 [] (.slice (some ⟨g, o, none⟩) 33 cap), .x 12 [(11, 0)] (.pointer (some ⟨g, o, none⟩)), .x 13 [(12, 1)] (.agg (bl33 bs).toArray), .x 14 [] (.agg z33.toArray), .x 15 [(13, 2), (14, 3)] (.bool false)]
def F71f_5 (g o cap : Nat) (x : Fin P) : List RG.It := [.x 17 [] (.slice (some ⟨g, o, none⟩) 33 cap), .x 18 [(17, 0)] (.pointer (some ⟨g, o, none⟩)), .x 19 [(18, 1)] (.int .u8 2), .x 20 [(19, 2)] (.bool false), .x 21 [(20, 3)] (.bool false), ⟨some 22, [], (.v undef), .pass⟩, ⟨some 23, [], (.v undef), .pass⟩, ⟨some 24, [], (.v undef), .pass⟩, ⟨some 25, [], (.v undef), .pass⟩, .x 26 [(21, 4), (25, 8)] (.bool false)]
def F71f_7 (g o cap : Nat) (m : Int) (x : Fin P) : List RG.It := [.c 29 [] gv0, .x 30 [] (.slice (some ⟨g, o, none⟩) 33 cap), .x 31 [(30, 1)] (.slice (some ⟨g, o + 1, none⟩) 32 (cap - 1)), .c 32 [(29, 0), (31, 2)] (.tuple #[(fv x), (.bool true)]), .x 28 [(32, 3)] (.tuple #[(fv x), (.bool true)]), .x 33 [(28, 4)] (fv x), .x 34 [(28, 4)] (.bool true), .m 4 [] 1, .u [(4, 7), (33, 5)] 1, .x 5 [(34, 6)] (.bool true)]
def F71f_8 (x : Fin P) : List RG.It := [.x 35 [] (.bool true), .x 36 [(35, 0)] (.bool false)]
def F71f_10 (m : Int) (x y : Fin P) : List RG.It := [.x 39 [] (fv x), .c 40 [(39, 0)] (.tuple #[(pv x y), (.bool true)]), .x 38 [(40, 1)] (.tuple #[(pv x y), (.bool true)]), .x 41 [(38, 2)] (pv x y), .x 42 [(38, 2)] (.bool true), .m 6 [] 2, .u [(6, 5), (41, 3)] 2, .x 5 [(42, 4)] (.bool true)]
def F71f_11 (g o cap : Nat) (x : Fin P) : List RG.It := [.x 43 [] (.bool true), .x 44 [(43, 0)] (.bool true), .x 45 [] (.slice (some ⟨g, o, none⟩) 33 cap), .x 46 [(45, 2)] (.pointer (some ⟨g, o, none⟩)), .x 47 [(46, 3)] (.int .u8 2), .x 48 [(47, 4)] (.bool false), .x 49 [(44, 1), (48, 5)] (.bool false)]
def F71f_13 (x y : Fin P) : List RG.It := [.x 52 [] (pv x y), .x 53 [] (.bool true), .u [(52, 0)] 0, .x 3 [(53, 1)] (.bool true)]
def F71d3_0 (m : Int) (x : Fin P) : List RG.It := [.m 2 [] 0, .x 3 [] (.bool false)]
def F71d3_1 (g o cap : Nat) (x : Fin P) : List RG.It := [.x 7 [] (.slice (some ⟨g, o, none⟩) 33 cap), .x 8 [(7, 0)] (.int .i64 33), .x 9 [(8, 1)] (.bool false)]
def F71d3_3 (g o cap : Nat) (bs : Bs) (x : Fin P) : List RG.It := [.x 11 [] (.slice (some ⟨g, o, none⟩) 33 cap), .x 12 [(11, 0)] (.pointer (some ⟨g, o, none⟩)), .x 13 [(12, 1)] (.agg (bl33 bs).toArray), .x 14 [] (.agg z33.toArray), .x 15 [(13, 2), (14, 3)] (.bool false)]
def F71d3_5 (g o cap : Nat) (x : Fin P) : List RG.It := [.x 17 [] (.slice (some ⟨g, o, none⟩) 33 cap), .x 18 [(17, 0)] (.pointer (some ⟨g, o, none⟩)), .x 19 [(18, 1)] (.int .u8 3), .x 20 [(19, 2)] (.bool true), .x 21 [(20, 3)] (.bool true), .x 22 [] (.slice (some ⟨g, o, none⟩) 33 cap), .x 23 [(22, 5)] (.pointer (some ⟨g, o, none⟩)), .x 24 [(23, 6)] (.int .u8 3), .x 25 [(24, 7)] (.bool false), .x 26 [(21, 4), (25, 8)] (.bool false)]
def F71d3_7 (g o cap : Nat) (m : Int) (x : Fin P) : List RG.It := [.c 29 [] gv0, .x 30 [] (.slice (some ⟨g, o, none⟩) 33 cap), .x 31 [(30, 1)] (.slice (some ⟨g, o + 1, none⟩) 32 (cap - 1)), .c 32 [(29, 0), (31, 2)] (.tuple #[(fv (0 : Fin P)), (.bool false)]), .x 28 [(32, 3)] (.tuple #[(fv (0 : Fin P)), (.bool false)]), .x 33 [(28, 4)] (fv (0 : Fin P)), .x 34 [(28, 4)] (.bool false), .m 4 [] 1, .u [(4, 7), (33, 5)] 1, .x 5 [(34, 6)] (.bool false)]
def F71d3_8 (x : Fin P) : List RG.It := [.x 35 [] (.bool false), .x 36 [(35, 0)] (.bool true)]
def F71d3_9 (x : Fin P) : List RG.It := [.x 37 [] (pv (0 : Fin P) (0 : Fin P)), .u [(37, 0)] 0, .x 3 [] (.bool false)]
def F71e3_0 (m : Int) (x : Fin P) : List RG.It := [.m 2 [] 0, .x 3 [] (.bool false)]
def F71e3_1 (g o cap : Nat) (x : Fin P) : List RG.It := [.x 7 [] (.slice (some ⟨g, o, none⟩) 33 cap), .x 8 [(7, 0)] (.int .i64 33), .x 9 [(8, 1)] (.bool false)]
def F71e3_3 (g o cap : Nat) (bs : Bs) (x : Fin P) : List RG.It := [.x 11 [] (.slice (some ⟨g, o, none⟩) 33 cap), .x 12 [(11, 0)] (.pointer (some ⟨g, o, none⟩)), .x 13 [(12, 1)] (.agg (bl33 bs).toArray), .x 14 [] (.agg z33.toArray), .x 15 [(13, 2), (14, 3)] (.bool false)]
def F71e3_5 (g o cap : Nat) (x : Fin P) : List RG.It := [.x 17 [] (.slice (some ⟨g, o, none⟩) 33 cap), .x 18 [(17, 0)] (.pointer (some ⟨g, o, none⟩)), .x 19 [(18, 1)] (.int .u8 3), .x 20 [(19, 2)] (.bool true), .x 21 [(20, 3)] (.bool true), .x 22 [] (.slice (some ⟨g, o, none⟩) 33 cap), .x 23 [(22, 5)] (.pointer (some ⟨g, o, none⟩)), .x 24 [(23, 6)] (.int .u8 3), .x 25 [(24, 7)] (.bool false), .x 26 [(21, 4), (25, 8)] (.bool false)]
def F71e3_7 (g o cap : Nat) (m : Int) (x : Fin P) : List RG.It := [.c 29 [] gv0, .x 30 [] (.slice (some ⟨g, o, none⟩) 33 cap), .x 31 [(30, 1)] (.slice (some ⟨g, o + 1, none⟩) 32 (cap - 1)), .c 32 [(29, 0), (31, 2)] (.tuple #[(fv x), (.bool true)]), .x 28 [(32, 3)] (.tuple #[(fv x), (.bool true)]), .x 33 [(28, 4)] (fv x), .x 34 [(28, 4)] (.bool true), .m 4 [] 1, .u [(4, 7), (33, 5)] 1, .x 5 [(34, 6)] (.bool true)]
def F71e3_8 (x : Fin P) : List RG.It := [.x 35 [] (.bool true), .x 36 [(35, 0)] (.bool false)]
def F71e3_10 (m : Int) (x : Fin P) : List RG.It := [.x 39 [] (fv x), .c 40 [(39, 0)] (.tuple #[(pv (0 : Fin P) (0 : Fin P)), (.bool false)]), .x 38 [(40, 1)] (.tuple #[(pv (0 : Fin P) (0 : Fin P)), (.bool false)]), .x 41 [(38, 2)] (pv (0 : Fin P) (0 : Fin P)), .x 42 [(38, 2)] (.bool false), .m 6 [] 2, .u [(6, 5), (41, 3)] 2, .x 5 [(42, 4)] (.bool false)]
def F71e3_11 (x : Fin P) : List RG.It := [.x 43 [] (.bool false), .x 44 [(43, 0)] (.bool false), ⟨some 45, [], (.v undef), .pass⟩, ⟨some 46, [], (.v undef), .pass⟩, ⟨some 47, [], (.v undef), .pass⟩, ⟨some 48, [], (.v undef), .pass⟩, .x 49 [(44, 1), (48, 5)] (.bool false)]
def F71e3_13 (x : Fin P) : List RG.It := [.x 52 [] (pv (0 : Fin P) (0 : Fin P)), .x 53 [] (.bool false), .u [(52, 0)] 0, .x 3 [(53, 1)] (.bool false)]
def F71g_0 (m : Int) (x : Fin P) : List RG.It := [.m 2 [] 0, .x 3 [] (.bool false)]
def F71g_1 (g o cap : Nat) (x : Fin P) : List RG.It := [.x 7 [] (.slice (some ⟨g, o, none⟩) 33 cap), .x 8 [(7, 0)] (.int .i64 33), .x 9 [(8, 1)] (.bool false)]
def F71g_3 (g o cap : Nat) (bs : Bs) (x : Fin P) : List RG.It := [.x 11 [] (.slice (some ⟨g, o, none⟩) 33 cap), .x 12 [(11, 0)] (.pointer (some ⟨g, o, none⟩)), .x 13 [(12, 1)] (.agg (bl33 bs).toArray), .x 14 [] (.agg z33.toArray), .x 15 [(13, 2), (14, 3)] (.bool false)]
def F71g_5 (g o cap : Nat) (x : Fin P) : List RG.It := [.x 17 [] (.slice (some ⟨g, o, none⟩) 33 cap), .x 18 [(17, 0)] (.pointer (some ⟨g, o, none⟩)), .x 19 [(18, 1)] (.int .u8 3), .x 20 [(19, 2)] (.bool true), .x 21 [(20, 3)] (.bool true), .x 22 [] (.slice (some ⟨g, o, none⟩) 33 cap), .x 23 [(22, 5)] (.pointer (some ⟨g, o, none⟩)), .x 24 [(23, 6)] (.int .u8 3), .x 25 [(24, 7)] (.bool false), .x 26 [(21, 4), (25, 8)] (.bool false)]
def F71g_7 (g o cap : Nat) (m : Int) (x : Fin P) : List RG.It := [.c 29 [] gv0, .x 30 [] (.slice (some ⟨g, o, none⟩) 33 cap), .x 31 [(30, 1)] (.slice (some ⟨g, o + 1, none⟩) 32 (cap - 1)), .c 32 [(29, 0), (31, 2)] (.tuple #[(fv x), (.bool true)]), .x 28 [(32, 3)] (.tuple #[(fv x), (.bool true)]), .x 33 [(28, 4)] (fv x), .x 34 [(28, 4)] (.bool true), .m 4 [] 1, .u [(4, 7), (33, 5)] 1, .x 5 [(34, 6)] (.bool true)]
def F71g_8 (x : Fin P) : List RG.It := [.x 35 [] (.bool true), .x 36 [(35, 0)] (.bool false)]
def F71g_10 (m : Int) (x y : Fin P) : List RG.It := [.x 39 [] (fv x), .c 40 [(39, 0)] (.tuple #[(pv x y), (.bool true)]), .x 38 [(40, 1)] (.tuple #[(pv x y), (.bool true)]), .x 41 [(38, 2)] (pv x y), .x 42 [(38, 2)] (.bool true), .m 6 [] 2, .u [(6, 5), (41, 3)] 2, .x 5 [(42, 4)] (.bool true)]
def F71g_11 (g o cap : Nat) (x : Fin P) : List RG.It := [.x 43 [] (.bool true), .x 44 [(43, 0)] (.bool true), .x 45 [] (.slice (some ⟨g, o, none⟩) 33 cap), .x 46 [(45, 2)] (.pointer (some ⟨g, o, none⟩)), .x 47 [(46, 3)] (.int .u8 3), .x 48 [(47, 4)] (.bool true), .x 49 [(44, 1), (48, 5)] (.bool true)]
def F71g_12 (x y y2 : Fin P) : List RG.It := [.x 50 [] (pv x y), .c 51 [(50, 0)] (pv x y2), .u [(51, 1)] 2]
def F71g_13 (x y2 : Fin P) : List RG.It := [.x 52 [] (pv x y2), .x 53 [] (.bool true), .u [(52, 0)] 0, .x 3 [(53, 1)] (.bool true)]
/-- Bytes as an argument: where there are 33, they lie there. -/
def Arg33 (w : World) (v : Value) (bs : Bs) : Prop := ∃ (p : Option Addr) (n cap : Nat), v = .slice p n cap ∧ bs.size = n ∧ (n = 33 → ∃ g o, p = some ⟨g, o, none⟩ ∧ 33 ≤ cap ∧ g < w.heap.size ∧ Holds encB w g o bs)
theorem Arg33.below {w w1 : World} {v : Value} {bs : Bs} (h : Arg33 w v bs) (hb : Below w.heap.size w w1) : Arg33 w1 v bs := by
  obtain ⟨p, n, cap, rfl, hs, h1⟩ := h
  refine ⟨p, n, cap, rfl, hs, fun h2 => ?_⟩
  obtain ⟨g, o, h3, h4, h6, h7⟩ := h1 h2
  exact ⟨g, o, h3, h4, Nat.lt_of_lt_of_le h6 hb.size, Holds.below h7 hb h6⟩
end Go.Proofs.Ytepeakmcdbaigag
namespace Go.Proofs.Ytepeakmcdbaigag
open Go.RowKit Go.Sort Go.Deep
variable {P : Nat} [NeZero P]
/-- A number's 32 bytes. -/
def bx (n : Nat) : Bs := be32 (n % 18446744073709551616) (n / 18446744073709551616 % 18446744073709551616) (n / 340282366920938463463374607431768211456 % 18446744073709551616) (n / 6277101735386680763835789423207666416102355444464034512896 % 18446744073709551616)
theorem bx_size (n : Nat) : (bx n).size = 32 := by unfold bx; exact be32_size _ _ _ _
def mark (n : Nat) : UInt8 := if n % 2 = 1 then 3 else 2
/-- A point's 33 bytes. -/
def by33 (x y : Fin P) : Bs := if x = 0 ∧ y = 0 then Array.replicate 33 0 else #[mark y.val] ++ bx x.val
theorem info5b : (Try.prog.info? 5).map (fun i => (i.zero, i.size, i.bytes)) = some (some (.int .u8 0), 1, 1) := by kernel_rfl
theorem und23 : Try.prog.underlying 26 = some (.slice 5) := by kernel_rfl
/-- What bytes answers. -/
def BytesR (w : World) (T : Bs) (e : Value) (w' : World) : Prop := ∃ g cap, e = .slice (some ⟨g, 0, none⟩) 33 cap ∧ 33 ≤ cap ∧ w.heap.size ≤ g ∧ g < w'.heap.size ∧ Holds encB w' g 0 T
theorem mk33 (w : World) : (Instr.makeSlice 26 (.int .i64 33) (.int .i64 33)).run Try.prog w = .ok (.slice (some ⟨w.heap.size, 0, none⟩) 33 33) (w.alloc (.cells (madeCells #[.int .u8 0] 33) 5)) :=
  run_make_row' (P := Try.prog) 26 5 (.int .u8 0) 1 und23 info5b rfl .i64 .i64 33 (by decide) (by decide) w
theorem made33 (w : World) (o : Obj) : Holds encB ((w.alloc o).alloc (.cells (madeCells #[.int .u8 0] 33) 5)) (w.heap.size + 1) 0 (Array.replicate 33 0) := by
  have h := Holds.made (enc := encB) (w.alloc o) 5 33 (0 : UInt8)
  rw [World.size_alloc] at h
  exact h
omit [NeZero P] in
theorem pv_words (x y : Fin P) : pv x y = .agg #[.int .u64 ((x.val % 18446744073709551616 : Nat) : Int), .int .u64 ((x.val / 18446744073709551616 % 18446744073709551616 : Nat) : Int), .int .u64 ((x.val / 340282366920938463463374607431768211456 % 18446744073709551616 : Nat) : Int), .int .u64 ((x.val / 6277101735386680763835789423207666416102355444464034512896 % 18446744073709551616 : Nat) : Int), .int .u64 ((y.val % 18446744073709551616 : Nat) : Int), .int .u64 ((y.val / 18446744073709551616 % 18446744073709551616 : Nat) : Int), .int .u64 ((y.val / 340282366920938463463374607431768211456 % 18446744073709551616 : Nat) : Int), .int .u64 ((y.val / 6277101735386680763835789423207666416102355444464034512896 % 18446744073709551616 : Nat) : Int)] := rfl
theorem grow33 (w : World) (k g m : Nat) (B : Bs) (hB : B.size = 32) (hc : w.cell? ⟨k, 0, none⟩ = some (.int .u8 (m : Int))) (hH : Holds encB w g 0 B) (hm : m < 256 := by decide) :
    ∃ (w' : World) (cap : Nat), (Builtin.append_ #[26, 26] 26 #[.slice (some ⟨k, 0, none⟩) 1 1, .slice (some ⟨g, 0, none⟩) 32 32]).run Try.prog w = .ok (.slice (some ⟨w.heap.size, 0, none⟩) 33 cap) w' ∧ Below w.heap.size w w' ∧ 33 ≤ cap ∧ w.heap.size < w'.heap.size ∧ Holds encB w' w.heap.size 0 (#[UInt8.ofNat m] ++ B) := by
  obtain ⟨i, hi, hzz⟩ := Option.map_eq_some_iff.1 info5b
  simp only [Prod.mk.injEq] at hzz
  obtain ⟨hz, hs, hb⟩ := hzz
  have hap := run_append_grow (P := Try.prog) w 26 26 5 i (.int .u8 0) und23 hi hz ⟨k, 0, none⟩ 1 1 [.int .u8 (m : Int)] (by rw [hs]; rfl) (fun j v hj => by
      cases j with
      | zero =>
        obtain rfl : Value.int .u8 (m : Int) = v := by simpa using hj
        rw [Addr.add_mid]
        exact hc
      | succ j => simp at hj) ⟨g, 0, none⟩ 32 32 (B.toList.map encB) (by rw [hs, List.length_map, Array.length_toList, hB]) (fun j v hj => by
      have hj' : j < B.size := by
        have := (List.getElem?_eq_some_iff.1 hj).1
        rwa [List.length_map, Array.length_toList] at this
      rw [Addr.add_mid, (hH j hj').1]
      rw [List.getElem?_map, Array.getElem?_toList, Array.getElem?_eq_getElem hj'] at hj
      rw [getElem!_pos B j hj']
      exact hj) (by decide) (by decide) (by rw [hb]; decide)
  refine ⟨_, _, hap, ?_, ?_, ?_, ?_⟩
  · exact (Below.refl _ w).drew.trans (below1 w.drew _)
  · exact grownCap_ge w (1 + 32) 1 5
  · show w.drew.heap.size < (w.drew.alloc _).heap.size
    rw [World.size_alloc]
    exact Nat.lt_succ_self _
  · intro j hj
    have hsz : (#[UInt8.ofNat m] ++ B).size = 33 := by rw [Array.size_append, hB]; rfl
    have hj' : j < 33 := by rw [← hsz]; exact hj
    refine ⟨?_, World.frozen?_alloc_new w.drew _ _ _⟩
    show (w.drew.alloc _).cell? ⟨w.drew.heap.size, 0 + j, none⟩ = _
    rw [Nat.zero_add, World.cell?_alloc_new, getElem!_pos _ j hj, Array.getElem?_append_left (by
      rw [Array.size_append, List.size_toArray, List.size_toArray, List.length_map, Array.length_toList]
      show j < 1 + B.size
      omega)]
    cases j with
    | zero =>
      rw [Array.getElem?_append_left (by simp), Array.getElem_append_left (by simp)]
      show some (Value.int .u8 (m : Int)) = some (encB (UInt8.ofNat m))
      unfold encB
      rw [ub_ofNat, Nat.mod_eq_of_lt hm]
    | succ i =>
      rw [Array.getElem?_append_right (by simp), Array.getElem_append_right (by simp), List.getElem?_toArray, List.getElem?_map, Array.getElem?_toList]
      show Option.map encB B[i]? = some (encB B[i])
      rw [Array.getElem?_eq_getElem (by omega)]
      rfl
end Go.Proofs.Ytepeakmcdbaigag
namespace Go.Proofs.Ytepeakmcdbaigag
open Go.RowKit Go.Sort Go.Deep
theorem u23 : (Try.prog.underlying 26).map (·.isRow) = some false := by kernel_rfl
theorem at46 (k o n c i : Nat) (hi : i < n) (w : World) : (Instr.indexAt 24 (.slice (some ⟨k, o, none⟩) n c) (.int .i64 (i : Int))).run Try.prog w = .ok (.pointer (some ⟨k, o + i, none⟩)) w := by
  have h1 : ¬ (i : Int) < 0 := by omega
  have h2 : (i : Int) < n := by omega
  go_simp
/-- Rows of sz cells: m of them are there. -/
structure Rows (sz N : Nat) (cell : Nat → List Value) (m : Nat) (C : List Value) : Prop where
  len : C.length = sz * N
  row : ∀ j r, j < m → r < sz → C[sz * j + r]? = (cell j)[r]?
theorem Rows.next {sz N m : Nat} {cell : Nat → List Value} {C : List Value} (h : Rows sz N cell m C) (hm : m < N) (hc : (cell m).length = sz) : Rows sz N cell (m + 1) (RG.rep C (0 + sz * m) (cell m)) := by
  have hlen := h.len
  have hb : sz * m + sz ≤ sz * N := by rw [← Nat.mul_succ]; exact Nat.mul_le_mul_left _ hm
  have hl : 0 + sz * m + (cell m).length ≤ C.length := by rw [hc]; omega
  refine ⟨by rw [RG.rep_length hl]; exact hlen, fun j r hj hr => ?_⟩
  rw [RG.rep_at hl]
  by_cases hjm : j = m
  · subst hjm
    rw [if_pos (by rw [hc]; omega), show sz * j + r - (0 + sz * j) = r by omega]
  · have h2 : sz * j + sz ≤ sz * m := by rw [← Nat.mul_succ]; exact Nat.mul_le_mul_left _ (by omega)
    rw [if_neg (by rw [hc]; omega)]
    exact h.row j r (by omega) hr
/-- Bytes as a number of the order. -/
def rq (N : Nat) (bs : Bs) : Option Nat := if bs.size = 32 ∧ beV bs.toList < N then some (beV bs.toList) else none
def rqV : Option Nat → Value
  | none => .tuple #[nv 0, .bool false]
  | some n => .tuple #[nv n, .bool true]
end Go.Proofs.Ytepeakmcdbaigag
namespace Go.Proofs.Ytepeakmcdbaigag
open Go.RowKit Go.Sort Go.Deep
def Texts (w : World) (q : Option Addr) (n : Nat) (S : Nat → ByteArray) : Prop := 0 < n → ∃ gg oo, q = some ⟨gg, oo, none⟩ ∧ gg < w.heap.size ∧ ∀ j, j < n → w.cell? ⟨gg, oo + j, none⟩ = some (.string (S j))
theorem Texts.below {w w1 : World} {q : Option Addr} {n : Nat} {S : Nat → ByteArray} (h : Texts w q n S) (hb : Below w.heap.size w w1) : Texts w1 q n S := fun hn => by
  obtain ⟨gg, oo, h1, h2, h3⟩ := h hn
  exact ⟨gg, oo, h1, Nat.lt_of_lt_of_le h2 hb.size, fun j hj => by rw [hb.cell (p := ⟨gg, oo + j, none⟩) h2]; exact h3 j hj⟩
/-- A list of bytes' slices that grows, each made of a text. -/
def AL (W : World) (B k : Nat) (v : Value) (S : Nat → ByteArray) : Prop :=
  (k = 0 ∧ v = .slice none 0 0) ∨ ∃ g cap vs cur, v = .slice (some ⟨g, 0, none⟩) k cap ∧ vs.length = k ∧ 0 < k ∧ B ≤ g ∧ ListAt W g cap vs cur ∧ ∀ j, j < k → ∃ gx c, vs[j]! = .slice (some ⟨gx, 0, none⟩) (S j).size c ∧ (S j).size ≤ c ∧ gx ≠ g ∧ gx < W.heap.size ∧ Holds encB W gx 0 (S j).data
theorem AL.below {W w1 : World} {B k : Nat} {v : Value} {S : Nat → ByteArray} (h : AL W B k v S) (hb : Below W.heap.size W w1) : AL w1 B k v S := by
  rcases h with h | ⟨g, cap, vs, cur, h1, h2, h3, h4, h5, h6⟩
  · exact Or.inl h
  · refine Or.inr ⟨g, cap, vs, cur, h1, h2, h3, h4, h5.below hb, fun j hj => ?_⟩
    obtain ⟨gx, c, e1, e2, e3, e4, e5⟩ := h6 j hj
    exact ⟨gx, c, e1, e2, e3, Nat.lt_of_lt_of_le e4 hb.size, Holds.below e5 hb e4⟩
theorem Holds.other0 {W w1 : World} {b o m g : Nat} {T : Bs} (h : Holds encB W g 0 T) (k : Only b o m W w1) (hne : g ≠ b) : Holds encB w1 g 0 T := by
  by_cases h0 : 0 < T.size
  · exact Holds.other h k hne h0
  · exact fun j hj => absurd hj (by omega)
theorem AL.push {wr W : World} {B k cap : Nat} {v : Value} {s : ByteArray} {S : Nat → ByteArray} (h : AL wr B k v S) (hB : B ≤ wr.heap.size) (hk : k ≤ 1048576) (hb : Below wr.heap.size wr W) (hlt : wr.heap.size < W.heap.size) (hc : s.size ≤ cap) (hH : Holds encB W wr.heap.size 0 s.data) (hs : s = S k) :
    ∃ v' w', (Builtin.append_ #[24, 24] 24 #[v, .slice (some ⟨W.heap.size, 0, none⟩) 1 1]).run Try.prog (W.alloc (.cells #[.slice (some ⟨wr.heap.size, 0, none⟩) s.size cap] 26)) = .ok v' w' ∧ AL w' B (k + 1) v' S ∧ Below B wr w' := by
  have hr : (W.alloc (.cells #[.slice (some ⟨wr.heap.size, 0, none⟩) s.size cap] 26)).cell? ⟨W.heap.size, 0, none⟩ = some (.slice (some ⟨wr.heap.size, 0, none⟩) s.size cap) := by simp
  have hb0 : Below W.heap.size W (W.alloc (.cells #[.slice (some ⟨wr.heap.size, 0, none⟩) s.size cap] 26)) := (Below.refl _ _).alloc (Nat.le_refl _) _
  have hs0 : (W.alloc (.cells #[.slice (some ⟨wr.heap.size, 0, none⟩) s.size cap] 26)).heap.size = W.heap.size + 1 := by simp
  have hx1 : (Value.slice (some ⟨wr.heap.size, 0, none⟩) s.size cap).oneCell' = true := rfl
  have hb1 : Below wr.heap.size wr (W.alloc (.cells #[.slice (some ⟨wr.heap.size, 0, none⟩) s.size cap] 26)) := hb.trans (hb0.mono (by omega))
  have hH1 := Holds.below hH hb0 hlt
  rcases h with ⟨rfl, rfl⟩ | ⟨g, cp, vs, cur, rfl, h2, h3, h4, h5, h6⟩
  · obtain ⟨cap', cur', w', hap, hL, hb2⟩ := append_firstL slice46 info23 rfl hr hx1
    refine ⟨_, w', hap, Or.inr ⟨_, cap', _, cur', rfl, rfl, by omega, by omega, hL, fun j hj => ?_⟩, (hb1.mono hB).trans (hb2.mono (by omega))⟩
    have hj0 : j = 0 := by omega
    subst hj0
    have := hb2.size
    exact ⟨wr.heap.size, cap, by rw [← hs]; rfl, by rw [← hs]; exact hc, by omega, by omega, by rw [← hs]; exact Holds.below hH1 hb2 (by omega)⟩
  · have hg := h5.lt
    have h5' := h5.below hb1
    subst h2
    obtain ⟨g', cap', cur', w', hap, hL, hO, hg'⟩ := append_valL slice46 info23 rfl h5' hr hx1 hk
    have hsz := hO.size
    refine ⟨_, w', hap, Or.inr ⟨g', cap', _, cur', rfl, by rw [List.length_append]; rfl, by omega, by omega, hL, fun j hj => ?_⟩, (hb1.mono hB).trans (hO.below (by omega) h4)⟩
    by_cases hj1 : j = vs.length
    · subst hj1
      rw [val_last, ← hs]
      exact ⟨wr.heap.size, cap, rfl, hc, by omega, by omega, Holds.other0 hH1 hO (by omega)⟩
    · obtain ⟨gy, d, e1, e2, e3, e4, e5⟩ := h6 j (by omega)
      rw [val_front _ _ _ (by omega)]
      exact ⟨gy, d, e1, e2, by omega, by omega, Holds.other0 (Holds.below e5 hb1 e4) hO e3⟩
end Go.Proofs.Ytepeakmcdbaigag
namespace Go.Proofs.Ytepeakmcdbaigag
open Go.RowKit Go.Sort Go.Deep
theorem frames1 (l x : List UInt8) : (SP.framesL l [x]).length = l.length + x.length + 8 := by
  unfold SP.framesL
  simp [SP.frameL_length]
  omega
theorem framesT (l x y : List UInt8) : (SP.framesL l [x, y]).length = l.length + x.length + y.length + 12 := by
  unfold SP.framesL
  simp [SP.frameL_length]
  omega
set_option maxHeartbeats 1000000 in
theorem rleaf_c (s : ByteArray) (hs : s.size ≤ 65536) (w : World) : Calls Try.prog 22 #[.string s] w (Ret fun e w' => Below w.heap.size w w' ∧ e = .string ⟨leafH s.data⟩) := by
  obtain ⟨w1, hw1⟩ : ∃ w1, Hid (w.alloc (.cells #[.string s] 9) = w1) := ⟨_, rfl⟩
  have hM' : RG.Made w w.heap.size [.string s] w1 := by rw [← hw1.out]; exact RG.Made.alloc w [.string s] 9
  have hl : s.data.toList.length = s.size := by rw [Array.length_toList]; rfl
  have hT := SP.refTag_any ⟨#[108, 101, 97, 102]⟩ (some ⟨w.heap.size, 0, none⟩) 1 [s] w1 (by decide) (Nat.le_of_ble_eq_true rfl) (Or.inr ⟨_, _, rfl, fun j hj => by
    have hj0 : j = 0 := by simpa using hj
    subst hj0
    exact hM'.range 0 _ rfl⟩) (fun j hj => by
    have hj0 : j = 0 := by simpa using hj
    subst hj0
    show s.size ≤ _
    omega) (by
    show (SP.framesL [108, 101, 97, 102] [s.data.toList]).length ≤ _
    rw [frames1, hl]
    show 4 + s.size + 8 ≤ _
    omega)
  have HB : Hid (Below w.heap.size w w1) := hM'.bel
  clear hM' hl
  go_enter Try.func22, Try.ntmps22
  go_wp2_with fail
  rw [hw1.out]
  refine hT.mono ?_
  rintro e w2 ⟨rfl, hb2⟩
  have K : Hid (Below w.heap.size w w2) := HB.out.trans (hb2.mono HB.out.size)
  clear hb2 hT HB hw1
  go_wp2_with fail
  go_ret
  exact ⟨_, rfl, K.out, rfl⟩
set_option maxHeartbeats 1000000 in
theorem rnode_c (s t : ByteArray) (hs : s.size ≤ 65536) (ht : t.size ≤ 65536) (w : World) : Calls Try.prog 24 #[.string s, .string t] w (Ret fun e w' => Below w.heap.size w w' ∧ e = .string ⟨nodeH s.data t.data⟩) := by
  obtain ⟨w1, hw1⟩ : ∃ w1, Hid (w.alloc (.cells #[.string s, .string t] 9) = w1) := ⟨_, rfl⟩
  have hM' : RG.Made w w.heap.size [.string s, .string t] w1 := by rw [← hw1.out]; exact RG.Made.alloc w [.string s, .string t] 9
  have hl : s.data.toList.length = s.size := by rw [Array.length_toList]; rfl
  have hl2 : t.data.toList.length = t.size := by rw [Array.length_toList]; rfl
  have hT := SP.refTag_any ⟨#[110, 111, 100, 101]⟩ (some ⟨w.heap.size, 0, none⟩) 2 [s, t] w1 (by decide) (Nat.le_of_ble_eq_true rfl) (Or.inr ⟨_, _, rfl, fun j hj => by
    have hj2 : j = 0 ∨ j = 1 := by simp at hj; omega
    rcases hj2 with rfl | rfl
    · exact hM'.range 0 _ rfl
    · exact hM'.range 1 _ rfl⟩) (fun j hj => by
    have hj2 : j = 0 ∨ j = 1 := by simp at hj; omega
    rcases hj2 with rfl | rfl
    · show s.size ≤ _; omega
    · show t.size ≤ _; omega) (by
    show (SP.framesL [110, 111, 100, 101] [s.data.toList, t.data.toList]).length ≤ _
    rw [framesT, hl, hl2]
    show 4 + s.size + t.size + 12 ≤ _
    omega)
  have HB : Hid (Below w.heap.size w w1) := hM'.bel
  clear hM' hl hl2
  go_enter Try.func24, Try.ntmps24
  go_wp2_with fail
  rw [hw1.out]
  refine hT.mono ?_
  rintro e w2 ⟨rfl, hb2⟩
  have K : Hid (Below w.heap.size w w2) := HB.out.trans (hb2.mono HB.out.size)
  clear hb2 hT HB hw1
  go_wp2_with fail
  go_ret
  exact ⟨_, rfl, K.out, rfl⟩
theorem hf_pow {n k : Nat} (h1 : 2 ^ k < n) (h2 : n ≤ 2 * 2 ^ k) : hf n = 2 ^ k := by
  unfold hf
  have : Nat.log2 (n - 1) = k := (Nat.log2_eq_iff (by have := Nat.two_pow_pos k; omega)).2 ⟨by omega, by rw [Nat.pow_succ]; omega⟩
  rw [this]
set_option maxHeartbeats 1000000 in
theorem rhalf_c (n : Nat) (h2 : 2 ≤ n) (hn : n ≤ 1048576) (w : World) : Calls Try.prog 23 #[.int .i64 (n : Int)] w fun e w' => e = .returned (.int .i64 (hf n : Int)) ∧ w' = w := by
  go_enter Try.func23, Try.ntmps23
  go_wp2
  go_loopg [3] (n - 1) (fun g s3 W => ∃ k m : Nat, Hid (m = 2 ^ k) ∧ s3 = .int .i64 (m : Int) ∧ W = w ∧ m < n ∧ m + g = n ∧ 1 ≤ m)
  case atStart => exact ⟨0, 1, rfl, rfl, rfl, by omega, by omega, by omega⟩
  case round =>
    obtain ⟨k, m, hm, rfl, rfl, h1, h3, h4⟩ := hrel
    by_cases hl : 2 * m < n
    · have hl' : 2 * (m : Int) < (n : Int) := by omega
      obtain ⟨m2, hm2⟩ : ∃ m2, Hid (2 * m = m2) := ⟨_, rfl⟩
      have hm3 := hm2.out
      have e1 : 2 * (m : Int) = (m2 : Int) := by omega
      have e2 : (m2 : Int) < (n : Int) := by omega
      have HH : Hid (m2 = 2 ^ (k + 1) ∧ m2 < n ∧ 1 ≤ m2 ∧ m < m2) := ⟨by rw [← hm3, hm.out, Nat.pow_succ]; omega, by omega, by omega, by omega⟩
      clear hl hl' hm3 hm hm2
      go_wp2
      go_roundg (n - m2)
      case measure => have := HH.out; omega
      case rel => exact ⟨k + 1, m2, HH.out.1, rfl, rfl, HH.out.2.1, by have := HH.out; omega, HH.out.2.2.1⟩
    · have hl' : ¬ 2 * (m : Int) < (n : Int) := by omega
      have HF : Hid (hf n = m) := by
        show _ = _
        rw [hm.out]
        exact hf_pow (by rw [← hm.out]; exact h1) (by rw [← hm.out]; omega)
      clear hm
      go_wp2
      go_ret
      exact ⟨by rw [HF.out]; rfl, rfl⟩
theorem leafH_size (b : Bs) : (leafH b).size = 32 := by unfold leafH; exact SP.tagL_size _ _
theorem nodeH_size (a b : Bs) : (nodeH a b).size = 32 := by unfold nodeH; exact SP.tagL_size _ _
theorem pr32 {T : Bs} {b : Bool} (h : T.size = 32) : ((T, b) : Bs × Bool).1.size ≤ 32 := by
  show T.size ≤ 32
  omega
theorem lead_size (lb : Bs) : ∀ (l : List Bs) (n i : Nat), (lead lb l n i).1.size ≤ 32
  | [], n, i => by
    rw [lead]
    by_cases h : n = 1
    · rw [if_pos h]
      exact pr32 (leafH_size lb)
    · rw [if_neg h]
      exact Nat.zero_le _
  | e :: r, n, i => by
    rw [lead]
    by_cases h : n = 1
    · rw [if_pos h]
      exact pr32 (leafH_size lb)
    · rw [if_neg h]
      by_cases h2 : hf n ≤ i
      · rw [if_pos h2]
        exact pr32 (nodeH_size _ _)
      · rw [if_neg h2]
        exact pr32 (nodeH_size _ _)
set_option maxHeartbeats 4000000 in
set_option maxRecDepth 100000 in
theorem rleads_c (s : ByteArray) (hs : s.size ≤ 65536) (S : Nat → ByteArray) (hS : ∀ j, (S j).size ≤ 65536) (q : Option Addr) (c : Nat) : ∀ (m n i : Nat) (w : World), m ≤ 1048576 → m ≤ c → 1 ≤ n → n ≤ 1048576 → i < n → Texts w q m S →
    Calls Try.prog 29 #[.int .i64 (n : Int), .int .i64 (i : Int), .string s, .slice q m c] w (Ret fun e w' => Below w.heap.size w w' ∧ e = .tuple #[.string ⟨(lead s.data (revL (fun j => (S j).data) m) n i).1⟩, .bool (lead s.data (revL (fun j => (S j).data) m) n i).2]) := by
  intro m
  induction m with
  | zero =>
    intro n i w _ _ hn1 hn2 hi _
    by_cases h1 : n = 1
    · subst h1
      have hl : lead s.data (revL (fun j => (S j).data) 0) 1 i = (leafH s.data, true) := by rw [revL, lead, if_pos rfl]
      rw [hl]
      dsimp only
      have hr := rleaf_c s hs w
      generalize leafH s.data = T at hr ⊢
      clear hl
      go_enter Try.func29, Try.ntmps29
      go_wp2_with fail
      refine hr.mono ?_
      rintro e w2 ⟨v, rfl, hb, rfl⟩
      have K : Hid (Below w.heap.size w w2) := hb
      clear hb hr
      go_wp2
      go_ret2
      exact ⟨_, rfl, K.out, rfl⟩
    · have hl : lead s.data (revL (fun j => (S j).data) 0) n i = (#[], false) := by rw [revL, lead, if_neg h1]
      rw [hl]
      have g1 : ¬ (n : Int) = 1 := by omega
      have g0 : ((n : Int) == 1) = false := by simpa using g1
      go_enter Try.func29, Try.ntmps29
      go_wp2
      go_ret2
      exact ⟨_, rfl, Below.refl _ _, rfl⟩
  | succ m ih =>
    intro n i w hm hc hn1 hn2 hi hL
    obtain ⟨gg, oo, rfl, hgg, hcell⟩ := hL (by omega)
    have hv := hcell m (by omega)
    have hL2 : Texts w (some ⟨gg, oo, none⟩) m S := fun _ => ⟨gg, oo, rfl, hgg, fun j hj => hcell j (by omega)⟩
    have k1 : ((m + 1 : Nat) : Int) - 1 = (m : Int) := by omega
    have k2 : ¬ (m : Int) < 0 := by omega
    by_cases h1 : n = 1
    · subst h1
      have hl : lead s.data (revL (fun j => (S j).data) (m + 1)) 1 i = (leafH s.data, false) := by rw [revL, lead, if_pos rfl]
      rw [hl]
      dsimp only
      have hr := rleaf_c s hs w
      generalize leafH s.data = T at hr ⊢
      clear ih hcell hL hL2 hv hl
      go_enter Try.func29, Try.ntmps29
      go_wp2_with fail
      refine hr.mono ?_
      rintro e w2 ⟨v, rfl, hb, rfl⟩
      have K : Hid (Below w.heap.size w w2) := hb
      clear hb hr
      go_wp2
      go_ret2
      exact ⟨_, rfl, K.out, rfl⟩
    · have hf3 := hf_lt (n := n) (by omega)
      have g1 : ¬ (n : Int) = 1 := by omega
      have g0 : ((n : Int) == 1) = false := by simpa using g1
      have hHf := Hid.mk2 (fun w => rhalf_c n (by omega) hn2 w)
      have hsl : ∀ w : World, (Instr.sliceAt 22 (.slice (some ⟨gg, oo, none⟩) (m + 1) c) none (some (.int .i64 (m : Int))) none).run Try.prog w = .ok (.slice (some ⟨gg, oo, none⟩) m c) w := fun w => by
        have h1 : (m : Int) ≤ c := by omega
        go_simp
      have hix : ∀ w : World, (Instr.indexAt 22 (.slice (some ⟨gg, oo, none⟩) (m + 1) c) (.int .i64 (m : Int))).run Try.prog w = .ok (.pointer (some ⟨gg, oo + m, none⟩)) w := fun w => by
        have h1 : ¬ (m : Int) < 0 := by omega
        have h2 : (m : Int) < ((m + 1 : Nat) : Int) := by omega
        have h3 : ¬ ((m : Int) + 1 ≤ m) := by omega
        go_simp
      have HV : Hid (∀ w', Below w.heap.size w w' → w'.cell? ⟨gg, oo + m, none⟩ = some (.string (S m))) := fun w' hb => by rw [hb.cell (p := ⟨gg, oo + m, none⟩) hgg]; exact hv
      by_cases hk : hf n ≤ i
      · have hl : lead s.data (revL (fun j => (S j).data) (m + 1)) n i = (nodeH (S m).data (lead s.data (revL (fun j => (S j).data) m) (n - hf n) (i - hf n)).1, (lead s.data (revL (fun j => (S j).data) m) (n - hf n) (i - hf n)).2) := by
          rw [revL]
          exact lead_hi h1 hk
        rw [hl]
        have hrec := fun w' (hb : Below w.heap.size w w') => ih (n - hf n) (i - hf n) w' (by omega) (by omega) (by omega) (by omega) (by omega) (hL2.below hb)
        have hsz := lead_size s.data (revL (fun j => (S j).data) m) (n - hf n) (i - hf n)
        have e1 : (n : Int) - (hf n : Int) = ((n - hf n : Nat) : Int) := by omega
        have e2 : (i : Int) - (hf n : Int) = ((i - hf n : Nat) : Int) := by omega
        have e3 : ¬ (i : Int) < (hf n : Int) := by omega
        have e4 : (i : Int) < 1048576 := by omega
        have e5 : (0 : Int) ≤ (n : Int) - (hf n : Int) := by omega
        have HR := Hid.mk2 hrec
        generalize (lead s.data (revL (fun j => (S j).data) m) (n - hf n) (i - hf n)).1 = T at HR hsz ⊢
        generalize (lead s.data (revL (fun j => (S j).data) m) (n - hf n) (i - hf n)).2 = ok at HR ⊢
        generalize hf n = k at hHf e1 e2 e3 e5 HR
        generalize n - k = n2 at e1 HR
        generalize i - k = i2 at e2 HR
        clear e5
        have HN : Hid (∀ w, Calls Try.prog 24 #[.string (S m), .string ⟨T⟩] w (Ret fun e w' => Below w.heap.size w w' ∧ e = .string ⟨nodeH (S m).data T⟩)) := fun w => rnode_c (S m) ⟨T⟩ (hS m) (by show T.size ≤ _; omega) w
        dsimp only
        generalize nodeH (S m).data T = D at HN ⊢
        clear ih hrec hl hk hv hcell hgg hL hL2 hf3 h1 hi hsz hS
        go_enter Try.func29, Try.ntmps29
        go_wp2_with fail
        refine (hHf.out w).mono ?_
        rintro e w2 ⟨rfl, rfl⟩
        have f1 : wrap64 ((n : Int) - (k : Int)) = (n2 : Int) := by unfold wrap64; omega
        have f2 : wrap64 ((i : Int) - (k : Int)) = (i2 : Int) := by unfold wrap64; omega
        clear g0 g1 hn1 e1 e2 e4 hn2
        go_wp2_with fail
        refine (HR.out w2 (Below.refl _ _)).mono ?_
        rintro e w3 ⟨v3, rfl, hb3, rfl⟩
        have K3 : Hid (Below w2.heap.size w2 w3) := hb3
        have hcv := HV.out w3 hb3
        clear hb3 HR hHf HV e3 f1 f2
        go_wp2_with fail
        refine (HN.out w3).mono ?_
        rintro e w4 ⟨v4, rfl, hb4, rfl⟩
        have K4 : Hid (Below w2.heap.size w2 w4) := K3.out.trans (hb4.mono K3.out.size)
        clear hb4 K3 HN hcv
        go_wp2
        go_ret2
        exact ⟨_, rfl, K4.out, rfl⟩
      · have hl : lead s.data (revL (fun j => (S j).data) (m + 1)) n i = (nodeH (lead s.data (revL (fun j => (S j).data) m) (hf n) i).1 (S m).data, (lead s.data (revL (fun j => (S j).data) m) (hf n) i).2) := by
          rw [revL]
          exact lead_lo h1 hk
        rw [hl]
        have hrec := fun w' (hb : Below w.heap.size w w') => ih (hf n) i w' (by omega) (by omega) (by omega) (by omega) (by omega) (hL2.below hb)
        have hsz := lead_size s.data (revL (fun j => (S j).data) m) (hf n) i
        have e3 : (i : Int) < (hf n : Int) := by omega
        have HR := Hid.mk2 hrec
        generalize (lead s.data (revL (fun j => (S j).data) m) (hf n) i).1 = T at HR hsz ⊢
        generalize (lead s.data (revL (fun j => (S j).data) m) (hf n) i).2 = ok at HR ⊢
        generalize hf n = k at hHf e3 HR
        have HN : Hid (∀ w, Calls Try.prog 24 #[.string ⟨T⟩, .string (S m)] w (Ret fun e w' => Below w.heap.size w w' ∧ e = .string ⟨nodeH T (S m).data⟩)) := fun w => rnode_c ⟨T⟩ (S m) (by show T.size ≤ _; omega) (hS m) w
        dsimp only
        generalize nodeH T (S m).data = D at HN ⊢
        clear ih hrec hl hk hv hcell hgg hL hL2 hf3 h1 hi hsz hS
        go_enter Try.func29, Try.ntmps29
        go_wp2_with fail
        refine (hHf.out w).mono ?_
        rintro e w2 ⟨rfl, rfl⟩
        go_wp2_with fail
        refine (HR.out w2 (Below.refl _ _)).mono ?_
        rintro e w3 ⟨v3, rfl, hb3, rfl⟩
        have K3 : Hid (Below w2.heap.size w2 w3) := hb3
        have hcv := HV.out w3 hb3
        clear hb3 HR hHf HV e3
        go_wp2_with fail
        refine (HN.out w3).mono ?_
        rintro e w4 ⟨v4, rfl, hb4, rfl⟩
        have K4 : Hid (Below w2.heap.size w2 w4) := K3.out.trans (hb4.mono K3.out.size)
        clear hb4 K3 HN hcv
        go_wp2
        go_ret2
        exact ⟨_, rfl, K4.out, rfl⟩
end Go.Proofs.Ytepeakmcdbaigag
namespace Go.Proofs.Ytepeakmcdbaigag
open Go.RowKit Go.Sort Go.Deep
set_option maxHeartbeats 1000000 in
theorem rsized_c (q : Option Addr) (m c : Nat) (S : Nat → ByteArray) (w : World) (hm : m ≤ 1048576) (hL : Texts w q m S) : Calls Try.prog 28 #[.slice q m c] w fun e w' => e = .returned (.bool (decide (∀ j, j < m → (S j).data.size = 32))) ∧ w' = w := by
  have HL : Hid (Texts w q m S) := hL
  clear hL
  go_enter Try.func28, Try.ntmps28
  go_wp2
  go_loopg [3] m (fun g s3 W => ∃ i : Nat, i + g = m ∧ s3 = .int .i64 (i : Int) ∧ W = w ∧ Hid (∀ j, j < i → (S j).data.size = 32))
  case atStart => exact ⟨0, by omega, rfl, rfl, fun j hj => by omega⟩
  case round =>
    obtain ⟨i, him, rfl, rfl, HA⟩ := hrel
    by_cases hi : i < m
    · have hi' : (i : Int) < (m : Int) := by omega
      obtain ⟨gg, oo, rfl, hgg, hc⟩ := HL.out (by omega)
      have hv := hc i hi
      have hix : ∀ w : World, (Instr.indexAt 22 (.slice (some ⟨gg, oo, none⟩) m c) (.int .i64 (i : Int))).run Try.prog w = .ok (.pointer (some ⟨gg, oo + i, none⟩)) w := fun w => by
        have h1 : ¬ (i : Int) < 0 := by omega
        have h2 : (i : Int) < (m : Int) := by omega
        go_simp
      clear hc hgg
      obtain ⟨s, hs⟩ : ∃ s, Hid (S i = s) := ⟨_, rfl⟩
      rw [hs.out] at hv
      by_cases h32 : s.size = 32
      · have g1 : (s.size : Int) = 32 := by omega
        go_wp2
        go_roundg (gk - 1)
        case measure => omega
        case rel => exact ⟨i + 1, by omega, rfl, rfl, fun j hj => by
          by_cases e : j = i
          · rw [e, hs.out]; exact h32
          · exact HA.out j (by omega)⟩
      · have g1 : ¬ (s.size : Int) = 32 := by omega
        have g0 : ((s.size : Int) == 32) = false := by simpa using g1
        have HF : Hid (decide (∀ j, j < m → (S j).data.size = 32) = false) := decide_eq_false fun h => h32 (by rw [← hs.out]; exact h i hi)
        go_wp2
        go_ret
        exact ⟨congrArg Ending.returned (congrArg Value.bool HF.out.symm), rfl⟩
    · have hi' : ¬ (i : Int) < (m : Int) := by omega
      obtain rfl : i = m := by omega
      have HF : Hid (decide (∀ j, j < i → (S j).data.size = 32) = true) := decide_eq_true HA.out
      go_wp2
      go_ret
      exact ⟨congrArg Ending.returned (congrArg Value.bool HF.out.symm), rfl⟩
set_option maxHeartbeats 2000000 in
theorem rLies_c (root s : ByteArray) (n i : Int) (hs : s.size ≤ 65536) (S : Nat → ByteArray) (hS : ∀ j, (S j).size ≤ 65536) (q : Option Addr) (m c : Nat) (w : World) (hm : m ≤ 1048576) (hmc : m ≤ c) (hL : Texts w q m S) :
    Calls Try.prog 16 #[.string root, .int .i64 n, .int .i64 i, .string s, .slice q m c] w (Ret fun e w' => Below w.heap.size w w' ∧ e = .bool (liesT root.data s.data n i (fun j => (S j).data) m)) := by
  have HL : Hid (Texts w q m S) := hL
  have hA := rsized_c q m c S w hm hL
  clear hL
  by_cases h3 : ∀ j, j < m → (S j).data.size = 32
  · rw [decide_eq_true h3] at hA
    by_cases h1 : 1 ≤ n
    · have a1 : ¬ n < 1 := by omega
      by_cases h1b : n ≤ 1048576
      · have a2 : ¬ (1048576 : Int) < n := by omega
        by_cases h2 : 0 ≤ i
        · have a3 : ¬ i < 0 := by omega
          by_cases h2b : i < n
          · have a4 : ¬ n ≤ i := by omega
            obtain ⟨n', rfl⟩ : ∃ n' : Nat, n = (n' : Int) := ⟨n.toNat, by omega⟩
            obtain ⟨i', rfl⟩ : ∃ i' : Nat, i = (i' : Int) := ⟨i.toNat, by omega⟩
            obtain ⟨T, ok, hT, hp⟩ : ∃ T ok, liesT root.data s.data (n' : Int) (i' : Int) (fun j => (S j).data) m = (ok && decide (T = root.data)) ∧ Calls Try.prog 29 #[.int .i64 (n' : Int), .int .i64 (i' : Int), .string s, .slice q m c] w (Ret fun e w' => Below w.heap.size w w' ∧ e = .tuple #[.string ⟨T⟩, .bool ok]) :=
              ⟨_, _, by unfold liesT; rw [if_pos ⟨⟨h1, h1b⟩, ⟨h2, by omega⟩, h3⟩]; rfl, rleads_c s hs S hS q c m n' i' w hm hmc (by omega) (by omega) (by omega) HL.out⟩
            rw [hT]
            have hq := beq3 T root.data
            have HQ : Hid (((⟨T⟩ : ByteArray).toList == root.toList) = decide (T = root.data)) := hq
            clear hT hq
            go_enter Try.func16, Try.ntmps16
            go_wp2_with fail
            refine hA.mono ?_
            rintro e w' ⟨rfl, rfl⟩
            go_wp2_with fail
            refine hp.mono ?_
            rintro e w4 ⟨v4, rfl, hb4, rfl⟩
            have K4 : Hid (Below w'.heap.size w' w4) := hb4
            clear hb4 hp hA
            cases ok with
            | false =>
              go_wp2
              go_ret
              exact ⟨_, rfl, K4.out, rfl⟩
            | true =>
              have hq := HQ.out
              obtain ⟨y, hy⟩ : ∃ y, Hid (decide (T = root.data) = y) := ⟨_, rfl⟩
              rw [hy.out] at hq
              go_wp2
              go_ret
              exact ⟨_, rfl, K4.out, by rw [hy.out]; rfl⟩
          · have a4 : n ≤ i := by omega
            have hT : liesT root.data s.data n i (fun j => (S j).data) m = false := by unfold liesT; rw [if_neg (fun h => by omega)]
            rw [hT]
            go_enter Try.func16, Try.ntmps16
            go_wp2_with fail
            refine hA.mono ?_
            rintro e w' ⟨rfl, rfl⟩
            go_wp2
            go_ret
            exact ⟨_, rfl, Below.refl _ _, rfl⟩
        · have a3 : i < 0 := by omega
          have hT : liesT root.data s.data n i (fun j => (S j).data) m = false := by unfold liesT; rw [if_neg (fun h => by omega)]
          rw [hT]
          go_enter Try.func16, Try.ntmps16
          go_wp2_with fail
          refine hA.mono ?_
          rintro e w' ⟨rfl, rfl⟩
          go_wp2
          go_ret
          exact ⟨_, rfl, Below.refl _ _, rfl⟩
      · have a2 : (1048576 : Int) < n := by omega
        have hT : liesT root.data s.data n i (fun j => (S j).data) m = false := by unfold liesT; rw [if_neg (fun h => by omega)]
        rw [hT]
        go_enter Try.func16, Try.ntmps16
        go_wp2_with fail
        refine hA.mono ?_
        rintro e w' ⟨rfl, rfl⟩
        go_wp2
        go_ret
        exact ⟨_, rfl, Below.refl _ _, rfl⟩
    · have a1 : n < 1 := by omega
      have hT : liesT root.data s.data n i (fun j => (S j).data) m = false := by unfold liesT; rw [if_neg (fun h => by omega)]
      rw [hT]
      go_enter Try.func16, Try.ntmps16
      go_wp2_with fail
      refine hA.mono ?_
      rintro e w' ⟨rfl, rfl⟩
      go_wp2
      go_ret
      exact ⟨_, rfl, Below.refl _ _, rfl⟩
  · rw [decide_eq_false h3] at hA
    have hT : liesT root.data s.data n i (fun j => (S j).data) m = false := by unfold liesT; rw [if_neg (fun h => h3 h.2.2)]
    rw [hT]
    clear h3
    go_enter Try.func16, Try.ntmps16
    go_wp2_with fail
    refine hA.mono ?_
    rintro e w' ⟨rfl, rfl⟩
    go_wp2
    go_ret
    exact ⟨_, rfl, Below.refl _ _, rfl⟩
end Go.Proofs.Ytepeakmcdbaigag
namespace Go.Proofs.Ytepeakmcdbaigag
open Go.RowKit Go.Sort Go.Deep
def sumS (S : Nat → ByteArray) : Nat → Nat
  | 0 => 0
  | m + 1 => sumS S m + (S m).size
theorem sumS_le {S : Nat → ByteArray} {B : Nat} : ∀ m, (∀ j, j < m → (S j).size ≤ B) → sumS S m ≤ m * B
  | 0, _ => Nat.zero_le _
  | m + 1, h => by
    have := sumS_le m (fun j hj => h j (by omega))
    have h2 := h m (by omega)
    rw [sumS, Nat.add_mul]
    omega
theorem sumS_at {S : Nat → ByteArray} : ∀ m j, j < m → (S j).size ≤ sumS S m
  | m + 1, j, h => by
    rw [sumS]
    by_cases e : j = m
    · rw [e]; omega
    · have := sumS_at (S := S) m j (by omega)
      omega
set_option maxHeartbeats 1000000 in
theorem small_y (q : Option Addr) (m c : Nat) (S : Nat → ByteArray) (w : World) (hm : m ≤ 1100) (hS : ∀ j, j < m → (S j).size ≤ 140737488355328) (hL : Texts w q m S) : Calls Try.prog 5 #[.slice q m c] w fun e w' => e = .returned (.bool (decide (sumS S m ≤ 65536))) ∧ w' = w := by
  have HL : Hid (Texts w q m S ∧ ∀ j, j < m → (S j).size ≤ 140737488355328) := ⟨hL, hS⟩
  clear hL hS
  go_enter Try.func5, Try.ntmps5
  go_wp2
  go_loopg [3, 4] m (fun g s3 s4 W => ∃ i z : Nat, i + g = m ∧ s3 = .int .i64 (z : Int) ∧ s4 = .int .i64 (i : Int) ∧ W = w ∧ Hid (z = sumS S i) ∧ z ≤ i * 140737488355328)
  case atStart => exact ⟨0, 0, by omega, rfl, rfl, rfl, rfl, by omega⟩
  case round =>
    obtain ⟨i, z, him, rfl, rfl, rfl, HZ, hz⟩ := hrel
    have hz2 : z ≤ 154811237190860800 := by omega
    by_cases hi : i < m
    · have hi' : (i : Int) < (m : Int) := by omega
      obtain ⟨gg, oo, rfl, hgg, hc⟩ := HL.out.1 (by omega)
      have hv := hc i hi
      have hix : ∀ w : World, (Instr.indexAt 22 (.slice (some ⟨gg, oo, none⟩) m c) (.int .i64 (i : Int))).run Try.prog w = .ok (.pointer (some ⟨gg, oo + i, none⟩)) w := fun w => by
        have h1 : ¬ (i : Int) < 0 := by omega
        have h2 : (i : Int) < (m : Int) := by omega
        go_simp
      have hsz := HL.out.2 i hi
      obtain ⟨s, hs⟩ : ∃ s, Hid (S i = s) := ⟨_, rfl⟩
      rw [hs.out] at hv hsz
      obtain ⟨z2, hz3⟩ : ∃ z2, Hid (z + s.size = z2) := ⟨_, rfl⟩
      have hz4 := hz3.out
      have f1 : wrap64 ((z : Int) + (s.size : Int)) = (z2 : Int) := by unfold wrap64; omega
      have HK : Hid (z2 = sumS S (i + 1) ∧ z2 ≤ (i + 1) * 140737488355328) := ⟨by rw [sumS, ← HZ.out, hs.out]; omega, by omega⟩
      clear hc hgg hz4 hz hz2
      go_wp2
      go_roundg (gk - 1)
      case measure => omega
      case rel => exact ⟨i + 1, z2, by omega, by rw [f1], rfl, rfl, HK.out.1, HK.out.2⟩
    · have hi' : ¬ (i : Int) < (m : Int) := by omega
      obtain rfl : i = m := by omega
      have a2 : (i : Int) ≤ 1100 := by omega
      by_cases h : z ≤ 65536
      · have a1 : (z : Int) ≤ 65536 := by omega
        have HF : Hid (decide (sumS S i ≤ 65536) = true) := decide_eq_true (by rw [← HZ.out]; exact h)
        go_wp2
        go_ret
        exact ⟨congrArg Ending.returned (congrArg Value.bool HF.out.symm), rfl⟩
      · have a1 : ¬ (z : Int) ≤ 65536 := by omega
        have HF : Hid (decide (sumS S i ≤ 65536) = false) := decide_eq_false (by rw [← HZ.out]; exact h)
        go_wp2
        go_ret
        exact ⟨congrArg Ending.returned (congrArg Value.bool HF.out.symm), rfl⟩
set_option maxHeartbeats 1000000 in
theorem small_n (q : Option Addr) (m c : Nat) (S : Nat → ByteArray) (w : World) (hm : ¬ m ≤ 1100) (hm2 : m ≤ 140737488355328) (hL : Texts w q m S) : Calls Try.prog 5 #[.slice q m c] w fun e w' => e = .returned (.bool false) ∧ w' = w := by
  have HL : Hid (Texts w q m S) := hL
  clear hL
  go_enter Try.func5, Try.ntmps5
  go_wp2
  go_loopg [3, 4] m (fun g s3 s4 W => ∃ (i : Nat) (z : Int), i + g = m ∧ s3 = .int .i64 z ∧ s4 = .int .i64 (i : Int) ∧ W = w)
  case atStart => exact ⟨0, 0, by omega, rfl, rfl, rfl⟩
  case round =>
    obtain ⟨i, z, him, rfl, rfl, rfl⟩ := hrel
    by_cases hi : i < m
    · have hi' : (i : Int) < (m : Int) := by omega
      obtain ⟨gg, oo, rfl, hgg, hc⟩ := HL.out (by omega)
      have hv := hc i hi
      have hix : ∀ w : World, (Instr.indexAt 22 (.slice (some ⟨gg, oo, none⟩) m c) (.int .i64 (i : Int))).run Try.prog w = .ok (.pointer (some ⟨gg, oo + i, none⟩)) w := fun w => by
        have h1 : ¬ (i : Int) < 0 := by omega
        have h2 : (i : Int) < (m : Int) := by omega
        go_simp
      generalize S i = s at hv
      clear hc hgg
      go_wp2
      go_roundg (gk - 1)
      case measure => omega
      case rel => exact ⟨i + 1, _, by omega, rfl, rfl, rfl⟩
    · have hi' : ¬ (i : Int) < (m : Int) := by omega
      obtain rfl : i = m := by omega
      have a2 : ¬ (i : Int) ≤ 1100 := by omega
      by_cases h : z ≤ 65536
      · go_wp2
        go_ret
        exact ⟨rfl, rfl⟩
      · go_wp2
        go_ret
        exact ⟨rfl, rfl⟩
set_option maxHeartbeats 1000000 in
theorem lists8_c (q : Option Addr) (m c : Nat) (S : Nat → ByteArray) (w : World) (hm : m ≤ 1100) (hL : Texts w q m S) : Calls Try.prog 6 #[.slice q m c] w (Ret fun e w' => Below w.heap.size w w' ∧ AL w' w.heap.size m e S) := by
  have HL : Hid (Texts w q m S) := hL
  clear hL
  go_enter Try.func6, Try.ntmps6
  go_wp2
  go_loopg [3, 4] m (fun g s3 s4 W => ∃ (i : Nat) (v : Value), i + g = m ∧ v = s3 ∧ s4 = .int .i64 (i : Int) ∧ Below w.heap.size w W ∧ Hid (AL W w.heap.size i v S))
  case atStart => exact ⟨0, _, by omega, rfl, rfl, Below.refl _ _, Or.inl ⟨rfl, rfl⟩⟩
  case round =>
    obtain ⟨i, v, him, rfl, rfl, hb, HA⟩ := hrel
    by_cases hi : i < m
    · have hi' : (i : Int) < (m : Int) := by omega
      obtain ⟨gg, oo, rfl, hgg, hc⟩ := HL.out (by omega)
      have hv : wr.cell? ⟨gg, oo + i, none⟩ = some (.string (S i)) := by rw [hb.cell (p := ⟨gg, oo + i, none⟩) hgg]; exact hc i hi
      have hix : ∀ w : World, (Instr.indexAt 22 (.slice (some ⟨gg, oo, none⟩) m c) (.int .i64 (i : Int))).run Try.prog w = .ok (.pointer (some ⟨gg, oo + i, none⟩)) w := fun w => by
        have h1 : ¬ (i : Int) < 0 := by omega
        have h2 : (i : Int) < (m : Int) := by omega
        go_simp
      obtain ⟨cap, W1, hcv, hcap, hb1, hH1, hlt1⟩ := conv_of (S i) wr
      obtain ⟨v', w3, hap, hL3, hb3⟩ := AL.push HA.out hb.size (by omega) hb1 hlt1 hcap hH1 rfl
      have HL3 : Hid _ := hL3
      clear hc hgg hL3 hb1 hH1 hlt1 hcap
      generalize S i = s at hv hcv hap
      go_wp2_with (at_builtin; refine Lib.wpList_append_run _ rfl _ _ 24 24 rfl _ _ rfl rfl _ _ hap ?_)
      go_roundg (gk - 1)
      case measure => omega
      case rel => exact ⟨i + 1, _, by omega, rfl, rfl, hb.trans hb3, HL3.out⟩
    · have hi' : ¬ (i : Int) < (m : Int) := by omega
      obtain rfl : i = m := by omega
      go_wp2
      go_ret
      exact ⟨_, rfl, hb, HA.out⟩
theorem AL.lists {W : World} {B k : Nat} {v : Value} {S : Nat → ByteArray} (h : AL W B k v S) (hS : ∀ j, j < k → (S j).size ≤ 65536) : ∃ q c, v = .slice q k c ∧ k ≤ c ∧ Lists W q k (fun j => (S j).data) := by
  rcases h with ⟨rfl, rfl⟩ | ⟨g, cap, vs, cur, rfl, h2, h3, h4, h5, h6⟩
  · exact ⟨none, 0, rfl, Nat.le_refl _, fun h => by omega⟩
  · refine ⟨_, cap, rfl, by rw [← h2]; exact h5.fits, fun _ => ⟨g, 0, rfl, h5.lt, fun j hj => ?_⟩⟩
    obtain ⟨gx, c, e1, e2, e3, e4, e5⟩ := h6 j hj
    have hh := h5.holds j (by rw [h5.size]; have := h5.fits; omega)
    rw [h5.front j (by omega), e1] at hh
    exact ⟨_, hh.1, ⟨_, _, _, rfl⟩, _, gx, 0, c, (S j).data, rfl, rfl, e2, Nat.le_trans (hS j hj) (by decide), Or.inr ⟨rfl, e5⟩⟩
end Go.Proofs.Ytepeakmcdbaigag
namespace Go.Proofs.Ytepeakmcdbaigag
open Go.RowKit Go.Sort Go.Deep
theorem part_of8 {w : World} {k cap : Nat} {s : ByteArray} (hs : s.size ≤ 65536) (hc : s.size ≤ cap) (hH : Holds encB w k 0 s.data) : SP.PartOk w (.slice (some ⟨k, 0, none⟩) s.size cap) s.data.toList :=
  ⟨_, k, 0, cap, s.data, rfl, rfl, hc, Nat.le_trans hs (by decide), Or.inr ⟨rfl, hH⟩⟩
theorem liesT_congr (root leaf : Bs) (n i : Int) {S S' : Nat → Bs} {m : Nat} (h : ∀ j, j < m → S j = S' j) : liesT root leaf n i S m = liesT root leaf n i S' m := by
  have hr : ∀ k, k ≤ m → revL S k = revL S' k := fun k => by
    induction k with
    | zero => intro _; rfl
    | succ k ih => intro hk; rw [revL, revL, h k (by omega), ih (by omega)]
  have ha : (∀ j, j < m → (S j).size = 32) ↔ (∀ j, j < m → (S' j).size = 32) := ⟨fun g j hj => by rw [← h j hj]; exact g j hj, fun g j hj => by rw [h j hj]; exact g j hj⟩
  unfold liesT
  rw [hr m (Nat.le_refl _)]
  simp only [ha]
set_option maxHeartbeats 2000000 in
theorem liesL_any (root leaf : ByteArray) (n i : Int) (q : Option Addr) (m c : Nat) (S0 : Nat → ByteArray) (w0 : World) (hmc : m ≤ c) (hm2 : m ≤ 140737488355328) (hr : root.size ≤ 140737488355328) (hlf : leaf.size ≤ 140737488355328) (hS0 : ∀ j, j < m → (S0 j).size ≤ 140737488355328) (hL0 : Texts w0 q m S0) :
    Calls Try.prog 4 #[.string root, .int .i64 n, .int .i64 i, .string leaf, .slice q m c] w0 fun e w' => e = .returned (.bool true) ∧ Below w0.heap.size w0 w' := by
  by_cases hm : m ≤ 1100
  · obtain ⟨S, hS⟩ : ∃ S : Nat → ByteArray, S = fun j => if j < m then S0 j else ByteArray.empty := ⟨_, rfl⟩
    have hSe : ∀ j, j < m → S j = S0 j := fun j hj => by rw [hS]; exact if_pos hj
    have hSn : ∀ j, ¬ j < m → S j = ByteArray.empty := fun j hj => by rw [hS]; exact if_neg hj
    have hL : Texts w0 q m S := fun hn => by
      obtain ⟨gg, oo, h1, h2, h3⟩ := hL0 hn
      exact ⟨gg, oo, h1, h2, fun j hj => by rw [hSe j hj]; exact h3 j hj⟩
    have hSz : ∀ j, j < m → (S j).size ≤ 140737488355328 := fun j hj => by rw [hSe j hj]; exact hS0 j hj
    clear hS0 hL0 hSe hS
    have hsm := small_y q m c S w0 hm hSz hL
    by_cases h1 : sumS S m ≤ 65536
    · rw [decide_eq_true h1] at hsm
      have hS6 : ∀ j, (S j).size ≤ 65536 := fun j => by
        by_cases hj : j < m
        · exact Nat.le_trans (sumS_at m j hj) h1
        · rw [hSn j hj]; exact Nat.zero_le _
      by_cases h2 : root.size + leaf.size ≤ 65536
      · have a1 : ¬ (65536 : Int) < (root.size : Int) + (leaf.size : Int) := by omega
        have a0 : wrap64 ((root.size : Int) + (leaf.size : Int)) = (root.size : Int) + (leaf.size : Int) := by unfold wrap64; omega
        obtain ⟨cap1, w1, hc1, hcc1, hb1, hH1, hlt1⟩ := conv_of root w0
        obtain ⟨cap2, w2, hc2, hcc2, hb2, hH2, hlt2⟩ := conv_of leaf w1
        have HB : Hid (Below w0.heap.size w0 w2) := hb1.trans (hb2.mono hb1.size)
        have A1 : Hid (SP.PartOk w2 (.slice (some ⟨w0.heap.size, 0, none⟩) root.size cap1) root.data.toList) := part_of8 (by omega) hcc1 (Holds.below hH1 hb2 hlt1)
        have A2 : Hid (SP.PartOk w2 (.slice (some ⟨w1.heap.size, 0, none⟩) leaf.size cap2) leaf.data.toList) := part_of8 (by omega) hcc2 hH2
        have HL : Hid (Texts w0 q m S) := hL
        have HS : Hid (leaf.size ≤ 65536 ∧ ∀ j, (S j).size ≤ 65536) := ⟨by omega, hS6⟩
        clear hb1 hb2 hH1 hH2 hlt1 hlt2 hcc1 hcc2 hL hSz hSn hS6 h1 h2
        go_enter Try.func4, Try.ntmps4
        go_wp2_with fail
        refine hsm.mono ?_
        rintro e w' ⟨rfl, rfl⟩
        clear hsm
        go_wp2_with fail
        refine (lists8_c q m c S w2 hm (HL.out.below HB.out)).mono ?_
        rintro e w3 ⟨v3, rfl, hb3, hA3⟩
        obtain ⟨q3, c3, rfl, hc3, hL3⟩ := hA3.lists (fun j _ => HS.out.2 j)
        have K3 : Hid (Below w'.heap.size w' w3 ∧ m ≤ c3 ∧ Lists w3 q3 m (fun j => (S j).data) ∧ SP.PartOk w3 (.slice (some ⟨w'.heap.size, 0, none⟩) root.size cap1) root.data.toList ∧ SP.PartOk w3 (.slice (some ⟨w1.heap.size, 0, none⟩) leaf.size cap2) leaf.data.toList) := ⟨HB.out.trans (hb3.mono HB.out.size), hc3, hL3, A1.out.below hb3, A2.out.below hb3⟩
        clear hb3 hA3 hc3 hL3 HB A1 A2 hc1 hc2 a0 a1
        go_wp2_with fail
        refine (Lies_c _ _ q3 _ _ _ _ m c3 root.data leaf.data n i (fun j => (S j).data) w3 (by omega) K3.out.2.1 K3.out.2.2.2.1 K3.out.2.2.2.2 K3.out.2.2.1).mono ?_
        rintro e w4 ⟨v4, rfl, hb4, rfl⟩
        have K4 : Hid (Below w'.heap.size w' w4) := K3.out.1.trans (hb4.mono K3.out.1.size)
        clear hb4 K3
        go_wp2_with fail
        refine (rLies_c root leaf n i HS.out.1 S HS.out.2 q m c w4 (by omega) hmc (HL.out.below K4.out)).mono ?_
        rintro e w5 ⟨v5, rfl, hb5, rfl⟩
        have K5 : Hid (Below w'.heap.size w' w5) := K4.out.trans (hb5.mono K4.out.size)
        clear hb5 K4 HL HS
        generalize liesT root.data leaf.data n i (fun j => (S j).data) m = u
        cases u <;> go_wp2 <;> go_ret <;> exact ⟨by simp, K5.out⟩
      · have a1 : (65536 : Int) < (root.size : Int) + (leaf.size : Int) := by omega
        have a0 : wrap64 ((root.size : Int) + (leaf.size : Int)) = (root.size : Int) + (leaf.size : Int) := by unfold wrap64; omega
        clear hL hSz hSn hS6 h1
        go_enter Try.func4, Try.ntmps4
        go_wp2_with fail
        refine hsm.mono ?_
        rintro e w' ⟨rfl, rfl⟩
        go_wp2
        go_ret
        exact ⟨rfl, Below.refl _ _⟩
    · rw [decide_eq_false h1] at hsm
      clear hL hSz hSn h1
      go_enter Try.func4, Try.ntmps4
      go_wp2_with fail
      refine hsm.mono ?_
      rintro e w' ⟨rfl, rfl⟩
      go_wp2
      go_ret
      exact ⟨rfl, Below.refl _ _⟩
  · have hsm := small_n q m c S0 w0 hm hm2 hL0
    clear hL0 hS0
    go_enter Try.func4, Try.ntmps4
    go_wp2_with fail
    refine hsm.mono ?_
    rintro e w' ⟨rfl, rfl⟩
    go_wp2
    go_ret
    exact ⟨rfl, Below.refl _ _⟩
end Go.Proofs.Ytepeakmcdbaigag
/-
  THE ROW OF 'TreeLies' round its walk: two texts, two numbers, a slice of texts.
-/
namespace Go.Proofs.Ytepeakmcdbaigag.treeLies
open Go.ChangeShapes Go.WideShapes Go.ChangeAt Go.RowKit
open Go.ChangeMaps (open_string shut_string)
theorem own : ownKnob Try.prog.godebug = none := by kernel_rfl
theorem laidOut : laidOutB Try.prog = true := by kernel_rfl
theorem cells9 : Try.prog.cellsOf 9 = 1 := by kernel_rfl
theorem bytes9 : Try.prog.bytesOf 9 = 16 := by kernel_rfl
theorem strs_weigh {H : Type} {P : Program} {e : TypeId} {x : ByteArray} : ∀ {ss : List ByteArray}, x ∈ ss → x.size ∈ DataW.weightsAll (H := H) P e (strs ss)
  | s :: r, h => by
    show x.size ∈ DataW.weights P e (.lit (.string s.data.toList)) ++ DataW.weightsAll P e (strs r)
    rw [List.mem_append]
    rcases List.mem_cons.1 h with rfl | h
    · left
      simp [DataW.weights]
    · exact Or.inr (strs_weigh h)
theorem sized_strs {H : Type} {P : Program} {ts : List TypeId} {ds : List (DataW H)} (h : (DataW.weightsEach P ts ds).all (· ≤ reachBytes) = true) {j : Nat} {t e : TypeId} {a b : List ByteArray} (ht : ts[j]? = some t) (hd : ds[j]? = some (.slice (strs a) (strs b))) (hu : P.underlying t = some (.slice e))
    (x : ByteArray) (hx : x ∈ a) : x.size ≤ reachBytes := by
  have := List.all_eq_true.1 h _ (DataW.weights_mem_each ht hd x.size (by
    simp only [DataW.weights, hu]
    exact List.mem_cons_of_mem _ (List.mem_append_left _ (strs_weigh hx))))
  simpa using this
theorem sized_str {H : Type} {P : Program} {ts : List TypeId} {ds : List (DataW H)} (h : (DataW.weightsEach P ts ds).all (· ≤ reachBytes) = true) {j : Nat} {t : TypeId} {s : ByteArray} (ht : ts[j]? = some t) (hd : ds[j]? = some (.lit (.string s.data.toList))) : s.size ≤ reachBytes := by
  have := List.all_eq_true.1 h _ (DataW.weights_mem_each ht hd s.size (by simp [DataW.weights]))
  simpa using this
set_option maxRecDepth 100000 in
theorem lifted (os : Os) (started : os.Started) (H : Type) (enc : TypeId × Value → H) :
    ReturnsInHanded {} Try.checked os 4 .any (Rows.treeLiesSpec.pre6 enc Try.prog Try.f4 Rows.treeLiesRow.domain false) (Rows.treeLiesSpec.post enc Try.prog Try.f4 false true false false) := by
  refine returnsInHanded_of_change_sized (C := Try.checked) own started (by kernel_rfl) Try.func4
    (ChangeSpec.witness6 (enc := enc) (C := Try.checked) false ⟨#[], #[.string ByteArray.empty, .int .i64 0, .int .i64 0, .string ByteArray.empty, .slice none 0 0], []⟩ 8 (by kernel_rfl) (by kernel_rfl) (by kernel_rfl) (by kernel_rfl)) ?_
  intro W base args ds gs before hval0 hW _ hsz0 _
  have hsz : (DataW.weightsEach Try.prog (Try.f4.params.toList ++ Rows.treeLiesSpec.plain.varTypes Try.prog) (ds ++ gs)).all (· ≤ reachBytes) = true := hsz0
  clear hsz0
  have hval : ∀ (j : Nat) t v, Try.f4.params[j]? = some t → args[j]? = some v → Value.okWide Try.prog W .any base t v := hval0
  have hW' := hW
  obtain ⟨p, q, hA0, hV, rfl, hfz, hnd⟩ := hW
  have hA : DataW.TrodAll enc Try.prog W 0 (fun _ => true) true Try.f4.params.toList args.toList ds p := hA0
  rw [Try.params4] at hA hval hsz
  obtain ⟨v0, vs0, d0, ds0, p0, q0, hargs, rfl, rfl, h0, r0⟩ := trodAll_cons hA
  obtain ⟨v1, vs1, d1, ds1, p1, q1, rfl, rfl, rfl, h1, r1⟩ := trodAll_cons r0
  obtain ⟨v2, vs2, d2, ds2, p2, q2, rfl, rfl, rfl, h2, r2⟩ := trodAll_cons r1
  obtain ⟨v3, vs3, d3, ds3, p3, q3, rfl, rfl, rfl, h3, r3⟩ := trodAll_cons r2
  obtain ⟨v4, vs4, d4, ds4, p4, q4, rfl, rfl, rfl, h4, r4⟩ := trodAll_cons r3
  obtain ⟨rfl, rfl, rfl⟩ := trodAll_nil r4
  obtain rfl : args = #[v0, v1, v2, v3, v4] := by cases args; simp_all
  obtain ⟨rfl, rfl⟩ := trodVars_none hV
  obtain ⟨a0, rfl, rfl, rfl, w0⟩ := open_string Try.underlying9 (hval 0 9 v0 rfl rfl) h0
  obtain ⟨a1, rfl, rfl, rfl, w1⟩ := open_int Try.underlying3 (hval 1 3 v1 rfl rfl) h1
  obtain ⟨a2, rfl, rfl, rfl, w2⟩ := open_int Try.underlying3 (hval 2 3 v2 rfl rfl) h2
  obtain ⟨b3, rfl, rfl, rfl, w3⟩ := open_string Try.underlying9 (hval 3 9 v3 rfl rfl) h3
  obtain ⟨a3, len3, cap3, rfl⟩ := okWide_slice Try.underlying22 (hval 4 22 v4 rfl rfl)
  have k3 := h4
  have lt3 : ∀ x ∈ p4, x.block < W.heap.size := by obtain ⟨m, hm⟩ := k3; exact DataW.trod_lt m _ _ _ hm
  have z0 : a0.size ≤ reachBytes := sized_str hsz (j := 0) (t := 9) rfl rfl
  have z3 : b3.size ≤ reachBytes := sized_str hsz (j := 3) (t := 9) rfl rfl
  unfold reachBytes at z0 z3
  have hx3 : ∃ S : Nat → ByteArray, Texts W a3 len3 S ∧ (∀ j, j < len3 → (S j).size ≤ 140737488355328) ∧ len3 ≤ 140737488355328 ∧ len3 ≤ cap3 := by
    obtain ⟨fuel, hf⟩ := h4
    rcases open_strings Try.underlying22 Try.underlying9 cells9 hf with ⟨hcs, hx⟩ | ⟨a, l, c, ss, hcs, _, hl, hm, hz, hx, hcell, hws⟩
    · simp [Value.cells] at hcs
      obtain ⟨rfl, rfl, rfl⟩ := hcs
      exact ⟨fun _ => ByteArray.empty, fun h => absurd h (by omega), fun j hj => absurd hj (by omega), by omega, by omega⟩
    · simp [Value.cells] at hcs
      obtain ⟨rfl, rfl, rfl⟩ := hcs
      simp only [Prod.mk.injEq] at hx
      obtain ⟨rfl, rfl⟩ := hx
      simp only [if_true] at hz
      have hn : (ss.take len3).length = len3 := by rw [List.length_take]; omega
      have hat : ∀ j, j < len3 → (ss.take len3)[j]! = ss.getD j ByteArray.empty := fun j hj => by
        rw [getElem!_pos (ss.take len3) j (by omega), List.getElem_take, List.getD_eq_getElem?_getD, List.getElem?_eq_getElem (by omega)]
        rfl
      have hreach : len3 * 16 ≤ 140737488355328 := by
        have := sized_slice hsz (j := 4) (t := 22) (e := 9) rfl rfl Try.underlying22
        rw [bytes9] at this
        simp only [strs, List.length_map, List.length_take, List.length_drop, reachBytes] at this
        omega
      have hs : ∀ j, j < len3 → ((ss.take len3)[j]!).size ≤ 140737488355328 := fun j hj => by
        have := sized_strs hsz (j := 4) (t := 22) (e := 9) (a := ss.take len3) (b := ss.drop len3) rfl rfl Try.underlying22 (ss.take len3)[j]! (by rw [getElem!_pos (ss.take len3) j (by omega)]; exact List.getElem_mem _)
        unfold reachBytes at this
        omega
      refine ⟨fun j => (ss.take len3)[j]!, fun h00 => ?_, hs, by omega, by omega⟩
      obtain ⟨b, off, spot⟩ := a
      have hspot : spot = none := by simpa [Addr.add] using World.cell?_spot (hcell 0 (by omega))
      subst hspot
      have hP : ∀ j, j < len3 → W.cell? ⟨b, off + j, none⟩ = some (.string (ss.take len3)[j]!) := fun j hj => by
        rw [hat j hj, ← hcell j (by omega)]
        congr 1
        unfold Addr.add
        by_cases hj0 : j = 0
        · subst hj0; rfl
        · rw [if_neg hj0]
      exact ⟨b, off, rfl, World.block_lt_of_cell? _ _ (hP 0 h00), hP⟩
  obtain ⟨S, hS, hSs, hSl, hSc⟩ := hx3
  refine (liesL_any a0 b3 a1 a2 a3 len3 cap3 S W hSc hSl (by omega) (by omega) hSs hS).mono fun e W' ⟨he, bel⟩ => ?_
  subst he
  exact ⟨_, rfl, _, _, _, [], _, [], hW', trodAll_mk1 (shut_bool Try.underlying4 _), (trodAll_cons_mk (shut_string Try.underlying9 w0) (trodAll_cons_mk (shut_int Try.underlying3 w1) (trodAll_cons_mk (shut_int Try.underlying3 w2) (trodAll_cons_mk (shut_string Try.underlying9 w3) (trodAll_cons_mk (Below.trod laidOut (by kernel_rfl) (of_decide_eq_true (by kernel_rfl)) k3 bel lt3) trodAll_mk0))))), rfl, bel.frame _, fun h => by cases h⟩
theorem over : Rows.treeLiesRow.holds Try.pinned (OpenSpec.ofChange Rows.treeLiesSpec) :=
  OpenClaim.holds_of_wide 4 Try.f4 rfl rfl rfl rfl rfl rfl rfl ⟨rfl, rfl, rfl, rfl, rfl⟩ rfl rfl rfl rfl rfl (by kernel_rfl) Try.func4 (by kernel_rfl)
    (of_decide_eq_true (by kernel_rfl)) (by unfold Func.isWrapper; first | (rw [if_pos (by decide +kernel)]; kernel_rfl) | (rw [if_neg (by decide +kernel)]; exact ⟨rfl, rfl⟩))
    (fun os started H enc _ => lifted os started H enc)
theorem proved : Rows.TreeLiesSaid :=
  over
end Go.Proofs.Ytepeakmcdbaigag.treeLies
namespace Go.Proofs.Ytepeakmcdbaigag
/-- THE STATEMENT. -/
theorem treeLies_holds : Rows.TreeLiesSaid := treeLies.proved
#print axioms treeLies_holds
end Go.Proofs.Ytepeakmcdbaigag
