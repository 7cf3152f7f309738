import Derived.Test.YtmepmoalhgehhaaGreatDoorks3
set_option linter.unusedVariables false
set_option linter.unusedSimpArgs false
namespace Go.Proofs.YtmepmoalhgehhaaGreatDoor.RG
open Go Go.RowKit
variable {P : Program} {ops : Array Oper} {Q : Exit → Act → World → Prop} {w0 w : World} {k0 : Nat} {X : List Nat} {its : List It} {bl : List Bl} {olds : List (Tmp × SV)} {a0 : Act} {L : Array Bool} {μ μ' μ0 : Nat → Nat}
/-- What is known of the slots, where the operations of L are done. -/
structure Ac (its : List It) (bl : List Bl) (a0 : Act) (L : Array Bool) (μ : Nat → Nat) (a : Act) : Prop where
  defers : a.defers = a0.defers
  size : a.tmps.size = a0.tmps.size
  got : ∀ (i : Nat) (it : It) (d : Tmp), its[i]? = some it → on L i = true → it.dst = some d → a.tmps[d]? = some (it.out.at μ) ∧ ∀ b, it.out.blk = some b → ∃ e : Bl, bl[b]? = some e ∧ e.live L = true
  rest : ∀ t : Tmp, (∀ (i : Nat) (it : It), its[i]? = some it → on L i = true → it.dst ≠ some t) → a.tmps[t]? = a0.tmps[t]?
def depB (o : Oper) (j : Nat) : Bool := o.after.any (fun e => Region.binds .any e && e.on == j)
/-- Who fills slot t, waits for operation i. -/
def freeB (ops : Array Oper) (its : List It) (i : Nat) (t : Tmp) : Bool := its.zipIdx.all (fun x => x.1.dst != some t || (match ops[x.2]? with | some o => depB o i | none => false))
def Known (ops : Array Oper) (i : Nat) (its : List It) (olds : List (Tmp × SV)) (need : List (Tmp × Nat)) (μ : Nat → Nat) (a : Act) : Prop :=
  (∀ (t : Tmp) (j : Nat) (it : It), (t, j) ∈ need → its[j]? = some it → a.eval (.tmp t) = it.out.at μ) ∧ (∀ (t : Tmp) (s : SV), (t, s) ∈ olds → freeB ops its i t = true → a.eval (.tmp t) = s.at μ)
/-- Operation i may read the block: nothing is stored into it, or by an operation that waits for i. -/
def readB (ops : Array Oper) (i : Nat) (e : Bl) : Bool := match e.st with | none => true | some s => match ops[s]? with | some o => depB o i | none => false
def Reads (ops : Array Oper) (i : Nat) (bl : List Bl) (μ : Nat → Nat) (w : World) : Prop := ∀ (b : Nat) (e : Bl), bl[b]? = some e → (e.al = none ∨ ∃ (o : Oper) (j : Nat), ops[i]? = some o ∧ e.al = some j ∧ depB o j = true) → readB ops i e = true → w.rangeAt (μ b) 0 e.before
def Does (P : Program) (Q : Exit → Act → World → Prop) (bl : List Bl) (o : Oper) (it : It) (μ : Nat → Nat) (a : Act) (w : World) (K : Act → World → Prop) : Kind → Prop
  | .stay => K (a.put o.dst (it.out.at μ)) w → o.wp P a w K Q
  | .pass => it.out = .v undef
  | .call => (∀ w', Below w.heap.size w w' → K (a.put o.dst (it.out.at μ)) w') → o.wp P a w K Q
  | .make b => ∀ e : Bl, bl[b]? = some e → (∀ (k : Nat) (w' : World), Made w k e.before w' → K (a.put o.dst (it.out.at (upd μ b k))) w') → o.wp P a w K Q
  | .put b => ∀ e : Bl, bl[b]? = some e → w.there (μ b) 0 e.before.length → w.rangeAt (μ b) 0 e.before → (∀ w', PutTo (μ b) e.before.length e.after w w' → K (a.put o.dst (it.out.at μ)) w') → o.wp P a w K Q
/-- An operation does what its row says. -/
def Cert (P : Program) (Q : Exit → Act → World → Prop) (w0 : World) (k0 : Nat) (X : List Nat) (ops : Array Oper) (i : Nat) (its : List It) (bl : List Bl) (olds : List (Tmp × SV)) (o : Oper) (it : It) : Prop :=
  ∀ (μ : Nat → Nat) (a : Act) (w : World) (K : Act → World → Prop), Known ops i its olds it.need μ a → Reads ops i bl μ w → BelX k0 X w0 w → Does P Q bl o it μ a w K it.kind
/-- The block of an address is there: operation o waits for its making, or has the address of an operation that it waits for. -/
def liveB (its : List It) (bl : List Bl) (o : Oper) (it : It) (b : Nat) : Bool :=
  (match bl[b]? with | some e => (match e.al with | none => true | some j => depB o j) | none => false) || it.need.any (fun x => depB o x.2 && (match its[x.2]? with | some jt => jt.dst.isSome && jt.out.blk == some b | none => false))
def kindB (its : List It) (bl : List Bl) (i : Nat) (o : Oper) (it : It) : Kind → Bool
  | .stay | .pass | .call => bl.all (fun e => e.al != some i && e.st != some i) && (match it.out.blk with | none => true | some b => liveB its bl o it b)
  | .make b => (match it.out.blk with | some c => c == b | none => false) && bl.zipIdx.all (fun x => x.1.st != some i && (x.1.al == some i) == (x.2 == b)) && (bl[b]?).isSome
  | .put b => (match it.out with | .v _ => true | _ => false) && bl.zipIdx.all (fun x => x.1.al != some i && (x.1.st == some i) == (x.2 == b)) && (match bl[b]? with | some e => (match e.al with | none => true | some j => depB o j) | none => false)
def Kind.isPass : Kind → Bool
  | .pass => true
  | _ => false
def guardB (its : List It) (o : Oper) (it : It) : Bool :=
  match o.guard with
  | none => !it.kind.isPass
  | some (j, want) => depB o j && (match its[j]? with | some jt => jt.dst.isSome && (match jt.out with | .v (.bool b) => (b == want) == !it.kind.isPass | _ => false) | none => false)
def okB (its : List It) (bl : List Bl) (i : Nat) (o : Oper) (it : It) : Bool :=
  (o.dst == it.dst) && guardB its o it && o.after.all (fun e => !Region.binds .any e || e.on < i) && it.need.all (fun tj => depB o tj.2 && ((its[tj.2]?).bind (·.dst)) == some tj.1) && kindB its bl i o it it.kind
def dstB : List It → Bool
  | [] => true
  | it :: r => (match it.dst with | none => true | some d => r.all (fun jt => jt.dst != some d)) && dstB r
def oldB (bl : List Bl) (olds : List (Tmp × SV)) : Bool :=
  olds.all (fun x => (match x.2.blk with | none => true | some b => match bl[b]? with | some e => e.al.isNone | none => false))
def allB (ops : Array Oper) (its : List It) (bl : List Bl) (olds : List (Tmp × SV)) (n : Nat) : Bool :=
  ops.size == its.length && dstB its && oldB bl olds && its.all (fun it => match it.dst with | none => true | some d => d < n) &&
  (List.range its.length).all (fun i => match ops[i]?, its[i]? with | some o, some it => okB its bl i o it | _, _ => false)
theorem dst_ne : ∀ {its : List It}, dstB its = true → ∀ (i j : Nat) (it jt : It) (d : Tmp), its[i]? = some it → its[j]? = some jt → it.dst = some d → jt.dst = some d → i = j
  | [], _, i, _, _, _, _, h, _, _, _ => by simp at h
  | x :: r, h, i, j, it, jt, d, hi, hj, di, dj => by
    simp only [dstB, Bool.and_eq_true] at h
    match i, j with
    | 0, 0 => rfl
    | 0, j + 1 =>
      simp only [List.getElem?_cons_zero, Option.some.injEq] at hi
      simp only [List.getElem?_cons_succ] at hj
      subst hi
      rw [di] at h
      have := List.all_eq_true.1 h.1 jt (List.mem_of_getElem? hj)
      rw [dj] at this
      simp at this
    | i + 1, 0 =>
      simp only [List.getElem?_cons_zero, Option.some.injEq] at hj
      simp only [List.getElem?_cons_succ] at hi
      subst hj
      rw [dj] at h
      have := List.all_eq_true.1 h.1 it (List.mem_of_getElem? hi)
      rw [di] at this
      simp at this
    | i + 1, j + 1 =>
      simp only [List.getElem?_cons_succ] at hi hj
      rw [dst_ne h.2 i j it jt d hi hj di dj]
theorem live_mono {e : Bl} {i : Nat} (hi : i < L.size) (h : e.live L = true) : e.live (L.setIfInBounds i true) = true := by rw [live_set hi, h, Bool.true_or]
theorem Ac.put {a : Act} {i : Nat} {it : It} (h : Ac its bl a0 L μ a) (hd : dstB its = true) (hi : i < L.size) (hit : its[i]? = some it) (hμ : ∀ (b : Nat) (e : Bl), bl[b]? = some e → e.live L = true → μ' b = μ b)
    (hin : ∀ d, it.dst = some d → d < a0.tmps.size) (hl : ∀ d, it.dst = some d → ∀ b, it.out.blk = some b → ∃ e : Bl, bl[b]? = some e ∧ e.live (L.setIfInBounds i true) = true)
    (v : Value) (hv : ∀ d, it.dst = some d → v = it.out.at μ') : Ac its bl a0 (L.setIfInBounds i true) μ' (a.put it.dst v) := by
  have hsame : ∀ (j : Nat) (jt : It) (d : Tmp), its[j]? = some jt → on L j = true → jt.dst = some d → a.tmps[d]? = some (jt.out.at μ') ∧ ∀ b, jt.out.blk = some b → ∃ e : Bl, bl[b]? = some e ∧ e.live (L.setIfInBounds i true) = true := fun j jt d hj ho hjd => by
    obtain ⟨h1, h2⟩ := h.got j jt d hj ho hjd
    refine ⟨?_, fun b hbo => ?_⟩
    · rw [h1]
      congr 1
      refine SV.at_congr fun b hb => ?_
      obtain ⟨e, he, hl⟩ := h2 b hb
      rw [hμ b e he hl]
    · obtain ⟨e, he, hl⟩ := h2 b hbo
      exact ⟨e, he, live_mono hi hl⟩
  cases hdst : it.dst with
  | none =>
    show Ac its bl a0 _ μ' a
    refine ⟨h.defers, h.size, fun j jt d hj ho hjd => ?_, fun t ht => h.rest t fun j jt hj ho => ht j jt hj (by rw [on_set hi, ho, Bool.true_or])⟩
    rw [on_set hi] at ho
    by_cases hij : i = j
    · subst hij
      rw [hit] at hj
      obtain rfl : it = jt := Option.some.inj hj
      rw [hdst] at hjd
      cases hjd
    · exact hsame j jt d hj (by simpa [hij] using ho) hjd
  | some d0 =>
    have hd0 := hin d0 hdst
    refine ⟨h.defers, ?_, fun j jt d hj ho hjd => ?_, fun t ht => ?_⟩
    · show (a.tmps.setIfInBounds d0 v).size = _
      rw [Array.size_setIfInBounds]; exact h.size
    · show (a.tmps.setIfInBounds d0 v)[d]? = _ ∧ _
      rw [Array.getElem?_setIfInBounds]
      rw [on_set hi] at ho
      by_cases hij : i = j
      · subst hij
        rw [hit] at hj
        obtain rfl : it = jt := Option.some.inj hj
        rw [hdst] at hjd
        obtain rfl : d0 = d := Option.some.inj hjd
        rw [if_pos rfl, if_pos (by rw [h.size]; exact hd0), hv d0 hdst]
        exact ⟨rfl, hl d0 hdst⟩
      · have hne : d0 ≠ d := fun hdd => hij (dst_ne hd i j it jt d0 hit hj hdst (hdd ▸ hjd))
        rw [if_neg hne]
        exact hsame j jt d hj (by simpa [hij] using ho) hjd
    · show (a.tmps.setIfInBounds d0 v)[t]? = _
      have hne : d0 ≠ t := fun hdt => ht i it hit (by rw [on_set hi]; simp) (by rw [hdst, hdt])
      rw [Array.getElem?_setIfInBounds, if_neg hne]
      exact h.rest t fun j jt hj ho => ht j jt hj (by rw [on_set hi, ho, Bool.true_or])
structure Inv (ops : Array Oper) (its : List It) (bl : List Bl) (a0 : Act) (w0 : World) (k0 : Nat) (X : List Nat) (μ0 : Nat → Nat) (L : Array Bool) (a : Act) (w : World) : Prop where
  size : L.size = its.length
  cl : ∀ (i : Nat) (o : Oper), ops[i]? = some o → on L i = true → ∀ e ∈ o.after, Region.binds .any e = true → on L e.on = true
  all : ∃ μ, (∀ (b : Nat) (e : Bl), bl[b]? = some e → e.al = none → μ b = μ0 b) ∧ Ac its bl a0 L μ a ∧ Wd w0 k0 X bl L μ w ∧ ∀ (b : Nat) (e : Bl), bl[b]? = some e → e.put L = true → e.live L = true
theorem wanted_none {o : Oper} (h : o.guard = none) (y : Nat → Option Bool) : Region.wanted o y = true := by unfold Region.wanted; rw [h]
theorem zip_all {p : Bl × Nat → Bool} (h : bl.zipIdx.all p = true) (b : Nat) (e : Bl) (hb : bl[b]? = some e) : p (e, b) = true :=
  List.all_eq_true.1 h (e, b) (by rw [List.mem_zipIdx_iff_getElem?]; exact hb)
theorem two {s t : Option Nat} {i c b : Nat} (h : (s != some i && (t == some i) == (c == b)) = true) : s ≠ some i ∧ (t = some i ↔ c = b) := by
  rw [Bool.and_eq_true] at h
  refine ⟨by simpa using h.1, ?_⟩
  have h2 : (t == some i) = (c == b) := by simpa using h.2
  constructor
  · intro ht
    rw [ht] at h2
    simpa using h2.symm
  · intro hc
    rw [hc] at h2
    simpa using h2
/-- One operation. -/
theorem step {i : Nat} {o : Oper} {it : It} {a : Act} (hd : dstB its = true) (ho : ops[i]? = some o) (hit : its[i]? = some it) (hok : okB its bl i o it = true) (hin : ∀ d, it.dst = some d → d < a0.tmps.size)
    (holds : ∀ (t : Tmp) (s : SV), (t, s) ∈ olds → a0.tmps[t]? = some (s.at μ0) ∧ ∀ b, s.blk = some b → ∃ e : Bl, bl[b]? = some e ∧ e.al = none)
    (hdops : ∀ (j : Nat) (oj : Oper) (jt : It), ops[j]? = some oj → its[j]? = some jt → oj.dst = jt.dst) (hops : ops.size = its.length) (hc : Cert P Q w0 k0 X ops i its bl olds o it) (hun : on L i = false) (hdep : ∀ e ∈ o.after, Region.binds .any e = true → on L e.on = true) (h : Inv ops its bl a0 w0 k0 X μ0 L a w) :
    wpOp P ops Q i (Inv ops its bl a0 w0 k0 X μ0 (L.setIfInBounds i true)) a w := by
  obtain ⟨hsz, hcl, μ, hμ, hA, hW, hO⟩ := h
  have hi : i < L.size := by rw [hsz]; exact (List.getElem?_eq_some_iff.1 hit).1
  simp only [okB, Bool.and_eq_true] at hok
  obtain ⟨⟨⟨⟨hdst, hg⟩, haft⟩, hneed⟩, hkind⟩ := hok
  have hdst' : o.dst = it.dst := by simpa using hdst
  have hdepB : ∀ j, depB o j = true → on L j = true := fun j hj => by
    obtain ⟨e, he, hb⟩ := Array.any_eq_true'.1 hj
    simp only [Bool.and_eq_true, beq_iff_eq] at hb
    rw [← hb.2]
    exact hdep e he hb.1
  have hwant : Region.wanted o (yielded ops a.tmps) = !it.kind.isPass := by
    unfold Region.wanted
    unfold guardB at hg
    cases hgd : o.guard with
    | none => rw [hgd] at hg; dsimp only at hg ⊢; rw [hg]
    | some jw =>
      obtain ⟨j, want⟩ := jw
      rw [hgd] at hg
      dsimp only at hg ⊢
      rw [Bool.and_eq_true] at hg
      cases hj : its[j]? with
      | none => rw [hj] at hg; cases hg.2
      | some jt =>
        rw [hj] at hg
        obtain ⟨h1, h2⟩ := hg
        dsimp only at h2
        rw [Bool.and_eq_true] at h2
        obtain ⟨d, hdj⟩ := Option.isSome_iff_exists.1 h2.1
        have hjl : j < its.length := (List.getElem?_eq_some_iff.1 hj).1
        have hoj : ops[j]? = some (ops[j]'(by rw [hops]; exact hjl)) := Array.getElem?_eq_getElem _
        have h3 := (hA.got j jt d hj (hdepB j h1) hdj).1
        have h4 : yielded ops a.tmps j = match jt.out.at μ with | .bool b => some b | _ => none := by
          unfold yielded
          rw [hoj]
          show (match (ops[j]'(by rw [hops]; exact hjl)).dst.bind (a.tmps[·]?) with | some (.bool b) => some b | _ => none) = _
          rw [hdops j _ jt hoj hj, hdj]
          show (match a.tmps[d]? with | some (.bool b) => some b | _ => none) = _
          rw [h3]
          cases jt.out.at μ <;> rfl
        rw [h4]
        have h5 := h2.2
        cases hout : jt.out with
        | p b x => rw [hout] at h5; cases h5
        | s b x y => rw [hout] at h5; cases h5
        | t b x y z => rw [hout] at h5; cases h5
        | v x =>
          rw [hout] at h5
          cases x with
          | bool b =>
            show (some b == some want) = _
            dsimp only at h5
            have : (b == want) = !it.kind.isPass := by simpa using h5
            rw [← this]
            cases b <;> cases want <;> rfl
          | _ => cases h5
  have hK : Known ops i its olds it.need μ a := by
    refine ⟨fun t j jt hm hj => ?_, fun t s hm hfree => ?_⟩
    · have h1 := List.all_eq_true.1 hneed (t, j) hm
      simp only [Bool.and_eq_true, hj] at h1
      have h2 : jt.dst = some t := by simpa using h1.2
      have h3 := (hA.got j jt t hj (hdepB j h1.1) h2).1
      show a.tmps.getD t undef = _
      rw [Array.getD_eq_getD_getElem?, h3]
      rfl
    · obtain ⟨h2, h3⟩ := holds t s hm
      have h4 := hA.rest t (fun j jt hj hon hdj => by
        have h5 := List.all_eq_true.1 hfree (jt, j) (by rw [List.mem_zipIdx_iff_getElem?]; exact hj)
        dsimp only at h5
        rw [hdj] at h5
        cases hoj : ops[j]? with
        | none => rw [hoj] at h5; simp at h5
        | some oj =>
          rw [hoj] at h5
          have h6 : depB oj i = true := by simpa using h5
          obtain ⟨e', he', hb'⟩ := Array.any_eq_true'.1 h6
          simp only [Bool.and_eq_true, beq_iff_eq] at hb'
          have := hcl j oj hoj hon e' he' hb'.1
          rw [hb'.2, hun] at this
          cases this)
      show a.tmps.getD t undef = _
      rw [Array.getD_eq_getD_getElem?, h4, h2]
      show s.at μ0 = s.at μ
      refine SV.at_congr fun b hb => ?_
      obtain ⟨e, he, hal⟩ := h3 b hb
      rw [hμ b e he hal]
  have hR : Reads ops i bl μ w := fun b e hb hal hst => by
    have := (hW.has b e hb (by
      unfold Bl.live
      rcases hal with hal | ⟨o', j, ho', hal, hd⟩
      · rw [hal]; rfl
      · rw [hal]
        show on L j = true
        rw [ho] at ho'
        obtain rfl := Option.some.inj ho'
        exact hdepB j hd)).1
    unfold Bl.now Bl.put at this
    unfold readB at hst
    cases hs : e.st with
    | none => rw [hs] at this; exact this
    | some s =>
      rw [hs] at this hst
      dsimp only at hst
      cases hos : ops[s]? with
      | none => rw [hos] at hst; cases hst
      | some os =>
        rw [hos] at hst
        have hns : on L s = false := by
          cases hon : on L s with
          | false => rfl
          | true =>
            obtain ⟨e', he', hb'⟩ := Array.any_eq_true'.1 hst
            simp only [Bool.and_eq_true, beq_iff_eq] at hb'
            have := hcl s os hos hon e' he' hb'.1
            rw [hb'.2, hun] at this
            cases this
        rw [show (Option.map (on L) (some s)).getD false = on L s from rfl, hns] at this
        exact this
  have hlive : ∀ b, liveB its bl o it b = true → ∃ e : Bl, bl[b]? = some e ∧ e.live L = true := fun b hb => by
    unfold liveB at hb
    rw [Bool.or_eq_true] at hb
    rcases hb with h2 | h2
    · cases he : bl[b]? with
      | none => rw [he] at h2; cases h2
      | some e =>
        rw [he] at h2
        dsimp only at h2
        refine ⟨e, rfl, ?_⟩
        unfold Bl.live
        cases hal : e.al with
        | none => rfl
        | some j => rw [hal] at h2; exact hdepB j h2
    · obtain ⟨x, hx, h3⟩ := List.any_eq_true.1 h2
      rw [Bool.and_eq_true] at h3
      cases hj : its[x.2]? with
      | none => rw [hj] at h3; cases h3.2
      | some jt =>
        rw [hj] at h3
        dsimp only at h3
        rw [Bool.and_eq_true] at h3
        obtain ⟨d, hd2⟩ := Option.isSome_iff_exists.1 h3.2.1
        exact (hA.got x.2 jt d hj (hdepB x.2 h3.1) hd2).2 b (by simpa using h3.2.2)
  have hcl' : ∀ (j : Nat) (oj : Oper), ops[j]? = some oj → on (L.setIfInBounds i true) j = true → ∀ e ∈ oj.after, Region.binds .any e = true → on (L.setIfInBounds i true) e.on = true := fun j oj hoj hon e he hb => by
    rw [on_set hi] at hon ⊢
    by_cases hij : i = j
    · subst hij
      rw [ho] at hoj
      obtain rfl : o = oj := Option.some.inj hoj
      rw [hdep e he hb, Bool.true_or]
    · rw [hcl j oj hoj (by simpa [hij] using hon) e he hb, Bool.true_or]
  have hsz' : (L.setIfInBounds i true).size = its.length := by rw [Array.size_setIfInBounds]; exact hsz
  have hC := hc μ a w (Inv ops its bl a0 w0 k0 X μ0 (L.setIfInBounds i true)) hK hR hW.bel
  unfold wpOp
  rw [ho]
  dsimp only
  rw [hwant]
  cases hk : it.kind with
  | pass =>
    rw [hk] at hC hkind
    simp only [kindB, Bool.and_eq_true] at hkind
    have hne : ∀ (b : Nat) (e : Bl), bl[b]? = some e → e.al ≠ some i ∧ e.st ≠ some i := fun b e hb => by simpa using List.all_eq_true.1 hkind.1 e (List.mem_of_getElem? hb)
    have hsame : ∀ (b : Nat) (e : Bl), bl[b]? = some e → e.live (L.setIfInBounds i true) = e.live L ∧ e.put (L.setIfInBounds i true) = e.put L := fun b e hb =>
      ⟨by rw [live_set hi, show (e.al == some i) = false by simpa using (hne b e hb).1, Bool.or_false], by rw [put_set hi, show (e.st == some i) = false by simpa using (hne b e hb).2, Bool.or_false]⟩
    show Inv ops its bl a0 w0 k0 X μ0 (L.setIfInBounds i true) (a.put o.dst undef) w
    refine ⟨hsz', hcl', μ, hμ, ?_, hW.same hsame, fun b e hb => by rw [(hsame b e hb).1, (hsame b e hb).2]; exact hO b e hb⟩
    rw [hdst']
    have hout : it.out = .v undef := hC
    refine hA.put hd hi hit (fun _ _ _ _ => rfl) hin (fun _ _ b hbx => ?_) _ (fun _ _ => by rw [hout]; rfl)
    rw [hout] at hbx
    cases hbx
  | stay =>
    rw [hk] at hC hkind
    simp only [kindB, Bool.and_eq_true] at hkind
    show o.wp P a w _ Q ∨ _
    left
    refine hC ?_
    have hne : ∀ (b : Nat) (e : Bl), bl[b]? = some e → e.al ≠ some i ∧ e.st ≠ some i := fun b e hb => by simpa using List.all_eq_true.1 hkind.1 e (List.mem_of_getElem? hb)
    have hsame : ∀ (b : Nat) (e : Bl), bl[b]? = some e → e.live (L.setIfInBounds i true) = e.live L ∧ e.put (L.setIfInBounds i true) = e.put L := fun b e hb =>
      ⟨by rw [live_set hi, show (e.al == some i) = false by simpa using (hne b e hb).1, Bool.or_false], by rw [put_set hi, show (e.st == some i) = false by simpa using (hne b e hb).2, Bool.or_false]⟩
    refine ⟨hsz', hcl', μ, hμ, ?_, hW.same hsame, fun b e hb => by rw [(hsame b e hb).1, (hsame b e hb).2]; exact hO b e hb⟩
    rw [hdst']
    refine hA.put hd hi hit (fun _ _ _ _ => rfl) hin (fun _ _ b hbx => ?_) _ (fun _ _ => rfl)
    have h2 := hkind.2
    rw [hbx] at h2
    obtain ⟨e, he, hl⟩ := hlive b h2
    exact ⟨e, he, live_mono hi hl⟩
  | call =>
    rw [hk] at hC hkind
    simp only [kindB, Bool.and_eq_true] at hkind
    show o.wp P a w _ Q ∨ _
    left
    refine hC fun w' hb' => ?_
    have hne : ∀ (b : Nat) (e : Bl), bl[b]? = some e → e.al ≠ some i ∧ e.st ≠ some i := fun b e hb => by simpa using List.all_eq_true.1 hkind.1 e (List.mem_of_getElem? hb)
    have hsame : ∀ (b : Nat) (e : Bl), bl[b]? = some e → e.live (L.setIfInBounds i true) = e.live L ∧ e.put (L.setIfInBounds i true) = e.put L := fun b e hb =>
      ⟨by rw [live_set hi, show (e.al == some i) = false by simpa using (hne b e hb).1, Bool.or_false], by rw [put_set hi, show (e.st == some i) = false by simpa using (hne b e hb).2, Bool.or_false]⟩
    refine ⟨hsz', hcl', μ, hμ, ?_, (hW.call hb').same hsame, fun b e hb => by rw [(hsame b e hb).1, (hsame b e hb).2]; exact hO b e hb⟩
    rw [hdst']
    refine hA.put hd hi hit (fun _ _ _ _ => rfl) hin (fun _ _ b hbx => ?_) _ (fun _ _ => rfl)
    have h2 := hkind.2
    rw [hbx] at h2
    obtain ⟨e, he, hl⟩ := hlive b h2
    exact ⟨e, he, live_mono hi hl⟩
  | make b =>
    rw [hk] at hC hkind
    simp only [kindB, Bool.and_eq_true] at hkind
    obtain ⟨⟨hout, hz⟩, hb0⟩ := hkind
    obtain ⟨e, hbe⟩ := Option.isSome_iff_exists.1 hb0
    have ha : e.al = some i := (two (zip_all hz b e hbe)).2.2 rfl
    have hstn : ∀ (c : Nat) (f : Bl), bl[c]? = some f → f.st ≠ some i := fun c f hc => (two (zip_all hz c f hc)).1
    have haln : ∀ (c : Nat) (f : Bl), bl[c]? = some f → c ≠ b → f.al ≠ some i := fun c f hc hcb h => hcb ((two (zip_all hz c f hc)).2.1 h)
    have hlv : e.live L = false := by unfold Bl.live; rw [ha]; exact hun
    have hpt : e.put L = false := by
      cases hp : e.put L with
      | false => rfl
      | true => have := hO b e hbe hp; rw [hlv] at this; cases this
    have hout' : it.out.blk = some b := by
      cases hoo : it.out.blk with
      | none => rw [hoo] at hout; cases hout
      | some c =>
        rw [hoo] at hout
        rw [show c = b by simpa using hout]
    show o.wp P a w _ Q ∨ _
    left
    refine hC e hbe fun k w' hm => ?_
    have hμb : ∀ (c : Nat) (f : Bl), bl[c]? = some f → f.live L = true → upd μ b k c = μ c := fun c f hc hl => by
      unfold upd
      rw [if_neg]
      rintro rfl
      rw [hbe] at hc
      obtain rfl : e = f := Option.some.inj hc
      rw [hlv] at hl
      cases hl
    refine ⟨hsz', hcl', upd μ b k, fun c f hc hal => ?_, ?_, hW.make hi hbe ha haln hstn hpt hm, fun c f hc => ?_⟩
    · rw [hμb c f hc (by unfold Bl.live; rw [hal]; rfl)]
      exact hμ c f hc hal
    · rw [hdst']
      refine hA.put hd hi hit hμb hin (fun _ _ c hcx => ?_) _ (fun _ _ => rfl)
      rw [hout'] at hcx
      have h1 : b = c := Option.some.inj hcx
      subst h1
      exact ⟨e, hbe, by rw [live_set hi, ha]; simp⟩
    · rw [put_set hi, show (f.st == some i) = false by simpa using hstn c f hc, Bool.or_false]
      exact fun hp => live_mono hi (hO c f hc hp)
  | put b =>
    rw [hk] at hC hkind
    simp only [kindB, Bool.and_eq_true] at hkind
    obtain ⟨⟨hdn, hz⟩, hb0⟩ := hkind
    cases hbe : bl[b]? with
    | none => rw [hbe] at hb0; cases hb0
    | some e =>
      rw [hbe] at hb0
      dsimp only at hb0
      have hs : e.st = some i := (two (zip_all hz b e hbe)).2.2 rfl
      have haln : ∀ (c : Nat) (f : Bl), bl[c]? = some f → f.al ≠ some i := fun c f hc => (two (zip_all hz c f hc)).1
      have hstn : ∀ (c : Nat) (f : Bl), bl[c]? = some f → c ≠ b → f.st ≠ some i := fun c f hc hcb h => hcb ((two (zip_all hz c f hc)).2.1 h)
      have hlv : e.live L = true := by
        unfold Bl.live
        cases hal : e.al with
        | none => rfl
        | some j =>
          have h2 := hb0
          rw [hal] at h2
          exact hdepB j h2
      show o.wp P a w _ Q ∨ _
      left
      have hpn : e.put L = false := by unfold Bl.put; rw [hs]; exact hun
      have hnow : e.now L = e.before := by unfold Bl.now; rw [hpn]; rfl
      refine hC e hbe (hW.has b e hbe hlv).2.1 (hnow ▸ (hW.has b e hbe hlv).1) fun w' hPT => ?_
      refine ⟨hsz', hcl', μ, hμ, ?_, hW.put hi hbe hs hlv hPT hstn haln, fun c f hc hp => ?_⟩
      · rw [hdst']
        refine hA.put hd hi hit (fun _ _ _ _ => rfl) hin (fun d hdd c hcx => ?_) _ (fun d hdd => rfl)
        cases hoo : it.out with
        | v x => rw [hoo] at hcx; cases hcx
        | p x y => rw [hoo] at hdn; cases hdn
        | s x y z => rw [hoo] at hdn; cases hdn
        | t x y z u => rw [hoo] at hdn; cases hdn
      · rw [live_set hi, show (f.al == some i) = false by simpa using haln c f hc, Bool.or_false]
        rw [put_set hi] at hp
        by_cases hcb : c = b
        · subst hcb
          rw [hbe] at hc
          obtain rfl : e = f := Option.some.inj hc
          exact hlv
        · rw [show (f.st == some i) = false by simpa using hstn c f hc hcb, Bool.or_false] at hp
          exact hO c f hc hp
end Go.Proofs.YtmepmoalhgehhaaGreatDoor.RG
namespace Go.Proofs.YtmepmoalhgehhaaGreatDoor.RG
open Go Go.RowKit
variable {P : Program} {ops : Array Oper} {Q : Exit → Act → World → Prop} {w0 w : World} {k0 : Nat} {X : List Nat} {its : List It} {bl : List Bl} {olds : List (Tmp × SV)} {a0 : Act} {L : Array Bool} {μ μ0 : Nat → Nat}
def puts (μ : Nat → Nat) : List It → Act → Act
  | [], a => a
  | it :: r, a => puts μ r (a.put it.dst (it.out.at μ))
theorem puts_defers (μ : Nat → Nat) : ∀ (its : List It) (a : Act), (puts μ its a).defers = a.defers
  | [], _ => rfl
  | it :: r, a => by
    rw [puts, puts_defers μ r]
    cases it.dst <;> rfl
theorem put_size (a : Act) (d : Option Tmp) (v : Value) : (a.put d v).tmps.size = a.tmps.size := by
  cases d with
  | none => rfl
  | some d => exact Array.size_setIfInBounds ..
theorem puts_size (μ : Nat → Nat) : ∀ (its : List It) (a : Act), (puts μ its a).tmps.size = a.tmps.size
  | [], _ => rfl
  | it :: r, a => by rw [puts, puts_size μ r, put_size]
theorem put_other (a : Act) {d : Option Tmp} (v : Value) {t : Tmp} (h : d ≠ some t) : (a.put d v).tmps[t]? = a.tmps[t]? := by
  cases d with
  | none => rfl
  | some d =>
    show (a.tmps.setIfInBounds d v)[t]? = _
    rw [Array.getElem?_setIfInBounds, if_neg (fun e => h (by rw [e]))]
theorem puts_other (μ : Nat → Nat) : ∀ (its : List It) (a : Act) (t : Tmp), (∀ it ∈ its, it.dst ≠ some t) → (puts μ its a).tmps[t]? = a.tmps[t]?
  | [], _, _, _ => rfl
  | it :: r, a, t, h => by
    rw [puts, puts_other μ r _ t (fun x hx => h x (List.mem_cons_of_mem _ hx)), put_other a _ (h it List.mem_cons_self)]
theorem puts_same (μ : Nat → Nat) : ∀ (its : List It) (a : Act) (i : Nat) (it : It) (d : Tmp), dstB its = true → its[i]? = some it → it.dst = some d → d < a.tmps.size → (puts μ its a).tmps[d]? = some (it.out.at μ)
  | [], _, i, _, _, _, h, _, _ => by simp at h
  | x :: r, a, 0, it, d, hB, h, hd, hs => by
    obtain rfl : x = it := by simpa using h
    simp only [dstB, Bool.and_eq_true, hd] at hB
    rw [puts, puts_other μ r _ d (fun y hy => by simpa using List.all_eq_true.1 hB.1 y hy), hd]
    show (a.tmps.setIfInBounds d _)[d]? = _
    rw [Array.getElem?_setIfInBounds, if_pos rfl, if_pos hs]
  | x :: r, a, i + 1, it, d, hB, h, hd, hs => by
    simp only [dstB, Bool.and_eq_true] at hB
    rw [puts]
    exact puts_same μ r _ i it d hB.2 (by simpa using h) hd (by rw [put_size]; exact hs)
theorem Act.ext' {a b : Act} (h1 : a.tmps = b.tmps) (h2 : a.defers = b.defers) : a = b := by
  cases a; cases b; subst h1; subst h2; rfl
theorem Ac.done {a : Act} (h : Ac its bl a0 L μ a) (hB : dstB its = true) (hin : ∀ it ∈ its, ∀ d, it.dst = some d → d < a0.tmps.size) (hall : ∀ i, i < its.length → on L i = true) : a = puts μ its a0 := by
  refine Act.ext' ?_ (by rw [puts_defers]; exact h.defers)
  apply Array.ext_getElem?
  intro t
  by_cases ht : ∃ (i : Nat) (it : It), its[i]? = some it ∧ it.dst = some t
  · obtain ⟨i, it, hi, hd⟩ := ht
    rw [(h.got i it t hi (hall i (List.getElem?_eq_some_iff.1 hi).1) hd).1, puts_same μ its a0 i it t hB hi hd (hin it (List.mem_of_getElem? hi) t hd)]
  · rw [h.rest t (fun i it hi _ hd => ht ⟨i, it, hi, hd⟩), puts_other μ its a0 t (fun it hm hd => ?_)]
    obtain ⟨i, hi⟩ := List.getElem?_of_mem hm
    exact ht ⟨i, it, hi, hd⟩
def unl (L : Array Bool) : Nat := L.toList.countP (fun b => !b)
theorem count_set : ∀ (l : List Bool) (i : Nat), l[i]? = some false → (l.set i true).countP (fun b => !b) + 1 = l.countP (fun b => !b)
  | [], i, h => by simp at h
  | x :: r, 0, h => by
    obtain rfl : x = false := by simpa using h
    simp
  | x :: r, i + 1, h => by
    have := count_set r i (by simpa using h)
    rw [List.set_cons_succ, List.countP_cons, List.countP_cons]
    omega
theorem unl_set {i : Nat} (h : L.getD i true = false) : unl (L.setIfInBounds i true) + 1 = unl L := by
  unfold unl
  rw [Array.toList_setIfInBounds]
  refine count_set _ _ ?_
  rw [Array.getElem?_toList]
  rw [Array.getD_eq_getD_getElem?] at h
  cases hh : L[i]? with
  | none => rw [hh] at h; cases h
  | some b => rw [hh] at h; rw [show b = false from h]
theorem unl_zero (h : unl L = 0) (i : Nat) (hi : i < L.size) : on L i = true := by
  have h1 := List.countP_eq_zero.1 h
  have h2 := h1 L[i] (by simp)
  unfold on
  rw [Array.getD_eq_getD_getElem?, Array.getElem?_eq_getElem hi]
  simpa using h2
/-- All that is asked of a region's rows. -/
structure Reg (P : Program) (ops : Array Oper) (Q : Exit → Act → World → Prop) (w0 : World) (k0 : Nat) (X : List Nat) (its : List It) (bl : List Bl) (olds : List (Tmp × SV)) (a0 : Act) (μ0 : Nat → Nat) : Prop where
  chk : allB ops its bl olds a0.tmps.size = true
  old : ∀ (t : Tmp) (s : SV), (t, s) ∈ olds → a0.tmps[t]? = some (s.at μ0)
  cert : ∀ (i : Nat) (o : Oper) (it : It), ops[i]? = some o → its[i]? = some it → Cert P Q w0 k0 X ops i its bl olds o it
theorem Reg.step {i : Nat} {o : Oper} {a : Act} (R : Reg P ops Q w0 k0 X its bl olds a0 μ0) (ho : ops[i]? = some o) (hun : on L i = false) (hdep : ∀ e ∈ o.after, Region.binds .any e = true → on L e.on = true) (h : Inv ops its bl a0 w0 k0 X μ0 L a w) :
    wpOp P ops Q i (Inv ops its bl a0 w0 k0 X μ0 (L.setIfInBounds i true)) a w := by
  have hk := R.chk
  simp only [allB, Bool.and_eq_true, beq_iff_eq] at hk
  obtain ⟨⟨⟨⟨hsz, hd⟩, hold⟩, hin⟩, hok⟩ := hk
  have hi : i < its.length := by rw [← hsz]; exact (Array.getElem?_eq_some_iff.1 ho).1
  obtain ⟨it, hit⟩ : ∃ it, its[i]? = some it := ⟨its[i], List.getElem?_eq_getElem hi⟩
  have h1 := List.all_eq_true.1 hok i (List.mem_range.2 hi)
  rw [ho, hit] at h1
  refine RG.step (olds := olds) hd ho hit h1 (fun d hdd => ?_) (fun t s hm => ?_) (fun j oj jt hoj hjt => ?_) hsz (R.cert i o it ho hit) hun hdep h
  · have := List.all_eq_true.1 hin it (List.mem_of_getElem? hit)
    rw [hdd] at this
    simpa using this
  · have h2 := List.all_eq_true.1 hold (t, s) hm
    refine ⟨R.old t s hm, fun b hbx => ?_⟩
    have h3 := h2
    dsimp only at h3
    rw [hbx] at h3
    dsimp only at h3
    cases he : bl[b]? with
    | none => rw [he] at h3; cases h3
    | some e => rw [he] at h3; exact ⟨e, rfl, by simpa using h3⟩
  · have h4 := List.all_eq_true.1 hok j (List.mem_range.2 (List.getElem?_eq_some_iff.1 hjt).1)
    rw [hoj, hjt] at h4
    simp only [okB, Bool.and_eq_true] at h4
    simpa using h4.1.1.1.1
theorem Reg.back {i : Nat} {o : Oper} (R : Reg P ops Q w0 k0 X its bl olds a0 μ0) (ho : ops[i]? = some o) : i < its.length ∧ ∀ e ∈ o.after, Region.binds .any e = true → e.on < i := by
  have hk := R.chk
  simp only [allB, Bool.and_eq_true, beq_iff_eq] at hk
  obtain ⟨⟨⟨⟨hsz, hd⟩, hold⟩, hin⟩, hok⟩ := hk
  have hi : i < its.length := by rw [← hsz]; exact (Array.getElem?_eq_some_iff.1 ho).1
  have h1 := List.all_eq_true.1 hok i (List.mem_range.2 hi)
  rw [ho, List.getElem?_eq_getElem hi] at h1
  simp only [okB, Bool.and_eq_true] at h1
  refine ⟨hi, fun e he hb => ?_⟩
  have := Array.all_eq_true'.1 h1.1.1.2 e he
  simpa [hb] using this
theorem Reg.size (R : Reg P ops Q w0 k0 X its bl olds a0 μ0) : ops.size = its.length := by
  have hk := R.chk
  simp only [allB, Bool.and_eq_true, beq_iff_eq] at hk
  exact hk.1.1.1.1
theorem Reg.full {a : Act} (R : Reg P ops Q w0 k0 X its bl olds a0 μ0) (h : Inv ops its bl a0 w0 k0 X μ0 L a w) (hr : Region.ready .any ops L = []) : ∀ i, i < its.length → on L i = true := by
  intro i
  induction i using Nat.strongRecOn with
  | ind i ih =>
    intro hi
    have ho : ops[i]? = some (ops[i]'(by rw [R.size]; exact hi)) := Array.getElem?_eq_getElem _
    cases hon : on L i with
    | true => rfl
    | false =>
      have : i ∈ Region.ready .any ops L := mem_ready.2 ⟨?_, _, ho, fun e he hb => ?_⟩
      · rw [hr] at this; cases this
      · unfold on at hon
        rw [Array.getD_eq_getD_getElem?, Array.getElem?_eq_getElem (by rw [h.size]; exact hi)] at hon ⊢
        exact hon
      · have hlt := (R.back ho).2 e he hb
        exact ih e.on hlt (Nat.lt_trans hlt hi)
/-- Blocks and what lies in them. -/
def ad (ks : List Nat) (b : Nat) : Nat := ks.getD b 0
structure St (w0 : World) (k0 : Nat) (X : List Nat) (cs : List (List Value)) (ks : List Nat) (w : World) : Prop where
  bel : BelX k0 X w0 w
  le : k0 ≤ w.heap.size
  len : ks.length = cs.length
  has : ∀ (b : Nat) (c : List Value), cs[b]? = some c → w.rangeAt (ad ks b) 0 c ∧ w.there (ad ks b) 0 c.length ∧ ad ks b < w.heap.size ∧ (k0 ≤ ad ks b ∨ ad ks b ∈ X)
  inj : ∀ (b c : Nat), b < cs.length → c < cs.length → b ≠ c → ad ks b ≠ ad ks c
theorem St.drew {cs : List (List Value)} {ks : List Nat} (h : St w0 k0 X cs ks w) : St w0 k0 X cs ks w.drew := ⟨h.bel.drew, h.le, h.len, h.has, h.inj⟩
def Bl.fin (e : Bl) : List Value := if e.st.isSome = true then e.after else e.before
def startB (bl : List Bl) (n : Nat) : Bool := bl.zipIdx.all (fun x => x.1.al.isNone == decide (x.2 < n)) && decide (n ≤ bl.length)
theorem start_inv {ops : Array Oper} {cs : List (List Value)} {ks : List Nat} (hS : St w0 k0 X cs ks w) (hB : startB bl cs.length = true) (hcs : (bl.map (·.before)).take cs.length = cs) :
    Inv ops its bl a0 w0 k0 X (ad ks) (Array.replicate its.length false) a0 w := by
  simp only [startB, Bool.and_eq_true] at hB
  have hoff : ∀ i, on (Array.replicate its.length false) i = false := fun i => by
    unfold on
    rw [Array.getD_eq_getD_getElem?, Array.getElem?_replicate]
    by_cases h : i < its.length
    · rw [if_pos h]; rfl
    · rw [if_neg h]; rfl
  have hlive : ∀ (b : Nat) (e : Bl), bl[b]? = some e → e.live (Array.replicate its.length false) = true → b < cs.length := fun b e hb hl => by
    have h1 := zip_all hB.1 b e hb
    unfold Bl.live at hl
    cases ha : e.al with
    | none => simpa [ha] using h1
    | some j => rw [ha] at hl; have : on (Array.replicate its.length false) j = true := hl; rw [hoff] at this; cases this
  have hput : ∀ e : Bl, e.put (Array.replicate its.length false) = false := fun e => by
    unfold Bl.put
    cases e.st with
    | none => rfl
    | some j => exact hoff j
  have hget : ∀ (b : Nat) (e : Bl), bl[b]? = some e → b < cs.length → cs[b]? = some e.before := fun b e hb hlt => by
    rw [← hcs, List.getElem?_take, if_pos hlt, List.getElem?_map, hb]
    rfl
  refine ⟨Array.size_replicate, (fun i o _ h => by rw [hoff] at h; cases h), ad ks, fun _ _ _ _ => rfl, ⟨rfl, rfl, fun i it d hi ho => ?_, fun _ _ => rfl⟩, ⟨hS.bel, hS.le, fun b e hb hl => ?_, fun b c e f hb hc he hf hbc => hS.inj b c (hlive b e hb he) (hlive c f hc hf) hbc⟩, fun b e hb hp => ?_⟩
  · rw [hoff] at ho; cases ho
  · unfold Bl.now
    rw [hput e]
    exact hS.has b e.before (hget b e hb (hlive b e hb hl))
  · rw [hput e] at hp; cases hp
theorem Inv.done {a : Act} {cs : List (List Value)} {ks : List Nat} (R : Reg P ops Q w0 k0 X its bl olds a0 (ad ks)) (h : Inv ops its bl a0 w0 k0 X (ad ks) L a w) (hlen : ks.length = cs.length) (hB : startB bl cs.length = true) (hall : ∀ i, i < its.length → on L i = true)
    (hst : ∀ e ∈ bl, ∀ j, e.al = some j ∨ e.st = some j → j < its.length) (hlenb : ∀ e ∈ bl, e.fin.length = e.before.length)
    (hp : ∀ (new : List Nat) (w' : World), new.length = bl.length - cs.length → St w0 k0 X (bl.map Bl.fin) (ks ++ new) w' → Q .normal (puts (ad (ks ++ new)) its a0) w') : Q .normal a w := by
  obtain ⟨hsz, -, μ, hμ, hA, hW, hO⟩ := h
  have hk := R.chk
  simp only [allB, Bool.and_eq_true, beq_iff_eq] at hk
  obtain ⟨⟨⟨⟨hsz2, hd⟩, hold⟩, hin⟩, hok⟩ := hk
  have hB' := hB
  simp only [startB, Bool.and_eq_true, decide_eq_true_eq] at hB
  have hlive : ∀ (b : Nat) (e : Bl), bl[b]? = some e → e.live L = true := fun b e hb => by
    unfold Bl.live
    cases ha : e.al with
    | none => rfl
    | some j => exact hall j (hst e (List.mem_of_getElem? hb) j (Or.inl ha))
  have hnow : ∀ (b : Nat) (e : Bl), bl[b]? = some e → e.now L = e.fin := fun b e hb => by
    unfold Bl.now Bl.put Bl.fin
    cases ha : e.st with
    | none => rfl
    | some j =>
      have := hall j (hst e (List.mem_of_getElem? hb) j (Or.inr ha))
      simp [this]
  have hnew : ∀ b, b < bl.length → ad (ks ++ (List.range (bl.length - cs.length)).map (fun j => μ (cs.length + j))) b = μ b := fun b hb => by
    unfold ad
    rw [List.getD_eq_getElem?_getD]
    by_cases hlt : b < cs.length
    · rw [List.getElem?_append_left (by rw [hlen]; exact hlt)]
      obtain ⟨e, he⟩ : ∃ e, bl[b]? = some e := ⟨bl[b], List.getElem?_eq_getElem hb⟩
      have h1 := zip_all hB.1 b e he
      have h2 : e.al = none := by simpa [hlt] using h1
      rw [hμ b e he h2]
      unfold ad
      rw [List.getD_eq_getElem?_getD]
    · rw [List.getElem?_append_right (by rw [hlen]; omega), List.getElem?_map, hlen, List.getElem?_range (by omega)]
      show μ (cs.length + (b - cs.length)) = μ b
      congr 1
      omega
  have hact := hA.done hd (fun it hm d hdd => by
    have := List.all_eq_true.1 hin it hm
    rw [hdd] at this
    simpa using this) hall
  have hpe : puts μ its a0 = puts (ad (ks ++ (List.range (bl.length - cs.length)).map (fun j => μ (cs.length + j)))) its a0 := by
    have key : ∀ it ∈ its, ∀ d, it.dst = some d → it.out.at μ = it.out.at (ad (ks ++ (List.range (bl.length - cs.length)).map (fun j => μ (cs.length + j)))) := fun it hm d hdd => by
      obtain ⟨i, hi⟩ := List.getElem?_of_mem hm
      have hg := (hA.got i it d hi (hall i (List.getElem?_eq_some_iff.1 hi).1) hdd).2
      refine SV.at_congr fun b hb => ?_
      obtain ⟨e, he, -⟩ := hg b hb
      rw [hnew b (List.getElem?_eq_some_iff.1 he).1]
    clear hA hact hold hok hin hd hsz2 hsz R hall hst hp
    generalize a0 = a1
    induction its generalizing a1 with
    | nil => rfl
    | cons it r ih =>
      rw [puts, puts]
      have h1 : a1.put it.dst (it.out.at μ) = a1.put it.dst (it.out.at (ad (ks ++ (List.range (bl.length - cs.length)).map (fun j => μ (cs.length + j))))) := by
        cases hdd : it.dst with
        | none => rfl
        | some d => rw [key it List.mem_cons_self d hdd]
      rw [h1]
      exact ih (fun x hx => key x (List.mem_cons_of_mem _ hx)) _
  rw [hact, hpe]
  refine hp _ w (by simp) ⟨hW.bel, hW.le, ?_, fun b c hc => ?_, fun b c hb hc hbc => ?_⟩
  · simp only [List.length_append, List.length_map, List.length_range]
    omega
  · rw [List.getElem?_map] at hc
    cases he : bl[b]? with
    | none => rw [he] at hc; cases hc
    | some e =>
      rw [he] at hc
      obtain rfl : e.fin = c := Option.some.inj hc
      have h1 := hW.has b e he (hlive b e he)
      rw [hnow b e he] at h1
      rw [hnew b (List.getElem?_eq_some_iff.1 he).1, hlenb e (List.mem_of_getElem? he)]
      exact h1
  · rw [List.length_map] at hb hc
    rw [hnew b hb, hnew c hc]
    exact hW.inj b c _ _ (List.getElem?_eq_getElem hb) (List.getElem?_eq_getElem hc) (hlive b _ (List.getElem?_eq_getElem hb)) (hlive c _ (List.getElem?_eq_getElem hc)) hbc
def endB (its : List It) (bl : List Bl) : Bool :=
  bl.all (fun e => (match e.al with | none => true | some j => decide (j < its.length)) && (match e.st with | none => true | some j => decide (j < its.length)) && e.fin.length == e.before.length)
theorem endB_st (h : endB its bl = true) : (∀ e ∈ bl, ∀ j, e.al = some j ∨ e.st = some j → j < its.length) ∧ ∀ e ∈ bl, e.fin.length = e.before.length := by
  refine ⟨fun e he j hj => ?_, fun e he => ?_⟩
  · have := List.all_eq_true.1 h e he
    simp only [Bool.and_eq_true] at this
    rcases hj with hj | hj
    · rw [hj] at this; simpa using this.1.1
    · rw [hj] at this; simpa using this.1.2
  · have := List.all_eq_true.1 h e he
    simp only [Bool.and_eq_true, beq_iff_eq] at this
    exact this.2
/-- THE LAW, for a region that draws its order. -/
theorem region_draws' {id : Nat} {cs : List (List Value)} {ks : List Nat} (hm : P.follows .mixedOrders = true) (hS : St w0 k0 X cs ks w) (R : Reg P ops Q w0 k0 X its bl olds a0 (ad ks)) (hB : startB bl cs.length = true) (hcs : (bl.map (·.before)).take cs.length = cs) (hE : (∀ e ∈ bl, ∀ j, e.al = some j ∨ e.st = some j → j < its.length) ∧ ∀ e ∈ bl, e.fin.length = e.before.length)
    (hp : ∀ (new : List Nat) (w' : World), new.length = bl.length - cs.length → St w0 k0 X (bl.map Bl.fin) (ks ++ new) w' → Q .normal (puts (ad (ks ++ new)) its a0) w') : (Code.region id ops true).wp P Q a0 w := by
  obtain ⟨hst, hlenb⟩ := hE
  have key : ∀ (fuel : Nat) (L : Array Bool) (a : Act) (w : World), unl L = fuel → Inv ops its bl a0 w0 k0 X (ad ks) L a w → wpAny P .any ops Q fuel L a w := by
    intro fuel
    induction fuel with
    | zero =>
      intro L a w hu hI
      have hall : ∀ i, i < its.length → on L i = true := fun i hi => unl_zero hu i (by rw [hI.size]; exact hi)
      refine ⟨?_, hI.done R hS.len hB hall hst hlenb hp⟩
      apply List.eq_nil_iff_forall_not_mem.2
      intro i hi
      obtain ⟨h1, o, ho, -⟩ := mem_ready.1 hi
      have h2 := hall i (R.back ho).1
      unfold on at h2
      rw [Array.getD_eq_getD_getElem?] at h1 h2
      cases hh : L[i]? with
      | none => rw [hh] at h1; cases h1
      | some b => rw [hh] at h1 h2; rw [show b = false from h1] at h2; cases h2
    | succ fuel ih =>
      intro L a w hu hI
      refine ⟨fun hr => hI.done R hS.len hB (R.full hI hr) hst hlenb hp, fun i hi => ?_⟩
      obtain ⟨h1, o, ho, hdep⟩ := mem_ready.1 hi
      have hoff : on L i = false := by
        unfold on
        rw [Array.getD_eq_getD_getElem?] at h1 ⊢
        cases hh : L[i]? with
        | none => rfl
        | some b => rw [hh] at h1; exact h1
      exact wpOp_mono (fun a' w' hI' => ih _ a' w' (by have := unl_set h1; omega) hI') (R.step ho hoff hdep hI)
  refine wp_region_any hm (key _ _ a0 _ ?_ ?_)
  · unfold unl
    rw [Array.toList_replicate, List.countP_replicate]
    simp
  · rw [R.size]
    exact start_inv hS.drew hB hcs
/-- THE LAW, for a region in the order of its text. -/
theorem region_text' {id : Nat} {cs : List (List Value)} {ks : List Nat} (hS : St w0 k0 X cs ks w) (R : Reg P ops Q w0 k0 X its bl olds a0 (ad ks)) (hB : startB bl cs.length = true) (hcs : (bl.map (·.before)).take cs.length = cs) (hE : (∀ e ∈ bl, ∀ j, e.al = some j ∨ e.st = some j → j < its.length) ∧ ∀ e ∈ bl, e.fin.length = e.before.length)
    (hp : ∀ (new : List Nat) (w' : World), new.length = bl.length - cs.length → St w0 k0 X (bl.map Bl.fin) (ks ++ new) w' → Q .normal (puts (ad (ks ++ new)) its a0) w') : (Code.region id ops false).wp P Q a0 w := by
  obtain ⟨hst, hlenb⟩ := hE
  have key : ∀ (m i : Nat) (L : Array Bool) (a : Act) (w : World), i + m = its.length → (∀ j, j < its.length → on L j = decide (j < i)) → Inv ops its bl a0 w0 k0 X (ad ks) L a w → wpOps P ops Q (List.range' i m) a w := by
    intro m
    induction m with
    | zero =>
      intro i L a w hi hL hI
      exact hI.done R hS.len hB (fun j hj => by rw [hL j hj]; simp; omega) hst hlenb hp
    | succ m ih =>
      intro i L a w hi hL hI
      rw [List.range'_succ, wpOps_cons]
      have ho : ops[i]? = some (ops[i]'(by rw [R.size]; omega)) := Array.getElem?_eq_getElem _
      refine wpOp_mono (fun a' w' hI' => ih (i + 1) _ a' w' (by omega) (fun j hj => ?_) hI') (R.step ho (by rw [hL i (by omega)]; simp) (fun e he hb => ?_) hI)
      · rw [on_set (by rw [hI.size]; omega), hL j hj]
        by_cases h1 : j < i
        · simp [h1]; omega
        · by_cases h2 : i = j
          · subst h2; simp
          · have : ¬ j < i + 1 := by omega
            simp [h1, h2, this]
      · have hlt := (R.back ho).2 e he hb
        rw [hL e.on (by omega)]
        simpa using hlt
  refine wp_region ?_
  rw [List.range_eq_range', R.size]
  refine key its.length 0 (Array.replicate its.length false) a0 w (by omega) (fun j hj => ?_) (start_inv hS hB hcs)
  unfold on
  rw [Array.getD_eq_getD_getElem?, Array.getElem?_replicate, if_pos hj]
  simp
theorem region_draws {id : Nat} {cs : List (List Value)} {ks : List Nat} (hm : P.follows .mixedOrders = true) (hS : St w0 k0 X cs ks w) (R : Reg P ops Q w0 k0 X its bl olds a0 (ad ks)) (hB : startB bl cs.length = true) (hcs : (bl.map (·.before)).take cs.length = cs) (hE : endB its bl = true)
    (hp : ∀ (new : List Nat) (w' : World), new.length = bl.length - cs.length → St w0 k0 X (bl.map Bl.fin) (ks ++ new) w' → Q .normal (puts (ad (ks ++ new)) its a0) w') : (Code.region id ops true).wp P Q a0 w :=
  region_draws' hm hS R hB hcs (endB_st hE) hp
theorem region_text {id : Nat} {cs : List (List Value)} {ks : List Nat} (hS : St w0 k0 X cs ks w) (R : Reg P ops Q w0 k0 X its bl olds a0 (ad ks)) (hB : startB bl cs.length = true) (hcs : (bl.map (·.before)).take cs.length = cs) (hE : endB its bl = true)
    (hp : ∀ (new : List Nat) (w' : World), new.length = bl.length - cs.length → St w0 k0 X (bl.map Bl.fin) (ks ++ new) w' → Q .normal (puts (ad (ks ++ new)) its a0) w') : (Code.region id ops false).wp P Q a0 w :=
  region_text' hS R hB hcs (endB_st hE) hp
end Go.Proofs.YtmepmoalhgehhaaGreatDoor.RG
namespace Go.Proofs.YtmepmoalhgehhaaGreatDoor.RG
open Go Go.RowKit
variable {P : Program} {Q : Exit → Act → World → Prop} {its : List It} {bl : List Bl} {olds : List (Tmp × SV)} {ops : Array Oper} {i : Nat} {o : Oper} {it : It} {w0 : World} {k0 : Nat} {X : List Nat}
theorem cert_stay (hk : it.kind = .stay) (hrun : ∀ (μ : Nat → Nat) (a : Act) (w : World), Known ops i its olds it.need μ a → BelX k0 X w0 w → (execOp a.eval o).run P w = .ok (.value (it.out.at μ)) w) : Cert P Q w0 k0 X ops i its bl olds o it := by
  intro μ a w K hK _ hbel
  rw [hk]
  intro h
  unfold Oper.wp
  rw [hrun μ a w hK hbel]
  exact h
theorem cert_load (hk : it.kind = .stay) (b off : Nat) (e : Bl) (hb : bl[b]? = some e) (hal : e.al = none) (hst : readB ops i e = true) (T : TypeId) (t : Tmp) (ho : o.op = .load T (.tmp t)) (cs : List Value) (hout : it.out = .v (.agg cs.toArray))
    (hx : ∀ (μ : Nat → Nat) (a : Act), Known ops i its olds it.need μ a → a.eval (.tmp t) = (SV.p b off).at μ) (hsub : (e.before.drop off).take cs.length = cs)
    (hu : (P.underlying T).map (·.isRow) = some true) (hi : (P.info? T).map (·.size) = some cs.length) : Cert P Q w0 k0 X ops i its bl olds o it := by
  intro μ a w K hK hR _
  rw [hk]
  intro h
  rw [hout] at h
  obtain ⟨d, hu, hd⟩ := Option.map_eq_some_iff.1 hu
  refine wp_load_mid T (.tmp t) ho (μ b) off (hx μ a hK) cs d (fun j v hj => ?_) hu hd hi h
  have h1 := hR b e hb (Or.inl hal) hst (off + j) v ?_
  · rw [Nat.zero_add] at h1; exact h1
  · rw [← hsub] at hj
    have hlt : j < cs.length := by
      have h2 := (List.getElem?_eq_some_iff.1 hj).1
      rw [hsub] at h2
      exact h2
    rw [List.getElem?_take, if_pos hlt, List.getElem?_drop] at hj
    exact hj
/-- A cell of one word, a slice, a pointer: no row. -/
theorem cert_call (hk : it.kind = .call) (f : FuncId) (args : Array Value) (v : Value) (hout : it.out = .v v) (hrun : ∀ (μ : Nat → Nat) (a : Act) (w : World), Known ops i its olds it.need μ a → BelX k0 X w0 w → (execOp a.eval o).run P w = .ok (.enter f args) w)
    (hc : ∀ w, BelX k0 X w0 w → Calls P f args w (Ret fun e w' => Below w.heap.size w w' ∧ e = v)) : Cert P Q w0 k0 X ops i its bl olds o it := by
  intro μ a w K hK _ hbel
  rw [hk]
  intro h
  rw [hout] at h
  unfold Oper.wp
  rw [hrun μ a w hK hbel, Oper.upon_enter]
  refine (hc w hbel).mono ?_
  rintro e w' ⟨v', rfl, hb, rfl⟩
  exact h w' hb
theorem cert_make (b : Nat) (hk : it.kind = .make b) (e : Bl) (hb : bl[b]? = some e) (t : TypeId) (hrun : ∀ (μ : Nat → Nat) (a : Act) (w : World), Known ops i its olds it.need μ a → BelX k0 X w0 w → (execOp a.eval o).run P w = .ok (.value (it.out.at (upd μ b w.heap.size))) (w.alloc (.cells e.before.toArray t))) : Cert P Q w0 k0 X ops i its bl olds o it := by
  intro μ a w K hK _ hbel
  rw [hk]
  intro e' hb' h
  rw [hb] at hb'
  obtain rfl : e = e' := Option.some.inj hb'
  unfold Oper.wp
  rw [hrun μ a w hK hbel]
  exact h _ _ (Made.alloc w e.before t)
theorem cert_put (b : Nat) (hk : it.kind = .put b) (e : Bl) (hb : bl[b]? = some e) (T : TypeId) (x y : Operand) (ho : o.op = .store T x y) (hdn : o.dst = none) (hlen : e.after.length = e.before.length)
    (hx : ∀ (μ : Nat → Nat) (a : Act), Known ops i its olds it.need μ a → a.eval x = (SV.p b 0).at μ) (hy : ∀ (μ : Nat → Nat) (a : Act), Known ops i its olds it.need μ a → a.eval y = .agg e.after.toArray)
    (hi : (P.info? T).map (·.size) = some e.after.length) (h1 : e.after.all (·.oneCell') = true) : Cert P Q w0 k0 X ops i its bl olds o it := by
  intro μ a w K hK _ _
  rw [hk]
  intro e' hb' ht hr h
  rw [hb] at hb'
  obtain rfl : e = e' := Option.some.inj hb'
  have hPT := PutTo.whole ht hr hlen
  refine wp_store_mid T x y ho (μ b) 0 e.after.toArray (hx μ a hK) (hy μ a hK) ?_ ?_ ?_ ?_
  · rw [List.size_toArray, hlen]; exact ht
  · rw [List.size_toArray]; exact hi
  · exact all_oneCell_toArray (fun v hv => List.all_eq_true.1 h1 v hv)
  · have := h _ hPT
    rw [hdn] at this ⊢
    exact this
theorem Known.op {need : List (Tmp × Nat)} {μ : Nat → Nat} {a : Act} (h : Known ops i its olds need μ a) (t : Tmp) (j : Nat) (hm : (t, j) ∈ need) {jt : It} (hj : its[j]? = some jt) : a.eval (.tmp t) = jt.out.at μ := h.1 t j jt hm hj
theorem Known.old {need : List (Tmp × Nat)} {μ : Nat → Nat} {a : Act} (h : Known ops i its olds need μ a) (t : Tmp) (s : SV) (hm : (t, s) ∈ olds) (hf : freeB ops its i t = true) : a.eval (.tmp t) = s.at μ := h.2 t s hm hf
theorem len1 {l : List Nat} (h : l.length = 1) : ∃ k, l = [k] := List.length_eq_one_iff.1 h
theorem len0 {l : List Nat} (h : l.length = 0) : l = [] := List.length_eq_zero_iff.1 h
theorem len2 {l : List Nat} (h : l.length = 2) : ∃ k j, l = [k, j] := by
  match l, h with
  | [k, j], _ => exact ⟨k, j, rfl⟩
end Go.Proofs.YtmepmoalhgehhaaGreatDoor.RG
set_option linter.unusedVariables false
set_option linter.unusedSimpArgs false
namespace Go.Proofs.YtmepmoalhgehhaaGreatDoor.RG
open Go Go.RowKit
variable {P : Program} {ops : Array Oper} {Q : Exit → Act → World → Prop} {w0 w : World} {k0 : Nat} {X : List Nat} {its : List It} {bl : List Bl} {olds : List (Tmp × SV)} {a0 : Act} {L : Array Bool} {μ μ0 : Nat → Nat} {i : Nat} {o : Oper} {it : It}
def Certs (P : Program) (Q : Exit → Act → World → Prop) (w0 : World) (k0 : Nat) (X : List Nat) (ops : Array Oper) (its : List It) (bl : List Bl) (olds : List (Tmp × SV)) : Nat → List Oper → List It → Prop
  | _, [], _ => True
  | _, _ :: _, [] => False
  | i, o :: os, it :: is => Cert P Q w0 k0 X ops i its bl olds o it ∧ Certs P Q w0 k0 X ops its bl olds (i + 1) os is
theorem Certs.get : ∀ {os : List Oper} {is : List It} {n : Nat}, Certs P Q w0 k0 X ops its bl olds n os is → ∀ (i : Nat) (o : Oper) (it : It), os[i]? = some o → is[i]? = some it → Cert P Q w0 k0 X ops (n + i) its bl olds o it
  | [], _, _, _, i, _, _, h, _ => by simp at h
  | _ :: _, [], _, h, _, _, _, _, _ => h.elim
  | o :: os, it :: is, _, h, 0, o', it', ho, hi => by
    obtain rfl : o = o' := by simpa using ho
    obtain rfl : it = it' := by simpa using hi
    exact h.1
  | o :: os, it :: is, n, h, i + 1, o', it', ho, hi => by
    have := Certs.get h.2 i o' it' (by simpa using ho) (by simpa using hi)
    rw [show n + (i + 1) = n + 1 + i by omega]
    exact this
def Olds (a0 : Act) (μ0 : Nat → Nat) : List (Tmp × SV) → Prop
  | [] => True
  | x :: r => a0.tmps[x.1]? = some (x.2.at μ0) ∧ Olds a0 μ0 r
theorem Olds.get : ∀ {l : List (Tmp × SV)}, Olds a0 μ0 l → ∀ (t : Tmp) (s : SV), (t, s) ∈ l → a0.tmps[t]? = some (s.at μ0)
  | [], _, _, _, h => by cases h
  | x :: r, h, t, s, hm => by
    rcases List.mem_cons.1 hm with e | e
    · subst e; exact h.1
    · exact Olds.get h.2 t s e
theorem Reg.mk' (chk : allB ops its bl olds a0.tmps.size = true) (old : Olds a0 μ0 olds) (cert : Certs P Q w0 k0 X ops its bl olds 0 ops.toList its) : Reg P ops Q w0 k0 X its bl olds a0 μ0 :=
  ⟨chk, fun t s hm => old.get t s hm, fun i o it ho hi => by have := cert.get i o it (by rw [Array.getElem?_toList]; exact ho) hi; rwa [Nat.zero_add] at this⟩
theorem cert_field (hk : it.kind = .stay) (T : TypeId) (t : Tmp) (f : Nat) (ho : o.op = .fieldAddr T (.tmp t) f) (b off off' : Nat) (hout : it.out = .p b off')
    (hx : ∀ (μ : Nat → Nat) (a : Act), Known ops i its olds it.need μ a → a.eval (.tmp t) = (SV.p b off).at μ)
    (hf : ∀ (k : Nat) (w : World), (Instr.fieldAt T (.pointer (some ⟨k, off, none⟩)) f).run P w = .ok (.pointer (some ⟨k, off', none⟩)) w) : Cert P Q w0 k0 X ops i its bl olds o it := by
  refine cert_stay hk fun μ a w hK _ => ?_
  unfold execOp
  rw [ho, hout]
  dsimp only
  rw [hx μ a hK]
  show ((Instr.fieldAt T (.pointer (some ⟨μ b, off, none⟩)) f) >>= fun v => pure (Next.value v)).run P w = _
  rw [Sem.run_bind, hf]
  rfl
theorem cert_call1 (hk : it.kind = .call) (f : FuncId) (t1 : Tmp) (v1 v : Value) (hout : it.out = .v v) (hrun : ∀ (a : Act) (w : World), (execOp a.eval o).run P w = .ok (.enter f #[a.eval (.tmp t1)]) w)
    (h1 : ∀ (μ : Nat → Nat) (a : Act), Known ops i its olds it.need μ a → a.eval (.tmp t1) = v1) (hc : ∀ w, Calls P f #[v1] w (Ret fun e w' => Below w.heap.size w w' ∧ e = v)) : Cert P Q w0 k0 X ops i its bl olds o it :=
  cert_call hk f #[v1] v hout (fun μ a w hK _ => by rw [hrun, h1 μ a hK]) (fun w _ => hc w)
theorem cert_call2 (hk : it.kind = .call) (f : FuncId) (t1 t2 : Tmp) (v1 v2 v : Value) (hout : it.out = .v v) (hrun : ∀ (a : Act) (w : World), (execOp a.eval o).run P w = .ok (.enter f #[a.eval (.tmp t1), a.eval (.tmp t2)]) w)
    (h1 : ∀ (μ : Nat → Nat) (a : Act), Known ops i its olds it.need μ a → a.eval (.tmp t1) = v1) (h2 : ∀ (μ : Nat → Nat) (a : Act), Known ops i its olds it.need μ a → a.eval (.tmp t2) = v2)
    (hc : ∀ w, Calls P f #[v1, v2] w (Ret fun e w' => Below w.heap.size w w' ∧ e = v)) : Cert P Q w0 k0 X ops i its bl olds o it :=
  cert_call hk f #[v1, v2] v hout (fun μ a w hK _ => by rw [hrun, h1 μ a hK, h2 μ a hK]) (fun w _ => hc w)
theorem cert_call3 (hk : it.kind = .call) (f : FuncId) (t1 t2 t3 : Tmp) (v1 v2 v3 v : Value) (hout : it.out = .v v) (hrun : ∀ (a : Act) (w : World), (execOp a.eval o).run P w = .ok (.enter f #[a.eval (.tmp t1), a.eval (.tmp t2), a.eval (.tmp t3)]) w)
    (h1 : ∀ (μ : Nat → Nat) (a : Act), Known ops i its olds it.need μ a → a.eval (.tmp t1) = v1) (h2 : ∀ (μ : Nat → Nat) (a : Act), Known ops i its olds it.need μ a → a.eval (.tmp t2) = v2) (h3 : ∀ (μ : Nat → Nat) (a : Act), Known ops i its olds it.need μ a → a.eval (.tmp t3) = v3)
    (hc : ∀ w, Calls P f #[v1, v2, v3] w (Ret fun e w' => Below w.heap.size w w' ∧ e = v)) : Cert P Q w0 k0 X ops i its bl olds o it :=
  cert_call hk f #[v1, v2, v3] v hout (fun μ a w hK _ => by rw [hrun, h1 μ a hK, h2 μ a hK, h3 μ a hK]) (fun w _ => hc w)
theorem cert_call0 (hk : it.kind = .call) (f : FuncId) (v : Value) (hout : it.out = .v v) (hrun : ∀ (a : Act) (w : World), (execOp a.eval o).run P w = .ok (.enter f #[]) w)
    (hc : ∀ w, Calls P f #[] w (Ret fun e w' => Below w.heap.size w w' ∧ e = v)) : Cert P Q w0 k0 X ops i its bl olds o it :=
  cert_call hk f #[] v hout (fun _ a w _ _ => hrun a w) (fun w _ => hc w)
theorem at_made {b k : Nat} (hout : it.out = .p b 0) : it.out.at (upd μ b k) = .pointer (some ⟨k, 0, none⟩) := by
  rw [hout]
  show Value.pointer (some ⟨upd μ b k b, 0, none⟩) = _
  unfold upd
  rw [if_pos rfl]
theorem cert_alloc (b : Nat) (hk : it.kind = .make b) (hout : it.out = .p b 0) (e : Bl) (hb : bl[b]? = some e) (T : TypeId) (ho : o.op = .alloc T) (hz : ∀ w : World, (Instr.alloc T true (.tuple #[])).run P w = .ok (.pointer (some ⟨w.heap.size, 0, none⟩)) (w.alloc (.cells e.before.toArray T))) : Cert P Q w0 k0 X ops i its bl olds o it := by
  refine cert_make b hk e hb T fun μ a w hK _ => ?_
  unfold execOp
  rw [ho]
  rw [at_made hout]
  show ((Instr.alloc T true (.tuple #[])) >>= fun v => pure (Next.value v)).run P w = _
  rw [Sem.run_bind, hz]
  rfl
theorem cert_box (b : Nat) (hk : it.kind = .make b) (hout : it.out = .p b 0) (e : Bl) (hb : bl[b]? = some e) (T : TypeId) (t : Tmp) (ho : o.op = .box T (.tmp t)) (v : Value) (h1 : ∀ (μ : Nat → Nat) (a : Act), Known ops i its olds it.need μ a → a.eval (.tmp t) = v)
    (hz : ∀ w : World, (Instr.box T v).run P w = .ok (.pointer (some ⟨w.heap.size, 0, none⟩)) (w.alloc (.cells e.before.toArray T))) : Cert P Q w0 k0 X ops i its bl olds o it := by
  refine cert_make b hk e hb T fun μ a w hK _ => ?_
  unfold execOp
  rw [ho]
  dsimp only
  rw [h1 μ a hK, at_made hout]
  show ((Instr.box T v) >>= fun v => pure (Next.value v)).run P w = _
  rw [Sem.run_bind, hz]
  rfl
theorem cert_build2 (hk : it.kind = .stay) (T : TypeId) (t1 t2 : Tmp) (ho : o.op = .build T #[(0, .tmp t1), (1, .tmp t2)]) (v1 v2 v : Value) (hout : it.out = .v v)
    (h1 : ∀ (μ : Nat → Nat) (a : Act), Known ops i its olds it.need μ a → a.eval (.tmp t1) = v1) (h2 : ∀ (μ : Nat → Nat) (a : Act), Known ops i its olds it.need μ a → a.eval (.tmp t2) = v2)
    (hb : ∀ w : World, (Instr.build T #[(0, v1), (1, v2)]).run P w = .ok v w) : Cert P Q w0 k0 X ops i its bl olds o it := by
  refine cert_stay hk fun μ a w hK _ => ?_
  unfold execOp
  rw [ho, hout]
  dsimp only
  simp only [List.map_toArray, List.map_cons, List.map_nil, h1 μ a hK, h2 μ a hK]
  rw [Sem.run_bind, hb]
  rfl
theorem cert_build3 (hk : it.kind = .stay) (T : TypeId) (t1 t2 t3 : Tmp) (ho : o.op = .build T #[(0, .tmp t1), (1, .tmp t2), (2, .tmp t3)]) (v1 v2 v3 v : Value) (hout : it.out = .v v)
    (h1 : ∀ (μ : Nat → Nat) (a : Act), Known ops i its olds it.need μ a → a.eval (.tmp t1) = v1) (h2 : ∀ (μ : Nat → Nat) (a : Act), Known ops i its olds it.need μ a → a.eval (.tmp t2) = v2) (h3 : ∀ (μ : Nat → Nat) (a : Act), Known ops i its olds it.need μ a → a.eval (.tmp t3) = v3)
    (hb : ∀ w : World, (Instr.build T #[(0, v1), (1, v2), (2, v3)]).run P w = .ok v w) : Cert P Q w0 k0 X ops i its bl olds o it := by
  refine cert_stay hk fun μ a w hK _ => ?_
  unfold execOp
  rw [ho, hout]
  dsimp only
  simp only [List.map_toArray, List.map_cons, List.map_nil, h1 μ a hK, h2 μ a hK, h3 μ a hK]
  rw [Sem.run_bind, hb]
  rfl
theorem results_row {fn : Func} {a : Act} {cs : List (List Value)} {ks : List Nat} (hS : St w0 k0 X cs ks w) (t : Tmp) (T : TypeId) (hr : fn.results = #[.cell t T]) (b : Nat) (c : List Value) (hc : cs[b]? = some c) (ht : a.tmps[t]? = some (.pointer (some ⟨ad ks b, 0, none⟩)))
    (hu : (P.underlying T).map (·.isRow) = some true) (hi : (P.info? T).map (·.size) = some c.length) : (results fn a.tmps).run P w = .ok (.agg c.toArray) w := by
  obtain ⟨d, hu, hd⟩ := Option.map_eq_some_iff.1 hu
  have h1 := run_loadVar_mid (P := P) w (ad ks b) 0 T c d (hS.has b c hc).1 hu hd hi
  have h2 : a.tmps.getD t undef = .pointer (some ⟨ad ks b, 0, none⟩) := by rw [Array.getD_eq_getD_getElem?, ht]; rfl
  unfold results
  rw [hr]
  simp only [Array.mapM_eq_mapM_toList, List.mapM_cons, List.mapM_nil, h2, asAddr]
  simp [Sem.run_bind, h1]
theorem len3 {l : List Nat} (h : l.length = 3) : ∃ k j i, l = [k, j, i] := by
  match l, h with
  | [k, j, i], _ => exact ⟨k, j, i, rfl⟩
theorem St.begin (w : World) : St w w.heap.size [] [] [] w := ⟨BelX.refl _ _ _, Nat.le_refl _, rfl, fun b c h => by simp at h, fun b c h => by simp at h⟩
end Go.Proofs.YtmepmoalhgehhaaGreatDoor.RG
namespace Go.Proofs.YtmepmoalhgehhaaGreatDoor.NT
def IsP (n : Nat) : Prop := 2 ≤ n ∧ ∀ m, m ∣ n → m = 1 ∨ m = n
theorem IsP.cop {p k : Nat} (h : IsP p) (h0 : 0 < k) (hk : k < p) : Nat.Coprime p k := by
  unfold Nat.Coprime
  rcases h.2 _ (Nat.gcd_dvd_left p k) with e | e
  · exact e
  · have := Nat.le_of_dvd h0 (Nat.gcd_dvd_right p k)
    omega
theorem IsP.cop_of {p k : Nat} (h : IsP p) (hk : ¬ p ∣ k) : Nat.Coprime p k := by
  unfold Nat.Coprime
  rcases h.2 _ (Nat.gcd_dvd_left p k) with e | e
  · exact e
  · exact absurd (e ▸ Nat.gcd_dvd_right p k) hk
theorem IsP.euclid {p a b : Nat} (h : IsP p) (hd : p ∣ a * b) : p ∣ a ∨ p ∣ b := by
  by_cases ha : p ∣ a
  · exact Or.inl ha
  · exact Or.inr ((h.cop_of ha).dvd_of_dvd_mul_left hd)
/-! the binomials -/
def ch : Nat → Nat → Nat
  | _, 0 => 1
  | 0, _ + 1 => 0
  | n + 1, k + 1 => ch n k + ch n (k + 1)
theorem ch_zero (n : Nat) : ch n 0 = 1 := by cases n <;> rfl
theorem ch_above : ∀ (n k : Nat), n < k → ch n k = 0
  | 0, k + 1, _ => rfl
  | n + 1, k + 1, h => by
    rw [ch, ch_above n k (by omega), ch_above n (k + 1) (by omega)]
theorem ch_self : ∀ (n : Nat), ch n n = 1
  | 0 => rfl
  | n + 1 => by rw [ch, ch_self n, ch_above n (n + 1) (by omega)]
theorem ch_step : ∀ (n k : Nat), (k + 1) * ch (n + 1) (k + 1) = (n + 1) * ch n k
  | 0, 0 => rfl
  | 0, k + 1 => by simp [ch]
  | n + 1, 0 => by
    have h := ch_step n 0
    have e : ch (n + 1 + 1) (0 + 1) = ch (n + 1) 0 + ch (n + 1) (0 + 1) := rfl
    rw [ch_zero] at h
    rw [e, ch_zero]
    omega
  | n + 1, k + 1 => by
    have h1 := ch_step n k
    have h2 := ch_step n (k + 1)
    have e : ch (n + 1 + 1) (k + 1 + 1) = ch (n + 1) (k + 1) + ch (n + 1) (k + 1 + 1) := rfl
    have e3 : ch (n + 1) (k + 1) = ch n k + ch n (k + 1) := rfl
    rw [e, Nat.mul_add, h2]
    have : (k + 1 + 1) * ch (n + 1) (k + 1) = (n + 1) * ch n k + ch (n + 1) (k + 1) := by
      rw [← h1, Nat.add_mul (k + 1) 1, Nat.one_mul]
    rw [this, e3, Nat.add_mul (n + 1) 1, Nat.one_mul, Nat.mul_add]
    omega
def sumTo : Nat → (Nat → Nat) → Nat
  | 0, _ => 0
  | n + 1, f => sumTo n f + f n
theorem sumTo_congr (f g : Nat → Nat) : ∀ n, (∀ k, k < n → f k = g k) → sumTo n f = sumTo n g
  | 0, _ => rfl
  | n + 1, h => by
    rw [sumTo, sumTo, sumTo_congr f g n (fun k hk => h k (by omega)), h n (by omega)]
theorem sumTo_add (f g : Nat → Nat) : ∀ n, sumTo n (fun k => f k + g k) = sumTo n f + sumTo n g
  | 0 => rfl
  | n + 1 => by simp only [sumTo]; rw [sumTo_add f g n]; omega
theorem sumTo_mul (a : Nat) (f : Nat → Nat) : ∀ n, sumTo n (fun k => a * f k) = a * sumTo n f
  | 0 => rfl
  | n + 1 => by simp only [sumTo]; rw [sumTo_mul a f n, Nat.mul_add]
theorem sumTo_front (f : Nat → Nat) : ∀ n, sumTo (n + 1) f = f 0 + sumTo n (fun k => f (k + 1))
  | 0 => by simp [sumTo]
  | n + 1 => by rw [sumTo, sumTo_front f n]; simp only [sumTo]; omega
theorem sumTo_dvd (p : Nat) (f : Nat → Nat) : ∀ n, (∀ k, k < n → p ∣ f k) → p ∣ sumTo n f
  | 0, _ => Nat.dvd_zero p
  | n + 1, h => Nat.dvd_add (sumTo_dvd p f n (fun k hk => h k (by omega))) (h n (by omega))
theorem binom (a : Nat) : ∀ n, (a + 1) ^ n = sumTo (n + 1) (fun k => ch n k * a ^ k)
  | 0 => by simp [sumTo, ch]
  | n + 1 => by
    rw [Nat.pow_succ, binom a n, Nat.mul_add, Nat.mul_one]
    rw [sumTo_front (fun k => ch (n + 1) k * a ^ k) (n + 1)]
    have e : sumTo (n + 1) (fun k => ch (n + 1) (k + 1) * a ^ (k + 1))
        = sumTo (n + 1) (fun k => a * (ch n k * a ^ k)) + sumTo (n + 1) (fun k => ch n (k + 1) * a ^ (k + 1)) := by
      rw [← sumTo_add]
      refine sumTo_congr _ _ _ ?_
      intro k _
      show (ch n k + ch n (k + 1)) * a ^ (k + 1) = _
      rw [Nat.add_mul, Nat.pow_succ]
      have : ch n k * (a ^ k * a) = a * (ch n k * a ^ k) := by
        rw [Nat.mul_comm a, Nat.mul_assoc]
      rw [this]
    rw [e, sumTo_mul]
    have e2 : sumTo (n + 1) (fun k => ch n k * a ^ k)
        = ch n 0 * a ^ 0 + sumTo n (fun k => ch n (k + 1) * a ^ (k + 1)) := sumTo_front (fun k => ch n k * a ^ k) n
    have e3 : sumTo (n + 1) (fun k => ch n (k + 1) * a ^ (k + 1)) = sumTo n (fun k => ch n (k + 1) * a ^ (k + 1)) := by
      rw [sumTo, ch_above n (n + 1) (by omega), Nat.zero_mul, Nat.add_zero]
    have e4 : ch (n + 1) 0 * a ^ 0 = ch n 0 * a ^ 0 := by rw [ch_zero, ch_zero]
    rw [e3, e4, Nat.mul_comm _ a]
    omega
theorem IsP.ch_dvd {p k : Nat} (h : IsP p) (hk : k + 1 < p) : p ∣ ch p (k + 1) := by
  obtain ⟨n, rfl⟩ : ∃ n, p = n + 1 := ⟨p - 1, by have := h.1; omega⟩
  have e := ch_step n k
  have hd : (n + 1) ∣ (k + 1) * ch (n + 1) (k + 1) := e ▸ Nat.dvd_mul_right _ _
  exact (h.cop (by omega) hk).dvd_of_dvd_mul_left hd
theorem IsP.frob {p : Nat} (h : IsP p) (a : Nat) : (a + 1) ^ p % p = (a ^ p + 1) % p := by
  obtain ⟨n, rfl⟩ : ∃ n, p = n + 1 := ⟨p - 1, by have := h.1; omega⟩
  rw [binom, sumTo, sumTo_front, ch_self, ch_zero]
  obtain ⟨c, hc⟩ : (n + 1) ∣ sumTo n (fun k => ch (n + 1) (k + 1) * a ^ (k + 1)) :=
    sumTo_dvd _ _ _ (fun k hk => Nat.dvd_mul_right_of_dvd (h.ch_dvd (by omega)) _)
  rw [hc]
  have : 1 * a ^ 0 + (n + 1) * c + 1 * a ^ (n + 1) = (a ^ (n + 1) + 1) + (n + 1) * c := by
    rw [Nat.pow_zero]; omega
  rw [this, Nat.add_mul_mod_self_left]
theorem IsP.fermat {p : Nat} (h : IsP p) : ∀ a, a ^ p % p = a % p
  | 0 => by
    rw [Nat.zero_pow (by have := h.1; omega)]
  | a + 1 => by
    rw [h.frob, Nat.add_mod, h.fermat a, ← Nat.add_mod]
theorem IsP.cancel {p a x y : Nat} (h : IsP p) (ha : ¬ p ∣ a) (e : a * x % p = a * y % p) : x % p = y % p := by
  have key : ∀ x y, y ≤ x → a * x % p = a * y % p → x % p = y % p := by
    intro x y hle e
    have h1 : p ∣ a * x - a * y := Nat.dvd_of_mod_eq_zero (Nat.sub_mod_eq_zero_of_mod_eq e)
    rw [← Nat.mul_sub] at h1
    obtain ⟨c, hc⟩ := (h.cop_of ha).dvd_of_dvd_mul_left h1
    have : x = y + p * c := by omega
    rw [this, Nat.add_mul_mod_self_left]
  rcases Nat.le_total y x with hle | hle
  · exact key x y hle e
  · exact (key y x hle e.symm).symm
theorem IsP.fermat1 {p : Nat} (h : IsP p) (a : Nat) (ha : ¬ p ∣ a) : a ^ (p - 1) % p = 1 := by
  obtain ⟨n, rfl⟩ : ∃ n, p = n + 1 := ⟨p - 1, by have := h.1; omega⟩
  have e := h.fermat a
  rw [Nat.pow_succ, Nat.mul_comm] at e
  have := h.cancel ha (x := a ^ n) (y := 1) (by rw [e, Nat.mul_one])
  rw [Nat.add_sub_cancel, this, Nat.mod_eq_of_lt h.1]
/-! powers that are 1 -/
theorem pow_gcd (b r : Nat) (hr : 1 < r) (x y : Nat) : b ^ x % r = 1 → b ^ y % r = 1 → b ^ (Nat.gcd x y) % r = 1 := by
  induction x, y using Nat.gcd.induction with
  | H0 n => intro _ h; rw [Nat.gcd_zero_left]; exact h
  | H1 m n hm ih =>
    intro h1 h2
    rw [Nat.gcd_rec]
    refine ih ?_ h1
    have e : b ^ n = (b ^ m) ^ (n / m) * b ^ (n % m) := by
      rw [← Nat.pow_mul, ← Nat.pow_add, Nat.div_add_mod]
    rw [e, Nat.mul_mod, Nat.pow_mod, h1, Nat.one_pow, Nat.mod_eq_of_lt hr, Nat.one_mul, Nat.mod_mod] at h2
    exact h2
theorem exists_prime : ∀ n, 2 ≤ n → ∃ r, IsP r ∧ r ∣ n ∧ (IsP n ∨ r * r ≤ n) := by
  intro n
  induction n using Nat.strongRecOn with
  | _ n ih =>
    intro hn
    by_cases hp : IsP n
    · exact ⟨n, hp, Nat.dvd_refl n, Or.inl hp⟩
    · have : ∃ m, m ∣ n ∧ m ≠ 1 ∧ m ≠ n := by
        refine Classical.byContradiction fun hc => hp ⟨hn, fun m hm => ?_⟩
        refine Classical.byContradiction fun hc2 => hc ⟨m, hm, fun e => hc2 (Or.inl e), fun e => hc2 (Or.inr e)⟩
      obtain ⟨m, ⟨k, hk⟩, h1, h2⟩ := this
      have hm0 : m ≠ 0 := by intro e; rw [e, Nat.zero_mul] at hk; omega
      have hk0 : k ≠ 0 := by intro e; rw [e, Nat.mul_zero] at hk; omega
      have hk1 : k ≠ 1 := by intro e; rw [e, Nat.mul_one] at hk; omega
      have hmn : m < n := by
        have := Nat.le_of_dvd (by omega) (⟨k, hk⟩ : m ∣ n); omega
      have hkn : k < n := by
        have := Nat.mul_le_mul_right k (show 2 ≤ m by omega); omega
      rcases Nat.le_total m k with hle | hle
      · obtain ⟨r, hr, hrd, _⟩ := ih m hmn (by omega)
        have hrm := Nat.le_of_dvd (by omega) hrd
        refine ⟨r, hr, Nat.dvd_trans hrd ⟨k, hk⟩, Or.inr ?_⟩
        rw [hk]; exact Nat.mul_le_mul hrm (Nat.le_trans hrm hle)
      · obtain ⟨r, hr, hrd, _⟩ := ih k hkn (by omega)
        have hrm := Nat.le_of_dvd (by omega) hrd
        refine ⟨r, hr, Nat.dvd_trans hrd ⟨m, by rw [hk, Nat.mul_comm]⟩, Or.inr ?_⟩
        rw [hk]; exact Nat.mul_le_mul (Nat.le_trans hrm hle) hrm
/-! what of a prime of n - 1 goes into the primes of n -/
theorem part {n q a r : Nat} (hq : IsP q) (hr : IsP r) (hrn : r ∣ n) (hn : 1 < n)
    (h1 : a ^ (n - 1) % n = 1) (hd : q ∣ n - 1) (h2 : Nat.gcd (a ^ ((n - 1) / q) % n + (n - 1)) n = 1) : q ∣ r - 1 := by
  have hr2 := hr.1
  have toR : ∀ x y, x % n = y % n → x % r = y % r := by
    intro x y e
    rw [← Nat.mod_mod_of_dvd x hrn, e, Nat.mod_mod_of_dvd y hrn]
  have hm : a ^ (n - 1) % r = 1 := by
    have := toR (a ^ (n - 1)) 1 (by rw [h1, Nat.mod_eq_of_lt hn])
    rw [this, Nat.mod_eq_of_lt hr2]
  have hra : ¬ r ∣ a := by
    intro hc
    have hz : a ^ (n - 1) % r = 0 := Nat.mod_eq_zero_of_dvd (Nat.dvd_trans hc (by
      have : a ^ 1 ∣ a ^ (n - 1) := Nat.pow_dvd_pow a (by omega)
      rwa [Nat.pow_one] at this))
    omega
  have hb : (a ^ ((n - 1) / q)) ^ q % r = 1 := by
    rw [← Nat.pow_mul, Nat.div_mul_cancel hd]; exact hm
  have hbr : ¬ r ∣ a ^ ((n - 1) / q) := by
    intro hc
    have : r ∣ (a ^ ((n - 1) / q)) ^ q := Nat.dvd_trans hc (by
      have : (a ^ ((n - 1) / q)) ^ 1 ∣ (a ^ ((n - 1) / q)) ^ q := Nat.pow_dvd_pow _ (by have := hq.1; omega)
      rwa [Nat.pow_one] at this)
    have := Nat.mod_eq_zero_of_dvd this
    omega
  have hg := pow_gcd _ r hr2 q (r - 1) hb (hr.fermat1 _ hbr)
  rcases hq.2 _ (Nat.gcd_dvd_left q (r - 1)) with e | e
  · rw [e, Nat.pow_one] at hg
    exfalso
    have hx : r ∣ a ^ ((n - 1) / q) % n + (n - 1) := by
      refine Nat.dvd_of_mod_eq_zero ?_
      have e1 : (a ^ ((n - 1) / q) % n) % r = 1 := by rw [Nat.mod_mod_of_dvd _ hrn]; exact hg
      have e2 : (n - 1 + 1) % r = 0 := by
        rw [Nat.sub_add_cancel (by omega)]; exact Nat.mod_eq_zero_of_dvd hrn
      have : (a ^ ((n - 1) / q) % n + (n - 1)) % r = (1 + (n - 1)) % r := by
        rw [Nat.add_mod, e1, Nat.add_mod 1 (n - 1), Nat.mod_eq_of_lt hr2]
      rw [this, Nat.add_comm, e2]
    have := Nat.dvd_gcd hx hrn
    rw [h2] at this
    have := Nat.le_of_dvd (by omega) this
    omega
  · rw [← e]; exact Nat.gcd_dvd_right _ _
theorem pock {n f : Nat} (hn : 1 < n) (hf : n < (f + 1) * (f + 1))
    (hall : ∀ r, IsP r → r ∣ n → f ∣ r - 1) : IsP n := by
  obtain ⟨r, hr, hrn, h | h⟩ := exists_prime n hn
  · exact h
  · have := Nat.le_of_dvd (by have := hr.1; omega) (hall r hr hrn)
    have h2 : f + 1 ≤ r := by have := hr.1; omega
    have := Nat.mul_le_mul h2 h2
    omega
/-! trial -/
def trial (n : Nat) : Nat → Nat → Bool
  | 0, _ => true
  | k + 1, d => (n % d != 0) && trial n k (d + 1)
theorem trial_no (n : Nat) : ∀ k d, trial n k d = true → ∀ m, d ≤ m → m < d + k → ¬ m ∣ n
  | 0, _, _, m, _, _ => by omega
  | k + 1, d, h, m, h1, h2 => by
    simp only [trial, Bool.and_eq_true, bne_iff_ne, ne_eq] at h
    rcases Nat.lt_or_ge d m with hlt | hge
    · exact trial_no n k (d + 1) h.2 m hlt (by omega)
    · have : m = d := by omega
      subst this
      intro hd
      exact h.1 (Nat.mod_eq_zero_of_dvd hd)
theorem small {n k : Nat} (hn : 2 ≤ n) (ht : trial n k 2 = true) (hk : n < (k + 2) * (k + 2)) : IsP n := by
  obtain ⟨r, hr, hrn, h | h⟩ := exists_prime n hn
  · exact h
  · have h2 := hr.1
    have hlt : r < 2 + k := by
      refine Classical.byContradiction fun hc => ?_
      have := Nat.mul_le_mul (show k + 2 ≤ r by omega) (show k + 2 ≤ r by omega)
      omega
    exact absurd hrn (trial_no n k 2 ht r h2 hlt)
/-! powers, reckoned -/
def pm (n : Nat) : Nat → Nat → Nat → Nat → Nat
  | 0, _, _, acc => acc
  | k + 1, a, e, acc => pm n k (a * a % n) (e / 2) (if e % 2 = 1 then acc * a % n else acc)
theorem pm_eq (n : Nat) : ∀ k a e acc, e < 2 ^ k → acc < n → pm n k a e acc = acc * a ^ e % n
  | 0, a, e, acc, h, ha => by
    have : e = 0 := by simpa using h
    subst this
    rw [pm, Nat.pow_zero, Nat.mul_one, Nat.mod_eq_of_lt ha]
  | k + 1, a, e, acc, h, ha => by
    have hn : 0 < n := by omega
    have hacc : (if e % 2 = 1 then acc * a % n else acc) < n := by
      split
      · exact Nat.mod_lt _ hn
      · exact ha
    rw [pm, pm_eq n k _ _ _ (by rw [Nat.pow_succ] at h; omega) hacc]
    have hsq : ∀ y, y * (a * a % n) ^ (e / 2) % n = y * (a * a) ^ (e / 2) % n := by
      intro y
      rw [Nat.mul_mod, ← Nat.pow_mod, ← Nat.mul_mod]
    rw [hsq]
    have he : a ^ e = a ^ (e % 2) * (a * a) ^ (e / 2) := by
      have : (a * a) = a ^ 2 := by rw [Nat.pow_succ, Nat.pow_one]
      rw [this, ← Nat.pow_mul, ← Nat.pow_add, Nat.mod_add_div]
    rw [he]
    split
    · rename_i h1
      rw [h1, Nat.pow_one, Nat.mul_mod, Nat.mod_mod, ← Nat.mul_mod, Nat.mul_assoc]
    · rename_i h1
      have : e % 2 = 0 := by omega
      rw [this, Nat.pow_zero, Nat.one_mul]
theorem part' {n q a r k : Nat} (hq : IsP q) (hr : IsP r) (hrn : r ∣ n) (hn : 1 < n) (hk : n < 2 ^ k)
    (h1 : pm n k a (n - 1) 1 = 1) (hd : (n - 1) % q = 0) (h2 : Nat.gcd (pm n k a ((n - 1) / q) 1 + (n - 1)) n = 1) : q ∣ r - 1 := by
  rw [pm_eq n k a (n - 1) 1 (by omega) hn, Nat.one_mul] at h1
  rw [pm_eq n k a _ 1 (Nat.lt_of_le_of_lt (Nat.div_le_self _ _) (by omega)) hn, Nat.one_mul] at h2
  exact part hq hr hrn hn h1 (Nat.dvd_of_mod_eq_zero hd) h2
/-! the two primes -/
theorem x21 : IsP 1627771 := small (k := 1275) (by decide) (by decide +kernel) (by decide)
theorem x30 : IsP 545358713 := small (k := 23352) (by decide) (by decide +kernel) (by decide)
theorem x26 : IsP 44706919 := small (k := 6686) (by decide) (by decide +kernel) (by decide)
theorem x17 : IsP 120233 := small (k := 346) (by decide) (by decide +kernel) (by decide)
theorem x27 : IsP 107590001 := small (k := 10372) (by decide) (by decide +kernel) (by decide)
theorem x23 : IsP 7240687 := small (k := 2690) (by decide) (by decide +kernel) (by decide)
theorem x16 : IsP 96557 := small (k := 310) (by decide) (by decide +kernel) (by decide)
theorem x39 : IsP 297159362677 :=
  pock (f := 1627771) (by decide) (by decide +kernel) (fun r hr hd => part' (k := 39) (a := 2) x21 hr hd (by decide) (by decide +kernel) (by decide +kernel) (by decide +kernel) (by decide +kernel))
theorem c95 : IsP 29047611873442575647497758179 :=
  pock (f := (545358713 * 297159362677)) (by decide) (by decide +kernel) (fun r hr hd => Nat.Coprime.mul_dvd_of_dvd_of_dvd (by decide +kernel) (part' (k := 95) (a := 2) x30 hr hd (by decide) (by decide +kernel) (by decide +kernel) (by decide +kernel) (by decide +kernel)) (part' (k := 95) (a := 2) x39 hr hd (by decide) (by decide +kernel) (by decide +kernel) (by decide +kernel) (by decide +kernel)))
theorem b68 : IsP 174723607534414371449 :=
  pock (f := (44706919 * 120233)) (by decide) (by decide +kernel) (fun r hr hd => Nat.Coprime.mul_dvd_of_dvd_of_dvd (by decide +kernel) (part' (k := 68) (a := 2) x26 hr hd (by decide) (by decide +kernel) (by decide +kernel) (by decide +kernel) (by decide +kernel)) (part' (k := 68) (a := 2) x17 hr hd (by decide) (by decide +kernel) (by decide +kernel) (by decide +kernel) (by decide +kernel)))
theorem c109 : IsP 341948486974166000522343609283189 :=
  pock (f := 29047611873442575647497758179) (by decide) (by decide +kernel) (fun r hr hd => part' (k := 109) (a := 2) c95 hr hd (by decide) (by decide +kernel) (by decide +kernel) (by decide +kernel) (by decide +kernel))
theorem pN : IsP 115792089237316195423570985008687907852837564279074904382605163141518161494337 :=
  pock (f := (174723607534414371449 * 341948486974166000522343609283189)) (by decide) (by decide +kernel) (fun r hr hd => Nat.Coprime.mul_dvd_of_dvd_of_dvd (by decide +kernel) (part' (k := 256) (a := 2) b68 hr hd (by decide) (by decide +kernel) (by decide +kernel) (by decide +kernel) (by decide +kernel)) (part' (k := 256) (a := 2) c109 hr hd (by decide) (by decide +kernel) (by decide +kernel) (by decide +kernel) (by decide +kernel)))
theorem e128 : IsP 255515944373312847190720520512484175977 :=
  pock (f := (107590001 * 7240687 * 96557)) (by decide) (by decide +kernel) (fun r hr hd => Nat.Coprime.mul_dvd_of_dvd_of_dvd (by decide +kernel) (Nat.Coprime.mul_dvd_of_dvd_of_dvd (by decide +kernel) (part' (k := 128) (a := 2) x27 hr hd (by decide) (by decide +kernel) (by decide +kernel) (by decide +kernel) (by decide +kernel)) (part' (k := 128) (a := 2) x23 hr hd (by decide) (by decide +kernel) (by decide +kernel) (by decide +kernel) (by decide +kernel))) (part' (k := 128) (a := 2) x16 hr hd (by decide) (by decide +kernel) (by decide +kernel) (by decide +kernel) (by decide +kernel)))
theorem q237 : IsP 205115282021455665897114700593932402728804164701536103180137503955397371 :=
  pock (f := 255515944373312847190720520512484175977) (by decide) (by decide +kernel) (fun r hr hd => part' (k := 237) (a := 2) e128 hr hd (by decide) (by decide +kernel) (by decide +kernel) (by decide +kernel) (by decide +kernel))
theorem pP : IsP 115792089237316195423570985008687907853269984665640564039457584007908834671663 :=
  pock (f := 205115282021455665897114700593932402728804164701536103180137503955397371) (by decide) (by decide +kernel) (fun r hr hd => part' (k := 256) (a := 2) q237 hr hd (by decide) (by decide +kernel) (by decide +kernel) (by decide +kernel) (by decide +kernel))
end Go.Proofs.YtmepmoalhgehhaaGreatDoor.NT
namespace Go.Proofs.YtmepmoalhgehhaaGreatDoor.EC
/-- A line through two points of the curve (or at one, twice): its slope l. -/
structure Line {P : Nat} [NeZero P] (x1 y1 x2 y2 l : Fin P) : Prop where
  go : y2 = y1 + l * (x2 - x1)
  on : l * (y1 + y2) = x1 ^ 2 + x1 * x2 + x2 ^ 2
variable {P : Nat} [NeZero P]
theorem on_curve (x1 y1 x2 y2 l x4 y4 : Fin P) (h1 : y1 ^ 2 = x1 ^ 3 + 7) (h2 : y2 ^ 2 = x2 ^ 3 + 7) (hl : Line x1 y1 x2 y2 l) (hx : x4 = l ^ 2 - x1 - x2) (hy : y4 = l * (x1 - x4) - y1) : y4 ^ 2 = x4 ^ 3 + 7 := by
  obtain ⟨e, h⟩ := hl
  subst hy hx e
  grobner
set_option maxHeartbeats 40000000 in
set_option maxRecDepth 100000 in
theorem assoc_x (x1 y1 x2 x3 l1 l2 y2 y3 x4 y4 x5 y5 : Fin P) (L1 : Line x1 y1 x2 y2 l1) (L2 : Line x2 y2 x3 y3 l2)
    (e4 : x4 = l1 ^ 2 - x1 - x2) (f4 : y4 = l1 * (x1 - x4) - y1) (e5 : x5 = l2 ^ 2 - x2 - x3) (f5 : y5 = l2 * (x2 - x5) - y2) :
    ((y4 - y3) ^ 2 - (x4 + x3) * (x4 - x3) ^ 2) * (x5 - x1) ^ 2 = ((y5 - y1) ^ 2 - (x1 + x5) * (x5 - x1) ^ 2) * (x4 - x3) ^ 2 := by
  obtain ⟨e2, h2⟩ := L1
  obtain ⟨e3, h3⟩ := L2
  subst f4 f5 e4 e5 e3 e2
  grobner
set_option maxHeartbeats 40000000 in
set_option maxRecDepth 100000 in
theorem assoc_y (x1 y1 x2 x3 l1 l2 y2 y3 x4 y4 x5 y5 : Fin P) (L1 : Line x1 y1 x2 y2 l1) (L2 : Line x2 y2 x3 y3 l2)
    (e4 : x4 = l1 ^ 2 - x1 - x2) (f4 : y4 = l1 * (x1 - x4) - y1) (e5 : x5 = l2 ^ 2 - x2 - x3) (f5 : y5 = l2 * (x2 - x5) - y2) :
    ((y4 - y3) ^ 2 - (x3 + x4) * (x4 - x3) ^ 2) * ((y5 - y1) * (x4 - x3) - (y4 - y3) * (x5 - x1)) + (x4 - x3) ^ 2 * (((y4 - y3) * x3 - y3 * (x4 - x3)) * (x5 - x1) - ((y5 - y1) * x1 - y1 * (x5 - x1)) * (x4 - x3)) = 0 := by
  obtain ⟨e2, h2⟩ := L1
  obtain ⟨e3, h3⟩ := L2
  subst f4 f5 e4 e5 e3 e2
  grobner (ringSteps := 100000000)
set_option maxHeartbeats 40000000 in
set_option maxRecDepth 100000 in
/-- Where C = A + B. -/
theorem assoc_x2 (x1 y1 x2 x3 l1 l2 y2 y3 x5 y5 : Fin P) (L1 : Line x1 y1 x2 y2 l1) (L2 : Line x2 y2 x3 y3 l2)
    (e4 : x3 = l1 ^ 2 - x1 - x2) (f4 : y3 = l1 * (x1 - x3) - y1) (e5 : x5 = l2 ^ 2 - x2 - x3) (f5 : y5 = l2 * (x2 - x5) - y2) :
    (9 * x3 ^ 4 - 8 * x3 * y3 ^ 2) * (x5 - x1) ^ 2 = ((y5 - y1) ^ 2 - (x1 + x5) * (x5 - x1) ^ 2) * (4 * y3 ^ 2) := by
  obtain ⟨e2, h2⟩ := L1
  obtain ⟨e3, h3⟩ := L2
  subst f5 e5 f4 e4 e2
  grobner (ringSteps := 100000000)
set_option maxHeartbeats 40000000 in
set_option maxRecDepth 100000 in
theorem assoc_y2 (x1 y1 x2 x3 l1 l2 y2 y3 x5 y5 : Fin P) (L1 : Line x1 y1 x2 y2 l1) (L2 : Line x2 y2 x3 y3 l2)
    (e4 : x3 = l1 ^ 2 - x1 - x2) (f4 : y3 = l1 * (x1 - x3) - y1) (e5 : x5 = l2 ^ 2 - x2 - x3) (f5 : y5 = l2 * (x2 - x5) - y2) :
    (3 * x3 ^ 2 * (x3 * (4 * y3 ^ 2) - (9 * x3 ^ 4 - 8 * x3 * y3 ^ 2)) - 2 * y3 ^ 2 * (4 * y3 ^ 2)) * (x5 - x1) = ((y5 - y1) * (x1 * (4 * y3 ^ 2) - (9 * x3 ^ 4 - 8 * x3 * y3 ^ 2)) - y1 * (x5 - x1) * (4 * y3 ^ 2)) * (2 * y3) := by
  obtain ⟨e2, h2⟩ := L1
  obtain ⟨e3, h3⟩ := L2
  subst f5 e5 f4 e4 e2
  grobner (ringSteps := 100000000)
end Go.Proofs.YtmepmoalhgehhaaGreatDoor.EC
namespace Go.Proofs.YtmepmoalhgehhaaGreatDoor.EC
variable {P : Nat} [NeZero P]
theorem val_zero : (0 : Fin P).val = 0 := by simp
theorem val_one (h : NT.IsP P) : (1 : Fin P).val = 1 := by
  have h2 := h.1
  show 1 % P = 1
  exact Nat.mod_eq_of_lt (by omega)
/-- No product of two that are not 0 is 0. -/
theorem nzd (h : NT.IsP P) {a b : Fin P} (e : a * b = 0) : a = 0 ∨ b = 0 := by
  have h1 : a.val * b.val % P = 0 := by
    have := congrArg Fin.val e
    rw [Fin.val_mul, val_zero] at this
    exact this
  rcases h.euclid (Nat.dvd_of_mod_eq_zero h1) with h2 | h2
  · exact Or.inl (Fin.ext (by rw [val_zero]; exact Nat.eq_zero_of_dvd_of_lt h2 a.isLt))
  · exact Or.inr (Fin.ext (by rw [val_zero]; exact Nat.eq_zero_of_dvd_of_lt h2 b.isLt))
theorem mul_ne (h : NT.IsP P) {a b : Fin P} (ha : a ≠ 0) (hb : b ≠ 0) : a * b ≠ 0 := fun e => (nzd h e).elim ha hb
theorem cancel (h : NT.IsP P) {a b c : Fin P} (ha : a ≠ 0) (e : b * a = c * a) : b = c := by
  have h1 : (b - c) * a = 0 := by grobner
  rcases nzd h h1 with h2 | h2
  · grobner
  · exact absurd h2 ha
/-- The inverse. -/
def inv (a : Fin P) : Fin P := Fin.ofNat P (a.val ^ (P - 2))
theorem inv_mul (h : NT.IsP P) {a : Fin P} (ha : a ≠ 0) : inv a * a = 1 := by
  apply Fin.ext
  have h2 := h.1
  have hn : ¬ P ∣ a.val := fun hd => ha (Fin.ext (by rw [val_zero]; exact Nat.eq_zero_of_dvd_of_lt hd a.isLt))
  rw [Fin.val_mul, val_one h]
  show a.val ^ (P - 2) % P * a.val % P = 1
  rw [Nat.mod_mul_mod, ← Nat.pow_succ, show (P - 2).succ = P - 1 by omega]
  exact h.fermat1 _ hn
end Go.Proofs.YtmepmoalhgehhaaGreatDoor.EC
namespace Go.Proofs.YtmepmoalhgehhaaGreatDoor.EC
variable {P : Nat} [NeZero P]
/-- A point, or nothing. -/
abbrev Pt (P : Nat) := Option (Fin P × Fin P)
def On : Pt P → Prop
  | none => True
  | some (x, y) => y ^ 2 = x ^ 3 + 7
def neg : Pt P → Pt P
  | none => none
  | some (x, y) => some (x, -y)
def slope (x1 y1 x2 y2 : Fin P) : Fin P := if x1 = x2 then 3 * x1 ^ 2 * inv (2 * y1) else (y2 - y1) * inv (x2 - x1)
/-- What a slope makes of two points. -/
def third (x1 y1 x2 l : Fin P) : Pt P := some (l ^ 2 - x1 - x2, l * (x1 - (l ^ 2 - x1 - x2)) - y1)
def add : Pt P → Pt P → Pt P
  | none, b => b
  | a, none => a
  | some (x1, y1), some (x2, y2) => if x1 = x2 ∧ y2 = -y1 then none else third x1 y1 x2 (slope x1 y1 x2 y2)
theorem same_y (h : NT.IsP P) {x y1 y2 : Fin P} (h1 : y1 ^ 2 = x ^ 3 + 7) (h2 : y2 ^ 2 = x ^ 3 + 7) (ho : ¬ y2 = -y1) : y2 = y1 := by
  have e : (y2 - y1) * (y2 + y1) = 0 := by grobner
  rcases nzd h e with e | e
  · grobner
  · exact absurd (by grobner) ho
theorem twice_ne {x y1 : Fin P} (h : NT.IsP P) (h2 : (2 : Fin P) ≠ 0) (ho : ¬ (x = x ∧ y1 = -y1)) : 2 * y1 ≠ 0 := fun e => by
  rcases nzd h e with e | e
  · exact h2 e
  · exact ho ⟨rfl, by rw [e]; grobner⟩
theorem slope_line (h : NT.IsP P) (h2 : (2 : Fin P) ≠ 0) {x1 y1 x2 y2 : Fin P} (o1 : y1 ^ 2 = x1 ^ 3 + 7) (o2 : y2 ^ 2 = x2 ^ 3 + 7) (ho : ¬ (x1 = x2 ∧ y2 = -y1)) : Line x1 y1 x2 y2 (slope x1 y1 x2 y2) := by
  unfold slope
  by_cases hx : x1 = x2
  · subst hx
    rw [if_pos rfl]
    have hy := same_y h o1 o2 (fun e => ho ⟨rfl, e⟩)
    subst hy
    have hi := inv_mul h (twice_ne h h2 ho)
    generalize inv (2 * y2) = i at hi
    exact ⟨by grobner, by grobner⟩
  · rw [if_neg hx]
    have hd : x2 - x1 ≠ 0 := fun e => hx (by grobner)
    have hi := inv_mul h hd
    generalize inv (x2 - x1) = i at hi
    refine ⟨by grobner, cancel h hd (by grobner)⟩
theorem line_unique (h : NT.IsP P) (h2 : (2 : Fin P) ≠ 0) {x1 y1 x2 y2 l m : Fin P} (o1 : y1 ^ 2 = x1 ^ 3 + 7) (o2 : y2 ^ 2 = x2 ^ 3 + 7) (ho : ¬ (x1 = x2 ∧ y2 = -y1)) (L : Line x1 y1 x2 y2 l) (M : Line x1 y1 x2 y2 m) : l = m := by
  obtain ⟨a1, b1⟩ := L
  obtain ⟨a2, b2⟩ := M
  by_cases hx : x1 = x2
  · subst hx
    have hy := same_y h o1 o2 (fun e => ho ⟨rfl, e⟩)
    subst hy
    exact cancel h (twice_ne h h2 ho) (by grobner)
  · have hd : x2 - x1 ≠ 0 := fun e => hx (by grobner)
    exact cancel h hd (by grobner)
theorem add_line (h : NT.IsP P) (h2 : (2 : Fin P) ≠ 0) {x1 y1 x2 y2 l : Fin P} (o1 : y1 ^ 2 = x1 ^ 3 + 7) (o2 : y2 ^ 2 = x2 ^ 3 + 7) (ho : ¬ (x1 = x2 ∧ y2 = -y1)) (L : Line x1 y1 x2 y2 l) : add (some (x1, y1)) (some (x2, y2)) = third x1 y1 x2 l := by
  show (if x1 = x2 ∧ y2 = -y1 then none else third x1 y1 x2 (slope x1 y1 x2 y2)) = _
  rw [if_neg ho, line_unique h h2 o1 o2 ho (slope_line h h2 o1 o2 ho) L]
theorem add_opp {x1 y1 x2 y2 : Fin P} (ho : x1 = x2 ∧ y2 = -y1) : add (some (x1, y1)) (some (x2, y2)) = none := by
  show (if x1 = x2 ∧ y2 = -y1 then none else third x1 y1 x2 (slope x1 y1 x2 y2)) = _
  rw [if_pos ho]
theorem add_none (a : Pt P) : add a none = a := by cases a <;> rfl
theorem Line.swap {x1 y1 x2 y2 l : Fin P} (L : Line x1 y1 x2 y2 l) : Line x2 y2 x1 y1 l := by
  obtain ⟨a, b⟩ := L
  exact ⟨by grobner, by grobner⟩
theorem third_swap {x1 y1 x2 y2 l : Fin P} (L : Line x1 y1 x2 y2 l) : third x1 y1 x2 l = third x2 y2 x1 l := by
  obtain ⟨a, b⟩ := L
  unfold third
  have e1 : l ^ 2 - x1 - x2 = l ^ 2 - x2 - x1 := by grobner
  have e2 : l * (x1 - (l ^ 2 - x1 - x2)) - y1 = l * (x2 - (l ^ 2 - x2 - x1)) - y2 := by grobner
  rw [e2, e1]
theorem add_comm (h : NT.IsP P) (h2 : (2 : Fin P) ≠ 0) (a b : Pt P) (ha : On a) (hb : On b) : add a b = add b a := by
  rcases a with _ | ⟨x1, y1⟩
  · rw [add_none]; rfl
  · rcases b with _ | ⟨x2, y2⟩
    · rfl
    · by_cases ho : x1 = x2 ∧ y2 = -y1
      · rw [add_opp ho, add_opp ⟨ho.1.symm, by rw [ho.2]; grobner⟩]
      · have ho' : ¬ (x2 = x1 ∧ y1 = -y2) := fun e => ho ⟨e.1.symm, by rw [e.2]; grobner⟩
        have L := slope_line h h2 ha hb ho
        rw [add_line h h2 ha hb ho L, add_line h h2 hb ha ho' L.swap, third_swap L]
theorem add_on (h : NT.IsP P) (h2 : (2 : Fin P) ≠ 0) (a b : Pt P) (ha : On a) (hb : On b) : On (add a b) := by
  rcases a with _ | ⟨x1, y1⟩
  · exact hb
  · rcases b with _ | ⟨x2, y2⟩
    · exact ha
    · by_cases ho : x1 = x2 ∧ y2 = -y1
      · rw [add_opp ho]; trivial
      · have L := slope_line h h2 ha hb ho
        rw [add_line h h2 ha hb ho L]
        exact on_curve x1 y1 x2 y2 _ _ _ ha hb L rfl rfl
end Go.Proofs.YtmepmoalhgehhaaGreatDoor.EC
namespace Go.Proofs.YtmepmoalhgehhaaGreatDoor.EC
variable {P : Nat} [NeZero P]
theorem neg_on {a : Pt P} (h : On a) : On (neg a) := by
  rcases a with _ | ⟨x, y⟩
  · trivial
  · have h' : y ^ 2 = x ^ 3 + 7 := h
    show (-y) ^ 2 = x ^ 3 + 7
    grobner
theorem neg_neg' (a : Pt P) : neg (neg a) = a := by
  rcases a with _ | ⟨x, y⟩
  · rfl
  · show some (x, - -y) = some (x, y)
    have : - -y = y := by grobner
    rw [this]
theorem add_neg (a : Pt P) : add a (neg a) = none := by
  rcases a with _ | ⟨x, y⟩
  · rfl
  · exact add_opp ⟨rfl, rfl⟩
theorem Line.neg {x1 y1 x2 y2 l : Fin P} (L : Line x1 y1 x2 y2 l) : Line x1 (-y1) x2 (-y2) (-l) := by
  obtain ⟨a, b⟩ := L
  exact ⟨by grobner, by grobner⟩
theorem neg_add (h : NT.IsP P) (h2 : (2 : Fin P) ≠ 0) {a b : Pt P} (ha : On a) (hb : On b) : neg (add a b) = add (neg a) (neg b) := by
  rcases a with _ | ⟨x1, y1⟩
  · rfl
  · rcases b with _ | ⟨x2, y2⟩
    · rfl
    · by_cases ho : x1 = x2 ∧ y2 = -y1
      · rw [add_opp ho]
        exact (add_opp ⟨ho.1, by rw [ho.2]⟩).symm
      · have L := slope_line h h2 ha hb ho
        have ho' : ¬ (x1 = x2 ∧ -y2 = - -y1) := fun e => ho ⟨e.1, by have := e.2; grobner⟩
        rw [add_line h h2 ha hb ho L]
        refine Eq.trans ?_ (add_line h h2 (neg_on (a := some (x1, y1)) ha) (neg_on (a := some (x2, y2)) hb) ho' L.neg).symm
        generalize slope x1 y1 x2 y2 = l
        unfold third
        show some (l ^ 2 - x1 - x2, -(l * (x1 - (l ^ 2 - x1 - x2)) - y1)) = some ((-l) ^ 2 - x1 - x2, -l * (x1 - ((-l) ^ 2 - x1 - x2)) - -y1)
        have e1 : (-l) ^ 2 = l ^ 2 := by grobner
        rw [e1]
        have e2 : -(l * (x1 - (l ^ 2 - x1 - x2)) - y1) = -l * (x1 - (l ^ 2 - x1 - x2)) - -y1 := by grobner
        rw [e2]
theorem Line.back {x2 y2 x3 y3 l x5 y5 : Fin P} (L : Line x2 y2 x3 y3 l) (e5 : x5 = l ^ 2 - x2 - x3) (f5 : y5 = l * (x2 - x5) - y2) : Line x2 (-y2) x5 y5 (-l) := by
  obtain ⟨a, b⟩ := L
  subst f5 e5 a
  exact ⟨by grobner, by grobner (ringSteps := 10000000)⟩
theorem back_x {x2 x3 x5 l : Fin P} (e5 : x5 = l ^ 2 - x2 - x3) : (-l) ^ 2 - x2 - x5 = x3 := by
  subst e5
  grobner
theorem back_y {x2 x3 y2 y3 l : Fin P} (a : y3 = y2 + l * (x3 - x2)) : -l * (x2 - x3) - -y2 = y3 := by
  subst a
  grobner
theorem no_y {x y : Fin P} (z : y = 0) (hb : y ^ 2 = x ^ 3 + 7) : x ^ 3 + 7 = 0 := by
  have e : y * y = 0 := by rw [z]; exact Fin.ext (by rw [Fin.val_mul, val_zero]; simp)
  grobner
/-- -B + (B + C) is C. -/
theorem neg_add_add (h : NT.IsP P) (h2 : (2 : Fin P) ≠ 0) (h7 : ∀ x : Fin P, x ^ 3 + 7 ≠ 0) {b c : Pt P} (hb : On b) (hc : On c) : add (neg b) (add b c) = c := by
  rcases b with _ | ⟨x2, y2⟩
  · rfl
  · rcases c with _ | ⟨x3, y3⟩
    · rw [add_none]
      exact add_opp ⟨rfl, by grobner⟩
    · have hb' : y2 ^ 2 = x2 ^ 3 + 7 := hb
      have hc' : y3 ^ 2 = x3 ^ 3 + 7 := hc
      by_cases ho : x2 = x3 ∧ y3 = -y2
      · rw [add_opp ho, add_none, ho.1, ho.2]
        rfl
      · have L := slope_line h h2 hb hc ho
        have hon := on_curve x2 y2 x3 y3 _ _ _ hb hc L rfl rfl
        rw [add_line h h2 hb hc ho L]
        generalize slope x2 y2 x3 y3 = l at L hon
        obtain ⟨x5, e5⟩ : ∃ x5, x5 = l ^ 2 - x2 - x3 := ⟨_, rfl⟩
        unfold third
        rw [← e5] at hon ⊢
        obtain ⟨y5, f5⟩ : ∃ y5, y5 = l * (x2 - x5) - y2 := ⟨_, rfl⟩
        rw [← f5] at hon ⊢
        have M := L.back e5 f5
        have a := L.go
        clear L
        have ho' : ¬ (x2 = x5 ∧ y5 = - -y2) := fun e => by
          obtain ⟨u, v⟩ := e
          have z : 2 * y2 = 0 := by
            clear hon hb' hc' h7 M ho a e5 h2
            grobner
          rcases nzd h z with z | z
          · exact h2 z
          · exact h7 x2 (no_y z hb')
        refine (add_line h h2 (neg_on (a := some (x2, y2)) hb) hon ho' M).trans ?_
        unfold third
        rw [back_x e5, back_y a]
end Go.Proofs.YtmepmoalhgehhaaGreatDoor.EC
namespace Go.Proofs.YtmepmoalhgehhaaGreatDoor.EC
variable {P : Nat} [NeZero P]
theorem gen_x (h : NT.IsP P) {x1 x3 x4 x5 y1 y3 y4 y5 l3 l4 : Fin P} (d3 : x4 - x3 ≠ 0) (d4 : x5 - x1 ≠ 0) (g3 : y4 - y3 = l3 * (x4 - x3)) (g4 : y5 - y1 = l4 * (x5 - x1))
    (hx : ((y4 - y3) ^ 2 - (x4 + x3) * (x4 - x3) ^ 2) * (x5 - x1) ^ 2 = ((y5 - y1) ^ 2 - (x1 + x5) * (x5 - x1) ^ 2) * (x4 - x3) ^ 2) : l3 ^ 2 - x4 - x3 = l4 ^ 2 - x1 - x5 := by
  rw [g3, g4] at hx
  generalize x4 - x3 = a at d3 hx
  generalize x5 - x1 = b at d4 hx
  clear g3 g4
  refine cancel h (mul_ne h (mul_ne h d3 d3) (mul_ne h d4 d4)) ?_
  grobner
theorem gen_y (h : NT.IsP P) {x1 x3 x4 x5 y1 y3 y4 y5 l3 l4 X : Fin P} (d3 : x4 - x3 ≠ 0) (d4 : x5 - x1 ≠ 0) (g3 : y4 - y3 = l3 * (x4 - x3)) (g4 : y5 - y1 = l4 * (x5 - x1)) (hX : l3 ^ 2 - x4 - x3 = X)
    (hy : ((y4 - y3) ^ 2 - (x3 + x4) * (x4 - x3) ^ 2) * ((y5 - y1) * (x4 - x3) - (y4 - y3) * (x5 - x1)) + (x4 - x3) ^ 2 * (((y4 - y3) * x3 - y3 * (x4 - x3)) * (x5 - x1) - ((y5 - y1) * x1 - y1 * (x5 - x1)) * (x4 - x3)) = 0) : l3 * (x4 - X) - y4 = l4 * (x1 - X) - y1 := by
  rw [g3, g4] at hy
  have e4 : y4 = y3 + l3 * (x4 - x3) := by clear hy hX; grobner
  have e5 : x4 + x3 = l3 ^ 2 - X := by clear hy; grobner
  rw [e4]
  obtain ⟨a, ha⟩ : ∃ a, x4 - x3 = a := ⟨_, rfl⟩
  rw [ha] at d3 hy ⊢
  generalize x5 - x1 = b at d4 hy
  have e6 : (l4 * (x1 - X) - y1 - (l3 * (x3 - X) - y3)) * (a * a * a * b) = 0 := by
    have e7 : x3 + x4 = l3 ^ 2 - X := by rw [← e5]; clear hy; grobner
    rw [e7] at hy
    clear e5 e7 e4 hX g3 g4 ha
    grobner
  rcases nzd h e6 with e | e
  · have e8 : x4 = x3 + a := by clear hy e6 e e5 e4 hX g3 g4; grobner
    rw [e8]
    clear hy e6 e5 e4 hX g3 g4 ha e8
    grobner
  · exact absurd e (mul_ne h (mul_ne h (mul_ne h d3 d3) d3) d4)
theorem dbl_x (h : NT.IsP P) {x1 x3 x5 y1 y3 y5 l3 l4 : Fin P} (t3 : 2 * y3 ≠ 0) (d4 : x5 - x1 ≠ 0) (g3 : l3 * (2 * y3) = 3 * x3 ^ 2) (g4 : y5 - y1 = l4 * (x5 - x1))
    (hx : (9 * x3 ^ 4 - 8 * x3 * y3 ^ 2) * (x5 - x1) ^ 2 = ((y5 - y1) ^ 2 - (x1 + x5) * (x5 - x1) ^ 2) * (4 * y3 ^ 2)) : l3 ^ 2 - x3 - x3 = l4 ^ 2 - x1 - x5 := by
  rw [g4] at hx
  generalize x5 - x1 = b at d4 hx
  clear g4
  refine cancel h (mul_ne h (mul_ne h t3 t3) (mul_ne h d4 d4)) ?_
  have e : 9 * x3 ^ 4 = (l3 * (2 * y3)) * (l3 * (2 * y3)) := by rw [g3]; clear hx g3; grobner
  rw [e] at hx
  clear e g3
  grobner
theorem dbl_y (h : NT.IsP P) {x1 x3 x5 y1 y3 y5 l3 l4 X : Fin P} (t3 : 2 * y3 ≠ 0) (d4 : x5 - x1 ≠ 0) (g3 : l3 * (2 * y3) = 3 * x3 ^ 2) (g4 : y5 - y1 = l4 * (x5 - x1)) (hX : l3 ^ 2 - x3 - x3 = X)
    (hy : (3 * x3 ^ 2 * (x3 * (4 * y3 ^ 2) - (9 * x3 ^ 4 - 8 * x3 * y3 ^ 2)) - 2 * y3 ^ 2 * (4 * y3 ^ 2)) * (x5 - x1) = ((y5 - y1) * (x1 * (4 * y3 ^ 2) - (9 * x3 ^ 4 - 8 * x3 * y3 ^ 2)) - y1 * (x5 - x1) * (4 * y3 ^ 2)) * (2 * y3)) : l3 * (x3 - X) - y3 = l4 * (x1 - X) - y1 := by
  rw [g4] at hy
  generalize x5 - x1 = b at d4 hy
  clear g4
  have e : 9 * x3 ^ 4 - 8 * x3 * y3 ^ 2 = X * (4 * y3 ^ 2) := by
    have e1 : 9 * x3 ^ 4 = (l3 * (2 * y3)) * (l3 * (2 * y3)) := by rw [g3]; clear hy g3; grobner
    rw [e1, ← hX]
    clear hy e1 g3 hX
    grobner
  rw [e, ← g3] at hy
  clear e g3 hX
  refine cancel h (mul_ne h (mul_ne h (mul_ne h t3 t3) t3) d4) ?_
  grobner
end Go.Proofs.YtmepmoalhgehhaaGreatDoor.EC
namespace Go.Proofs.YtmepmoalhgehhaaGreatDoor.EC
variable {P : Nat} [NeZero P]
theorem sub_ne {a b : Fin P} (h : ¬ a = b) : a - b ≠ 0 := fun e => h (by grobner)
theorem Line.run {x1 y1 x2 y2 l : Fin P} (L : Line x1 y1 x2 y2 l) : y2 - y1 = l * (x2 - x1) ∧ y1 - y2 = l * (x1 - x2) := by
  obtain ⟨a, -⟩ := L
  exact ⟨by grobner, by grobner⟩
theorem Line.at {x y l : Fin P} (L : Line x y x y l) : l * (2 * y) = 3 * x ^ 2 := by
  obtain ⟨-, b⟩ := L
  grobner
theorem sq_mul {m l d : Fin P} (s : m ^ 2 = l ^ 2) : (m * d) ^ 2 = (l * d) ^ 2 := by grobner
theorem four_of {y1 y2 : Fin P} (s : (y1 - -y2) ^ 2 = (y1 - y2) ^ 2) : 4 * (y1 * y2) = 0 := by grobner
theorem m_sq {m l x1 x2 x3 : Fin P} (r : m ^ 2 - x2 - x1 = x3) (e : x3 = l ^ 2 - x1 - x2) : m ^ 2 = l ^ 2 := by grobner
theorem sw_e {x l a b : Fin P} (e : x = l ^ 2 - a - b) : x = l ^ 2 - b - a := by grobner
theorem sw_f {x2 y2 x3 y3 x5 y5 l : Fin P} (L : Line x2 y2 x3 y3 l) (f : y5 = l * (x2 - x5) - y2) : y5 = l * (x3 - x5) - y3 := by
  obtain ⟨a, -⟩ := L
  grobner
theorem four_ne (h : NT.IsP P) (h2 : (2 : Fin P) ≠ 0) : (4 : Fin P) ≠ 0 := fun e => by
  have : (2 : Fin P) * 2 = 0 := by grobner
  rcases nzd h this with e | e <;> exact h2 e
theorem opp_swap {y z : Fin P} (e : y = -z) : z = -y := by grobner
/-- Where no sum is nothing, and A is not of the x of B + C. -/
theorem assoc_far (h : NT.IsP P) (h2 : (2 : Fin P) ≠ 0) {x1 y1 x2 y2 x3 y3 l1 l2 x4 y4 x5 y5 : Fin P} (o3 : y3 ^ 2 = x3 ^ 3 + 7) (o1 : y1 ^ 2 = x1 ^ 3 + 7)
    (L1 : Line x1 y1 x2 y2 l1) (L2 : Line x2 y2 x3 y3 l2) (e4 : x4 = l1 ^ 2 - x1 - x2) (f4 : y4 = l1 * (x1 - x4) - y1) (e5 : x5 = l2 ^ 2 - x2 - x3) (f5 : y5 = l2 * (x2 - x5) - y2)
    (o4 : y4 ^ 2 = x4 ^ 3 + 7) (o5 : y5 ^ 2 = x5 ^ 3 + 7) (h3 : ¬ (x4 = x3 ∧ y3 = -y4)) (h4 : ¬ (x1 = x5 ∧ y5 = -y1)) (hx : ¬ x5 = x1) :
    add (some (x4, y4)) (some (x3, y3)) = add (some (x1, y1)) (some (x5, y5)) := by
  have L3 := slope_line h h2 o4 o3 h3
  have L4 := slope_line h h2 o1 o5 h4
  rw [add_line h h2 o4 o3 h3 L3, add_line h h2 o1 o5 h4 L4]
  generalize slope x4 y4 x3 y3 = l3 at L3
  generalize slope x1 y1 x5 y5 = l4 at L4
  unfold third
  by_cases hd : x4 = x3
  · have hy := same_y h o4 (hd ▸ o3) (fun e => h3 ⟨hd, e⟩)
    subst hd hy
    have t := twice_ne (x := x4) h h2 h3
    have hX := dbl_x h t (sub_ne hx) L3.at L4.run.1 (assoc_x2 x1 y1 x2 x4 l1 l2 y2 y3 x5 y5 L1 L2 e4 f4 e5 f5)
    have hY := dbl_y h t (sub_ne hx) L3.at L4.run.1 rfl (assoc_y2 x1 y1 x2 x4 l1 l2 y2 y3 x5 y5 L1 L2 e4 f4 e5 f5)
    rw [hY, hX]
  · have hX := gen_x h (sub_ne hd) (sub_ne hx) L3.run.2 L4.run.1 (assoc_x x1 y1 x2 x3 l1 l2 y2 y3 x4 y4 x5 y5 L1 L2 e4 f4 e5 f5)
    have hY := gen_y h (sub_ne hd) (sub_ne hx) L3.run.2 L4.run.1 rfl (assoc_y x1 y1 x2 x3 l1 l2 y2 y3 x4 y4 x5 y5 L1 L2 e4 f4 e5 f5)
    rw [hY, hX]
/-- THE GROUP LAW: sums do not hang on brackets. -/
theorem add_assoc (h : NT.IsP P) (h2 : (2 : Fin P) ≠ 0) (h7 : ∀ x : Fin P, x ^ 3 + 7 ≠ 0) (a b c : Pt P) (ha : On a) (hb : On b) (hc : On c) : add (add a b) c = add a (add b c) := by
  have comm := fun (a b : Pt P) (ha : On a) (hb : On b) => add_comm h h2 a b ha hb
  have hab := add_on h h2 a b ha hb
  have hbc := add_on h h2 b c hb hc
  have n1 : ∀ {u v : Pt P}, On u → On v → add (neg u) (add u v) = v := fun hu hv => neg_add_add h h2 h7 hu hv
  by_cases z1 : b = neg a
  · subst z1
    rw [add_neg]
    have := n1 hb hc
    rw [neg_neg'] at this
    exact this.symm
  by_cases z2 : c = neg b
  · subst z2
    rw [add_neg, add_none, comm _ _ hab hc, comm a b ha hb]
    exact n1 hb ha
  by_cases z3 : c = neg (add a b)
  · subst z3
    rw [add_neg]
    have e : add b (neg (add a b)) = neg a := by
      rw [comm a b ha hb, neg_add h h2 hb ha]
      have := n1 (neg_on hb) (neg_on ha)
      rw [neg_neg'] at this
      exact this
    rw [e, add_neg]
  by_cases z4 : add b c = neg a
  · rw [z4, add_neg]
    have e : a = neg (add b c) := by rw [z4, neg_neg']
    have e2 : add a b = neg c := by
      rw [comm a b ha hb, e, neg_add h h2 hb hc]
      have := n1 (neg_on hb) (neg_on hc)
      rw [neg_neg'] at this
      exact this
    rw [e2, comm _ _ (neg_on hc) hc, add_neg]
  rcases a with _ | ⟨x1, y1⟩
  · rfl
  rcases b with _ | ⟨x2, y2⟩
  · rfl
  rcases c with _ | ⟨x3, y3⟩
  · rw [add_none, add_none]
  have w1 : ¬ (x1 = x2 ∧ y2 = -y1) := fun e => z1 (by rw [e.1, e.2]; rfl)
  have w2 : ¬ (x2 = x3 ∧ y3 = -y2) := fun e => z2 (by rw [e.1, e.2]; rfl)
  have L1 := slope_line h h2 ha hb w1
  have L2 := slope_line h h2 hb hc w2
  have q1 := add_line h h2 ha hb w1 L1
  have q2 := add_line h h2 hb hc w2 L2
  rw [q1] at hab z3 ⊢
  rw [q2] at hbc z4 ⊢
  generalize slope x1 y1 x2 y2 = l1 at L1 q1 hab z3 ⊢
  generalize slope x2 y2 x3 y3 = l2 at L2 q2 hbc z4 ⊢
  unfold third at hab hbc z3 z4 q1 q2 ⊢
  obtain ⟨x4, e4⟩ : ∃ x4, x4 = l1 ^ 2 - x1 - x2 := ⟨_, rfl⟩
  obtain ⟨x5, e5⟩ : ∃ x5, x5 = l2 ^ 2 - x2 - x3 := ⟨_, rfl⟩
  rw [← e4] at hab z3 q1 ⊢
  rw [← e5] at hbc z4 q2 ⊢
  obtain ⟨y4, f4⟩ : ∃ y4, y4 = l1 * (x1 - x4) - y1 := ⟨_, rfl⟩
  obtain ⟨y5, f5⟩ : ∃ y5, y5 = l2 * (x2 - x5) - y2 := ⟨_, rfl⟩
  rw [← f4] at hab z3 q1 ⊢
  rw [← f5] at hbc z4 q2 ⊢
  have w3 : ¬ (x4 = x3 ∧ y3 = -y4) := fun e => z3 (by rw [e.2, ← e.1]; rfl)
  have w4 : ¬ (x1 = x5 ∧ y5 = -y1) := fun e => z4 (by rw [e.2, ← e.1]; rfl)
  by_cases hx : x5 = x1
  · have hy : y5 = y1 := by
      have o5 : y5 ^ 2 = x5 ^ 3 + 7 := hbc
      rw [hx] at o5
      exact same_y h ha o5 (fun e => w4 ⟨hx.symm, e⟩)
    by_cases hd : x4 = x3
    · exfalso
      have hy4 : y3 = y4 := by
        have o4 : y4 ^ 2 = x4 ^ 3 + 7 := hab
        exact same_y h o4 (hd ▸ hc) (fun e => w3 ⟨hd, e⟩)
      have r1 := n1 hb hc
      rw [q2, hx, hy] at r1
      rw [hd, ← hy4] at q1
      have hne : ¬ x1 = x2 := fun e => by
        subst e
        have hyy := same_y h ha hb (fun e => w1 ⟨rfl, e⟩)
        subst hyy
        rw [comm _ _ (neg_on hb) ha, add_neg] at r1
        cases r1
      have u1 : ¬ (x2 = x1 ∧ y1 = - -y2) := fun e => hne e.1.symm
      have M := slope_line h h2 (neg_on (a := some (x2, y2)) hb) ha u1
      have r2 := add_line h h2 (neg_on (a := some (x2, y2)) hb) ha u1 M
      have r3 : third x2 (-y2) x1 (slope x2 (-y2) x1 y1) = some (x3, y3) := r2.symm.trans r1
      generalize slope x2 (-y2) x1 y1 = m at M r3
      unfold third at r3
      have r4 : m ^ 2 - x2 - x1 = x3 := by injection r3 with r3; injection r3
      have k1 := M.run.1
      have k2 := L1.run.2
      rw [hd] at e4
      have s2 := sq_mul (d := x1 - x2) (m_sq r4 e4)
      rw [← k1, ← k2] at s2
      have k3 := four_of s2
      have hne0 : ∀ {x y : Fin P}, y ^ 2 = x ^ 3 + 7 → y ≠ 0 := fun o z => h7 _ (no_y z o)
      rcases nzd h k3 with e | e
      · exact four_ne h h2 e
      · rcases nzd h e with e | e
        · exact hne0 ha e
        · exact hne0 hb e
    · -- the same, from the other side
      have hF := assoc_far h h2 ha hc L2.swap L1.swap (sw_e e5) (sw_f L2 f5) (sw_e e4) (sw_f L1 f4) hbc hab (fun e => w4 ⟨e.1.symm, opp_swap e.2⟩) (fun e => w3 ⟨e.1.symm, opp_swap e.2⟩) hd
      rw [comm _ _ hab hc, comm _ _ ha hbc]
      exact hF.symm
  · exact assoc_far h h2 hc ha L1 L2 e4 f4 e5 f5 hab hbc w3 w4 hx
end Go.Proofs.YtmepmoalhgehhaaGreatDoor.EC
set_option linter.unusedVariables false
set_option linter.unusedSimpArgs false
namespace Go.Proofs.YtmepmoalhgehhaaGreatDoor.EC
variable {P : Nat} [NeZero P]
/-- What the curve's field has. -/
structure Cur (P : Nat) [NeZero P] : Prop where
  pr : NT.IsP P
  two : (2 : Fin P) ≠ 0
  sev : ∀ x : Fin P, x ^ 3 + 7 ≠ 0
theorem Cur.y_ne (C : Cur P) {a b : Fin P} (h : On (some (a, b))) : b ≠ 0 := fun e => C.sev a (no_y e h)
theorem Cur.opp_ne (C : Cur P) {a b : Fin P} (h : On (some (a, b))) : ¬ (a = a ∧ b = -b) := fun e => by
  have h1 : 2 * b = 0 := by
    have := e.2
    grobner
  exact mul_ne C.pr C.two (C.y_ne h) h1
/-- Nothing is nothing; others are (x / z^2, y / z^3). -/
def Jac (x y z : Fin P) : Pt P → Prop
  | none => z = 0
  | some (a, b) => z ≠ 0 ∧ x = a * z ^ 2 ∧ y = b * z ^ 3
/-- Nothing is nothing; others are (x / z, y / z). -/
def Frac (x y z : Fin P) : Pt P → Prop
  | none => z = 0
  | some (a, b) => z ≠ 0 ∧ x = a * z ∧ y = b * z
/-- Nothing is (0, 0). -/
def Pair (x y : Fin P) : Pt P → Prop
  | none => x = 0 ∧ y = 0
  | some (a, b) => x = a ∧ y = b
def dbl (n : Fin P) : Fin P := n + n
def twB (x y : Fin P) : Fin P := dbl (dbl (x * (y * y)))
def twS (x : Fin P) : Fin P := dbl (x * x) + x * x
def twX (x y : Fin P) : Fin P := twS x * twS x - dbl (twB x y)
def twY (x y : Fin P) : Fin P := twS x * (twB x y - twX x y) - dbl (dbl (dbl (y * y * (y * y))))
def twZ (y z : Fin P) : Fin P := dbl (y * z)
theorem tw_x {a b l x y z : Fin P} (g : l * (2 * b) = 3 * a ^ 2) (ex : x = a * z ^ 2) (ey : y = b * z ^ 3) : twX x y = (l ^ 2 - a - a) * twZ y z ^ 2 := by
  subst ex ey
  unfold twX twS twB twZ dbl
  have h1 : (l * (2 * b)) ^ 2 = (3 * a ^ 2) ^ 2 := by rw [g]
  grobner (ringSteps := 100000000)
theorem tw_y {a b l x y z X : Fin P} (g : l * (2 * b) = 3 * a ^ 2) (ex : x = a * z ^ 2) (ey : y = b * z ^ 3) (hX : twX x y = X * twZ y z ^ 2) : twY x y = (l * (a - X) - b) * twZ y z ^ 3 := by
  subst ex ey
  unfold twY
  rw [hX]
  clear hX
  unfold twS twB twZ dbl
  grobner (ringSteps := 100000000)
theorem tw_z (C : Cur P) {b y z : Fin P} (hb : b ≠ 0) (hz : z ≠ 0) (ey : y = b * z ^ 3) : twZ y z ≠ 0 := fun e => by
  have h1 : 2 * b * (z * z * (z * z)) = 0 := by
    unfold twZ dbl at e
    subst ey
    grobner
  exact mul_ne C.pr (mul_ne C.pr C.two hb) (mul_ne C.pr (mul_ne C.pr hz hz) (mul_ne C.pr hz hz)) h1
theorem Jac.twice (C : Cur P) {x y z : Fin P} {p : Pt P} (h : Jac x y z p) (hp : On p) : Jac (twX x y) (twY x y) (twZ y z) (add p p) := by
  match p, h, hp with
  | none, h, _ =>
    have h0 : z = 0 := h
    show twZ y z = 0
    subst h0
    unfold twZ dbl
    grobner
  | some (a, b), h, hp =>
    obtain ⟨hz, ex, ey⟩ := h
    have ho := C.opp_ne hp
    have L := slope_line C.pr C.two hp hp ho
    rw [add_line C.pr C.two hp hp ho L]
    have hx := tw_x L.at ex ey
    exact ⟨tw_z C (C.y_ne hp) hz ey, hx, tw_y L.at ex ey hx⟩
def plAx (x1 z2 : Fin P) : Fin P := x1 * (z2 * z2)
def plAy (y1 z2 : Fin P) : Fin P := y1 * (z2 * z2) * z2
def plX (ax ay bx bY : Fin P) : Fin P := (bY - ay) * (bY - ay) - (bx - ax) * (bx - ax) * (bx - ax) - dbl ((bx - ax) * (bx - ax) * ax)
def plY (ax ay bx bY : Fin P) : Fin P := (bY - ay) * ((bx - ax) * (bx - ax) * ax - plX ax ay bx bY) - (bx - ax) * (bx - ax) * (bx - ax) * ay
def plZ (z1 z2 ax bx : Fin P) : Fin P := z1 * z2 * (bx - ax)
theorem pl_x {a b c d l t ax ay bx bY Z : Fin P} (g : d - b = l * (c - a)) (e1 : ax = a * t ^ 2) (e2 : ay = b * t ^ 3) (e3 : bx = c * t ^ 2) (e4 : bY = d * t ^ 3) (eZ : Z = t * (bx - ax)) : plX ax ay bx bY = (l ^ 2 - a - c) * Z ^ 2 := by
  have e5 : d = b + l * (c - a) := by grobner
  subst e5 e1 e2 e3 e4 eZ
  unfold plX dbl
  clear g
  grobner (ringSteps := 100000000)
theorem pl_y {a b c d l t ax ay bx bY Z X : Fin P} (g : d - b = l * (c - a)) (e1 : ax = a * t ^ 2) (e2 : ay = b * t ^ 3) (e3 : bx = c * t ^ 2) (e4 : bY = d * t ^ 3) (eZ : Z = t * (bx - ax)) (hX : plX ax ay bx bY = X * Z ^ 2) : plY ax ay bx bY = (l * (a - X) - b) * Z ^ 3 := by
  unfold plY
  rw [hX]
  have e5 : d = b + l * (c - a) := by grobner
  clear hX
  subst e5 e1 e2 e3 e4 eZ
  clear g
  grobner (ringSteps := 100000000)
theorem pl_same (C : Cur P) {a c t : Fin P} {k : Nat} (ht : t ≠ 0) (e : a * t ^ k = c * t ^ k) : a = c := by
  have hk : ∀ k : Nat, t ^ k ≠ 0 := fun k => by
    induction k with
    | zero => intro h; exact ht (by have h2 : (1 : Fin P) = 0 := by { rw [← h]; grind }; calc t = t * 1 := by grobner
                                    _ = 0 := by rw [h2]; grobner)
    | succ k ih => intro h; exact mul_ne C.pr ih ht (by rw [← h]; grind)
  exact cancel C.pr (hk k) e
theorem Jac.plus (C : Cur P) {x1 y1 z1 x2 y2 z2 : Fin P} {p q : Pt P} (h : Jac x1 y1 z1 p) (hp : On p) (h' : Jac x2 y2 z2 q) (hq : On q) (n1 : z1 ≠ 0) (n2 : z2 ≠ 0) :
    (plAx x1 z2 = plAx x2 z1 ∧ plAy y1 z2 = plAy y2 z1 ∧ add p q = add p p) ∨
    (¬ (plAx x1 z2 = plAx x2 z1 ∧ plAy y1 z2 = plAy y2 z1) ∧ Jac (plX (plAx x1 z2) (plAy y1 z2) (plAx x2 z1) (plAy y2 z1)) (plY (plAx x1 z2) (plAy y1 z2) (plAx x2 z1) (plAy y2 z1)) (plZ z1 z2 (plAx x1 z2) (plAx x2 z1)) (add p q)) := by
  match p, q, h, hp, h', hq with
  | none, _, h, _, _, _ => exact absurd h n1
  | some (a, b), none, _, _, h, _ => exact absurd h n2
  | some (a, b), some (c, d), h, hp, h', hq =>
    obtain ⟨-, ex1, ey1⟩ := h
    obtain ⟨-, ex2, ey2⟩ := h'
    have ht := mul_ne C.pr n1 n2
    have e1 : plAx x1 z2 = a * (z1 * z2) ^ 2 := by subst ex1; unfold plAx; clear hp hq; grobner
    have e2 : plAy y1 z2 = b * (z1 * z2) ^ 3 := by subst ey1; unfold plAy; clear hp hq; grobner
    have e3 : plAx x2 z1 = c * (z1 * z2) ^ 2 := by subst ex2; unfold plAx; clear hp hq; grobner
    have e4 : plAy y2 z1 = d * (z1 * z2) ^ 3 := by subst ey2; unfold plAy; clear hp hq; grobner
    by_cases hs : plAx x1 z2 = plAx x2 z1 ∧ plAy y1 z2 = plAy y2 z1
    · refine Or.inl ⟨hs.1, hs.2, ?_⟩
      have h1 : a = c := pl_same C ht (by rw [← e1, ← e3]; exact hs.1)
      have h2 : b = d := pl_same C ht (by rw [← e2, ← e4]; exact hs.2)
      rw [h1, h2]
    · refine Or.inr ⟨hs, ?_⟩
      by_cases hac : a = c
      · have hd : d = -b := Classical.byContradiction fun hn => hs ⟨by rw [e1, e3, hac], by
          have := same_y C.pr (x := a) hp (by rw [hac]; exact hq) hn
          rw [e2, e4, this]⟩
        rw [add_opp ⟨hac, hd⟩]
        show plZ _ _ _ _ = 0
        rw [e1, e3, hac]
        unfold plZ
        clear hp hq
        grobner
      · have ho : ¬ (a = c ∧ d = -b) := fun h => hac h.1
        have L := slope_line C.pr C.two hp hq ho
        rw [add_line C.pr C.two hp hq ho L]
        have hZ : plZ z1 z2 (plAx x1 z2) (plAx x2 z1) = z1 * z2 * (plAx x2 z1 - plAx x1 z2) := rfl
        have hx := pl_x L.run.1 e1 e2 e3 e4 hZ
        refine ⟨?_, hx, pl_y L.run.1 e1 e2 e3 e4 hZ hx⟩
        rw [hZ]
        refine mul_ne C.pr ht (fun h => hac ?_)
        exact pl_same C (k := 2) ht (by rw [← e1, ← e3]; clear hp hq L hx; grobner)
theorem Jac.zero (C : Cur P) {x y z : Fin P} {p : Pt P} (h : Jac x y z p) (hz : z = 0) : p = none := by
  match p, h with
  | none, _ => rfl
  | some (a, b), h => exact absurd hz h.1
theorem Jac.neg {x y z : Fin P} {p : Pt P} (h : Jac x y z p) : Jac x (0 - y) z (neg p) := by
  match p, h with
  | none, h => exact h
  | some (a, b), h => exact ⟨h.1, h.2.1, by have := h.2.2; show 0 - y = -b * z ^ 3; grobner⟩
theorem inv_zero (C : Cur P) : inv (0 : Fin P) = 0 := by
  apply Fin.ext
  have h2 := C.pr.1
  show (0 : Fin P).val ^ (P - 2) % P = _
  rw [val_zero]
  by_cases h : P = 2
  · exact absurd (Fin.ext (by rw [val_zero]; show 2 % P = 0; rw [h])) C.two
  · rw [Nat.zero_pow (by omega), Nat.zero_mod]
theorem Jac.pair (C : Cur P) {x y z : Fin P} {p : Pt P} (h : Jac x y z p) : Pair (x * (inv z * inv z)) (y * (inv z * inv z) * inv z) p := by
  match p, h with
  | none, h =>
    have h0 : z = 0 := h
    subst h0
    rw [inv_zero C]
    exact ⟨by grobner, by grobner⟩
  | some (a, b), h =>
    have hi := inv_mul C.pr h.1
    obtain ⟨-, ex, ey⟩ := h
    generalize inv z = i at hi ⊢
    subst ex ey
    exact ⟨by grobner, by grobner⟩
theorem Pair.jac (C : Cur P) {x y : Fin P} {p : Pt P} (h : Pair x y p) (hn : ¬ (x = 0 ∧ y = 0)) : Jac x y 1 p := by
  match p, h with
  | none, h => exact absurd h hn
  | some (a, b), h =>
    obtain ⟨ex, ey⟩ := h
    subst ex ey
    refine ⟨fun e => ?_, by grobner, by grobner⟩
    have := congrArg Fin.val e
    rw [val_zero, val_one C.pr] at this
    omega
theorem Pair.nothing (C : Cur P) {x y : Fin P} {p : Pt P} (h : Pair x y p) (hp : On p) (hn : x = 0 ∧ y = 0) : p = none := by
  match p, h, hp with
  | none, _, _ => rfl
  | some (a, b), h, hp =>
    obtain ⟨ex, ey⟩ := h
    exact absurd (by rw [← ey]; exact hn.2) (C.y_ne hp)
theorem Pair.neg {x y : Fin P} {p : Pt P} (h : Pair x y p) : Pair x (0 - y) (neg p) := by
  match p, h with
  | none, h => exact ⟨h.1, by rw [h.2]; grobner⟩
  | some (a, b), h => exact ⟨h.1, by rw [h.2]; grobner⟩
/- The reference's fractions. -/
def frT (d e w v2 : Fin P) : Fin P := d * d * w - e * e * e - (v2 + v2) * (e * e)
theorem fr_x {a b c d l w v v2 u u2 : Fin P} (g : d - b = l * (c - a)) (e1 : v2 = a * w) (e2 : u2 = b * w) (e3 : v = c * w) (e4 : u = d * w) : (v - v2) * frT (u - u2) (v - v2) w v2 = (l ^ 2 - a - c) * ((v - v2) * (v - v2) * (v - v2) * w) := by
  have e5 : d = b + l * (c - a) := by grobner
  subst e5 e1 e2 e3 e4
  clear g
  unfold frT
  grobner (ringSteps := 100000000)
theorem fr_y {a b c d l w v v2 u u2 : Fin P} (g : d - b = l * (c - a)) (e1 : v2 = a * w) (e2 : u2 = b * w) (e3 : v = c * w) (e4 : u = d * w) :
    (u - u2) * (v2 * ((v - v2) * (v - v2)) - frT (u - u2) (v - v2) w v2) - u2 * ((v - v2) * (v - v2) * (v - v2)) = (l * (a - (l ^ 2 - a - c)) - b) * ((v - v2) * (v - v2) * (v - v2) * w) := by
  have e5 : d = b + l * (c - a) := by grobner
  subst e5 e1 e2 e3 e4
  clear g
  unfold frT
  grobner (ringSteps := 100000000)
def fdD (x : Fin P) : Fin P := x * x + x * x + x * x
def fdE (y z : Fin P) : Fin P := (y + y) * z
def fdT (x y z : Fin P) : Fin P := fdD x * fdD x * z - (x + x) * (fdE y z * fdE y z)
theorem fd_x {a b l x y z : Fin P} (g : l * (2 * b) = 3 * a ^ 2) (ex : x = a * z) (ey : y = b * z) : fdE y z * fdT x y z = (l ^ 2 - a - a) * (fdE y z * fdE y z * fdE y z * z) := by
  subst ex ey
  have h1 : (l * (2 * b)) ^ 2 = (3 * a ^ 2) ^ 2 := by rw [g]
  unfold fdT fdD fdE
  grobner (ringSteps := 100000000)
theorem fd_t {a b l x y z : Fin P} (g : l * (2 * b) = 3 * a ^ 2) (ex : x = a * z) (ey : y = b * z) : fdT x y z = (l ^ 2 - a - a) * (fdE y z * fdE y z * z) := by
  subst ex ey
  have h1 : (l * (2 * b)) ^ 2 = (3 * a ^ 2) ^ 2 := by rw [g]
  unfold fdT fdD fdE
  grobner (ringSteps := 100000000)
theorem fd_y {a b l x y z X : Fin P} (g : l * (2 * b) = 3 * a ^ 2) (ex : x = a * z) (ey : y = b * z) (hT : fdT x y z = X * (fdE y z * fdE y z * z)) :
    fdD x * (x * (fdE y z * fdE y z) - fdT x y z) - y * (fdE y z * fdE y z * fdE y z) = (l * (a - X) - b) * (fdE y z * fdE y z * fdE y z * z) := by
  rw [hT]
  clear hT
  subst ex ey
  unfold fdD fdE
  grobner (ringSteps := 100000000)
theorem Frac.zero {x y z : Fin P} {p : Pt P} (h : Frac x y z p) (hz : z = 0) : p = none := by
  match p, h with
  | none, _ => rfl
  | some (a, b), h => exact absurd hz h.1
theorem Frac.double (C : Cur P) {x y z : Fin P} {p : Pt P} (h : Frac x y z p) (hp : On p) (hz : z ≠ 0) :
    Frac (fdE y z * fdT x y z) (fdD x * (x * (fdE y z * fdE y z) - fdT x y z) - y * (fdE y z * fdE y z * fdE y z)) (fdE y z * fdE y z * fdE y z * z) (add p p) := by
  match p, h, hp with
  | none, h, _ => exact absurd h hz
  | some (a, b), h, hp =>
    obtain ⟨-, ex, ey⟩ := h
    have ho := C.opp_ne hp
    have L := slope_line C.pr C.two hp hp ho
    rw [add_line C.pr C.two hp hp ho L]
    have hb := C.y_ne hp
    have he : fdE y z ≠ 0 := fun e => by
      refine mul_ne C.pr (mul_ne C.pr C.two hb) (mul_ne C.pr hz hz) ?_
      unfold fdE at e
      subst ey
      clear hp L
      grobner
    exact ⟨mul_ne C.pr (mul_ne C.pr (mul_ne C.pr he he) he) hz, fd_x L.at ex ey, fd_y L.at ex ey (fd_t L.at ex ey)⟩
theorem Frac.plus (C : Cur P) {x1 y1 z1 x2 y2 z2 : Fin P} {p q : Pt P} (h : Frac x1 y1 z1 p) (hp : On p) (h' : Frac x2 y2 z2 q) (hq : On q) (n1 : z1 ≠ 0) (n2 : z2 ≠ 0) :
    (x2 * z1 = x1 * z2 ∧ ¬ y2 * z1 = y1 * z2 ∧ add p q = none) ∨ (x2 * z1 = x1 * z2 ∧ y2 * z1 = y1 * z2 ∧ ¬ y2 * z1 = 0 ∧ add p q = add p p) ∨
    (¬ x2 * z1 = x1 * z2 ∧ Frac ((x2 * z1 - x1 * z2) * frT (y2 * z1 - y1 * z2) (x2 * z1 - x1 * z2) (z1 * z2) (x1 * z2))
      ((y2 * z1 - y1 * z2) * (x1 * z2 * ((x2 * z1 - x1 * z2) * (x2 * z1 - x1 * z2)) - frT (y2 * z1 - y1 * z2) (x2 * z1 - x1 * z2) (z1 * z2) (x1 * z2)) - y1 * z2 * ((x2 * z1 - x1 * z2) * (x2 * z1 - x1 * z2) * (x2 * z1 - x1 * z2)))
      ((x2 * z1 - x1 * z2) * (x2 * z1 - x1 * z2) * (x2 * z1 - x1 * z2) * (z1 * z2)) (add p q)) := by
  match p, q, h, hp, h', hq with
  | none, _, h, _, _, _ => exact absurd h n1
  | some (a, b), none, _, _, h, _ => exact absurd h n2
  | some (a, b), some (c, d), h, hp, h', hq =>
    obtain ⟨-, ex1, ey1⟩ := h
    obtain ⟨-, ex2, ey2⟩ := h'
    have ht := mul_ne C.pr n1 n2
    have e1 : x1 * z2 = a * (z1 * z2) := by subst ex1; clear hp hq; grobner
    have e2 : y1 * z2 = b * (z1 * z2) := by subst ey1; clear hp hq; grobner
    have e3 : x2 * z1 = c * (z1 * z2) := by subst ex2; clear hp hq; grobner
    have e4 : y2 * z1 = d * (z1 * z2) := by subst ey2; clear hp hq; grobner
    generalize x1 * z2 = v2 at *
    generalize y1 * z2 = u2 at *
    generalize x2 * z1 = v at *
    generalize y2 * z1 = u at *
    by_cases hs : v = v2
    · have hac : a = c := cancel C.pr ht (by rw [← e1, ← e3, hs])
      by_cases hu : u = u2
      · have hbd : b = d := cancel C.pr ht (by rw [← e2, ← e4, hu])
        refine Or.inr (Or.inl ⟨hs, hu, ?_, by rw [hac, hbd]⟩)
        rw [e4]
        exact mul_ne C.pr (C.y_ne hq) ht
      · refine Or.inl ⟨hs, hu, add_opp ⟨hac, ?_⟩⟩
        exact Classical.byContradiction fun hn => hu (by
          have := same_y C.pr (x := a) hp (by rw [hac]; exact hq) hn
          rw [e4, e2, this])
    · refine Or.inr (Or.inr ⟨hs, ?_⟩)
      have hac : ¬ a = c := fun h => hs (by rw [e3, e1, h])
      have ho : ¬ (a = c ∧ d = -b) := fun h => hac h.1
      have L := slope_line C.pr C.two hp hq ho
      rw [add_line C.pr C.two hp hq ho L]
      have hd : v - v2 ≠ 0 := sub_ne hs
      exact ⟨mul_ne C.pr (mul_ne C.pr (mul_ne C.pr hd hd) hd) ht, fr_x L.run.1 e1 e2 e3 e4, fr_y L.run.1 e1 e2 e3 e4⟩
theorem Frac.neg {x y z : Fin P} {p : Pt P} (h : Frac x y z p) : Frac x (0 - y) z (neg p) := by
  match p, h with
  | none, h => exact h
  | some (a, b), h => exact ⟨h.1, h.2.1, by have := h.2.2; show 0 - y = -b * z; grobner⟩
theorem Frac.pair (C : Cur P) {x y z : Fin P} {p : Pt P} (h : Frac x y z p) (hz : z ≠ 0) : Pair (x * inv z) (y * inv z) p := by
  match p, h with
  | none, h => exact absurd h hz
  | some (a, b), h =>
    have hi := inv_mul C.pr h.1
    obtain ⟨-, ex, ey⟩ := h
    generalize inv z = i at hi ⊢
    subst ex ey
    exact ⟨by grobner, by grobner⟩
end Go.Proofs.YtmepmoalhgehhaaGreatDoor.EC
