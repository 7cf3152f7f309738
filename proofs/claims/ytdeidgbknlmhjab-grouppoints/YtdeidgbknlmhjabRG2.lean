import Derived.Test.YtdeidgbknlmhjabRG
namespace Go.Proofs.Ytdeidgbknlmhjab.RG
open Go Go.RowKit

variable {P : Program} {ops : Array Oper} {Q : Exit → Act → World → Prop} {w0 w : World} {k0 : Nat} {X : List Nat} {its : List It} {bl : List Bl} {olds : List (Tmp × SV)} {a0 : Act} {L : Array Bool} {μ μ' μ0 : Nat → Nat}

/-- What is known of the slots, where the operations of L are done. -/
structure Ac (its : List It) (bl : List Bl) (a0 : Act) (L : Array Bool) (μ : Nat → Nat) (a : Act) : Prop where
  defers : a.defers = a0.defers
  size : a.tmps.size = a0.tmps.size
  got : ∀ (i : Nat) (it : It) (d : Tmp), its[i]? = some it → on L i = true → it.dst = some d → a.tmps[d]? = some (it.out.at μ) ∧ ∀ b, it.out.blk = some b → ∃ e : Bl, bl[b]? = some e ∧ e.live L = true
  rest : ∀ t : Tmp, (∀ (i : Nat) (it : It), its[i]? = some it → on L i = true → it.dst ≠ some t) → a.tmps[t]? = a0.tmps[t]?

def depB (o : Oper) (j : Nat) : Bool := o.after.any (fun e => Region.binds .any e && e.on == j)
/-- Who fills slot t, waits for operation i. -/
def freeB (ops : Array Oper) (its : List It) (i : Nat) (t : Tmp) : Bool := its.zipIdx.all (fun x => x.1.dst != some t || (match ops[x.2]? with | some o => depB o i | none => false))
def Known (ops : Array Oper) (i : Nat) (its : List It) (olds : List (Tmp × SV)) (need : List (Tmp × Nat)) (μ : Nat → Nat) (a : Act) : Prop :=
  (∀ (t : Tmp) (j : Nat) (it : It), (t, j) ∈ need → its[j]? = some it → a.eval (.tmp t) = it.out.at μ) ∧ (∀ (t : Tmp) (s : SV), (t, s) ∈ olds → freeB ops its i t = true → a.eval (.tmp t) = s.at μ)
/-- Operation i may read the block: nothing is stored into it, or by an operation that waits for i. -/
def readB (ops : Array Oper) (i : Nat) (e : Bl) : Bool := match e.st with | none => true | some s => match ops[s]? with | some o => depB o i | none => false
def Reads (ops : Array Oper) (i : Nat) (bl : List Bl) (μ : Nat → Nat) (w : World) : Prop := ∀ (b : Nat) (e : Bl), bl[b]? = some e → (e.al = none ∨ ∃ (o : Oper) (j : Nat), ops[i]? = some o ∧ e.al = some j ∧ depB o j = true) → readB ops i e = true → w.rangeAt (μ b) 0 e.before

def Does (P : Program) (Q : Exit → Act → World → Prop) (bl : List Bl) (o : Oper) (it : It) (μ : Nat → Nat) (a : Act) (w : World) (K : Act → World → Prop) : Kind → Prop
  | .stay => K (a.put o.dst (it.out.at μ)) w → o.wp P a w K Q
  | .pass => it.out = .v undef
  | .call => (∀ w', Below w.heap.size w w' → K (a.put o.dst (it.out.at μ)) w') → o.wp P a w K Q
  | .make b => ∀ e : Bl, bl[b]? = some e → (∀ t : TypeId, K (a.put o.dst (it.out.at (upd μ b w.heap.size))) (w.alloc (.cells e.before.toArray t))) → o.wp P a w K Q
  | .put b => ∀ e : Bl, bl[b]? = some e → w.there (μ b) 0 e.before.length → w.rangeAt (μ b) 0 e.before → (∀ w', PutTo (μ b) e.before.length e.after w w' → K (a.put o.dst (it.out.at μ)) w') → o.wp P a w K Q
/-- An operation does what its row says. -/
def Cert (P : Program) (Q : Exit → Act → World → Prop) (w0 : World) (k0 : Nat) (X : List Nat) (ops : Array Oper) (i : Nat) (its : List It) (bl : List Bl) (olds : List (Tmp × SV)) (o : Oper) (it : It) : Prop :=
  ∀ (μ : Nat → Nat) (a : Act) (w : World) (K : Act → World → Prop), Known ops i its olds it.need μ a → Reads ops i bl μ w → BelX k0 X w0 w → Does P Q bl o it μ a w K it.kind

def kindB (bl : List Bl) (i : Nat) (o : Oper) (it : It) : Kind → Bool
  | .stay | .pass | .call => bl.all (fun e => e.al != some i && e.st != some i) && (match it.out.blk with | none => true | some b => match bl[b]? with | some e => (match e.al with | none => true | some j => depB o j) | none => false)
  | .make b => (match it.out.blk with | some c => c == b | none => false) && bl.zipIdx.all (fun x => x.1.st != some i && (x.1.al == some i) == (x.2 == b)) && (bl[b]?).isSome
  | .put b => (match it.out with | .v _ => true | _ => false) && bl.zipIdx.all (fun x => x.1.al != some i && (x.1.st == some i) == (x.2 == b)) && (match bl[b]? with | some e => (match e.al with | none => true | some j => depB o j) | none => false)
def Kind.isPass : Kind → Bool
  | .pass => true
  | _ => false
def guardB (its : List It) (o : Oper) (it : It) : Bool :=
  match o.guard with
  | none => !it.kind.isPass
  | some (j, want) => depB o j && (match its[j]? with | some jt => jt.dst.isSome && (match jt.out with | .v (.bool b) => (b == want) == !it.kind.isPass | _ => false) | none => false)
def okB (its : List It) (bl : List Bl) (i : Nat) (o : Oper) (it : It) : Bool :=
  (o.dst == it.dst) && guardB its o it && o.after.all (fun e => !Region.binds .any e || e.on < i) && it.need.all (fun tj => depB o tj.2 && ((its[tj.2]?).bind (·.dst)) == some tj.1) && kindB bl i o it it.kind
def dstB : List It → Bool
  | [] => true
  | it :: r => (match it.dst with | none => true | some d => r.all (fun jt => jt.dst != some d)) && dstB r
def oldB (bl : List Bl) (olds : List (Tmp × SV)) : Bool :=
  olds.all (fun x => (match x.2.blk with | none => true | some b => match bl[b]? with | some e => e.al.isNone | none => false))
def allB (ops : Array Oper) (its : List It) (bl : List Bl) (olds : List (Tmp × SV)) (n : Nat) : Bool :=
  ops.size == its.length && dstB its && oldB bl olds && its.all (fun it => match it.dst with | none => true | some d => d < n) &&
  (List.range its.length).all (fun i => match ops[i]?, its[i]? with | some o, some it => okB its bl i o it | _, _ => false)

theorem dst_ne : ∀ {its : List It}, dstB its = true → ∀ (i j : Nat) (it jt : It) (d : Tmp), its[i]? = some it → its[j]? = some jt → it.dst = some d → jt.dst = some d → i = j
  | [], _, i, _, _, _, _, h, _, _, _ => by simp at h
  | x :: r, h, i, j, it, jt, d, hi, hj, di, dj => by
    simp only [dstB, Bool.and_eq_true] at h
    match i, j with
    | 0, 0 => rfl
    | 0, j + 1 =>
      simp only [List.getElem?_cons_zero, Option.some.injEq] at hi
      simp only [List.getElem?_cons_succ] at hj
      subst hi
      rw [di] at h
      have := List.all_eq_true.1 h.1 jt (List.mem_of_getElem? hj)
      rw [dj] at this
      simp at this
    | i + 1, 0 =>
      simp only [List.getElem?_cons_zero, Option.some.injEq] at hj
      simp only [List.getElem?_cons_succ] at hi
      subst hj
      rw [dj] at h
      have := List.all_eq_true.1 h.1 it (List.mem_of_getElem? hi)
      rw [di] at this
      simp at this
    | i + 1, j + 1 =>
      simp only [List.getElem?_cons_succ] at hi hj
      rw [dst_ne h.2 i j it jt d hi hj di dj]

theorem live_mono {e : Bl} {i : Nat} (hi : i < L.size) (h : e.live L = true) : e.live (L.setIfInBounds i true) = true := by rw [live_set hi, h, Bool.true_or]

theorem Ac.put {a : Act} {i : Nat} {it : It} (h : Ac its bl a0 L μ a) (hd : dstB its = true) (hi : i < L.size) (hit : its[i]? = some it) (hμ : ∀ (b : Nat) (e : Bl), bl[b]? = some e → e.live L = true → μ' b = μ b)
    (hin : ∀ d, it.dst = some d → d < a0.tmps.size) (hl : ∀ d, it.dst = some d → ∀ b, it.out.blk = some b → ∃ e : Bl, bl[b]? = some e ∧ e.live (L.setIfInBounds i true) = true)
    (v : Value) (hv : ∀ d, it.dst = some d → v = it.out.at μ') : Ac its bl a0 (L.setIfInBounds i true) μ' (a.put it.dst v) := by
  have hsame : ∀ (j : Nat) (jt : It) (d : Tmp), its[j]? = some jt → on L j = true → jt.dst = some d → a.tmps[d]? = some (jt.out.at μ') ∧ ∀ b, jt.out.blk = some b → ∃ e : Bl, bl[b]? = some e ∧ e.live (L.setIfInBounds i true) = true := fun j jt d hj ho hjd => by
    obtain ⟨h1, h2⟩ := h.got j jt d hj ho hjd
    refine ⟨?_, fun b hbo => ?_⟩
    · rw [h1]
      congr 1
      refine SV.at_congr fun b hb => ?_
      obtain ⟨e, he, hl⟩ := h2 b hb
      rw [hμ b e he hl]
    · obtain ⟨e, he, hl⟩ := h2 b hbo
      exact ⟨e, he, live_mono hi hl⟩
  cases hdst : it.dst with
  | none =>
    show Ac its bl a0 _ μ' a
    refine ⟨h.defers, h.size, fun j jt d hj ho hjd => ?_, fun t ht => h.rest t fun j jt hj ho => ht j jt hj (by rw [on_set hi, ho, Bool.true_or])⟩
    rw [on_set hi] at ho
    by_cases hij : i = j
    · subst hij
      rw [hit] at hj
      obtain rfl : it = jt := Option.some.inj hj
      rw [hdst] at hjd
      cases hjd
    · exact hsame j jt d hj (by simpa [hij] using ho) hjd
  | some d0 =>
    have hd0 := hin d0 hdst
    refine ⟨h.defers, ?_, fun j jt d hj ho hjd => ?_, fun t ht => ?_⟩
    · show (a.tmps.setIfInBounds d0 v).size = _
      rw [Array.size_setIfInBounds]; exact h.size
    · show (a.tmps.setIfInBounds d0 v)[d]? = _ ∧ _
      rw [Array.getElem?_setIfInBounds]
      rw [on_set hi] at ho
      by_cases hij : i = j
      · subst hij
        rw [hit] at hj
        obtain rfl : it = jt := Option.some.inj hj
        rw [hdst] at hjd
        obtain rfl : d0 = d := Option.some.inj hjd
        rw [if_pos rfl, if_pos (by rw [h.size]; exact hd0), hv d0 hdst]
        exact ⟨rfl, hl d0 hdst⟩
      · have hne : d0 ≠ d := fun hdd => hij (dst_ne hd i j it jt d0 hit hj hdst (hdd ▸ hjd))
        rw [if_neg hne]
        exact hsame j jt d hj (by simpa [hij] using ho) hjd
    · show (a.tmps.setIfInBounds d0 v)[t]? = _
      have hne : d0 ≠ t := fun hdt => ht i it hit (by rw [on_set hi]; simp) (by rw [hdst, hdt])
      rw [Array.getElem?_setIfInBounds, if_neg hne]
      exact h.rest t fun j jt hj ho => ht j jt hj (by rw [on_set hi, ho, Bool.true_or])

structure Inv (ops : Array Oper) (its : List It) (bl : List Bl) (a0 : Act) (w0 : World) (k0 : Nat) (X : List Nat) (μ0 : Nat → Nat) (L : Array Bool) (a : Act) (w : World) : Prop where
  size : L.size = its.length
  cl : ∀ (i : Nat) (o : Oper), ops[i]? = some o → on L i = true → ∀ e ∈ o.after, Region.binds .any e = true → on L e.on = true
  all : ∃ μ, (∀ (b : Nat) (e : Bl), bl[b]? = some e → e.al = none → μ b = μ0 b) ∧ Ac its bl a0 L μ a ∧ Wd w0 k0 X bl L μ w ∧ ∀ (b : Nat) (e : Bl), bl[b]? = some e → e.put L = true → e.live L = true

theorem wanted_none {o : Oper} (h : o.guard = none) (y : Nat → Option Bool) : Region.wanted o y = true := by unfold Region.wanted; rw [h]

theorem zip_all {p : Bl × Nat → Bool} (h : bl.zipIdx.all p = true) (b : Nat) (e : Bl) (hb : bl[b]? = some e) : p (e, b) = true :=
  List.all_eq_true.1 h (e, b) (by rw [List.mem_zipIdx_iff_getElem?]; exact hb)

theorem two {s t : Option Nat} {i c b : Nat} (h : (s != some i && (t == some i) == (c == b)) = true) : s ≠ some i ∧ (t = some i ↔ c = b) := by
  rw [Bool.and_eq_true] at h
  refine ⟨by simpa using h.1, ?_⟩
  have h2 : (t == some i) = (c == b) := by simpa using h.2
  constructor
  · intro ht
    rw [ht] at h2
    simpa using h2.symm
  · intro hc
    rw [hc] at h2
    simpa using h2

/-- One operation. -/
theorem step {i : Nat} {o : Oper} {it : It} {a : Act} (hd : dstB its = true) (ho : ops[i]? = some o) (hit : its[i]? = some it) (hok : okB its bl i o it = true) (hin : ∀ d, it.dst = some d → d < a0.tmps.size)
    (holds : ∀ (t : Tmp) (s : SV), (t, s) ∈ olds → a0.tmps[t]? = some (s.at μ0) ∧ ∀ b, s.blk = some b → ∃ e : Bl, bl[b]? = some e ∧ e.al = none)
    (hdops : ∀ (j : Nat) (oj : Oper) (jt : It), ops[j]? = some oj → its[j]? = some jt → oj.dst = jt.dst) (hops : ops.size = its.length) (hc : Cert P Q w0 k0 X ops i its bl olds o it) (hun : on L i = false) (hdep : ∀ e ∈ o.after, Region.binds .any e = true → on L e.on = true) (h : Inv ops its bl a0 w0 k0 X μ0 L a w) :
    wpOp P ops Q i (Inv ops its bl a0 w0 k0 X μ0 (L.setIfInBounds i true)) a w := by
  obtain ⟨hsz, hcl, μ, hμ, hA, hW, hO⟩ := h
  have hi : i < L.size := by rw [hsz]; exact (List.getElem?_eq_some_iff.1 hit).1
  simp only [okB, Bool.and_eq_true] at hok
  obtain ⟨⟨⟨⟨hdst, hg⟩, haft⟩, hneed⟩, hkind⟩ := hok
  have hdst' : o.dst = it.dst := by simpa using hdst
  have hdepB : ∀ j, depB o j = true → on L j = true := fun j hj => by
    obtain ⟨e, he, hb⟩ := Array.any_eq_true'.1 hj
    simp only [Bool.and_eq_true, beq_iff_eq] at hb
    rw [← hb.2]
    exact hdep e he hb.1
  have hwant : Region.wanted o (yielded ops a.tmps) = !it.kind.isPass := by
    unfold Region.wanted
    unfold guardB at hg
    cases hgd : o.guard with
    | none => rw [hgd] at hg; dsimp only at hg ⊢; rw [hg]
    | some jw =>
      obtain ⟨j, want⟩ := jw
      rw [hgd] at hg
      dsimp only at hg ⊢
      rw [Bool.and_eq_true] at hg
      cases hj : its[j]? with
      | none => rw [hj] at hg; cases hg.2
      | some jt =>
        rw [hj] at hg
        obtain ⟨h1, h2⟩ := hg
        dsimp only at h2
        rw [Bool.and_eq_true] at h2
        obtain ⟨d, hdj⟩ := Option.isSome_iff_exists.1 h2.1
        have hjl : j < its.length := (List.getElem?_eq_some_iff.1 hj).1
        have hoj : ops[j]? = some (ops[j]'(by rw [hops]; exact hjl)) := Array.getElem?_eq_getElem _
        have h3 := (hA.got j jt d hj (hdepB j h1) hdj).1
        have h4 : yielded ops a.tmps j = match jt.out.at μ with | .bool b => some b | _ => none := by
          unfold yielded
          rw [hoj]
          show (match (ops[j]'(by rw [hops]; exact hjl)).dst.bind (a.tmps[·]?) with | some (.bool b) => some b | _ => none) = _
          rw [hdops j _ jt hoj hj, hdj]
          show (match a.tmps[d]? with | some (.bool b) => some b | _ => none) = _
          rw [h3]
          cases jt.out.at μ <;> rfl
        rw [h4]
        have h5 := h2.2
        cases hout : jt.out with
        | p b x => rw [hout] at h5; cases h5
        | s b x y => rw [hout] at h5; cases h5
        | v x =>
          rw [hout] at h5
          cases x with
          | bool b =>
            show (some b == some want) = _
            dsimp only at h5
            have : (b == want) = !it.kind.isPass := by simpa using h5
            rw [← this]
            cases b <;> cases want <;> rfl
          | _ => cases h5
  have hK : Known ops i its olds it.need μ a := by
    refine ⟨fun t j jt hm hj => ?_, fun t s hm hfree => ?_⟩
    · have h1 := List.all_eq_true.1 hneed (t, j) hm
      simp only [Bool.and_eq_true, hj] at h1
      have h2 : jt.dst = some t := by simpa using h1.2
      have h3 := (hA.got j jt t hj (hdepB j h1.1) h2).1
      show a.tmps.getD t undef = _
      rw [Array.getD_eq_getD_getElem?, h3]
      rfl
    · obtain ⟨h2, h3⟩ := holds t s hm
      have h4 := hA.rest t (fun j jt hj hon hdj => by
        have h5 := List.all_eq_true.1 hfree (jt, j) (by rw [List.mem_zipIdx_iff_getElem?]; exact hj)
        dsimp only at h5
        rw [hdj] at h5
        cases hoj : ops[j]? with
        | none => rw [hoj] at h5; simp at h5
        | some oj =>
          rw [hoj] at h5
          have h6 : depB oj i = true := by simpa using h5
          obtain ⟨e', he', hb'⟩ := Array.any_eq_true'.1 h6
          simp only [Bool.and_eq_true, beq_iff_eq] at hb'
          have := hcl j oj hoj hon e' he' hb'.1
          rw [hb'.2, hun] at this
          cases this)
      show a.tmps.getD t undef = _
      rw [Array.getD_eq_getD_getElem?, h4, h2]
      show s.at μ0 = s.at μ
      refine SV.at_congr fun b hb => ?_
      obtain ⟨e, he, hal⟩ := h3 b hb
      rw [hμ b e he hal]
  have hR : Reads ops i bl μ w := fun b e hb hal hst => by
    have := (hW.has b e hb (by
      unfold Bl.live
      rcases hal with hal | ⟨o', j, ho', hal, hd⟩
      · rw [hal]; rfl
      · rw [hal]
        show on L j = true
        rw [ho] at ho'
        obtain rfl := Option.some.inj ho'
        exact hdepB j hd)).1
    unfold Bl.now Bl.put at this
    unfold readB at hst
    cases hs : e.st with
    | none => rw [hs] at this; exact this
    | some s =>
      rw [hs] at this hst
      dsimp only at hst
      cases hos : ops[s]? with
      | none => rw [hos] at hst; cases hst
      | some os =>
        rw [hos] at hst
        have hns : on L s = false := by
          cases hon : on L s with
          | false => rfl
          | true =>
            obtain ⟨e', he', hb'⟩ := Array.any_eq_true'.1 hst
            simp only [Bool.and_eq_true, beq_iff_eq] at hb'
            have := hcl s os hos hon e' he' hb'.1
            rw [hb'.2, hun] at this
            cases this
        rw [show (Option.map (on L) (some s)).getD false = on L s from rfl, hns] at this
        exact this
  have hcl' : ∀ (j : Nat) (oj : Oper), ops[j]? = some oj → on (L.setIfInBounds i true) j = true → ∀ e ∈ oj.after, Region.binds .any e = true → on (L.setIfInBounds i true) e.on = true := fun j oj hoj hon e he hb => by
    rw [on_set hi] at hon ⊢
    by_cases hij : i = j
    · subst hij
      rw [ho] at hoj
      obtain rfl : o = oj := Option.some.inj hoj
      rw [hdep e he hb, Bool.true_or]
    · rw [hcl j oj hoj (by simpa [hij] using hon) e he hb, Bool.true_or]
  have hsz' : (L.setIfInBounds i true).size = its.length := by rw [Array.size_setIfInBounds]; exact hsz
  have hC := hc μ a w (Inv ops its bl a0 w0 k0 X μ0 (L.setIfInBounds i true)) hK hR hW.bel
  unfold wpOp
  rw [ho]
  dsimp only
  rw [hwant]
  cases hk : it.kind with
  | pass =>
    rw [hk] at hC hkind
    simp only [kindB, Bool.and_eq_true] at hkind
    have hne : ∀ (b : Nat) (e : Bl), bl[b]? = some e → e.al ≠ some i ∧ e.st ≠ some i := fun b e hb => by simpa using List.all_eq_true.1 hkind.1 e (List.mem_of_getElem? hb)
    have hsame : ∀ (b : Nat) (e : Bl), bl[b]? = some e → e.live (L.setIfInBounds i true) = e.live L ∧ e.put (L.setIfInBounds i true) = e.put L := fun b e hb =>
      ⟨by rw [live_set hi, show (e.al == some i) = false by simpa using (hne b e hb).1, Bool.or_false], by rw [put_set hi, show (e.st == some i) = false by simpa using (hne b e hb).2, Bool.or_false]⟩
    show Inv ops its bl a0 w0 k0 X μ0 (L.setIfInBounds i true) (a.put o.dst undef) w
    refine ⟨hsz', hcl', μ, hμ, ?_, hW.same hsame, fun b e hb => by rw [(hsame b e hb).1, (hsame b e hb).2]; exact hO b e hb⟩
    rw [hdst']
    have hout : it.out = .v undef := hC
    refine hA.put hd hi hit (fun _ _ _ _ => rfl) hin (fun _ _ b hbx => ?_) _ (fun _ _ => by rw [hout]; rfl)
    rw [hout] at hbx
    cases hbx
  | stay =>
    rw [hk] at hC hkind
    simp only [kindB, Bool.and_eq_true] at hkind
    show o.wp P a w _ Q ∨ _
    left
    refine hC ?_
    have hne : ∀ (b : Nat) (e : Bl), bl[b]? = some e → e.al ≠ some i ∧ e.st ≠ some i := fun b e hb => by simpa using List.all_eq_true.1 hkind.1 e (List.mem_of_getElem? hb)
    have hsame : ∀ (b : Nat) (e : Bl), bl[b]? = some e → e.live (L.setIfInBounds i true) = e.live L ∧ e.put (L.setIfInBounds i true) = e.put L := fun b e hb =>
      ⟨by rw [live_set hi, show (e.al == some i) = false by simpa using (hne b e hb).1, Bool.or_false], by rw [put_set hi, show (e.st == some i) = false by simpa using (hne b e hb).2, Bool.or_false]⟩
    refine ⟨hsz', hcl', μ, hμ, ?_, hW.same hsame, fun b e hb => by rw [(hsame b e hb).1, (hsame b e hb).2]; exact hO b e hb⟩
    rw [hdst']
    refine hA.put hd hi hit (fun _ _ _ _ => rfl) hin (fun _ _ b hbx => ?_) _ (fun _ _ => rfl)
    have h2 := hkind.2
    rw [hbx] at h2
    dsimp only at h2
    cases he : bl[b]? with
    | none => rw [he] at h2; cases h2
    | some e =>
      rw [he] at h2
      dsimp only at h2
      refine ⟨e, rfl, live_mono hi ?_⟩
      unfold Bl.live
      cases hal : e.al with
      | none => rfl
      | some j => rw [hal] at h2; exact hdepB j h2
  | call =>
    rw [hk] at hC hkind
    simp only [kindB, Bool.and_eq_true] at hkind
    show o.wp P a w _ Q ∨ _
    left
    refine hC fun w' hb' => ?_
    have hne : ∀ (b : Nat) (e : Bl), bl[b]? = some e → e.al ≠ some i ∧ e.st ≠ some i := fun b e hb => by simpa using List.all_eq_true.1 hkind.1 e (List.mem_of_getElem? hb)
    have hsame : ∀ (b : Nat) (e : Bl), bl[b]? = some e → e.live (L.setIfInBounds i true) = e.live L ∧ e.put (L.setIfInBounds i true) = e.put L := fun b e hb =>
      ⟨by rw [live_set hi, show (e.al == some i) = false by simpa using (hne b e hb).1, Bool.or_false], by rw [put_set hi, show (e.st == some i) = false by simpa using (hne b e hb).2, Bool.or_false]⟩
    refine ⟨hsz', hcl', μ, hμ, ?_, (hW.call hb').same hsame, fun b e hb => by rw [(hsame b e hb).1, (hsame b e hb).2]; exact hO b e hb⟩
    rw [hdst']
    refine hA.put hd hi hit (fun _ _ _ _ => rfl) hin (fun _ _ b hbx => ?_) _ (fun _ _ => rfl)
    have h2 := hkind.2
    rw [hbx] at h2
    dsimp only at h2
    cases he : bl[b]? with
    | none => rw [he] at h2; cases h2
    | some e =>
      rw [he] at h2
      dsimp only at h2
      refine ⟨e, rfl, live_mono hi ?_⟩
      unfold Bl.live
      cases hal : e.al with
      | none => rfl
      | some j => rw [hal] at h2; exact hdepB j h2
  | make b =>
    rw [hk] at hC hkind
    simp only [kindB, Bool.and_eq_true] at hkind
    obtain ⟨⟨hout, hz⟩, hb0⟩ := hkind
    obtain ⟨e, hbe⟩ := Option.isSome_iff_exists.1 hb0
    have ha : e.al = some i := (two (zip_all hz b e hbe)).2.2 rfl
    have hstn : ∀ (c : Nat) (f : Bl), bl[c]? = some f → f.st ≠ some i := fun c f hc => (two (zip_all hz c f hc)).1
    have haln : ∀ (c : Nat) (f : Bl), bl[c]? = some f → c ≠ b → f.al ≠ some i := fun c f hc hcb h => hcb ((two (zip_all hz c f hc)).2.1 h)
    have hlv : e.live L = false := by unfold Bl.live; rw [ha]; exact hun
    have hpt : e.put L = false := by
      cases hp : e.put L with
      | false => rfl
      | true => have := hO b e hbe hp; rw [hlv] at this; cases this
    have hout' : it.out.blk = some b := by
      cases hoo : it.out.blk with
      | none => rw [hoo] at hout; cases hout
      | some c =>
        rw [hoo] at hout
        rw [show c = b by simpa using hout]
    show o.wp P a w _ Q ∨ _
    left
    refine hC e hbe fun t => ?_
    have hμb : ∀ (c : Nat) (f : Bl), bl[c]? = some f → f.live L = true → upd μ b w.heap.size c = μ c := fun c f hc hl => by
      unfold upd
      rw [if_neg]
      rintro rfl
      rw [hbe] at hc
      obtain rfl : e = f := Option.some.inj hc
      rw [hlv] at hl
      cases hl
    refine ⟨hsz', hcl', upd μ b w.heap.size, fun c f hc hal => ?_, ?_, hW.make hi hbe ha haln hstn hpt, fun c f hc => ?_⟩
    · rw [hμb c f hc (by unfold Bl.live; rw [hal]; rfl)]
      exact hμ c f hc hal
    · rw [hdst']
      refine hA.put hd hi hit hμb hin (fun _ _ c hcx => ?_) _ (fun _ _ => rfl)
      rw [hout'] at hcx
      have h1 : b = c := Option.some.inj hcx
      subst h1
      exact ⟨e, hbe, by rw [live_set hi, ha]; simp⟩
    · rw [put_set hi, show (f.st == some i) = false by simpa using hstn c f hc, Bool.or_false]
      exact fun hp => live_mono hi (hO c f hc hp)
  | put b =>
    rw [hk] at hC hkind
    simp only [kindB, Bool.and_eq_true] at hkind
    obtain ⟨⟨hdn, hz⟩, hb0⟩ := hkind
    cases hbe : bl[b]? with
    | none => rw [hbe] at hb0; cases hb0
    | some e =>
      rw [hbe] at hb0
      dsimp only at hb0
      have hs : e.st = some i := (two (zip_all hz b e hbe)).2.2 rfl
      have haln : ∀ (c : Nat) (f : Bl), bl[c]? = some f → f.al ≠ some i := fun c f hc => (two (zip_all hz c f hc)).1
      have hstn : ∀ (c : Nat) (f : Bl), bl[c]? = some f → c ≠ b → f.st ≠ some i := fun c f hc hcb h => hcb ((two (zip_all hz c f hc)).2.1 h)
      have hlv : e.live L = true := by
        unfold Bl.live
        cases hal : e.al with
        | none => rfl
        | some j =>
          have h2 := hb0
          rw [hal] at h2
          exact hdepB j h2
      show o.wp P a w _ Q ∨ _
      left
      have hpn : e.put L = false := by unfold Bl.put; rw [hs]; exact hun
      have hnow : e.now L = e.before := by unfold Bl.now; rw [hpn]; rfl
      refine hC e hbe (hW.has b e hbe hlv).2.1 (hnow ▸ (hW.has b e hbe hlv).1) fun w' hPT => ?_
      refine ⟨hsz', hcl', μ, hμ, ?_, hW.put hi hbe hs hlv hPT hstn haln, fun c f hc hp => ?_⟩
      · rw [hdst']
        refine hA.put hd hi hit (fun _ _ _ _ => rfl) hin (fun d hdd c hcx => ?_) _ (fun d hdd => rfl)
        cases hoo : it.out with
        | v x => rw [hoo] at hcx; cases hcx
        | p x y => rw [hoo] at hdn; cases hdn
        | s x y z => rw [hoo] at hdn; cases hdn
      · rw [live_set hi, show (f.al == some i) = false by simpa using haln c f hc, Bool.or_false]
        rw [put_set hi] at hp
        by_cases hcb : c = b
        · subst hcb
          rw [hbe] at hc
          obtain rfl : e = f := Option.some.inj hc
          exact hlv
        · rw [show (f.st == some i) = false by simpa using hstn c f hc hcb, Bool.or_false] at hp
          exact hO c f hc hp
end Go.Proofs.Ytdeidgbknlmhjab.RG
