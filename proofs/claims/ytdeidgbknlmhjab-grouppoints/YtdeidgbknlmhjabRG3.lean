import Derived.Test.YtdeidgbknlmhjabRG2
namespace Go.Proofs.Ytdeidgbknlmhjab.RG
open Go Go.RowKit

variable {P : Program} {ops : Array Oper} {Q : Exit → Act → World → Prop} {w0 w : World} {k0 : Nat} {X : List Nat} {its : List It} {bl : List Bl} {olds : List (Tmp × SV)} {a0 : Act} {L : Array Bool} {μ μ0 : Nat → Nat}

def puts (μ : Nat → Nat) : List It → Act → Act
  | [], a => a
  | it :: r, a => puts μ r (a.put it.dst (it.out.at μ))
theorem puts_defers (μ : Nat → Nat) : ∀ (its : List It) (a : Act), (puts μ its a).defers = a.defers
  | [], _ => rfl
  | it :: r, a => by
    rw [puts, puts_defers μ r]
    cases it.dst <;> rfl
theorem put_size (a : Act) (d : Option Tmp) (v : Value) : (a.put d v).tmps.size = a.tmps.size := by
  cases d with
  | none => rfl
  | some d => exact Array.size_setIfInBounds ..
theorem puts_size (μ : Nat → Nat) : ∀ (its : List It) (a : Act), (puts μ its a).tmps.size = a.tmps.size
  | [], _ => rfl
  | it :: r, a => by rw [puts, puts_size μ r, put_size]
theorem put_other (a : Act) {d : Option Tmp} (v : Value) {t : Tmp} (h : d ≠ some t) : (a.put d v).tmps[t]? = a.tmps[t]? := by
  cases d with
  | none => rfl
  | some d =>
    show (a.tmps.setIfInBounds d v)[t]? = _
    rw [Array.getElem?_setIfInBounds, if_neg (fun e => h (by rw [e]))]
theorem puts_other (μ : Nat → Nat) : ∀ (its : List It) (a : Act) (t : Tmp), (∀ it ∈ its, it.dst ≠ some t) → (puts μ its a).tmps[t]? = a.tmps[t]?
  | [], _, _, _ => rfl
  | it :: r, a, t, h => by
    rw [puts, puts_other μ r _ t (fun x hx => h x (List.mem_cons_of_mem _ hx)), put_other a _ (h it List.mem_cons_self)]
theorem puts_same (μ : Nat → Nat) : ∀ (its : List It) (a : Act) (i : Nat) (it : It) (d : Tmp), dstB its = true → its[i]? = some it → it.dst = some d → d < a.tmps.size → (puts μ its a).tmps[d]? = some (it.out.at μ)
  | [], _, i, _, _, _, h, _, _ => by simp at h
  | x :: r, a, 0, it, d, hB, h, hd, hs => by
    obtain rfl : x = it := by simpa using h
    simp only [dstB, Bool.and_eq_true, hd] at hB
    rw [puts, puts_other μ r _ d (fun y hy => by simpa using List.all_eq_true.1 hB.1 y hy), hd]
    show (a.tmps.setIfInBounds d _)[d]? = _
    rw [Array.getElem?_setIfInBounds, if_pos rfl, if_pos hs]
  | x :: r, a, i + 1, it, d, hB, h, hd, hs => by
    simp only [dstB, Bool.and_eq_true] at hB
    rw [puts]
    exact puts_same μ r _ i it d hB.2 (by simpa using h) hd (by rw [put_size]; exact hs)
theorem Act.ext' {a b : Act} (h1 : a.tmps = b.tmps) (h2 : a.defers = b.defers) : a = b := by
  cases a; cases b; subst h1; subst h2; rfl
theorem Ac.done {a : Act} (h : Ac its bl a0 L μ a) (hB : dstB its = true) (hin : ∀ it ∈ its, ∀ d, it.dst = some d → d < a0.tmps.size) (hall : ∀ i, i < its.length → on L i = true) : a = puts μ its a0 := by
  refine Act.ext' ?_ (by rw [puts_defers]; exact h.defers)
  apply Array.ext_getElem?
  intro t
  by_cases ht : ∃ (i : Nat) (it : It), its[i]? = some it ∧ it.dst = some t
  · obtain ⟨i, it, hi, hd⟩ := ht
    rw [(h.got i it t hi (hall i (List.getElem?_eq_some_iff.1 hi).1) hd).1, puts_same μ its a0 i it t hB hi hd (hin it (List.mem_of_getElem? hi) t hd)]
  · rw [h.rest t (fun i it hi _ hd => ht ⟨i, it, hi, hd⟩), puts_other μ its a0 t (fun it hm hd => ?_)]
    obtain ⟨i, hi⟩ := List.getElem?_of_mem hm
    exact ht ⟨i, it, hi, hd⟩

def unl (L : Array Bool) : Nat := L.toList.countP (fun b => !b)
theorem count_set : ∀ (l : List Bool) (i : Nat), l[i]? = some false → (l.set i true).countP (fun b => !b) + 1 = l.countP (fun b => !b)
  | [], i, h => by simp at h
  | x :: r, 0, h => by
    obtain rfl : x = false := by simpa using h
    simp
  | x :: r, i + 1, h => by
    have := count_set r i (by simpa using h)
    rw [List.set_cons_succ, List.countP_cons, List.countP_cons]
    omega
theorem unl_set {i : Nat} (h : L.getD i true = false) : unl (L.setIfInBounds i true) + 1 = unl L := by
  unfold unl
  rw [Array.toList_setIfInBounds]
  refine count_set _ _ ?_
  rw [Array.getElem?_toList]
  rw [Array.getD_eq_getD_getElem?] at h
  cases hh : L[i]? with
  | none => rw [hh] at h; cases h
  | some b => rw [hh] at h; rw [show b = false from h]
theorem unl_zero (h : unl L = 0) (i : Nat) (hi : i < L.size) : on L i = true := by
  have h1 := List.countP_eq_zero.1 h
  have h2 := h1 L[i] (by simp)
  unfold on
  rw [Array.getD_eq_getD_getElem?, Array.getElem?_eq_getElem hi]
  simpa using h2

/-- All that is asked of a region's rows. -/
structure Reg (P : Program) (ops : Array Oper) (Q : Exit → Act → World → Prop) (w0 : World) (k0 : Nat) (X : List Nat) (its : List It) (bl : List Bl) (olds : List (Tmp × SV)) (a0 : Act) (μ0 : Nat → Nat) : Prop where
  chk : allB ops its bl olds a0.tmps.size = true
  old : ∀ (t : Tmp) (s : SV), (t, s) ∈ olds → a0.tmps[t]? = some (s.at μ0)
  cert : ∀ (i : Nat) (o : Oper) (it : It), ops[i]? = some o → its[i]? = some it → Cert P Q w0 k0 X ops i its bl olds o it

theorem Reg.step {i : Nat} {o : Oper} {a : Act} (R : Reg P ops Q w0 k0 X its bl olds a0 μ0) (ho : ops[i]? = some o) (hun : on L i = false) (hdep : ∀ e ∈ o.after, Region.binds .any e = true → on L e.on = true) (h : Inv ops its bl a0 w0 k0 X μ0 L a w) :
    wpOp P ops Q i (Inv ops its bl a0 w0 k0 X μ0 (L.setIfInBounds i true)) a w := by
  have hk := R.chk
  simp only [allB, Bool.and_eq_true, beq_iff_eq] at hk
  obtain ⟨⟨⟨⟨hsz, hd⟩, hold⟩, hin⟩, hok⟩ := hk
  have hi : i < its.length := by rw [← hsz]; exact (Array.getElem?_eq_some_iff.1 ho).1
  obtain ⟨it, hit⟩ : ∃ it, its[i]? = some it := ⟨its[i], List.getElem?_eq_getElem hi⟩
  have h1 := List.all_eq_true.1 hok i (List.mem_range.2 hi)
  rw [ho, hit] at h1
  refine RG.step (olds := olds) hd ho hit h1 (fun d hdd => ?_) (fun t s hm => ?_) (fun j oj jt hoj hjt => ?_) hsz (R.cert i o it ho hit) hun hdep h
  · have := List.all_eq_true.1 hin it (List.mem_of_getElem? hit)
    rw [hdd] at this
    simpa using this
  · have h2 := List.all_eq_true.1 hold (t, s) hm
    refine ⟨R.old t s hm, fun b hbx => ?_⟩
    have h3 := h2
    dsimp only at h3
    rw [hbx] at h3
    dsimp only at h3
    cases he : bl[b]? with
    | none => rw [he] at h3; cases h3
    | some e => rw [he] at h3; exact ⟨e, rfl, by simpa using h3⟩
  · have h4 := List.all_eq_true.1 hok j (List.mem_range.2 (List.getElem?_eq_some_iff.1 hjt).1)
    rw [hoj, hjt] at h4
    simp only [okB, Bool.and_eq_true] at h4
    simpa using h4.1.1.1.1
theorem Reg.back {i : Nat} {o : Oper} (R : Reg P ops Q w0 k0 X its bl olds a0 μ0) (ho : ops[i]? = some o) : i < its.length ∧ ∀ e ∈ o.after, Region.binds .any e = true → e.on < i := by
  have hk := R.chk
  simp only [allB, Bool.and_eq_true, beq_iff_eq] at hk
  obtain ⟨⟨⟨⟨hsz, hd⟩, hold⟩, hin⟩, hok⟩ := hk
  have hi : i < its.length := by rw [← hsz]; exact (Array.getElem?_eq_some_iff.1 ho).1
  have h1 := List.all_eq_true.1 hok i (List.mem_range.2 hi)
  rw [ho, List.getElem?_eq_getElem hi] at h1
  simp only [okB, Bool.and_eq_true] at h1
  refine ⟨hi, fun e he hb => ?_⟩
  have := Array.all_eq_true'.1 h1.1.1.2 e he
  simpa [hb] using this
theorem Reg.size (R : Reg P ops Q w0 k0 X its bl olds a0 μ0) : ops.size = its.length := by
  have hk := R.chk
  simp only [allB, Bool.and_eq_true, beq_iff_eq] at hk
  exact hk.1.1.1.1

theorem Reg.full {a : Act} (R : Reg P ops Q w0 k0 X its bl olds a0 μ0) (h : Inv ops its bl a0 w0 k0 X μ0 L a w) (hr : Region.ready .any ops L = []) : ∀ i, i < its.length → on L i = true := by
  intro i
  induction i using Nat.strongRecOn with
  | ind i ih =>
    intro hi
    have ho : ops[i]? = some (ops[i]'(by rw [R.size]; exact hi)) := Array.getElem?_eq_getElem _
    cases hon : on L i with
    | true => rfl
    | false =>
      have : i ∈ Region.ready .any ops L := mem_ready.2 ⟨?_, _, ho, fun e he hb => ?_⟩
      · rw [hr] at this; cases this
      · unfold on at hon
        rw [Array.getD_eq_getD_getElem?, Array.getElem?_eq_getElem (by rw [h.size]; exact hi)] at hon ⊢
        exact hon
      · have hlt := (R.back ho).2 e he hb
        exact ih e.on hlt (Nat.lt_trans hlt hi)

/-- Blocks and what lies in them. -/
def ad (ks : List Nat) (b : Nat) : Nat := ks.getD b 0
structure St (w0 : World) (k0 : Nat) (X : List Nat) (cs : List (List Value)) (ks : List Nat) (w : World) : Prop where
  bel : BelX k0 X w0 w
  le : k0 ≤ w.heap.size
  len : ks.length = cs.length
  has : ∀ (b : Nat) (c : List Value), cs[b]? = some c → w.rangeAt (ad ks b) 0 c ∧ w.there (ad ks b) 0 c.length ∧ ad ks b < w.heap.size ∧ (k0 ≤ ad ks b ∨ ad ks b ∈ X)
  inj : ∀ (b c : Nat), b < cs.length → c < cs.length → b ≠ c → ad ks b ≠ ad ks c
theorem St.drew {cs : List (List Value)} {ks : List Nat} (h : St w0 k0 X cs ks w) : St w0 k0 X cs ks w.drew := ⟨h.bel.drew, h.le, h.len, h.has, h.inj⟩

def Bl.fin (e : Bl) : List Value := if e.st.isSome = true then e.after else e.before
def startB (bl : List Bl) (n : Nat) : Bool := bl.zipIdx.all (fun x => x.1.al.isNone == decide (x.2 < n)) && decide (n ≤ bl.length)

theorem start_inv {ops : Array Oper} {cs : List (List Value)} {ks : List Nat} (hS : St w0 k0 X cs ks w) (hB : startB bl cs.length = true) (hcs : (bl.map (·.before)).take cs.length = cs) :
    Inv ops its bl a0 w0 k0 X (ad ks) (Array.replicate its.length false) a0 w := by
  simp only [startB, Bool.and_eq_true] at hB
  have hoff : ∀ i, on (Array.replicate its.length false) i = false := fun i => by
    unfold on
    rw [Array.getD_eq_getD_getElem?, Array.getElem?_replicate]
    by_cases h : i < its.length
    · rw [if_pos h]; rfl
    · rw [if_neg h]; rfl
  have hlive : ∀ (b : Nat) (e : Bl), bl[b]? = some e → e.live (Array.replicate its.length false) = true → b < cs.length := fun b e hb hl => by
    have h1 := zip_all hB.1 b e hb
    unfold Bl.live at hl
    cases ha : e.al with
    | none => simpa [ha] using h1
    | some j => rw [ha] at hl; have : on (Array.replicate its.length false) j = true := hl; rw [hoff] at this; cases this
  have hput : ∀ e : Bl, e.put (Array.replicate its.length false) = false := fun e => by
    unfold Bl.put
    cases e.st with
    | none => rfl
    | some j => exact hoff j
  have hget : ∀ (b : Nat) (e : Bl), bl[b]? = some e → b < cs.length → cs[b]? = some e.before := fun b e hb hlt => by
    rw [← hcs, List.getElem?_take, if_pos hlt, List.getElem?_map, hb]
    rfl
  refine ⟨Array.size_replicate, (fun i o _ h => by rw [hoff] at h; cases h), ad ks, fun _ _ _ _ => rfl, ⟨rfl, rfl, fun i it d hi ho => ?_, fun _ _ => rfl⟩, ⟨hS.bel, hS.le, fun b e hb hl => ?_, fun b c e f hb hc he hf hbc => hS.inj b c (hlive b e hb he) (hlive c f hc hf) hbc⟩, fun b e hb hp => ?_⟩
  · rw [hoff] at ho; cases ho
  · unfold Bl.now
    rw [hput e]
    exact hS.has b e.before (hget b e hb (hlive b e hb hl))
  · rw [hput e] at hp; cases hp

theorem Inv.done {a : Act} {cs : List (List Value)} {ks : List Nat} (R : Reg P ops Q w0 k0 X its bl olds a0 (ad ks)) (h : Inv ops its bl a0 w0 k0 X (ad ks) L a w) (hlen : ks.length = cs.length) (hB : startB bl cs.length = true) (hall : ∀ i, i < its.length → on L i = true)
    (hst : ∀ e ∈ bl, ∀ j, e.al = some j ∨ e.st = some j → j < its.length) (hlenb : ∀ e ∈ bl, e.fin.length = e.before.length)
    (hp : ∀ (new : List Nat) (w' : World), new.length = bl.length - cs.length → St w0 k0 X (bl.map Bl.fin) (ks ++ new) w' → Q .normal (puts (ad (ks ++ new)) its a0) w') : Q .normal a w := by
  obtain ⟨hsz, -, μ, hμ, hA, hW, hO⟩ := h
  have hk := R.chk
  simp only [allB, Bool.and_eq_true, beq_iff_eq] at hk
  obtain ⟨⟨⟨⟨hsz2, hd⟩, hold⟩, hin⟩, hok⟩ := hk
  have hB' := hB
  simp only [startB, Bool.and_eq_true, decide_eq_true_eq] at hB
  have hlive : ∀ (b : Nat) (e : Bl), bl[b]? = some e → e.live L = true := fun b e hb => by
    unfold Bl.live
    cases ha : e.al with
    | none => rfl
    | some j => exact hall j (hst e (List.mem_of_getElem? hb) j (Or.inl ha))
  have hnow : ∀ (b : Nat) (e : Bl), bl[b]? = some e → e.now L = e.fin := fun b e hb => by
    unfold Bl.now Bl.put Bl.fin
    cases ha : e.st with
    | none => rfl
    | some j =>
      have := hall j (hst e (List.mem_of_getElem? hb) j (Or.inr ha))
      simp [this]
  have hnew : ∀ b, b < bl.length → ad (ks ++ (List.range (bl.length - cs.length)).map (fun j => μ (cs.length + j))) b = μ b := fun b hb => by
    unfold ad
    rw [List.getD_eq_getElem?_getD]
    by_cases hlt : b < cs.length
    · rw [List.getElem?_append_left (by rw [hlen]; exact hlt)]
      obtain ⟨e, he⟩ : ∃ e, bl[b]? = some e := ⟨bl[b], List.getElem?_eq_getElem hb⟩
      have h1 := zip_all hB.1 b e he
      have h2 : e.al = none := by simpa [hlt] using h1
      rw [hμ b e he h2]
      unfold ad
      rw [List.getD_eq_getElem?_getD]
    · rw [List.getElem?_append_right (by rw [hlen]; omega), List.getElem?_map, hlen, List.getElem?_range (by omega)]
      show μ (cs.length + (b - cs.length)) = μ b
      congr 1
      omega
  have hact := hA.done hd (fun it hm d hdd => by
    have := List.all_eq_true.1 hin it hm
    rw [hdd] at this
    simpa using this) hall
  have hpe : puts μ its a0 = puts (ad (ks ++ (List.range (bl.length - cs.length)).map (fun j => μ (cs.length + j)))) its a0 := by
    have key : ∀ it ∈ its, ∀ d, it.dst = some d → it.out.at μ = it.out.at (ad (ks ++ (List.range (bl.length - cs.length)).map (fun j => μ (cs.length + j)))) := fun it hm d hdd => by
      obtain ⟨i, hi⟩ := List.getElem?_of_mem hm
      have hg := (hA.got i it d hi (hall i (List.getElem?_eq_some_iff.1 hi).1) hdd).2
      refine SV.at_congr fun b hb => ?_
      obtain ⟨e, he, -⟩ := hg b hb
      rw [hnew b (List.getElem?_eq_some_iff.1 he).1]
    clear hA hact hold hok hin hd hsz2 hsz R hall hst hp
    generalize a0 = a1
    induction its generalizing a1 with
    | nil => rfl
    | cons it r ih =>
      rw [puts, puts]
      have h1 : a1.put it.dst (it.out.at μ) = a1.put it.dst (it.out.at (ad (ks ++ (List.range (bl.length - cs.length)).map (fun j => μ (cs.length + j))))) := by
        cases hdd : it.dst with
        | none => rfl
        | some d => rw [key it List.mem_cons_self d hdd]
      rw [h1]
      exact ih (fun x hx => key x (List.mem_cons_of_mem _ hx)) _
  rw [hact, hpe]
  refine hp _ w (by simp) ⟨hW.bel, hW.le, ?_, fun b c hc => ?_, fun b c hb hc hbc => ?_⟩
  · simp only [List.length_append, List.length_map, List.length_range]
    omega
  · rw [List.getElem?_map] at hc
    cases he : bl[b]? with
    | none => rw [he] at hc; cases hc
    | some e =>
      rw [he] at hc
      obtain rfl : e.fin = c := Option.some.inj hc
      have h1 := hW.has b e he (hlive b e he)
      rw [hnow b e he] at h1
      rw [hnew b (List.getElem?_eq_some_iff.1 he).1, hlenb e (List.mem_of_getElem? he)]
      exact h1
  · rw [List.length_map] at hb hc
    rw [hnew b hb, hnew c hc]
    exact hW.inj b c _ _ (List.getElem?_eq_getElem hb) (List.getElem?_eq_getElem hc) (hlive b _ (List.getElem?_eq_getElem hb)) (hlive c _ (List.getElem?_eq_getElem hc)) hbc

def endB (its : List It) (bl : List Bl) : Bool :=
  bl.all (fun e => (match e.al with | none => true | some j => decide (j < its.length)) && (match e.st with | none => true | some j => decide (j < its.length)) && e.fin.length == e.before.length)
theorem endB_st (h : endB its bl = true) : (∀ e ∈ bl, ∀ j, e.al = some j ∨ e.st = some j → j < its.length) ∧ ∀ e ∈ bl, e.fin.length = e.before.length := by
  refine ⟨fun e he j hj => ?_, fun e he => ?_⟩
  · have := List.all_eq_true.1 h e he
    simp only [Bool.and_eq_true] at this
    rcases hj with hj | hj
    · rw [hj] at this; simpa using this.1.1
    · rw [hj] at this; simpa using this.1.2
  · have := List.all_eq_true.1 h e he
    simp only [Bool.and_eq_true, beq_iff_eq] at this
    exact this.2

/-- THE LAW, for a region that draws its order. -/
theorem region_draws' {id : Nat} {cs : List (List Value)} {ks : List Nat} (hm : P.follows .mixedOrders = true) (hS : St w0 k0 X cs ks w) (R : Reg P ops Q w0 k0 X its bl olds a0 (ad ks)) (hB : startB bl cs.length = true) (hcs : (bl.map (·.before)).take cs.length = cs) (hE : (∀ e ∈ bl, ∀ j, e.al = some j ∨ e.st = some j → j < its.length) ∧ ∀ e ∈ bl, e.fin.length = e.before.length)
    (hp : ∀ (new : List Nat) (w' : World), new.length = bl.length - cs.length → St w0 k0 X (bl.map Bl.fin) (ks ++ new) w' → Q .normal (puts (ad (ks ++ new)) its a0) w') : (Code.region id ops true).wp P Q a0 w := by
  obtain ⟨hst, hlenb⟩ := hE
  have key : ∀ (fuel : Nat) (L : Array Bool) (a : Act) (w : World), unl L = fuel → Inv ops its bl a0 w0 k0 X (ad ks) L a w → wpAny P .any ops Q fuel L a w := by
    intro fuel
    induction fuel with
    | zero =>
      intro L a w hu hI
      have hall : ∀ i, i < its.length → on L i = true := fun i hi => unl_zero hu i (by rw [hI.size]; exact hi)
      refine ⟨?_, hI.done R hS.len hB hall hst hlenb hp⟩
      apply List.eq_nil_iff_forall_not_mem.2
      intro i hi
      obtain ⟨h1, o, ho, -⟩ := mem_ready.1 hi
      have h2 := hall i (R.back ho).1
      unfold on at h2
      rw [Array.getD_eq_getD_getElem?] at h1 h2
      cases hh : L[i]? with
      | none => rw [hh] at h1; cases h1
      | some b => rw [hh] at h1 h2; rw [show b = false from h1] at h2; cases h2
    | succ fuel ih =>
      intro L a w hu hI
      refine ⟨fun hr => hI.done R hS.len hB (R.full hI hr) hst hlenb hp, fun i hi => ?_⟩
      obtain ⟨h1, o, ho, hdep⟩ := mem_ready.1 hi
      have hoff : on L i = false := by
        unfold on
        rw [Array.getD_eq_getD_getElem?] at h1 ⊢
        cases hh : L[i]? with
        | none => rfl
        | some b => rw [hh] at h1; exact h1
      exact wpOp_mono (fun a' w' hI' => ih _ a' w' (by have := unl_set h1; omega) hI') (R.step ho hoff hdep hI)
  refine wp_region_any hm (key _ _ a0 _ ?_ ?_)
  · unfold unl
    rw [Array.toList_replicate, List.countP_replicate]
    simp
  · rw [R.size]
    exact start_inv hS.drew hB hcs

/-- THE LAW, for a region in the order of its text. -/
theorem region_text' {id : Nat} {cs : List (List Value)} {ks : List Nat} (hS : St w0 k0 X cs ks w) (R : Reg P ops Q w0 k0 X its bl olds a0 (ad ks)) (hB : startB bl cs.length = true) (hcs : (bl.map (·.before)).take cs.length = cs) (hE : (∀ e ∈ bl, ∀ j, e.al = some j ∨ e.st = some j → j < its.length) ∧ ∀ e ∈ bl, e.fin.length = e.before.length)
    (hp : ∀ (new : List Nat) (w' : World), new.length = bl.length - cs.length → St w0 k0 X (bl.map Bl.fin) (ks ++ new) w' → Q .normal (puts (ad (ks ++ new)) its a0) w') : (Code.region id ops false).wp P Q a0 w := by
  obtain ⟨hst, hlenb⟩ := hE
  have key : ∀ (m i : Nat) (L : Array Bool) (a : Act) (w : World), i + m = its.length → (∀ j, j < its.length → on L j = decide (j < i)) → Inv ops its bl a0 w0 k0 X (ad ks) L a w → wpOps P ops Q (List.range' i m) a w := by
    intro m
    induction m with
    | zero =>
      intro i L a w hi hL hI
      exact hI.done R hS.len hB (fun j hj => by rw [hL j hj]; simp; omega) hst hlenb hp
    | succ m ih =>
      intro i L a w hi hL hI
      rw [List.range'_succ, wpOps_cons]
      have ho : ops[i]? = some (ops[i]'(by rw [R.size]; omega)) := Array.getElem?_eq_getElem _
      refine wpOp_mono (fun a' w' hI' => ih (i + 1) _ a' w' (by omega) (fun j hj => ?_) hI') (R.step ho (by rw [hL i (by omega)]; simp) (fun e he hb => ?_) hI)
      · rw [on_set (by rw [hI.size]; omega), hL j hj]
        by_cases h1 : j < i
        · simp [h1]; omega
        · by_cases h2 : i = j
          · subst h2; simp
          · have : ¬ j < i + 1 := by omega
            simp [h1, h2, this]
      · have hlt := (R.back ho).2 e he hb
        rw [hL e.on (by omega)]
        simpa using hlt
  refine wp_region ?_
  rw [List.range_eq_range', R.size]
  refine key its.length 0 (Array.replicate its.length false) a0 w (by omega) (fun j hj => ?_) (start_inv hS hB hcs)
  unfold on
  rw [Array.getD_eq_getD_getElem?, Array.getElem?_replicate, if_pos hj]
  simp
theorem region_draws {id : Nat} {cs : List (List Value)} {ks : List Nat} (hm : P.follows .mixedOrders = true) (hS : St w0 k0 X cs ks w) (R : Reg P ops Q w0 k0 X its bl olds a0 (ad ks)) (hB : startB bl cs.length = true) (hcs : (bl.map (·.before)).take cs.length = cs) (hE : endB its bl = true)
    (hp : ∀ (new : List Nat) (w' : World), new.length = bl.length - cs.length → St w0 k0 X (bl.map Bl.fin) (ks ++ new) w' → Q .normal (puts (ad (ks ++ new)) its a0) w') : (Code.region id ops true).wp P Q a0 w :=
  region_draws' hm hS R hB hcs (endB_st hE) hp
theorem region_text {id : Nat} {cs : List (List Value)} {ks : List Nat} (hS : St w0 k0 X cs ks w) (R : Reg P ops Q w0 k0 X its bl olds a0 (ad ks)) (hB : startB bl cs.length = true) (hcs : (bl.map (·.before)).take cs.length = cs) (hE : endB its bl = true)
    (hp : ∀ (new : List Nat) (w' : World), new.length = bl.length - cs.length → St w0 k0 X (bl.map Bl.fin) (ks ++ new) w' → Q .normal (puts (ad (ks ++ new)) its a0) w') : (Code.region id ops false).wp P Q a0 w :=
  region_text' hS R hB hcs (endB_st hE) hp
end Go.Proofs.Ytdeidgbknlmhjab.RG
