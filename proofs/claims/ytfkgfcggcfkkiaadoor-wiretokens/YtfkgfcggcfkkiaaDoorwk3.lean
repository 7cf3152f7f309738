import Derived.Orders
import Derived.Test.YtfkgfcggcfkkiaaDoorwk2
set_option linter.unusedVariables false
set_option linter.unusedSimpArgs false
namespace Go.Proofs.YtfkgfcggcfkkiaaDoor.RG
open Go Go.RowKit
variable {P : Program} {ops : Array Oper} {Q : Exit → Act → World → Prop} {w0 w : World} {k0 : Nat} {X : List Nat} {its : List It} {bl : List Bl} {olds : List (Tmp × SV)} {a0 : Act} {L : Array Bool} {μ μ0 : Nat → Nat}
def puts (μ : Nat → Nat) : List It → Act → Act
  | [], a => a
  | it :: r, a => puts μ r (a.put it.dst (it.out.at μ))
theorem puts_defers (μ : Nat → Nat) : ∀ (its : List It) (a : Act), (puts μ its a).defers = a.defers
  | [], _ => rfl
  | it :: r, a => by
    rw [puts, puts_defers μ r]
    cases it.dst <;> rfl
theorem put_size (a : Act) (d : Option Tmp) (v : Value) : (a.put d v).tmps.size = a.tmps.size := by
  cases d with
  | none => rfl
  | some d => exact Array.size_setIfInBounds ..
theorem puts_size (μ : Nat → Nat) : ∀ (its : List It) (a : Act), (puts μ its a).tmps.size = a.tmps.size
  | [], _ => rfl
  | it :: r, a => by rw [puts, puts_size μ r, put_size]
theorem put_other (a : Act) {d : Option Tmp} (v : Value) {t : Tmp} (h : d ≠ some t) : (a.put d v).tmps[t]? = a.tmps[t]? := by
  cases d with
  | none => rfl
  | some d =>
    show (a.tmps.setIfInBounds d v)[t]? = _
    rw [Array.getElem?_setIfInBounds, if_neg (fun e => h (by rw [e]))]
theorem puts_other (μ : Nat → Nat) : ∀ (its : List It) (a : Act) (t : Tmp), (∀ it ∈ its, it.dst ≠ some t) → (puts μ its a).tmps[t]? = a.tmps[t]?
  | [], _, _, _ => rfl
  | it :: r, a, t, h => by
    rw [puts, puts_other μ r _ t (fun x hx => h x (List.mem_cons_of_mem _ hx)), put_other a _ (h it List.mem_cons_self)]
theorem puts_same (μ : Nat → Nat) : ∀ (its : List It) (a : Act) (i : Nat) (it : It) (d : Tmp), dstB its = true → its[i]? = some it → it.dst = some d → d < a.tmps.size → (puts μ its a).tmps[d]? = some (it.out.at μ)
  | [], _, i, _, _, _, h, _, _ => by simp at h
  | x :: r, a, 0, it, d, hB, h, hd, hs => by
    obtain rfl : x = it := by simpa using h
    simp only [dstB, Bool.and_eq_true, hd] at hB
    rw [puts, puts_other μ r _ d (fun y hy => by simpa using List.all_eq_true.1 hB.1 y hy), hd]
    show (a.tmps.setIfInBounds d _)[d]? = _
    rw [Array.getElem?_setIfInBounds, if_pos rfl, if_pos hs]
  | x :: r, a, i + 1, it, d, hB, h, hd, hs => by
    simp only [dstB, Bool.and_eq_true] at hB
    rw [puts]
    exact puts_same μ r _ i it d hB.2 (by simpa using h) hd (by rw [put_size]; exact hs)
theorem Act.ext' {a b : Act} (h1 : a.tmps = b.tmps) (h2 : a.defers = b.defers) : a = b := by
  cases a; cases b; subst h1; subst h2; rfl
theorem Ac.done {a : Act} (h : Ac its bl a0 L μ a) (hB : dstB its = true) (hin : ∀ it ∈ its, ∀ d, it.dst = some d → d < a0.tmps.size) (hall : ∀ i, i < its.length → on L i = true) : a = puts μ its a0 := by
  refine Act.ext' ?_ (by rw [puts_defers]; exact h.defers)
  apply Array.ext_getElem?
  intro t
  by_cases ht : ∃ (i : Nat) (it : It), its[i]? = some it ∧ it.dst = some t
  · obtain ⟨i, it, hi, hd⟩ := ht
    rw [(h.got i it t hi (hall i (List.getElem?_eq_some_iff.1 hi).1) hd).1, puts_same μ its a0 i it t hB hi hd (hin it (List.mem_of_getElem? hi) t hd)]
  · rw [h.rest t (fun i it hi _ hd => ht ⟨i, it, hi, hd⟩), puts_other μ its a0 t (fun it hm hd => ?_)]
    obtain ⟨i, hi⟩ := List.getElem?_of_mem hm
    exact ht ⟨i, it, hi, hd⟩
def unl (L : Array Bool) : Nat := L.toList.countP (fun b => !b)
theorem count_set : ∀ (l : List Bool) (i : Nat), l[i]? = some false → (l.set i true).countP (fun b => !b) + 1 = l.countP (fun b => !b)
  | [], i, h => by simp at h
  | x :: r, 0, h => by
    obtain rfl : x = false := by simpa using h
    simp
  | x :: r, i + 1, h => by
    have := count_set r i (by simpa using h)
    rw [List.set_cons_succ, List.countP_cons, List.countP_cons]
    omega
theorem unl_set {i : Nat} (h : L.getD i true = false) : unl (L.setIfInBounds i true) + 1 = unl L := by
  unfold unl
  rw [Array.toList_setIfInBounds]
  refine count_set _ _ ?_
  rw [Array.getElem?_toList]
  rw [Array.getD_eq_getD_getElem?] at h
  cases hh : L[i]? with
  | none => rw [hh] at h; cases h
  | some b => rw [hh] at h; rw [show b = false from h]
theorem unl_zero (h : unl L = 0) (i : Nat) (hi : i < L.size) : on L i = true := by
  have h1 := List.countP_eq_zero.1 h
  have h2 := h1 L[i] (by simp)
  unfold on
  rw [Array.getD_eq_getD_getElem?, Array.getElem?_eq_getElem hi]
  simpa using h2
/-- All that is asked of a region's rows. -/
structure Reg (P : Program) (ops : Array Oper) (Q : Exit → Act → World → Prop) (w0 : World) (k0 : Nat) (X : List Nat) (its : List It) (bl : List Bl) (olds : List (Tmp × SV)) (a0 : Act) (μ0 : Nat → Nat) : Prop where
  chk : allB ops its bl olds a0.tmps.size = true
  old : ∀ (t : Tmp) (s : SV), (t, s) ∈ olds → a0.tmps[t]? = some (s.at μ0)
  cert : ∀ (i : Nat) (o : Oper) (it : It), ops[i]? = some o → its[i]? = some it → Cert P Q w0 k0 X ops i its bl olds o it
theorem Reg.step {i : Nat} {o : Oper} {a : Act} (R : Reg P ops Q w0 k0 X its bl olds a0 μ0) (ho : ops[i]? = some o) (hun : on L i = false) (hdep : ∀ e ∈ o.after, Region.binds .any e = true → on L e.on = true) (h : Inv ops its bl a0 w0 k0 X μ0 L a w) :
    wpOp P ops Q i (Inv ops its bl a0 w0 k0 X μ0 (L.setIfInBounds i true)) a w := by
  have hk := R.chk
  simp only [allB, Bool.and_eq_true, beq_iff_eq] at hk
  obtain ⟨⟨⟨⟨hsz, hd⟩, hold⟩, hin⟩, hok⟩ := hk
  have hi : i < its.length := by rw [← hsz]; exact (Array.getElem?_eq_some_iff.1 ho).1
  obtain ⟨it, hit⟩ : ∃ it, its[i]? = some it := ⟨its[i], List.getElem?_eq_getElem hi⟩
  have h1 := List.all_eq_true.1 hok i (List.mem_range.2 hi)
  rw [ho, hit] at h1
  refine RG.step (olds := olds) hd ho hit h1 (fun d hdd => ?_) (fun t s hm => ?_) (fun j oj jt hoj hjt => ?_) hsz (R.cert i o it ho hit) hun hdep h
  · have := List.all_eq_true.1 hin it (List.mem_of_getElem? hit)
    rw [hdd] at this
    simpa using this
  · have h2 := List.all_eq_true.1 hold (t, s) hm
    refine ⟨R.old t s hm, fun b hbx => ?_⟩
    have h3 := h2
    dsimp only at h3
    rw [hbx] at h3
    dsimp only at h3
    cases he : bl[b]? with
    | none => rw [he] at h3; cases h3
    | some e => rw [he] at h3; exact ⟨e, rfl, by simpa using h3⟩
  · have h4 := List.all_eq_true.1 hok j (List.mem_range.2 (List.getElem?_eq_some_iff.1 hjt).1)
    rw [hoj, hjt] at h4
    simp only [okB, Bool.and_eq_true] at h4
    simpa using h4.1.1.1.1
theorem Reg.back {i : Nat} {o : Oper} (R : Reg P ops Q w0 k0 X its bl olds a0 μ0) (ho : ops[i]? = some o) : i < its.length ∧ ∀ e ∈ o.after, Region.binds .any e = true → e.on < i := by
  have hk := R.chk
  simp only [allB, Bool.and_eq_true, beq_iff_eq] at hk
  obtain ⟨⟨⟨⟨hsz, hd⟩, hold⟩, hin⟩, hok⟩ := hk
  have hi : i < its.length := by rw [← hsz]; exact (Array.getElem?_eq_some_iff.1 ho).1
  have h1 := List.all_eq_true.1 hok i (List.mem_range.2 hi)
  rw [ho, List.getElem?_eq_getElem hi] at h1
  simp only [okB, Bool.and_eq_true] at h1
  refine ⟨hi, fun e he hb => ?_⟩
  have := Array.all_eq_true'.1 h1.1.1.2 e he
  simpa [hb] using this
theorem Reg.size (R : Reg P ops Q w0 k0 X its bl olds a0 μ0) : ops.size = its.length := by
  have hk := R.chk
  simp only [allB, Bool.and_eq_true, beq_iff_eq] at hk
  exact hk.1.1.1.1
theorem Reg.full {a : Act} (R : Reg P ops Q w0 k0 X its bl olds a0 μ0) (h : Inv ops its bl a0 w0 k0 X μ0 L a w) (hr : Region.ready .any ops L = []) : ∀ i, i < its.length → on L i = true := by
  intro i
  induction i using Nat.strongRecOn with
  | ind i ih =>
    intro hi
    have ho : ops[i]? = some (ops[i]'(by rw [R.size]; exact hi)) := Array.getElem?_eq_getElem _
    cases hon : on L i with
    | true => rfl
    | false =>
      have : i ∈ Region.ready .any ops L := mem_ready.2 ⟨?_, _, ho, fun e he hb => ?_⟩
      · rw [hr] at this; cases this
      · unfold on at hon
        rw [Array.getD_eq_getD_getElem?, Array.getElem?_eq_getElem (by rw [h.size]; exact hi)] at hon ⊢
        exact hon
      · have hlt := (R.back ho).2 e he hb
        exact ih e.on hlt (Nat.lt_trans hlt hi)
/-- Blocks and what lies in them. -/
def ad (ks : List Nat) (b : Nat) : Nat := ks.getD b 0
structure St (w0 : World) (k0 : Nat) (X : List Nat) (cs : List (List Value)) (ks : List Nat) (w : World) : Prop where
  bel : BelX k0 X w0 w
  le : k0 ≤ w.heap.size
  len : ks.length = cs.length
  has : ∀ (b : Nat) (c : List Value), cs[b]? = some c → w.rangeAt (ad ks b) 0 c ∧ w.there (ad ks b) 0 c.length ∧ ad ks b < w.heap.size ∧ (k0 ≤ ad ks b ∨ ad ks b ∈ X)
  inj : ∀ (b c : Nat), b < cs.length → c < cs.length → b ≠ c → ad ks b ≠ ad ks c
theorem St.drew {cs : List (List Value)} {ks : List Nat} (h : St w0 k0 X cs ks w) : St w0 k0 X cs ks w.drew := ⟨h.bel.drew, h.le, h.len, h.has, h.inj⟩
def Bl.fin (e : Bl) : List Value := if e.st.isSome = true then e.after else e.before
def startB (bl : List Bl) (n : Nat) : Bool := bl.zipIdx.all (fun x => x.1.al.isNone == decide (x.2 < n)) && decide (n ≤ bl.length)
theorem start_inv {ops : Array Oper} {cs : List (List Value)} {ks : List Nat} (hS : St w0 k0 X cs ks w) (hB : startB bl cs.length = true) (hcs : (bl.map (·.before)).take cs.length = cs) :
    Inv ops its bl a0 w0 k0 X (ad ks) (Array.replicate its.length false) a0 w := by
  simp only [startB, Bool.and_eq_true] at hB
  have hoff : ∀ i, on (Array.replicate its.length false) i = false := fun i => by
    unfold on
    rw [Array.getD_eq_getD_getElem?, Array.getElem?_replicate]
    by_cases h : i < its.length
    · rw [if_pos h]; rfl
    · rw [if_neg h]; rfl
  have hlive : ∀ (b : Nat) (e : Bl), bl[b]? = some e → e.live (Array.replicate its.length false) = true → b < cs.length := fun b e hb hl => by
    have h1 := zip_all hB.1 b e hb
    unfold Bl.live at hl
    cases ha : e.al with
    | none => simpa [ha] using h1
    | some j => rw [ha] at hl; have : on (Array.replicate its.length false) j = true := hl; rw [hoff] at this; cases this
  have hput : ∀ e : Bl, e.put (Array.replicate its.length false) = false := fun e => by
    unfold Bl.put
    cases e.st with
    | none => rfl
    | some j => exact hoff j
  have hget : ∀ (b : Nat) (e : Bl), bl[b]? = some e → b < cs.length → cs[b]? = some e.before := fun b e hb hlt => by
    rw [← hcs, List.getElem?_take, if_pos hlt, List.getElem?_map, hb]
    rfl
  refine ⟨Array.size_replicate, (fun i o _ h => by rw [hoff] at h; cases h), ad ks, fun _ _ _ _ => rfl, ⟨rfl, rfl, fun i it d hi ho => ?_, fun _ _ => rfl⟩, ⟨hS.bel, hS.le, fun b e hb hl => ?_, fun b c e f hb hc he hf hbc => hS.inj b c (hlive b e hb he) (hlive c f hc hf) hbc⟩, fun b e hb hp => ?_⟩
  · rw [hoff] at ho; cases ho
  · unfold Bl.now
    rw [hput e]
    exact hS.has b e.before (hget b e hb (hlive b e hb hl))
  · rw [hput e] at hp; cases hp
theorem Inv.done {a : Act} {cs : List (List Value)} {ks : List Nat} (R : Reg P ops Q w0 k0 X its bl olds a0 (ad ks)) (h : Inv ops its bl a0 w0 k0 X (ad ks) L a w) (hlen : ks.length = cs.length) (hB : startB bl cs.length = true) (hall : ∀ i, i < its.length → on L i = true)
    (hst : ∀ e ∈ bl, ∀ j, e.al = some j ∨ e.st = some j → j < its.length) (hlenb : ∀ e ∈ bl, e.fin.length = e.before.length)
    (hp : ∀ (new : List Nat) (w' : World), new.length = bl.length - cs.length → St w0 k0 X (bl.map Bl.fin) (ks ++ new) w' → Q .normal (puts (ad (ks ++ new)) its a0) w') : Q .normal a w := by
  obtain ⟨hsz, -, μ, hμ, hA, hW, hO⟩ := h
  have hk := R.chk
  simp only [allB, Bool.and_eq_true, beq_iff_eq] at hk
  obtain ⟨⟨⟨⟨hsz2, hd⟩, hold⟩, hin⟩, hok⟩ := hk
  have hB' := hB
  simp only [startB, Bool.and_eq_true, decide_eq_true_eq] at hB
  have hlive : ∀ (b : Nat) (e : Bl), bl[b]? = some e → e.live L = true := fun b e hb => by
    unfold Bl.live
    cases ha : e.al with
    | none => rfl
    | some j => exact hall j (hst e (List.mem_of_getElem? hb) j (Or.inl ha))
  have hnow : ∀ (b : Nat) (e : Bl), bl[b]? = some e → e.now L = e.fin := fun b e hb => by
    unfold Bl.now Bl.put Bl.fin
    cases ha : e.st with
    | none => rfl
    | some j =>
      have := hall j (hst e (List.mem_of_getElem? hb) j (Or.inr ha))
      simp [this]
  have hnew : ∀ b, b < bl.length → ad (ks ++ (List.range (bl.length - cs.length)).map (fun j => μ (cs.length + j))) b = μ b := fun b hb => by
    unfold ad
    rw [List.getD_eq_getElem?_getD]
    by_cases hlt : b < cs.length
    · rw [List.getElem?_append_left (by rw [hlen]; exact hlt)]
      obtain ⟨e, he⟩ : ∃ e, bl[b]? = some e := ⟨bl[b], List.getElem?_eq_getElem hb⟩
      have h1 := zip_all hB.1 b e he
      have h2 : e.al = none := by simpa [hlt] using h1
      rw [hμ b e he h2]
      unfold ad
      rw [List.getD_eq_getElem?_getD]
    · rw [List.getElem?_append_right (by rw [hlen]; omega), List.getElem?_map, hlen, List.getElem?_range (by omega)]
      show μ (cs.length + (b - cs.length)) = μ b
      congr 1
      omega
  have hact := hA.done hd (fun it hm d hdd => by
    have := List.all_eq_true.1 hin it hm
    rw [hdd] at this
    simpa using this) hall
  have hpe : puts μ its a0 = puts (ad (ks ++ (List.range (bl.length - cs.length)).map (fun j => μ (cs.length + j)))) its a0 := by
    have key : ∀ it ∈ its, ∀ d, it.dst = some d → it.out.at μ = it.out.at (ad (ks ++ (List.range (bl.length - cs.length)).map (fun j => μ (cs.length + j)))) := fun it hm d hdd => by
      obtain ⟨i, hi⟩ := List.getElem?_of_mem hm
      have hg := (hA.got i it d hi (hall i (List.getElem?_eq_some_iff.1 hi).1) hdd).2
      refine SV.at_congr fun b hb => ?_
      obtain ⟨e, he, -⟩ := hg b hb
      rw [hnew b (List.getElem?_eq_some_iff.1 he).1]
    clear hA hact hold hok hin hd hsz2 hsz R hall hst hp
    generalize a0 = a1
    induction its generalizing a1 with
    | nil => rfl
    | cons it r ih =>
      rw [puts, puts]
      have h1 : a1.put it.dst (it.out.at μ) = a1.put it.dst (it.out.at (ad (ks ++ (List.range (bl.length - cs.length)).map (fun j => μ (cs.length + j))))) := by
        cases hdd : it.dst with
        | none => rfl
        | some d => rw [key it List.mem_cons_self d hdd]
      rw [h1]
      exact ih (fun x hx => key x (List.mem_cons_of_mem _ hx)) _
  rw [hact, hpe]
  refine hp _ w (by simp) ⟨hW.bel, hW.le, ?_, fun b c hc => ?_, fun b c hb hc hbc => ?_⟩
  · simp only [List.length_append, List.length_map, List.length_range]
    omega
  · rw [List.getElem?_map] at hc
    cases he : bl[b]? with
    | none => rw [he] at hc; cases hc
    | some e =>
      rw [he] at hc
      obtain rfl : e.fin = c := Option.some.inj hc
      have h1 := hW.has b e he (hlive b e he)
      rw [hnow b e he] at h1
      rw [hnew b (List.getElem?_eq_some_iff.1 he).1, hlenb e (List.mem_of_getElem? he)]
      exact h1
  · rw [List.length_map] at hb hc
    rw [hnew b hb, hnew c hc]
    exact hW.inj b c _ _ (List.getElem?_eq_getElem hb) (List.getElem?_eq_getElem hc) (hlive b _ (List.getElem?_eq_getElem hb)) (hlive c _ (List.getElem?_eq_getElem hc)) hbc
def endB (its : List It) (bl : List Bl) : Bool :=
  bl.all (fun e => (match e.al with | none => true | some j => decide (j < its.length)) && (match e.st with | none => true | some j => decide (j < its.length)) && e.fin.length == e.before.length)
theorem endB_st (h : endB its bl = true) : (∀ e ∈ bl, ∀ j, e.al = some j ∨ e.st = some j → j < its.length) ∧ ∀ e ∈ bl, e.fin.length = e.before.length := by
  refine ⟨fun e he j hj => ?_, fun e he => ?_⟩
  · have := List.all_eq_true.1 h e he
    simp only [Bool.and_eq_true] at this
    rcases hj with hj | hj
    · rw [hj] at this; simpa using this.1.1
    · rw [hj] at this; simpa using this.1.2
  · have := List.all_eq_true.1 h e he
    simp only [Bool.and_eq_true, beq_iff_eq] at this
    exact this.2
/-- THE LAW, for a region that draws its order. -/
theorem region_draws' {id : Nat} {cs : List (List Value)} {ks : List Nat} (hm : P.follows .mixedOrders = true) (hS : St w0 k0 X cs ks w) (R : Reg P ops Q w0 k0 X its bl olds a0 (ad ks)) (hB : startB bl cs.length = true) (hcs : (bl.map (·.before)).take cs.length = cs) (hE : (∀ e ∈ bl, ∀ j, e.al = some j ∨ e.st = some j → j < its.length) ∧ ∀ e ∈ bl, e.fin.length = e.before.length)
    (hp : ∀ (new : List Nat) (w' : World), new.length = bl.length - cs.length → St w0 k0 X (bl.map Bl.fin) (ks ++ new) w' → Q .normal (puts (ad (ks ++ new)) its a0) w') : (Code.region id ops true).wp P Q a0 w := by
  obtain ⟨hst, hlenb⟩ := hE
  have key : ∀ (fuel : Nat) (L : Array Bool) (a : Act) (w : World), unl L = fuel → Inv ops its bl a0 w0 k0 X (ad ks) L a w → wpAny P .any ops Q fuel L a w := by
    intro fuel
    induction fuel with
    | zero =>
      intro L a w hu hI
      have hall : ∀ i, i < its.length → on L i = true := fun i hi => unl_zero hu i (by rw [hI.size]; exact hi)
      refine ⟨?_, hI.done R hS.len hB hall hst hlenb hp⟩
      apply List.eq_nil_iff_forall_not_mem.2
      intro i hi
      obtain ⟨h1, o, ho, -⟩ := mem_ready.1 hi
      have h2 := hall i (R.back ho).1
      unfold on at h2
      rw [Array.getD_eq_getD_getElem?] at h1 h2
      cases hh : L[i]? with
      | none => rw [hh] at h1; cases h1
      | some b => rw [hh] at h1 h2; rw [show b = false from h1] at h2; cases h2
    | succ fuel ih =>
      intro L a w hu hI
      refine ⟨fun hr => hI.done R hS.len hB (R.full hI hr) hst hlenb hp, fun i hi => ?_⟩
      obtain ⟨h1, o, ho, hdep⟩ := mem_ready.1 hi
      have hoff : on L i = false := by
        unfold on
        rw [Array.getD_eq_getD_getElem?] at h1 ⊢
        cases hh : L[i]? with
        | none => rfl
        | some b => rw [hh] at h1; exact h1
      exact wpOp_mono (fun a' w' hI' => ih _ a' w' (by have := unl_set h1; omega) hI') (R.step ho hoff hdep hI)
  refine wp_region_any hm (key _ _ a0 _ ?_ ?_)
  · unfold unl
    rw [Array.toList_replicate, List.countP_replicate]
    simp
  · rw [R.size]
    exact start_inv hS.drew hB hcs
/-- THE LAW, for a region in the order of its text. -/
theorem region_text' {id : Nat} {cs : List (List Value)} {ks : List Nat} (hS : St w0 k0 X cs ks w) (R : Reg P ops Q w0 k0 X its bl olds a0 (ad ks)) (hB : startB bl cs.length = true) (hcs : (bl.map (·.before)).take cs.length = cs) (hE : (∀ e ∈ bl, ∀ j, e.al = some j ∨ e.st = some j → j < its.length) ∧ ∀ e ∈ bl, e.fin.length = e.before.length)
    (hp : ∀ (new : List Nat) (w' : World), new.length = bl.length - cs.length → St w0 k0 X (bl.map Bl.fin) (ks ++ new) w' → Q .normal (puts (ad (ks ++ new)) its a0) w') : (Code.region id ops false).wp P Q a0 w := by
  obtain ⟨hst, hlenb⟩ := hE
  have key : ∀ (m i : Nat) (L : Array Bool) (a : Act) (w : World), i + m = its.length → (∀ j, j < its.length → on L j = decide (j < i)) → Inv ops its bl a0 w0 k0 X (ad ks) L a w → wpOps P ops Q (List.range' i m) a w := by
    intro m
    induction m with
    | zero =>
      intro i L a w hi hL hI
      exact hI.done R hS.len hB (fun j hj => by rw [hL j hj]; simp; omega) hst hlenb hp
    | succ m ih =>
      intro i L a w hi hL hI
      rw [List.range'_succ, wpOps_cons]
      have ho : ops[i]? = some (ops[i]'(by rw [R.size]; omega)) := Array.getElem?_eq_getElem _
      refine wpOp_mono (fun a' w' hI' => ih (i + 1) _ a' w' (by omega) (fun j hj => ?_) hI') (R.step ho (by rw [hL i (by omega)]; simp) (fun e he hb => ?_) hI)
      · rw [on_set (by rw [hI.size]; omega), hL j hj]
        by_cases h1 : j < i
        · simp [h1]; omega
        · by_cases h2 : i = j
          · subst h2; simp
          · have : ¬ j < i + 1 := by omega
            simp [h1, h2, this]
      · have hlt := (R.back ho).2 e he hb
        rw [hL e.on (by omega)]
        simpa using hlt
  refine wp_region ?_
  rw [List.range_eq_range', R.size]
  refine key its.length 0 (Array.replicate its.length false) a0 w (by omega) (fun j hj => ?_) (start_inv hS hB hcs)
  unfold on
  rw [Array.getD_eq_getD_getElem?, Array.getElem?_replicate, if_pos hj]
  simp
theorem region_draws {id : Nat} {cs : List (List Value)} {ks : List Nat} (hm : P.follows .mixedOrders = true) (hS : St w0 k0 X cs ks w) (R : Reg P ops Q w0 k0 X its bl olds a0 (ad ks)) (hB : startB bl cs.length = true) (hcs : (bl.map (·.before)).take cs.length = cs) (hE : endB its bl = true)
    (hp : ∀ (new : List Nat) (w' : World), new.length = bl.length - cs.length → St w0 k0 X (bl.map Bl.fin) (ks ++ new) w' → Q .normal (puts (ad (ks ++ new)) its a0) w') : (Code.region id ops true).wp P Q a0 w :=
  region_draws' hm hS R hB hcs (endB_st hE) hp
theorem region_text {id : Nat} {cs : List (List Value)} {ks : List Nat} (hS : St w0 k0 X cs ks w) (R : Reg P ops Q w0 k0 X its bl olds a0 (ad ks)) (hB : startB bl cs.length = true) (hcs : (bl.map (·.before)).take cs.length = cs) (hE : endB its bl = true)
    (hp : ∀ (new : List Nat) (w' : World), new.length = bl.length - cs.length → St w0 k0 X (bl.map Bl.fin) (ks ++ new) w' → Q .normal (puts (ad (ks ++ new)) its a0) w') : (Code.region id ops false).wp P Q a0 w :=
  region_text' hS R hB hcs (endB_st hE) hp
end Go.Proofs.YtfkgfcggcfkkiaaDoor.RG
namespace Go.Proofs.YtfkgfcggcfkkiaaDoor.RG
open Go Go.RowKit
variable {P : Program} {Q : Exit → Act → World → Prop} {its : List It} {bl : List Bl} {olds : List (Tmp × SV)} {ops : Array Oper} {i : Nat} {o : Oper} {it : It} {w0 : World} {k0 : Nat} {X : List Nat}
theorem cert_stay (hk : it.kind = .stay) (hrun : ∀ (μ : Nat → Nat) (a : Act) (w : World), Known ops i its olds it.need μ a → BelX k0 X w0 w → (execOp a.eval o).run P w = .ok (.value (it.out.at μ)) w) : Cert P Q w0 k0 X ops i its bl olds o it := by
  intro μ a w K hK _ hbel
  rw [hk]
  intro h
  unfold Oper.wp
  rw [hrun μ a w hK hbel]
  exact h
theorem cert_load (hk : it.kind = .stay) (b off : Nat) (e : Bl) (hb : bl[b]? = some e) (hal : e.al = none) (hst : readB ops i e = true) (T : TypeId) (t : Tmp) (ho : o.op = .load T (.tmp t)) (cs : List Value) (hout : it.out = .v (.agg cs.toArray))
    (hx : ∀ (μ : Nat → Nat) (a : Act), Known ops i its olds it.need μ a → a.eval (.tmp t) = (SV.p b off).at μ) (hsub : (e.before.drop off).take cs.length = cs)
    (hu : (P.underlying T).map (·.isRow) = some true) (hi : (P.info? T).map (·.size) = some cs.length) : Cert P Q w0 k0 X ops i its bl olds o it := by
  intro μ a w K hK hR _
  rw [hk]
  intro h
  rw [hout] at h
  obtain ⟨d, hu, hd⟩ := Option.map_eq_some_iff.1 hu
  refine wp_load_mid T (.tmp t) ho (μ b) off (hx μ a hK) cs d (fun j v hj => ?_) hu hd hi h
  have h1 := hR b e hb (Or.inl hal) hst (off + j) v ?_
  · rw [Nat.zero_add] at h1; exact h1
  · rw [← hsub] at hj
    have hlt : j < cs.length := by
      have h2 := (List.getElem?_eq_some_iff.1 hj).1
      rw [hsub] at h2
      exact h2
    rw [List.getElem?_take, if_pos hlt, List.getElem?_drop] at hj
    exact hj
/-- A cell of one word, a slice, a pointer: no row. -/
theorem cert_call (hk : it.kind = .call) (f : FuncId) (args : Array Value) (v : Value) (hout : it.out = .v v) (hrun : ∀ (μ : Nat → Nat) (a : Act) (w : World), Known ops i its olds it.need μ a → BelX k0 X w0 w → (execOp a.eval o).run P w = .ok (.enter f args) w)
    (hc : ∀ w, BelX k0 X w0 w → Calls P f args w (Ret fun e w' => Below w.heap.size w w' ∧ e = v)) : Cert P Q w0 k0 X ops i its bl olds o it := by
  intro μ a w K hK _ hbel
  rw [hk]
  intro h
  rw [hout] at h
  unfold Oper.wp
  rw [hrun μ a w hK hbel, Oper.upon_enter]
  refine (hc w hbel).mono ?_
  rintro e w' ⟨v', rfl, hb, rfl⟩
  exact h w' hb
theorem cert_make (b : Nat) (hk : it.kind = .make b) (e : Bl) (hb : bl[b]? = some e) (t : TypeId) (hrun : ∀ (μ : Nat → Nat) (a : Act) (w : World), Known ops i its olds it.need μ a → BelX k0 X w0 w → (execOp a.eval o).run P w = .ok (.value (it.out.at (upd μ b w.heap.size))) (w.alloc (.cells e.before.toArray t))) : Cert P Q w0 k0 X ops i its bl olds o it := by
  intro μ a w K hK _ hbel
  rw [hk]
  intro e' hb' h
  rw [hb] at hb'
  obtain rfl : e = e' := Option.some.inj hb'
  unfold Oper.wp
  rw [hrun μ a w hK hbel]
  exact h _ _ (Made.alloc w e.before t)
theorem cert_put (b : Nat) (hk : it.kind = .put b) (e : Bl) (hb : bl[b]? = some e) (T : TypeId) (x y : Operand) (ho : o.op = .store T x y) (hdn : o.dst = none) (hlen : e.after.length = e.before.length)
    (hx : ∀ (μ : Nat → Nat) (a : Act), Known ops i its olds it.need μ a → a.eval x = (SV.p b 0).at μ) (hy : ∀ (μ : Nat → Nat) (a : Act), Known ops i its olds it.need μ a → a.eval y = .agg e.after.toArray)
    (hi : (P.info? T).map (·.size) = some e.after.length) (h1 : e.after.all (·.oneCell') = true) : Cert P Q w0 k0 X ops i its bl olds o it := by
  intro μ a w K hK _ _
  rw [hk]
  intro e' hb' ht hr h
  rw [hb] at hb'
  obtain rfl : e = e' := Option.some.inj hb'
  have hPT := PutTo.whole ht hr hlen
  refine wp_store_mid T x y ho (μ b) 0 e.after.toArray (hx μ a hK) (hy μ a hK) ?_ ?_ ?_ ?_
  · rw [List.size_toArray, hlen]; exact ht
  · rw [List.size_toArray]; exact hi
  · exact all_oneCell_toArray (fun v hv => List.all_eq_true.1 h1 v hv)
  · have := h _ hPT
    rw [hdn] at this ⊢
    exact this
theorem Known.op {need : List (Tmp × Nat)} {μ : Nat → Nat} {a : Act} (h : Known ops i its olds need μ a) (t : Tmp) (j : Nat) (hm : (t, j) ∈ need) {jt : It} (hj : its[j]? = some jt) : a.eval (.tmp t) = jt.out.at μ := h.1 t j jt hm hj
theorem Known.old {need : List (Tmp × Nat)} {μ : Nat → Nat} {a : Act} (h : Known ops i its olds need μ a) (t : Tmp) (s : SV) (hm : (t, s) ∈ olds) (hf : freeB ops its i t = true) : a.eval (.tmp t) = s.at μ := h.2 t s hm hf
theorem len1 {l : List Nat} (h : l.length = 1) : ∃ k, l = [k] := List.length_eq_one_iff.1 h
theorem len0 {l : List Nat} (h : l.length = 0) : l = [] := List.length_eq_zero_iff.1 h
theorem len2 {l : List Nat} (h : l.length = 2) : ∃ k j, l = [k, j] := by
  match l, h with
  | [k, j], _ => exact ⟨k, j, rfl⟩
end Go.Proofs.YtfkgfcggcfkkiaaDoor.RG
set_option linter.unusedVariables false
set_option linter.unusedSimpArgs false
namespace Go.Proofs.YtfkgfcggcfkkiaaDoor.RG
open Go Go.RowKit
variable {P : Program} {ops : Array Oper} {Q : Exit → Act → World → Prop} {w0 w : World} {k0 : Nat} {X : List Nat} {its : List It} {bl : List Bl} {olds : List (Tmp × SV)} {a0 : Act} {L : Array Bool} {μ μ0 : Nat → Nat} {i : Nat} {o : Oper} {it : It}
def Certs (P : Program) (Q : Exit → Act → World → Prop) (w0 : World) (k0 : Nat) (X : List Nat) (ops : Array Oper) (its : List It) (bl : List Bl) (olds : List (Tmp × SV)) : Nat → List Oper → List It → Prop
  | _, [], _ => True
  | _, _ :: _, [] => False
  | i, o :: os, it :: is => Cert P Q w0 k0 X ops i its bl olds o it ∧ Certs P Q w0 k0 X ops its bl olds (i + 1) os is
theorem Certs.get : ∀ {os : List Oper} {is : List It} {n : Nat}, Certs P Q w0 k0 X ops its bl olds n os is → ∀ (i : Nat) (o : Oper) (it : It), os[i]? = some o → is[i]? = some it → Cert P Q w0 k0 X ops (n + i) its bl olds o it
  | [], _, _, _, i, _, _, h, _ => by simp at h
  | _ :: _, [], _, h, _, _, _, _, _ => h.elim
  | o :: os, it :: is, _, h, 0, o', it', ho, hi => by
    obtain rfl : o = o' := by simpa using ho
    obtain rfl : it = it' := by simpa using hi
    exact h.1
  | o :: os, it :: is, n, h, i + 1, o', it', ho, hi => by
    have := Certs.get h.2 i o' it' (by simpa using ho) (by simpa using hi)
    rw [show n + (i + 1) = n + 1 + i by omega]
    exact this
def Olds (a0 : Act) (μ0 : Nat → Nat) : List (Tmp × SV) → Prop
  | [] => True
  | x :: r => a0.tmps[x.1]? = some (x.2.at μ0) ∧ Olds a0 μ0 r
theorem Olds.get : ∀ {l : List (Tmp × SV)}, Olds a0 μ0 l → ∀ (t : Tmp) (s : SV), (t, s) ∈ l → a0.tmps[t]? = some (s.at μ0)
  | [], _, _, _, h => by cases h
  | x :: r, h, t, s, hm => by
    rcases List.mem_cons.1 hm with e | e
    · subst e; exact h.1
    · exact Olds.get h.2 t s e
theorem Reg.mk' (chk : allB ops its bl olds a0.tmps.size = true) (old : Olds a0 μ0 olds) (cert : Certs P Q w0 k0 X ops its bl olds 0 ops.toList its) : Reg P ops Q w0 k0 X its bl olds a0 μ0 :=
  ⟨chk, fun t s hm => old.get t s hm, fun i o it ho hi => by have := cert.get i o it (by rw [Array.getElem?_toList]; exact ho) hi; rwa [Nat.zero_add] at this⟩
theorem cert_field (hk : it.kind = .stay) (T : TypeId) (t : Tmp) (f : Nat) (ho : o.op = .fieldAddr T (.tmp t) f) (b off off' : Nat) (hout : it.out = .p b off')
    (hx : ∀ (μ : Nat → Nat) (a : Act), Known ops i its olds it.need μ a → a.eval (.tmp t) = (SV.p b off).at μ)
    (hf : ∀ (k : Nat) (w : World), (Instr.fieldAt T (.pointer (some ⟨k, off, none⟩)) f).run P w = .ok (.pointer (some ⟨k, off', none⟩)) w) : Cert P Q w0 k0 X ops i its bl olds o it := by
  refine cert_stay hk fun μ a w hK _ => ?_
  unfold execOp
  rw [ho, hout]
  dsimp only
  rw [hx μ a hK]
  show ((Instr.fieldAt T (.pointer (some ⟨μ b, off, none⟩)) f) >>= fun v => pure (Next.value v)).run P w = _
  rw [Sem.run_bind, hf]
  rfl
theorem cert_call1 (hk : it.kind = .call) (f : FuncId) (t1 : Tmp) (v1 v : Value) (hout : it.out = .v v) (hrun : ∀ (a : Act) (w : World), (execOp a.eval o).run P w = .ok (.enter f #[a.eval (.tmp t1)]) w)
    (h1 : ∀ (μ : Nat → Nat) (a : Act), Known ops i its olds it.need μ a → a.eval (.tmp t1) = v1) (hc : ∀ w, Calls P f #[v1] w (Ret fun e w' => Below w.heap.size w w' ∧ e = v)) : Cert P Q w0 k0 X ops i its bl olds o it :=
  cert_call hk f #[v1] v hout (fun μ a w hK _ => by rw [hrun, h1 μ a hK]) (fun w _ => hc w)
theorem cert_call2 (hk : it.kind = .call) (f : FuncId) (t1 t2 : Tmp) (v1 v2 v : Value) (hout : it.out = .v v) (hrun : ∀ (a : Act) (w : World), (execOp a.eval o).run P w = .ok (.enter f #[a.eval (.tmp t1), a.eval (.tmp t2)]) w)
    (h1 : ∀ (μ : Nat → Nat) (a : Act), Known ops i its olds it.need μ a → a.eval (.tmp t1) = v1) (h2 : ∀ (μ : Nat → Nat) (a : Act), Known ops i its olds it.need μ a → a.eval (.tmp t2) = v2)
    (hc : ∀ w, Calls P f #[v1, v2] w (Ret fun e w' => Below w.heap.size w w' ∧ e = v)) : Cert P Q w0 k0 X ops i its bl olds o it :=
  cert_call hk f #[v1, v2] v hout (fun μ a w hK _ => by rw [hrun, h1 μ a hK, h2 μ a hK]) (fun w _ => hc w)
theorem cert_call3 (hk : it.kind = .call) (f : FuncId) (t1 t2 t3 : Tmp) (v1 v2 v3 v : Value) (hout : it.out = .v v) (hrun : ∀ (a : Act) (w : World), (execOp a.eval o).run P w = .ok (.enter f #[a.eval (.tmp t1), a.eval (.tmp t2), a.eval (.tmp t3)]) w)
    (h1 : ∀ (μ : Nat → Nat) (a : Act), Known ops i its olds it.need μ a → a.eval (.tmp t1) = v1) (h2 : ∀ (μ : Nat → Nat) (a : Act), Known ops i its olds it.need μ a → a.eval (.tmp t2) = v2) (h3 : ∀ (μ : Nat → Nat) (a : Act), Known ops i its olds it.need μ a → a.eval (.tmp t3) = v3)
    (hc : ∀ w, Calls P f #[v1, v2, v3] w (Ret fun e w' => Below w.heap.size w w' ∧ e = v)) : Cert P Q w0 k0 X ops i its bl olds o it :=
  cert_call hk f #[v1, v2, v3] v hout (fun μ a w hK _ => by rw [hrun, h1 μ a hK, h2 μ a hK, h3 μ a hK]) (fun w _ => hc w)
theorem cert_call0 (hk : it.kind = .call) (f : FuncId) (v : Value) (hout : it.out = .v v) (hrun : ∀ (a : Act) (w : World), (execOp a.eval o).run P w = .ok (.enter f #[]) w)
    (hc : ∀ w, Calls P f #[] w (Ret fun e w' => Below w.heap.size w w' ∧ e = v)) : Cert P Q w0 k0 X ops i its bl olds o it :=
  cert_call hk f #[] v hout (fun _ a w _ _ => hrun a w) (fun w _ => hc w)
theorem at_made {b k : Nat} (hout : it.out = .p b 0) : it.out.at (upd μ b k) = .pointer (some ⟨k, 0, none⟩) := by
  rw [hout]
  show Value.pointer (some ⟨upd μ b k b, 0, none⟩) = _
  unfold upd
  rw [if_pos rfl]
theorem cert_alloc (b : Nat) (hk : it.kind = .make b) (hout : it.out = .p b 0) (e : Bl) (hb : bl[b]? = some e) (T : TypeId) (ho : o.op = .alloc T) (hz : ∀ w : World, (Instr.alloc T true (.tuple #[])).run P w = .ok (.pointer (some ⟨w.heap.size, 0, none⟩)) (w.alloc (.cells e.before.toArray T))) : Cert P Q w0 k0 X ops i its bl olds o it := by
  refine cert_make b hk e hb T fun μ a w hK _ => ?_
  unfold execOp
  rw [ho]
  rw [at_made hout]
  show ((Instr.alloc T true (.tuple #[])) >>= fun v => pure (Next.value v)).run P w = _
  rw [Sem.run_bind, hz]
  rfl
theorem cert_box (b : Nat) (hk : it.kind = .make b) (hout : it.out = .p b 0) (e : Bl) (hb : bl[b]? = some e) (T : TypeId) (t : Tmp) (ho : o.op = .box T (.tmp t)) (v : Value) (h1 : ∀ (μ : Nat → Nat) (a : Act), Known ops i its olds it.need μ a → a.eval (.tmp t) = v)
    (hz : ∀ w : World, (Instr.box T v).run P w = .ok (.pointer (some ⟨w.heap.size, 0, none⟩)) (w.alloc (.cells e.before.toArray T))) : Cert P Q w0 k0 X ops i its bl olds o it := by
  refine cert_make b hk e hb T fun μ a w hK _ => ?_
  unfold execOp
  rw [ho]
  dsimp only
  rw [h1 μ a hK, at_made hout]
  show ((Instr.box T v) >>= fun v => pure (Next.value v)).run P w = _
  rw [Sem.run_bind, hz]
  rfl
theorem cert_build2 (hk : it.kind = .stay) (T : TypeId) (t1 t2 : Tmp) (ho : o.op = .build T #[(0, .tmp t1), (1, .tmp t2)]) (v1 v2 v : Value) (hout : it.out = .v v)
    (h1 : ∀ (μ : Nat → Nat) (a : Act), Known ops i its olds it.need μ a → a.eval (.tmp t1) = v1) (h2 : ∀ (μ : Nat → Nat) (a : Act), Known ops i its olds it.need μ a → a.eval (.tmp t2) = v2)
    (hb : ∀ w : World, (Instr.build T #[(0, v1), (1, v2)]).run P w = .ok v w) : Cert P Q w0 k0 X ops i its bl olds o it := by
  refine cert_stay hk fun μ a w hK _ => ?_
  unfold execOp
  rw [ho, hout]
  dsimp only
  simp only [List.map_toArray, List.map_cons, List.map_nil, h1 μ a hK, h2 μ a hK]
  rw [Sem.run_bind, hb]
  rfl
theorem cert_build3 (hk : it.kind = .stay) (T : TypeId) (t1 t2 t3 : Tmp) (ho : o.op = .build T #[(0, .tmp t1), (1, .tmp t2), (2, .tmp t3)]) (v1 v2 v3 v : Value) (hout : it.out = .v v)
    (h1 : ∀ (μ : Nat → Nat) (a : Act), Known ops i its olds it.need μ a → a.eval (.tmp t1) = v1) (h2 : ∀ (μ : Nat → Nat) (a : Act), Known ops i its olds it.need μ a → a.eval (.tmp t2) = v2) (h3 : ∀ (μ : Nat → Nat) (a : Act), Known ops i its olds it.need μ a → a.eval (.tmp t3) = v3)
    (hb : ∀ w : World, (Instr.build T #[(0, v1), (1, v2), (2, v3)]).run P w = .ok v w) : Cert P Q w0 k0 X ops i its bl olds o it := by
  refine cert_stay hk fun μ a w hK _ => ?_
  unfold execOp
  rw [ho, hout]
  dsimp only
  simp only [List.map_toArray, List.map_cons, List.map_nil, h1 μ a hK, h2 μ a hK, h3 μ a hK]
  rw [Sem.run_bind, hb]
  rfl
theorem results_row {fn : Func} {a : Act} {cs : List (List Value)} {ks : List Nat} (hS : St w0 k0 X cs ks w) (t : Tmp) (T : TypeId) (hr : fn.results = #[.cell t T]) (b : Nat) (c : List Value) (hc : cs[b]? = some c) (ht : a.tmps[t]? = some (.pointer (some ⟨ad ks b, 0, none⟩)))
    (hu : (P.underlying T).map (·.isRow) = some true) (hi : (P.info? T).map (·.size) = some c.length) : (results fn a.tmps).run P w = .ok (.agg c.toArray) w := by
  obtain ⟨d, hu, hd⟩ := Option.map_eq_some_iff.1 hu
  have h1 := run_loadVar_mid (P := P) w (ad ks b) 0 T c d (hS.has b c hc).1 hu hd hi
  have h2 : a.tmps.getD t undef = .pointer (some ⟨ad ks b, 0, none⟩) := by rw [Array.getD_eq_getD_getElem?, ht]; rfl
  unfold results
  rw [hr]
  simp only [Array.mapM_eq_mapM_toList, List.mapM_cons, List.mapM_nil, h2, asAddr]
  simp [Sem.run_bind, h1]
theorem len3 {l : List Nat} (h : l.length = 3) : ∃ k j i, l = [k, j, i] := by
  match l, h with
  | [k, j, i], _ => exact ⟨k, j, i, rfl⟩
theorem St.begin (w : World) : St w w.heap.size [] [] [] w := ⟨BelX.refl _ _ _, Nat.le_refl _, rfl, fun b c h => by simp at h, fun b c h => by simp at h⟩
end Go.Proofs.YtfkgfcggcfkkiaaDoor.RG
set_option linter.unusedVariables false
set_option linter.unusedSimpArgs false
namespace Go.Proofs.YtfkgfcggcfkkiaaDoor.RG
open Go Go.RowKit
variable {P : Program} {ops : Array Oper} {Q : Exit → Act → World → Prop} {w0 w : World} {k0 : Nat} {X : List Nat} {its : List It} {bl : List Bl} {olds : List (Tmp × SV)} {a0 : Act} {i : Nat} {o : Oper} {it : It}
theorem cert_pass (hk : it.kind = .pass) (h : it.out = .v undef) : Cert P Q w0 k0 X ops i its bl olds o it := by
  intro μ a w K _ _ _
  rw [hk]
  exact h
theorem cert_move (hk : it.kind = .stay) (t : Tmp) (ho : o.op = .move (.tmp t) ∨ o.op = .assign (.tmp t)) (hx : ∀ (μ : Nat → Nat) (a : Act), Known ops i its olds it.need μ a → a.eval (.tmp t) = it.out.at μ) : Cert P Q w0 k0 X ops i its bl olds o it := by
  refine cert_stay hk fun μ a w hK _ => ?_
  unfold execOp
  rcases ho with ho | ho <;> rw [ho] <;> dsimp only <;> rw [hx μ a hK] <;> rfl
theorem cert_pick_t (hk : it.kind = .stay) (c t : Tmp) (y : Operand) (ho : o.op = .pick (.tmp c) (.tmp t) y) (hc : ∀ (μ : Nat → Nat) (a : Act), Known ops i its olds it.need μ a → a.eval (.tmp c) = .bool true) (hx : ∀ (μ : Nat → Nat) (a : Act), Known ops i its olds it.need μ a → a.eval (.tmp t) = it.out.at μ) : Cert P Q w0 k0 X ops i its bl olds o it := by
  refine cert_stay hk fun μ a w hK _ => ?_
  unfold execOp
  rw [ho]
  dsimp only
  rw [hc μ a hK, hx μ a hK]
  rfl
theorem cert_pick_f (hk : it.kind = .stay) (c t : Tmp) (y : Value) (ho : o.op = .pick (.tmp c) (.tmp t) (.const y)) (hc : ∀ (μ : Nat → Nat) (a : Act), Known ops i its olds it.need μ a → a.eval (.tmp c) = .bool false) (hx : it.out = .v y) : Cert P Q w0 k0 X ops i its bl olds o it := by
  refine cert_stay hk fun μ a w hK _ => ?_
  unfold execOp
  rw [ho]
  dsimp only
  rw [hc μ a hK, hx]
  rfl
theorem cert_pick_ct (hk : it.kind = .stay) (c : Tmp) (x : Value) (y : Operand) (ho : o.op = .pick (.tmp c) (.const x) y) (hc : ∀ (μ : Nat → Nat) (a : Act), Known ops i its olds it.need μ a → a.eval (.tmp c) = .bool true) (hx : it.out = .v x) : Cert P Q w0 k0 X ops i its bl olds o it := by
  refine cert_stay hk fun μ a w hK _ => ?_
  unfold execOp
  rw [ho]
  dsimp only
  rw [hc μ a hK, hx]
  rfl
theorem cert_pick_cf (hk : it.kind = .stay) (c t : Tmp) (x : Operand) (ho : o.op = .pick (.tmp c) x (.tmp t)) (hc : ∀ (μ : Nat → Nat) (a : Act), Known ops i its olds it.need μ a → a.eval (.tmp c) = .bool false) (hx : ∀ (μ : Nat → Nat) (a : Act), Known ops i its olds it.need μ a → a.eval (.tmp t) = it.out.at μ) : Cert P Q w0 k0 X ops i its bl olds o it := by
  refine cert_stay hk fun μ a w hK _ => ?_
  unfold execOp
  rw [ho]
  dsimp only
  rw [hc μ a hK, hx μ a hK]
  rfl
theorem cert_build1 (hk : it.kind = .stay) (T : TypeId) (n : Nat) (t1 : Tmp) (ho : o.op = .build T #[(n, .tmp t1)]) (v1 v : Value) (hout : it.out = .v v)
    (h1 : ∀ (μ : Nat → Nat) (a : Act), Known ops i its olds it.need μ a → a.eval (.tmp t1) = v1)
    (hb : ∀ w : World, (Instr.build T #[(n, v1)]).run P w = .ok v w) : Cert P Q w0 k0 X ops i its bl olds o it := by
  refine cert_stay hk fun μ a w hK _ => ?_
  unfold execOp
  rw [ho, hout]
  dsimp only
  simp only [List.map_toArray, List.map_cons, List.map_nil, h1 μ a hK]
  rw [Sem.run_bind, hb]
  rfl
theorem cert_bin (hk : it.kind = .stay) (op : BinOp) (T T' : TypeId) (t1 t2 : Tmp) (v1 v2 v : Value) (ho : o.op = .binOp op T (.tmp t1) (.tmp t2) T') (hout : it.out = .v v)
    (h1 : ∀ (μ : Nat → Nat) (a : Act), Known ops i its olds it.need μ a → a.eval (.tmp t1) = v1) (h2 : ∀ (μ : Nat → Nat) (a : Act), Known ops i its olds it.need μ a → a.eval (.tmp t2) = v2)
    (hg : ∀ w, (eqGuard op T (.tmp t1) (.tmp t2) v1 v2).run P w = .ok () w) (hb : ∀ w, (binOp op T v1 v2).run P w = .ok v w) : Cert P Q w0 k0 X ops i its bl olds o it := by
  refine cert_stay hk fun μ a w hK _ => ?_
  unfold execOp
  rw [ho, hout]
  dsimp only
  rw [h1 μ a hK, h2 μ a hK, Sem.run_bind, Sem.run_bind, hg]
  dsimp only [Result.andThen]
  rw [hb]
  rfl
theorem cert_not (hk : it.kind = .stay) (T : TypeId) (t : Tmp) (b : Bool) (ho : o.op = .unOp .not T (.tmp t)) (hout : it.out = .v (.bool (!b)))
    (h1 : ∀ (μ : Nat → Nat) (a : Act), Known ops i its olds it.need μ a → a.eval (.tmp t) = .bool b) : Cert P Q w0 k0 X ops i its bl olds o it := by
  refine cert_stay hk fun μ a w hK _ => ?_
  unfold execOp
  rw [ho, hout]
  dsimp only
  rw [h1 μ a hK]
  cases b <;> rfl
theorem cert_extract (hk : it.kind = .stay) (t : Tmp) (n : Nat) (vs : Array Value) (v : Value) (hv : vs[n]? = some v) (ho : o.op = .extract (.tmp t) n) (hout : it.out = .v v)
    (h1 : ∀ (μ : Nat → Nat) (a : Act), Known ops i its olds it.need μ a → a.eval (.tmp t) = .tuple vs) : Cert P Q w0 k0 X ops i its bl olds o it := by
  refine cert_stay hk fun μ a w hK _ => ?_
  unfold execOp
  rw [ho, hout]
  dsimp only
  rw [h1 μ a hK]
  simp [Instr.extract, hv, Sem.run_bind, SV.at]
theorem results_t {fn : Func} {a : Act} (t : Tmp) (hr : fn.results = #[.tmp t]) (v : Value) (ht : a.tmps[t]? = some v) : (results fn a.tmps).run P w = .ok v w := by
  have h2 : a.tmps.getD t undef = v := by rw [Array.getD_eq_getD_getElem?, ht]; rfl
  unfold results
  rw [hr]
  simp only [Array.mapM_eq_mapM_toList, List.mapM_cons, List.mapM_nil, h2]
  simp [Sem.run_bind]
theorem results_rt {fn : Func} {a : Act} {cs : List (List Value)} {ks : List Nat} (hS : St w0 k0 X cs ks w) (t u : Tmp) (T : TypeId) (hr : fn.results = #[.cell t T, .tmp u]) (b : Nat) (c : List Value) (hc : cs[b]? = some c) (ht : a.tmps[t]? = some (.pointer (some ⟨ad ks b, 0, none⟩))) (v : Value) (hu2 : a.tmps[u]? = some v)
    (hu : (P.underlying T).map (·.isRow) = some true) (hi : (P.info? T).map (·.size) = some c.length) : (results fn a.tmps).run P w = .ok (.tuple #[.agg c.toArray, v]) w := by
  obtain ⟨d, hu, hd⟩ := Option.map_eq_some_iff.1 hu
  have h1 := run_loadVar_mid (P := P) w (ad ks b) 0 T c d (hS.has b c hc).1 hu hd hi
  have h2 : a.tmps.getD t undef = .pointer (some ⟨ad ks b, 0, none⟩) := by rw [Array.getD_eq_getD_getElem?, ht]; rfl
  have h3 : a.tmps.getD u undef = v := by rw [Array.getD_eq_getD_getElem?, hu2]; rfl
  unfold results
  rw [hr]
  simp only [Array.mapM_eq_mapM_toList, List.mapM_cons, List.mapM_nil, h2, h3, asAddr]
  simp [Sem.run_bind, h1]
end Go.Proofs.YtfkgfcggcfkkiaaDoor.RG
set_option linter.unusedVariables false
set_option linter.unusedSimpArgs false
namespace Go.Proofs.YtfkgfcggcfkkiaaDoor.RG
open Go Go.RowKit
variable {P : Program} {ops : Array Oper} {Q : Exit → Act → World → Prop} {w0 w : World} {k0 : Nat} {X : List Nat} {its : List It} {bl : List Bl} {olds : List (Tmp × SV)} {a0 a : Act} {i : Nat} {o : Oper} {it : It} {μ : Nat → Nat}
/-- How many slots; no call is put off. -/
structure Sl (a : Act) (n : Nat) : Prop where
  size : a.tmps.size = n
  defers : a.defers = []
theorem Sl.puts {n : Nat} (h : Sl a n) : Sl (puts μ its a) n := ⟨by rw [puts_size]; exact h.size, by rw [puts_defers]; exact h.defers⟩
theorem put_old {t : Tmp} {v : Value} (h : a.tmps[t]? = some v) (hc : its.all (fun it => it.dst != some t) = true) : (puts μ its a).tmps[t]? = some v := by
  rw [puts_other μ its a t (fun it hm => by simpa using List.all_eq_true.1 hc it hm)]
  exact h
theorem put_new {n : Nat} (hl : Sl a n) (j : Nat) {jt : It} {d : Tmp} (hB : dstB its = true) (hj : its[j]? = some jt) (hd : jt.dst = some d) (hs : decide (d < n) = true) : (puts μ its a).tmps[d]? = some (jt.out.at μ) :=
  puts_same μ its a j jt d hB hj hd (by rw [hl.size]; simpa using hs)
theorem eval_of {t : Tmp} {v : Value} (h : a.tmps[t]? = some v) : a.eval (.tmp t) = v := by
  show a.tmps.getD t undef = v
  rw [Array.getD_eq_getD_getElem?, h]
  rfl
theorem results_none {fn : Func} {tmps : Array Value} (hr : fn.results = #[]) : (results fn tmps).run P w = .ok (.tuple #[]) w := by
  unfold results
  rw [hr]
  simp
theorem var1 {c : Code} {v0 : Value} {n : Nat} (h0 : a.tmps[0]? = some v0) (hs : a.tmps.size = n) (hd : a.defers = []) (h : ∀ a, Sl a n → a.tmps[0]? = some v0 → c.wp P Q a w) : c.wp P Q a w := h a ⟨hs, hd⟩ h0
theorem var2 {c : Code} {v0 v1 : Value} {n : Nat} (h0 : a.tmps[0]? = some v0) (h1 : a.tmps[1]? = some v1) (hs : a.tmps.size = n) (hd : a.defers = []) (h : ∀ a, Sl a n → a.tmps[0]? = some v0 → a.tmps[1]? = some v1 → c.wp P Q a w) : c.wp P Q a w := h a ⟨hs, hd⟩ h0 h1
theorem var3 {c : Code} {v0 v1 v2 : Value} {n : Nat} (h0 : a.tmps[0]? = some v0) (h1 : a.tmps[1]? = some v1) (h2 : a.tmps[2]? = some v2) (hs : a.tmps.size = n) (hd : a.defers = []) (h : ∀ a, Sl a n → a.tmps[0]? = some v0 → a.tmps[1]? = some v1 → a.tmps[2]? = some v2 → c.wp P Q a w) : c.wp P Q a w := h a ⟨hs, hd⟩ h0 h1 h2
theorem cert_nil (hk : it.kind = .stay) (t : Tmp) (ho : o.op = .nilCheck (.tmp t)) (s : SV) (hs : ∀ μ : Nat → Nat, ∃ p : Addr, s.at μ = .pointer (some p)) (hout : it.out = s) (hx : ∀ (μ : Nat → Nat) (a : Act), Known ops i its olds it.need μ a → a.eval (.tmp t) = s.at μ) : Cert P Q w0 k0 X ops i its bl olds o it := by
  refine cert_stay hk fun μ a w hK _ => ?_
  obtain ⟨p, hp⟩ := hs μ
  unfold execOp
  rw [ho, hout]
  dsimp only
  rw [hx μ a hK, hp]
  rfl
theorem cert_call2c (hk : it.kind = .call) (f : FuncId) (t1 t2 : Tmp) (v1 v2 c v : Value) (hout : it.out = .v v) (hrun : ∀ (a : Act) (w : World), (execOp a.eval o).run P w = .ok (.enter f #[a.eval (.tmp t1), a.eval (.tmp t2), c]) w)
    (h1 : ∀ (μ : Nat → Nat) (a : Act), Known ops i its olds it.need μ a → a.eval (.tmp t1) = v1) (h2 : ∀ (μ : Nat → Nat) (a : Act), Known ops i its olds it.need μ a → a.eval (.tmp t2) = v2)
    (hc : ∀ w, Calls P f #[v1, v2, c] w (Ret fun e w' => Below w.heap.size w w' ∧ e = v)) : Cert P Q w0 k0 X ops i its bl olds o it :=
  cert_call hk f #[v1, v2, c] v hout (fun μ a w hK _ => by rw [hrun, h1 μ a hK, h2 μ a hK]) (fun w _ => hc w)
theorem cert_fieldV (hk : it.kind = .stay) (T : TypeId) (t : Tmp) (f : Nat) (v v' : Value) (ho : o.op = .fieldAddr T (.tmp t) f) (hout : it.out = .v v') (hx : ∀ (μ : Nat → Nat) (a : Act), Known ops i its olds it.need μ a → a.eval (.tmp t) = v)
    (hf : ∀ w : World, (Instr.fieldAt T v f).run P w = .ok v' w) : Cert P Q w0 k0 X ops i its bl olds o it := by
  refine cert_stay hk fun μ a w hK _ => ?_
  unfold execOp
  rw [ho, hout]
  dsimp only
  rw [hx μ a hK, Sem.run_bind, hf]
  rfl
/-- make([]T, n). -/
theorem cert_makes (b : Nat) (hk : it.kind = .make b) (e : Bl) (hb : bl[b]? = some e) (T E : TypeId) (t1 t2 : Tmp) (n : Nat) (hout : it.out = .s b n n) (ho : o.op = .makeSlice T (.tmp t1) (.tmp t2))
    (h1 : ∀ (μ : Nat → Nat) (a : Act), Known ops i its olds it.need μ a → a.eval (.tmp t1) = .int .i64 (n : Int)) (h2 : ∀ (μ : Nat → Nat) (a : Act), Known ops i its olds it.need μ a → a.eval (.tmp t2) = .int .i64 (n : Int))
    (hz : ∀ w : World, (Instr.makeSlice T (.int .i64 (n : Int)) (.int .i64 (n : Int))).run P w = .ok (.slice (some ⟨w.heap.size, 0, none⟩) n n) (w.alloc (.cells e.before.toArray E))) : Cert P Q w0 k0 X ops i its bl olds o it := by
  refine cert_make b hk e hb E fun μ a w hK _ => ?_
  have hm : it.out.at (upd μ b w.heap.size) = .slice (some ⟨w.heap.size, 0, none⟩) n n := by
    rw [hout]
    show Value.slice (some ⟨upd μ b w.heap.size b, 0, none⟩) n n = _
    unfold upd
    rw [if_pos rfl]
  unfold execOp
  rw [ho]
  dsimp only
  rw [h1 μ a hK, h2 μ a hK, hm, Sem.run_bind, hz]
  rfl
/-- An operation on one slot: len of a slice. -/
theorem cert_one (hk : it.kind = .stay) (t : Tmp) (s : SV) (v : Value) (hout : it.out = .v v) (hx : ∀ (μ : Nat → Nat) (a : Act), Known ops i its olds it.need μ a → a.eval (.tmp t) = s.at μ)
    (hE : ∀ (a : Act) (w : World), (execOp a.eval o).run P w = (execOp (fun _ => a.eval (.tmp t)) o).run P w) (hV : ∀ (μ : Nat → Nat) (w : World), (execOp (fun _ => s.at μ) o).run P w = .ok (.value v) w) : Cert P Q w0 k0 X ops i its bl olds o it := by
  refine cert_stay hk fun μ a w hK _ => ?_
  rw [hE, hx μ a hK, hV, hout]
  rfl
/-- A call that reads one of the blocks. -/
theorem cert_callM (hk : it.kind = .call) (b : Nat) (e : Bl) (hb : bl[b]? = some e) (hal : e.al = none) (hst : readB ops i e = true) (he : e.before ≠ []) (f : FuncId) (args : (Nat → Nat) → Array Value) (v : Value) (hout : it.out = .v v) (hrun : ∀ (μ : Nat → Nat) (a : Act) (w : World), Known ops i its olds it.need μ a → (execOp a.eval o).run P w = .ok (.enter f (args μ)) w)
    (hc : ∀ (μ : Nat → Nat) (w : World), μ b < w.heap.size → w.rangeAt (μ b) 0 e.before → Calls P f (args μ) w (Ret fun r w' => Below w.heap.size w w' ∧ r = v)) : Cert P Q w0 k0 X ops i its bl olds o it := by
  intro μ a w K hK hR _
  rw [hk]
  intro h
  rw [hout] at h
  have hr := hR b e hb (Or.inl hal) hst
  have hlt : μ b < w.heap.size := by
    cases hee : e.before with
    | nil => exact absurd hee he
    | cons x r =>
      have h1 := hr 0 x (by rw [hee]; rfl)
      exact Classical.byContradiction fun hn => by
        have h2 : w.heap[μ b]? = none := Array.getElem?_eq_none (by omega)
        simp [World.cell?, h2] at h1
  unfold Oper.wp
  rw [hrun μ a w hK, Oper.upon_enter]
  refine (hc μ w hlt hr).mono ?_
  rintro r w' ⟨v', rfl, hb', rfl⟩
  exact h w' hb'
theorem range_sub {k o : Nat} {C cs : List Value} (h : w.rangeAt k 0 C) (hs : ∀ j, j < cs.length → C[o + j]? = cs[j]?) : w.rangeAt k o cs := fun j v hv => by
  have hj : j < cs.length := (List.getElem?_eq_some_iff.1 hv).1
  have := h (o + j) v (by rw [hs j hj]; exact hv)
  rwa [Nat.zero_add] at this
theorem cert_idx (hk : it.kind = .stay) (T : TypeId) (t u : Tmp) (ho : o.op = .indexAddr T (.tmp t) (.tmp u)) (s : SV) (iv : Value) (hx : ∀ (μ : Nat → Nat) (a : Act), Known ops i its olds it.need μ a → a.eval (.tmp t) = s.at μ) (hy : ∀ (μ : Nat → Nat) (a : Act), Known ops i its olds it.need μ a → a.eval (.tmp u) = iv)
    (hf : ∀ (μ : Nat → Nat) (w : World), (Instr.indexAt T (s.at μ) iv).run P w = .ok (it.out.at μ) w) : Cert P Q w0 k0 X ops i its bl olds o it := by
  refine cert_stay hk fun μ a w hK _ => ?_
  unfold execOp
  rw [ho]
  dsimp only
  rw [hx μ a hK, hy μ a hK, Sem.run_bind, hf]
  rfl
theorem cert_idxc (hk : it.kind = .stay) (T : TypeId) (t : Tmp) (iv : Value) (ho : o.op = .indexAddr T (.tmp t) (.const iv)) (s : SV) (hx : ∀ (μ : Nat → Nat) (a : Act), Known ops i its olds it.need μ a → a.eval (.tmp t) = s.at μ)
    (hf : ∀ (μ : Nat → Nat) (w : World), (Instr.indexAt T (s.at μ) iv).run P w = .ok (it.out.at μ) w) : Cert P Q w0 k0 X ops i its bl olds o it := by
  refine cert_stay hk fun μ a w hK _ => ?_
  unfold execOp
  rw [ho]
  dsimp only
  rw [hx μ a hK]
  show ((Instr.indexAt T (s.at μ) iv) >>= fun v => pure (Next.value v)).run P w = _
  rw [Sem.run_bind, hf]
  rfl
theorem cert_binc (hk : it.kind = .stay) (op : BinOp) (T T' : TypeId) (t1 : Tmp) (v1 v2 v : Value) (ho : o.op = .binOp op T (.tmp t1) (.const v2) T') (hout : it.out = .v v)
    (h1 : ∀ (μ : Nat → Nat) (a : Act), Known ops i its olds it.need μ a → a.eval (.tmp t1) = v1)
    (hg : ∀ w, (eqGuard op T (.tmp t1) (.const v2) v1 v2).run P w = .ok () w) (hb : ∀ w, (binOp op T v1 v2).run P w = .ok v w) : Cert P Q w0 k0 X ops i its bl olds o it := by
  refine cert_stay hk fun μ a w hK _ => ?_
  unfold execOp
  rw [ho, hout]
  dsimp only
  rw [h1 μ a hK]
  show (((eqGuard op T (.tmp t1) (.const v2) v1 v2) >>= fun _ => binOp op T v1 v2) >>= fun v => pure (Next.value v)).run P w = _
  rw [Sem.run_bind, Sem.run_bind, hg]
  dsimp only [Result.andThen]
  rw [hb]
  rfl
theorem cert_conv (hk : it.kind = .stay) (S T : TypeId) (t : Tmp) (v v' : Value) (ho : o.op = .convert S T (.tmp t)) (hout : it.out = .v v') (hx : ∀ (μ : Nat → Nat) (a : Act), Known ops i its olds it.need μ a → a.eval (.tmp t) = v) (hc : ∀ w, (convert S T v).run P w = .ok v' w) : Cert P Q w0 k0 X ops i its bl olds o it := by
  refine cert_stay hk fun μ a w hK _ => ?_
  unfold execOp
  rw [ho, hout]
  dsimp only
  rw [hx μ a hK, Sem.run_bind, hc]
  rfl
theorem cert_un (hk : it.kind = .stay) (op : UnOp) (T : TypeId) (t : Tmp) (v v' : Value) (ho : o.op = .unOp op T (.tmp t)) (hout : it.out = .v v') (hx : ∀ (μ : Nat → Nat) (a : Act), Known ops i its olds it.need μ a → a.eval (.tmp t) = v) (hc : ∀ w, (Op.unary op v).run P w = .ok v' w) : Cert P Q w0 k0 X ops i its bl olds o it := by
  refine cert_stay hk fun μ a w hK _ => ?_
  unfold execOp
  rw [ho, hout]
  dsimp only
  rw [hx μ a hK, Sem.run_bind, hc]
  rfl
/-- A load of memory that was there before the call. -/
theorem cert_loadB (hk : it.kind = .stay) (k off : Nat) (hk0 : k < k0) (hX : k ∉ X) (T : TypeId) (t : Tmp) (ho : o.op = .load T (.tmp t)) (cs : List Value) (hout : it.out = .v (.agg cs.toArray))
    (hx : ∀ (μ : Nat → Nat) (a : Act), Known ops i its olds it.need μ a → a.eval (.tmp t) = .pointer (some ⟨k, off, none⟩)) (hr : w0.rangeAt k off cs)
    (hu : (P.underlying T).map (·.isRow) = some true) (hi : (P.info? T).map (·.size) = some cs.length) : Cert P Q w0 k0 X ops i its bl olds o it := by
  intro μ a w K hK _ hb
  rw [hk]
  intro h
  rw [hout] at h
  obtain ⟨d, hu, hd⟩ := Option.map_eq_some_iff.1 hu
  refine wp_load_mid T (.tmp t) ho k off (hx μ a hK) cs d (fun j v hj => ?_) hu hd hi h
  rw [World.cell?_of_block (w := w0) (a := ⟨k, off + j, none⟩) (hb.block k hk0 hX)]
  exact hr j v hj
theorem run_load1 {T : TypeId} {k off : Nat} {v : Value} (hc : w.cell? ⟨k, off, none⟩ = some v) (hu : (P.underlying T).map (·.isRow) = some false) : (Instr.loadAt T (.pointer (some ⟨k, off, none⟩))).run P w = .ok v w := by
  obtain ⟨d, hu, hd⟩ := Option.map_eq_some_iff.1 hu
  have hagg : (isAgg T).run P w = .ok false w := by
    unfold isAgg
    rw [Sem.run_bind, run_underlying hu w]
    cases d <;> simp_all
  simp [Instr.loadAt, Instr.sureAddr, loadVar, Sem.run_bind, hagg, hc]
theorem cert_load1 (hk : it.kind = .stay) (b off : Nat) (e : Bl) (hb : bl[b]? = some e) (hal : e.al = none) (hst : readB ops i e = true) (T : TypeId) (t : Tmp) (ho : o.op = .load T (.tmp t)) (v : Value) (hout : it.out = .v v)
    (hx : ∀ (μ : Nat → Nat) (a : Act), Known ops i its olds it.need μ a → a.eval (.tmp t) = (SV.p b off).at μ) (hsub : e.before[off]? = some v)
    (hu : (P.underlying T).map (·.isRow) = some false) : Cert P Q w0 k0 X ops i its bl olds o it := by
  intro μ a w K hK hR _
  rw [hk]
  intro h
  rw [hout] at h
  have h1 := hR b e hb (Or.inl hal) hst off v hsub
  rw [Nat.zero_add] at h1
  unfold Oper.wp execOp
  rw [ho]
  dsimp only
  rw [hx μ a hK]
  show o.upon P a K Q (((Instr.loadAt T (.pointer (some ⟨μ b, off, none⟩))) >>= fun v => pure (Next.value v)).run P w)
  rw [Sem.run_bind, run_load1 h1 hu]
  exact h
theorem run_store1 {T : TypeId} {k off : Nat} {v u : Value} (hc : w.cell? ⟨k, off, none⟩ = some u) (hf : w.frozen? ⟨k, off, none⟩ = false) (h1 : v.oneCell' = true) (hv : v.cells = #[v]) (hi : (P.info? T).map (·.size) = some 1) : (Instr.storeAt T (.pointer (some ⟨k, off, none⟩)) v).run P w = .ok () (w.setCells k off [v]) := by
  have := run_storeCells_cells (P := P) k off [v] 0 w (fun j hj => by
      obtain rfl : j = 0 := by simpa using hj
      simp [hc]) (fun j hj => by
      obtain rfl : j = 0 := by simpa using hj
      simpa using hf) (fun x hx => by
      obtain rfl : x = v := by simpa using hx
      exact h1)
  cases hq : P.info? T with
  | none => simp [hq] at hi
  | some inf =>
    have hs : inf.size = 1 := by simp [hq] at hi; omega
    simp only [Nat.add_zero] at this
    simp [Instr.storeAt, Instr.sureAddr, storeVar, sizeOf, typeInfo, hq, hv, hs, this]
/-- A store of one cell. -/
theorem cert_put1 (b off : Nat) (hk : it.kind = .put b) (e : Bl) (hb : bl[b]? = some e) (T : TypeId) (x y : Operand) (v : Value) (ho : o.op = .store T x y) (hdn : o.dst = none)
    (hx : ∀ (μ : Nat → Nat) (a : Act), Known ops i its olds it.need μ a → a.eval x = (SV.p b off).at μ) (hy : ∀ (μ : Nat → Nat) (a : Act), Known ops i its olds it.need μ a → a.eval y = v) (hoff : off < e.before.length) (hset : e.after = e.before.set off v)
    (hi : (P.info? T).map (·.size) = some 1) (h1 : v.oneCell' = true) (hv : v.cells = #[v]) : Cert P Q w0 k0 X ops i its bl olds o it := by
  intro μ a w K hK _ _
  rw [hk]
  intro e' hb' ht hr h
  rw [hb] at hb'
  obtain rfl : e = e' := Option.some.inj hb'
  have hPT : PutTo (μ b) e.before.length e.after w (w.setCells (μ b) off [v]) := PutTo.store ht hr (by simp only [List.length_cons, List.length_nil]; omega) (fun j => by
    rw [hset, List.getElem?_set]
    by_cases hj : off = j
    · subst hj
      rw [if_pos rfl, if_pos hoff, if_pos (by simp)]
      simp
    · rw [if_neg hj, if_neg (by simp only [List.length_cons, List.length_nil]; omega)])
  have ht' := ht off hoff
  rw [Nat.zero_add] at ht'
  obtain ⟨u, hu⟩ := Option.isSome_iff_exists.1 ht'.1
  unfold Oper.wp execOp
  rw [ho]
  dsimp only
  rw [hx μ a hK, hy μ a hK]
  show o.upon P a K Q (((Instr.storeAt T (.pointer (some ⟨μ b, off, none⟩)) v) >>= fun _ => pure Next.skip).run P w)
  rw [Sem.run_bind, run_store1 hu ht'.2 h1 hv hi]
  have := h _ hPT
  rw [hdn] at this
  show K (a.put o.dst undef) _
  rw [hdn]
  exact this
/-- A store of a row of cells into a part of a block. -/
theorem cert_putAt (b off : Nat) (hk : it.kind = .put b) (e : Bl) (hb : bl[b]? = some e) (T : TypeId) (x y : Operand) (vs : List Value) (ho : o.op = .store T x y) (hdn : o.dst = none)
    (hx : ∀ (μ : Nat → Nat) (a : Act), Known ops i its olds it.need μ a → a.eval x = (SV.p b off).at μ) (hy : ∀ (μ : Nat → Nat) (a : Act), Known ops i its olds it.need μ a → a.eval y = .agg vs.toArray) (hoff : off + vs.length ≤ e.before.length)
    (hset : ∀ j, e.after[j]? = if off ≤ j ∧ j < off + vs.length then vs[j - off]? else e.before[j]?)
    (hi : (P.info? T).map (·.size) = some vs.length) (h1 : vs.all (·.oneCell') = true) : Cert P Q w0 k0 X ops i its bl olds o it := by
  intro μ a w K hK _ _
  rw [hk]
  intro e' hb' ht hr h
  rw [hb] at hb'
  obtain rfl : e = e' := Option.some.inj hb'
  have hPT := PutTo.store ht hr hoff hset
  refine wp_store_mid T x y ho (μ b) off vs.toArray (hx μ a hK) (hy μ a hK) ?_ ?_ ?_ ?_
  · intro j hj
    have := ht (off + j) (by rw [List.size_toArray] at hj; omega)
    rwa [Nat.zero_add] at this
  · rw [List.size_toArray]; exact hi
  · exact all_oneCell_toArray (fun v hv => List.all_eq_true.1 h1 v hv)
  · have := h _ hPT
    rw [hdn] at this ⊢
    exact this
/-- A call that writes into a block. -/
theorem cert_callput (b : Nat) (hk : it.kind = .put b) (e : Bl) (hb : bl[b]? = some e) (f : FuncId) (args : (Nat → Nat) → Array Value) (v : Value) (hout : it.out = .v v) (hrun : ∀ (μ : Nat → Nat) (a : Act) (w : World), Known ops i its olds it.need μ a → BelX k0 X w0 w → (execOp a.eval o).run P w = .ok (.enter f (args μ)) w)
    (hc : ∀ (μ : Nat → Nat) (w : World), BelX k0 X w0 w → w.there (μ b) 0 e.before.length → w.rangeAt (μ b) 0 e.before → Calls P f (args μ) w (Ret fun r w' => PutTo (μ b) e.before.length e.after w w' ∧ r = v)) : Cert P Q w0 k0 X ops i its bl olds o it := by
  intro μ a w K hK _ hbel
  rw [hk]
  intro e' hb' ht hr h
  rw [hb] at hb'
  obtain rfl : e = e' := Option.some.inj hb'
  rw [hout] at h
  unfold Oper.wp
  rw [hrun μ a w hK hbel, Oper.upon_enter]
  refine (hc μ w hbel ht hr).mono ?_
  rintro r w' ⟨v', rfl, hp, rfl⟩
  exact h w' hp
theorem St.lent {k : Nat} {C : List Value} (hk : k < w.heap.size) (hr : w.rangeAt k 0 C) (ht : w.there k 0 C.length) : St w w.heap.size [k] [C] [k] w := by
  refine ⟨BelX.refl _ _ _, Nat.le_refl _, rfl, fun b c h => ?_, fun b c hb hc hne => ?_⟩
  · cases b with
    | zero =>
      obtain rfl : C = c := by simpa using h
      exact ⟨hr, ht, hk, Or.inr List.mem_cons_self⟩
    | succ b => simp at h
  · simp only [List.length_cons, List.length_nil] at hb hc
    omega
theorem St.putTo {k : Nat} {C : List Value} {cs : List (List Value)} {ks : List Nat} {n : Nat} (h : St w0 w0.heap.size [k] (C :: cs) (k :: ks) w) (hn : C.length = n) : PutTo k n C w0 w := by
  obtain ⟨h1, h2, -, -⟩ := h.has 0 C rfl
  refine ⟨h.bel.os, h.bel.tape, h.bel.output, h.bel.size, fun j hj hne => h.bel.block j hj (by simpa using hne), h1, ?_⟩
  rw [← hn]
  exact h2
def endB1 (its : List It) (bl : List Bl) : Bool :=
  bl.all (fun e => (match e.al with | none => true | some j => decide (j < its.length)) && (match e.st with | none => true | some j => decide (j < its.length)))
theorem endB1_st (h : endB1 its bl = true) : ∀ e ∈ bl, ∀ j, e.al = some j ∨ e.st = some j → j < its.length := by
  intro e he j hj
  have := List.all_eq_true.1 h e he
  simp only [Bool.and_eq_true] at this
  rcases hj with hj | hj
  · rw [hj] at this; simpa using this.1
  · rw [hj] at this; simpa using this.2
/-- Some cells of a list, replaced. -/
def rep (C : List Value) (o : Nat) (vs : List Value) : List Value := C.take o ++ (vs ++ C.drop (o + vs.length))
theorem rep_length {C vs : List Value} {o : Nat} (h : o + vs.length ≤ C.length) : (rep C o vs).length = C.length := by
  unfold rep
  rw [List.length_append, List.length_append, List.length_take, List.length_drop]
  omega
theorem rep_at {C vs : List Value} {o : Nat} (h : o + vs.length ≤ C.length) (j : Nat) : (rep C o vs)[j]? = if o ≤ j ∧ j < o + vs.length then vs[j - o]? else C[j]? := by
  unfold rep
  have hl : (C.take o).length = o := by rw [List.length_take]; omega
  by_cases h1 : j < o
  · rw [List.getElem?_append_left (by rw [hl]; exact h1), List.getElem?_take, if_pos h1, if_neg (by omega)]
  · rw [List.getElem?_append_right (by rw [hl]; omega), hl]
    by_cases h2 : j < o + vs.length
    · rw [List.getElem?_append_left (by omega), if_pos ⟨by omega, h2⟩]
    · rw [List.getElem?_append_right (by omega), if_neg (by omega), List.getElem?_drop]
      congr 1
      omega
theorem sub_of {C cs : List Value} {o : Nat} (h : ∀ j, j < cs.length → C[o + j]? = cs[j]?) (hl : o + cs.length ≤ C.length) : (C.drop o).take cs.length = cs := by
  apply List.ext_getElem?
  intro j
  by_cases hj : j < cs.length
  · rw [List.getElem?_take, if_pos hj, List.getElem?_drop, h j hj]
  · rw [List.getElem?_eq_none (by rw [List.length_take, List.length_drop]; omega), List.getElem?_eq_none (by omega)]
theorem cert_callput3 (b : Nat) (hk : it.kind = .put b) (e : Bl) (hb : bl[b]? = some e) (f : FuncId) (t1 t2 t3 : Tmp) (s1 : SV) (v2 v3 v : Value) (hout : it.out = .v v) (hrun : ∀ (a : Act) (w : World), (execOp a.eval o).run P w = .ok (.enter f #[a.eval (.tmp t1), a.eval (.tmp t2), a.eval (.tmp t3)]) w)
    (h1 : ∀ (μ : Nat → Nat) (a : Act), Known ops i its olds it.need μ a → a.eval (.tmp t1) = s1.at μ) (h2 : ∀ (μ : Nat → Nat) (a : Act), Known ops i its olds it.need μ a → a.eval (.tmp t2) = v2) (h3 : ∀ (μ : Nat → Nat) (a : Act), Known ops i its olds it.need μ a → a.eval (.tmp t3) = v3)
    (hc : ∀ (μ : Nat → Nat) (w : World), w.there (μ b) 0 e.before.length → w.rangeAt (μ b) 0 e.before → Calls P f #[s1.at μ, v2, v3] w (Ret fun r w' => PutTo (μ b) e.before.length e.after w w' ∧ r = v)) : Cert P Q w0 k0 X ops i its bl olds o it :=
  cert_callput b hk e hb f (fun μ => #[s1.at μ, v2, v3]) v hout (fun μ a w hK _ => by rw [hrun, h1 μ a hK, h2 μ a hK, h3 μ a hK]) (fun μ w _ ht hr => hc μ w ht hr)
theorem cert_callM2 (hk : it.kind = .call) (b : Nat) (e : Bl) (hb : bl[b]? = some e) (hal : e.al = none) (hst : readB ops i e = true) (he : e.before ≠ []) (f : FuncId) (t1 t2 : Tmp) (s1 : SV) (v2 v : Value) (hout : it.out = .v v) (hrun : ∀ (a : Act) (w : World), (execOp a.eval o).run P w = .ok (.enter f #[a.eval (.tmp t1), a.eval (.tmp t2)]) w)
    (h1 : ∀ (μ : Nat → Nat) (a : Act), Known ops i its olds it.need μ a → a.eval (.tmp t1) = s1.at μ) (h2 : ∀ (μ : Nat → Nat) (a : Act), Known ops i its olds it.need μ a → a.eval (.tmp t2) = v2)
    (hc : ∀ (μ : Nat → Nat) (w : World), μ b < w.heap.size → w.rangeAt (μ b) 0 e.before → Calls P f #[s1.at μ, v2] w (Ret fun r w' => Below w.heap.size w w' ∧ r = v)) : Cert P Q w0 k0 X ops i its bl olds o it :=
  cert_callM hk b e hb hal hst he f (fun μ => #[s1.at μ, v2]) v hout (fun μ a w hK => by rw [hrun, h1 μ a hK, h2 μ a hK]) hc
end Go.Proofs.YtfkgfcggcfkkiaaDoor.RG
set_option linter.unusedVariables false
set_option linter.unusedSimpArgs false
namespace Go.Proofs.YtfkgfcggcfkkiaaDoor.RG
open Go Go.RowKit
variable {P : Program} {ops : Array Oper} {Q : Exit → Act → World → Prop} {w0 w : World} {k0 : Nat} {X : List Nat} {its : List It} {bl : List Bl} {olds : List (Tmp × SV)} {a : Act} {i : Nat} {o : Oper} {it : It}
theorem cert_slice1 (hk : it.kind = .stay) (T : TypeId) (t : Tmp) (lo v v' : Value) (ho : o.op = .slice T (.tmp t) (some (.const lo)) none none) (hout : it.out = .v v') (hx : ∀ (μ : Nat → Nat) (a : Act), Known ops i its olds it.need μ a → a.eval (.tmp t) = v)
    (hf : ∀ w : World, (Instr.sliceAt T v (some lo) none none).run P w = .ok v' w) : Cert P Q w0 k0 X ops i its bl olds o it := by
  refine cert_stay hk fun μ a w hK _ => ?_
  unfold execOp
  rw [ho, hout]
  dsimp only
  rw [hx μ a hK]
  show ((Instr.sliceAt T v (some lo) none none) >>= fun v => pure (Next.value v)).run P w = _
  rw [Sem.run_bind, hf]
  rfl
theorem cert_s2a (hk : it.kind = .stay) (T : TypeId) (t : Tmp) (v v' : Value) (ho : o.op = .sliceToArrayPointer T (.tmp t)) (hout : it.out = .v v') (hx : ∀ (μ : Nat → Nat) (a : Act), Known ops i its olds it.need μ a → a.eval (.tmp t) = v)
    (hf : ∀ w : World, (Instr.arrayAt T v).run P w = .ok v' w) : Cert P Q w0 k0 X ops i its bl olds o it := by
  refine cert_stay hk fun μ a w hK _ => ?_
  unfold execOp
  rw [ho, hout]
  dsimp only
  rw [hx μ a hK, Sem.run_bind, hf]
  rfl
/-- A load of one cell that was there before the call. -/
theorem cert_load1B (hk : it.kind = .stay) (k off : Nat) (hk0 : k < k0) (hX : k ∉ X) (T : TypeId) (t : Tmp) (ho : o.op = .load T (.tmp t)) (v : Value) (hout : it.out = .v v)
    (hx : ∀ (μ : Nat → Nat) (a : Act), Known ops i its olds it.need μ a → a.eval (.tmp t) = .pointer (some ⟨k, off, none⟩)) (hr : w0.cell? ⟨k, off, none⟩ = some v)
    (hu : (P.underlying T).map (·.isRow) = some false) : Cert P Q w0 k0 X ops i its bl olds o it := by
  refine cert_stay hk fun μ a w hK hb => ?_
  have h1 : w.cell? ⟨k, off, none⟩ = some v := by
    rw [World.cell?_of_block (w := w0) (a := ⟨k, off, none⟩) (hb.block k hk0 hX)]
    exact hr
  unfold execOp
  rw [ho, hout]
  dsimp only
  rw [hx μ a hK, Sem.run_bind, run_load1 h1 hu]
  rfl
/-- A call of two slots, that may look at what was there before. -/
theorem cert_callB2 (hk : it.kind = .call) (f : FuncId) (t1 t2 : Tmp) (v1 v2 v : Value) (hout : it.out = .v v) (hrun : ∀ (a : Act) (w : World), (execOp a.eval o).run P w = .ok (.enter f #[a.eval (.tmp t1), a.eval (.tmp t2)]) w)
    (h1 : ∀ (μ : Nat → Nat) (a : Act), Known ops i its olds it.need μ a → a.eval (.tmp t1) = v1) (h2 : ∀ (μ : Nat → Nat) (a : Act), Known ops i its olds it.need μ a → a.eval (.tmp t2) = v2)
    (hc : ∀ w, BelX k0 X w0 w → Calls P f #[v1, v2] w (Ret fun e w' => Below w.heap.size w w' ∧ e = v)) : Cert P Q w0 k0 X ops i its bl olds o it :=
  cert_call hk f #[v1, v2] v hout (fun μ a w hK _ => by rw [hrun, h1 μ a hK, h2 μ a hK]) hc
theorem cert_callB1 (hk : it.kind = .call) (f : FuncId) (t1 : Tmp) (v1 v : Value) (hout : it.out = .v v) (hrun : ∀ (a : Act) (w : World), (execOp a.eval o).run P w = .ok (.enter f #[a.eval (.tmp t1)]) w)
    (h1 : ∀ (μ : Nat → Nat) (a : Act), Known ops i its olds it.need μ a → a.eval (.tmp t1) = v1)
    (hc : ∀ w, BelX k0 X w0 w → Calls P f #[v1] w (Ret fun e w' => Below w.heap.size w w' ∧ e = v)) : Cert P Q w0 k0 X ops i its bl olds o it :=
  cert_call hk f #[v1] v hout (fun μ a w hK _ => by rw [hrun, h1 μ a hK]) hc
theorem St.init {cs : List (List Value)} {c : List Value} {ks : List Nat} {k : Nat} (h : St w0 k0 X (cs ++ [c]) (ks ++ [k]) w) : St w0 k0 X cs ks w := by
  have hl : ks.length = cs.length := by have := h.len; simp only [List.length_append, List.length_cons, List.length_nil] at this; omega
  have had : ∀ b, b < cs.length → ad (ks ++ [k]) b = ad ks b := fun b hb => by
    unfold ad
    rw [List.getD_eq_getElem?_getD, List.getD_eq_getElem?_getD, List.getElem?_append_left (by omega)]
  refine ⟨h.bel, h.le, hl, fun b c' hb => ?_, fun b c' hb hc hne => ?_⟩
  · have hlt := (List.getElem?_eq_some_iff.1 hb).1
    have := h.has b c' (by rw [List.getElem?_append_left hlt]; exact hb)
    rwa [had b hlt] at this
  · have := h.inj b c' (by rw [List.length_append]; omega) (by rw [List.length_append]; omega) hne
    rwa [had b hb, had c' hc] at this
theorem results_tt {fn : Func} {a : Act} (t u : Tmp) (hr : fn.results = #[.tmp t, .tmp u]) (v v' : Value) (ht : a.tmps[t]? = some v) (hu : a.tmps[u]? = some v') : (results fn a.tmps).run P w = .ok (.tuple #[v, v']) w := by
  have h2 : a.tmps.getD t undef = v := by rw [Array.getD_eq_getD_getElem?, ht]; rfl
  have h3 : a.tmps.getD u undef = v' := by rw [Array.getD_eq_getD_getElem?, hu]; rfl
  unfold results
  rw [hr]
  simp only [Array.mapM_eq_mapM_toList, List.mapM_cons, List.mapM_nil, h2, h3]
  simp [Sem.run_bind]
end Go.Proofs.YtfkgfcggcfkkiaaDoor.RG
namespace Go.Proofs.YtfkgfcggcfkkiaaDoor.RG
open Go Go.RowKit
variable {P : Program} {ops : Array Oper} {Q : Exit → Act → World → Prop} {w0 w : World} {k0 : Nat} {X : List Nat} {its : List It} {bl : List Bl} {olds : List (Tmp × SV)} {a : Act} {i : Nat} {o : Oper} {it : It}
theorem cert_index (hk : it.kind = .stay) (T : TypeId) (t : Tmp) (lo v v' : Value) (ho : o.op = .index T (.tmp t) (.const lo)) (hout : it.out = .v v') (hx : ∀ (μ : Nat → Nat) (a : Act), Known ops i its olds it.need μ a → a.eval (.tmp t) = v)
    (hf : ∀ w : World, (Instr.index T v lo).run P w = .ok v' w) : Cert P Q w0 k0 X ops i its bl olds o it := by
  refine cert_stay hk fun μ a w hK _ => ?_
  unfold execOp
  rw [ho, hout]
  dsimp only
  rw [hx μ a hK]
  show ((Instr.index T v lo) >>= fun v => pure (Next.value v)).run P w = _
  rw [Sem.run_bind, hf]
  rfl
/-- A slice of one, built out of one value. -/
theorem cert_bs1 (b : Nat) (hk : it.kind = .make b) (e : Bl) (hb : bl[b]? = some e) (T E : TypeId) (t : Tmp) (v : Value) (hout : it.out = .s b 1 1) (ho : o.op = .buildSlice T 1 #[(0, .tmp t)])
    (hx : ∀ (μ : Nat → Nat) (a : Act), Known ops i its olds it.need μ a → a.eval (.tmp t) = v)
    (hz : ∀ w : World, (Instr.buildSlice T 1 #[(0, v)]).run P w = .ok (.slice (some ⟨w.heap.size, 0, none⟩) 1 1) (w.alloc (.cells e.before.toArray E))) : Cert P Q w0 k0 X ops i its bl olds o it := by
  refine cert_make b hk e hb E fun μ a w hK _ => ?_
  have hm : it.out.at (upd μ b w.heap.size) = .slice (some ⟨w.heap.size, 0, none⟩) 1 1 := by
    rw [hout]
    show Value.slice (some ⟨upd μ b w.heap.size b, 0, none⟩) 1 1 = _
    unfold upd
    rw [if_pos rfl]
  unfold execOp
  rw [ho, hm]
  dsimp only
  rw [show Array.map (fun x : Nat × Operand => match x with | (i, x) => (i, a.eval x)) #[(0, Operand.tmp t)] = #[(0, v)] by rw [List.map_toArray]; simp only [List.map_cons, List.map_nil]; rw [hx μ a hK], Sem.run_bind, hz]
  rfl
/-- A text out of a block that was made in this region. -/
theorem cert_str (hk : it.kind = .stay) (b j : Nat) (e : Bl) (hb : bl[b]? = some e) (oo : Oper) (hoo : ops[i]? = some oo) (hal : e.al = some j) (hdep : depB oo j = true) (hst : readB ops i e = true) (S T : TypeId) (t : Tmp) (n : Nat) (v : Value) (ho : o.op = .convert S T (.tmp t)) (hout : it.out = .v v)
    (hx : ∀ (μ : Nat → Nat) (a : Act), Known ops i its olds it.need μ a → a.eval (.tmp t) = (SV.s b n n).at μ)
    (hf : ∀ (w : World) (k : Nat), w.rangeAt k 0 e.before → (convert S T (.slice (some ⟨k, 0, none⟩) n n)).run P w = .ok v w) : Cert P Q w0 k0 X ops i its bl olds o it := by
  intro μ a w K hK hR _
  rw [hk]
  intro h
  rw [hout] at h
  have h1 := hR b e hb (Or.inr ⟨oo, j, hoo, hal, hdep⟩) hst
  unfold Oper.wp execOp
  rw [ho]
  dsimp only
  rw [hx μ a hK]
  show Oper.upon P o a K Q (((convert S T (.slice (some ⟨μ b, 0, none⟩) n n)) >>= fun v => pure (Next.value v)).run P w)
  rw [Sem.run_bind, hf w (μ b) h1]
  exact h
theorem cert_cbin (hk : it.kind = .stay) (op : BinOp) (T T' : TypeId) (t1 : Tmp) (v1 v2 v : Value) (ho : o.op = .binOp op T (.const v1) (.tmp t1) T') (hout : it.out = .v v)
    (h1 : ∀ (μ : Nat → Nat) (a : Act), Known ops i its olds it.need μ a → a.eval (.tmp t1) = v2)
    (hg : ∀ w, (eqGuard op T (.const v1) (.tmp t1) v1 v2).run P w = .ok () w) (hb : ∀ w, (binOp op T v1 v2).run P w = .ok v w) : Cert P Q w0 k0 X ops i its bl olds o it := by
  refine cert_stay hk fun μ a w hK _ => ?_
  unfold execOp
  rw [ho, hout]
  dsimp only
  rw [h1 μ a hK]
  show (((eqGuard op T (.const v1) (.tmp t1) v1 v2) >>= fun _ => binOp op T v1 v2) >>= fun v => pure (Next.value v)).run P w = _
  rw [Sem.run_bind, Sem.run_bind, hg]
  dsimp only [Result.andThen]
  rw [hb]
  rfl
/-- Three slots are known, in the middle of a walk. -/
theorem mid3 {c : Code} {v0 v1 v2 : Value} {n : Nat} (t0 t1 t2 : Tmp) (h0 : a.tmps[t0]? = some v0) (h1 : a.tmps[t1]? = some v1) (h2 : a.tmps[t2]? = some v2) (hs : a.tmps.size = n) (hd : a.defers = [])
    (h : ∀ a, Sl a n → a.tmps[t0]? = some v0 → a.tmps[t1]? = some v1 → a.tmps[t2]? = some v2 → c.wp P Q a w) : c.wp P Q a w := h a ⟨hs, hd⟩ h0 h1 h2
/-- A block that was made just now. -/
theorem St.new (w : World) (C : List Value) (T : TypeId) : St w w.heap.size [] [C] [w.heap.size] (w.alloc (.cells C.toArray T)) := by
  refine ⟨⟨rfl, rfl, rfl, by rw [World.size_alloc]; omega, fun j hj _ => (below1 w _).block j hj⟩, by rw [World.size_alloc]; omega, rfl, fun b c h => ?_, fun b c hb hc hne => ?_⟩
  · cases b with
    | zero =>
      obtain rfl : C = c := by simpa using h
      refine ⟨fun j v hv => ?_, fun j hj => ?_, ?_, Or.inl (Nat.le_refl _)⟩
      · show (w.alloc _).cell? ⟨w.heap.size, 0 + j, none⟩ = some v
        rw [Nat.zero_add, World.cell?_alloc_new]
        simpa using hv
      · refine ⟨?_, World.frozen?_alloc_new _ _ _ _⟩
        show ((w.alloc _).cell? ⟨w.heap.size, 0 + j, none⟩).isSome = true
        rw [Nat.zero_add, World.cell?_alloc_new]
        simp [hj]
      · show w.heap.size < _
        rw [World.size_alloc]; omega
    | succ b => simp at h
  · simp only [List.length_cons, List.length_nil] at hb hc
    omega
theorem St.more {cs : List (List Value)} {ks : List Nat} {w' : World} (h : St w0 k0 X cs ks w) (hb : Below w.heap.size w w') : St w0 k0 X cs ks w' := by
  refine ⟨⟨hb.os.trans h.bel.os, hb.tape.trans h.bel.tape, hb.output.trans h.bel.output, Nat.le_trans h.bel.size hb.size, fun j hj hX => ?_⟩, Nat.le_trans h.le hb.size, h.len, fun b c hc => ?_, h.inj⟩
  · rw [hb.block j (Nat.lt_of_lt_of_le hj h.le)]
    exact h.bel.block j hj hX
  · obtain ⟨h1, h2, h3, h4⟩ := h.has b c hc
    exact ⟨range_below h1 hb h3, there_below h2 hb h3, Nat.lt_of_lt_of_le h3 hb.size, h4⟩
theorem St.store1 {C D : List Value} {k : Nat} (h : St w0 k0 X [C] [k] w) (T : TypeId) (hl : D.length = C.length) (hi : (P.info? T).map (·.size) = some D.length) (h1 : D.all (·.oneCell') = true) :
    ∃ w2, (storeCells ⟨k, 0, none⟩ D).run P w = .ok () w2 ∧ (storeVar T ⟨k, 0, none⟩ (.agg D.toArray)).run P w = .ok () w2 ∧ (Instr.storeAt T (.pointer (some ⟨k, 0, none⟩)) (.agg D.toArray)).run P w = .ok () w2 ∧ St w0 k0 X [D] [k] w2 := by
  have hh := h.has 0 C rfl
  rw [show ad [k] 0 = k from rfl] at hh
  obtain ⟨hr, ht, hlt, hor⟩ := hh
  have hPT := PutTo.whole ht hr hl
  have hv := run_storeVar_mid (P := P) w k 0 T D.toArray (by rw [List.size_toArray, hl]; exact ht) (by rw [List.size_toArray]; exact hi) (all_oneCell_toArray (fun v hv => List.all_eq_true.1 h1 v hv))
  have hc := run_storeCells_cells (P := P) k 0 D 0 w (fun j hj => by simpa using (ht j (by rw [← hl]; exact hj)).1) (fun j hj => by simpa using (ht j (by rw [← hl]; exact hj)).2) (fun v hv => List.all_eq_true.1 h1 v hv)
  refine ⟨_, hc, hv, ?_, ⟨⟨hPT.os.trans h.bel.os, hPT.tape.trans h.bel.tape, hPT.output.trans h.bel.output, Nat.le_trans h.bel.size hPT.size, fun j hj hX => ?_⟩, Nat.le_trans h.le hPT.size, rfl, fun b c hc => ?_, h.inj⟩⟩
  · simp only [Instr.storeAt, Instr.sureAddr, Sem.run_bind, Sem.run_pure, Result.andThen_ok, hv]
  · rw [← h.bel.block j hj hX]
    refine hPT.block j (Nat.lt_of_lt_of_le hj h.le) (fun e => ?_)
    rcases hor with h5 | h5
    · omega
    · exact hX (by rw [e]; exact h5)
  · cases b with
    | zero =>
      obtain rfl : D = c := by simpa using hc
      refine ⟨hPT.range, ?_, Nat.lt_of_lt_of_le hlt hPT.size, hor⟩
      have := hPT.there
      rw [← hl] at this
      exact this
    | succ b => simp at hc
/-- A row that lies in a block is read. -/
theorem read_row {k : Nat} {C : List Value} (T : TypeId) (h : w.rangeAt k 0 C) (hu : (P.underlying T).map (·.isRow) = some true) (hi : (P.info? T).map (·.size) = some C.length) :
    (loadVar T ⟨k, 0, none⟩).run P w = .ok (.agg C.toArray) w ∧ (Instr.loadAt T (.pointer (some ⟨k, 0, none⟩))).run P w = .ok (.agg C.toArray) w := by
  obtain ⟨d, hu, hd⟩ := Option.map_eq_some_iff.1 hu
  have h1 := run_loadVar_mid (P := P) w k 0 T C d h hu hd hi
  refine ⟨h1, ?_⟩
  simp only [Instr.loadAt, Instr.sureAddr, Sem.run_bind, Sem.run_pure, Result.andThen_ok, h1]
end Go.Proofs.YtfkgfcggcfkkiaaDoor.RG
set_option linter.unusedVariables false
set_option linter.unusedSimpArgs false
namespace Go.Proofs.YtfkgfcggcfkkiaaDoor.RG
open Go Go.RowKit
variable {P : Program} {ops : Array Oper} {Q : Exit → Act → World → Prop} {w0 w : World} {k0 n : Nat} {X : List Nat} {its : List It} {bl : List Bl} {os : List (Tmp × SV)} {a : Act} {i : Nat} {o : Oper} {it : It} {μ : Nat → Nat} {need : List (Tmp × Nat)}
/-- What a slot holds, where operation i looks at it. -/
def src (ops : Array Oper) (its : List It) (os : List (Tmp × SV)) (need : List (Tmp × Nat)) (i : Nat) (t : Tmp) : Option SV :=
  match need.find? (fun x => x.1 == t) with
  | some x => (its[x.2]?).map (·.out)
  | none => match os.find? (fun x => x.1 == t) with
    | some x => bif freeB ops its i t then some x.2 else none
    | none => none
theorem src_eval {t : Tmp} {s : SV} (h : src ops its os need i t = some s) (K : Known ops i its os need μ a) : a.eval (.tmp t) = s.at μ := by
  unfold src at h
  cases hn : need.find? (fun x => x.1 == t) with
  | some x =>
    rw [hn] at h
    dsimp only at h
    have h1 := List.mem_of_find?_eq_some hn
    have h2 : x.1 = t := by simpa using List.find?_some hn
    obtain ⟨jt, hj, rfl⟩ := Option.map_eq_some_iff.1 h
    exact K.op t x.2 (by rw [← h2]; exact h1) hj
  | none =>
    rw [hn] at h
    dsimp only at h
    cases ho : os.find? (fun x => x.1 == t) with
    | none => rw [ho] at h; cases h
    | some x =>
      rw [ho] at h
      dsimp only at h
      have h1 := List.mem_of_find?_eq_some ho
      have h2 : x.1 = t := by simpa using List.find?_some ho
      cases hf : freeB ops its i t with
      | false => rw [hf] at h; cases h
      | true =>
        rw [hf] at h
        obtain rfl : x.2 = s := Option.some.inj h
        exact K.old t x.2 (by rw [← h2]; exact h1) hf
theorem sx {t : Tmp} {f : (Nat → Nat) → Value} (h : ∀ μ : Nat → Nat, (src ops its os need i t).map (fun s => s.at μ) = some (f μ) := by intro _; kernel_rfl) : ∀ (μ : Nat → Nat) (a : Act), Known ops i its os need μ a → a.eval (.tmp t) = f μ := fun μ _ K => by
  obtain ⟨s, hs, he⟩ := Option.map_eq_some_iff.1 (h μ)
  rw [src_eval hs K]
  exact he
def ro (ops : Array Oper) (its : List It) (os : List (Tmp × SV)) (need : List (Tmp × Nat)) (i : Nat) (μ : Nat → Nat) : Operand → Value
  | .tmp t => match src ops its os need i t with | some s => s.at μ | none => undef
  | .const v => v
  | .global g => .pointer (some ⟨g, 0, none⟩)
  | .func f => .func (.func f) #[] #[]
def seen (ops : Array Oper) (its : List It) (os : List (Tmp × SV)) (need : List (Tmp × Nat)) (i : Nat) (o : Oper) : Bool :=
  (match o.op with | .select _ _ => false | _ => true) && o.op.operands.all (fun x => match x with | .tmp t => (src ops its os need i t).isSome | _ => true)
theorem exec_ro (h : seen ops its os need i o = true) (K : Known ops i its os need μ a) : execOp a.eval o = execOp (ro ops its os need i μ) o := by
  simp only [seen, Bool.and_eq_true] at h
  refine execOp_congr o (fun cs b he => ?_) (fun x hx => ?_)
  · rw [he] at h; exact absurd h.1 (by simp)
  · have h1 := Array.all_eq_true'.1 h.2 x hx
    cases x with
    | tmp t =>
      dsimp only at h1
      obtain ⟨s, hs⟩ := Option.isSome_iff_exists.1 h1
      rw [src_eval hs K]
      show _ = (match src ops its os need i t with | some s => s.at μ | none => undef)
      rw [hs]
    | const v => rfl
    | global g => rfl
    | func f => rfl
/-- An operation that the kernel runs. -/
theorem st (h : ∀ (μ : Nat → Nat) (w : World), ((seen ops its os it.need i o, it.kind), (execOp (ro ops its os it.need i μ) o).run P w) = ((true, Kind.stay), .ok (.value (it.out.at μ)) w) := by intro _ _; kernel_rfl) : Cert P Q w0 k0 X ops i its bl os o it := by
  intro μ a w K hK _ hbel
  have h0 := h μ w
  simp only [Prod.mk.injEq] at h0
  rw [h0.1.2]
  intro hK2
  unfold Oper.wp
  rw [exec_ro h0.1.1 hK, h0.2]
  exact hK2
theorem se {v v' : Value} (e : v' = v) (h : ∀ (μ : Nat → Nat) (w : World), ((seen ops its os it.need i o, it.kind, it.out), (execOp (ro ops its os it.need i μ) o).run P w) = ((true, Kind.stay, SV.v v), .ok (.value v') w) := by intro _ _; kernel_rfl) : Cert P Q w0 k0 X ops i its bl os o it := by
  intro μ a w K hK _ hbel
  have h0 := h μ w
  simp only [Prod.mk.injEq] at h0
  rw [h0.1.2.1]
  intro hK2
  rw [h0.1.2.2] at hK2
  unfold Oper.wp
  rw [exec_ro h0.1.1 hK, h0.2, e]
  exact hK2
/-- A new block. -/
theorem mk (b : Nat) (T : TypeId) (h : ∀ (μ : Nat → Nat) (w : World), ((seen ops its os it.need i o, it.kind), (execOp (ro ops its os it.need i μ) o).run P w) = ((true, Kind.make b), .ok (.value (it.out.at (upd μ b w.heap.size))) (w.alloc (.cells (((bl[b]?).map (·.before)).getD []).toArray T))) := by intro _ _; kernel_rfl) : Cert P Q w0 k0 X ops i its bl os o it := by
  intro μ a w K hK _ hbel
  have h0 := h μ w
  simp only [Prod.mk.injEq] at h0
  rw [h0.1.2]
  intro e hb h2
  unfold Oper.wp
  rw [exec_ro h0.1.1 hK, h0.2, hb]
  exact h2 _ _ (Made.alloc w e.before T)
/-- A call. -/
theorem clB {f : FuncId} {args : Array Value} {v : Value} (h : ∀ (μ : Nat → Nat) (w : World), ((seen ops its os it.need i o, it.kind, it.out), (execOp (ro ops its os it.need i μ) o).run P w) = ((true, Kind.call, SV.v v), .ok (.enter f args) w))
    (hc : ∀ w, BelX k0 X w0 w → Calls P f args w (Ret fun e w' => Below w.heap.size w w' ∧ e = v)) : Cert P Q w0 k0 X ops i its bl os o it := by
  intro μ a w K hK _ hbel
  have h0 := h μ w
  simp only [Prod.mk.injEq] at h0
  rw [h0.1.2.1]
  intro hk
  rw [h0.1.2.2] at hk
  unfold Oper.wp
  rw [exec_ro h0.1.1 hK, h0.2, Oper.upon_enter]
  refine (hc w hbel).mono ?_
  rintro e w' ⟨v', rfl, hb, rfl⟩
  exact hk w' hb
theorem cl {f : FuncId} {args : Array Value} {v : Value} (hc : ∀ w, Calls P f args w (Ret fun e w' => Below w.heap.size w w' ∧ e = v)) (h : ∀ (μ : Nat → Nat) (w : World), ((seen ops its os it.need i o, it.kind, it.out), (execOp (ro ops its os it.need i μ) o).run P w) = ((true, Kind.call, SV.v v), .ok (.enter f args) w) := by intro _ _; kernel_rfl) : Cert P Q w0 k0 X ops i its bl os o it :=
  clB h (fun w _ => hc w)
/-- A call that answers new memory. -/
theorem cm (b : Nat) {f : FuncId} {args : Array Value} {c : List Value} (hc : ∀ w, BelX k0 X w0 w → Calls P f args w (Ret fun e w' => ∃ k, Made w k c w' ∧ e = it.out.at (fun _ => k)))
    (h : ∀ (μ : Nat → Nat) (w : World), ((seen ops its os it.need i o, it.kind, (bl[b]?).map (·.before), it.out.blk), (execOp (ro ops its os it.need i μ) o).run P w) = ((true, Kind.make b, some c, some b), .ok (.enter f args) w)) : Cert P Q w0 k0 X ops i its bl os o it := by
  intro μ a w K hK _ hbel
  have h0 := h μ w
  simp only [Prod.mk.injEq] at h0
  obtain ⟨⟨h1, h2, h3, h4⟩, h5⟩ := h0
  rw [h2]
  intro e hb hk
  rw [hb] at h3
  obtain rfl : e.before = c := Option.some.inj h3
  unfold Oper.wp
  rw [exec_ro h1 hK, h5, Oper.upon_enter]
  refine (hc w hbel).mono ?_
  rintro r w' ⟨v', rfl, k, hm, rfl⟩
  have he : it.out.at (upd μ b k) = it.out.at (fun _ => k) := SV.at_congr fun b' hb' => by
    rw [h4] at hb'
    obtain rfl := Option.some.inj hb'
    unfold upd
    rw [if_pos rfl]
  have := hk k w' hm
  rw [he] at this
  exact this
/-- Operation i may read block b. -/
def canRead (ops : Array Oper) (i : Nat) (o : Oper) (bl : List Bl) (b : Nat) : Bool := match bl[b]? with
  | some e => (match e.al with | none => true | some j => depB o j) && readB ops i e
  | none => false
def Seen (bl : List Bl) (bs : List Nat) (μ : Nat → Nat) (w : World) : Prop := ∀ b ∈ bs, ∀ e : Bl, bl[b]? = some e → e.before ≠ [] → w.rangeAt (μ b) 0 e.before ∧ μ b < w.heap.size
theorem seen_of {bs : List Nat} (ho : ops[i]? = some o) (h : bs.all (canRead ops i o bl) = true) (hR : Reads ops i bl μ w) : Seen bl bs μ w := fun b hb e he hne => by
  have h1 := List.all_eq_true.1 h b hb
  unfold canRead at h1
  rw [he] at h1
  dsimp only at h1
  rw [Bool.and_eq_true] at h1
  have hr := hR b e he (by
    cases ha : e.al with
    | none => exact Or.inl rfl
    | some j => rw [ha] at h1; exact Or.inr ⟨o, j, ho, rfl, h1.1⟩) h1.2
  refine ⟨hr, ?_⟩
  cases hee : e.before with
  | nil => exact absurd hee hne
  | cons x r =>
    have h2 := hr 0 x (by rw [hee]; rfl)
    exact Classical.byContradiction fun hn => by
      have h3 : w.heap[μ b]? = none := Array.getElem?_eq_none (by omega)
      simp [World.cell?, h3] at h2
/-- A call that looks at blocks. -/
theorem cr (bs : List Nat) {f : FuncId} {args : (Nat → Nat) → Array Value} {v : Value} (hc : ∀ (μ : Nat → Nat) (w : World), BelX k0 X w0 w → Seen bl bs μ w → Calls P f (args μ) w (Ret fun e w' => Below w.heap.size w w' ∧ e = v))
    (h : ∀ (μ : Nat → Nat) (w : World), ((seen ops its os it.need i o, it.kind, it.out, bs.all (canRead ops i o bl), ops[i]?), (execOp (ro ops its os it.need i μ) o).run P w) = ((true, Kind.call, SV.v v, true, some o), .ok (.enter f (args μ)) w)) : Cert P Q w0 k0 X ops i its bl os o it := by
  intro μ a w K hK hR hbel
  have h0 := h μ w
  simp only [Prod.mk.injEq] at h0
  obtain ⟨⟨h1, h2, h3, h4, h6⟩, h5⟩ := h0
  rw [h2]
  intro hk
  rw [h3] at hk
  unfold Oper.wp
  rw [exec_ro h1 hK, h5, Oper.upon_enter]
  refine (hc μ w hbel (seen_of h6 h4 hR)).mono ?_
  rintro e w' ⟨v', rfl, hb, rfl⟩
  exact hk w' hb
/-- A call that looks at blocks and answers new memory. -/
theorem crm (b : Nat) (bs : List Nat) {f : FuncId} {args : (Nat → Nat) → Array Value} {c : List Value} (hc : ∀ (μ : Nat → Nat) (w : World), BelX k0 X w0 w → Seen bl bs μ w → Calls P f (args μ) w (Ret fun e w' => ∃ k, Made w k c w' ∧ e = it.out.at (fun _ => k)))
    (h : ∀ (μ : Nat → Nat) (w : World), ((seen ops its os it.need i o, it.kind, (bl[b]?).map (·.before), it.out.blk, bs.all (canRead ops i o bl), ops[i]?), (execOp (ro ops its os it.need i μ) o).run P w) = ((true, Kind.make b, some c, some b, true, some o), .ok (.enter f (args μ)) w)) : Cert P Q w0 k0 X ops i its bl os o it := by
  intro μ a w K hK hR hbel
  have h0 := h μ w
  simp only [Prod.mk.injEq] at h0
  obtain ⟨⟨h1, h2, h3, h4, h6, h7⟩, h5⟩ := h0
  rw [h2]
  intro e hb hk
  rw [hb] at h3
  obtain rfl : e.before = c := Option.some.inj h3
  unfold Oper.wp
  rw [exec_ro h1 hK, h5, Oper.upon_enter]
  refine (hc μ w hbel (seen_of h7 h6 hR)).mono ?_
  rintro r w' ⟨v', rfl, k, hm, rfl⟩
  have he : it.out.at (upd μ b k) = it.out.at (fun _ => k) := SV.at_congr fun b' hb' => by
    rw [h4] at hb'
    obtain rfl := Option.some.inj hb'
    unfold upd
    rw [if_pos rfl]
  have := hk k w' hm
  rw [he] at this
  exact this
/-- What a load of a row of n cells gives. -/
def ldv (ops : Array Oper) (its : List It) (bl : List Bl) (os : List (Tmp × SV)) (i : Nat) (o : Oper) (it : It) (T : TypeId) (n : Nat) : Option SV :=
  match it.kind, o.op with
  | .stay, .load T' (.tmp t) => match src ops its os it.need i t with
    | some (.p b off) => match bl[b]? with
      | some e => bif T' == T && e.al.isNone && readB ops i e && (off + n).ble e.before.length then some (.v (.agg ((e.before.drop off).take n).toArray)) else none
      | none => none
    | _ => none
  | _, _ => none
theorem ld {T : TypeId} {n : Nat} (hu : (P.underlying T).map (·.isRow) = some true) (hi : (P.info? T).map (·.size) = some n) (h : ldv ops its bl os i o it T n = some it.out := by kernel_rfl) : Cert P Q w0 k0 X ops i its bl os o it := by
  unfold ldv at h
  split at h
  · rename_i T' t hk ho
    split at h
    · rename_i b off hs
      split at h
      · rename_i e hb
        cases hc : (T' == T && e.al.isNone && readB ops i e && (off + n).ble e.before.length) with
        | false => rw [hc] at h; cases h
        | true =>
          rw [hc] at h
          have h' : some (SV.v (.agg ((e.before.drop off).take n).toArray)) = some it.out := h
          simp only [Bool.and_eq_true, beq_iff_eq, Option.isNone_iff_eq_none, Nat.ble_eq] at hc
          obtain ⟨⟨⟨rfl, hal⟩, hr⟩, hle⟩ := hc
          have hlen : ((e.before.drop off).take n).length = n := by rw [List.length_take, List.length_drop]; omega
          refine cert_load hk b off e hb hal hr T' t ho ((e.before.drop off).take n) (Option.some.inj h').symm (fun _ _ K => src_eval hs K) ?_ hu (by rw [hlen]; exact hi)
          rw [hlen]
      · cases h
    · cases h
  · cases h
/-- What a load of one cell gives. -/
def ldw (ops : Array Oper) (its : List It) (bl : List Bl) (os : List (Tmp × SV)) (i : Nat) (o : Oper) (it : It) (T : TypeId) : Option SV :=
  match it.kind, o.op with
  | .stay, .load T' (.tmp t) => match src ops its os it.need i t with
    | some (.p b off) => match bl[b]? with
      | some e => bif T' == T && e.al.isNone && readB ops i e then (e.before[off]?).map .v else none
      | none => none
    | _ => none
  | _, _ => none
theorem ld1 {T : TypeId} (hu : (P.underlying T).map (·.isRow) = some false) (h : ldw ops its bl os i o it T = some it.out := by kernel_rfl) : Cert P Q w0 k0 X ops i its bl os o it := by
  unfold ldw at h
  split at h
  · rename_i T' t hk ho
    split at h
    · rename_i b off hs
      split at h
      · rename_i e hb
        cases hc : (T' == T && e.al.isNone && readB ops i e) with
        | false => rw [hc] at h; cases h
        | true =>
          rw [hc] at h
          have h' : (e.before[off]?).map SV.v = some it.out := h
          obtain ⟨v, hv, hvo⟩ := Option.map_eq_some_iff.1 h'
          simp only [Bool.and_eq_true, beq_iff_eq, Option.isNone_iff_eq_none] at hc
          obtain ⟨⟨rfl, hal⟩, hr⟩ := hc
          exact cert_load1 hk b off e hb hal hr T' t ho v hvo.symm (fun _ _ K => src_eval hs K) hv hu
      · cases h
    · cases h
  · cases h
/-- What lies in a block behind a store of n cells. -/
def ptv (ops : Array Oper) (its : List It) (bl : List Bl) (os : List (Tmp × SV)) (i : Nat) (o : Oper) (it : It) (T : TypeId) (n : Nat) : Option (List Value) :=
  match it.kind, o.op, o.dst with
  | .put b, .store T' (.tmp x) (.tmp y), none => match src ops its os it.need i x, src ops its os it.need i y with
    | some (.p b' off), some (.v (.agg vs)) => match bl[b]? with
      | some e => bif T' == T && b' == b && vs.size == n && (off + n).ble e.before.length && vs.toList.all (·.oneCell') then some (rep e.before off vs.toList) else none
      | none => none
    | _, _ => none
  | _, _, _ => none
theorem pt {T : TypeId} {n : Nat} (hi : (P.info? T).map (·.size) = some n) (h : ((ptv ops its bl os i o it T n).isSome, ptv ops its bl os i o it T n) = (true, match it.kind with | .put b => (bl[b]?).map (·.after) | _ => none) := by kernel_rfl) : Cert P Q w0 k0 X ops i its bl os o it := by
  simp only [Prod.mk.injEq] at h
  obtain ⟨hso, h⟩ := h
  rw [h] at hso
  unfold ptv at h
  split at h
  · rename_i b T' x y hk ho hdn
    rw [hk] at h hso
    dsimp only at h hso
    cases hb : bl[b]? with
    | none => rw [hb] at hso; cases hso
    | some e =>
      rw [hb] at h
      split at h
      · rename_i b' off vs hx hy
        dsimp only at h
        cases hc : (T' == T && b' == b && vs.size == n && (off + n).ble e.before.length && vs.toList.all (·.oneCell')) with
        | false => rw [hc] at h; cases h
        | true =>
          rw [hc] at h
          have h' : some (rep e.before off vs.toList) = some e.after := h
          simp only [Bool.and_eq_true, beq_iff_eq, Nat.ble_eq] at hc
          obtain ⟨⟨⟨⟨rfl, rfl⟩, hn⟩, hle⟩, h1⟩ := hc
          have hlen : vs.toList.length = n := by rw [Array.length_toList]; exact hn
          refine cert_putAt b' off hk e hb T' (.tmp x) (.tmp y) vs.toList ho hdn (fun _ _ K => src_eval hx K) (fun _ _ K => ?_) (by rw [hlen]; exact hle) (fun j => ?_) (by rw [hlen]; exact hi) h1
          · rw [Array.toArray_toList]; exact src_eval hy K
          · rw [← Option.some.inj h', rep_at (by rw [hlen]; exact hle)]
      · cases h
  · rw [← h] at hso; cases hso
/-- Blocks: those that are there (cs), those that are made (which operation, what lies in it), what is stored (where, which operation, what). -/
def aft (pu : List (Nat × Nat × List Value)) (b : Nat) (c : List Value) : List Value := match pu.find? (fun x => x.1 == b) with | some x => x.2.2 | none => c
def sto (pu : List (Nat × Nat × List Value)) (b : Nat) : Option Nat := (pu.find? (fun x => x.1 == b)).map (·.2.1)
def olB (pu : List (Nat × Nat × List Value)) : Nat → List (List Value) → List Bl
  | _, [] => []
  | b, c :: r => ⟨c, aft pu b c, none, sto pu b⟩ :: olB pu (b + 1) r
def mkB (pu : List (Nat × Nat × List Value)) : Nat → List (Nat × List Value) → List Bl
  | _, [] => []
  | b, c :: r => ⟨c.2, aft pu b c.2, some c.1, sto pu b⟩ :: mkB pu (b + 1) r
def bls (cs : List (List Value)) (mk : List (Nat × List Value)) (pu : List (Nat × Nat × List Value)) : List Bl := olB pu 0 cs ++ mkB pu cs.length mk
theorem olB_len (pu : List (Nat × Nat × List Value)) : ∀ (cs : List (List Value)) (b : Nat), (olB pu b cs).length = cs.length
  | [], _ => rfl
  | c :: r, b => by rw [olB, List.length_cons, olB_len pu r, List.length_cons]
theorem mkB_len (pu : List (Nat × Nat × List Value)) : ∀ (cs : List (Nat × List Value)) (b : Nat), (mkB pu b cs).length = cs.length
  | [], _ => rfl
  | c :: r, b => by rw [mkB, List.length_cons, mkB_len pu r, List.length_cons]
theorem olB_before (pu : List (Nat × Nat × List Value)) : ∀ (cs : List (List Value)) (b : Nat), (olB pu b cs).map (·.before) = cs
  | [], _ => rfl
  | c :: r, b => by rw [olB, List.map_cons, olB_before pu r]
theorem mkB_before (pu : List (Nat × Nat × List Value)) : ∀ (cs : List (Nat × List Value)) (b : Nat), (mkB pu b cs).map (·.before) = cs.map (·.2)
  | [], _ => rfl
  | c :: r, b => by rw [mkB, List.map_cons, mkB_before pu r, List.map_cons]
theorem olB_get (pu : List (Nat × Nat × List Value)) : ∀ (cs : List (List Value)) (b j : Nat) (e : Bl), (olB pu b cs)[j]? = some e → e.al = none ∧ e.after = aft pu (b + j) e.before ∧ e.st = sto pu (b + j)
  | [], _, _, _, h => by simp [olB] at h
  | c :: r, b, 0, e, h => by
    rw [olB, List.getElem?_cons_zero] at h
    obtain rfl := Option.some.inj h
    exact ⟨rfl, rfl, rfl⟩
  | c :: r, b, j + 1, e, h => by
    rw [olB, List.getElem?_cons_succ] at h
    have := olB_get pu r (b + 1) j e h
    rwa [show b + 1 + j = b + (j + 1) by omega] at this
theorem mkB_get (pu : List (Nat × Nat × List Value)) : ∀ (cs : List (Nat × List Value)) (b j : Nat) (e : Bl), (mkB pu b cs)[j]? = some e → (∃ x ∈ cs, e.al = some x.1) ∧ e.after = aft pu (b + j) e.before ∧ e.st = sto pu (b + j)
  | [], _, _, _, h => by simp [mkB] at h
  | c :: r, b, 0, e, h => by
    rw [mkB, List.getElem?_cons_zero] at h
    obtain rfl := Option.some.inj h
    exact ⟨⟨c, List.mem_cons_self, rfl⟩, rfl, rfl⟩
  | c :: r, b, j + 1, e, h => by
    rw [mkB, List.getElem?_cons_succ] at h
    obtain ⟨⟨x, hx, h1⟩, h2⟩ := mkB_get pu r (b + 1) j e h
    refine ⟨⟨x, List.mem_cons_of_mem _ hx, h1⟩, ?_⟩
    rwa [show b + 1 + j = b + (j + 1) by omega] at h2
variable {cs cs' : List (List Value)} {mk : List (Nat × List Value)} {pu : List (Nat × Nat × List Value)} {ks : List Nat}
theorem bls_len : (bls cs mk pu).length = cs.length + mk.length := by rw [bls, List.length_append, olB_len, mkB_len]
theorem bls_before : (bls cs mk pu).map (·.before) = cs ++ mk.map (·.2) := by rw [bls, List.map_append, olB_before, mkB_before]
theorem bls_get {b : Nat} {e : Bl} (h : (bls cs mk pu)[b]? = some e) : e.after = aft pu b e.before ∧ e.st = sto pu b ∧ ((b < cs.length ∧ e.al = none) ∨ (cs.length ≤ b ∧ ∃ x ∈ mk, e.al = some x.1)) := by
  unfold bls at h
  by_cases hb : b < cs.length
  · rw [List.getElem?_append_left (by rw [olB_len]; exact hb)] at h
    have := olB_get pu cs 0 b e h
    rw [Nat.zero_add] at this
    exact ⟨this.2.1, this.2.2, Or.inl ⟨hb, this.1⟩⟩
  · rw [List.getElem?_append_right (by rw [olB_len]; omega), olB_len] at h
    have := mkB_get pu mk cs.length (b - cs.length) e h
    rw [show cs.length + (b - cs.length) = b by omega] at this
    exact ⟨this.2.1, this.2.2, Or.inr ⟨by omega, this.1⟩⟩
theorem bls_start : startB (bls cs mk pu) cs.length = true := by
  simp only [startB, Bool.and_eq_true, decide_eq_true_eq]
  refine ⟨List.all_eq_true.2 fun x hx => ?_, by rw [bls_len]; omega⟩
  rw [List.mem_zipIdx_iff_getElem?] at hx
  rcases (bls_get hx).2.2 with ⟨h1, h2⟩ | ⟨h1, y, -, h2⟩
  · rw [h2]; simp [h1]
  · rw [h2]; simp; omega
def inB (m : Nat) (mk : List (Nat × List Value)) (pu : List (Nat × Nat × List Value)) : Bool := mk.all (fun x => x.1.blt m) && pu.all (fun x => x.2.1.blt m)
theorem bls_end (h : inB its.length mk pu = true) (hl : pu.map (fun x => x.2.2.length) = pu.map (fun x => (((cs ++ mk.map (·.2))[x.1]?).getD []).length)) :
    (∀ e ∈ bls cs mk pu, ∀ j, e.al = some j ∨ e.st = some j → j < its.length) ∧ ∀ e ∈ bls cs mk pu, e.fin.length = e.before.length := by
  simp only [inB, Bool.and_eq_true] at h
  refine ⟨fun e he j hj => ?_, fun e he => ?_⟩
  · obtain ⟨b, hb⟩ := List.getElem?_of_mem he
    obtain ⟨h1, h2, h3⟩ := bls_get hb
    rcases hj with hj | hj
    · rcases h3 with ⟨-, h4⟩ | ⟨-, x, hx, h4⟩
      · rw [h4] at hj; cases hj
      · rw [h4] at hj
        obtain rfl := Option.some.inj hj
        have := List.all_eq_true.1 h.1 x hx
        exact Nat.lt_of_succ_le (Nat.le_of_ble_eq_true this)
    · rw [h2] at hj
      unfold sto at hj
      obtain ⟨x, hx, rfl⟩ := Option.map_eq_some_iff.1 hj
      have := List.all_eq_true.1 h.2 x (List.mem_of_find?_eq_some hx)
      exact Nat.lt_of_succ_le (Nat.le_of_ble_eq_true this)
  · obtain ⟨b, hb⟩ := List.getElem?_of_mem he
    obtain ⟨h1, h2, -⟩ := bls_get hb
    unfold Bl.fin
    rw [h2, h1]
    unfold sto aft
    cases hp : pu.find? (fun x => x.1 == b) with
    | none => rfl
    | some x =>
      show x.2.2.length = _
      have hm := List.mem_of_find?_eq_some hp
      have hx : x.1 = b := by simpa using List.find?_some hp
      have h5 := List.map_inj_left.1 hl x hm
      rw [h5, ← bls_before (pu := pu), hx, List.getElem?_map, hb]
      rfl
/-- What a slot holds behind a region. -/
def lk (its : List It) (os : List (Tmp × SV)) (t : Tmp) : Option SV :=
  match its.find? (fun it => it.dst == some t) with
  | some it => some it.out
  | none => (os.find? (fun x => x.1 == t)).map (·.2)
/-- THE MACHINE: the blocks, the slots. -/
structure M (w0 : World) (k0 : Nat) (X : List Nat) (n : Nat) (cs : List (List Value)) (ks : List Nat) (os : List (Tmp × SV)) (a : Act) (w : World) : Prop where
  st : St w0 k0 X cs ks w
  sl : Sl a n
  os : Olds a (ad ks) os
def All : Nat → (List Nat → Prop) → Prop
  | 0, f => f []
  | n + 1, f => ∀ k : Nat, All n fun l => f (k :: l)
theorem All.get : ∀ {n : Nat} {f : List Nat → Prop}, All n f → ∀ l : List Nat, l.length = n → f l
  | 0, f, h, l, hl => by rw [List.length_eq_zero_iff.1 hl]; exact h
  | n + 1, f, h, [], hl => by simp at hl
  | n + 1, f, h, k :: l, hl => All.get (h k) l (by simpa using hl)
theorem at_more {s : SV} {new : List Nat} (h : ∀ b, s.blk = some b → b < ks.length) : s.at (ad (ks ++ new)) = s.at (ad ks) := SV.at_congr fun b hb => by
  unfold ad
  rw [List.getD_eq_getElem?_getD, List.getD_eq_getElem?_getD, List.getElem?_append_left (h b hb)]
theorem Olds.mk' {μ : Nat → Nat} : ∀ {l : List (Tmp × SV)}, (∀ x ∈ l, a.tmps[x.1]? = some (x.2.at μ)) → Olds a μ l
  | [], _ => trivial
  | x :: r, h => ⟨h x List.mem_cons_self, Olds.mk' fun y hy => h y (List.mem_cons_of_mem _ hy)⟩
theorem M.next {os' : List (Tmp × SV)} {new : List Nat} {w' : World} (h : M w0 k0 X n cs ks os a w) (hall : allB ops its (bls cs mk pu) os n = true) (hlk : (os'.map fun x => lk its os x.1) = os'.map fun x => some x.2)
    (hS : St w0 k0 X cs' (ks ++ new) w') : M w0 k0 X n cs' (ks ++ new) os' (puts (ad (ks ++ new)) its a) w' := by
  refine ⟨hS, h.sl.puts, Olds.mk' fun x hx => ?_⟩
  have h1 := List.map_inj_left.1 hlk x hx
  simp only [allB, Bool.and_eq_true, beq_iff_eq] at hall
  obtain ⟨⟨⟨⟨hsz, hd⟩, hold⟩, hin⟩, hok⟩ := hall
  unfold lk at h1
  cases hf : its.find? (fun it => it.dst == some x.1) with
  | some it =>
    rw [hf] at h1
    have hm := List.mem_of_find?_eq_some hf
    have hdt : it.dst = some x.1 := by simpa using List.find?_some hf
    obtain ⟨j, hj⟩ := List.getElem?_of_mem hm
    have hlt := List.all_eq_true.1 hin it hm
    rw [hdt] at hlt
    have := puts_same (ad (ks ++ new)) its a j it x.1 hd hj hdt (by rw [h.sl.size]; simpa using hlt)
    rw [this, ← Option.some.inj h1]
  | none =>
    rw [hf] at h1
    obtain ⟨y, hy, hyx⟩ := Option.map_eq_some_iff.1 h1
    have hm := List.mem_of_find?_eq_some hy
    have hyt : y.1 = x.1 := by simpa using List.find?_some hy
    have h2 := h.os.get y.1 y.2 hm
    rw [puts_other _ its a x.1 (fun it hit hdd => by
      have := List.find?_eq_none.1 hf it hit
      rw [hdd] at this
      simp at this), ← hyt, h2, ← hyx]
    congr 1
    refine (at_more fun b hb => ?_).symm
    have h3 := List.all_eq_true.1 hold y hm
    rw [hb] at h3
    dsimp only at h3
    cases he : (bls cs mk pu)[b]? with
    | none => rw [he] at h3; cases h3
    | some e =>
      rw [he] at h3
      rcases (bls_get he).2.2 with ⟨h4, -⟩ | ⟨-, z, -, h5⟩
      · rw [h.st.len]; exact h4
      · dsimp only at h3; rw [h5] at h3; simp at h3
theorem M.reg (h : M w0 k0 X n cs ks os a w) (hall : allB ops its (bls cs mk pu) os n = true) (hc : Certs P Q w0 k0 X ops its (bls cs mk pu) os 0 ops.toList its) : Reg P ops Q w0 k0 X its (bls cs mk pu) os a (ad ks) :=
  Reg.mk' (by rw [h.sl.size]; exact hall) h.os hc
theorem bls_take : ((bls cs mk pu).map (·.before)).take cs.length = cs := by rw [bls_before, List.take_left']; rfl
/-- A region in the order of its text. -/
theorem M.tx {id : Nat} (h : M w0 k0 X n cs ks os a w) (its : List It) (mk : List (Nat × List Value)) (pu : List (Nat × Nat × List Value)) (cs' : List (List Value)) (os' : List (Tmp × SV))
    (hk : (allB ops its (bls cs mk pu) os n && inB its.length mk pu, (bls cs mk pu).map Bl.fin, os'.map fun x => lk its os x.1) = (true, cs', os'.map fun x => some x.2))
    (hl : pu.map (fun x => x.2.2.length) = pu.map (fun x => (((cs ++ mk.map (·.2))[x.1]?).getD []).length))
    (hc : Certs P Q w0 k0 X ops its (bls cs mk pu) os 0 ops.toList its)
    (hp : All mk.length fun new => ∀ a' w', M w0 k0 X n cs' (ks ++ new) os' a' w' → Q .normal a' w') : (Code.region id ops false).wp P Q a w := by
  simp only [Prod.mk.injEq, Bool.and_eq_true] at hk
  obtain ⟨⟨h1, h2⟩, h3, h4⟩ := hk
  refine region_text' h.st (h.reg h1 hc) bls_start bls_take (bls_end h2 hl) fun new w' hn hS => ?_
  rw [bls_len, Nat.add_sub_cancel_left] at hn
  exact hp.get new hn _ _ (h.next h1 h4 (h3 ▸ hS))
/-- A region that draws its order. -/
theorem M.dr {id : Nat} (h : M w0 k0 X n cs ks os a w) (hm : P.follows .mixedOrders = true) (its : List It) (mk : List (Nat × List Value)) (pu : List (Nat × Nat × List Value)) (cs' : List (List Value)) (os' : List (Tmp × SV))
    (hk : (allB ops its (bls cs mk pu) os n && inB its.length mk pu, (bls cs mk pu).map Bl.fin, os'.map fun x => lk its os x.1) = (true, cs', os'.map fun x => some x.2))
    (hl : pu.map (fun x => x.2.2.length) = pu.map (fun x => (((cs ++ mk.map (·.2))[x.1]?).getD []).length))
    (hc : Certs P Q w0 k0 X ops its (bls cs mk pu) os 0 ops.toList its)
    (hp : All mk.length fun new => ∀ a' w', M w0 k0 X n cs' (ks ++ new) os' a' w' → Q .normal a' w') : (Code.region id ops true).wp P Q a w := by
  simp only [Prod.mk.injEq, Bool.and_eq_true] at hk
  obtain ⟨⟨h1, h2⟩, h3, h4⟩ := hk
  refine region_draws' hm h.st (h.reg h1 hc) bls_start bls_take (bls_end h2 hl) fun new w' hn hS => ?_
  rw [bls_len, Nat.add_sub_cancel_left] at hn
  exact hp.get new hn _ _ (h.next h1 h4 (h3 ▸ hS))
theorem bls_nil : (bls cs [] []).map Bl.fin = cs := by
  have h : ∀ (cs : List (List Value)) (b : Nat), (olB [] b cs).map Bl.fin = cs := fun cs => by
    induction cs with
    | nil => intro _; rfl
    | cons c r ih => intro b; rw [olB, List.map_cons, ih]; rfl
  rw [bls, List.map_append, h]
  exact List.append_nil _
theorem M.tx0 {id : Nat} (h : M w0 k0 X n cs ks os a w) (its : List It) (os' : List (Tmp × SV)) (hk : (allB ops its (bls cs [] []) os n, os'.map fun x => lk its os x.1) = (true, os'.map fun x => some x.2))
    (hc : Certs P Q w0 k0 X ops its (bls cs [] []) os 0 ops.toList its) (hp : ∀ a' w', M w0 k0 X n cs ks os' a' w' → Q .normal a' w') : (Code.region id ops false).wp P Q a w := by
  simp only [Prod.mk.injEq] at hk
  refine h.tx its [] [] cs os' (by simp only [hk.1, hk.2, bls_nil]; rfl) rfl hc (fun a' w' hM => hp a' w' ?_)
  rwa [List.append_nil] at hM
theorem M.dr0 {id : Nat} (h : M w0 k0 X n cs ks os a w) (hm : P.follows .mixedOrders = true) (its : List It) (os' : List (Tmp × SV)) (hk : (allB ops its (bls cs [] []) os n, os'.map fun x => lk its os x.1) = (true, os'.map fun x => some x.2))
    (hc : Certs P Q w0 k0 X ops its (bls cs [] []) os 0 ops.toList its) (hp : ∀ a' w', M w0 k0 X n cs ks os' a' w' → Q .normal a' w') : (Code.region id ops true).wp P Q a w := by
  simp only [Prod.mk.injEq] at hk
  refine h.dr hm its [] [] cs os' (by simp only [hk.1, hk.2, bls_nil]; rfl) rfl hc (fun a' w' hM => hp a' w' ?_)
  rwa [List.append_nil] at hM
/-- The same, with what the kernel finds by itself behind. -/
theorem M.t {id : Nat} (h : M w0 k0 X n cs ks os a w) (its : List It) (mk : List (Nat × List Value)) (pu : List (Nat × Nat × List Value)) (cs' : List (List Value)) (os' : List (Tmp × SV)) (hc : Certs P Q w0 k0 X ops its (bls cs mk pu) os 0 ops.toList its) (hp : All mk.length fun new => ∀ a' w', M w0 k0 X n cs' (ks ++ new) os' a' w' → Q .normal a' w') (hk : (allB ops its (bls cs mk pu) os n && inB its.length mk pu, (bls cs mk pu).map Bl.fin, os'.map fun x => lk its os x.1) = (true, cs', os'.map fun x => some x.2) := by kernel_rfl) (hl : pu.map (fun x => x.2.2.length) = pu.map (fun x => (((cs ++ mk.map (·.2))[x.1]?).getD []).length) := by kernel_rfl) : (Code.region id ops false).wp P Q a w := h.tx its mk pu cs' os' hk hl hc hp
theorem M.d {id : Nat} (h : M w0 k0 X n cs ks os a w) (its : List It) (mk : List (Nat × List Value)) (pu : List (Nat × Nat × List Value)) (cs' : List (List Value)) (os' : List (Tmp × SV)) (hc : Certs P Q w0 k0 X ops its (bls cs mk pu) os 0 ops.toList its) (hp : All mk.length fun new => ∀ a' w', M w0 k0 X n cs' (ks ++ new) os' a' w' → Q .normal a' w') (hk : (allB ops its (bls cs mk pu) os n && inB its.length mk pu, (bls cs mk pu).map Bl.fin, os'.map fun x => lk its os x.1) = (true, cs', os'.map fun x => some x.2) := by kernel_rfl) (hl : pu.map (fun x => x.2.2.length) = pu.map (fun x => (((cs ++ mk.map (·.2))[x.1]?).getD []).length) := by kernel_rfl) (hm : P.follows .mixedOrders = true := by kernel_rfl) : (Code.region id ops true).wp P Q a w := h.dr hm its mk pu cs' os' hk hl hc hp
theorem M.u {id : Nat} (h : M w0 k0 X n cs ks os a w) (its : List It) (os' : List (Tmp × SV)) (hc : Certs P Q w0 k0 X ops its (bls cs [] []) os 0 ops.toList its) (hp : ∀ a' w', M w0 k0 X n cs ks os' a' w' → Q .normal a' w') (hk : (allB ops its (bls cs [] []) os n, os'.map fun x => lk its os x.1) = (true, os'.map fun x => some x.2) := by kernel_rfl) : (Code.region id ops false).wp P Q a w := h.tx0 its os' hk hc hp
theorem M.e {id : Nat} (h : M w0 k0 X n cs ks os a w) (its : List It) (os' : List (Tmp × SV)) (hc : Certs P Q w0 k0 X ops its (bls cs [] []) os 0 ops.toList its) (hp : ∀ a' w', M w0 k0 X n cs ks os' a' w' → Q .normal a' w') (hk : (allB ops its (bls cs [] []) os n, os'.map fun x => lk its os x.1) = (true, os'.map fun x => some x.2) := by kernel_rfl) (hm : P.follows .mixedOrders = true := by kernel_rfl) : (Code.region id ops true).wp P Q a w := h.dr0 hm its os' hk hc hp
theorem M.at (h : M w0 k0 X n cs ks os a w) {t : Tmp} {s : SV} (hs : (os.find? (fun x => x.1 == t)).map (·.2) = some s := by kernel_rfl) : a.tmps[t]? = some (s.at (ad ks)) := by
  obtain ⟨y, hy, rfl⟩ := Option.map_eq_some_iff.1 hs
  have hyt : y.1 = t := by simpa using List.find?_some hy
  rw [← hyt]
  exact h.os.get y.1 y.2 (List.mem_of_find?_eq_some hy)
theorem St.made {w w' : World} {cs : List (List Value)} {ks : List Nat} (h : St w w.heap.size [] cs ks w') {b : Nat} {c : List Value} (hb : cs[b]? = some c) : Made w (ad ks b) c w' := by
  obtain ⟨h1, h2, h3, h4⟩ := h.has b c hb
  exact ⟨h.bel.below, h4.elim id (fun h => absurd h List.not_mem_nil), h3, h1, h2⟩
theorem M.av (h : M w0 k0 X n cs ks os a w) {t : Tmp} {v : Value} (hs : (os.find? (fun x => x.1 == t)).map (·.2) = some (.v v) := by kernel_rfl) : a.tmps[t]? = some v := h.at hs
theorem M.ev (h : M w0 k0 X n cs ks os a w) {t : Tmp} {v : Value} (hs : (os.find? (fun x => x.1 == t)).map (·.2) = some (.v v) := by kernel_rfl) : a.eval (.tmp t) = v := eval_of (h.at hs)
/-- A call begins. -/
theorem M.enter {c : Code} (os : List (Tmp × SV)) (n : Nat) (h : (os.map fun x => a.tmps[x.1]?, a.tmps.size, a.defers) = (os.map fun x => some (x.2.at (ad [])), n, [])) (hp : ∀ a, M w w.heap.size [] n [] [] os a w → c.wp P Q a w) : c.wp P Q a w := by
  simp only [Prod.mk.injEq] at h
  exact hp a ⟨St.begin w, ⟨h.2.1, h.2.2⟩, Olds.mk' fun x hx => List.map_inj_left.1 h.1 x hx⟩
/-- Blocks that nobody asks for any more. -/
theorem M.drop {w0 w : World} {k0 n : Nat} {X : List Nat} {cs cs2 : List (List Value)} {ks ks2 : List Nat} {os : List (Tmp × SV)} {a : Act} (h : M w0 k0 X n (cs ++ cs2) (ks ++ ks2) os a w) (hl : ks.length = cs.length)
    (ho : os.all (fun x => match x.2.blk with | none => true | some b => b.blt cs.length) = true) : M w0 k0 X n cs ks os a w := by
  have had : ∀ b, b < cs.length → ad (ks ++ ks2) b = ad ks b := fun b hb => by
    unfold ad
    rw [List.getD_eq_getElem?_getD, List.getD_eq_getElem?_getD, List.getElem?_append_left (by omega)]
  refine ⟨⟨h.st.bel, h.st.le, hl, fun b c hb => ?_, fun b c hb hc hne => ?_⟩, h.sl, Olds.mk' fun x hx => ?_⟩
  · have hlt := (List.getElem?_eq_some_iff.1 hb).1
    have := h.st.has b c (by rw [List.getElem?_append_left hlt]; exact hb)
    rwa [had b hlt] at this
  · have := h.st.inj b c (by rw [List.length_append]; omega) (by rw [List.length_append]; omega) hne
    rwa [had b hb, had c hc] at this
  · rw [h.os.get x.1 x.2 hx]
    congr 1
    refine SV.at_congr fun b hb => ?_
    have h1 := List.all_eq_true.1 ho x hx
    rw [hb] at h1
    exact had b (Nat.lt_of_succ_le (Nat.le_of_ble_eq_true h1))
/-- n words that are 0. -/
abbrev z (n : Nat) : List Value := List.replicate n (.int .u64 0)
def It.s (d : Tmp) (need : List (Tmp × Nat)) (out : SV) : It := ⟨some d, need, out, .stay⟩
def It.x (d : Tmp) (need : List (Tmp × Nat)) (v : Value) : It := ⟨some d, need, .v v, .stay⟩
def It.c (d : Tmp) (need : List (Tmp × Nat)) (v : Value) : It := ⟨some d, need, .v v, .call⟩
def It.m (d : Tmp) (need : List (Tmp × Nat)) (b : Nat) : It := ⟨some d, need, .p b 0, .make b⟩
def It.u (need : List (Tmp × Nat)) (b : Nat) : It := ⟨none, need, .v undef, .put b⟩
end Go.Proofs.YtfkgfcggcfkkiaaDoor.RG
