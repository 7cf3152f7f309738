import Derived.BigRegion
import Derived.Deep.DeepCutAuto
import Derived.Test.YtfkgfcggcfkkiaaDoorwk3
set_option linter.unusedVariables false
set_option linter.unusedSimpArgs false
set_option linter.unusedVariables false
set_option linter.unusedSimpArgs false
namespace Go.Proofs.YtfkgfcggcfkkiaaDoor.RX
open Go.Proofs.YtfkgfcggcfkkiaaDoor.RG
open Go Go.RowKit
variable {P : Program} {ops : Array Oper} {Q : Exit → Act → World → Prop} {w : World} {a0 : Act} {L : Array Bool}
/-- A region as a flow: what holds of each operation's value, what holds at first, what each does to the world, who ends what holds. -/
structure Flow where
  R : Nat → Value → World → Prop
  B : Nat → World → Prop
  E : Nat → World → World → Prop
  kill : Nat → List Nat
  killB : Nat → List Nat
def dstOf (ops : Array Oper) (i : Nat) : Option Tmp := (ops[i]?).bind (·.dst)
def depOn (ops : Array Oper) (x k : Nat) : Bool := match ops[x]? with | some o => depB o k | none => true
def okK (ops : Array Oper) (k : Nat) (l : List Nat) : Bool := l.all (fun x => x == k || depOn ops x k)
/-- Slot t is filled by operations alone that wait for k. -/
def freeF (ops : Array Oper) (k : Nat) (t : Tmp) : Bool := (List.range ops.size).all (fun i => dstOf ops i != some t || i == k || depOn ops i k)
structure InvF (F : Flow) (ops : Array Oper) (a0 : Act) (L : Array Bool) (a : Act) (w : World) : Prop where
  size : L.size = ops.size
  cl : ∀ (i : Nat) (o : Oper), ops[i]? = some o → on L i = true → ∀ e ∈ o.after, Region.binds .any e = true → on L e.on = true
  def' : a.defers = a0.defers
  sz : a.tmps.size = a0.tmps.size
  rest : ∀ t : Tmp, (∀ i, on L i = true → dstOf ops i ≠ some t) → a.tmps[t]? = a0.tmps[t]?
  all : ∃ V : Nat → Value, (∀ i d, on L i = true → dstOf ops i = some d → a.tmps[d]? = some (V i)) ∧ (∀ i, on L i = true → (∀ x ∈ F.kill i, on L x = false) → F.R i (V i) w)
  base : ∀ b, (∀ x ∈ F.killB b, on L x = false) → F.B b w
/-- What an operation is asked for. -/
def CertF (P : Program) (Q : Exit → Act → World → Prop) (F : Flow) (ops : Array Oper) (a0 : Act) (k : Nat) (o : Oper) : Prop :=
  ∀ (a : Act) (w : World) (K : Act → World → Prop),
    (∀ j d, depB o j = true → okK ops k (F.kill j) = true → dstOf ops j = some d → F.R j (a.eval (.tmp d)) w) →
    (∀ t, freeF ops k t = true → a.eval (.tmp t) = a0.eval (.tmp t)) →
    (∀ b, okK ops k (F.killB b) = true → F.B b w) → a.defers = a0.defers →
    (∀ v w', F.E k w w' → F.R k v w' → K (a.put o.dst v) w') → o.wp P a w K Q
/-- An operation that may be guarded: it is wanted, or it is passed by. -/
def CertH (P : Program) (Q : Exit → Act → World → Prop) (F : Flow) (ops : Array Oper) (a0 : Act) (k : Nat) (o : Oper) : Prop :=
  match o.guard with
  | none => CertF P Q F ops a0 k o
  | some (j, want) => depB o j = true ∧ (dstOf ops j).isSome = true ∧ okK ops k (F.kill j) = true ∧
    (((∀ v w, F.R j v w → v = .bool want) ∧ CertF P Q F ops a0 k o) ∨ ((∀ v w, F.R j v w → v = .bool (!want)) ∧ ∀ w, F.E k w w ∧ F.R k undef w))
def chkF (ops : Array Oper) (n : Nat) : Bool :=
  (List.range ops.size).all (fun i => match ops[i]? with
    | some o => o.after.all (fun e => !Region.binds .any e || e.on < i) && (match o.dst with | none => true | some d => decide (d < n) && (List.range ops.size).all (fun j => j == i || dstOf ops j != some d))
    | none => false)
structure RegF (P : Program) (Q : Exit → Act → World → Prop) (F : Flow) (ops : Array Oper) (a0 : Act) (m : Nat) : Prop where
  chk : chkF ops a0.tmps.size = true
  cert : ∀ k o, k < m → ops[k]? = some o → CertH P Q F ops a0 k o
  stab : ∀ i j, i < m → j < m → i ≠ j → (F.kill j).contains i = false → depOn ops j i = false → ∀ v w w', F.E i w w' → F.R j v w → F.R j v w'
  stabB : ∀ i b, i < m → (F.killB b).contains i = false → ∀ w w', F.E i w w' → F.B b w → F.B b w'
variable {F : Flow} {m : Nat}
theorem RegF.of {k : Nat} {o : Oper} (h : RegF P Q F ops a0 m) (ho : ops[k]? = some o) : (∀ e ∈ o.after, Region.binds .any e = true → e.on < k) ∧ ∀ d, o.dst = some d → d < a0.tmps.size ∧ ∀ j, dstOf ops j = some d → j = k := by
  have hk : k < ops.size := (Array.getElem?_eq_some_iff.1 ho).1
  have h1 := List.all_eq_true.1 h.chk k (List.mem_range.2 hk)
  rw [ho] at h1
  simp only [Bool.and_eq_true] at h1
  obtain ⟨h2, h3⟩ := h1
  refine ⟨fun e he hb => ?_, fun d hd => ?_⟩
  · have := Array.all_eq_true'.1 h2 e he
    simpa [hb] using this
  · rw [hd] at h3
    simp only [Bool.and_eq_true, decide_eq_true_eq] at h3
    refine ⟨h3.1, fun j hj => ?_⟩
    have hjs : j < ops.size := by
      unfold dstOf at hj
      cases hx : ops[j]? with
      | none => rw [hx] at hj; cases hj
      | some x => exact (Array.getElem?_eq_some_iff.1 hx).1
    have := List.all_eq_true.1 h3.2 j (List.mem_range.2 hjs)
    simpa [hj] using this
theorem dstOf_some {i : Nat} {o : Oper} (ho : ops[i]? = some o) : dstOf ops i = o.dst := by unfold dstOf; rw [ho]; rfl
theorem dep_on {a : Act} {x k : Nat} {o : Oper} (h : InvF F ops a0 L a w) {ho : ops[x]? = some o} (hd : depB o k = true) (hx : on L x = true) : on L k = true := by
  obtain ⟨e, he, hb⟩ := Array.any_eq_true'.1 hd
  simp only [Bool.and_eq_true, beq_iff_eq] at hb
  rw [← hb.2]
  exact h.cl x o ho hx e he hb.1
theorem on_lt {L : Array Bool} {x : Nat} (h : on L x = true) : x < L.size := by
  rcases Nat.lt_or_ge x L.size with h1 | h1
  · exact h1
  · unfold on at h
    rw [Array.getD_eq_getD_getElem?, Array.getElem?_eq_none h1] at h
    cases h
theorem stepF {k : Nat} {o : Oper} {a : Act} (R : RegF P Q F ops a0 m) (hkm : k < m) (hlt : ∀ i, on L i = true → i < m) (ho : ops[k]? = some o) (hun : on L k = false) (hdep : ∀ e ∈ o.after, Region.binds .any e = true → on L e.on = true) (h : InvF F ops a0 L a w) :
    wpOp P ops Q k (InvF F ops a0 (L.setIfInBounds k true)) a w := by
  obtain ⟨hback, hdst⟩ := R.of ho
  have hks : k < ops.size := (Array.getElem?_eq_some_iff.1 ho).1
  have hkL : k < L.size := by rw [h.size]; exact hks
  have hdo : dstOf ops k = o.dst := dstOf_some ho
  have hnot : ∀ x, (x == k || depOn ops x k) = true → on L x = false := fun x hx => by
    cases hon : on L x with
    | false => rfl
    | true =>
      rcases Bool.or_eq_true _ _ ▸ hx with h1 | h1
      · rw [show x = k by simpa using h1, hun] at hon; cases hon
      · unfold depOn at h1
        have hxs : x < ops.size := by rw [← h.size]; exact on_lt hon
        have hox : ops[x]? = some ops[x] := Array.getElem?_eq_getElem hxs
        rw [hox] at h1
        have := dep_on (ho := hox) h h1 hon
        rw [hun] at this; cases this
  obtain ⟨V, hV1, hV2⟩ := h.all
  have hp1 : ∀ j d, depB o j = true → okK ops k (F.kill j) = true → dstOf ops j = some d → a.tmps[d]? = some (V j) ∧ F.R j (V j) w := fun j d hj hok hd => by
    obtain ⟨e, he, hb⟩ := Array.any_eq_true'.1 hj
    simp only [Bool.and_eq_true, beq_iff_eq] at hb
    have hjon : on L j = true := by rw [← hb.2]; exact hdep e he hb.1
    exact ⟨hV1 j d hjon hd, hV2 j hjon fun x hx => hnot x (List.all_eq_true.1 hok x hx)⟩
  have hpre1 : ∀ j d, depB o j = true → okK ops k (F.kill j) = true → dstOf ops j = some d → F.R j (a.eval (.tmp d)) w := fun j d hj hok hd => by
    rw [eval_of (hp1 j d hj hok hd).1]
    exact (hp1 j d hj hok hd).2
  have hpre2 : ∀ t, freeF ops k t = true → a.eval (.tmp t) = a0.eval (.tmp t) := fun t hf => by
    have h1 := h.rest t fun i hi hd => by
      have his : i < ops.size := by rw [← h.size]; exact on_lt hi
      have h2 := List.all_eq_true.1 hf i (List.mem_range.2 his)
      rw [hd] at h2
      have h3 : (i == k || depOn ops i k) = true := by simpa using h2
      rw [hnot i h3] at hi; cases hi
    show a.tmps.getD t undef = a0.tmps.getD t undef
    rw [Array.getD_eq_getD_getElem?, Array.getD_eq_getD_getElem?, h1]
  have hpre3 : ∀ b, okK ops k (F.killB b) = true → F.B b w := fun b hb => h.base b fun x hx => hnot x (List.all_eq_true.1 hb x hx)
  have hpost : ∀ v w', F.E k w w' → F.R k v w' → InvF F ops a0 (L.setIfInBounds k true) (a.put o.dst v) w' := fun v w' hE hR => by
    have hon : ∀ x, on (L.setIfInBounds k true) x = (on L x || k == x) := fun x => on_set hkL
    refine ⟨by rw [Array.size_setIfInBounds]; exact h.size, fun i oi hoi hi e he hb => ?_, ?_, ?_, fun t ht => ?_, ⟨fun x => if x = k then v else V x, fun i d hi hd => ?_, fun i hi hkl => ?_⟩, fun b hb => ?_⟩
    · rw [hon] at hi ⊢
      by_cases hik : k = i
      · subst hik
        rw [ho] at hoi
        obtain rfl := Option.some.inj hoi
        rw [hdep e he hb, Bool.true_or]
      · rw [h.cl i oi hoi (by simpa [hik] using hi) e he hb, Bool.true_or]
    · rw [← h.def']; cases o.dst <;> rfl
    · rw [put_size]; exact h.sz
    · have h1 : o.dst ≠ some t := fun hd => ht k (by rw [hon]; simp) (by rw [hdo]; exact hd)
      rw [put_other a v h1]
      exact h.rest t fun i hi => ht i (by rw [hon, hi, Bool.true_or])
    · rw [hon] at hi
      by_cases hik : i = k
      · subst hik
        rw [hdo] at hd
        rw [hd]
        show (a.tmps.setIfInBounds d v)[d]? = some (if i = i then v else V i)
        rw [if_pos (rfl : i = i)]
        rw [Array.getElem?_setIfInBounds, if_pos rfl, if_pos (by rw [h.sz]; exact (hdst d hd).1)]
      · have hne : o.dst ≠ some d := fun hd2 => hik ((hdst d hd2).2 i hd)
        rw [put_other a v hne]
        show _ = some (if i = k then v else V i)
        rw [if_neg hik]
        have hik' : ¬ k = i := fun e => hik e.symm
        exact hV1 i d (by simpa [hik'] using hi) hd
    · rw [hon] at hi
      by_cases hik : i = k
      · subst hik
        show F.R i (if i = i then v else V i) w'
        rw [if_pos rfl]; exact hR
      · show F.R i (if i = k then v else V i) w'
        rw [if_neg hik]
        have hik' : ¬ k = i := fun e => hik e.symm
        have hi' : on L i = true := by simpa [hik'] using hi
        have h1 : ∀ x ∈ F.kill i, on L x = false := fun x hx => by
          have := hkl x hx
          rw [hon, Bool.or_eq_false_iff] at this
          exact this.1
        have h2 : (F.kill i).contains k = false := by
          cases hc : (F.kill i).contains k with
          | false => rfl
          | true =>
            have := hkl k (by simpa using hc)
            rw [hon] at this
            simp at this
        have his : i < ops.size := by rw [← h.size]; exact on_lt hi'
        have h3 : depOn ops i k = false := by
          cases hc : depOn ops i k with
          | false => rfl
          | true => rw [hnot i (by rw [hc, Bool.or_true])] at hi'; cases hi'
        exact R.stab k i hkm (hlt i hi') (Ne.symm hik) h2 h3 _ _ _ hE (hV2 i hi' h1)
    · have h1 : ∀ x ∈ F.killB b, on L x = false := fun x hx => by
        have := hb x hx
        rw [hon, Bool.or_eq_false_iff] at this
        exact this.1
      have h2 : (F.killB b).contains k = false := by
        cases hc : (F.killB b).contains k with
        | false => rfl
        | true =>
          have := hb k (by simpa using hc)
          rw [hon] at this
          simp at this
      exact R.stabB k b hkm h2 _ _ hE (h.base b h1)
  have hC := R.cert k o hkm ho
  unfold CertH at hC
  unfold wpOp
  rw [ho]
  dsimp only
  cases hg : o.guard with
  | none =>
    rw [hg] at hC
    rw [wanted_none hg, if_pos rfl]
    left
    exact hC a w _ hpre1 hpre2 hpre3 h.def' hpost
  | some jw =>
    obtain ⟨j, want⟩ := jw
    rw [hg] at hC
    obtain ⟨hd1, hd2, hd3, hcase⟩ := hC
    obtain ⟨d, hd⟩ := Option.isSome_iff_exists.1 hd2
    obtain ⟨hs, hRj⟩ := hp1 j d hd1 hd3 hd
    have hy : ∀ b, V j = .bool b → Region.wanted o (yielded ops a.tmps) = (b == want) := fun b hb => by
      have h4 : yielded ops a.tmps j = some b := by
        unfold dstOf at hd
        unfold yielded
        cases hoj : ops[j]? with
        | none => rw [hoj] at hd; cases hd
        | some oj =>
          rw [hoj] at hd
          show (match oj.dst.bind (a.tmps[·]?) with | some (.bool b) => some b | _ => none) = _
          rw [show oj.dst = some d from hd]
          show (match a.tmps[d]? with | some (.bool b) => some b | _ => none) = _
          rw [hs, hb]
      unfold Region.wanted
      rw [hg]
      show (yielded ops a.tmps j == some want) = _
      rw [h4]
      cases b <;> cases want <;> rfl
    rcases hcase with ⟨hw, hc⟩ | ⟨hw, hsk⟩
    · rw [hy _ (hw _ _ hRj), show (want == want) = true by cases want <;> rfl, if_pos rfl]
      left
      exact hc a w _ hpre1 hpre2 hpre3 h.def' hpost
    · rw [hy _ (hw _ _ hRj), show ((!want) == want) = false by cases want <;> rfl]
      exact hpost undef w (hsk w).1 (hsk w).2
/-- All slots that were filled. -/
def putV (V : Nat → Value) : List Oper → Nat → Act → Act
  | [], _, a => a
  | o :: r, i, a => putV V r (i + 1) (a.put o.dst (V i))
theorem putV_defers (V : Nat → Value) : ∀ (l : List Oper) (i : Nat) (a : Act), (putV V l i a).defers = a.defers
  | [], _, _ => rfl
  | o :: r, i, a => by
    rw [putV, putV_defers V r]
    cases o.dst <;> rfl
theorem putV_other (V : Nat → Value) : ∀ (l : List Oper) (i : Nat) (a : Act) (t : Tmp), (∀ o ∈ l, o.dst ≠ some t) → (putV V l i a).tmps[t]? = a.tmps[t]?
  | [], _, _, _, _ => rfl
  | o :: r, i, a, t, h => by
    rw [putV, putV_other V r _ _ t (fun x hx => h x (List.mem_cons_of_mem _ hx)), put_other a _ (h o List.mem_cons_self)]
theorem putV_same (V : Nat → Value) : ∀ (l : List Oper) (i : Nat) (a : Act) (j : Nat) (o : Oper) (d : Tmp), l[j]? = some o → o.dst = some d → (∀ j' o', l[j']? = some o' → o'.dst = some d → j' = j) → d < a.tmps.size → (putV V l i a).tmps[d]? = some (V (i + j))
  | [], _, _, _, _, _, h, _, _, _ => by simp at h
  | x :: r, i, a, 0, o, d, h, hd, hu, hs => by
    obtain rfl : x = o := by simpa using h
    rw [putV, putV_other V r _ _ d (fun y hy hyd => by
      obtain ⟨j', hj'⟩ := List.getElem?_of_mem hy
      have := hu (j' + 1) y (by simpa using hj') hyd
      omega), hd]
    show (a.tmps.setIfInBounds d _)[d]? = _
    rw [Array.getElem?_setIfInBounds, if_pos rfl, if_pos hs]
    rfl
  | x :: r, i, a, j + 1, o, d, h, hd, hu, hs => by
    rw [putV, putV_same V r (i + 1) _ j o d (by simpa using h) hd (fun j' o' h' hd' => by
      have := hu (j' + 1) o' (by simpa using h') hd'
      omega) (by rw [put_size]; exact hs)]
    congr 2
    omega
theorem InvF.done {a : Act} (R : RegF P Q F ops a0 m) (h : InvF F ops a0 L a w) (hall : ∀ i, i < ops.size → on L i = true)
    (hp : ∀ (V : Nat → Value), (∀ i, i < ops.size → F.kill i = [] → F.R i (V i) w) → (∀ b, F.killB b = [] → F.B b w) → Q .normal (putV V ops.toList 0 a0) w) : Q .normal a w := by
  obtain ⟨V, hV1, hV2⟩ := h.all
  have e : a = putV V ops.toList 0 a0 := by
    refine Act.ext' ?_ (by rw [putV_defers]; exact h.def')
    apply Array.ext_getElem?
    intro t
    by_cases ht : ∃ (i : Nat) (o : Oper), ops[i]? = some o ∧ o.dst = some t
    · obtain ⟨i, o, ho, hd⟩ := ht
      rw [hV1 i t (hall i (Array.getElem?_eq_some_iff.1 ho).1) (by rw [dstOf_some ho]; exact hd)]
      rw [putV_same V ops.toList 0 a0 i o t (by rw [Array.getElem?_toList]; exact ho) hd (fun j' o' hj' hd' => ((R.of ho).2 t hd).2 j' (by rw [Array.getElem?_toList] at hj'; rw [dstOf_some hj']; exact hd')) ((R.of ho).2 t hd).1, Nat.zero_add]
    · rw [h.rest t (fun i hi hd => ?_), putV_other V ops.toList 0 a0 t (fun o hm hd => ?_)]
      · obtain ⟨i, hi⟩ := List.getElem?_of_mem hm
        rw [Array.getElem?_toList] at hi
        exact ht ⟨i, o, hi, hd⟩
      · unfold dstOf at hd
        cases hx : ops[i]? with
        | none => rw [hx] at hd; cases hd
        | some x => rw [hx] at hd; exact ht ⟨i, x, hx, hd⟩
  rw [e]
  exact hp V (fun i hi hk => hV2 i (hall i hi) (by rw [hk]; simp)) (fun b hb => h.base b (by rw [hb]; simp))
theorem InvF.full {a : Act} (R : RegF P Q F ops a0 m) (h : InvF F ops a0 L a w) (hr : Region.ready .any ops L = []) : ∀ i, i < ops.size → on L i = true := by
  intro i
  induction i using Nat.strongRecOn with
  | ind i ih =>
    intro hi
    have ho : ops[i]? = some ops[i] := Array.getElem?_eq_getElem _
    cases hon : on L i with
    | true => rfl
    | false =>
      have : i ∈ Region.ready .any ops L := mem_ready.2 ⟨?_, _, ho, fun e he hb => ?_⟩
      · rw [hr] at this; cases this
      · unfold on at hon
        rw [Array.getD_eq_getD_getElem?, Array.getElem?_eq_getElem (by rw [h.size]; exact hi)] at hon ⊢
        exact hon
      · have hlt := (R.of ho).1 e he hb
        exact ih e.on hlt (Nat.lt_trans hlt hi)
/-- THE LAW of flows, for a region that draws its order. -/
theorem flow_draws {id : Nat} (F : Flow) (hm : P.follows .mixedOrders = true) (R : RegF P Q F ops a0 ops.size) (hB : ∀ b, F.B b w.drew)
    (hp : ∀ (V : Nat → Value) (w' : World), (∀ i, i < ops.size → F.kill i = [] → F.R i (V i) w') → (∀ b, F.killB b = [] → F.B b w') → Q .normal (putV V ops.toList 0 a0) w') : (Code.region id ops true).wp P Q a0 w := by
  have key : ∀ (fuel : Nat) (L : Array Bool) (a : Act) (w : World), unl L = fuel → InvF F ops a0 L a w → wpAny P .any ops Q fuel L a w := by
    intro fuel
    induction fuel with
    | zero =>
      intro L a w hu hI
      have hall : ∀ i, i < ops.size → on L i = true := fun i hi => unl_zero hu i (by rw [hI.size]; exact hi)
      refine ⟨?_, hI.done R hall (fun V => hp V w)⟩
      apply List.eq_nil_iff_forall_not_mem.2
      intro i hi
      obtain ⟨h1, o, ho, -⟩ := mem_ready.1 hi
      have h2 := hall i (Array.getElem?_eq_some_iff.1 ho).1
      unfold on at h2
      rw [Array.getD_eq_getD_getElem?] at h1 h2
      cases hh : L[i]? with
      | none => rw [hh] at h1; cases h1
      | some b => rw [hh] at h1 h2; rw [show b = false from h1] at h2; cases h2
    | succ fuel ih =>
      intro L a w hu hI
      refine ⟨fun hr => hI.done R (hI.full R hr) (fun V => hp V w), fun i hi => ?_⟩
      obtain ⟨h1, o, ho, hdep⟩ := mem_ready.1 hi
      have hoff : on L i = false := by
        unfold on
        rw [Array.getD_eq_getD_getElem?] at h1 ⊢
        cases hh : L[i]? with
        | none => rfl
        | some b => rw [hh] at h1; exact h1
      exact wpOp_mono (fun a' w' hI' => ih _ a' w' (by have := unl_set h1; omega) hI') (stepF R (Array.getElem?_eq_some_iff.1 ho).1 (fun i hi => by rw [← hI.size]; exact on_lt hi) ho hoff hdep hI)
  have hoff : ∀ i, on (Array.replicate ops.size false) i = false := fun i => by
    unfold on
    rw [Array.getD_eq_getD_getElem?, Array.getElem?_replicate]
    by_cases h : i < ops.size
    · rw [if_pos h]; rfl
    · rw [if_neg h]; rfl
  refine wp_region_any hm (key _ _ a0 _ ?_ ⟨Array.size_replicate, (fun i o _ h => by rw [hoff] at h; cases h), rfl, rfl, fun _ _ => rfl, ⟨fun _ => undef, fun i d h => (by rw [hoff] at h; cases h), fun i h => (by rw [hoff] at h; cases h)⟩, fun b _ => hB b⟩)
  unfold unl
  rw [Array.toList_replicate, List.countP_replicate]
  simp
theorem putV_size (V : Nat → Value) : ∀ (l : List Oper) (i : Nat) (a : Act), (putV V l i a).tmps.size = a.tmps.size
  | [], _, _ => rfl
  | o :: r, i, a => by rw [putV, putV_size V r, put_size]
theorem RegF.slot {V : Nat → Value} (R : RegF P Q F ops a0 m) {i : Nat} {d : Tmp} (hd : dstOf ops i = some d) : (putV V ops.toList 0 a0).tmps[d]? = some (V i) := by
  cases ho : ops[i]? with
  | none => unfold dstOf at hd; rw [ho] at hd; cases hd
  | some o =>
    have hd' : o.dst = some d := by rw [← dstOf_some ho]; exact hd
    rw [putV_same V ops.toList 0 a0 i o d (by rw [Array.getElem?_toList]; exact ho) hd' (fun j' o' hj' hdj => ((R.of ho).2 d hd').2 j' (by rw [Array.getElem?_toList] at hj'; rw [dstOf_some hj']; exact hdj)) ((R.of ho).2 d hd').1, Nat.zero_add]
/-- What an operation may lean on. -/
structure PreF (F : Flow) (ops : Array Oper) (a0 : Act) (k : Nat) (o : Oper) (a : Act) (w : World) : Prop where
  n : ∀ j d, depB o j = true → okK ops k (F.kill j) = true → dstOf ops j = some d → F.R j (a.eval (.tmp d)) w
  o : ∀ t, freeF ops k t = true → a.eval (.tmp t) = a0.eval (.tmp t)
  b : ∀ b, okK ops k (F.killB b) = true → F.B b w
  df : a.defers = a0.defers
def CertsF (P : Program) (Q : Exit → Act → World → Prop) (F : Flow) (ops : Array Oper) (a0 : Act) : Nat → List Oper → Prop
  | _, [] => True
  | k, o :: r => CertH P Q F ops a0 k o ∧ CertsF P Q F ops a0 (k + 1) r
theorem certs_go : ∀ (l : List Oper) (i : Nat), CertsF P Q F ops a0 i l → ∀ k o, l[k]? = some o → CertH P Q F ops a0 (i + k) o
  | [], _, _, k, o, h => by simp at h
  | x :: r, i, hc, 0, o, h => by
    obtain rfl : x = o := by simpa using h
    exact hc.1
  | x :: r, i, hc, k + 1, o, h => by
    have := certs_go r (i + 1) hc.2 k o (by simpa using h)
    rwa [show i + 1 + k = i + (k + 1) by omega] at this
theorem certs_of (h : CertsF P Q F ops a0 0 ops.toList) : ∀ k o, k < ops.size → ops[k]? = some o → CertH P Q F ops a0 k o := fun k o _ ho => by
  have := certs_go ops.toList 0 h k o (by rw [Array.getElem?_toList]; exact ho)
  rwa [Nat.zero_add] at this
def evo (ev : Tmp → Value) : Operand → Value
  | .tmp t => ev t
  | .const v => v
  | .global g => .pointer (some ⟨g, 0, none⟩)
  | .func f => .func (.func f) #[] #[]
def seenT (T : List Tmp) (o : Oper) : Bool :=
  (match o.op with | .select _ _ => false | _ => true) && o.op.operands.all (fun x => match x with | .tmp t => T.contains t | _ => true)
theorem exec_ev {a : Act} {o : Oper} (ev : Tmp → Value) (T : List Tmp) (h : seenT T o = true) (he : ∀ t ∈ T, a.eval (.tmp t) = ev t) : execOp a.eval o = execOp (evo ev) o := by
  simp only [seenT, Bool.and_eq_true] at h
  refine execOp_congr o (fun cs b he => ?_) (fun x hx => ?_)
  · rw [he] at h; exact absurd h.1 (by simp)
  · have h1 := Array.all_eq_true'.1 h.2 x hx
    cases x with
    | tmp t => exact he t (by simpa using h1)
    | const v => rfl
    | global g => rfl
    | func f => rfl
/-- An operation that is run. -/
theorem cf_val {k : Nat} {o : Oper} (h : ∀ (a : Act) (w : World), PreF F ops a0 k o a w → ∃ v w', (execOp a.eval o).run P w = .ok (.value v) w' ∧ F.E k w w' ∧ F.R k v w') : CertF P Q F ops a0 k o := by
  intro a w K h1 h2 h3 hdf hK
  obtain ⟨v, w', hr, hE, hR⟩ := h a w ⟨h1, h2, h3, hdf⟩
  unfold Oper.wp
  rw [hr]
  exact hK v w' hE hR
/-- An operation over one slot. -/
theorem cf_one {k : Nat} {o : Oper} (t : Tmp) (h : ∀ (a : Act) (w : World), PreF F ops a0 k o a w → ∃ v w', (seenT [t] o = true) ∧ (execOp (evo fun _ => a.eval (.tmp t)) o).run P w = .ok (.value v) w' ∧ F.E k w w' ∧ F.R k v w') : CertF P Q F ops a0 k o := by
  refine cf_val fun a w hp => ?_
  obtain ⟨v, w', hs, hr, hE⟩ := h a w hp
  refine ⟨v, w', ?_, hE⟩
  rw [exec_ev (fun _ => a.eval (.tmp t)) [t] hs (fun x hx => by rw [show x = t by simpa using hx])]
  exact hr
/-- A call. -/
theorem cf_call {k : Nat} {o : Oper} (t : Tmp) (h : ∀ (a : Act) (w : World), PreF F ops a0 k o a w → ∃ f args, (seenT [t] o = true) ∧ (execOp (evo fun _ => a.eval (.tmp t)) o).run P w = .ok (.enter f args) w ∧ Calls P f args w (Ret fun e w' => F.E k w w' ∧ F.R k e w')) : CertF P Q F ops a0 k o := by
  intro a w K h1 h2 h3 hdf hK
  obtain ⟨f, args, hs, hr, hc⟩ := h a w ⟨h1, h2, h3, hdf⟩
  unfold Oper.wp
  rw [exec_ev (fun _ => a.eval (.tmp t)) [t] hs (fun x hx => by rw [show x = t by simpa using hx]), hr, Oper.upon_enter]
  refine hc.mono ?_
  rintro e w' ⟨v, rfl, hE, hR⟩
  exact hK _ _ hE hR
/-- A row is loaded. -/
theorem cf_load {k : Nat} {o : Oper} (T : TypeId) (t : Tmp) (ho : o.op = .load T (.tmp t)) (hu : (P.underlying T).map (·.isRow) = some true)
    (h : ∀ (a : Act) (w : World), PreF F ops a0 k o a w → ∃ g off cs, a.eval (.tmp t) = .pointer (some ⟨g, off, none⟩) ∧ w.rangeAt g off cs ∧ (P.info? T).map (·.size) = some cs.length ∧ F.E k w w ∧ F.R k (.agg cs.toArray) w) : CertF P Q F ops a0 k o := by
  intro a w K h1 h2 h3 hdf hK
  obtain ⟨g, off, cs, he, hr, hi, hE, hR⟩ := h a w ⟨h1, h2, h3, hdf⟩
  obtain ⟨d, hu, hd⟩ := Option.map_eq_some_iff.1 hu
  exact wp_load_mid T (.tmp t) ho g off he cs d hr hu hd hi (hK _ _ hE hR)
/-- A list is appended to another. -/
theorem cf_app {k : Nat} {o : Oper} (s u : Tmp) (t : TypeId) (ho : o.op = .call { callee := .builtin .append, args := #[.tmp s, .tmp u], argTypes := #[t, t] })
    (h : ∀ (a : Act) (w : World), PreF F ops a0 k o a w → ∃ v w', (Builtin.append_ #[t, t] o.type #[a.eval (.tmp s), a.eval (.tmp u)]).run P w = .ok v w' ∧ F.E k w w' ∧ F.R k v w') : CertF P Q F ops a0 k o := by
  intro a w K h1 h2 h3 hdf hK
  obtain ⟨v, w', hr, hE, hR⟩ := h a w ⟨h1, h2, h3, hdf⟩
  unfold Oper.wp execOp
  simp only [ho, resolve, invoke, builtin, Sem.run_bind, Sem.run_pure, Result.andThen_ok, List.map_toArray, List.map_cons, List.map_nil, hr]
  exact hK _ _ hE hR
theorem certs_but (h : CertsF P Q F ops a0 0 (ops.toList.take m)) : ∀ k o, k < m → ops[k]? = some o → CertH P Q F ops a0 k o := fun k o hk ho => by
  have := certs_go (ops.toList.take m) 0 h k o (by rw [List.getElem?_take, if_pos hk, Array.getElem?_toList]; exact ho)
  rwa [Nat.zero_add] at this
theorem InvF.act {a : Act} (R : RegF P Q F ops a0 m) (h : InvF F ops a0 L a w) (hm : m ≤ ops.size) (hall : ∀ i, on L i = true ↔ i < m) {V : Nat → Value} (hV1 : ∀ i d, on L i = true → dstOf ops i = some d → a.tmps[d]? = some (V i)) : a = putV V (ops.toList.take m) 0 a0 := by
  refine Act.ext' ?_ (by rw [putV_defers]; exact h.def')
  apply Array.ext_getElem?
  intro t
  by_cases ht : ∃ (i : Nat) (o : Oper), i < m ∧ ops[i]? = some o ∧ o.dst = some t
  · obtain ⟨i, o, him, ho, hd⟩ := ht
    rw [hV1 i t ((hall i).2 him) (by rw [dstOf_some ho]; exact hd)]
    rw [putV_same V (ops.toList.take m) 0 a0 i o t (by rw [List.getElem?_take, if_pos him, Array.getElem?_toList]; exact ho) hd (fun j' o' hj' hd' => ((R.of ho).2 t hd).2 j' (by
      rw [List.getElem?_take] at hj'
      split at hj'
      · rw [Array.getElem?_toList] at hj'; rw [dstOf_some hj']; exact hd'
      · cases hj')) ((R.of ho).2 t hd).1, Nat.zero_add]
  · rw [h.rest t (fun i hi hd => ?_), putV_other V (ops.toList.take m) 0 a0 t (fun o hm' hd => ?_)]
    · obtain ⟨i, hi⟩ := List.getElem?_of_mem hm'
      rw [List.getElem?_take] at hi
      split at hi
      · rename_i him
        rw [Array.getElem?_toList] at hi
        exact ht ⟨i, o, him, hi, hd⟩
      · cases hi
    · unfold dstOf at hd
      cases hx : ops[i]? with
      | none => rw [hx] at hd; cases hd
      | some x => rw [hx] at hd; exact ht ⟨i, x, (hall i).1 hi, hx, hd⟩
/-- THE LAW of flows, for a region whose last operation waits for all others. -/
theorem flow_last {id : Nat} (F : Flow) (n : Nat) (hn : ops.size = n + 1) (hd : (List.range n).all (fun j => (List.range (n + 1)).any (fun i => decide (j < i) && depOn ops i j)) = true) (hm : P.follows .mixedOrders = true) (R : RegF P Q F ops a0 n) (hB : ∀ b, F.B b w.drew)
    (hp : ∀ (V : Nat → Value) (w' : World), (∀ i, i < n → F.kill i = [] → F.R i (V i) w') → (∀ b, F.killB b = [] → F.B b w') → wpList P ops Q (ops.toList.drop n) (putV V (ops.toList.take n) 0 a0) w') : (Code.region id ops true).wp P Q a0 w := by
  have hon' : ops[n]? = some (ops[n]'(by omega)) := Array.getElem?_eq_getElem _
  have key : ∀ (fuel : Nat) (L : Array Bool) (a : Act) (w : World), unl L = fuel → on L n = false → InvF F ops a0 L a w → wpAny P .any ops Q fuel L a w := by
    intro fuel
    induction fuel with
    | zero =>
      intro L a w hu hoff hI
      have := unl_zero hu n (by rw [hI.size]; omega)
      rw [hoff] at this; cases this
    | succ fuel ih =>
      intro L a w hu hoff hI
      refine ⟨fun hr => ?_, fun i hi => ?_⟩
      · have := hI.full R hr n (by omega)
        rw [hoff] at this; cases this
      · obtain ⟨h1, o, ho, hdep⟩ := mem_ready.1 hi
        have his : i < ops.size := (Array.getElem?_eq_some_iff.1 ho).1
        have hoi : on L i = false := by
          unfold on
          rw [Array.getD_eq_getD_getElem?] at h1 ⊢
          cases hh : L[i]? with
          | none => rfl
          | some b => rw [hh] at h1; exact h1
        by_cases hin : i = n
        · subst hin
          have hall : ∀ j, on L j = true ↔ j < i := fun j => by
            constructor
            · intro hj
              have h2 : j < ops.size := by rw [← hI.size]; exact on_lt hj
              rcases Nat.lt_or_ge j i with h | h
              · exact h
              · obtain rfl : j = i := by omega
                rw [hoff] at hj; cases hj
            · intro hj
              have hdir : ∀ j, depOn ops i j = true → on L j = true := fun j h2 => by
                unfold depOn at h2
                rw [ho] at h2
                obtain ⟨e, he, hb⟩ := Array.any_eq_true'.1 h2
                simp only [Bool.and_eq_true, beq_iff_eq] at hb
                have := hdep e he hb.1
                rw [hb.2] at this
                exact this
              have hup : ∀ m j, i - j ≤ m → j < i → on L j = true := fun m => by
                induction m with
                | zero => intro j h1 h2; omega
                | succ m ihm =>
                  intro j h1 hj
                  have h2 := List.all_eq_true.1 hd j (List.mem_range.2 hj)
                  obtain ⟨x, hx, h3⟩ := List.any_eq_true.1 h2
                  rw [Bool.and_eq_true, decide_eq_true_eq] at h3
                  have hxi := List.mem_range.1 hx
                  by_cases hxe : x = i
                  · rw [hxe] at h3
                    exact hdir j h3.2
                  · have hxo := ihm x (by omega) (by omega)
                    have hxs : x < ops.size := by omega
                    have hox : ops[x]? = some ops[x] := Array.getElem?_eq_getElem hxs
                    have h4 := h3.2
                    unfold depOn at h4
                    rw [hox] at h4
                    exact dep_on (ho := hox) hI h4 hxo
              exact hup _ j (Nat.le_refl _) hj
          obtain ⟨V, hV1, hV2⟩ := hI.all
          have ha := hI.act R (by omega) hall hV1
          have hkl : ∀ l : List Nat, l = [] → ∀ x ∈ l, on L x = false := fun l hl x hx => by rw [hl] at hx; cases hx
          have hfin := hp V w (fun j hj hk => hV2 j ((hall j).2 hj) (hkl _ hk)) (fun b hb => hI.base b (hkl _ hb))
          have hdrop : ops.toList.drop i = [o] := by
            have hlen : ops.toList.length = i + 1 := by rw [Array.length_toList]; exact hn
            rw [List.drop_eq_getElem_cons (by omega), List.drop_of_length_le (by omega)]
            have : ops.toList[i]? = some o := by rw [Array.getElem?_toList]; exact ho
            rw [List.getElem?_eq_getElem (by omega)] at this
            rw [Option.some.inj this]
          rw [hdrop, ← ha] at hfin
          have hop : wpOp P ops Q i (fun a' w' => Q .normal a' w') a w := by
            unfold wpOp
            rw [ho]
            exact hfin
          refine wpOp_mono (fun a' w' hq => ?_) hop
          have hon2 : ∀ j, j < ops.size → on (L.setIfInBounds i true) j = true := fun j hj => by
            rw [on_set (by rw [hI.size]; omega)]
            by_cases h : j < i
            · rw [(hall j).2 h, Bool.true_or]
            · rw [show j = i by omega]; simp
          have hr : Region.ready .any ops (L.setIfInBounds i true) = [] := by
            apply List.eq_nil_iff_forall_not_mem.2
            intro j hj
            obtain ⟨h1, o', ho', -⟩ := mem_ready.1 hj
            have h2 := hon2 j (Array.getElem?_eq_some_iff.1 ho').1
            unfold on at h2
            rw [Array.getD_eq_getD_getElem?] at h1 h2
            cases hh : (L.setIfInBounds i true)[j]? with
            | none => rw [hh] at h1; cases h1
            | some b => rw [hh] at h1 h2; rw [show b = false from h1] at h2; cases h2
          cases fuel with
          | zero => exact ⟨hr, hq⟩
          | succ f => exact ⟨fun _ => hq, fun j hj => by rw [hr] at hj; cases hj⟩
        · refine wpOp_mono (fun a' w' hI' => ih _ a' w' (by have := unl_set h1; omega) ?_ hI') (stepF R (by omega) (fun j hj => ?_) ho hoi hdep hI)
          · rw [on_set (by rw [hI.size]; exact his), hoff]
            simpa using hin
          · have h2 : j < ops.size := by rw [← hI.size]; exact on_lt hj
            rcases Nat.lt_or_ge j n with h | h
            · exact h
            · obtain rfl : j = n := by omega
              rw [hoff] at hj; cases hj
  have hoff : ∀ i, on (Array.replicate ops.size false) i = false := fun i => by
    unfold on
    rw [Array.getD_eq_getD_getElem?, Array.getElem?_replicate]
    by_cases h : i < ops.size
    · rw [if_pos h]; rfl
    · rw [if_neg h]; rfl
  refine wp_region_any hm (key _ _ a0 _ ?_ (hoff n) ⟨Array.size_replicate, (fun i o _ h => by rw [hoff] at h; cases h), rfl, rfl, fun _ _ => rfl, ⟨fun _ => undef, fun i d h => (by rw [hoff] at h; cases h), fun i h => (by rw [hoff] at h; cases h)⟩, fun b _ => hB b⟩)
  unfold unl
  rw [Array.toList_replicate, List.countP_replicate]
  simp
end Go.Proofs.YtfkgfcggcfkkiaaDoor.RX
set_option linter.unusedVariables false
set_option linter.unusedSimpArgs false
namespace Go.Proofs.YtfkgfcggcfkkiaaDoor.RX
open Go.Proofs.YtfkgfcggcfkkiaaDoor.RG
open Go Go.RowKit
variable {P : Program} {ops : Array Oper} {Q : Exit → Act → World → Prop} {w : World} {a0 : Act}
def AllE (a : Act) : List (Tmp × Value) → Prop
  | [] => True
  | x :: r => a.eval (.tmp x.1) = x.2 ∧ AllE a r
def evl (ps : List (Tmp × Value)) (t : Tmp) : Value := match ps.find? (fun x => x.1 == t) with | some x => x.2 | none => undef
theorem AllE.mem {a : Act} : ∀ {ps : List (Tmp × Value)}, AllE a ps → ∀ x ∈ ps, a.eval (.tmp x.1) = x.2
  | [], _, x, hx => by cases hx
  | y :: r, h, x, hx => by
    rcases List.mem_cons.1 hx with rfl | hx
    · exact h.1
    · exact AllE.mem h.2 x hx
theorem AllE.ev {a : Act} {ps : List (Tmp × Value)} (h : AllE a ps) : ∀ t ∈ ps.map (·.1), a.eval (.tmp t) = evl ps t := fun t ht => by
  obtain ⟨x, hx, rfl⟩ := List.mem_map.1 ht
  unfold evl
  cases hf : ps.find? (fun y => y.1 == x.1) with
  | none =>
    have := List.find?_eq_none.1 hf x hx
    simp at this
  | some y =>
    have h1 := List.mem_of_find?_eq_some hf
    have h2 : y.1 = x.1 := by simpa using List.find?_some hf
    have := h.mem y h1
    rw [h2] at this
    exact this
/-- A region of operations that only make the world grow. -/
structure Gw where
  R : Nat → Value → World → Prop
  B : World → Prop
  sR : ∀ i v w w', Below w.heap.size w w' → R i v w → R i v w'
  sB : ∀ w w', Below w.heap.size w w' → B w → B w'
def Gw.flow (G : Gw) : Flow := ⟨G.R, fun _ => G.B, fun _ w w' => Below w.heap.size w w', fun _ => [], fun _ => []⟩
/-- What an operation may lean on. -/
structure PreG (G : Gw) (ops : Array Oper) (a0 : Act) (k : Nat) (o : Oper) (a : Act) (w : World) : Prop where
  n : ∀ j d, depB o j = true → dstOf ops j = some d → G.R j (a.eval (.tmp d)) w
  o : ∀ t, freeF ops k t = true → a.eval (.tmp t) = a0.eval (.tmp t)
  b : G.B w
variable {G : Gw}
theorem pre_of {k : Nat} {o : Oper} {a : Act} (h : PreF G.flow ops a0 k o a w) : PreG G ops a0 k o a w := ⟨fun j d hj hd => h.n j d hj rfl hd, h.o, h.b 0 rfl⟩
theorem gw_val {k : Nat} {o : Oper} (h : ∀ (a : Act) (w : World), PreG G ops a0 k o a w → ∃ (ps : List (Tmp × Value)) (v : Value) (w' : World), AllE a ps ∧ (seenT (ps.map (·.1)) o, (execOp (evo (evl ps)) o).run P w) = (true, .ok (.value v) w') ∧ Below w.heap.size w w' ∧ G.R k v w') : CertF P Q G.flow ops a0 k o :=
  cf_val fun a w hp => by
    obtain ⟨ps, v, w', he, hs, hE⟩ := h a w (pre_of hp)
    simp only [Prod.mk.injEq] at hs
    refine ⟨v, w', ?_, hE⟩
    rw [exec_ev (evl ps) (ps.map (·.1)) hs.1 he.ev]
    exact hs.2
theorem gw_call {k : Nat} {o : Oper} (h : ∀ (a : Act) (w : World), PreG G ops a0 k o a w → ∃ (ps : List (Tmp × Value)) (f : FuncId) (args : Array Value), AllE a ps ∧ (seenT (ps.map (·.1)) o, (execOp (evo (evl ps)) o).run P w) = (true, .ok (.enter f args) w) ∧ Calls P f args w (Ret fun e w' => Below w.heap.size w w' ∧ G.R k e w')) : CertF P Q G.flow ops a0 k o := by
  intro a w K h1 h2 h3 hdf hK
  obtain ⟨ps, f, args, he, hs, hc⟩ := h a w (pre_of ⟨h1, h2, h3, hdf⟩)
  simp only [Prod.mk.injEq] at hs
  unfold Oper.wp
  rw [exec_ev (evl ps) (ps.map (·.1)) hs.1 he.ev, hs.2, Oper.upon_enter]
  refine hc.mono ?_
  rintro e w' ⟨v, rfl, hE, hR⟩
  exact hK _ _ hE hR
theorem gw_load {k : Nat} {o : Oper} (T : TypeId) (t : Tmp) (ho : o.op = .load T (.tmp t)) (hu : (P.underlying T).map (·.isRow) = some true)
    (h : ∀ (a : Act) (w : World), PreG G ops a0 k o a w → ∃ g off cs, a.eval (.tmp t) = .pointer (some ⟨g, off, none⟩) ∧ w.rangeAt g off cs ∧ (P.info? T).map (·.size) = some cs.length ∧ G.R k (.agg cs.toArray) w) : CertF P Q G.flow ops a0 k o :=
  cf_load T t ho hu fun a w hp => by
    obtain ⟨g, off, cs, h1, h2, h3, h4⟩ := h a w (pre_of hp)
    exact ⟨g, off, cs, h1, h2, h3, Below.refl _ _, h4⟩
theorem gw_bin {k : Nat} {o : Oper} (op : BinOp) (T T' : TypeId) (t1 t2 : Tmp) (ho : o.op = .binOp op T (.tmp t1) (.tmp t2) T')
    (h : ∀ (a : Act) (w : World), PreG G ops a0 k o a w → ∃ v1 v2 v, a.eval (.tmp t1) = v1 ∧ a.eval (.tmp t2) = v2 ∧ (eqGuard op T (.tmp t1) (.tmp t2) v1 v2).run P w = .ok () w ∧ (binOp op T v1 v2).run P w = .ok v w ∧ G.R k v w) : CertF P Q G.flow ops a0 k o :=
  cf_val fun a w hp => by
    obtain ⟨v1, v2, v, h1, h2, hg, hb, hR⟩ := h a w (pre_of hp)
    refine ⟨v, w, ?_, Below.refl _ _, hR⟩
    unfold execOp
    rw [ho]
    dsimp only
    rw [h1, h2, Sem.run_bind, Sem.run_bind, hg]
    dsimp only [Result.andThen]
    rw [hb]
    rfl
/-- An operation that is passed by. -/
theorem gw_pass {k : Nat} {o : Oper} {j : Nat} {want : Bool} (hg : o.guard = some (j, want)) (h : (depB o j, (dstOf ops j).isSome) = (true, true)) (hw : ∀ v w, G.R j v w → v = .bool (!want)) (hR : ∀ w, G.R k undef w) : CertH P Q G.flow ops a0 k o := by
  unfold CertH
  rw [hg]
  simp only [Prod.mk.injEq] at h
  exact ⟨h.1, h.2, rfl, Or.inr ⟨hw, fun w => ⟨Below.refl _ _, hR w⟩⟩⟩
theorem gw_want {k : Nat} {o : Oper} {j : Nat} {want : Bool} (hg : o.guard = some (j, want)) (h : (depB o j, (dstOf ops j).isSome) = (true, true)) (hw : ∀ v w, G.R j v w → v = .bool want) (hc : CertF P Q G.flow ops a0 k o) : CertH P Q G.flow ops a0 k o := by
  unfold CertH
  rw [hg]
  simp only [Prod.mk.injEq] at h
  exact ⟨h.1, h.2, rfl, Or.inl ⟨hw, hc⟩⟩
theorem Gw.reg {m : Nat} (hc : chkF ops a0.tmps.size = true) (h : CertsF P Q G.flow ops a0 0 (ops.toList.take m)) : RegF P Q G.flow ops a0 m :=
  ⟨hc, certs_but h, fun i j _ _ _ _ _ v w w' hE hR => G.sR j v w w' hE hR, fun i b _ _ w w' hE hB => G.sB w w' hE hB⟩
theorem Gw.draws {id : Nat} (G : Gw) (hm : P.follows .mixedOrders = true) (hc : chkF ops a0.tmps.size = true) (h : CertsF P Q G.flow ops a0 0 (ops.toList.take ops.size)) (hB : G.B w.drew)
    (hp : ∀ (V : Nat → Value) (w' : World), (∀ i, i < ops.size → G.R i (V i) w') → G.B w' → Q .normal (putV V ops.toList 0 a0) w') : (Code.region id ops true).wp P Q a0 w :=
  flow_draws G.flow hm (Gw.reg hc h) (fun _ => hB) fun V w' h1 h2 => hp V w' (fun i hi => h1 i hi rfl) (h2 0 rfl)
theorem Gw.last {id : Nat} (G : Gw) (n : Nat) (hn : ((ops.size == n + 1) && (List.range n).all (fun j => (List.range (n + 1)).any (fun i => decide (j < i) && depOn ops i j))) = true) (hm : P.follows .mixedOrders = true) (hc : chkF ops a0.tmps.size = true) (h : CertsF P Q G.flow ops a0 0 (ops.toList.take n)) (hB : G.B w.drew)
    (hp : ∀ (V : Nat → Value) (w' : World), (∀ i, i < n → G.R i (V i) w') → G.B w' → wpList P ops Q (ops.toList.drop n) (putV V (ops.toList.take n) 0 a0) w') : (Code.region id ops true).wp P Q a0 w := by
  rw [Bool.and_eq_true, beq_iff_eq] at hn
  exact flow_last G.flow n hn.1 hn.2 hm (Gw.reg hc h) (fun _ => hB) fun V w' h1 h2 => hp V w' (fun i hi => h1 i hi rfl) (h2 0 rfl)
end Go.Proofs.YtfkgfcggcfkkiaaDoor.RX
namespace Go.Proofs.YtfkgfcggcfkkiaaDoor
open Go.RowKit Go.Sort Go.Deep
namespace RX
open Go.Proofs.YtfkgfcggcfkkiaaDoor.RG
variable {P : Program} {ops : Array Oper} {Q : Exit → Act → World → Prop} {a0 : Act} {F : Flow}
theorem cf_manyT {k : Nat} {o : Oper} (h : ∀ (a : Act) (w : World), PreF F ops a0 k o a w → ∃ (ps : List (Tmp × Value)) (v : Value) (w' : World), AllE a ps ∧ (seenT (ps.map (·.1)) o, (execOp (evo (evl ps)) o).run P w) = (true, .ok (.value v) w') ∧ F.E k w w' ∧ F.R k v w') : CertF P Q F ops a0 k o :=
  cf_val fun a w hp => by
    obtain ⟨ps, v, w', he, hs, hE⟩ := h a w hp
    simp only [Prod.mk.injEq] at hs
    refine ⟨v, w', ?_, hE⟩
    rw [exec_ev (evl ps) (ps.map (·.1)) hs.1 he.ev]
    exact hs.2
/-- A call that gives a value, or throws. -/
theorem cf_callsT {k : Nat} {o : Oper} (h : ∀ (a : Act) (w : World), PreF F ops a0 k o a w → ∃ (ps : List (Tmp × Value)) (f : FuncId) (args : Array Value), AllE a ps ∧ (seenT (ps.map (·.1)) o, (execOp (evo (evl ps)) o).run P w) = (true, .ok (.enter f args) w) ∧ Calls P f args w fun e w' => (∃ v, e = .returned v ∧ F.E k w w' ∧ F.R k v w') ∨ ∃ c, e = .panicked c ∧ (a.defers = a0.defers → Q (.panic c) a w')) : CertF P Q F ops a0 k o := by
  intro a w K h1 h2 h3 hdf hK
  obtain ⟨ps, f, args, he, hs, hc⟩ := h a w ⟨h1, h2, h3, hdf⟩
  simp only [Prod.mk.injEq] at hs
  unfold Oper.wp
  rw [exec_ev (evl ps) (ps.map (·.1)) hs.1 he.ev, hs.2, Oper.upon_enter]
  refine hc.mono ?_
  rintro e w' (⟨v, rfl, hE, hR⟩ | ⟨c, rfl, hq⟩)
  · exact hK _ _ hE hR
  · exact hq hdf
theorem run_ld1T {w : World} {T : TypeId} {p : Addr} {v : Value} (hc : w.cell? p = some v) (hu : (P.underlying T).map (·.isRow) = some false) : (Instr.loadAt T (.pointer (some p))).run P w = .ok v w := by
  obtain ⟨d, hu, hd⟩ := Option.map_eq_some_iff.1 hu
  have hagg : (isAgg T).run P w = .ok false w := by
    unfold isAgg
    rw [Sem.run_bind, run_underlying hu w]
    cases d <;> simp_all
  simp [Instr.loadAt, Instr.sureAddr, loadVar, Sem.run_bind, hagg, hc]
theorem cf_ld1T {k : Nat} {o : Oper} (T : TypeId) (t : Tmp) (ho : o.op = .load T (.tmp t)) (hu : (P.underlying T).map (·.isRow) = some false)
    (h : ∀ (a : Act) (w : World), PreF F ops a0 k o a w → ∃ p v, a.eval (.tmp t) = .pointer (some p) ∧ w.cell? p = some v ∧ F.E k w w ∧ F.R k v w) : CertF P Q F ops a0 k o :=
  cf_val fun a w hp => by
    obtain ⟨p, v, h1, h2, h3⟩ := h a w hp
    refine ⟨v, w, ?_, h3⟩
    unfold execOp
    rw [ho]
    dsimp only
    rw [h1, Sem.run_bind, run_ld1T h2 hu]
    rfl
end RX
namespace WI
variable {T : World → Prop} {u : List UInt8 → Bool}
/-- The flow of item's region 1. -/
def F1 (w0 : World) (ib W h : Nat) (k : Int) (d n : Nat) (v0 : Value) : RX.Flow where
  R i v w := if i = 5 then (∃ j, kAt h k = some (j, v)) ∧ RowS w W (wkc h (d + 1) (n + 1) v0) ∧ d + 1 ≤ 16 ∧ n + 1 ≤ 4096 else if i = 6 then ∃ kb, v = .pointer (some ⟨kb, 0, none⟩) ∧ w0.heap.size ≤ kb ∧ RowS w kb [.nilFunc, .nilFunc, .nilFunc, .nilFunc] else v = ([.pointer (some ⟨W, 0, none⟩), .pointer (some ⟨W, 0, none⟩), .pointer (some ⟨W, 0, none⟩), .pointer (some ⟨ib, 0, none⟩), .int .i64 k] : List Value).getD i undef
  B b w := if b = 1 then RowS w W (wkc h d n v0) else FrX (· = W) w0 w
  E i w w' := if i = 5 then FrX (· = W) w w' else Below w.heap.size w w'
  kill _ := []
  killB b := if b = 1 then [5] else []
theorem RowS.below {W W' : World} {k : Nat} {vs : List Value} (h : RowS W k vs) (hb : Below W.heap.size W W') : RowS W' k vs := h.at hb.size (hb.block k h.1)
theorem F1.stab {w0 : World} {ib W h : Nat} {k : Int} {d n : Nat} {v0 : Value} (hW : W < w0.heap.size) (i j : Nat) (hij : i ≠ j) (v : Value) (w w' : World) (hE : (F1 w0 ib W h k d n v0).E i w w') (hR : (F1 w0 ib W h k d n v0).R j v w) : (F1 w0 ib W h k d n v0).R j v w' := by
  simp only [F1] at hE hR ⊢
  by_cases h5 : j = 5
  · rw [if_pos h5] at hR ⊢
    rw [if_neg (by omega)] at hE
    exact ⟨hR.1, hR.2.1.below hE, hR.2.2⟩
  · rw [if_neg h5] at hR ⊢
    by_cases h6 : j = 6
    · rw [if_pos h6] at hR ⊢
      obtain ⟨kb, r1, r2, r3⟩ := hR
      refine ⟨kb, r1, r2, ?_⟩
      by_cases hi : i = 5
      · rw [if_pos hi] at hE
        exact r3.at hE.size (hE.block kb r3.1 (by omega))
      · rw [if_neg hi] at hE
        exact r3.below hE
    · rw [if_neg h6] at hR ⊢
      exact hR
theorem F1.stabB {w0 : World} {ib W h : Nat} {k : Int} {d n : Nat} {v0 : Value} (i b : Nat) (hk : ((F1 w0 ib W h k d n v0).killB b).contains i = false) (w w' : World) (hE : (F1 w0 ib W h k d n v0).E i w w') (hB : (F1 w0 ib W h k d n v0).B b w) : (F1 w0 ib W h k d n v0).B b w' := by
  simp only [F1] at hE hB hk ⊢
  by_cases h1 : b = 1
  · rw [if_pos h1] at hB hk ⊢
    rw [if_neg (fun e => by subst e; simp at hk)] at hE
    exact RowS.below hB hE
  · rw [if_neg h1] at hB ⊢
    by_cases hi : i = 5
    · rw [if_pos hi] at hE
      exact hB.trans hE (fun k hk => Or.inl hk)
    · rw [if_neg hi] at hE
      exact hB.belowTo hE
theorem exec_dyn (f : FuncId) (q : Array Value) (it : Value) (E : ∀ args w, (callFunc f args).run Tryd.prog w = .ok (.enter f args) w) (o : Oper) (a b : Tmp) (hab : (b == a) = false) (tys : Array TypeId) (ho : o.op = .call { callee := .value (.tmp a), args := #[.tmp b], argTypes := tys }) (X : World) : (execOp (RX.evo (RX.evl [(a, .func (.func f) #[] q), (b, it)])) o).run Tryd.prog X = .ok (.enter f (#[it] ++ q)) X := by
  have h1 : RX.evl [(a, .func (.func f) #[] q), (b, it)] a = .func (.func f) #[] q := by simp [RX.evl]
  have h2 : RX.evl [(a, .func (.func f) #[] q), (b, it)] b = it := by
    have : (a == b) = false := by rw [← hab]; exact Bool.beq_comm
    simp [RX.evl, this]
  unfold execOp
  rw [ho]
  simp [resolve, invoke, Deferred.ofValue, RX.evo, h1, h2, E]
/-- The flow of item's region 3. -/
def G3 (W ib kb : Nat) (k : Int) (f2 : FuncId) (q2 : Array Value) (it : Value) (num : Nat) (w3 : World) (l : List UInt8) : RX.Gw where
  R i v w := if i = 7 then ∃ g m c, v = .slice (some g) m c ∧ PB w (.slice (some g) m c) l else v = ([.pointer (some ⟨W, 0, none⟩), .pointer (some ⟨ib, 0, none⟩), .int .i64 k, .pointer (some ⟨kb, 1, none⟩), .func (.func f2) #[] q2, it, .int .u64 (num : Int)] : List Value).getD i undef
  B w := Below w3.heap.size w3 w
  sR i v w w' hb h := by
    by_cases e : i = 7
    · rw [if_pos e] at h ⊢
      obtain ⟨g, m, c, h1, h2⟩ := h
      exact ⟨g, m, c, h1, h2.below hb⟩
    · rw [if_neg e] at h ⊢
      exact h
  sB w w' hb h := h.trans (hb.mono h.size)
/-- How it stands behind region 1. -/
structure En (w : World) (W h d n ib kb : Nat) (o : List UInt8) (v : Value) (cs fs : List Value) (wx : World) : Prop where
  s : WrS w W h (d + 1) (n + 1) o o v v wx
  k : RowS wx kb fs
  i : RowS wx ib cs
  kl : w.heap.size ≤ kb
  il : w.heap.size ≤ ib
attribute [local go_sem] st_fn
set_option maxHeartbeats 400000 in
set_option maxRecDepth 20000 in
theorem item_g (hU : UV T u) (i : Itm) (f1 f2 f3 f4 : FuncId) (q1 q2 q3 q4 : Array Value) (bv : Bool) (num n' : Nat) (x' : List UInt8) (okw : Nat → Prop) (w : World) (W h d n B : Nat) (o : List UInt8) (v : Value) (qd : Option Addr) (dl cd : Nat) (ql : Option Addr) (m cl j : Nat) (hk : kAt h i.k = some (j, .agg #[.func (.func f1) #[] q1, .func (.func f2) #[] q2, .func (.func f3) #[] q3, .func (.func f4) #[] q4]))
    (hkk : (i.k.toNat : Int) = i.k) (hk8 : i.k.toNat < 8) (hnum : num < 18446744073709551616)
    (S : St T w W h d n B o v) (hM : InM w B i (.slice qd dl cd) (.slice ql m cl)) (ok : Prop)
    (E1 : ∀ args w, (callFunc f1 args).run Tryd.prog w = .ok (.enter f1 args) w) (E2 : ∀ args w, (callFunc f2 args).run Tryd.prog w = .ok (.enter f2 args) w) (E3 : ∀ args w, (callFunc f3 args).run Tryd.prog w = .ok (.enter f3 args) w)
    (C1 : ∀ w1, St T w1 W h (d + 1) (n + 1) B o v → InM w1 B i (.slice qd dl cd) (.slice ql m cl) → Calls Tryd.prog f1 (#[.agg #[.int .i64 i.k, .int .u64 (i.n : Int), .slice qd dl cd, .slice ql m cl]] ++ q1) w1 (RetW (BoR w1 bv)))
    (C2 : ∀ w1, St T w1 W h (d + 1) (n + 1) B o v → InM w1 B i (.slice qd dl cd) (.slice ql m cl) → Calls Tryd.prog f2 (#[.agg #[.int .i64 i.k, .int .u64 (i.n : Int), .slice qd dl cd, .slice ql m cl]] ++ q2) w1 (RetW (NuR w1 num)))
    (C3 : bv = true → ∀ w1 o1 v1, o1.length = o.length + (hd i.k.toNat num).length → St T w1 W h (d + 1) (n + 1) B o1 v1 → InM w1 B i (.slice qd dl cd) (.slice ql m cl) → ∀ ok1, Hid (ok1 ↔ okw o1.length) → Calls Tryd.prog f3 (#[.pointer (some ⟨W, 0, none⟩), .agg #[.int .i64 i.k, .int .u64 (i.n : Int), .slice qd dl cd, .slice ql m cl]] ++ q3) w1 (WrR w1 W h (d + 1) (n + 1) o1 v1 ok1 n' x'))
    (hok : Hid (ok ↔ bv = true ∧ d + 1 ≤ 16 ∧ n + 1 ≤ 4096 ∧ o.length + (hd i.k.toNat num).length ≤ 65536 ∧ okw (o.length + (hd i.k.toNat num).length))) :
  Calls Tryd.prog 45 #[.pointer (some ⟨W, 0, none⟩), itv i.k i.n qd dl cd ql m cl] w (WrR w W h d n o v ok n' (hd i.k.toNat num ++ x')) := by
  unfold itv
  have hltW := S.wr.row.1
  have hb0 := alloc_below w (.cells #[.int .i64 i.k, .int .u64 (i.n : Int), .slice qd dl cd, .slice ql m cl] 27)
  have hE := fun (w1 : World) (hb : FrX (· = W) w w1) (hR : RowS w1 W (wkc h d n v)) => enter_c w1 W h i.k d n v (by have := S.hd; omega) (by have := S.hn; omega) (S.ks.at hb.size (fun k h1 h2 => hb.block k (by have := S.ks.lt; omega) (fun e => (S.sep W (Or.inl rfl)).2.1 (by subst e; exact ⟨h1, h2⟩)))) hR (S.sep W (Or.inl rfl)).2.1
  have H := hidW (And.intro S hM)
  clear S hM
  go_enter Tryd.func45, Tryd.ntmps45
  go_upto_region 1 with fail
  obtain ⟨w0, hw0⟩ : ∃ w0, Hid (w.alloc (.cells #[.int .i64 i.k, .int .u64 (i.n : Int), .slice qd dl cd, .slice ql m cl] 27) = w0) := ⟨_, rfl⟩
  rw [hw0.out]
  have hs0 : w0.heap.size = w.heap.size + 1 := by rw [← hw0.out]; exact World.size_alloc _ _
  have hb1 : Hid (Below w.heap.size w w0) := by rw [← hw0.out]; exact hb0
  have hi0 : Hid (RowS w0 w.heap.size [.int .i64 i.k, .int .u64 (i.n : Int), .slice qd dl cd, .slice ql m cl]) := by
    rw [← hw0.out]
    refine ⟨by rw [World.size_alloc]; omega, al_r w _ _ _ rfl, fun j hj => ?_⟩
    rw [Nat.zero_add]
    refine ⟨?_, al_z w _ _ _ _ rfl⟩
    rw [al_c w _ _ _ j _ rfl (Array.getElem?_eq_getElem (by simpa using hj))]
    rfl
  clear hb0 hw0
  have HE := hidW hE
  clear hE
  refine RX.flow_last (F1 w0 w.heap.size W h i.k d n v) 7 rfl (by kernel_rfl) (by kernel_rfl) ⟨by kernel_rfl, RX.certs_but ?_, fun i j _ _ hij _ _ v w w' hE hR => F1.stab (by omega) i j hij v w w' hE hR, fun i b _ hk w w' hE hB => F1.stabB i b hk w w' hE hB⟩ (fun b => ?_) ?_
  · refine ⟨RX.cf_manyT fun a X hp => ⟨[(0, .pointer (some ⟨W, 0, none⟩))], .pointer (some ⟨W, 0, none⟩), X, ⟨hp.o 0 (by kernel_rfl), trivial⟩, by kernel_rfl, Below.refl _ _, rfl⟩,
      RX.cf_manyT fun a X hp => ⟨[(5, .pointer (some ⟨W, 0, none⟩))], .pointer (some ⟨W, 0, none⟩), X, ⟨hp.n 0 5 (by kernel_rfl) (by kernel_rfl) (by kernel_rfl), trivial⟩, by kernel_rfl, Below.refl _ _, rfl⟩,
      RX.cf_manyT fun a X hp => ⟨[(6, .pointer (some ⟨W, 0, none⟩))], .pointer (some ⟨W, 0, none⟩), X, ⟨hp.n 1 6 (by kernel_rfl) (by kernel_rfl) (by kernel_rfl), trivial⟩, by kernel_rfl, Below.refl _ _, rfl⟩,
      RX.cf_manyT fun a X hp => ⟨[(3, .pointer (some ⟨w.heap.size, 0, none⟩))], .pointer (some ⟨w.heap.size, 0, none⟩), X, ⟨hp.o 3 (by kernel_rfl), trivial⟩, by kernel_rfl, Below.refl _ _, rfl⟩,
      RX.cf_ld1T 3 8 rfl (by kernel_rfl) fun a X hp => ⟨⟨w.heap.size, 0, none⟩, .int .i64 i.k, hp.n 3 8 (by kernel_rfl) (by kernel_rfl) (by kernel_rfl), ?_, Below.refl _ _, rfl⟩,
      RX.cf_callsT fun a X hp => ⟨[(7, .pointer (some ⟨W, 0, none⟩)), (9, .int .i64 i.k)], 70, #[.pointer (some ⟨W, 0, none⟩), .int .i64 i.k], ⟨hp.n 2 7 (by kernel_rfl) (by kernel_rfl) (by kernel_rfl), hp.n 4 9 (by kernel_rfl) (by kernel_rfl) (by kernel_rfl), trivial⟩, by kernel_rfl, ?_⟩,
      RX.cf_manyT fun a X hp => ⟨[], .pointer (some ⟨X.heap.size, 0, none⟩), X.alloc (.cells #[.nilFunc, .nilFunc, .nilFunc, .nilFunc] 108), trivial, by kernel_rfl, alloc_below _ _, ?_⟩, trivial⟩
    · have hF : FrX (· = W) w0 X := hp.b 0 (by kernel_rfl)
      rw [World.cell?_of_block (a := ⟨w.heap.size, 0, none⟩) (hF.block w.heap.size (by omega) (by omega))]
      exact hi0.out.cell 0 _ rfl
    · have hF : FrX (· = W) w0 X := hp.b 0 (by kernel_rfl)
      have hF2 : FrX (· = W) w X := (FrX.of (X := (· = W)) hb1.out).trans hF (fun k hk => Or.inl hk)
      have hR : RowS X W (wkc h d n v) := hp.b 1 (by kernel_rfl)
      refine (HE.out X hF2 hR).mono ?_
      rintro e w' ⟨hFe, ⟨⟨j', v', hk', rfl⟩, h16, h40, hR'⟩ | ⟨hno, rfl⟩⟩
      · exact Or.inl ⟨_, rfl, hFe, ⟨_, hk'⟩, hR', h16, h40⟩
      · refine Or.inr ⟨_, rfl, fun hdf => ⟨hdf, ?_⟩⟩
        refine ⟨?_, Or.inr ⟨fun h' => ?_, rfl⟩⟩
        · have := hF2.trans hFe (fun k hk => Or.inl hk)
          exact ⟨this.os, this.tape, this.output, this.size, fun k hk1 hk2 => this.block k hk1 (fun e => hk2 (Or.inl e))⟩
        · have := hok.out.1 h'
          rcases hno with hno | hno | hno
          · rw [hk] at hno; cases hno
          · exact hno this.2.1
          · exact hno this.2.2.1
    · refine ⟨X.heap.size, rfl, (hp.b 0 (by kernel_rfl) : FrX (· = W) w0 X).size, by rw [World.size_alloc]; omega, al_r X _ _ _ rfl, fun j hj => ?_⟩
      rw [Nat.zero_add]
      refine ⟨?_, al_z X _ _ _ _ rfl⟩
      rw [al_c X _ _ _ j _ rfl (Array.getElem?_eq_getElem (by simpa using hj))]
      rfl
  · by_cases hb : b = 1
    · subst hb
      exact (H.out.1.wr.row.below hb1.out).at (Nat.le_refl _) rfl
    · simp only [F1, if_neg hb]
      exact ⟨rfl, rfl, rfl, Nat.le_refl _, fun _ _ _ => rfl⟩
  · intro V wx hV hB
    have hF : FrX (· = W) w0 wx := hB 0 rfl
    obtain ⟨⟨j5, e5⟩, r5, hd1, hn1⟩ : (∃ j, kAt h i.k = some (j, V 5)) ∧ RowS wx W _ ∧ _ := hV 5 (by omega) rfl
    rw [hk] at e5
    replace e5 := ((by simpa using e5 : j = j5 ∧ _ = V 5).2).symm
    obtain ⟨kb, e6, hkb, r6⟩ : ∃ kb, V 6 = .pointer (some ⟨kb, 0, none⟩) ∧ w0.heap.size ≤ kb ∧ RowS wx kb _ := hV 6 (by omega) rfl
    have e0 : V 0 = .pointer (some ⟨W, 0, none⟩) := hV 0 (by omega) rfl
    have e1 : V 1 = .pointer (some ⟨W, 0, none⟩) := hV 1 (by omega) rfl
    have e2 : V 2 = .pointer (some ⟨W, 0, none⟩) := hV 2 (by omega) rfl
    have e3 : V 3 = .pointer (some ⟨w.heap.size, 0, none⟩) := hV 3 (by omega) rfl
    have e4 : V 4 = .int .i64 i.k := hV 4 (by omega) rfl
    have HV := hidW (And.intro hF (And.intro r5 r6))
    have c0 := r6.cell 0 _ rfl
    have c1 := r6.cell 1 _ rfl
    have c2 := r6.cell 2 _ rfl
    have c3 := r6.cell 3 _ rfl
    have z0 := r6.free 0 (by show 0 < 4; omega)
    have z1 := r6.free 1 (by show 1 < 4; omega)
    have z2 := r6.free 2 (by show 2 < 4; omega)
    have z3 := r6.free 3 (by show 3 < 4; omega)
    have hkl := r6.1
    clear hV hB hF r5 r6
    dsimp only [RX.putV, Nat.reduceAdd, List.drop, List.take]
    simp only [Act.put, List.setIfInBounds_toArray, List.set_cons_succ, List.set_cons_zero]
    rw [e0, e1, e2, e3, e4, e5, e6]
    clear e0 e1 e2 e3 e4 e5 e6
    obtain ⟨wy, hwy⟩ : ∃ wy, Hid ((((wx.setCell ⟨kb, 0, none⟩ (.func (.func f1) #[] q1)).setCell ⟨kb, 1, none⟩ (.func (.func f2) #[] q2)).setCell ⟨kb, 2, none⟩ (.func (.func f3) #[] q3)).setCell ⟨kb, 3, none⟩ (.func (.func f4) #[] q4) = wy) := ⟨_, rfl⟩
    have EN : Hid (En w W h d n w.heap.size kb o v [.int .i64 i.k, .int .u64 (i.n : Int), .slice qd dl cd, .slice ql m cl] [.func (.func f1) #[] q1, .func (.func f2) #[] q2, .func (.func f3) #[] q3, .func (.func f4) #[] q4] wy) := by
      obtain ⟨hF, r5, r6⟩ := HV.out
      have hkW : kb ≠ W := by omega
      have R6 := (((r6.set 0 (.func (.func f1) #[] q1) (by show 0 < 4; omega)).set 1 (.func (.func f2) #[] q2) (by show 1 < 4; omega)).set 2 (.func (.func f3) #[] q3) (by show 2 < 4; omega)).set 3 (.func (.func f4) #[] q4) (by show 3 < 4; omega)
      rw [hwy.out] at R6
      have hblk : ∀ g, g ≠ kb → wy.heap[g]? = wx.heap[g]? := fun g hg => by
        rw [← hwy.out, blk_other _ _ _ _ hg, blk_other _ _ _ _ hg, blk_other _ _ _ _ hg, blk_other _ _ _ _ hg]
      have hsz : wy.heap.size = wx.heap.size := by rw [← hwy.out]; simp only [World.size_setCell]
      have hold : ∀ g, g < w.heap.size → g ≠ W → wy.heap[g]? = w.heap[g]? := fun g h1 h2 => by
        rw [hblk g (by omega), hF.block g (by omega) h2, hb1.out.block g h1]
      have hos : FrX (WX W v) w wy := by
        have h1 := (FrX.of (X := (· = W)) hb1.out).trans hF (fun k hk => Or.inl hk)
        refine ⟨?_, ?_, ?_, by rw [hsz]; exact h1.size, fun k hk1 hk2 => hold k hk1 (fun e => hk2 (Or.inl e))⟩
        · rw [← hwy.out]; exact h1.os
        · rw [← hwy.out]; exact h1.tape
        · rw [← hwy.out]; exact h1.output
      refine ⟨⟨hos, ⟨r5.at (by rw [hsz]; exact Nat.le_refl _) (hblk W (by omega)), own_at H.out.1.wr.own (fun g hg => hold g (own_lt H.out.1.wr.own g hg).2 (fun e => H.out.1.wr.ne (by rw [hg, e]))), H.out.1.wr.ne⟩, ⟨Or.inl rfl, fun g j hg _ => World.cell?_of_block (a := ⟨g, j, none⟩) (hold g (own_lt H.out.1.wr.own g hg).2 (fun e => H.out.1.wr.ne (by rw [hg, e])))⟩, Nat.le_refl _⟩, R6, hi0.out.at (by rw [hsz]; exact hF.size) (by rw [hblk _ (by omega), hF.block _ (by omega) (by omega)]), by omega, Nat.le_refl _⟩
    go_upto_region 2 with fail
    rw [hwy.out]
    clear HV c0 c1 c2 c3 z0 z1 z2 z3 hkl HE hwy hb1 hi0
    have S1 := hidW (H.out.1.next hU EN.out.s hd1 hn1 H.out.1.ho)
    have hM1 := hidW (InM.at (H.out.1.keep EN.out.s.1) i _ _ H.out.2)
    have hc1 := C1 wy S1.out hM1.out
    have c0 := EN.out.k.cell 0 _ rfl
    have i0 := EN.out.i.cell 0 _ rfl
    have i1 := EN.out.i.cell 1 _ rfl
    have i2 := EN.out.i.cell 2 _ rfl
    have i3 := EN.out.i.cell 3 _ rfl
    have hil := EN.out.i.1
    have hkl := EN.out.k.1
    go_wp2_with fail
    refine hc1.mono ?_
    rintro e w2 ⟨v2, rfl, rfl, hb2⟩
    have HB2 := hidW hb2
    clear hb2 hc1 c0 i0 i1 i2 i3
    cases bv with
    | false =>
      have KR : Hid (WrR w W h d n o v ok n' (hd i.k.toNat num ++ x') thrown w2) := ⟨EN.out.s.1.belowTo HB2.out, Or.inr ⟨(fun h' => absurd (hok.out.1 h').1 (by decide)), rfl⟩⟩
      clear HB2
      go_wp2_with fail
      refine (must_n _).mono ?_
      rintro e w3 ⟨rfl, rfl⟩
      simp only [Exit.inBlock, Exit.then, bodyPost]
      exact ⟨trivial, KR.out⟩
    | true =>
      go_wp2_with fail
      refine (must_y _).mono ?_
      rintro e w3 ⟨rfl, rfl⟩
      go_upto_region 3 with fail
      have hR1 := hidW (EN.out.k.below HB2.out)
      have hR2 := hidW (EN.out.i.below HB2.out)
      have hS2 := hidW (EN.out.s.below H.out.1.wr HB2.out)
      have S2 := hidW (H.out.1.next hU hS2.out hd1 hn1 H.out.1.ho)
      have hC2 : Hid (∀ X, Below w3.heap.size w3 X → Calls Tryd.prog f2 (#[.agg #[.int .i64 i.k, .int .u64 (i.n : Int), .slice qd dl cd, .slice ql m cl]] ++ q2) X (Ret fun e w' => Below X.heap.size X w' ∧ e = .int .u64 (num : Int))) := fun X hX => by
        refine (C2 X (S2.out.next hU ((WrS.refl S2.out.wr).below S2.out.wr hX) hd1 hn1 S2.out.ho) (InM.at (fun k hk => ?_) i _ _ hM1.out)).mono ?_
        · rw [hX.block k (Nat.lt_of_lt_of_le hk (Nat.le_trans S1.out.hB HB2.out.size)), HB2.out.block k (Nat.lt_of_lt_of_le hk S1.out.hB)]
        · rintro e w4 ⟨v4, rfl, rfl, hb4⟩
          exact ⟨_, rfl, hb4, rfl⟩
      have hH2 : Hid (∀ X, Calls Tryd.prog 73 #[.int .i64 i.k, .int .u64 (num : Int)] X (Ret fun e w' => Below X.heap.size X w' ∧ ∃ g m c, e = .slice (some g) m c ∧ PB w' (.slice (some g) m c) (hd i.k.toNat num))) := fun X => by
        have hh := headOf_c X i.k.toNat num hk8 hnum
        rw [hkk] at hh
        refine hh.mono ?_
        rintro e w4 ⟨v4, rfl, hb4, how⟩
        have hp := hd_pos i.k.toNat num
        obtain ⟨q, c, rfl⟩ := slice_own how
        cases q with
        | none =>
          rcases how.2 with ⟨-, h0⟩ | ⟨g, cap, cur, hE, -⟩
          · omega
          · cases hE
        | some g => exact ⟨_, rfl, hb4, g, _, c, rfl, own_pb how⟩
      refine RX.Gw.last (G3 W w.heap.size kb i.k f2 q2 (.agg #[.int .i64 i.k, .int .u64 (i.n : Int), .slice qd dl cd, .slice ql m cl]) num w3 (hd i.k.toNat num)) 8 (by kernel_rfl) (by kernel_rfl) (by kernel_rfl) ?_ (Below.refl _ w3).drew ?_
      · refine ⟨RX.gw_val fun a X hp => ⟨[(0, .pointer (some ⟨W, 0, none⟩))], .pointer (some ⟨W, 0, none⟩), X, ⟨hp.o 0 (by kernel_rfl), trivial⟩, by kernel_rfl, Below.refl _ _, rfl⟩,
          RX.gw_val fun a X hp => ⟨[(3, .pointer (some ⟨w.heap.size, 0, none⟩))], .pointer (some ⟨w.heap.size, 0, none⟩), X, ⟨hp.o 3 (by kernel_rfl), trivial⟩, by kernel_rfl, Below.refl _ _, rfl⟩,
          RX.cf_ld1T 3 17 rfl (by kernel_rfl) fun a X hp => ⟨⟨w.heap.size, 0, none⟩, .int .i64 i.k, hp.n 1 17 (by kernel_rfl) (by kernel_rfl) (by kernel_rfl), (hR2.out.below (hp.b 0 (by kernel_rfl) : Below _ w3 X)).cell 0 _ rfl, Below.refl _ _, rfl⟩,
          RX.gw_val fun a X hp => ⟨[(4, .pointer (some ⟨kb, 0, none⟩))], .pointer (some ⟨kb, 1, none⟩), X, ⟨hp.o 4 (by kernel_rfl), trivial⟩, by kernel_rfl, Below.refl _ _, rfl⟩,
          RX.cf_ld1T 104 19 rfl (by kernel_rfl) fun a X hp => ⟨⟨kb, 1, none⟩, .func (.func f2) #[] q2, hp.n 3 19 (by kernel_rfl) (by kernel_rfl) (by kernel_rfl), (hR1.out.below (hp.b 0 (by kernel_rfl) : Below _ w3 X)).cell 1 _ rfl, Below.refl _ _, rfl⟩,
          RX.gw_load 27 3 rfl (by kernel_rfl) fun a X hp => ⟨w.heap.size, 0, [.int .i64 i.k, .int .u64 (i.n : Int), .slice qd dl cd, .slice ql m cl], hp.o 3 (by kernel_rfl), (hR2.out.below hp.b).2.1, by kernel_rfl, rfl⟩,
          RX.gw_call fun a X hp => ⟨[(20, .func (.func f2) #[] q2), (21, .agg #[.int .i64 i.k, .int .u64 (i.n : Int), .slice qd dl cd, .slice ql m cl])], f2, #[.agg #[.int .i64 i.k, .int .u64 (i.n : Int), .slice qd dl cd, .slice ql m cl]] ++ q2, ⟨hp.n 4 20 (by kernel_rfl) (by kernel_rfl), hp.n 5 21 (by kernel_rfl) (by kernel_rfl), trivial⟩, ?_, ?_⟩,
          RX.gw_call fun a X hp => ⟨[(18, .int .i64 i.k), (22, .int .u64 (num : Int))], 73, #[.int .i64 i.k, .int .u64 (num : Int)], ⟨hp.n 2 18 (by kernel_rfl) (by kernel_rfl), hp.n 6 22 (by kernel_rfl) (by kernel_rfl), trivial⟩, by kernel_rfl, ?_⟩, trivial⟩
        · exact Prod.ext (by kernel_rfl) (exec_dyn f2 q2 _ E2 _ 20 21 rfl _ rfl X)
        · have hbX : Below w3.heap.size w3 X := hp.b
          refine (hC2.out X hbX).mono ?_
          rintro e w4 ⟨v4, rfl, hb4, rfl⟩
          exact ⟨_, rfl, hb4, rfl⟩
        · refine (hH2.out X).mono ?_
          rintro e w4 ⟨v4, rfl, hb4, hq4⟩
          exact ⟨_, rfl, hb4, hq4⟩
      · intro V wz hV hB
        obtain ⟨g7, m7, c7, e7, p7⟩ : ∃ g m c, V 7 = .slice (some g) m c ∧ PB wz (.slice (some g) m c) _ := hV 7 (by omega)
        have e0 : V 0 = .pointer (some ⟨W, 0, none⟩) := hV 0 (by omega)
        have hSz := hidW (hS2.out.below H.out.1.wr hB)
        have hcb := bytes_c wz W h (d + 1) (n + 1) o v (some g7) m7 c7 _ hSz.out.2.1 p7 (Or.inr (by simp)) H.out.1.ho _ (hidW Iff.rfl)
        have hRk := hidW (hR1.out.below hB)
        have hRi := hidW (hR2.out.below hB)
        clear hV p7 hB
        dsimp only [RX.putV, Nat.reduceAdd, List.drop, List.take]
        simp only [Act.put, List.setIfInBounds_toArray, List.set_cons_succ, List.set_cons_zero]
        rw [e0, e7]
        clear e0 e7
        go_wp2_with fail
        refine hcb.mono ?_
        rintro e w5 hR5
        obtain ⟨hF5, h5⟩ := hSz.out.step H.out.1.wr hR5
        have hF5' := hR5.1
        have hnk : ∀ g, w.heap.size ≤ g → g < wz.heap.size → w5.heap[g]? = wz.heap[g]? := fun g h1 h2 => hF5'.block g h2 (fun hx => by have := H.out.1.wr.lt g hx; omega)
        rcases h5 with ⟨ok5, rfl, v5, hS5⟩ | ⟨ok5, rfl⟩
        · have S5 := hidW (H.out.1.next hU hS5 hd1 hn1 (by rw [List.length_append]; exact ok5))
          have hM5 := hidW (InM.at (H.out.1.keep hS5.1) i _ _ H.out.2)
          have k5 := hRk.out.at hF5'.size (hnk kb EN.out.kl hRk.out.1)
          have i5 := hRi.out.at hF5'.size (hnk _ (Nat.le_refl _) hRi.out.1)
          have c2 := k5.cell 2 _ rfl
          have i0 := i5.cell 0 _ rfl
          have i1 := i5.cell 1 _ rfl
          have i2 := i5.cell 2 _ rfl
          have i3 := i5.cell 3 _ rfl
          have hil5 := i5.1
          have hkl5 := k5.1
          have hc3 := C3 (by first | rfl | trivial) w5 _ v5 (List.length_append) S5.out hM5.out _ (hidW Iff.rfl)
          have HS5 := hidW hS5
          clear hR5 hF5 hF5' hS5 k5 i5 hcb hRk hRi hC2 hH2
          go_wp2_with fail
          refine hc3.mono ?_
          rintro e w6 hR6
          obtain ⟨hF6, h6⟩ := HS5.out.step H.out.1.wr hR6
          rcases h6 with ⟨ok6, rfl, v6, hS6⟩ | ⟨ok6, rfl⟩
          · have hlv := leave_c w6 W h d n' v6 (by omega) hS6.2.1.row
            have hltW6 := hS6.2.1.row.1
            have hOK : Hid ok := hok.out.2 ⟨by first | rfl | trivial, hd1, hn1, ok5, by rw [List.length_append] at ok6; exact ok6⟩
            have HS6 := hidW hS6
            clear hR6 hF6 hS6 hc3 ok6
            go_wp2_with fail
            refine hlv.mono ?_
            rintro e w7 ⟨rfl, hF7, hR7⟩
            have KR : Hid (WrR w W h d n o v ok n' (hd i.k.toNat num ++ x') (.returned (.tuple #[])) w7) := by
              have h7 := HS6.out
              have hk7 : ∀ g, g < w6.heap.size → g ≠ W → w7.heap[g]? = w6.heap[g]? := fun g h1 h2 => hF7.block g h1 h2
              refine ⟨h7.1.trans hF7 (fun k hk => Or.inl (Or.inl hk)), Or.inl ⟨hOK.out, rfl, v6, ⟨hR7, ?_, h7.2.1.ne⟩, h7.2.2.1.1, fun g j hg hj => ?_⟩⟩
              · rw [← List.append_assoc]
                exact own_at h7.2.1.own (fun g hg => hk7 g (own_lt h7.2.1.own g hg).2 (fun e => h7.2.1.ne (by rw [hg, e])))
              · rw [← h7.2.2.1.2 g j hg hj]
                exact World.cell?_of_block (a := ⟨g, j, none⟩) (hk7 g (Nat.lt_of_lt_of_le (own_lt H.out.1.wr.own g hg).2 h7.1.size) (fun e => H.out.1.wr.ne (by rw [hg, e])))
            clear hF7 hR7 hlv HS6
            go_wp2
            first | go_end0 | go_ret
            exact KR.out
          · have KR : Hid (WrR w W h d n o v ok n' (hd i.k.toNat num ++ x') thrown w6) := ⟨hF6, Or.inr ⟨(fun h' => ok6 (by rw [List.length_append]; exact (hok.out.1 h').2.2.2.2)), rfl⟩⟩
            clear hR6 hF6 hc3 ok6
            simp only [thrown, Exit.inBlock, Exit.then, bodyPost]
            exact ⟨trivial, KR.out⟩
        · have KR : Hid (WrR w W h d n o v ok n' (hd i.k.toNat num ++ x') thrown w5) := ⟨hF5, Or.inr ⟨(fun h' => ok5 (hok.out.1 h').2.2.2.1), rfl⟩⟩
          clear hR5 hF5 hF5' hcb hRk hRi hC2 hH2
          simp only [thrown, Exit.inBlock, Exit.then, bodyPost]
          exact ⟨trivial, KR.out⟩
set_option maxHeartbeats 400000 in
set_option maxRecDepth 20000 in
theorem item_n (i : Itm) (w : World) (W h d n B : Nat) (o : List UInt8) (v : Value) (qd : Option Addr) (dl cd : Nat) (ql : Option Addr) (m cl : Nat) (n' : Nat) (x' : List UInt8) (hk : kAt h i.k = none)
    (S : St T w W h d n B o v) (ok : Prop) (hok : Hid (¬ ok)) :
  Calls Tryd.prog 45 #[.pointer (some ⟨W, 0, none⟩), itv i.k i.n qd dl cd ql m cl] w (WrR w W h d n o v ok n' x') := by
  unfold itv
  have hltW := S.wr.row.1
  have hb0 := alloc_below w (.cells #[.int .i64 i.k, .int .u64 (i.n : Int), .slice qd dl cd, .slice ql m cl] 27)
  have hE := fun (w1 : World) (hb : FrX (· = W) w w1) (hR : RowS w1 W (wkc h d n v)) => enter_c w1 W h i.k d n v (by have := S.hd; omega) (by have := S.hn; omega) (S.ks.at hb.size (fun k h1 h2 => hb.block k (by have := S.ks.lt; omega) (fun e => (S.sep W (Or.inl rfl)).2.1 (by subst e; exact ⟨h1, h2⟩)))) hR (S.sep W (Or.inl rfl)).2.1
  have H := hidW (And.intro S trivial)
  clear S
  go_enter Tryd.func45, Tryd.ntmps45
  go_upto_region 1 with fail
  obtain ⟨w0, hw0⟩ : ∃ w0, Hid (w.alloc (.cells #[.int .i64 i.k, .int .u64 (i.n : Int), .slice qd dl cd, .slice ql m cl] 27) = w0) := ⟨_, rfl⟩
  rw [hw0.out]
  have hs0 : w0.heap.size = w.heap.size + 1 := by rw [← hw0.out]; exact World.size_alloc _ _
  have hb1 : Hid (Below w.heap.size w w0) := by rw [← hw0.out]; exact hb0
  have hi0 : Hid (RowS w0 w.heap.size [.int .i64 i.k, .int .u64 (i.n : Int), .slice qd dl cd, .slice ql m cl]) := by
    rw [← hw0.out]
    refine ⟨by rw [World.size_alloc]; omega, al_r w _ _ _ rfl, fun j hj => ?_⟩
    rw [Nat.zero_add]
    refine ⟨?_, al_z w _ _ _ _ rfl⟩
    rw [al_c w _ _ _ j _ rfl (Array.getElem?_eq_getElem (by simpa using hj))]
    rfl
  clear hb0 hw0
  have HE := hidW hE
  clear hE
  refine RX.flow_last (F1 w0 w.heap.size W h i.k d n v) 7 rfl (by kernel_rfl) (by kernel_rfl) ⟨by kernel_rfl, RX.certs_but ?_, fun i j _ _ hij _ _ v w w' hE hR => F1.stab (by omega) i j hij v w w' hE hR, fun i b _ hk w w' hE hB => F1.stabB i b hk w w' hE hB⟩ (fun b => ?_) ?_
  · refine ⟨RX.cf_manyT fun a X hp => ⟨[(0, .pointer (some ⟨W, 0, none⟩))], .pointer (some ⟨W, 0, none⟩), X, ⟨hp.o 0 (by kernel_rfl), trivial⟩, by kernel_rfl, Below.refl _ _, rfl⟩,
      RX.cf_manyT fun a X hp => ⟨[(5, .pointer (some ⟨W, 0, none⟩))], .pointer (some ⟨W, 0, none⟩), X, ⟨hp.n 0 5 (by kernel_rfl) (by kernel_rfl) (by kernel_rfl), trivial⟩, by kernel_rfl, Below.refl _ _, rfl⟩,
      RX.cf_manyT fun a X hp => ⟨[(6, .pointer (some ⟨W, 0, none⟩))], .pointer (some ⟨W, 0, none⟩), X, ⟨hp.n 1 6 (by kernel_rfl) (by kernel_rfl) (by kernel_rfl), trivial⟩, by kernel_rfl, Below.refl _ _, rfl⟩,
      RX.cf_manyT fun a X hp => ⟨[(3, .pointer (some ⟨w.heap.size, 0, none⟩))], .pointer (some ⟨w.heap.size, 0, none⟩), X, ⟨hp.o 3 (by kernel_rfl), trivial⟩, by kernel_rfl, Below.refl _ _, rfl⟩,
      RX.cf_ld1T 3 8 rfl (by kernel_rfl) fun a X hp => ⟨⟨w.heap.size, 0, none⟩, .int .i64 i.k, hp.n 3 8 (by kernel_rfl) (by kernel_rfl) (by kernel_rfl), ?_, Below.refl _ _, rfl⟩,
      RX.cf_callsT fun a X hp => ⟨[(7, .pointer (some ⟨W, 0, none⟩)), (9, .int .i64 i.k)], 70, #[.pointer (some ⟨W, 0, none⟩), .int .i64 i.k], ⟨hp.n 2 7 (by kernel_rfl) (by kernel_rfl) (by kernel_rfl), hp.n 4 9 (by kernel_rfl) (by kernel_rfl) (by kernel_rfl), trivial⟩, by kernel_rfl, ?_⟩,
      RX.cf_manyT fun a X hp => ⟨[], .pointer (some ⟨X.heap.size, 0, none⟩), X.alloc (.cells #[.nilFunc, .nilFunc, .nilFunc, .nilFunc] 108), trivial, by kernel_rfl, alloc_below _ _, ?_⟩, trivial⟩
    · have hF : FrX (· = W) w0 X := hp.b 0 (by kernel_rfl)
      rw [World.cell?_of_block (a := ⟨w.heap.size, 0, none⟩) (hF.block w.heap.size (by omega) (by omega))]
      exact hi0.out.cell 0 _ rfl
    · have hF : FrX (· = W) w0 X := hp.b 0 (by kernel_rfl)
      have hF2 : FrX (· = W) w X := (FrX.of (X := (· = W)) hb1.out).trans hF (fun k hk => Or.inl hk)
      have hR : RowS X W (wkc h d n v) := hp.b 1 (by kernel_rfl)
      refine (HE.out X hF2 hR).mono ?_
      rintro e w' ⟨hFe, ⟨⟨j', v', hk', rfl⟩, h16, h40, hR'⟩ | ⟨hno, rfl⟩⟩
      · exact Or.inl ⟨_, rfl, hFe, ⟨_, hk'⟩, hR', h16, h40⟩
      · refine Or.inr ⟨_, rfl, fun hdf => ⟨hdf, ?_⟩⟩
        refine ⟨?_, Or.inr ⟨fun h' => ?_, rfl⟩⟩
        · have := hF2.trans hFe (fun k hk => Or.inl hk)
          exact ⟨this.os, this.tape, this.output, this.size, fun k hk1 hk2 => this.block k hk1 (fun e => hk2 (Or.inl e))⟩
        · exact hok.out h'
    · refine ⟨X.heap.size, rfl, (hp.b 0 (by kernel_rfl) : FrX (· = W) w0 X).size, by rw [World.size_alloc]; omega, al_r X _ _ _ rfl, fun j hj => ?_⟩
      rw [Nat.zero_add]
      refine ⟨?_, al_z X _ _ _ _ rfl⟩
      rw [al_c X _ _ _ j _ rfl (Array.getElem?_eq_getElem (by simpa using hj))]
      rfl
  · by_cases hb : b = 1
    · subst hb
      exact (H.out.1.wr.row.below hb1.out).at (Nat.le_refl _) rfl
    · simp only [F1, if_neg hb]
      exact ⟨rfl, rfl, rfl, Nat.le_refl _, fun _ _ _ => rfl⟩
  · intro V wx hV hB
    obtain ⟨⟨j5, e5⟩, -⟩ : (∃ j, kAt h i.k = some (j, V 5)) ∧ RowS wx W _ ∧ _ := hV 5 (by omega) rfl
    rw [hk] at e5
    cases e5
end WI
end Go.Proofs.YtfkgfcggcfkkiaaDoor
namespace Go.Proofs.YtfkgfcggcfkkiaaDoor
open Go.RowKit Go.Sort Go.Deep
namespace WI
variable {T : World → Prop} {u : List UInt8 → Bool}
def listW (f : FuncId) (hU : UV T u) (l : List Itm) (okl : Nat → Nat → Nat → Prop) : Prop := ∀ (w : World) (W h d n B : Nat) (o : List UInt8) (v : Value) (q : Option Addr) (c : Nat), St T w W h d n B o v → (l = [] ∨ ∃ b off, q = some ⟨b, off, none⟩ ∧ b < B ∧ InL w B l b off) → ∀ ok : Prop, Hid (ok ↔ okl d n o.length) →
  Calls Tryd.prog f #[.pointer (some ⟨W, 0, none⟩), .slice q l.length c] w (WrR w W h d n o v ok (n + cnts l) (byts l).flatten)
set_option maxHeartbeats 400000 in
theorem wLstI_c (hU : UV T u) (l : List Itm) (okl : Nat → Nat → Nat → Prop) (hl : listW 64 hU l okl) (w : World) (W h d n B : Nat) (o : List UInt8) (v : Value) (k : Int) (nn : Nat) (qd : Option Addr) (dl cd : Nat) (q : Option Addr) (c bx : Nat) (S : St T w W h d n B o v) (hL : l = [] ∨ ∃ b off, q = some ⟨b, off, none⟩ ∧ b < B ∧ InL w B l b off) (hc : w.cell? ⟨bx, 0, none⟩ = some (fnv 64)) (ok : Prop) (hok : Hid (ok ↔ okl d n o.length)) :
    Calls Tryd.prog 92 #[.pointer (some ⟨W, 0, none⟩), .agg #[.int .i64 k, .int .u64 (nn : Int), .slice qd dl cd, .slice q l.length c], .pointer (some ⟨bx, 0, none⟩)] w (WrR w W h d n o v ok (n + cnts l) (byts l).flatten) := by
  obtain ⟨m, hm⟩ : ∃ m, Hid (l.length = m) := ⟨_, rfl⟩
  have hb := alloc_below w (.cells #[.int .i64 k, .int .u64 (nn : Int), .slice qd dl cd, .slice q l.length c] 27)
  have hcc := hl _ W h d n B o v q c (S.next hU ((WrS.refl S.wr).below S.wr hb) S.hd S.hn S.ho) (by
    rcases hL with h1 | ⟨b, off, h1, h2, h3⟩
    · exact Or.inl h1
    · exact Or.inr ⟨b, off, h1, h2, InL.at (fun k hk => hb.block k (Nat.lt_of_lt_of_le hk S.hB)) l b off h2 h3⟩) ok hok
  have HB := hidW (And.intro hb (fun g hg => (own_lt S.wr.own g hg).2))
  have hlt := World.block_lt_of_cell? _ _ hc
  rw [hm.out] at hcc HB ⊢
  clear S hL hb
  go_enter Tryd.func92, Tryd.ntmps92
  go_wp2_with fail
  refine hcc.mono ?_
  rintro e w' hR
  have KR := hidW (WrR.from HB.out.1 HB.out.2 hR)
  rcases hR.2 with ⟨-, rfl, -⟩ | ⟨-, rfl⟩
  · clear hR hcc
    go_wp2
    first | go_end0 | go_ret
    exact KR.out
  · clear hR hcc
    simp only [thrown, Exit.inBlock, Exit.then, bodyPost]
    exact ⟨trivial, KR.out⟩
set_option maxHeartbeats 400000 in
theorem wLstP_c (hU : UV T u) (l : List Itm) (okl : Nat → Nat → Nat → Prop) (hl : listW 66 hU l okl) (w : World) (W h d n B : Nat) (o : List UInt8) (v : Value) (k : Int) (nn : Nat) (qd : Option Addr) (dl cd : Nat) (q : Option Addr) (c bx : Nat) (S : St T w W h d n B o v) (hL : l = [] ∨ ∃ b off, q = some ⟨b, off, none⟩ ∧ b < B ∧ InL w B l b off) (hc : w.cell? ⟨bx, 0, none⟩ = some (fnv 66)) (ok : Prop) (hok : Hid (ok ↔ okl d n o.length)) :
    Calls Tryd.prog 92 #[.pointer (some ⟨W, 0, none⟩), .agg #[.int .i64 k, .int .u64 (nn : Int), .slice qd dl cd, .slice q l.length c], .pointer (some ⟨bx, 0, none⟩)] w (WrR w W h d n o v ok (n + cnts l) (byts l).flatten) := by
  obtain ⟨m, hm⟩ : ∃ m, Hid (l.length = m) := ⟨_, rfl⟩
  have hb := alloc_below w (.cells #[.int .i64 k, .int .u64 (nn : Int), .slice qd dl cd, .slice q l.length c] 27)
  have hcc := hl _ W h d n B o v q c (S.next hU ((WrS.refl S.wr).below S.wr hb) S.hd S.hn S.ho) (by
    rcases hL with h1 | ⟨b, off, h1, h2, h3⟩
    · exact Or.inl h1
    · exact Or.inr ⟨b, off, h1, h2, InL.at (fun k hk => hb.block k (Nat.lt_of_lt_of_le hk S.hB)) l b off h2 h3⟩) ok hok
  have HB := hidW (And.intro hb (fun g hg => (own_lt S.wr.own g hg).2))
  have hlt := World.block_lt_of_cell? _ _ hc
  rw [hm.out] at hcc HB ⊢
  clear S hL hb
  go_enter Tryd.func92, Tryd.ntmps92
  go_wp2_with fail
  refine hcc.mono ?_
  rintro e w' hR
  have KR := hidW (WrR.from HB.out.1 HB.out.2 hR)
  rcases hR.2 with ⟨-, rfl, -⟩ | ⟨-, rfl⟩
  · clear hR hcc
    go_wp2
    first | go_end0 | go_ret
    exact KR.out
  · clear hR hcc
    simp only [thrown, Exit.inBlock, Exit.then, bodyPost]
    exact ⟨trivial, KR.out⟩
end WI
end Go.Proofs.YtfkgfcggcfkkiaaDoor
namespace Go.Proofs.YtfkgfcggcfkkiaaDoor
open Go.RowKit Go.Sort Go.Deep
namespace WI
variable {T : World → Prop} {u : List UInt8 → Bool}
theorem cnts_mem : ∀ (l : List Itm) (i : Itm), i ∈ l → cnt i ≤ cnts l
  | [], _, h => by cases h
  | j :: l, i, h => by
    rw [cnts]
    rcases List.mem_cons.1 h with rfl | h
    · omega
    · have := cnts_mem l i h; omega
theorem en1 : ∀ args w, (callFunc 80 args).run Tryd.prog w = .ok (.enter 80 args) w := enters_of Tryd.func80 (by kernel_rfl) rfl
theorem en2 : ∀ args w, (callFunc 81 args).run Tryd.prog w = .ok (.enter 81 args) w := enters_of Tryd.func81 (by kernel_rfl) rfl
theorem en3 : ∀ args w, (callFunc 82 args).run Tryd.prog w = .ok (.enter 82 args) w := enters_of Tryd.func82 (by kernel_rfl) rfl
theorem ed1 : ∀ args w, (callFunc 84 args).run Tryd.prog w = .ok (.enter 84 args) w := enters_of Tryd.func84 (by kernel_rfl) rfl
theorem ed2 : ∀ args w, (callFunc 85 args).run Tryd.prog w = .ok (.enter 85 args) w := enters_of Tryd.func85 (by kernel_rfl) rfl
theorem ed3 : ∀ args w, (callFunc 86 args).run Tryd.prog w = .ok (.enter 86 args) w := enters_of Tryd.func86 (by kernel_rfl) rfl
theorem el1 : ∀ args w, (callFunc 90 args).run Tryd.prog w = .ok (.enter 90 args) w := enters_of Tryd.func90 (by kernel_rfl) rfl
theorem el2 : ∀ args w, (callFunc 91 args).run Tryd.prog w = .ok (.enter 91 args) w := enters_of Tryd.func91 (by kernel_rfl) rfl
theorem el3 : ∀ args w, (callFunc 92 args).run Tryd.prog w = .ok (.enter 92 args) w := enters_of Tryd.func92 (by kernel_rfl) rfl
variable {w : World} {W h d n B : Nat} {o : List UInt8} {v : Value} {qd : Option Addr} {cd : Nat} {ql : Option Addr} {cl : Nat} {k : Int} {nn : Nat} {dd : List UInt8} {l : List Itm}
theorem item_num (hU : UV T u) (b j : Nat) (fv : Bool) (hk : kAt h k = some (j, kNum b)) (hk3 : k = 0 ∨ k = 1 ∨ k = 7) (hown : own u k nn dd l.length = (dd.length == 0 && l.length == 0 && fv))
    (hV : ∀ w1, St T w1 W h (d + 1) (n + 1) B o v → Calls Tryd.prog 80 #[itv k nn qd dd.length cd ql l.length cl, .pointer (some ⟨b, 0, none⟩)] w1 (RetW (BoR w1 (dd.length == 0 && l.length == 0 && fv))))
    (S : St T w W h d n B o v) (hM : InM w B (.mk k nn dd l) (.slice qd dd.length cd) (.slice ql l.length cl)) (ok : Prop) (hok : Hid (ok ↔ wok u (.mk k nn dd l) d n o.length)) :
    Calls Tryd.prog 45 #[.pointer (some ⟨W, 0, none⟩), itv k nn qd dd.length cd ql l.length cl] w (WrR w W h d n o v ok (n + cnt (.mk k nn dd l)) (byt (.mk k nn dd l))) := by
  have hnn : nn < 18446744073709551616 := by rw [InM] at hM; exact hM.1
  have hb : byt (.mk k nn dd l) = hd k.toNat nn ++ [] := by
    rw [byt]
    rcases hk3 with rfl | rfl | rfl <;> simp
  rw [hb]
  refine item_g hU (.mk k nn dd l) 80 81 82 83 #[.pointer (some ⟨b, 0, none⟩)] #[] #[] #[] (dd.length == 0 && l.length == 0 && fv) nn _ [] (fun _ => True) w W h d n B o v qd dd.length cd ql l.length cl j hk (by show (k.toNat : Int) = k; omega) (by show k.toNat < 8; omega) hnn S hM ok en1 en2 en3 (fun w1 S1 _ => hV w1 S1) (fun w1 _ _ => nNum_c k nn qd dd.length cd ql l.length cl w1) ?_ ?_
  · intro hbv w1 o1 v1 _ S1 _ ok1 hok1
    have hl : l = [] := by
      rw [Bool.and_eq_true, Bool.and_eq_true] at hbv
      exact List.length_eq_zero_iff.1 (by simpa using hbv.1.2)
    refine (wNum_c W k nn qd dd.length cd ql l.length cl w1).mono ?_
    rintro e w2 ⟨rfl, hb2⟩
    refine ⟨FrX.of hb2, Or.inl ⟨hok1.out.2 trivial, rfl, v1, ?_, Or.inl rfl, fun g j hg _ => World.cell?_of_block (a := ⟨g, j, none⟩) (hb2.block g (own_lt S1.wr.own g hg).2)⟩⟩
    rw [List.append_nil, hl, show cnt (.mk k nn dd []) = 1 by simp [cnt, cnts]]
    exact S1.wr.below hb2
  · show ok ↔ _
    rw [hok.out, wok_leaf u k nn dd l d n o.length (by omega), hown]
    have h2 : ¬ (k = 2 ∨ k = 3) := by omega
    rw [if_neg h2, if_neg h2, Nat.add_zero]
    exact ⟨fun ⟨a, b, c, d⟩ => ⟨a, b, c, d, trivial⟩, fun ⟨a, b, c, d, _⟩ => ⟨a, b, c, d⟩⟩
theorem item_dat (hU : UV T u) (b j : Nat) (fv : Bool) (hk : kAt h k = some (j, kDat b)) (hk3 : k = 2 ∨ k = 3) (hown : own u k nn dd l.length = (nn == 0 && l.length == 0 && fv))
    (hV : ∀ w1, St T w1 W h (d + 1) (n + 1) B o v → PB w1 (.slice qd dd.length cd) dd → Calls Tryd.prog 84 #[itv k nn qd dd.length cd ql l.length cl, .pointer (some ⟨b, 0, none⟩)] w1 (RetW (BoR w1 (nn == 0 && l.length == 0 && fv))))
    (S : St T w W h d n B o v) (hM : InM w B (.mk k nn dd l) (.slice qd dd.length cd) (.slice ql l.length cl)) (ok : Prop) (hok : Hid (ok ↔ wok u (.mk k nn dd l) d n o.length)) :
    Calls Tryd.prog 45 #[.pointer (some ⟨W, 0, none⟩), itv k nn qd dd.length cd ql l.length cl] w (WrR w W h d n o v ok (n + cnt (.mk k nn dd l)) (byt (.mk k nn dd l))) := by
  have hdl : dd.length ≤ 4611686018427387904 := by rw [InM] at hM; exact hM.2.1
  have hpb : ∀ w1, InM w1 B (.mk k nn dd l) (.slice qd dd.length cd) (.slice ql l.length cl) → PB w1 (.slice qd dd.length cd) dd := fun w1 h => by rw [InM] at h; exact h.2.2.2.1.pb
  have hb : byt (.mk k nn dd l) = hd k.toNat dd.length ++ dd := by
    rw [byt]
    rcases hk3 with rfl | rfl <;> simp
  rw [hb]
  refine item_g hU (.mk k nn dd l) 84 85 86 87 #[.pointer (some ⟨b, 0, none⟩)] #[] #[] #[] (nn == 0 && l.length == 0 && fv) dd.length _ dd (fun ol => ol + dd.length ≤ 65536) w W h d n B o v qd dd.length cd ql l.length cl j hk (by show (k.toNat : Int) = k; omega) (by show k.toNat < 8; omega) (by omega) S hM ok ed1 ed2 ed3 (fun w1 S1 hM1 => hV w1 S1 (hpb w1 hM1)) (fun w1 _ _ => nDat_c k nn qd dd.length cd ql l.length cl w1 hdl) ?_ ?_
  · intro hbv w1 o1 v1 ho1 S1 hM1 ok1 hok1
    have hl : l = [] := by
      rw [Bool.and_eq_true, Bool.and_eq_true] at hbv
      exact List.length_eq_zero_iff.1 (by simpa using hbv.1.2)
    have h0 : o1 ≠ [] := fun e => by
      have := hd_pos (Itm.mk k nn dd l).k.toNat dd.length
      rw [e] at ho1
      simp at ho1
      omega
    rw [hl, show cnt (.mk k nn dd []) = 1 by simp [cnt, cnts], ← hl]
    exact wDat_c W h (d + 1) (n + 1) o1 v1 k nn qd dd.length cd ql l.length cl dd w1 S1.wr (hpb w1 hM1) h0 S1.ho ok1 hok1
  · show ok ↔ _
    rw [hok.out, wok_leaf u k nn dd l d n o.length (by omega), hown]
    rw [if_pos hk3, if_pos hk3]
    constructor
    · rintro ⟨a, b, c, d⟩
      exact ⟨a, b, c, by show _ + (hd k.toNat dd.length).length ≤ _; omega, d⟩
    · rintro ⟨a, b, c, -, e⟩
      exact ⟨a, b, c, e⟩
theorem item_lst (hU : UV T u) (by' b j : Nat) (hby : by' = 1 ∨ by' = 2) (hk : kAt h k = some (j, kLst b)) (hk3 : k = 4 ∧ by' = 1 ∨ k = 5 ∧ by' = 2)
    (hB1 : ∀ w1, KS w1 h → w1.cell? ⟨b, 0, none⟩ = some (.int .i64 (by' : Int)))
    (hW3 : l.length % by' = 0 → ∀ w1 o1 v1, St T w1 W h (d + 1) (n + 1) B o1 v1 → (l = [] ∨ ∃ b off, ql = some ⟨b, off, none⟩ ∧ b < B ∧ InL w1 B l b off) → ∀ ok1, Hid (ok1 ↔ (k = 5 → rise [] (byts l) = true) ∧ wokS u l (d + 1) (n + 1) o1.length) → Calls Tryd.prog 92 #[.pointer (some ⟨W, 0, none⟩), itv k nn qd dd.length cd ql l.length cl, .pointer (some ⟨b + 1, 0, none⟩)] w1 (WrR w1 W h (d + 1) (n + 1) o1 v1 ok1 (n + 1 + cnts l) (byts l).flatten))
    (S : St T w W h d n B o v) (hM : InM w B (.mk k nn dd l) (.slice qd dd.length cd) (.slice ql l.length cl)) (ok : Prop) (hok : Hid (ok ↔ wok u (.mk k nn dd l) d n o.length)) :
    Calls Tryd.prog 45 #[.pointer (some ⟨W, 0, none⟩), itv k nn qd dd.length cd ql l.length cl] w (WrR w W h d n o v ok (n + cnt (.mk k nn dd l)) (byt (.mk k nn dd l))) := by
  have hll : l.length ≤ 1152921504606846976 := by rw [InM] at hM; exact hM.2.2.1
  have hin : ∀ w1, InM w1 B (.mk k nn dd l) (.slice qd dd.length cd) (.slice ql l.length cl) → (l = [] ∨ ∃ b off, ql = some ⟨b, off, none⟩ ∧ b < B ∧ InL w1 B l b off) := fun w1 h => by
    rw [InM] at h
    obtain ⟨-, -, -, -, q, c, e, h6⟩ := h
    obtain ⟨rfl, -⟩ : ql = q ∧ cl = c := by simpa using e
    exact h6
  have hnum : l.length / by' = (if k = 5 then l.length / 2 else l.length) := by
    rcases hk3 with ⟨rfl, rfl⟩ | ⟨rfl, rfl⟩ <;> simp
  have hb : byt (.mk k nn dd l) = hd k.toNat (l.length / by') ++ (byts l).flatten := by
    rcases hk3 with ⟨rfl, rfl⟩ | ⟨rfl, rfl⟩ <;> simp [byt]
  have hbl : l.length / by' ≤ l.length := Nat.div_le_self _ _
  have hown : own u k nn dd l.length = (nn == 0 && dd.length == 0 && l.length % by' == 0) := by
    rcases hk3 with ⟨rfl, rfl⟩ | ⟨rfl, rfl⟩ <;> simp [own, Nat.mod_one]
  rw [hb]
  refine item_g hU (.mk k nn dd l) 90 91 92 93 #[.pointer (some ⟨b, 0, none⟩)] #[.pointer (some ⟨b, 0, none⟩)] #[.pointer (some ⟨b + 1, 0, none⟩)] #[.pointer (some ⟨b + 2, 0, none⟩)] (nn == 0 && dd.length == 0 && l.length % by' == 0) (l.length / by') _ (byts l).flatten (fun ol => (k = 5 → rise [] (byts l) = true) ∧ wokS u l (d + 1) (n + 1) ol) w W h d n B o v qd dd.length cd ql l.length cl j hk (by show (k.toNat : Int) = k; omega) (by show k.toNat < 8; omega) (by omega) S hM ok el1 el2 el3 (fun w1 S1 _ => vLst_c by' hby k nn qd dd.length cd ql l.length cl b w1 (hB1 w1 S1.ks) (by omega)) (fun w1 S1 _ => nLst_c by' hby k nn qd dd.length cd ql l.length cl b w1 (hB1 w1 S1.ks) (by omega)) ?_ ?_
  · intro hbv w1 o1 v1 ho1 S1 hM1 ok1 hok1
    rw [show n + cnt (.mk k nn dd l) = n + 1 + cnts l by rw [cnt]; omega]
    refine hW3 ?_ w1 o1 v1 S1 (hin w1 hM1) ok1 hok1
    rw [Bool.and_eq_true, Bool.and_eq_true] at hbv
    simpa using hbv.2
  · show ok ↔ _
    rw [hok.out, wok_list u k nn dd l d n o.length (by omega), hown, ← hnum]
    constructor
    · rintro ⟨⟨a, b, c, e⟩, f, g⟩
      exact ⟨a, b, c, e, f, g⟩
    · rintro ⟨a, b, c, e, f, g⟩
      exact ⟨⟨a, b, c, e⟩, f, g⟩
end WI
end Go.Proofs.YtfkgfcggcfkkiaaDoor
namespace Go.Proofs.YtfkgfcggcfkkiaaDoor
open Go.RowKit Go.Sort Go.Deep
namespace WI
variable {T : World → Prop} {u : List UInt8 → Bool}
/-- THE PROGRAM'S writer: item, of any item. -/
theorem item_c (hU : UV T u) : ∀ (N : Nat) (i : Itm), cnt i ≤ N → ISp T u i
  | 0, i, hN => by have := cnt_pos i; omega
  | N + 1, .mk k nn dd l, hN => by
    have hI : ∀ i ∈ l, ISp T u i := fun i hi => item_c hU N i (by have := cnts_mem l i hi; rw [cnt] at hN; omega)
    intro w W h d n B o v qd dl cd ql m cl S hM ok hok
    have hM0 := hM
    rw [InM] at hM0
    obtain ⟨h1, h2, h3, h4, q, c, h5, -⟩ := hM0
    obtain ⟨hdc, hdcd⟩ : dl = dd.length ∧ dd.length ≤ cd := by
      obtain ⟨q', c', e, hcc, -⟩ := h4
      obtain ⟨-, e2, rfl⟩ : qd = q' ∧ dl = dd.length ∧ cd = c' := by simpa using e
      exact ⟨e2, hcc⟩
    subst hdc
    obtain rfl : m = l.length := (by simpa using h5 : ql = q ∧ m = l.length ∧ cl = c).2.1
    clear h5 h4 q c
    show Calls Tryd.prog _ #[_, itv k nn qd dd.length cd ql l.length cl] _ _
    by_cases hk0 : k = 0
    · subst hk0
      refine item_num hU (h + 1) 0 true rfl (Or.inl rfl) (by simp [own]) (fun w1 S1 => ?_) S hM ok hok
      rw [Bool.and_true]
      exact vNumA_c 0 nn qd dd.length cd ql l.length cl (h + 1) w1 S1.ks.c0
    by_cases hk1 : k = 1
    · subst hk1
      refine item_num hU (h + 3) 1 true rfl (Or.inr (Or.inl rfl)) (by simp [own]) (fun w1 S1 => ?_) S hM ok hok
      rw [Bool.and_true]
      exact vNumA_c 1 nn qd dd.length cd ql l.length cl (h + 3) w1 S1.ks.c1
    by_cases hk2 : k = 2
    · subst hk2
      refine item_dat hU (h + 5) 2 true rfl (Or.inl rfl) (by simp [own]) (fun w1 S1 hp => ?_) S hM ok hok
      rw [Bool.and_true]
      exact vDatA_c 2 nn qd dd.length cd ql l.length cl (h + 5) w1 S1.ks.c2
    by_cases hk3 : k = 3
    · subst hk3
      refine item_dat hU (h + 7) 3 (u dd) rfl (Or.inr rfl) (by simp [own]) (fun w1 S1 hp => ?_) S hM ok hok
      exact vDatU_c T u 3 nn qd dd.length cd ql l.length cl (h + 7) w1 S1.ks.c3 hU S1.tb dd hp hdcd h2
    by_cases hk4 : k = 4
    · subst hk4
      refine item_lst hU 1 (h + 9) 4 (Or.inl rfl) rfl (Or.inl ⟨rfl, rfl⟩) (fun w1 K => K.c4) (fun _ w1 o1 v1 S1 hin ok1 hok1 => ?_) S hM ok hok
      exact wLstI_c hU l (fun d n ol => wokS u l d n ol) (fun w W h d n B o v q c S hL ok hok => items_c hU l hI w W h d n B o v q c S hL h3 ok hok) w1 W h (d + 1) (n + 1) B o1 v1 4 nn qd dd.length cd ql cl (h + 9 + 1) S1 hin S1.ks.c4w ok1 (hidW (hok1.out.trans ⟨fun x => x.2, fun x => ⟨fun e => absurd e (by decide), x⟩⟩))
    by_cases hk5 : k = 5
    · subst hk5
      refine item_lst hU 2 (h + 13) 5 (Or.inr rfl) rfl (Or.inr ⟨rfl, rfl⟩) (fun w1 K => K.c5) (fun h2' w1 o1 v1 S1 hin ok1 hok1 => ?_) S hM ok hok
      exact wLstP_c hU l (fun d n ol => rise [] (byts l) = true ∧ wokS u l d n ol) (fun w W h d n B o v q c S hL ok hok => pairs_c hU l hI w W h d n B o v q c S hL h3 h2' ok hok) w1 W h (d + 1) (n + 1) B o1 v1 5 nn qd dd.length cd ql cl (h + 13 + 1) S1 hin S1.ks.c5w ok1 (hidW (hok1.out.trans ⟨fun x => ⟨x.1 rfl, x.2⟩, fun x => ⟨fun _ => x.1, x.2⟩⟩))
    by_cases hk7 : k = 7
    · subst hk7
      refine item_num hU (h + 17) 6 (nn == 20 || nn == 21 || nn == 22) rfl (Or.inr (Or.inr rfl)) (by simp [own]) (fun w1 S1 => ?_) S hM ok hok
      exact vNum7_c 7 nn qd dd.length cd ql l.length cl (h + 17) w1 S1.ks.c7
    · refine item_n (.mk k nn dd l) w W h d n B o v qd dd.length cd ql l.length cl _ _ ?_ S ok ?_
      · show kAt h k = none
        unfold kAt
        rw [if_neg hk0, if_neg hk1, if_neg hk2, if_neg hk3, if_neg hk4, if_neg hk5, if_neg hk7]
      · show ¬ ok
        intro h'
        have hw := (hok.out.1 h').1
        rw [shp, Bool.and_eq_true, Bool.and_eq_true] at hw
        have := own_kind u k nn dd l.length hw.1.1
        omega
end WI
end Go.Proofs.YtfkgfcggcfkkiaaDoor
namespace Go.Proofs.YtfkgfcggcfkkiaaDoor
open Go.RowKit Go.Sort Go.Deep
namespace WI
variable {T : World → Prop} {u : List UInt8 → Bool}
theorem own_base {B n size : Nat} {e : TypeId} {w : World} {v : Value} {xs : List Value} (h : w.ownsRow 0 e size v n xs) (hb : ∀ g, v.ownBlock = some g → B ≤ g) : w.ownsRow B e size v n xs := by
  rcases h with ⟨h0, h1 | ⟨g, cap, cur, h1, h2, h3⟩⟩
  · exact ⟨h0, Or.inl h1⟩
  · exact ⟨h0, Or.inr ⟨g, cap, cur, h1, hb g (by rw [h1]; rfl), h3⟩⟩
/-- What written gives. -/
def WtR (u : List UInt8 → Bool) (w : World) (i : Itm) (e : Ending) (w' : World) : Prop := Below w.heap.size w w' ∧ ((¬ wok u i 0 0 0 ∧ e = thrown) ∨ (wok u i 0 0 0 ∧ ∃ q m c, e = .returned (.slice q m c) ∧ w'.ownsRow w.heap.size 5 1 (.slice q m c) (byt i).length (Lib.byteCells (byt i))))
set_option maxHeartbeats 400000 in
theorem written_c (hU : UV T u) (i : Itm) (qd : Option Addr) (dl cd : Nat) (ql : Option Addr) (m cl : Nat) (w : World) (hT : T w) (hM : InM w w.heap.size i (.slice qd dl cd) (.slice ql m cl)) : Calls Tryd.prog 29 #[itv i.k i.n qd dl cd ql m cl] w (WtR u w i) := by
  unfold itv
  obtain ⟨w0, hw0⟩ : ∃ w0, Hid (w.alloc (.cells #[.int .i64 i.k, .int .u64 (i.n : Int), .slice qd dl cd, .slice ql m cl] 27) = w0) := ⟨_, rfl⟩
  have hs0 : w0.heap.size = w.heap.size + 1 := by rw [← hw0.out]; exact World.size_alloc _ _
  have hb0 : Below w.heap.size w w0 := by rw [← hw0.out]; exact alloc_below _ _
  have hr0 : w0.rangeAt w.heap.size 0 [.int .i64 i.k, .int .u64 (i.n : Int), .slice qd dl cd, .slice ql m cl] := by
    rw [← hw0.out]
    exact al_r w _ _ _ rfl
  have hK := kinds_c w0
  have H := hidW (And.intro hT (And.intro hM (And.intro hb0 (And.intro hr0 hs0))))
  clear hT hM hb0 hr0 hs0
  go_enter Tryd.func29, Tryd.ntmps29
  go_wp2_with fail
  rw [hw0.out]
  refine hK.mono ?_
  rintro e w1 ⟨v1, rfl, rfl, hb1, hs1, K1⟩
  obtain ⟨hT, hM, hb0, hr0, hs0⟩ := H.out
  have hz : ∀ j v, ([.int .i64 i.k, .int .u64 (i.n : Int), .slice qd dl cd, .slice ql m cl] : List Value)[j]? = some v → w1.cell? ⟨w.heap.size, j, none⟩ = some v := fun j v hj => by
    have := hr0 j v hj
    rw [Nat.zero_add] at this
    rw [hb1.cell (p := ⟨w.heap.size, j, none⟩) (World.block_lt_of_cell? _ _ this)]
    exact this
  have i0 := hz 0 _ rfl
  have i1 := hz 1 _ rfl
  have i2 := hz 2 _ rfl
  have i3 := hz 3 _ rfl
  have hlt := World.block_lt_of_cell? _ _ i0
  have hb2 := alloc_below w1 (.cells #[.map (some w0.heap.size), .int .i64 0, .int .i64 0, .slice none 0 0] 90)
  have hbT : Below w.heap.size w (w1.alloc (.cells #[.map (some w0.heap.size), .int .i64 0, .int .i64 0, .slice none 0 0] 90)) := (hb0.trans (hb1.mono (by omega))).trans (hb2.mono (by omega))
  have hS : St T (w1.alloc (.cells #[.map (some w0.heap.size), .int .i64 0, .int .i64 0, .slice none 0 0] 90)) w1.heap.size w0.heap.size 0 0 w.heap.size [] (.slice none 0 0) := by
    have h2 := hU.2.1 w hT
    refine ⟨K1.at hb2.size (fun k h1 h2 => hb2.block k (by have := K1.lt; omega)), ⟨⟨by rw [World.size_alloc]; omega, al_r w1 [.map (some w0.heap.size), .int .i64 0, .int .i64 0, .slice none 0 0] _ _ rfl, fun j hj => ?_⟩, ⟨rfl, Or.inl ⟨rfl, rfl⟩⟩, by simp [Value.ownBlock]⟩, hU.1 w _ hT (fun k hk => hbT.block k (by omega)), fun k hk => ?_, by rw [World.size_alloc]; omega, by omega, by omega, by simp⟩
    · rw [Nat.zero_add]
      refine ⟨?_, al_z w1 _ _ _ _ rfl⟩
      rw [al_c w1 _ _ _ j _ rfl (Array.getElem?_eq_getElem (by have h4 : j < 4 := hj; simpa using h4))]
      rfl
    · rcases hk with rfl | hk
      · exact ⟨by omega, by omega, by omega⟩
      · cases hk
  have hc := item_c hU _ i (Nat.le_refl _) _ _ _ 0 0 _ _ _ qd dl cd ql m cl hS (InM.at (fun k hk => hbT.block k hk) i _ _ hM) _ (hidW Iff.rfl)
  have HS := hidW (And.intro hS hbT)
  clear hS hb1 hb0 hr0 hM hT K1 hz hs0 hs1 hb2 hbT
  go_wp2_with fail
  refine hc.mono ?_
  rintro e w3 ⟨hF, h3⟩
  have hB3 : Hid (Below w.heap.size w w3) := HS.out.2.trans (hF.below (fun k hk => (HS.out.1.sep k hk).1) HS.out.1.hB)
  rcases h3 with ⟨ok3, rfl, v3, hW3, hn3⟩ | ⟨ok3, rfl⟩
  · have c3 := hW3.row.cell 3 _ rfl
    have hltW := hW3.row.1
    obtain ⟨q3, cc3, rfl⟩ := slice_own hW3.own
    have KR : Hid (WtR u w i (.returned (.slice q3 ([] ++ byt i).length cc3)) w3) := by
      refine ⟨hB3.out, Or.inr ⟨ok3, q3, _, cc3, rfl, ?_⟩⟩
      have := own_base (B := w.heap.size) hW3.own (fun g hg => by
        rcases hn3.1 with e | ⟨g', e, hg'⟩
        · rw [e] at hg; cases hg
        · rw [e] at hg
          obtain rfl := Option.some.inj hg
          have := HS.out.1.hB
          omega)
      exact this
    clear hF hW3 hn3 hc HS hB3
    go_wp2
    go_ret
    exact KR.out
  · have KR : Hid (WtR u w i thrown w3) := ⟨hB3.out, Or.inl ⟨ok3, rfl⟩⟩
    clear hF hc HS hB3 ok3
    simp only [thrown, Exit.inBlock, Exit.then, bodyPost]
    exact ⟨trivial, KR.out⟩
end WI
end Go.Proofs.YtfkgfcggcfkkiaaDoor
namespace Go.Proofs.YtfkgfcggcfkkiaaDoor
open Go.RowKit Go.Sort Go.Deep
namespace WI
variable {T : World → Prop} {u : List UInt8 → Bool}
set_option maxHeartbeats 400000 in
theorem print1_c (hU : UV T u) (i : Itm) (qd : Option Addr) (dl cd : Nat) (ql : Option Addr) (m cl bx : Nat) (w : World) (hT : T w) (hM : InM w w.heap.size i (.slice qd dl cd) (.slice ql m cl)) (hr : w.rangeAt bx 0 [.int .i64 i.k, .int .u64 (i.n : Int), .slice qd dl cd, .slice ql m cl]) : Calls Tryd.prog 28 #[.pointer (some ⟨bx, 0, none⟩)] w (WtR u w i) := by
  have hz : ∀ j v, ([.int .i64 i.k, .int .u64 (i.n : Int), .slice qd dl cd, .slice ql m cl] : List Value)[j]? = some v → w.cell? ⟨bx, j, none⟩ = some v := fun j v hj => by
    have := hr j v hj
    rw [Nat.zero_add] at this
    exact this
  have i0 := hz 0 _ rfl
  have i1 := hz 1 _ rfl
  have i2 := hz 2 _ rfl
  have i3 := hz 3 _ rfl
  have hlt := World.block_lt_of_cell? _ _ i0
  have hc := written_c hU i qd dl cd ql m cl w hT hM
  clear hT hM hr hz
  go_enter Tryd.func28, Tryd.ntmps28
  go_wp2_with fail
  refine hc.mono ?_
  rintro e w1 h1
  have KR := hidW h1
  rcases h1.2 with ⟨-, rfl⟩ | ⟨-, q, m, c, rfl, -⟩
  · clear h1 hc
    simp only [thrown, Exit.inBlock, Exit.then, bodyPost]
    exact ⟨trivial, KR.out⟩
  · clear h1 hc
    go_wp2
    go_ret
    exact KR.out
/-- What Print answers. -/
def PrR (u : List UInt8 → Bool) (w : World) (i : Itm) (e : Value) (w' : World) : Prop := Below w.heap.size w w' ∧ ((¬ wok u i 0 0 0 ∧ e = .tuple #[.slice none 0 0, .int .i64 2]) ∨ (wok u i 0 0 0 ∧ ∃ q m c, e = .tuple #[.slice q m c, .int .i64 0] ∧ w'.ownsRow w.heap.size 5 1 (.slice q m c) (byt i).length (Lib.byteCells (byt i))))
theorem own_set {B n : Nat} {w2 : World} {v : Value} {xs : List Value} {k : Nat} (x : Value) (h : w2.ownsRow B 5 1 v n xs) (hk : k < B) : (w2.setCell ⟨k, 0, none⟩ x).ownsRow B 5 1 v n xs := own_at h (fun g hg => blk_other _ _ _ _ (by have := (own_lt h g hg).1; show g ≠ k; omega))
theorem own_up {B B' n : Nat} {w2 : World} {v : Value} {xs : List Value} (h : w2.ownsRow B' 5 1 v n xs) (hB : B ≤ B') : w2.ownsRow B 5 1 v n xs := by
  rcases h with ⟨h0, h1 | ⟨g, cap, cur, h1, h2, h3⟩⟩
  · exact ⟨h0, Or.inl h1⟩
  · exact ⟨h0, Or.inr ⟨g, cap, cur, h1, Nat.le_trans hB h2, h3⟩⟩
theorem PBb.mono {w : World} {B B' : Nat} {v : Value} {x : List UInt8} (hB : B ≤ B') (h : PBb w B v x) : PBb w B' v x := by
  obtain ⟨q, c, h1, hc, h2 | ⟨b, o, h2, h4, h3⟩⟩ := h
  · exact ⟨q, c, h1, hc, Or.inl h2⟩
  · exact ⟨q, c, h1, hc, Or.inr ⟨b, o, h2, Nat.lt_of_lt_of_le h4 hB, h3⟩⟩
mutual
theorem InM.mono {w : World} {B B' : Nat} (hB : B ≤ B') : ∀ (i : Itm) (vd vl : Value), InM w B i vd vl → InM w B' i vd vl
  | .mk k n d l, vd, vl, h => by
    rw [InM] at h ⊢
    obtain ⟨h1, h2, h3, h4, q, c, h5, h6⟩ := h
    refine ⟨h1, h2, h3, h4.mono hB, q, c, h5, ?_⟩
    rcases h6 with h6 | ⟨b, o, h7, h8, h9⟩
    · exact Or.inl h6
    · exact Or.inr ⟨b, o, h7, Nat.lt_of_lt_of_le h8 hB, InL.mono hB l b o h9⟩
theorem InL.mono {w : World} {B B' : Nat} (hB : B ≤ B') : ∀ (l : List Itm) (b o : Nat), InL w B l b o → InL w B' l b o
  | [], _, _, _ => by rw [InL]; trivial
  | i :: r, b, o, h => by
    rw [InL] at h ⊢
    obtain ⟨⟨vd, vl, hc, h2⟩, h3⟩ := h
    exact ⟨⟨vd, vl, hc, InM.mono hB i vd vl h2⟩, InL.mono hB r b (o + 4) h3⟩
end
theorem InM.up {w w' : World} {i : Itm} {vd vl : Value} (hb : Below w.heap.size w w') (h : InM w w.heap.size i vd vl) : InM w' w'.heap.size i vd vl := InM.mono hb.size i vd vl (InM.at (fun k hk => hb.block k hk) i vd vl h)
set_option maxHeartbeats 1000000 in
theorem caughtP_c (hU : UV T u) (i : Itm) (qd : Option Addr) (dl cd : Nat) (ql : Option Addr) (m cl bx : Nat) (w : World) (hT : T w) (hM : InM w w.heap.size i (.slice qd dl cd) (.slice ql m cl)) (hr : w.rangeAt bx 0 [.int .i64 i.k, .int .u64 (i.n : Int), .slice qd dl cd, .slice ql m cl]) : Calls Tryd.prog 27 #[.func (.func 28) #[] #[.pointer (some ⟨bx, 0, none⟩)]] w (RetW (PrR u w i)) := by
  have hmf : ∀ (fn : Fn) (first cap : Array Value) (w : World), (Instr.makeFunc fn first cap).run Tryd.prog w = .ok (.func fn first cap) w := fun _ _ _ _ => rfl
  have hb0 : Below w.heap.size w (w.alloc (.cells #[.int .i64 0] 28)) := alloc_below _ _
  have h2 := hU.2.1 w hT
  have hF := print1_c hU i qd dl cd ql m cl bx (w.alloc (.cells #[.int .i64 0] 28)) (hU.1 w _ hT (fun k hk => hb0.block k (by omega))) (hM.up hb0) (fun j v hj => by
    have := hr j v hj
    rw [hb0.cell (p := ⟨bx, 0 + j, none⟩) (World.block_lt_of_cell? _ _ this)]
    exact this)
  have hs1 : (w.alloc (.cells #[.int .i64 0] 28)).heap.size = w.heap.size + 1 := World.size_alloc _ _
  have c0 : (w.alloc (.cells #[.int .i64 0] 28)).cell? ⟨w.heap.size, 0, none⟩ = some (.int .i64 0) := by simp
  have z0 : (w.alloc (.cells #[.int .i64 0] 28)).frozen? ⟨w.heap.size, 0, none⟩ = false := by simp
  clear hT hM hr h2
  go_enter_defers Tryd.func27, Tryd.ntmps27
  go_wp2_with fail
  refine hF.mono ?_
  rintro e w2 ⟨hb, hw⟩
  have hlt : w.heap.size < (w.alloc (.cells #[.int .i64 0] 28)).heap.size := by omega
  have c2 : w2.cell? ⟨w.heap.size, 0, none⟩ = some (.int .i64 0) := by rw [hb.cell (p := ⟨w.heap.size, 0, none⟩) hlt]; exact c0
  have z2 : w2.frozen? ⟨w.heap.size, 0, none⟩ = false := by rw [World.frozen?_of_block (a := ⟨w.heap.size, 0, none⟩) (hb.block w.heap.size hlt)]; exact z0
  rcases hw with ⟨hn, rfl⟩ | ⟨hn, q, mm, c, rfl, how⟩
  · have KF : Hid (PrR u w i (.tuple #[.slice none 0 0, .int .i64 2]) (w2.setCell ⟨w.heap.size, 0, none⟩ (.int .i64 2))) := ⟨(hb0.trans (hb.mono (by omega))).setCell (p := ⟨w.heap.size, 0, none⟩) (Nat.le_refl _) _, Or.inl ⟨hn, rfl⟩⟩
    have c3 : (w2.setCell ⟨w.heap.size, 0, none⟩ (.int .i64 2)).cell? ⟨w.heap.size, 0, none⟩ = some (.int .i64 2) := World.cell?_setCell_same _ _ _ c2
    clear hF hb hn hb0 c0 z0
    show bodyPostD _ _ _ _ _ _
    refine leaves_cons (f := 44) (args := #[.pointer (some ⟨w.heap.size, 0, none⟩)]) (by simp) (by simp [go_sem]) ?_
    refine (catch_p ⟨w.heap.size, 0, none⟩ 0 28 _ [] _ c2 z2).mono ?_
    rintro e u' w'' ⟨rfl, rfl, rfl⟩
    simp [Leaves, settle, results, Tryd.results27, go_sem, c3]
    exact ⟨_, rfl, KF.out⟩
  · have KF : Hid (PrR u w i (.tuple #[.slice q mm c, .int .i64 0]) (w2.setCell ⟨w.heap.size, 0, none⟩ (.int .i64 0))) := ⟨(hb0.trans (hb.mono (by omega))).setCell (p := ⟨w.heap.size, 0, none⟩) (Nat.le_refl _) _, Or.inr ⟨hn, q, mm, c, rfl, own_up (own_set _ how hlt) (by omega)⟩⟩
    have c3 : (w2.setCell ⟨w.heap.size, 0, none⟩ (.int .i64 0)).cell? ⟨w.heap.size, 0, none⟩ = some (.int .i64 0) := World.cell?_setCell_same _ _ _ c2
    clear hF hb hn hb0 c0 z0 how
    go_wp2
    refine leaves_cons (f := 44) (args := #[.pointer (some ⟨w.heap.size, 0, none⟩)]) (by simp) (by simp [go_sem]) ?_
    refine (catch_i ⟨w.heap.size, 0, none⟩ _).mono ?_
    rintro e u' w'' ⟨rfl, rfl, rfl⟩
    simp [Leaves, settle, results, Tryd.results27, go_sem, c3]
    exact ⟨_, rfl, KF.out⟩
/-- THE PROGRAM'S Print, of any item. -/
theorem Print_c (hU : UV T u) (i : Itm) (qd : Option Addr) (dl cd : Nat) (ql : Option Addr) (m cl : Nat) (w : World) (hT : T w) (hM : InM w w.heap.size i (.slice qd dl cd) (.slice ql m cl)) : Calls Tryd.prog 15 #[itv i.k i.n qd dl cd ql m cl] w (RetW (PrR u w i)) := by
  have hmf : ∀ (fn : Fn) (first cap : Array Value) (w : World), (Instr.makeFunc fn first cap).run Tryd.prog w = .ok (.func fn first cap) w := fun _ _ _ _ => rfl
  have hb0 := alloc_below w (.cells #[.int .i64 i.k, .int .u64 (i.n : Int), .slice qd dl cd, .slice ql m cl] 27)
  have h2 := hU.2.1 w hT
  have hC := caughtP_c hU i qd dl cd ql m cl w.heap.size _ (hU.1 w _ hT (fun k hk => hb0.block k (by omega))) (hM.up hb0) (al_r w [.int .i64 i.k, .int .u64 (i.n : Int), .slice qd dl cd, .slice ql m cl] 27 _ rfl)
  clear hT hM h2
  unfold itv
  go_enter Tryd.func15, Tryd.ntmps15
  go_wp2_with fail
  refine hC.mono ?_
  rintro e w2 ⟨v2, rfl, hb, h⟩
  have hs1 := World.size_alloc w (.cells #[.int .i64 i.k, .int .u64 (i.n : Int), .slice qd dl cd, .slice ql m cl] 27)
  rcases h with ⟨hd, rfl⟩ | ⟨hd, q, mm, c, rfl, how⟩
  · have KF : Hid (PrR u w i (.tuple #[.slice none 0 0, .int .i64 2]) w2) := ⟨hb0.trans (hb.mono (by omega)), Or.inl ⟨hd, rfl⟩⟩
    clear hC hb hd hb0 hs1
    go_wp2
    go_ret2
    exact ⟨_, rfl, KF.out⟩
  · have KF : Hid (PrR u w i (.tuple #[.slice q mm c, .int .i64 0]) w2) := ⟨hb0.trans (hb.mono (by omega)), Or.inr ⟨hd, q, mm, c, rfl, own_up how (by omega)⟩⟩
    clear hC hb hd hb0 how hs1
    go_wp2
    go_ret2
    exact ⟨_, rfl, KF.out⟩
end WI
end Go.Proofs.YtfkgfcggcfkkiaaDoor
namespace Go.Proofs.YtfkgfcggcfkkiaaDoor
open Go.RowKit Go.Sort Go.Deep
namespace WI
/-- The reader's rest: bytes, not in the reader's own block. -/
def PBq (w : World) (R : Nat) (q : Option Addr) (m c : Nat) (x : List UInt8) : Prop := m = x.length ∧ m ≤ c ∧ ((q = none ∧ c = 0) ∨ ∃ b o, q = some ⟨b, o, none⟩ ∧ b < R ∧ b < w.heap.size ∧ ∀ j u, x[j]? = some u → w.cell? ⟨b, o + j, none⟩ = some (.int .u8 (u.toNat : Int)))
theorem PBq.set {w : World} {R : Nat} {q : Option Addr} {m c : Nat} {x : List UInt8} (h : PBq w R q m c x) (j : Nat) (v : Value) : PBq (w.setCell ⟨R, j, none⟩ v) R q m c x := by
  obtain ⟨h1, h2, h3 | ⟨b, o, h3, h4, h5, h6⟩⟩ := h
  · exact ⟨h1, h2, Or.inl h3⟩
  · have e := blk_other w ⟨R, j, none⟩ v b (Nat.ne_of_lt h4)
    refine ⟨h1, h2, Or.inr ⟨b, o, h3, h4, ?_, fun j u hj => ?_⟩⟩
    · rw [World.size_setCell]; exact h5
    · rw [World.cell?_of_block (a := ⟨b, o + j, none⟩) e]; exact h6 j u hj
theorem sB_hi (b o n c k : Nat) (hk : k ≤ c) (w : World) : (Instr.sliceAt 22 (.slice (some ⟨b, o, none⟩) n c) none (some (.int .u64 (k : Int))) none).run Tryd.prog w = .ok (.slice (some ⟨b, o, none⟩) k c) w := by
  have h1 : (k : Int) ≤ c := by omega
  go_simp
theorem sB_lo (b o n c k : Nat) (hk : k ≤ n) (hc : n ≤ c) : ∃ o', (∀ w : World, (Instr.sliceAt 22 (.slice (some ⟨b, o, none⟩) n c) (some (.int .u64 (k : Int))) none none).run Tryd.prog w = .ok (.slice (some ⟨b, o', none⟩) (n - k) (c - k)) w) ∧ (k < n → o' = o + k) := by
  have h1 : ¬ (k : Int) < 0 := by omega
  have h2 : (k : Int) ≤ (n : Int) := by omega
  by_cases h : k = c
  · obtain rfl : n = k := by omega
    subst h
    exact ⟨o, fun w => by go_simp, fun h => by omega⟩
  · have h3 : ¬ c = k := fun e => h e.symm
    have e := addS0 b o (1 * k)
    rw [Nat.one_mul] at e
    exact ⟨o + k, fun w => by go_simp, fun _ => rfl⟩
/-- The rest, cut in two. -/
theorem PBq.cut {w : World} {R : Nat} {q : Option Addr} {m c : Nat} {x : List UInt8} (h : PBq w R q m c x) (k : Nat) (hk : k ≤ m) :
    ∃ q', (∀ X : World, (Instr.sliceAt 22 (.slice q m c) none (some (.int .u64 (k : Int))) none).run Tryd.prog X = .ok (.slice q k c) X) ∧ (∀ X : World, (Instr.sliceAt 22 (.slice q m c) (some (.int .u64 (k : Int))) none none).run Tryd.prog X = .ok (.slice q' (m - k) (c - k)) X) ∧ PBq w R q k c (x.take k) ∧ PBq w R q' (m - k) (c - k) (x.drop k) := by
  obtain ⟨h1, h2, ⟨rfl, rfl⟩ | ⟨b, o, rfl, h4, h5, h6⟩⟩ := h
  · obtain rfl : m = 0 := by omega
    obtain rfl : k = 0 := by omega
    obtain rfl : x = [] := List.length_eq_zero_iff.1 h1.symm
    exact ⟨none, fun X => by kernel_rfl, fun X => by kernel_rfl, ⟨rfl, Nat.le_refl _, Or.inl ⟨rfl, rfl⟩⟩, ⟨rfl, Nat.le_refl _, Or.inl ⟨rfl, rfl⟩⟩⟩
  · obtain ⟨o', h7, h8⟩ := sB_lo b o m c k hk h2
    refine ⟨some ⟨b, o', none⟩, fun X => sB_hi b o m c k (by omega) X, h7, ⟨by rw [List.length_take]; omega, by omega, Or.inr ⟨b, o, rfl, h4, h5, fun j u hj => ?_⟩⟩, ⟨by rw [List.length_drop, h1], by omega, Or.inr ⟨b, o', rfl, h4, h5, fun j u hj => ?_⟩⟩⟩
    · rw [List.getElem?_take] at hj
      split at hj
      · exact h6 j u hj
      · cases hj
    · have hlt := (List.getElem?_eq_some_iff.1 hj).1
      rw [List.length_drop] at hlt
      rw [List.getElem?_drop] at hj
      rw [h8 (by omega), Nat.add_assoc]
      exact h6 _ u hj
/-- What the reader's bytes does. -/
def RbR (w : World) (R h d n : Nat) (q : Option Addr) (m c : Nat) (x : List UInt8) (k : Nat) (e : Ending) (w' : World) : Prop :=
  (k ≤ x.length ∧ ∃ q', e = .returned (.slice q k c) ∧ w' = w.setCell ⟨R, 3, none⟩ (.slice q' (m - k) (c - k)) ∧ RowS w' R (wkc h d n (.slice q' (m - k) (c - k))) ∧ PBq w' R q k c (x.take k) ∧ PBq w' R q' (m - k) (c - k) (x.drop k)) ∨ (¬ k ≤ x.length ∧ e = thrown ∧ w' = w)
set_option maxHeartbeats 1000000 in
set_option maxRecDepth 20000 in
theorem rbytes_c (w : World) (R h d n : Nat) (q : Option Addr) (m c : Nat) (x : List UInt8) (k : Nat) (hk : k < 18446744073709551616) (hm : m ≤ 1099511627776) (hR : RowS w R (wkc h d n (.slice q m c))) (hP : PBq w R q m c x) :
    Calls Tryd.prog 89 #[.pointer (some ⟨R, 0, none⟩), .int .u64 (k : Int)] w (RbR w R h d n q m c x k) := by
  have c3 := hR.cell 3 _ rfl
  have f3 := hR.free 3 (Nat.lt_succ_self 3)
  have hlt := hR.1
  have hml : m = x.length := hP.1
  by_cases hkm : k ≤ m
  · obtain ⟨q', hhi, hlo, p1, p2⟩ := hP.cut k hkm
    have HQ : Hid (RbR w R h d n q m c x k (.returned (.slice q k c)) (w.setCell ⟨R, 3, none⟩ (.slice q' (m - k) (c - k)))) := Or.inl ⟨by omega, q', rfl, rfl, hR.set 3 _ (Nat.lt_succ_self 3), p1.set _ _, p2.set _ _⟩
    have hz : (k : Int) ≤ (m : Int) := by omega
    clear p1 p2 hP hR hml
    go_enter Tryd.func89, Tryd.ntmps89
    go_wp2_with fail
    refine (must_y _).mono ?_
    rintro e w1 ⟨rfl, rfl⟩
    go_wp2
    go_ret
    exact HQ.out
  · have HQ : Hid (RbR w R h d n q m c x k thrown w) := Or.inr ⟨by omega, rfl, rfl⟩
    have hz : ¬ (k : Int) ≤ (m : Int) := by omega
    clear hP hR hml
    go_enter Tryd.func89, Tryd.ntmps89
    go_wp2_with fail
    refine (must_n _).mono ?_
    rintro e w1 ⟨rfl, rfl⟩
    simp only [Exit.inBlock, Exit.then, bodyPost]
    exact ⟨trivial, HQ.out⟩
end WI
end Go.Proofs.YtfkgfcggcfkkiaaDoor
namespace Go.Proofs.YtfkgfcggcfkkiaaDoor
namespace WI
/-- The number of bytes, the highest first. -/
def ofBE : List UInt8 → Nat → Nat
  | [], a => a
  | x :: r, a => ofBE r (a * 256 + x.toNat)
theorem ofBE_beN (n : Nat) : ∀ s a, ofBE (beN s n) a = a * 256 ^ s + n % 256 ^ s
  | 0, a => by simp [beN, ofBE, Nat.mod_one]
  | s + 1, a => by
    rw [beN, ofBE, ofBE_beN n s]
    have h1 : (UInt8.ofNat (n / 256 ^ s)).toNat = n / 256 ^ s % 256 := by simp
    rw [h1, Nat.pow_succ]
    have h2 : n % (256 ^ s * 256) = n / 256 ^ s % 256 * 256 ^ s + n % 256 ^ s := by
      rw [Nat.mod_mul, Nat.mul_comm (256 ^ s) (n / 256 ^ s % 256)]; omega
    rw [h2, Nat.add_mul, Nat.mul_comm (256 ^ s) 256, ← Nat.mul_assoc]
    omega
/-- A head is read: its kind, its number, what is left. -/
def rdHead : List UInt8 → Option (Nat × Nat × List UInt8)
  | [] => none
  | f :: r =>
    if f.toNat % 32 < 24 then some (f.toNat / 32, f.toNat % 32, r)
    else if 27 < f.toNat % 32 then none
    else if r.length < 2 ^ (f.toNat % 32 - 24) then none
    else if hd (f.toNat / 32) (ofBE (r.take (2 ^ (f.toNat % 32 - 24))) 0) = f :: r.take (2 ^ (f.toNat % 32 - 24)) then some (f.toNat / 32, ofBE (r.take (2 ^ (f.toNat % 32 - 24))) 0, r.drop (2 ^ (f.toNat % 32 - 24))) else none
theorem hsz_hlo (n : Nat) : hsz n = 2 ^ (hlo n - 24) ∧ 24 ≤ hlo n ∧ hlo n ≤ 27 := by
  unfold hsz hlo
  split
  · decide
  · split
    · decide
    · split <;> decide
theorem hsz_lt (n : Nat) (h : n < 18446744073709551616) : n < 256 ^ hsz n := by
  unfold hsz
  split
  · omega
  · split
    · omega
    · split <;> omega
theorem rdHead_hd (k n : Nat) (hk : k < 8) (hn : n < 18446744073709551616) (r : List UInt8) : rdHead (hd k n ++ r) = some (k, n, r) := by
  by_cases h : n < 24
  · have e : (UInt8.ofNat (32 * k + n)).toNat = 32 * k + n := by simp; omega
    rw [hd, if_pos h, List.singleton_append, rdHead, e, if_pos (by omega)]
    rw [show (32 * k + n) / 32 = k by omega, show (32 * k + n) % 32 = n by omega]
  · obtain ⟨h1, h2, h3⟩ := hsz_hlo n
    have e : (UInt8.ofNat (32 * k + hlo n)).toNat = 32 * k + hlo n := by simp; omega
    have hd' : hd k n = UInt8.ofNat (32 * k + hlo n) :: beN (hsz n) n := by rw [hd, if_neg h]
    rw [hd', List.cons_append, rdHead, e, show (32 * k + hlo n) / 32 = k by omega, show (32 * k + hlo n) % 32 = hlo n by omega, ← h1, if_neg (by omega), if_neg (by omega), if_neg (by rw [List.length_append, beN_length]; omega)]
    have e1 : (beN (hsz n) n ++ r).take (hsz n) = beN (hsz n) n := by rw [List.take_append_of_le_length (by rw [beN_length]; omega), List.take_of_length_le (by rw [beN_length]; omega)]
    have e2 : (beN (hsz n) n ++ r).drop (hsz n) = r := by rw [List.drop_append_of_le_length (by rw [beN_length]; omega), List.drop_of_length_le (by rw [beN_length]; omega), List.nil_append]
    rw [e1, e2, ofBE_beN, Nat.zero_mul, Nat.zero_add, Nat.mod_eq_of_lt (hsz_lt n hn), if_pos hd']
theorem ofBE_lt : ∀ (l : List UInt8) (a : Nat), ofBE l a < (a + 1) * 256 ^ l.length
  | [], a => by simp [ofBE]
  | x :: r, a => by
    have h := ofBE_lt r (a * 256 + x.toNat)
    have hx := x.toNat_lt
    rw [ofBE, List.length_cons, Nat.pow_succ]
    have h1 : (a * 256 + x.toNat + 1) * 256 ^ r.length ≤ ((a + 1) * 256) * 256 ^ r.length := Nat.mul_le_mul_right _ (by omega)
    rw [show (a + 1) * (256 ^ r.length * 256) = ((a + 1) * 256) * 256 ^ r.length by rw [Nat.mul_assoc, Nat.mul_comm (256 ^ r.length) 256]]
    omega
theorem rdHead_some (b r : List UInt8) (k n : Nat) (h : rdHead b = some (k, n, r)) : b = hd k n ++ r ∧ k < 8 ∧ n < 18446744073709551616 := by
  cases b with
  | nil => cases h
  | cons f t =>
    have hf := f.toNat_lt
    rw [rdHead] at h
    split at h
    · rename_i h1
      simp only [Option.some.injEq, Prod.mk.injEq] at h
      obtain ⟨rfl, rfl, rfl⟩ := h
      refine ⟨?_, by omega, by omega⟩
      rw [hd, if_pos h1, show 32 * (f.toNat / 32) + f.toNat % 32 = f.toNat by omega]
      simp
    · split at h
      · cases h
      · split at h
        · cases h
        · split at h
          · rename_i h1 h2 h3 h4
            simp only [Option.some.injEq, Prod.mk.injEq] at h
            obtain ⟨rfl, rfl, rfl⟩ := h
            refine ⟨?_, by omega, ?_⟩
            · rw [h4, List.cons_append, List.take_append_drop]
            · have hl := ofBE_lt (t.take (2 ^ (f.toNat % 32 - 24))) 0
              rw [List.length_take, Nat.min_eq_left (by omega)] at hl
              have hm : 2 ^ (f.toNat % 32 - 24) ≤ 8 := Nat.pow_le_pow_right (n := 2) (by decide) (show f.toNat % 32 - 24 ≤ 3 by omega)
              have hp : 256 ^ 2 ^ (f.toNat % 32 - 24) ≤ 256 ^ 8 := Nat.pow_le_pow_right (by decide) hm
              have : (256 : Nat) ^ 8 = 18446744073709551616 := by decide
              omega
          · cases h
section
variable (u : List UInt8 → Bool)
/-- So many items are read, one behind the other. -/
def rdN (rd : Nat → List UInt8 → Option (Itm × Nat × List UInt8)) : Nat → Nat → List UInt8 → Option (List Itm × Nat × List UInt8)
  | 0, c, b => some ([], c, b)
  | n + 1, c, b => match rd c b with
    | none => none
    | some (i, c', b') => match rdN rd n c' b' with
      | none => none
      | some (l, c'', b'') => some (i :: l, c'', b'')
/-- An item is read: as deep as that, behind so many. -/
def rd : Nat → Nat → List UInt8 → Option (Itm × Nat × List UInt8)
  | 0, _, _ => none
  | f + 1, c, b => match rdHead b with
    | none => none
    | some (k, n, r) =>
      if 4096 < c + 1 then none
      else if k = 0 ∨ k = 1 ∨ k = 7 then (if own u k n [] 0 then some (.mk k n [] [], c + 1, r) else none)
      else if k = 2 ∨ k = 3 then (if n ≤ r.length then (if own u k 0 (r.take n) 0 then some (.mk k 0 (r.take n) [], c + 1, r.drop n) else none) else none)
      else if k = 4 then (match rdN (rd f) n (c + 1) r with
        | none => none
        | some (l, c', r') => some (.mk 4 0 [] l, c', r'))
      else if k = 5 then (match rdN (rd f) (2 * n) (c + 1) r with
        | none => none
        | some (l, c', r') => if rise [] (byts l) then some (.mk 5 0 [] l, c', r') else none)
      else none
end
end WI
end Go.Proofs.YtfkgfcggcfkkiaaDoor
