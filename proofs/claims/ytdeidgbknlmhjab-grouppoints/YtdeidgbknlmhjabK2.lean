import Derived.OrdersHeld
import Derived.Deep.RegionHeld
namespace Go.Proofs.Ytdeidgbknlmhjab
open Go

section
variable {P : Program} {ops : Array Oper} {Q : Exit → Act → World → Prop} {S : World → Prop} {p : Nat}

/-- Till the last operation, number p, has come up, S holds behind every operation; of the world behind p itself nothing is asked. -/
def anyTill (P : Program) (ops : Array Oper) (Q : Exit → Act → World → Prop) (S : World → Prop) (p : Nat) : Nat → Array Bool → Act → World → Prop
  | 0, listed, a, w => Region.ready .any ops listed = [] ∧ Q .normal a w
  | fuel + 1, listed, a, w => (Region.ready .any ops listed = [] → Q .normal a w) ∧
    ∀ i ∈ Region.ready .any ops listed, wpOp P ops Q i (fun a' w' => ((listed.setIfInBounds i true).getD p false = false → S w') ∧ anyTill P ops Q S p fuel (listed.setIfInBounds i true) a' w') a w

theorem anyTill.any : ∀ (fuel : Nat) (listed : Array Bool) (a : Act) (w : World), anyTill P ops Q S p fuel listed a w → wpAny P .any ops Q fuel listed a w
  | 0, _, _, _, h => h
  | fuel + 1, _, _, _, h => ⟨h.1, fun i hi => wpOp_mono (fun a' w' h' => anyTill.any fuel _ a' w' h'.2) (h.2 i hi)⟩

/-- An operation for which p waits, and which yields its value wherever S holds, may be taken first. -/
theorem anyTill.first {i : Nat} {oi op : Oper} {v : Value} (hi : ops[i]? = some oi) (hp : ops[p]? = some op) (hpi : ∃ e ∈ op.after, Region.binds .any e = true ∧ e.on = i) (hne : p ≠ i)
    (hsel : ∀ (j : Nat) (o : Oper) cs b, ops[j]? = some o → o.op ≠ .select cs b) (hQ : ∀ c a w, Q (.panic c) (a.put oi.dst v) w → Q (.panic c) a w) :
    ∀ (fuel : Nat) (listed : Array Bool) (a : Act) (w : World), listed.getD p false = false →
      (∀ j oj, ops[j]? = some oj → j ≠ i → listed.getD j true = false → (∀ e ∈ oj.after, Region.binds .any e = true → e.on ≠ i) → oi.apart ops oj = true) →
      i ∈ Region.ready .any ops listed → YieldsIf P ops S oi v a → S w →
      anyTill P ops Q S p fuel (listed.setIfInBounds i true) (a.put oi.dst v) w → anyTill P ops Q S p (fuel + 1) listed a w := by
  intro fuel
  induction fuel with
  | zero =>
    intro listed a w _ _ hr hy hS H
    refine ⟨fun h => absurd hr (by rw [h]; exact List.not_mem_nil), fun j hj => ?_⟩
    by_cases hji : j = i
    · subst hji; exact hy.wpOp hi hS ⟨fun _ => hS, H⟩
    · exact absurd (ready_mono hj hji) (by rw [H.1]; exact List.not_mem_nil)
  | succ fuel ih =>
    intro listed a w hl hfree hr hy hS H
    refine ⟨fun h => absurd hr (by rw [h]; exact List.not_mem_nil), fun j hj => ?_⟩
    by_cases hji : j = i
    · subst hji; exact hy.wpOp hi hS ⟨fun _ => hS, H⟩
    · obtain ⟨hjun, oj, hoj, hall⟩ := mem_ready.1 hj
      have hnot : ∀ e ∈ oj.after, Region.binds .any e = true → e.on ≠ i := fun e he hb heq => by
        have h1 := hall e he hb
        have h0 := (mem_ready.1 hr).1
        rw [heq] at h1
        rcases Nat.lt_or_ge i listed.size with h' | h'
        · simp [h'] at h0 h1; rw [h0] at h1; cases h1
        · simp [Array.getElem?_eq_none h'] at h1
      have hjp : j ≠ p := by
        intro h
        subst h
        rw [hp] at hoj
        obtain ⟨e, he, hb, hon⟩ := hpi
        injection hoj with hoj
        subst hoj
        exact hnot e he hb hon
      have h2 := wpOp_putIf hoj (hfree j oj hoj hji hjun hnot) (fun cs b => hsel i oi cs b hi) (fun cs b => hsel j oj cs b hoj) hQ hy (H.2 j (ready_mono hj hji))
      have hl' : (listed.setIfInBounds j true).getD p false = false := by rw [getD_set_ne false hjp]; exact hl
      refine wpOp_mono (fun a' w' h3 => ?_) h2
      have hS' : S w' := h3.2.1 (by rw [getD_set_ne false hjp, getD_set_ne false (Ne.symm hne)]; exact hl)
      refine ⟨fun _ => hS', ih (listed.setIfInBounds j true) a' w' hl' (fun k ok hk hki hun hno => ?_) (ready_mono hr (Ne.symm hji)) h3.1 hS' ?_⟩
      · refine hfree k ok hk hki ?_ hno
        by_cases hjk : j = k
        · subst hjk; exact hjun
        · rw [getD_set_ne true hjk] at hun; exact hun
      · rw [Array.setIfInBounds_comm _ _ hji]
        exact h3.2.2

/-- Operation p waits for operation i by a word of its own. -/
def waits (ops : Array Oper) (p i : Nat) : Bool := match ops[p]? with
  | some o => o.after.any (fun e => Region.binds .any e && e.on == i)
  | none => false

theorem anyTill.take {i : Nat} {oi : Oper} {v : Value} {fuel : Nat} {listed : Array Bool} {a : Act} {w : World} (hi : ops[i]? = some oi) (hp : waits ops p i = true) (hs : Region.noSelect ops = true)
    (hl : (listed.getD p false || p == i) = false) (hf : Region.free .any ops listed i = true) (hr : (Region.ready .any ops listed).contains i = true)
    (hQ : ∀ c a w, Q (.panic c) (a.put oi.dst v) w → Q (.panic c) a w) (hy : YieldsIf P ops S oi v a) (hS : S w)
    (h : anyTill P ops Q S p fuel (listed.setIfInBounds i true) (a.put oi.dst v) w) : anyTill P ops Q S p (fuel + 1) listed a w := by
  rw [Bool.or_eq_false_iff] at hl
  unfold waits at hp
  cases ho : ops[p]? with
  | none => rw [ho] at hp; cases hp
  | some op =>
    rw [ho] at hp
    obtain ⟨e, he, hb⟩ := Array.any_eq_true'.1 hp
    simp only [Bool.and_eq_true, beq_iff_eq] at hb
    exact anyTill.first hi ho ⟨e, he, hb.1, hb.2⟩ (by simpa using hl.2) (Region.noSelect_spec hs) hQ fuel listed a w hl.1 (Region.free_spec hi hf) (by simpa using hr) hy hS h

theorem anyTill.step {i : Nat} {o : Oper} {fuel : Nat} {listed : Array Bool} {a : Act} {w : World} (ho : ops[i]? = some o) (hr : Region.ready .any ops listed = [i])
    (h : ∀ K' : Act → World → Prop, Shut (∀ a w, ((listed.setIfInBounds i true).getD p false = false → S w) → anyTill P ops Q S p fuel (listed.setIfInBounds i true) a w → K' a w) →
      if Region.wanted o (yielded ops a.tmps) = true then Oper.wp P o a w K' Q else K' (a.put o.dst undef) w) : anyTill P ops Q S p (fuel + 1) listed a w := by
  refine ⟨fun h0 => (by rw [hr] at h0; cases h0), fun j hj => ?_⟩
  rw [hr, List.mem_singleton] at hj
  subst hj
  exact wpOp_step ho (fun K' hK => h K' (fun a w hS hW => hK a w ⟨hS, hW⟩))

theorem anyTill.done {listed : Array Bool} {a : Act} {w : World} (hr : Region.ready .any ops listed = []) (h : Q .normal a w) : ∀ fuel, anyTill P ops Q S p fuel listed a w
  | 0 => ⟨hr, h⟩
  | _ + 1 => ⟨fun _ => h, by rw [hr]; intro i hi; cases hi⟩

theorem anyTill.begin {id : Nat} {a : Act} {w : World} (S : World → Prop) (p : Nat) (hm : P.follows .mixedOrders = true) (hS : S w.drew)
    (h : S w.drew → anyTill P ops Q S p ops.size (Array.replicate ops.size false) a w.drew) : (Code.region id ops true).wp P Q a w :=
  wp_region_any hm ((h hS).any)
end
end Go.Proofs.Ytdeidgbknlmhjab
