import Derived.Test.YtdeidgbknlmhjabCY
import Derived.Test.YtdeidgbknlmhjabAJ
namespace Go.Proofs.Ytdeidgbknlmhjab
open Go.RowKit Go.Sort
variable {P : Nat} [NeZero P]

theorem sq_mod (r d : Nat) : d * d % (r + d) = r * r % (r + d) := by
  have h : d * d + (r + d) * r = r * r + (r + d) * d := by
    rw [Nat.add_mul, Nat.add_mul, Nat.mul_comm d r]
    omega
  have h1 := congrArg (· % (r + d)) h
  simp only [Nat.add_mul_mod_self_left] at h1
  exact h1
theorem rt_sq {m y : Fin P} (h : rt m = some y) : y * y = m := by
  have h0 := rt_yes h
  unfold rt at h
  rw [if_pos h0] at h
  obtain rfl := Option.some.inj h
  have hP := Nat.pos_of_neZero P
  have hr : m.val ^ (P / 4 + 1) % P < P := Nat.mod_lt _ hP
  generalize m.val ^ (P / 4 + 1) % P = r at h0 hr
  apply Fin.ext
  rw [Fin.val_mul]
  show (even P r % P) * (even P r % P) % P = m.val
  rw [Nat.mod_eq_of_lt (even_lt hP hr), ← h0]
  unfold even
  split
  · have h2 := sq_mod r (P - r)
    rw [show r + (P - r) = P by omega] at h2
    exact h2
  · rfl
theorem zero33_iff {bs : Bs} (hs : bs.size = 33) : Zero33 bs ↔ bs = zs33 := by
  constructor
  · intro h
    apply Array.ext
    · rw [hs]; rfl
    · intro i h1 h2
      have := h i (List.mem_range.2 (by omega))
      rw [getElem!_pos bs i h1] at this
      have h3 : bs[i].toNat = 0 := by
        have h4 : ub bs[i] = (bs[i].toNat : Int) := rfl
        rw [h4] at this
        omega
      have h5 : (zs33)[i] = 0 := by
        have h6 : (Array.replicate 33 (0 : UInt8))[i]'h2 = 0 := Array.getElem_replicate _
        exact h6
      rw [h5]
      exact UInt8.toNat_inj.1 h3
  · rintro rfl i hi
    have hi := List.mem_range.1 hi
    unfold zs33
    rw [getElem!_pos _ i (by rw [Array.size_replicate]; exact hi), Array.getElem_replicate]
    rfl
theorem on_of {x y : Fin P} (h : y * y = x * x * x + 7) : EC.On (.some (x, y) : EC.Pt P) := by
  show y ^ 2 = x ^ 3 + 7
  grobner
theorem on_neg {x y : Fin P} (h : y * y = x * x * x + 7) : EC.On (.some (x, 0 - y) : EC.Pt P) := by
  show (0 - y) ^ 2 = x ^ 3 + 7
  grobner
theorem frac_one (C : Fld P) (x y : Fin P) : EC.Frac x y 1 (.some (x, y) : EC.Pt P) := ⟨fun h => C.cur.two (by grobner), by grobner, by grobner⟩
/-- What the reference's Read answers. -/
def RReadR (P : Nat) [NeZero P] (bs : Bs) (e : Value) : Prop := match rd P bs with
  | none => ∃ t : T3 P, e = .tuple #[tv t, .bool false]
  | some p => ∃ (t : T3 P) (q : EC.Pt P), e = .tuple #[tv t, .bool true] ∧ EC.Pair p.1 p.2 q ∧ FracT t q
theorem rRead_c (C : Fl3 P) (bs : Bs) (w : World) : Calls Try.prog 31 #[.string ⟨bs⟩] w (Ret fun e w' => Below w.heap.size w w' ∧ RReadR P bs e) := by
  unfold RReadR rd
  by_cases hs : bs.size = 33
  · rw [if_pos hs]
    by_cases hz : Zero33 bs
    · rw [if_pos hz]
      obtain rfl := (zero33_iff hs).1 hz
      refine (rr_zero C w).mono ?_
      rintro e w' ⟨v, rfl, hb, rfl⟩
      exact ⟨_, rfl, hb, (0, 1, 0), .none, rfl, ⟨rfl, rfl⟩, FracT.none⟩
    · rw [if_neg hz]
      have hz' : ¬ bs = zs33 := fun h => hz ((zero33_iff hs).2 h)
      by_cases hm : ub bs[0]! = 2 ∨ ub bs[0]! = 3
      · rw [if_pos hm]
        by_cases hx : beV (tl33 bs).toList < P
        · rw [if_pos hx]
          have hx' : beV (tl33 bs).toList = (rdx P bs).val := (Nat.mod_eq_of_lt hx).symm
          cases hr : rt (rdx P bs * rdx P bs * rdx P bs + 7) with
          | none =>
            rcases hm with hm | hm
            · refine (rr_none2 C 0 bs (rdx P bs) 0 0 w hs hz' hm hx' hr).mono ?_
              rintro e w' ⟨v, rfl, hb, rfl⟩
              exact ⟨_, rfl, hb, (rdx P bs, 0, 1), rfl⟩
            · refine (rr_none3 C 0 bs (rdx P bs) 0 (0 - 0) w hs hz' hm hx' hr rfl).mono ?_
              rintro e w' ⟨v, rfl, hb, rfl⟩
              exact ⟨_, rfl, hb, (rdx P bs, 0 - 0, 1), rfl⟩
          | some y =>
            have hsq := rt_sq hr
            rcases hm with hm | hm
            · rw [Option.map_some, if_neg (by rw [hm]; decide)]
              refine (rr_some2 C 0 bs (rdx P bs) y 0 w hs hz' hm hx' hr).mono ?_
              rintro e w' ⟨v, rfl, hb, rfl⟩
              exact ⟨_, rfl, hb, (rdx P bs, y, 1), .some (rdx P bs, y), rfl, ⟨rfl, rfl⟩, frac_one C.toFld _ _, on_of hsq⟩
            · rw [Option.map_some, if_pos hm]
              refine (rr_some3 C 0 bs (rdx P bs) y (0 - y) w hs hz' hm hx' hr rfl).mono ?_
              rintro e w' ⟨v, rfl, hb, rfl⟩
              exact ⟨_, rfl, hb, (rdx P bs, 0 - y, 1), .some (rdx P bs, 0 - y), rfl, ⟨rfl, rfl⟩, frac_one C.toFld _ _, on_neg hsq⟩
        · rw [if_neg hx]
          have hn := rNumber_n C (tl33 bs) (tl33_size hs) hx
          rcases hm with hm | hm
          · refine (rr_num2 C _ bs 0 0 0 w hs hz' hm hn).mono ?_
            rintro e w' ⟨v, rfl, hb, rfl⟩
            exact ⟨_, rfl, hb, (0, 0, 0), rfl⟩
          · refine (rr_num3 C _ bs 0 0 0 w hs hz' hm hn).mono ?_
            rintro e w' ⟨v, rfl, hb, rfl⟩
            exact ⟨_, rfl, hb, (0, 0, 0), rfl⟩
      · rw [if_neg hm]
        refine (rr_mark C bs hs hz' _ rfl (fun h => hm (Or.inl h)) (fun h => hm (Or.inr h)) w).mono ?_
        rintro e w' ⟨v, rfl, hb, rfl⟩
        exact ⟨_, rfl, hb, (0, 0, 0), rfl⟩
  · rw [if_neg hs]
    refine (rr_len C bs hs w).mono ?_
    rintro e w' ⟨v, rfl, hb, rfl⟩
    exact ⟨_, rfl, hb, (0, 0, 0), rfl⟩
end Go.Proofs.Ytdeidgbknlmhjab
