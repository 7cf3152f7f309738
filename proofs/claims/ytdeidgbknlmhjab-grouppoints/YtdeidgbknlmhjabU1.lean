import Derived.Test.YtdeidgbknlmhjabL3
import Derived.Test.YtdeidgbknlmhjabR4
import Derived.Test.YtdeidgbknlmhjabN4
import Derived.Test.YtdeidgbknlmhjabN3
namespace Go.Proofs.Ytdeidgbknlmhjab
open Go.RowKit Go.Sort Go.Deep

theorem Holds.front {α : Type} [Inhabited α] {f : α → Value} {w : World} {b o : Nat} {d e : Array α} (h : Holds f w b o d) (hs : e.size ≤ d.size) (he : ∀ j, j < e.size → e[j]! = d[j]!) : Holds f w b o e := by
  intro j hj
  rw [he j hj]
  exact h j (by omega)

theorem lentTo_front (s : ByteArray) (k j : Nat) (hj : j < s.data.size) : (lentTo s k)[j]! = s.data[j]! := by
  induction k with
  | zero => rw [lent_front s j hj, getElem!_pos s.data j hj]
  | succ k ih =>
    show ((lentTo s k).setIfInBounds (s.size + k) (fill (s.size + k)))[j]! = _
    have : s.data.size = s.size := rfl
    rw [getElem!_set_other _ _ _ _ (by omega), ih]

theorem holds_text {w : World} {b : Nat} (s : ByteArray) (h : Holds encB w b 0 (lent s)) : Holds encB w b 0 s.data := by
  have : s.data.size = s.size := rfl
  exact Holds.front h (by rw [lent_size]; omega) (fun j hj => (lentTo_front s 160 j hj).symm)


/-- An answer: a number's bytes, or ErrScalar. -/
def Ans (W : World) (ok : Prop) (p : Option Addr) (n c : Nat) (ep : Int) (x : Nat) : Prop := (ok ∧ ep = 0 ∧ IsBytes W 0 (.slice p n c) x) ∨ (¬ ok ∧ ep = 3 ∧ n = 0)
theorem Ans.call {W w1 : World} {ok : Prop} {p : Option Addr} {n c x : Nat} {ep : Int} (h : Ans W ok p n c ep x) (hb : Below W.heap.size W w1) : Ans w1 ok p n c ep x := by
  rcases h with ⟨h1, h2, h3⟩ | h
  · exact Or.inl ⟨h1, h2, h3.call hb⟩
  · exact Or.inr h
theorem ans_two {w w' : World} {P x : Nat} {s t : Bs} {e : Value} (h : TwoR w P s t x e w') : ∃ (p : Option Addr) (n c : Nat) (ep : Int), e = .tuple #[.slice p n c, .int .i64 ep] ∧ Ans w' (IsNum P s ∧ IsNum P t) p n c ep x := by
  rcases h with ⟨h1, h2, v, rfl, h3⟩ | ⟨h1, rfl⟩
  · obtain ⟨g, a, b, c, d, rfl, h4⟩ := h3
    exact ⟨_, _, _, 0, rfl, Or.inl ⟨⟨h1, h2⟩, rfl, ⟨g, a, b, c, d, rfl, Nat.zero_le _, h4.2⟩⟩⟩
  · exact ⟨none, 0, 0, 3, rfl, Or.inr ⟨h1, rfl, rfl⟩⟩
theorem ans_one {w w' : World} {P x : Nat} {s : Bs} {e : Value} (h : OneR w P s x e w') : ∃ (p : Option Addr) (n c : Nat) (ep : Int), e = .tuple #[.slice p n c, .int .i64 ep] ∧ Ans w' (IsNum P s) p n c ep x := by
  rcases h with ⟨h1, v, rfl, h3⟩ | ⟨h1, rfl⟩
  · obtain ⟨g, a, b, c, d, rfl, h4⟩ := h3
    exact ⟨_, _, _, 0, rfl, Or.inl ⟨h1, rfl, ⟨g, a, b, c, d, rfl, Nat.zero_le _, h4.2⟩⟩⟩
  · exact ⟨none, 0, 0, 3, rfl, Or.inr ⟨h1, rfl, rfl⟩⟩

set_option maxHeartbeats 1000000 in
theorem told_err (p : Option Addr) (n c : Nat) (ep : Int) (x : Value) (y : Nat) (hx : Four x y) (hn : n = 0) (h0 : ¬ ep = 0) (w : World) :
    Calls Try.prog 22 #[.slice p n c, .int .i64 ep, .int .i64 ep, x] w (Ret fun e w' => Below w.heap.size w w' ∧ e = .bool true) := by
  subst hn
  obtain ⟨a, b, c', d, rfl, -⟩ := hx
  go_enter Try.func22, Try.ntmps22
  go_wp2
  go_ret
  exact ⟨_, rfl, below1 _ _, by simp⟩

theorem told_yes {w : World} {ok : Prop} {p : Option Addr} {n c y : Nat} {ep : Int} {x : Value} (h : Ans w ok p n c ep y) (ho : ok) (hx : Four x y) :
    Calls Try.prog 22 #[.slice p n c, .int .i64 ep, .int .i64 0, x] w (Ret fun e w' => Below w.heap.size w w' ∧ e = .bool true) := by
  rcases h with ⟨-, rfl, h3⟩ | ⟨h1, -⟩
  · exact told_ok _ _ _ 0 w h3 hx
  · exact absurd ho h1
theorem told_no {w : World} {ok : Prop} {p : Option Addr} {n c y z : Nat} {ep : Int} {x : Value} (h : Ans w ok p n c ep y) (ho : ¬ ok) (hx : Four x z) :
    Calls Try.prog 22 #[.slice p n c, .int .i64 ep, .int .i64 3, x] w (Ret fun e w' => Below w.heap.size w w' ∧ e = .bool true) := by
  rcases h with ⟨h1, -⟩ | ⟨-, rfl, h3⟩
  · exact absurd h1 ho
  · exact told_err _ _ _ 3 x z hx h3 (by decide) w

/-- What a law of two texts keeps: the texts, lent. -/
structure Ctx (w0 W : World) (ks kt : Nat) (s t : ByteArray) : Prop where
  bl : Below w0.heap.size w0 W
  ls : Holds encB W ks 0 (lent s)
  lt : Holds encB W kt 0 (lent t)
theorem Ctx.call {w0 W w1 : World} {ks kt : Nat} {s t : ByteArray} (h : Ctx w0 W ks kt s t) (hb : Below W.heap.size W w1) : Ctx w0 w1 ks kt s t :=
  ⟨h.bl.trans (hb.mono h.bl.size), Holds.below h.ls hb (Holds.lt h.ls (by rw [lent_size]; omega)), Holds.below h.lt hb (Holds.lt h.lt (by rw [lent_size]; omega))⟩
theorem lent_arg {W : World} {k : Nat} {s : ByteArray} (h : Holds encB W k 0 (lent s)) (_ : s.size ≤ 16384) : Arg W (.slice (some ⟨k, 0, none⟩) s.size (s.size + 160)) s.data :=
  ⟨_, _, _, rfl, rfl, fun h1 => ⟨k, 0, rfl, by omega, Holds.lt h (by rw [lent_size]; omega), holds_text s h⟩⟩

theorem Kept.sub {w W : World} {k0 : Nat} {l l' : List Blk} (h : Kept w k0 l W) (hs : ∀ x ∈ l', x ∈ l) : Kept w k0 l' W := ⟨h.bl, h.le, fun x hx => h.at' x (hs x hx)⟩
theorem Kept.puts {w W : World} {k0 j a b c d : Nat} {l l' : List Blk} (h : Kept w k0 l W) (hm : (⟨j, 0, a, b, c, d⟩ : Blk) ∈ l) (hj : k0 ≤ j) (hl : ∀ x ∈ l', x ∈ l ∧ j ≠ x.k) (x y z t : Nat) :
    Kept w k0 (⟨j, 0, x, y, z, t⟩ :: l') ((((W.setCell ⟨j, 0, none⟩ (.int .u64 (x : Int))).setCell ⟨j, 1, none⟩ (.int .u64 (y : Int))).setCell ⟨j, 2, none⟩ (.int .u64 (z : Int))).setCell ⟨j, 3, none⟩ (.int .u64 (t : Int))) :=
  ((h.sub fun x hx => (hl x hx).1).cons (h.at' _ hm)).put hj (fun x hx => (hl x hx).2) x y z t
theorem keptZ4 {w0 W : World} (h : Below w0.heap.size w0 W) :
    Kept w0 w0.heap.size [⟨W.heap.size, 0, 0, 0, 0, 0⟩, ⟨W.heap.size + 1, 0, 0, 0, 0, 0⟩, ⟨W.heap.size + 1 + 1, 0, 0, 0, 0, 0⟩, ⟨W.heap.size + 1 + 1 + 1, 0, 0, 0, 0, 0⟩] ((((W.alloc (.cells #[.int .u64 0, .int .u64 0, .int .u64 0, .int .u64 0] 33)).alloc (.cells #[.int .u64 0, .int .u64 0, .int .u64 0, .int .u64 0] 33)).alloc (.cells #[.int .u64 0, .int .u64 0, .int .u64 0, .int .u64 0] 33)).alloc (.cells #[.int .u64 0, .int .u64 0, .int .u64 0, .int .u64 0] 33)) := by
  have K := kept4 W 33 33 33 33 0 0 0 0 0 0 0 0 0 0 0 0 0 0 0 0
  exact ⟨h.trans (K.bl.mono h.size), Nat.le_trans h.size K.le, K.at'⟩
end Go.Proofs.Ytdeidgbknlmhjab
