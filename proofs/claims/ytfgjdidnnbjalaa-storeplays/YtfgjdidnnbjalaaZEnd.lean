import Derived.ChangeOld
import Derived.Below
import Derived.WalkKit
import Derived.ProofKit
import Derived.OpenShut
import Derived.ShutString
import Derived.Deep.Slices
import Derived.Deep.Strs
import Derived.Test.YtfgjdidnnbjalaaZ5
set_option linter.unusedVariables false
set_option linter.unusedSimpArgs false
namespace Go.Proofs.Ytfgjdidnnbjalaa
open Go.RowKit Go.Sort Go.Deep
variable {X Y : Nat → Prop} {W : World} {b b' lim : Nat} {B : ByteArray} {R : List ByteArray} {left : Int} {off : Bool} {v : Value} {j : Jr}
/-- The program's journal and the document's agree. -/
structure Ag (j : Jr) (B : ByteArray) (R : List ByteArray) (lim : Nat) (left : Int) (off : Bool) : Prop where
  ok : j.Ok
  hB : B = bA j.B
  hR : R.length = j.E.length
  rc : ∀ n, n < R.length → ∃ s, R[n]? = some s ∧ recB j n = s.data.toList ∧ s.size ≤ 1048576
  hl : lim = j.lim
  ho : off = j.off
  lf : off = false → left = (j.left : Int) ∨ (left = -1 ∧ j.lim ≤ j.B.length + j.left)
theorem Ag.new (lim : Nat) (h1 : 64 ≤ lim) (h2 : lim ≤ 1048576) : Ag ⟨[], [], lim, lim, false⟩ ⟨#[]⟩ [] lim (-1) false :=
  ⟨⟨h1, h2, Nat.zero_le _, Nat.zero_le _, by show lim ≤ _; omega, fun p hp => by cases hp⟩, rfl, rfl, fun n hn => absurd hn (Nat.not_lt_zero _), rfl, rfl, fun _ => Or.inr ⟨rfl, by show lim ≤ _ + lim; omega⟩⟩
theorem recB_arm (j : Jr) (n : Int) (i : Nat) : recB (j.arm n) i = recB j i := rfl
theorem Ag.arm (h : Ag j B R lim left off) (n : Int) (hn : n ≤ 9223372036854775807) : Ag (j.arm n) B R lim (rarm n) off := by
  refine ⟨Jr.arm_ok h.ok n hn, h.hB, h.hR, h.rc, h.hl, h.ho, fun _ => ?_⟩
  show rarm n = ((armL j.lim n : Nat) : Int) ∨ (rarm n = -1 ∧ j.lim ≤ j.B.length + armL j.lim n)
  unfold rarm armL
  by_cases g : n < 0
  · rw [if_pos g, if_pos g]
    exact Or.inr ⟨rfl, by omega⟩
  · rw [if_neg g, if_neg g]
    exact Or.inl (by omega)
theorem Ag.opened (lim : Nat) (h1 : 64 ≤ lim) (h2 : lim ≤ 1048576) (x : List UInt8) (hx : x.length ≤ lim) : Ag (openJ lim x) (bA (catF (recs x) (recs x).length)) ((recs x).map bA) lim (-1) false := by
  have hc : (catF (recs x) (recs x).length).length ≤ lim := Nat.le_trans (scan_at x (recs x).length (Nat.le_refl _)).2.1 hx
  have e : openJ lim x = ⟨catF (recs x) (recs x).length, extF (recs x) (recs x).length, lim, lim - (catF (recs x) (recs x).length).length, false⟩ := jAt_is lim (recs x) (recs x).length hc _ (Nat.le_refl _)
  have hk : (openJ lim x).Ok := jAt_ok lim h1 h2 (recs x) (recs x).length hc _ (Nat.le_refl _)
  have hf : catF (recs x) (recs x).length = fr 0 (recs x) := by
    rw [catF_fr _ _ (Nat.le_refl _), List.take_of_length_le (Nat.le_refl _)]
  rw [e] at hk ⊢
  refine ⟨hk, rfl, by rw [List.length_map]; exact (extF_len _ _).symm, fun n hn => ?_, rfl, rfl, fun _ => Or.inr ⟨rfl, by show lim ≤ (catF (recs x) (recs x).length).length + (lim - (catF (recs x) (recs x).length).length); omega⟩⟩
  rw [List.length_map] at hn
  refine ⟨bA ((recs x).getD n []), ?_, ?_, ?_⟩
  · rw [List.getElem?_map, List.getElem?_eq_getElem hn, List.getD_eq_getElem?_getD, List.getElem?_eq_getElem hn]
    rfl
  · rw [bA_list, hf]
    exact rec_fr lim _ false (recs x) n hn
  · rw [bA_size, List.getD_eq_getElem?_getD, List.getElem?_eq_getElem hn]
    have := recs_small x _ (List.getElem_mem hn)
    show ((recs x)[n]).length ≤ _
    omega
/-- Records stay where they are. -/
theorem recB_kept (h : j.Ok) (n : Nat) (hn : n < j.E.length) (z : List UInt8) (E' : List (Nat × Nat)) (l1 l2 : Nat) (o : Bool) : recB ⟨j.B ++ z, j.E ++ E', l1, l2, o⟩ n = recB j n := by
  have he : (j.E ++ E').getD n (0, 0) = j.E.getD n (0, 0) := by
    rw [List.getD_eq_getElem?_getD, List.getD_eq_getElem?_getD, List.getElem?_append_left hn]
  have hm : j.E.getD n (0, 0) ∈ j.E := by
    rw [List.getD_eq_getElem?_getD, List.getElem?_eq_getElem hn]
    exact List.getElem_mem hn
  obtain ⟨h1, h2⟩ := h.ext _ hm
  unfold recB
  dsimp only
  rw [he]
  generalize j.E.getD n (0, 0) = p at *
  rw [List.drop_append_of_le_length (by omega), List.take_append_of_le_length (by rw [List.length_drop]; omega)]
theorem recB_new (y : List UInt8) (i : Nat) (l1 l2 : Nat) (o : Bool) : recB ⟨j.B ++ frameB i y, j.E ++ [(j.B.length + 4, j.B.length + (frameB i y).length - 8)], l1, l2, o⟩ j.E.length = y := by
  have he : (j.E ++ [(j.B.length + 4, j.B.length + (frameB i y).length - 8)]).getD j.E.length (0, 0) = (j.B.length + 4, j.B.length + (frameB i y).length - 8) := by
    rw [List.getD_eq_getElem?_getD, List.getElem?_append_right (Nat.le_refl _), Nat.sub_self]
    rfl
  unfold recB
  dsimp only
  rw [he]
  dsimp only
  have hl := frameB_len i y
  rw [show j.B.length + (frameB i y).length - 8 - (j.B.length + 4) = y.length by omega, List.drop_append, List.drop_of_length_le (by omega), List.nil_append, show j.B.length + 4 - j.B.length = 4 by omega]
  have := frame_rec i y []
  rw [List.append_nil] at this
  exact this
theorem Ag.same (h : Ag j B R lim left off) : B.size = j.B.length := by rw [h.hB]; exact bA_size _
/-- What an Add leaves of agreement. -/
def AgA (j : Jr) (Y : Nat → Prop) (W : World) (b' lim : Nat) (w' : World) : Prop := ∃ B' R' left' off', Ag j B' R' lim left' off' ∧ RLv Y W b' B' R' lim left' off' w'
theorem add_off (y : List UInt8) (h : j.off = true) : j.add y = (15, j) := by unfold Jr.add; rw [if_pos h]
theorem add_long (y : List UInt8) (h : j.off = false) (h1 : 16384 < y.length) : j.add y = (1, j) := by
  unfold Jr.add; rw [if_neg (by rw [h]; decide), if_pos h1]
theorem add_full (y : List UInt8) (h : j.off = false) (h1 : ¬ 16384 < y.length) (h2 : j.lim < j.B.length + y.length + 12) : j.add y = (14, j) := by
  unfold Jr.add; rw [if_neg (by rw [h]; decide), if_neg h1, if_pos h2]
theorem add_keep (y : List UInt8) (h : j.off = false) (h1 : ¬ 16384 < y.length) (h2 : ¬ j.lim < j.B.length + y.length + 12) : j.add y = j.keep (frameB j.E.length y) := by
  unfold Jr.add; rw [if_neg (by rw [h]; decide), if_neg h1, if_neg h2]
theorem Ag.kept (h : Ag j B R lim left off) (x : ByteArray) (hx : x.size ≤ 16384) (hf : j.B.length + x.size + 12 ≤ j.lim) (hle : x.size + 12 ≤ j.left) (left' : Int) (hl : left' = ((j.left - (x.size + 12) : Nat) : Int) ∨ (left' = -1 ∧ j.lim ≤ j.B.length + j.left)) (F : ByteArray) (hF : F = bA (frameB j.E.length x.data.toList)) :
    j.keep (frameB j.E.length x.data.toList) = (0, (j.keep (frameB j.E.length x.data.toList)).2) ∧ Ag (j.keep (frameB j.E.length x.data.toList)).2 (B ++ F) (R ++ [x]) lim left' false := by
  have hxl : x.data.toList.length = x.size := Array.length_toList
  have hfl := frameB_len j.E.length x.data.toList
  rw [hxl] at hfl
  have e : j.keep (frameB j.E.length x.data.toList) = (0, ⟨j.B ++ frameB j.E.length x.data.toList, j.E ++ [(j.B.length + 4, j.B.length + (frameB j.E.length x.data.toList).length - 8)], j.lim, j.left - (frameB j.E.length x.data.toList).length, false⟩) := by
    unfold Jr.keep; rw [if_pos (by omega)]
  have hk := Jr.keep_ok h.ok (frameB j.E.length x.data.toList) (by omega) (by omega)
  rw [e] at hk ⊢
  refine ⟨rfl, hk, ?_, ?_, fun n hn => ?_, h.hl, rfl, fun _ => ?_⟩
  · rw [h.hB, hF, bA_app]
  · show (R ++ [x]).length = (j.E ++ [_]).length
    rw [List.length_append, List.length_append, h.hR]
    rfl
  · rw [List.length_append, List.length_singleton] at hn
    by_cases g : n < R.length
    · obtain ⟨s, h1, h2, h3⟩ := h.rc n g
      exact ⟨s, by rw [List.getElem?_append_left g]; exact h1, by rw [← h2]; exact recB_kept h.ok n (by rw [← h.hR]; exact g) _ _ _ _ _, h3⟩
    · obtain rfl : n = R.length := by omega
      refine ⟨x, by rw [List.getElem?_append_right (Nat.le_refl _), Nat.sub_self]; rfl, ?_, by omega⟩
      rw [h.hR]
      exact recB_new x.data.toList j.E.length _ _ _
  · show left' = ((j.left - (frameB j.E.length x.data.toList).length : Nat) : Int) ∨ (left' = -1 ∧ j.lim ≤ (j.B ++ frameB j.E.length x.data.toList).length + (j.left - (frameB j.E.length x.data.toList).length))
    rw [List.length_append, hfl]
    rcases hl with rfl | ⟨rfl, h2⟩
    · exact Or.inl rfl
    · exact Or.inr ⟨rfl, by omega⟩
theorem Ag.cut (h : Ag j B R lim left off) (x : ByteArray) (hx : x.size ≤ 16384) (hf : j.B.length + x.size + 12 ≤ j.lim) (hle : j.left < x.size + 12) (left' : Int) (S : ByteArray) (hS : S = bA ((frameB j.E.length x.data.toList).take j.left)) :
    j.keep (frameB j.E.length x.data.toList) = (15, (j.keep (frameB j.E.length x.data.toList)).2) ∧ Ag (j.keep (frameB j.E.length x.data.toList)).2 (B ++ S) R lim left' true := by
  have hxl : x.data.toList.length = x.size := Array.length_toList
  have hfl := frameB_len j.E.length x.data.toList
  rw [hxl] at hfl
  have e : j.keep (frameB j.E.length x.data.toList) = (15, ⟨j.B ++ (frameB j.E.length x.data.toList).take j.left, j.E, j.lim, j.left - (frameB j.E.length x.data.toList).length, true⟩) := by
    unfold Jr.keep; rw [if_neg (by omega)]
  have hk := Jr.keep_ok h.ok (frameB j.E.length x.data.toList) (by omega) (by omega)
  rw [e] at hk ⊢
  refine ⟨rfl, hk, by rw [h.hB, hS, bA_app], h.hR, fun n hn => ?_, h.hl, rfl, fun g => by cases g⟩
  obtain ⟨s, h1, h2, h3⟩ := h.rc n hn
  refine ⟨s, h1, ?_, h3⟩
  rw [← h2]
  have := recB_kept h.ok n (by rw [← h.hR]; exact hn) ((frameB j.E.length x.data.toList).take j.left) [] j.lim (j.left - (frameB j.E.length x.data.toList).length) true
  rw [List.append_nil] at this
  exact this
/-- The reference's Add, whatever it answers. -/
theorem radd_c (h : Ag j B R lim left off) (x : ByteArray) (hr : RSv Y W b' B R lim left off v) :
    Calls Try.prog 9 #[.pointer (some ⟨b', 0, none⟩), .string x] W (Ret fun e w' => e = .int .i64 ((j.add x.data.toList).1 : Int) ∧ AgA (j.add x.data.toList).2 Y W b' lim w') := by
  have hxl : x.data.toList.length = x.size := Array.length_toList
  have hBs := h.same
  have hlim := h.hl
  have hfit := h.ok.fits
  have hl2 := h.ok.lim2
  have hfew := h.ok.few
  have hRl := h.hR
  cases hoff : off with
  | true =>
    subst hoff
    rw [add_off _ h.ho.symm]
    refine (radd_off x hr).mono ?_
    rintro e w' ⟨u, rfl, rfl, h2⟩
    exact ⟨_, rfl, rfl, _, _, _, _, h, h2⟩
  | false =>
    subst hoff
    have ho := h.ho.symm
    by_cases g1 : 16384 < x.size
    · rw [add_long _ ho (by omega)]
      refine (radd_long x g1 hr).mono ?_
      rintro e w' ⟨u, rfl, rfl, h2⟩
      exact ⟨_, rfl, rfl, _, _, _, _, h, h2⟩
    · by_cases g2 : j.lim < j.B.length + x.size + 12
      · rw [add_full _ ho (by omega) (by omega)]
        refine (radd_full x (by omega) (by omega) (by omega) hr).mono ?_
        rintro e w' ⟨u, rfl, rfl, h2⟩
        exact ⟨_, rfl, rfl, _, _, _, _, h, h2⟩
      · rw [add_keep _ ho (by omega) (by omega)]
        obtain ⟨F, hF⟩ : ∃ F, Hid (F = bA (frameB j.E.length x.data.toList)) := ⟨_, rfl⟩
        have hF2 : Hid (F = ⟨(frameB R.length x.data.toList).toArray⟩) := by show _ = _; rw [hF.out, h.hR]; rfl
        have hFs : F.size = x.size + 12 := by rw [hF.out, bA_size, frameB_len, hxl]
        have hle := h.ok.left
        rcases h.lf rfl with hl | ⟨hl, hll⟩
        · subst hl
          by_cases g3 : j.left < x.size + 12
          · obtain ⟨k1, k2⟩ := h.cut x (by omega) (by omega) g3 (j.left : Int) (bA ((frameB j.E.length x.data.toList).take j.left)) rfl
            have hS : Hid (F.extract 0 j.left = bA ((frameB j.E.length x.data.toList).take j.left)) := by show _ = _; rw [hF.out, bA_ext, List.drop_zero]
            refine (radd_cut x (by omega) (by omega) (by omega) (by omega) F hF2 j.left (by omega) _ hS hr).mono ?_
            rintro e w' ⟨u, rfl, rfl, h2⟩
            rw [k1]
            exact ⟨_, rfl, rfl, _, _, _, _, k2, h2⟩
          · obtain ⟨k1, k2⟩ := h.kept x (by omega) (by omega) (by omega) ((j.left - (x.size + 12) : Nat) : Int) (Or.inl rfl) F hF.out
            refine (radd_some x (by omega) (by omega) (by omega) (by omega) F hF2 j.left (j.left - (x.size + 12)) (by omega) hle hr).mono ?_
            rintro e w' ⟨u, rfl, rfl, h2⟩
            rw [k1]
            exact ⟨_, rfl, rfl, _, _, _, _, k2, h2⟩
        · subst hl
          obtain ⟨k1, k2⟩ := h.kept x (by omega) (by omega) (by omega) (-1) (Or.inr ⟨rfl, hll⟩) F hF.out
          refine (radd_any x (by omega) (by omega) (by omega) (by omega) F hF2 (by decide) hr).mono ?_
          rintro e w' ⟨u, rfl, rfl, h2⟩
          rw [k1]
          exact ⟨_, rfl, rfl, _, _, _, _, k2, h2⟩
end Go.Proofs.Ytfgjdidnnbjalaa
namespace Go.Proofs.Ytfgjdidnnbjalaa
open Go.RowKit Go.Sort Go.Deep
/-- The two journals in memory, and that they agree; blocks K are neither's. -/
structure S0 (K : Nat → Prop) (w0 W : World) (b b' : Nat) (X Y : Nat → Prop) (j : Jr) (B : ByteArray) (R : List ByteArray) (lim : Nat) (left : Int) (off : Bool) (v : Value) : Prop where
  bl : Below w0.heap.size w0 W
  xb : ∀ k, X k → w0.heap.size ≤ k
  yb : ∀ k, Y k → w0.heap.size ≤ k
  xy : ∀ k, X k → ¬ Y k
  kk : ∀ k, K k → k < W.heap.size ∧ ¬ X k ∧ ¬ Y k
  ps : PSj X W b j
  rs : RSv Y W b' B R lim left off v
  ag : Ag j B R lim left off
def SJ (K : Nat → Prop) (w0 W : World) (b b' : Nat) : Prop := ∃ X Y j B R lim left off v, S0 K w0 W b b' X Y j B R lim left off v
/-- Blocks that stay as they are. -/
def KK (K : Nat → Prop) (W W' : World) : Prop := W.heap.size ≤ W'.heap.size ∧ ∀ k, K k → W'.heap[k]? = W.heap[k]?
variable {K K' : Nat → Prop} {w0 W W' : World} {b b' : Nat}
theorem psj_below {X : Nat → Prop} {j : Jr} (h : PSj X W b j) (hb : Below W.heap.size W W') : PSj X W' b j := by
  obtain ⟨u1, u2, hu⟩ := h
  exact ⟨u1, u2, hu.below hb⟩
theorem psj_ins {X : Nat → Prop} {j : Jr} (h : PSj X W b j) (k : Nat) (hk : X k) : k < W.heap.size := by
  obtain ⟨u1, u2, hu⟩ := h
  exact hu.ins k hk
theorem psj_frx {X Y : Nat → Prop} {j : Jr} (h : PSj X W b j) (hb : FrX Y W W') (hd : ∀ k, X k → ¬ Y k) : PSj X W' b j := by
  obtain ⟨u1, u2, hu⟩ := h
  exact ⟨u1, u2, hu.frx hb hd⟩
theorem SJ.grow (h : SJ K w0 W b b') (hb : Below W.heap.size W W') (hK : ∀ k, K' k → K k ∨ (W.heap.size ≤ k ∧ k < W'.heap.size)) : SJ K' w0 W' b b' := by
  obtain ⟨X, Y, j, B, R, lim, left, off, v, h⟩ := h
  refine ⟨X, Y, j, B, R, lim, left, off, v, h.bl.trans (hb.mono h.bl.size), h.xb, h.yb, h.xy, fun k hk => ?_, psj_below h.ps hb, h.rs.below hb, h.ag⟩
  rcases hK k hk with g | ⟨g1, g2⟩
  · exact ⟨Nat.lt_of_lt_of_le (h.kk k g).1 hb.size, (h.kk k g).2⟩
  · refine ⟨g2, fun hx => ?_, fun hy => ?_⟩
    · have := psj_ins h.ps k hx; omega
    · have := h.rs.ins k hy; omega
theorem SJ.below (h : SJ K w0 W b b') (hb : Below W.heap.size W W') : SJ K w0 W' b b' := h.grow hb fun k hk => Or.inl hk
theorem SJ.bel (h : SJ K w0 W b b') : Below w0.heap.size w0 W := by
  obtain ⟨X, Y, j, B, R, lim, left, off, v, h⟩ := h
  exact h.bl
theorem SJ.less (h : SJ K w0 W b b') (hK : ∀ k, K' k → K k) : SJ K' w0 W b b' := h.grow (Below.refl _ _) fun k hk => Or.inl (hK k hk)
theorem SJ.wp {g n : Nat} (h : SJ K w0 W b b') (hg : K g) (hg0 : w0.heap.size ≤ g) (hw : Wp g n W W') : SJ K w0 W' b b' := by
  obtain ⟨X, Y, j, B, R, lim, left, off, v, h⟩ := h
  have hk := h.kk g hg
  refine ⟨X, Y, j, B, R, lim, left, off, v, h.bl.trans (hw.bl.mono hg0), h.xb, h.yb, h.xy, fun k hk => by rw [hw.sz]; exact h.kk k hk, hw.psj h.ps (fun k hx e => hk.2.1 (by rw [← e]; exact hx)), hw.rsv h.rs (fun k hx e => hk.2.2 (by rw [← e]; exact hx)), h.ag⟩
theorem SJ.same (h : SJ K w0 W b b') : Calls Try.prog 15 #[.pointer (some ⟨b, 0, none⟩), .pointer (some ⟨b', 0, none⟩)] W (Ret fun e w' => Below W.heap.size W w' ∧ e = .bool true) := by
  obtain ⟨X, Y, j, B, R, lim, left, off, v, h⟩ := h
  exact sameL h.ag.ok h.ag.hB h.ag.hR h.ps h.rs
theorem SJ.rec (h : SJ K w0 W b b') (i : Int) : Calls Try.prog 14 #[.pointer (some ⟨b, 0, none⟩), .pointer (some ⟨b', 0, none⟩), .int .i64 i] W (Ret fun e w' => Below W.heap.size W w' ∧ e = .bool true) := by
  obtain ⟨X, Y, j, B, R, lim, left, off, v, h⟩ := h
  by_cases hi : 0 ≤ i ∧ i < (R.length : Int)
  · obtain ⟨n, rfl⟩ : ∃ n : Nat, i = (n : Int) := ⟨i.toNat, by omega⟩
    have hn : n < R.length := by omega
    obtain ⟨s, h1, h2, h3⟩ := h.ag.rc n hn
    exact recordL_y h.ag.ok n hn h.ag.hR s h1 h2 h3 h.ps h.rs
  · exact recordL_n h.ag.ok i hi h.ag.hR h.ps h.rs
theorem SJ.disk (h : SJ K w0 W b b') : ∃ B : ByteArray, W.cell? ⟨b', 1, none⟩ = some (.string B) ∧ B.size ≤ 1048576 := by
  obtain ⟨X, Y, j, B, R, lim, left, off, v, h⟩ := h
  refine ⟨B, h.rs.row.cell 1 _ rfl, ?_⟩
  have h1 := h.ag.same
  have h2 := h.ag.ok.fits
  have h3 := h.ag.ok.lim2
  omega
theorem SJ.len (h : SJ K w0 W b b') : ∃ (q : Option Addr) (m c : Nat), W.cell? ⟨b', 2, none⟩ = some (.slice q m c) ∧ m ≤ 1048576 := by
  obtain ⟨X, Y, j, B, R, lim, left, off, v, h⟩ := h
  obtain ⟨q, c, rfl, -⟩ := own_slice h.rs.o
  refine ⟨q, R.length, c, h.rs.row.cell 2 _ rfl, ?_⟩
  have h1 := h.ag.hR
  have h2 := h.ag.ok.few
  have h3 := h.ag.ok.fits
  have h4 := h.ag.ok.lim2
  omega
theorem SJ.start (lim : Nat) (h1 : 64 ≤ lim) (h2 : lim ≤ 1048576) (w0 w1 w2 : World) (b b' : Nat) (hb1 : Below w0.heap.size w0 w1) (hp : PSv (fun k => k = b) w1 b [] [] lim lim false (.slice none 0 0) (.slice none 0 0)) (hbb : w0.heap.size ≤ b)
    (hb2 : Below w1.heap.size w1 w2) (hr : RSv (fun k => k = b') w2 b' ⟨#[]⟩ [] lim (-1) false (.slice none 0 0)) (hbb' : w1.heap.size ≤ b') : SJ (fun _ => False) w0 w2 b b' :=
  ⟨_, _, ⟨[], [], lim, lim, false⟩, _, _, _, _, _, _, hb1.trans (hb2.mono hb1.size), fun k hk => by rw [hk]; exact hbb, fun k hk => by rw [hk]; exact Nat.le_trans hb1.size hbb', fun k hk hk2 => by have := hp.ins k hk; omega, fun k hk => hk.elim, ⟨_, _, hp.below hb2⟩, hr, Ag.new lim h1 h2⟩
theorem SJ.opened {lim : Nat} {x : List UInt8} {w w' : World} {e : Value} (h1 : 64 ≤ lim) (h2 : lim ≤ 1048576) (hx : x.length ≤ lim) (hb0 : Below w0.heap.size w0 w) (hK : ∀ k, K k → k < w.heap.size) (h : OpL w lim x e w') :
    Below w.heap.size w w' ∧ ∃ b b', e = .tuple #[.pointer (some ⟨b, 0, none⟩), .pointer (some ⟨b', 0, none⟩), .bool true] ∧ SJ K w0 w' b b' := by
  obtain ⟨hb, b, b', X, Y, v, he, hX, hY, hXY, hP, hR⟩ := h
  refine ⟨hb, b, b', he, X, Y, _, _, _, _, _, _, v, hb0.trans (hb.mono hb0.size), fun k hk => Nat.le_trans hb0.size (hX k hk), fun k hk => Nat.le_trans hb0.size (hY k hk), hXY, fun k hk => ⟨Nat.lt_of_lt_of_le (hK k hk) hb.size, fun h => ?_, fun h => ?_⟩, hP, hR, Ag.opened lim h1 h2 x hx⟩
  · have := hX k h; have := hK k hk; omega
  · have := hY k h; have := hK k hk; omega
/-- The law's open, whatever comes of it. -/
theorem SJ.open (d : ByteArray) (hd : d.size ≤ 1048576) (n : Int) (w : World) (hb0 : Below w0.heap.size w0 w) (hK : ∀ k, K k → k < w.heap.size) :
    Calls Try.prog 13 #[.string d, .int .i64 n] w (Ret fun e w' => Below w.heap.size w w' ∧ (e = .tuple #[.pointer none, .pointer none, .bool true] ∨ ∃ b b', e = .tuple #[.pointer (some ⟨b, 0, none⟩), .pointer (some ⟨b', 0, none⟩), .bool true] ∧ SJ K w0 w' b b')) := by
  by_cases g1 : n < 64 ∨ 1048576 < n
  · refine (openL_n d hd n 7 (fun g c W => open_range _ n g1 W) (fun W => (ropen_range d n g1 W).mono ?_) w).mono ?_
    · rintro e w' ⟨u, rfl, rfl, rfl⟩
      exact ⟨_, rfl, Below.refl _ _, rfl⟩
    · rintro e w' ⟨u, rfl, hb, rfl⟩
      exact ⟨_, rfl, hb, Or.inl rfl⟩
  · obtain ⟨lim, rfl⟩ : ∃ lim : Nat, n = (lim : Int) := ⟨n.toNat, by omega⟩
    have h1 : 64 ≤ lim := by omega
    have h2 : lim ≤ 1048576 := by omega
    by_cases g2 : lim < d.size
    · refine (openL_n d hd (lim : Int) 1 (fun g c W => open_long _ d.size c lim h1 h2 g2 W) (fun W => ropen_long d lim h1 h2 g2 W) w).mono ?_
      rintro e w' ⟨u, rfl, hb, rfl⟩
      exact ⟨_, rfl, hb, Or.inl rfl⟩
    · refine (openL_y d lim h1 h2 (by omega) w).mono ?_
      rintro e w' ⟨u, rfl, h⟩
      obtain ⟨k1, b, b', k2, k3⟩ := SJ.opened h1 h2 (by rw [Array.length_toList]; show d.size ≤ _; omega) hb0 hK h
      exact ⟨_, rfl, k1, Or.inr ⟨b, b', k2, k3⟩⟩
theorem SJ.arm (h : SJ K w0 W b b') (n : Int) (hn : n ≤ 9223372036854775807) :
    Calls Try.prog 11 #[.pointer (some ⟨b, 0, none⟩), .int .i64 n] W fun e w1 => e = .returned (.tuple #[]) ∧ KK K W w1 ∧
      Calls Try.prog 12 #[.pointer (some ⟨b', 0, none⟩), .int .i64 n] w1 fun e w2 => e = .returned (.tuple #[]) ∧ KK K w1 w2 ∧ SJ K w0 w2 b b' := by
  obtain ⟨X, Y, j, B, R, lim, left, off, v, h⟩ := h
  obtain ⟨u1, u2, hu⟩ := h.ps
  refine (arm_c n hu).mono ?_
  rintro e w1 ⟨rfl, f1, p1⟩
  have r1 := h.rs.frx f1 (fun k hy hx => h.xy k hx hy)
  refine ⟨rfl, ⟨f1.size, fun k hk => f1.block k (h.kk k hk).1 (h.kk k hk).2.1⟩, (rarm_c n r1).mono ?_⟩
  rintro e w2 ⟨rfl, f2, r2⟩
  have b1 := h.bl.trans (f1.below h.xb h.bl.size)
  refine ⟨rfl, ⟨f2.size, fun k hk => f2.block k (Nat.lt_of_lt_of_le (h.kk k hk).1 f1.size) (h.kk k hk).2.2⟩, X, Y, j.arm n, B, R, lim, rarm n, off, v, b1.trans (f2.below h.yb b1.size), h.xb, h.yb, h.xy, fun k hk => ⟨Nat.lt_of_lt_of_le (h.kk k hk).1 (Nat.le_trans f1.size f2.size), (h.kk k hk).2⟩, ⟨u1, u2, ?_⟩, r2, h.ag.arm n hn⟩
  exact p1.frx f2 h.xy
theorem SJ.add (h : SJ K w0 W b b') (q : Option Addr) (n c : Nat) (x : ByteArray) (hy : SP.PartOk W (.slice q n c) x.data.toList) (hn : n ≤ 10000000) :
    ∃ r : Int, Calls Try.prog 8 #[.pointer (some ⟨b, 0, none⟩), .slice q n c] W (Ret fun e w1 => e = .int .i64 r ∧ KK K W w1 ∧
      Calls Try.prog 9 #[.pointer (some ⟨b', 0, none⟩), .string x] w1 (Ret fun e w2 => e = .int .i64 r ∧ KK K w1 w2 ∧ SJ K w0 w2 b b')) := by
  obtain ⟨X, Y, j, B, R, lim, left, off, v, h⟩ := h
  refine ⟨((j.add x.data.toList).1 : Int), (add_c h.ag.ok q n c x.data.toList hy hn h.ps).mono ?_⟩
  rintro e w1 ⟨u, rfl, rfl, f1, X1, hX1, p1⟩
  have r1 := h.rs.frx f1 (fun k hy hx => h.xy k hx hy)
  refine ⟨_, rfl, rfl, ⟨f1.size, fun k hk => f1.block k (h.kk k hk).1 (h.kk k hk).2.1⟩, (radd_c h.ag x r1).mono ?_⟩
  rintro e w2 ⟨u, rfl, rfl, B2, R2, left2, off2, ag2, f2, Y2, v2, hY2, r2⟩
  have b1 := h.bl.trans (f1.below h.xb h.bl.size)
  have hd : ∀ k, X1 k → ¬ Y k := fun k hx hy => by
    rcases hX1 k hx with g | g
    · exact h.xy k g hy
    · have := h.rs.ins k hy; omega
  refine ⟨_, rfl, rfl, ⟨f2.size, fun k hk => f2.block k (Nat.lt_of_lt_of_le (h.kk k hk).1 f1.size) (h.kk k hk).2.2⟩, X1, Y2, _, B2, R2, lim, left2, off2, v2, b1.trans (f2.below h.yb b1.size), fun k hk => ?_, fun k hk => ?_, fun k hx hy => ?_, fun k hk => ⟨Nat.lt_of_lt_of_le (h.kk k hk).1 (Nat.le_trans f1.size f2.size), fun hx => ?_, fun hy => ?_⟩, psj_frx p1 f2 hd, r2, ag2⟩
  · rcases hX1 k hk with g | g
    · exact h.xb k g
    · exact Nat.le_trans h.bl.size g
  · rcases hY2 k hk with g | g
    · exact h.yb k g
    · exact Nat.le_trans b1.size g
  · rcases hY2 k hy with g | g
    · exact hd k hx g
    · have := psj_ins p1 k hx; omega
  · rcases hX1 k hx with g | g
    · exact (h.kk k hk).2.1 g
    · have := (h.kk k hk).1; omega
  · rcases hY2 k hy with g | g
    · exact (h.kk k hk).2.2 g
    · have := (h.kk k hk).1; have := f1.size; omega
end Go.Proofs.Ytfgjdidnnbjalaa
namespace Go.Proofs.Ytfgjdidnnbjalaa
open Go.RowKit Go.Sort Go.Deep
/-- The steps that came in. -/
def StepsJ (w : World) (la : Option Addr) (n : Nat) : Prop :=
  n = 0 ∨ ∃ pb po, la = some ⟨pb, po, none⟩ ∧ ∀ i, i < n → ∃ (d nn : Int) (s : ByteArray), w.rangeAt pb (po + i * 3) [.int .i64 d, .int .i64 nn, .string s] ∧ nn ≤ 9223372036854775807
theorem rowSt : ∃ d, Try.prog.underlying 31 = some d ∧ TypeDesc.isRow d = true := by
  have h : (Try.prog.underlying 31).map TypeDesc.isRow = some true := by kernel_rfl
  obtain ⟨d, h1, h2⟩ := Option.map_eq_some_iff.1 h
  exact ⟨d, h1, h2⟩
theorem sizeSt : (Try.prog.info? 31).map (·.size) = some 3 := by kernel_rfl
theorem zeroSt : ∀ w : World, (zeroValue 31).run Try.prog w = .ok (.agg #[.int .i64 0, .int .i64 0, .string ByteArray.empty]) w := fun _ => by kernel_rfl
/-- A step, as the law keeps it. -/
def BX (W : World) (gs : Nat) (d nn : Int) (s : ByteArray) : Prop := W.cell? ⟨gs, 0, none⟩ = some (.int .i64 d) ∧ W.cell? ⟨gs, 1, none⟩ = some (.int .i64 nn) ∧ W.cell? ⟨gs, 2, none⟩ = some (.string s)
theorem cell_blk {W W' : World} {g i : Nat} (h : W'.heap[g]? = W.heap[g]?) : W'.cell? ⟨g, i, none⟩ = W.cell? ⟨g, i, none⟩ := by
  unfold World.cell?
  simp only [h]
theorem frozen_blk {W W' : World} {g i : Nat} (h : W'.heap[g]? = W.heap[g]?) : W'.frozen? ⟨g, i, none⟩ = W.frozen? ⟨g, i, none⟩ := by
  unfold World.frozen?
  simp only [h]
theorem BX.blk {W W' : World} {gs : Nat} {d nn : Int} {s : ByteArray} (h : BX W gs d nn s) (e : W'.heap[gs]? = W.heap[gs]?) : BX W' gs d nn s := by
  unfold BX
  rw [cell_blk e, cell_blk e, cell_blk e]
  exact h
theorem BX.lt {W : World} {gs : Nat} {d nn : Int} {s : ByteArray} (h : BX W gs d nn s) : gs < W.heap.size := World.block_lt_of_cell? _ _ h.1
theorem BX.below {W W' : World} {gs : Nat} {d nn : Int} {s : ByteArray} (h : BX W gs d nn s) (hb : Below W.heap.size W W') : BX W' gs d nn s := h.blk (hb.block gs h.lt)
theorem holds_blk {W W' : World} {g : Nat} {x : Bs} (h : Holds SP.encB W g 0 x) (e : W'.heap[g]? = W.heap[g]?) : Holds SP.encB W' g 0 x := fun j hj => by
  rw [cell_blk e, frozen_blk e]
  exact h j hj
theorem idxSt (gg oo m c i : Nat) (hi : i < m) (w : World) : (Instr.indexAt 22 (.slice (some ⟨gg, oo, none⟩) m c) (.int .i64 (i : Int))).run Try.prog w = .ok (.pointer (some ⟨gg, oo + i * 3, none⟩)) w := by
  have h1 : ¬ (i : Int) < 0 := by omega
  have h2 : (i : Int) < (m : Int) := by omega
  go_simp
theorem range_bel {w w1 : World} {b o B : Nat} {cs : List Value} (h : w.rangeAt b o cs) (k : Below B w w1) (hb : b < B) : w1.rangeAt b o cs := fun j v hj => by
  rw [k.cell (p := ⟨b, o + j, none⟩) hb]
  exact h j v hj
abbrev K0 : Nat → Prop := fun _ => False
set_option maxRecDepth 100000 in
set_option maxHeartbeats 8000000 in
theorem storeP_core (limit : Int) (la : Option Addr) (n cap : Nat) (w0 : World) (hP : StepsJ w0 la n) :
    Calls Try.prog 3 #[.int .i64 limit, .slice la n cap] w0 fun e w' => e = .returned (.bool true) ∧ Below w0.heap.size w0 w' := by
  have HP := Hid.mk2 hP
  clear hP
  by_cases hn1 : 128 < n
  · have g1 : (128 : Int) < (n : Int) := by omega
    go_enter Try.func3, Try.ntmps3
    go_wp2
    go_ret
    exact ⟨rfl, Below.refl _ _⟩
  · have g1 : ¬ (128 : Int) < (n : Int) := by omega
    by_cases hlim : limit < 64 ∨ 1048576 < limit
    · have hN := new_n limit hlim w0
      have hN2 := rnew_n limit hlim w0
      go_enter Try.func3, Try.ntmps3
      go_wp2_with fail
      refine hN.mono ?_
      rintro e w1 ⟨v1, rfl, rfl, rfl⟩
      go_wp2_with fail
      refine hN2.mono ?_
      rintro e w1 ⟨v1, rfl, rfl, rfl⟩
      clear hN hN2
      go_wp2
      go_ret
      exact ⟨rfl, Below.refl _ _⟩
    · obtain ⟨lim, rfl⟩ : ∃ lim : Nat, limit = (lim : Int) := ⟨limit.toNat, by omega⟩
      have h1 : 64 ≤ lim := by omega
      have h2 : lim ≤ 1048576 := by omega
      have hN := new_y lim h1 h2 w0
      go_enter Try.func3, Try.ntmps3
      go_wp2_with fail
      refine hN.mono ?_
      rintro e w1 ⟨v1, rfl, hb1, bi, rfl, hbb, hp⟩
      have hN2 := rnew_y lim h1 h2 w1
      go_wp2_with fail
      refine hN2.mono ?_
      rintro e w2 ⟨v2, rfl, hb2, bi', rfl, hbb', hr⟩
      have KI : Hid (SJ K0 w0 w2 bi bi') := SJ.start lim h1 h2 w0 w1 w2 bi bi' hb1 hp hbb hb2 hr hbb'
      clear hN hN2 hb1 hbb hp hb2 hbb' hr
      go_wp2_with fail
      go_loopg [5, 7, 9] n (fun gk s5 s7 s9 wr => ∃ i b b' : Nat, i + gk = n ∧ s5 = .pointer (some ⟨b, 0, none⟩) ∧ s7 = .pointer (some ⟨b', 0, none⟩) ∧ s9 = .int .i64 (i : Int) ∧ Hid (SJ K0 w0 wr b b'))
      case atStart => exact ⟨0, bi, bi', by omega, rfl, rfl, rfl, KI⟩
      case round =>
        clear KI
        obtain ⟨i, b, b', hig, rfl, rfl, rfl, KM⟩ := hrel
        by_cases hi : i < n
        · have hi' : (i : Int) < (n : Int) := by omega
          obtain ⟨pb, po, rfl, hPj⟩ : ∃ pb po, la = some ⟨pb, po, none⟩ ∧ ∀ i, i < n → ∃ (d nn : Int) (s : ByteArray), w0.rangeAt pb (po + i * 3) [.int .i64 d, .int .i64 nn, .string s] ∧ nn ≤ 9223372036854775807 := by
            rcases HP.out with h | h
            · omega
            · exact h
          obtain ⟨d, nn, s, hrg0, hnn⟩ := hPj i hi
          have hpb := World.block_lt_of_cell? _ _ (hrg0 0 _ rfl)
          have hrg := range_bel hrg0 KM.out.bel hpb
          have hix := idxSt pb po n cap i hi
          obtain ⟨td, htd, htr⟩ := rowSt
          have HD : Hid (Try.prog.underlying 31 = some td) := htd
          have HZ : Hid ((Try.prog.info? 31).map (·.size) = some 3) := sizeSt
          have zv := zeroSt
          have hbW : Below wr.heap.size wr (wr.alloc (.cells #[.int .i64 d, .int .i64 nn, .string s] 31)) := (Below.refl _ _).alloc (Nat.le_refl _) _
          have KS : Hid (SJ (fun k => k = wr.heap.size) w0 (wr.alloc (.cells #[.int .i64 d, .int .i64 nn, .string s] 31)) b b') := KM.out.grow hbW (fun k hk => Or.inr (by rw [World.size_alloc]; omega))
          have KX : Hid (BX (wr.alloc (.cells #[.int .i64 d, .int .i64 nn, .string s] 31)) wr.heap.size d nn s) := ⟨by simp, by simp, by simp⟩
          have hw : wrap64 ((i : Int) + 1) = ((i + 1 : Nat) : Int) := by unfold wrap64; omega
          have HW := Hid.mk2 hw
          clear hw hPj hrg0 hpb htd hbW
          have e0 := KX.out.1
          have e1 := KX.out.2.1
          have e2 := KX.out.2.2
          by_cases hs : 131072 < s.size
          · have ds : (131072 : Int) < (s.size : Int) := by omega
            have KN : Hid (SJ K0 w0 (wr.alloc (.cells #[.int .i64 d, .int .i64 nn, .string s] 31)) b b') := KS.out.less (fun k hk => hk.elim)
            clear KS KX KM
            go_wp2_with (refine wpList_load_mid rfl 31 _ rfl pb (po + i * 3) rfl [.int .i64 d, .int .i64 nn, .string s] td hrg HD.out htr HZ.out ?_)
            go_roundg (gk - 1)
            case measure => omega
            case rel => exact ⟨i + 1, b, b', by omega, rfl, rfl, rfl, KN⟩
          · have ds : ¬ (131072 : Int) < (s.size : Int) := by omega
            clear KM
            by_cases hd1 : d = 1
            · subst hd1
              go_wp2_with (refine wpList_load_mid rfl 31 _ rfl pb (po + i * 3) rfl [.int .i64 1, .int .i64 nn, .string s] td hrg HD.out htr HZ.out ?_)
              generalize wr.alloc (.cells #[.int .i64 1, .int .i64 nn, .string s] 31) = W1 at KS KX e0 e1 e2 ⊢
              generalize wr.heap.size = gs at *
              have hL := SP.LentJ s W1 (by omega)
              refine hL.mono ?_
              rintro e w2 ⟨rfl, hb2, hH2⟩
              have hg2 : W1.heap.size < w2.heap.size := Holds.lt hH2 (by rw [SP.lent_size]; omega)
              have s2 : SJ (fun k => k = gs ∨ k = W1.heap.size) w0 w2 b b' := KS.out.grow hb2 (fun k hk => by
                rcases hk with rfl | rfl
                · exact Or.inl rfl
                · exact Or.inr ⟨Nat.le_refl _, hg2⟩)
              have x2 : BX w2 gs 1 nn s := KX.out.below hb2
              obtain ⟨r, hA⟩ := s2.add (some ⟨W1.heap.size, 0, none⟩) s.size (s.size + 160) s (lent_partJ hH2 (by omega)) (by omega)
              have hsl := slLentJ W1.heap.size s.size (by omega)
              have c2 := x2.2.2
              have hg0 : w0.heap.size ≤ W1.heap.size := KS.out.bel.size
              have K2 : Hid (BX w2 gs 1 nn s ∧ Holds SP.encB w2 W1.heap.size 0 (SP.lent s) ∧ w0.heap.size ≤ W1.heap.size) := ⟨x2, hH2, hg0⟩
              clear hL hb2 hH2 hg2 s2 x2 hg0 KS KX e0 e1 e2
              generalize W1.heap.size = g at *
              go_wp2_with fail
              refine hA.mono ?_
              rintro e w3 ⟨v3, rfl, rfl, kk3, hB⟩
              have x3 : BX w3 gs 1 nn s := K2.out.1.blk (kk3.2 gs (Or.inl rfl))
              have d2 := x3.2.2
              have K3 : Hid (BX w3 gs 1 nn s ∧ Holds SP.encB w3 g 0 (SP.lent s) ∧ w0.heap.size ≤ g) := ⟨x3, holds_blk K2.out.2.1 (kk3.2 g (Or.inr rfl)), K2.out.2.2⟩
              clear hA kk3 x3 K2 hsl c2
              go_wp2_with fail
              refine hB.mono ?_
              rintro e w4 ⟨v4, rfl, rfl, kk4, s4⟩
              have x4 : BX w4 gs 1 nn s := K3.out.1.blk (kk4.2 gs (Or.inl rfl))
              have d2 := x4.2.2
              have h4 : Holds SP.encB w4 g 0 (SP.lent s) := holds_blk K3.out.2.1 (kk4.2 g (Or.inr rfl))
              have hS := SP.StillJ g (SP.lent s) s w4 (by omega) h4 rfl
              have K4 : Hid (SJ (fun k => k = gs ∨ k = g) w0 w4 b b' ∧ Holds SP.encB w4 g 0 (SP.lent s) ∧ w0.heap.size ≤ g) := ⟨s4, h4, K3.out.2.2⟩
              clear hB kk4 s4 x4 h4 K3
              go_wp2_with fail
              refine hS.mono ?_
              rintro e w5 ⟨rfl, hb5⟩
              have K5 : Hid (SJ (fun k => k = gs ∨ k = g) w0 w5 b b' ∧ Wp g (s.size + 160) w5 w5 ∧ w0.heap.size ≤ g) := ⟨K4.out.1.below hb5, ⟨Below.refl _ _, rfl, fun _ _ => rfl, _, SP.lent_size s, Holds.below K4.out.2.1 hb5 (Holds.lt K4.out.2.1 (by rw [SP.lent_size]; omega))⟩, K4.out.2.2⟩
              clear hS hb5 K4 d2
              go_wp2_with fail
              go_loopg [16] (s.size + 160) (fun gk2 s16 wr2 => ∃ i2 : Nat, i2 + gk2 = s.size + 160 ∧ s16 = .int .i64 (i2 : Int) ∧ Hid (Wp g (s.size + 160) w5 wr2))
              case atStart => exact ⟨0, by omega, rfl, K5.out.2.1⟩
              case round =>
                obtain ⟨i2, hig2, rfl, KM2⟩ := hrel
                by_cases hi2 : i2 < s.size + 160
                · have hi2' : (i2 : Int) < ((s.size + 160 : Nat) : Int) := by omega
                  have hw2 : wrap64 ((i2 : Int) + 1) = ((i2 + 1 : Nat) : Int) := by unfold wrap64; omega
                  have HW2 := Hid.mk2 hw2
                  clear hw2
                  have hix2 := idxB g (s.size + 160) (s.size + 160) i2 hi2
                  obtain ⟨bs, q1, q2⟩ := KM2.out.hb
                  have z1 : wr.frozen? ⟨g, i2, none⟩ = false := by have := (q2 i2 (by omega)).2; rw [Nat.zero_add] at this; exact this
                  have z2 : wr.cell? ⟨g, i2, none⟩ = some (SP.encB bs[i2]!) := by have := (q2 i2 (by omega)).1; rw [Nat.zero_add] at this; exact this
                  have KN : Hid (Wp g (s.size + 160) w5 (wr.setCell ⟨g, i2, none⟩ (.int .u8 7))) := KM2.out.set hi2
                  clear q2 KM2
                  go_wp2
                  go_roundg (gk - 1)
                  case measure => omega
                  case rel => exact ⟨i2 + 1, by omega, rfl, KN⟩
                · have hi2' : ¬ (i2 : Int) < ((s.size + 160 : Nat) : Int) := by omega
                  have KE : Hid (SJ (fun k => k = gs ∨ k = g) w0 wr b b') := K5.out.1.wp (Or.inr rfl) K5.out.2.2 KM2.out
                  clear K5 KM2
                  have hSm := KE.out.same
                  go_wp2_with fail
                  refine hSm.mono ?_
                  rintro e w9 ⟨v9, rfl, hb9, rfl⟩
                  have KN : Hid (SJ K0 w0 w9 b b') := (KE.out.below hb9).less (fun k hk => hk.elim)
                  clear hSm hb9 KE
                  go_wp2
                  go_roundg (n - (i + 1))
                  case measure => omega
                  case rel => exact ⟨i + 1, b, b', by omega, rfl, rfl, rfl, KN⟩
            by_cases hd2 : d = 2
            · subst hd2
              go_wp2_with (refine wpList_load_mid rfl 31 _ rfl pb (po + i * 3) rfl [.int .i64 2, .int .i64 nn, .string s] td hrg HD.out htr HZ.out ?_)
              generalize wr.alloc (.cells #[.int .i64 2, .int .i64 nn, .string s] 31) = W1 at KS KX e0 e1 e2 ⊢
              generalize wr.heap.size = gs at *
              have hA := KS.out.arm nn hnn
              refine hA.mono ?_
              rintro e w2 ⟨rfl, kk2, hB⟩
              have x2 : BX w2 gs 2 nn s := KX.out.blk (kk2.2 gs rfl)
              have d1 := x2.2.1
              clear hA kk2 x2 KX KS e0 e1 e2
              go_wp2_with fail
              refine hB.mono ?_
              rintro e w3 ⟨rfl, kk3, s3⟩
              have KE : Hid (SJ (fun k => k = gs) w0 w3 b b') := s3
              clear hB kk3 s3 d1
              have hSm := KE.out.same
              go_wp2_with fail
              refine hSm.mono ?_
              rintro e w9 ⟨v9, rfl, hb9, rfl⟩
              have KN : Hid (SJ K0 w0 w9 b b') := (KE.out.below hb9).less (fun k hk => hk.elim)
              clear hSm hb9 KE
              go_wp2
              go_roundg (n - (i + 1))
              case measure => omega
              case rel => exact ⟨i + 1, b, b', by omega, rfl, rfl, rfl, KN⟩
            by_cases hd3 : d = 3
            · subst hd3
              obtain ⟨BD, cB, hBs⟩ := KS.out.disk
              by_cases hz : nn = 0
              · subst hz
                go_wp2_with (refine wpList_load_mid rfl 31 _ rfl pb (po + i * 3) rfl [.int .i64 3, .int .i64 0, .string s] td hrg HD.out htr HZ.out ?_)
                generalize wr.alloc (.cells #[.int .i64 3, .int .i64 0, .string s] 31) = W1 at KS KX e0 e1 e2 ⊢
                generalize wr.heap.size = gs at *
                refine (SJ.open (w0 := w0) (K := fun k => k = gs) _ (hBs) _ W1 KS.out.bel (fun k hk => by rw [hk]; exact KX.out.lt)).mono ?_
                rintro e w2 ⟨v2, rfl, hb2, rfl | ⟨b2, b2', rfl, s2⟩⟩
                · have KE : Hid (SJ (fun k => k = gs) w0 w2 b b') := KS.out.below hb2
                  clear hb2 KX KS e0 e1 e2 cB
                  have hSm := KE.out.same
                  go_wp2_with fail
                  refine hSm.mono ?_
                  rintro e w9 ⟨v9, rfl, hb9, rfl⟩
                  have KN : Hid (SJ K0 w0 w9 b b') := (KE.out.below hb9).less (fun k hk => hk.elim)
                  clear hSm hb9 KE
                  go_wp2
                  go_roundg (n - (i + 1))
                  case measure => omega
                  case rel => exact ⟨i + 1, b, b', by omega, rfl, rfl, rfl, KN⟩
                · have KE : Hid (SJ (fun k => k = gs) w0 w2 b2 b2') := s2
                  clear hb2 s2 KX KS e0 e1 e2 cB
                  have hSm := KE.out.same
                  go_wp2_with fail
                  refine hSm.mono ?_
                  rintro e w9 ⟨v9, rfl, hb9, rfl⟩
                  have KN : Hid (SJ K0 w0 w9 b2 b2') := (KE.out.below hb9).less (fun k hk => hk.elim)
                  clear hSm hb9 KE
                  go_wp2
                  go_roundg (n - (i + 1))
                  case measure => omega
                  case rel => exact ⟨i + 1, b2, b2', by omega, rfl, rfl, rfl, KN⟩
              · go_wp2_with (refine wpList_load_mid rfl 31 _ rfl pb (po + i * 3) rfl [.int .i64 3, .int .i64 nn, .string s] td hrg HD.out htr HZ.out ?_)
                generalize wr.alloc (.cells #[.int .i64 3, .int .i64 nn, .string s] 31) = W1 at KS KX e0 e1 e2 ⊢
                generalize wr.heap.size = gs at *
                refine (SJ.open (w0 := w0) (K := fun k => k = gs) _ (hBs) _ W1 KS.out.bel (fun k hk => by rw [hk]; exact KX.out.lt)).mono ?_
                rintro e w2 ⟨v2, rfl, hb2, rfl | ⟨b2, b2', rfl, s2⟩⟩
                · have KE : Hid (SJ (fun k => k = gs) w0 w2 b b') := KS.out.below hb2
                  clear hb2 KX KS e0 e1 e2 cB
                  have hSm := KE.out.same
                  go_wp2_with fail
                  refine hSm.mono ?_
                  rintro e w9 ⟨v9, rfl, hb9, rfl⟩
                  have KN : Hid (SJ K0 w0 w9 b b') := (KE.out.below hb9).less (fun k hk => hk.elim)
                  clear hSm hb9 KE
                  go_wp2
                  go_roundg (n - (i + 1))
                  case measure => omega
                  case rel => exact ⟨i + 1, b, b', by omega, rfl, rfl, rfl, KN⟩
                · have KE : Hid (SJ (fun k => k = gs) w0 w2 b2 b2') := s2
                  clear hb2 s2 KX KS e0 e1 e2 cB
                  have hSm := KE.out.same
                  go_wp2_with fail
                  refine hSm.mono ?_
                  rintro e w9 ⟨v9, rfl, hb9, rfl⟩
                  have KN : Hid (SJ K0 w0 w9 b2 b2') := (KE.out.below hb9).less (fun k hk => hk.elim)
                  clear hSm hb9 KE
                  go_wp2
                  go_roundg (n - (i + 1))
                  case measure => omega
                  case rel => exact ⟨i + 1, b2, b2', by omega, rfl, rfl, rfl, KN⟩
            by_cases hd4 : d = 4
            · subst hd4
              obtain ⟨BD, cB, hBs⟩ := KS.out.disk
              by_cases hz : nn = 0
              · subst hz
                go_wp2_with (refine wpList_load_mid rfl 31 _ rfl pb (po + i * 3) rfl [.int .i64 4, .int .i64 0, .string s] td hrg HD.out htr HZ.out ?_)
                generalize wr.alloc (.cells #[.int .i64 4, .int .i64 0, .string s] 31) = W1 at KS KX e0 e1 e2 ⊢
                generalize wr.heap.size = gs at *
                refine (SJ.open (w0 := w0) (K := fun k => k = gs) _ (by omega) _ W1 KS.out.bel (fun k hk => by rw [hk]; exact KX.out.lt)).mono ?_
                rintro e w2 ⟨v2, rfl, hb2, rfl | ⟨b2, b2', rfl, s2⟩⟩
                · have KE : Hid (SJ (fun k => k = gs) w0 w2 b b') := KS.out.below hb2
                  clear hb2 KX KS e0 e1 e2 cB
                  have hSm := KE.out.same
                  go_wp2_with fail
                  refine hSm.mono ?_
                  rintro e w9 ⟨v9, rfl, hb9, rfl⟩
                  have KN : Hid (SJ K0 w0 w9 b b') := (KE.out.below hb9).less (fun k hk => hk.elim)
                  clear hSm hb9 KE
                  go_wp2
                  go_roundg (n - (i + 1))
                  case measure => omega
                  case rel => exact ⟨i + 1, b, b', by omega, rfl, rfl, rfl, KN⟩
                · have KE : Hid (SJ (fun k => k = gs) w0 w2 b2 b2') := s2
                  clear hb2 s2 KX KS e0 e1 e2 cB
                  have hSm := KE.out.same
                  go_wp2_with fail
                  refine hSm.mono ?_
                  rintro e w9 ⟨v9, rfl, hb9, rfl⟩
                  have KN : Hid (SJ K0 w0 w9 b2 b2') := (KE.out.below hb9).less (fun k hk => hk.elim)
                  clear hSm hb9 KE
                  go_wp2
                  go_roundg (n - (i + 1))
                  case measure => omega
                  case rel => exact ⟨i + 1, b2, b2', by omega, rfl, rfl, rfl, KN⟩
              · go_wp2_with (refine wpList_load_mid rfl 31 _ rfl pb (po + i * 3) rfl [.int .i64 4, .int .i64 nn, .string s] td hrg HD.out htr HZ.out ?_)
                generalize wr.alloc (.cells #[.int .i64 4, .int .i64 nn, .string s] 31) = W1 at KS KX e0 e1 e2 ⊢
                generalize wr.heap.size = gs at *
                refine (SJ.open (w0 := w0) (K := fun k => k = gs) _ (by omega) _ W1 KS.out.bel (fun k hk => by rw [hk]; exact KX.out.lt)).mono ?_
                rintro e w2 ⟨v2, rfl, hb2, rfl | ⟨b2, b2', rfl, s2⟩⟩
                · have KE : Hid (SJ (fun k => k = gs) w0 w2 b b') := KS.out.below hb2
                  clear hb2 KX KS e0 e1 e2 cB
                  have hSm := KE.out.same
                  go_wp2_with fail
                  refine hSm.mono ?_
                  rintro e w9 ⟨v9, rfl, hb9, rfl⟩
                  have KN : Hid (SJ K0 w0 w9 b b') := (KE.out.below hb9).less (fun k hk => hk.elim)
                  clear hSm hb9 KE
                  go_wp2
                  go_roundg (n - (i + 1))
                  case measure => omega
                  case rel => exact ⟨i + 1, b, b', by omega, rfl, rfl, rfl, KN⟩
                · have KE : Hid (SJ (fun k => k = gs) w0 w2 b2 b2') := s2
                  clear hb2 s2 KX KS e0 e1 e2 cB
                  have hSm := KE.out.same
                  go_wp2_with fail
                  refine hSm.mono ?_
                  rintro e w9 ⟨v9, rfl, hb9, rfl⟩
                  have KN : Hid (SJ K0 w0 w9 b2 b2') := (KE.out.below hb9).less (fun k hk => hk.elim)
                  clear hSm hb9 KE
                  go_wp2
                  go_roundg (n - (i + 1))
                  case measure => omega
                  case rel => exact ⟨i + 1, b2, b2', by omega, rfl, rfl, rfl, KN⟩
            by_cases hd6 : d = 6
            · subst hd6
              obtain ⟨BD, cB, hBs⟩ := KS.out.disk
              by_cases hneg : nn < 0
              · go_wp2_with (refine wpList_load_mid rfl 31 _ rfl pb (po + i * 3) rfl [.int .i64 6, .int .i64 nn, .string s] td hrg HD.out htr HZ.out ?_)
                generalize wr.alloc (.cells #[.int .i64 6, .int .i64 nn, .string s] 31) = W1 at KS KX e0 e1 e2 ⊢
                generalize wr.heap.size = gs at *
                refine (SJ.open (w0 := w0) (K := fun k => k = gs) _ (by decide) _ W1 KS.out.bel (fun k hk => by rw [hk]; exact KX.out.lt)).mono ?_
                rintro e w2 ⟨v2, rfl, hb2, rfl | ⟨b2, b2', rfl, s2⟩⟩
                · have KE : Hid (SJ (fun k => k = gs) w0 w2 b b') := KS.out.below hb2
                  clear hb2 KX KS e0 e1 e2 cB
                  have hSm := KE.out.same
                  go_wp2_with fail
                  refine hSm.mono ?_
                  rintro e w9 ⟨v9, rfl, hb9, rfl⟩
                  have KN : Hid (SJ K0 w0 w9 b b') := (KE.out.below hb9).less (fun k hk => hk.elim)
                  clear hSm hb9 KE
                  go_wp2
                  go_roundg (n - (i + 1))
                  case measure => omega
                  case rel => exact ⟨i + 1, b, b', by omega, rfl, rfl, rfl, KN⟩
                · have KE : Hid (SJ (fun k => k = gs) w0 w2 b2 b2') := s2
                  clear hb2 s2 KX KS e0 e1 e2 cB
                  have hSm := KE.out.same
                  go_wp2_with fail
                  refine hSm.mono ?_
                  rintro e w9 ⟨v9, rfl, hb9, rfl⟩
                  have KN : Hid (SJ K0 w0 w9 b2 b2') := (KE.out.below hb9).less (fun k hk => hk.elim)
                  clear hSm hb9 KE
                  go_wp2
                  go_roundg (n - (i + 1))
                  case measure => omega
                  case rel => exact ⟨i + 1, b2, b2', by omega, rfl, rfl, rfl, KN⟩
              · by_cases hbig : (BD.size : Int) < nn
                · go_wp2_with (refine wpList_load_mid rfl 31 _ rfl pb (po + i * 3) rfl [.int .i64 6, .int .i64 nn, .string s] td hrg HD.out htr HZ.out ?_)
                  generalize wr.alloc (.cells #[.int .i64 6, .int .i64 nn, .string s] 31) = W1 at KS KX e0 e1 e2 ⊢
                  generalize wr.heap.size = gs at *
                  refine (SJ.open (w0 := w0) (K := fun k => k = gs) _ (by decide) _ W1 KS.out.bel (fun k hk => by rw [hk]; exact KX.out.lt)).mono ?_
                  rintro e w2 ⟨v2, rfl, hb2, rfl | ⟨b2, b2', rfl, s2⟩⟩
                  · have KE : Hid (SJ (fun k => k = gs) w0 w2 b b') := KS.out.below hb2
                    clear hb2 KX KS e0 e1 e2 cB
                    have hSm := KE.out.same
                    go_wp2_with fail
                    refine hSm.mono ?_
                    rintro e w9 ⟨v9, rfl, hb9, rfl⟩
                    have KN : Hid (SJ K0 w0 w9 b b') := (KE.out.below hb9).less (fun k hk => hk.elim)
                    clear hSm hb9 KE
                    go_wp2
                    go_roundg (n - (i + 1))
                    case measure => omega
                    case rel => exact ⟨i + 1, b, b', by omega, rfl, rfl, rfl, KN⟩
                  · have KE : Hid (SJ (fun k => k = gs) w0 w2 b2 b2') := s2
                    clear hb2 s2 KX KS e0 e1 e2 cB
                    have hSm := KE.out.same
                    go_wp2_with fail
                    refine hSm.mono ?_
                    rintro e w9 ⟨v9, rfl, hb9, rfl⟩
                    have KN : Hid (SJ K0 w0 w9 b2 b2') := (KE.out.below hb9).less (fun k hk => hk.elim)
                    clear hSm hb9 KE
                    go_wp2
                    go_roundg (n - (i + 1))
                    case measure => omega
                    case rel => exact ⟨i + 1, b2, b2', by omega, rfl, rfl, rfl, KN⟩
                · obtain ⟨m, rfl⟩ : ∃ m : Nat, nn = (m : Int) := ⟨nn.toNat, by omega⟩
                  have hwm : IntKind.i64.wrap ((BD.size : Int) - (m : Int)) = (BD.size : Int) - (m : Int) := by rw [IntKind.wrap_i64]; omega
                  have gm1 : (0 : Int) ≤ (BD.size : Int) - (m : Int) := by omega
                  have gm2 : (BD.size : Int) - (m : Int) ≤ (BD.size : Int) := by omega
                  go_wp2_with (refine wpList_load_mid rfl 31 _ rfl pb (po + i * 3) rfl [.int .i64 6, .int .i64 (m : Int), .string s] td hrg HD.out htr HZ.out ?_)
                  generalize wr.alloc (.cells #[.int .i64 6, .int .i64 (m : Int), .string s] 31) = W1 at KS KX e0 e1 e2 ⊢
                  generalize wr.heap.size = gs at *
                  refine (SJ.open (w0 := w0) (K := fun k => k = gs) _ (by rw [ByteArray.size_extract]; omega) _ W1 KS.out.bel (fun k hk => by rw [hk]; exact KX.out.lt)).mono ?_
                  rintro e w2 ⟨v2, rfl, hb2, rfl | ⟨b2, b2', rfl, s2⟩⟩
                  · have KE : Hid (SJ (fun k => k = gs) w0 w2 b b') := KS.out.below hb2
                    clear hb2 KX KS e0 e1 e2 cB
                    have hSm := KE.out.same
                    go_wp2_with fail
                    refine hSm.mono ?_
                    rintro e w9 ⟨v9, rfl, hb9, rfl⟩
                    have KN : Hid (SJ K0 w0 w9 b b') := (KE.out.below hb9).less (fun k hk => hk.elim)
                    clear hSm hb9 KE
                    go_wp2
                    go_roundg (n - (i + 1))
                    case measure => omega
                    case rel => exact ⟨i + 1, b, b', by omega, rfl, rfl, rfl, KN⟩
                  · have KE : Hid (SJ (fun k => k = gs) w0 w2 b2 b2') := s2
                    clear hb2 s2 KX KS e0 e1 e2 cB
                    have hSm := KE.out.same
                    go_wp2_with fail
                    refine hSm.mono ?_
                    rintro e w9 ⟨v9, rfl, hb9, rfl⟩
                    have KN : Hid (SJ K0 w0 w9 b2 b2') := (KE.out.below hb9).less (fun k hk => hk.elim)
                    clear hSm hb9 KE
                    go_wp2
                    go_roundg (n - (i + 1))
                    case measure => omega
                    case rel => exact ⟨i + 1, b2, b2', by omega, rfl, rfl, rfl, KN⟩
            by_cases hd5 : d = 5
            · subst hd5
              go_wp2_with (refine wpList_load_mid rfl 31 _ rfl pb (po + i * 3) rfl [.int .i64 5, .int .i64 nn, .string s] td hrg HD.out htr HZ.out ?_)
              generalize wr.alloc (.cells #[.int .i64 5, .int .i64 nn, .string s] 31) = W1 at KS KX e0 e1 e2 ⊢
              generalize wr.heap.size = gs at *
              have hA := KS.out.rec nn
              refine hA.mono ?_
              rintro e w2 ⟨v2, rfl, hb2, rfl⟩
              have KE : Hid (SJ (fun k => k = gs) w0 w2 b b') := KS.out.below hb2
              clear hA hb2 KX KS e0 e1 e2
              have hSm := KE.out.same
              go_wp2_with fail
              refine hSm.mono ?_
              rintro e w9 ⟨v9, rfl, hb9, rfl⟩
              have KN : Hid (SJ K0 w0 w9 b b') := (KE.out.below hb9).less (fun k hk => hk.elim)
              clear hSm hb9 KE
              go_wp2
              go_roundg (n - (i + 1))
              case measure => omega
              case rel => exact ⟨i + 1, b, b', by omega, rfl, rfl, rfl, KN⟩
            go_wp2_with (refine wpList_load_mid rfl 31 _ rfl pb (po + i * 3) rfl [.int .i64 d, .int .i64 nn, .string s] td hrg HD.out htr HZ.out ?_)
            generalize wr.alloc (.cells #[.int .i64 d, .int .i64 nn, .string s] 31) = W1 at KS KX e0 e1 e2 ⊢
            generalize wr.heap.size = gs at *
            have KE := KS
            clear KX KS e0 e1 e2
            have hSm := KE.out.same
            refine hSm.mono ?_
            rintro e w9 ⟨v9, rfl, hb9, rfl⟩
            have KN : Hid (SJ K0 w0 w9 b b') := (KE.out.below hb9).less (fun k hk => hk.elim)
            clear hSm hb9 KE
            go_wp2
            go_roundg (n - (i + 1))
            case measure => omega
            case rel => exact ⟨i + 1, b, b', by omega, rfl, rfl, rfl, KN⟩
        · have hi' : ¬ (i : Int) < (n : Int) := by omega
          obtain ⟨q, m, c, cq, hm⟩ := KM.out.len
          have KQ : Hid (SJ K0 w0 wr b b' ∧ wr.cell? ⟨b', 2, none⟩ = some (.slice q m c)) := ⟨KM.out, cq⟩
          clear KM cq
          go_wp2_with fail
          go_loopg [23] (m + 2) (fun gk2 s23 wq => ∃ t : Int, -1 ≤ t ∧ t + gk2 = m + 1 ∧ s23 = .int .i64 t ∧ Hid (SJ K0 w0 wq b b' ∧ wq.cell? ⟨b', 2, none⟩ = some (.slice q m c)))
          case atStart => exact ⟨-1, by omega, by omega, rfl, KQ⟩
          case round =>
            clear KQ
            obtain ⟨t, ht1, ht2, rfl, KM2⟩ := hrel
            have c2 := KM2.out.2
            by_cases hle : t ≤ (m : Int)
            · have hA := KM2.out.1.rec t
              go_wp2_with fail
              refine hA.mono ?_
              rintro e w5 ⟨v5, rfl, hb5, rfl⟩
              have KN : Hid (SJ K0 w0 w5 b b' ∧ w5.cell? ⟨b', 2, none⟩ = some (.slice q m c)) := ⟨KM2.out.1.below hb5, by rw [hb5.cell (p := ⟨b', 2, none⟩) (World.block_lt_of_cell? _ _ c2)]; exact c2⟩
              clear hA hb5 KM2 c2
              go_wp2
              go_roundg (gk - 1)
              case measure => omega
              case rel => exact ⟨t + 1, by omega, by omega, rfl, KN⟩
            · have KF := Hid.mk2 KM2.out.1.bel
              go_wp2
              go_ret
              exact ⟨rfl, KF.out⟩
end Go.Proofs.Ytfgjdidnnbjalaa
/-
  THE ROW OF 'StorePlays' round its walk: a number and a slice of structs (two integers, a string).
-/
namespace Go.Proofs.Ytfgjdidnnbjalaa.storePlays
open Go.ChangeShapes Go.WideShapes Go.ChangeAt Go.RowKit
theorem own : ownKnob Try.prog.godebug = none := by kernel_rfl
theorem laidOut : laidOutB Try.prog = true := by kernel_rfl
theorem cellsSt : Try.prog.cellsOf 31 = 3 := by kernel_rfl
theorem cells3 : Try.prog.cellsOf 3 = 1 := by kernel_rfl
theorem cells9 : Try.prog.cellsOf 9 = 1 := by kernel_rfl
theorem range64 {n : Int} (h : (Lit.int .i64 n).wf = true) : -9223372036854775808 ≤ n ∧ n ≤ 9223372036854775807 := by
  simp only [Lit.wf, Bool.and_eq_true, decide_eq_true_eq] at h
  exact h
set_option maxRecDepth 100000 in
theorem step_of {H : Type} {enc : TypeId × Value → H} {W : World} {n : Nat} {cs : List Value} {x : DataW H × List MemPlace} (h : DataW.trod enc Try.prog W 0 (fun _ => true) true n 31 cs = some x) :
    ∃ (d nn : Int) (s : ByteArray), cs = [.int .i64 d, .int .i64 nn, .string s] ∧ nn ≤ 9223372036854775807 := by
  obtain ⟨y0, y1, y2, m, _, hl, h0, h1, h2⟩ := Go.Deep.trod_struct3 Try.underlying31 h
  rw [cellsSt] at hl
  match cs, hl with
  | [a, b, c], _ =>
    obtain ⟨d0, e0, _, _⟩ := DataW.trod_int Try.underlying3 h0
    obtain ⟨d1, e1, _, w1⟩ := DataW.trod_int Try.underlying3 h1
    obtain ⟨s2, e2, _, w2⟩ := DataW.trod_string Try.underlying9 h2
    simp only [cells3, cells9, List.drop_zero, List.drop_succ_cons, List.take_succ_cons, List.take_zero, List.cons.injEq, and_true] at e0 e1 e2
    exact ⟨d0, d1, s2, by rw [e0, e1, e2], (range64 w1).2⟩
set_option maxRecDepth 100000 in
theorem lifted (os : Os) (started : os.Started) (H : Type) (enc : TypeId × Value → H) :
    ReturnsInHanded {} Try.checked os 3 .any (Rows.storePlaysSpec.pre6 enc Try.prog Try.f3 Rows.storePlaysRow.domain false) (Rows.storePlaysSpec.post enc Try.prog Try.f3 false true false false) := by
  refine returnsInHanded_of_change (C := Try.checked) own started (by kernel_rfl) Try.func3
    (ChangeSpec.witness6 (enc := enc) (C := Try.checked) false ⟨#[], #[.int .i64 0, .slice none 0 0], []⟩ 8 (by kernel_rfl) (by kernel_rfl) (by kernel_rfl) (by kernel_rfl)) ?_
  intro W base args ds gs before hval0 hW hcnd _
  have hval : ∀ (j : Nat) t v, Try.f3.params[j]? = some t → args[j]? = some v → Value.okWide Try.prog W .any base t v := hval0
  have hW' := hW
  obtain ⟨p, q, hA0, hV, rfl, hfz, hnd⟩ := hW
  have hA : DataW.TrodAll enc Try.prog W 0 (fun _ => true) true Try.f3.params.toList args.toList ds p := hA0
  rw [Try.params3] at hA hval
  obtain ⟨v0, vs0, d0, ds0, p0, q0, hargs, rfl, rfl, h0, r0⟩ := trodAll_cons hA
  obtain ⟨v1, vs1, d1, ds1, p1, q1, rfl, rfl, rfl, h1, r1⟩ := trodAll_cons r0
  obtain ⟨rfl, rfl, rfl⟩ := trodAll_nil r1
  obtain rfl : args = #[v0, v1] := by cases args; simp_all
  obtain ⟨rfl, rfl⟩ := trodVars_none hV
  obtain ⟨a0, rfl, rfl, rfl, w0⟩ := open_int Try.underlying3 (hval 0 3 v0 rfl rfl) h0
  obtain ⟨a1, len1, cap1, rfl⟩ := okWide_slice Try.underlying22 (hval 1 22 v1 rfl rfl)
  have k1 := h1
  have lt1 : ∀ x ∈ p1, x.block < W.heap.size := by obtain ⟨m, hm⟩ := k1; exact DataW.trod_lt m _ _ _ hm
  have hst : StepsJ W a1 len1 := by
    obtain ⟨fuel, hf⟩ := h1
    rcases Go.Deep.open_slice Try.underlying22 hf with ⟨hcs, _⟩ | ⟨a, l, c, m, n, D, Pl, hcs, _, hl, hm, hmm, _, hx⟩
    · simp [Value.cells] at hcs
      obtain ⟨rfl, rfl, rfl⟩ := hcs
      exact Or.inl rfl
    · simp [Value.cells] at hcs
      obtain ⟨rfl, rfl, rfl⟩ := hcs
      simp only [if_true] at hmm
      subst hmm
      by_cases h00 : len1 = 0
      · exact Or.inl h00
      rw [cellsSt] at hx
      obtain ⟨b, off, spot⟩ := a
      obtain ⟨cs0, hc0, ht0⟩ := hx 0 (by omega)
      obtain ⟨_, hlen0, hcell0⟩ := World.cells?_some hc0
      obtain ⟨_, _, _, rfl, _⟩ := step_of ht0
      have hspot : spot = none := by simpa [Addr.add] using World.cell?_spot (hcell0 0 (by omega))
      subst hspot
      refine Or.inr ⟨b, off, rfl, fun i hi => ?_⟩
      obtain ⟨cs, hc, ht⟩ := hx i (by omega)
      obtain ⟨_, hlen, hcell⟩ := World.cells?_some hc
      obtain ⟨d, nn, s, rfl, hs⟩ := step_of ht
      refine ⟨d, nn, s, fun j v hj => ?_, hs⟩
      have hj4 : j < 3 := (List.getElem?_eq_some_iff.1 hj).1
      have := hcell j hj4
      rw [hj, Addr.add_mid, Addr.add_mid] at this
      exact this
  clear hA0 hval0
  refine (storeP_core a0 a1 len1 cap1 W hst).mono fun e W' ⟨he, bel⟩ => ?_
  subst he
  exact ⟨_, rfl, _, _, _, [], _, [], hW', trodAll_mk1 (shut_bool Try.underlying4 _), (trodAll_cons_mk (shut_int Try.underlying3 w0) (trodAll_cons_mk (Below.trod laidOut (by kernel_rfl) (of_decide_eq_true (by kernel_rfl)) k1 bel lt1) trodAll_mk0)), rfl, bel.frame _, fun h => by cases h⟩
theorem over : Rows.storePlaysRow.holds Try.pinned (OpenSpec.ofChange Rows.storePlaysSpec) :=
  OpenClaim.holds_of_wide 3 Try.f3 rfl rfl rfl rfl rfl rfl rfl ⟨rfl, rfl, rfl, rfl, rfl⟩ rfl rfl rfl rfl rfl (by kernel_rfl) Try.func3 (by kernel_rfl)
    (of_decide_eq_true (by kernel_rfl)) (by unfold Func.isWrapper; first | (rw [if_pos (by decide +kernel)]; kernel_rfl) | (rw [if_neg (by decide +kernel)]; exact ⟨rfl, rfl⟩))
    (fun os started H enc _ => lifted os started H enc)
theorem proved : Rows.StorePlaysSaid :=
  over
end Go.Proofs.Ytfgjdidnnbjalaa.storePlays
namespace Go.Proofs.Ytfgjdidnnbjalaa
/-- THE STATEMENT. -/
theorem storePlays_holds : Rows.StorePlaysSaid := storePlays.proved
#print axioms storePlays_holds
end Go.Proofs.Ytfgjdidnnbjalaa
