import Derived.Laws.AppendOwn
import Derived.Deep.AppendSrc
import Derived.Lib.AppendZeros
import Derived.Deep.MidRow
import Derived.BigQuiet
import Derived.Lib.ConvBytes
import Derived.BigRegion
import Derived.Deep.RegionLaw
import Derived.Laws.OwnMore
import Derived.ArgAppend
import Derived.StillTailTactics
import Derived.Deep.LoopGhost
import Derived.Test.YtmepmoalhgehhaaGreatDoorks13
set_option linter.unusedVariables false
set_option linter.unusedSimpArgs false
namespace Go.Proofs.YtmepmoalhgehhaaGreatDoor
open Go.RowKit Go.Sort Go.Deep
variable {P : Nat} [NeZero P]
/-- Points that lie in memory: their blocks, their caps. -/
def Pk (W : World) (l : List (Nat × Nat × EC.Pt P)) : Prop := ∀ x ∈ l, 33 ≤ x.2.1 ∧ x.1 < W.heap.size ∧ EC.On x.2.2 ∧ Holds encB W x.1 0 (wr x.2.2)
theorem Pk.call {W W' : World} {l : List (Nat × Nat × EC.Pt P)} (h : Pk W l) (hb : Below W.heap.size W W') : Pk W' l := fun x hx =>
  ⟨(h x hx).1, Nat.lt_of_lt_of_le (h x hx).2.1 hb.size, (h x hx).2.2.1, Holds.below (h x hx).2.2.2 hb (h x hx).2.1⟩
theorem Pk.only {W W' : World} {l : List (Nat × Nat × EC.Pt P)} {b o n : Nat} (h : Pk W l) (hO : Only b o n W W') (hne : ∀ x ∈ l, x.1 ≠ b) : Pk W' l := fun x hx =>
  ⟨(h x hx).1, Nat.lt_of_lt_of_le (h x hx).2.1 hO.size, (h x hx).2.2.1, Holds.other (h x hx).2.2.2 hO (hne x hx) (by rw [wr_size]; decide)⟩
theorem Pk.cons {W : World} {l : List (Nat × Nat × EC.Pt P)} {g c : Nat} {X : EC.Pt P} (h : Pk W l) (h1 : 33 ≤ c) (h2 : g < W.heap.size) (h3 : EC.On X) (h4 : Holds encB W g 0 (wr X)) : Pk W ((g, c, X) :: l) := fun x hx => by
  rcases List.mem_cons.1 hx with e | e
  · subst e; exact ⟨h1, h2, h3, h4⟩
  · exact h x e
theorem Pk.at {W : World} {l : List (Nat × Nat × EC.Pt P)} (h : Pk W l) (j : Nat) {g c : Nat} {X : EC.Pt P} (hj : l[j]? = some (g, c, X)) : 33 ≤ c ∧ g < W.heap.size ∧ EC.On X ∧ Holds encB W g 0 (wr X) := h _ (List.mem_of_getElem? hj)
theorem arg33_k {W : World} {g c : Nat} {X : EC.Pt P} (h : 33 ≤ c ∧ g < W.heap.size ∧ EC.On X ∧ Holds encB W g 0 (wr X)) : Arg33 W (.slice (some ⟨g, 0, none⟩) 33 c) (wr X) :=
  ⟨_, _, _, rfl, wr_size _, fun _ => ⟨g, 0, rfl, h.1, h.2.1, h.2.2.2⟩⟩
theorem order_big {N : Nat} (hG : Gap 4624529908474429119 4994812053365940164 1 N) : 2 ^ 248 < N := by
  have := hG.hP2
  unfold top at this
  omega
theorem beV_cons (x : UInt8) (r : List UInt8) : beV (x :: r) = x.toNat * 256 ^ r.length + beV r := by
  have h := beV_append [x] r
  rw [show [x] ++ r = x :: r from rfl] at h
  rw [h]
  simp [beV]
theorem beV_set : ∀ (l : List UInt8) (i : Nat) (h : i < l.length) (v : UInt8), beV (l.set i v) + (l[i]'h).toNat * 256 ^ (l.length - 1 - i) = beV l + v.toNat * 256 ^ (l.length - 1 - i)
  | x :: r, 0, h, v => by
    rw [List.set_cons_zero, beV_cons, beV_cons, List.getElem_cons_zero, List.length_cons, Nat.add_sub_cancel, Nat.sub_zero]
    omega
  | x :: r, i + 1, h, v => by
    have ih := beV_set r i (by simpa using h) v
    rw [List.set_cons_succ, beV_cons, beV_cons, List.getElem_cons_succ, List.length_set, List.length_cons, show r.length + 1 - 1 - (i + 1) = r.length - 1 - i by omega]
    omega
theorem str_eqL (a : Bs) : ((⟨a⟩ : ByteArray).toList == (⟨a⟩ : ByteArray).toList) = true := by simp
end Go.Proofs.YtmepmoalhgehhaaGreatDoor
namespace Go.Proofs.YtmepmoalhgehhaaGreatDoor
open Go.RowKit Go.Sort Go.Deep
variable {N : Nat}
def S2 (nb pl : Nat) : Nat → Nat := fun j => if j = 0 then nb else pl
/-- The bytes that the mint's key for a place comes of. -/
def mkH (k : Bs) (nb pl : Nat) : Bs := derH (S2 nb pl) k 2 [109, 105, 110, 116]
def mkN (N : Nat) (k : Bs) (nb pl : Nat) : Nat := kSc N (mkH k nb pl)
theorem mkN_lt (O : Ord N) (k : Bs) (nb pl : Nat) : mkN N k nb pl < N := kSc_lt O _
set_option maxHeartbeats 2000000 in
set_option maxRecDepth 100000 in
theorem mintKey_c (O : Ord N) (sq : Option Addr) (sn sc : Nat) (k : Bs) (nb pl : Nat) (hnb : nb < 4294967296) (hpl : pl < 20) (w : World) (hk : SP.PartOk w (.slice sq sn sc) k.toList) :
    Calls Tryz.prog 12 #[.slice sq sn sc, .int .u32 (nb : Int), .int .i64 (pl : Int)] w (Ret fun e w' => Below w.heap.size w w' ∧ e = nv (mkN N k nb pl)) := by
  obtain ⟨w1, hw1⟩ : ∃ w1, Hid (w.alloc (.cells #[.int .u64 0, .int .u64 0, .int .u64 0, .int .u64 0] 47) = w1) := ⟨_, rfl⟩
  obtain ⟨w2, hw2⟩ : ∃ w2, Hid (w1.alloc (.cells #[.int .u32 (nb : Int), .int .u32 (pl : Int)] 22) = w2) := ⟨_, rfl⟩
  have e1 : w1.heap.size = w.heap.size + 1 := by rw [← hw1.out, World.size_alloc]
  have hb12 : Below w1.heap.size w1 w2 := by rw [← hw2.out]; exact below1 w1 _
  have hb01 : Below w.heap.size w w1 := by rw [← hw1.out]; exact below1 w _
  have K2 : Hid (Row w2 w.heap.size [.int .u64 0, .int .u64 0, .int .u64 0, .int .u64 0] ∧ Below w.heap.size w w2) := by
    refine ⟨?_, hb01.trans (hb12.mono hb01.size)⟩
    have q1 : Row w1 w.heap.size [.int .u64 0, .int .u64 0, .int .u64 0, .int .u64 0] := by rw [← hw1.out]; exact row_new w _ _
    exact q1.below hb12
  have hN : NumsK w2 (some ⟨w.heap.size + 1, 0, none⟩) 2 (S2 nb pl) := by
    refine ⟨fun j hj => ?_, fun _ => ⟨w.heap.size + 1, 0, rfl, ?_, fun j hj => ?_⟩⟩
    · unfold S2
      by_cases h : j = 0
      · rw [if_pos h]; exact hnb
      · rw [if_neg h]; omega
    · rw [← hw2.out, World.size_alloc, e1]; omega
    · have hr := (row_new w1 [.int .u32 (nb : Int), .int .u32 (pl : Int)] 22).2.1
      rw [← e1, ← hw2.out, Nat.zero_add]
      have hj2 : j = 0 ∨ j = 1 := by omega
      rcases hj2 with rfl | rfl
      · exact hr 0 _ rfl
      · exact hr 1 _ rfl
  have hk2 : SP.PartOk w2 (.slice sq sn sc) k.toList := (hk.below hb01).below hb12
  have hD := derived_c sq sn sc k ⟨#[109, 105, 110, 116]⟩ (by decide) (some ⟨w.heap.size + 1, 0, none⟩) 2 2 (S2 nb pl) w2 (by decide) hk2 hN
  have hTs : (mkH k nb pl).size = 32 := derH_size _ _ _ _
  have HSc := Hid.mk2 (fun r w (h : Holds encB w r 0 (mkH k nb pl)) => scalarOf_c O r (mkH k nb pl) w hTs h)
  have hD2 : Calls Tryz.prog 27 #[.slice sq sn sc, .string ⟨#[109, 105, 110, 116]⟩, .slice (some ⟨w.heap.size + 1, 0, none⟩) 2 2] w2 (Ret fun e w' => Below w2.heap.size w2 w' ∧ ∃ r, e = .slice (some ⟨r, 0, none⟩) 32 32 ∧ w2.heap.size ≤ r ∧ Holds encB w' r 0 (mkH k nb pl)) := hD
  have HX : Hid (mkN N k nb pl = kSc N (mkH k nb pl)) := rfl
  rw [HX.out]
  generalize mkH k nb pl = T at hD2 HSc hTs
  generalize kSc N T = x at HSc ⊢
  obtain ⟨vx, hvx⟩ : ∃ vx, Hid (nv x = vx) := ⟨_, rfl⟩
  rw [hvx.out] at HSc ⊢
  have wp : IntKind.u32.wrap (pl : Int) = (pl : Int) := by rw [IntKind.wrap_u32]; omega
  clear hk hD hN hk2 hb12 hb01 HX
  go_enter Tryz.func12, Tryz.ntmps12
  go_wp2_with fail
  rw [hw1.out, hw2.out]
  clear hw1 hw2
  refine hD2.mono ?_
  rintro e w3 ⟨v3, rfl, hb3, r, rfl, hr, hH3⟩
  have K3 : Hid (Row w3 w.heap.size [.int .u64 0, .int .u64 0, .int .u64 0, .int .u64 0] ∧ Below w.heap.size w w3 ∧ Holds encB w3 r 0 T) := ⟨K2.out.1.below hb3, K2.out.2.trans (hb3.mono K2.out.2.size), hH3⟩
  clear hb3 hr hH3 hD2 K2
  go_wp2_with fail
  refine (HSc.out r w3 K3.out.2.2).mono ?_
  rintro e w4 ⟨v4, rfl, hb4, rfl⟩
  have K4 : Hid (Row w4 w.heap.size [.int .u64 0, .int .u64 0, .int .u64 0, .int .u64 0] ∧ Below w.heap.size w w4) := ⟨K3.out.1.below hb4, K3.out.2.1.trans (hb4.mono K3.out.2.1.size)⟩
  clear hb4 K3 HSc
  obtain ⟨w5, hw5⟩ : ∃ w5, Hid (w4.setCells w.heap.size 0 (wn x) = w5) := ⟨_, rfl⟩
  have K5 : Hid (Row w5 w.heap.size (wn x) ∧ Below w.heap.size w w5) := by rw [← hw5.out]; exact ⟨K4.out.1.put rfl, RG.below_setCells (Nat.le_refl _) _ _ _ K4.out.2⟩
  go_wp2_with (refine wpList_store_mid rfl 47 _ _ rfl w.heap.size 0 (wn x).toArray ?_ ?_ ?_ ?_ ?_ ?_; rfl; exact hvx.out.symm; exact K4.out.1.2.2; exact i40; exact wn_one x; rw [show (wn x).toArray.toList = wn x from rfl, hw5.out])
  refine bodyPost_ret (results_cell 6 47 rfl K5.out.1 rfl u40 i40) rfl ?_
  exact ⟨_, rfl, K5.out.2, hvx.out⟩
end Go.Proofs.YtmepmoalhgehhaaGreatDoor
namespace Go.Proofs.YtmepmoalhgehhaaGreatDoor
open Go.RowKit Go.Sort Go.Deep
variable {N : Nat}
theorem isSeedY_c (q : Option Addr) (n c : Nat) (w : World) : Calls Tryz.prog 11 #[.slice q n c] w fun e w' => e = .returned (.bool (decide (n = 32))) ∧ w' = w := by
  go_enter Tryz.func11, Tryz.ntmps11
  by_cases h : n = 32
  · have hi : (n : Int) = 32 := by omega
    subst h
    go_wp2
    go_ret
    exact ⟨rfl, rfl⟩
  · have hi : ¬ (n : Int) = 32 := by omega
    have hd : decide (n = 32) = false := decide_eq_false h
    go_wp2
    go_ret
    exact ⟨by simp [h, hi], rfl⟩
set_option maxHeartbeats 1000000 in
theorem Key_c (O : Ord N) (sq : Option Addr) (sc : Nat) (k : Bs) (nb i x : Nat) (hnb : nb < 4294967296) (hi : i < 20) (hx : x = 2 ^ i) (w : World) (hk : SP.PartOk w (.slice sq 32 sc) k.toList) (hT : TabX w) :
    Calls Tryz.prog 4 #[.slice sq 32 sc, .int .u32 (nb : Int), .int .u64 (x : Int)] w (Ret fun e w' => Below w.heap.size w w' ∧ ∃ g, e = .tuple #[.slice (some ⟨g, 0, none⟩) 32 32, .int .i64 0] ∧ g < w'.heap.size ∧ Holds encB w' g 0 (bx (mkN N k nb i))) := by
  have hS := isSeedY_c sq 32 sc w
  have hP := placex_c i hi x hx w hT
  have hM := mintKey_c O sq 32 sc k nb i hnb hi w hk
  have HSb := Hid.mk2 (sbytes_c O (mkN_lt O k nb i))
  have hbs := bx_size (mkN N k nb i)
  generalize mkN N k nb i = y at hM HSb hbs ⊢
  generalize bx y = B at HSb hbs ⊢
  obtain ⟨vy, hvy⟩ : ∃ vy, Hid (nv y = vy) := ⟨_, rfl⟩
  rw [hvy.out] at hM HSb
  clear hk hT hx
  go_enter Tryz.func4, Tryz.ntmps4
  go_wp2_with fail
  refine hS.mono ?_
  rintro e w' ⟨rfl, rfl⟩
  clear hS
  go_wp2_with fail
  refine hP.mono ?_
  rintro e w' ⟨rfl, rfl⟩
  clear hP
  go_wp2_with fail
  refine hM.mono ?_
  rintro e w3 ⟨v3, rfl, hb3, rfl⟩
  have hsb := HSb.out w3
  have K3 := Hid.mk2 hb3
  clear hM hb3 HSb
  go_wp2_with fail
  refine hsb.mono ?_
  rintro e w4 ⟨v4, rfl, k4, hm, rfl⟩
  have K4 : Hid (Below w'.heap.size w' w4 ∧ k4 < w4.heap.size ∧ Holds encB w4 k4 0 B) := by
    have hH : Holds encB w4 k4 0 B := fun j hj => by
      have h1 := hm.range j (encB B[j]!) (by unfold cb; rw [List.getElem?_map, getElem!_pos B j hj, ← Array.getElem_toList hj, List.getElem?_eq_getElem (by rw [Array.length_toList]; exact hj)]; rfl)
      exact ⟨h1, (hm.there j (by rw [cb_length]; exact hj)).2⟩
    exact ⟨K3.out.trans (hm.bel.mono K3.out.size), Holds.lt hH (by omega), hH⟩
  clear hm hsb K3
  go_wp2
  go_ret2
  exact ⟨_, rfl, K4.out.1, k4, rfl, K4.out.2⟩
end Go.Proofs.YtmepmoalhgehhaaGreatDoor
namespace Go.Proofs.YtmepmoalhgehhaaGreatDoor.SP
open Go.RowKit Go.Sort Go.Deep
end Go.Proofs.YtmepmoalhgehhaaGreatDoor.SP
namespace Go.Proofs.YtmepmoalhgehhaaGreatDoor
open Go.RowKit Go.Sort Go.Deep
theorem undBB : Tryz.prog.underlying 33 = some (.slice 24) := by kernel_rfl
theorem infoBB : (Tryz.prog.info? 24).map (fun i => (i.size, i.bytes, i.zero.map fun z => z.cells.size)) = some (1, 24, some 1) := by kernel_rfl
theorem addP0 (g o j : Nat) : (⟨g, o, none⟩ : Addr).add j = ⟨g, o + j, none⟩ := by
  unfold Addr.add
  by_cases h0 : j = 0
  · subst h0; rw [if_pos rfl]; rfl
  · rw [if_neg h0]
/-- A list of values of one cell each, anywhere. -/
structure VL (w : World) (q : Option Addr) (m : Nat) (ys : List Value) : Prop where
  len : ys.length = m
  nil : q = none → m = 0
  cells : ys = [] ∨ ∃ b o, q = some ⟨b, o, none⟩ ∧ b < w.heap.size ∧ ∀ (j : Nat) u, ys[j]? = some u → w.cell? ⟨b, o + j, none⟩ = some u
  one : ∀ u ∈ ys, u.oneCell' = true
theorem VL.below {w w' : World} {q : Option Addr} {m : Nat} {ys : List Value} (h : VL w q m ys) (hb : Below w.heap.size w w') : VL w' q m ys :=
  ⟨h.len, h.nil, by
    rcases h.cells with h0 | ⟨b, o, h1, h2, h3⟩
    · exact Or.inl h0
    · exact Or.inr ⟨b, o, h1, Nat.lt_of_lt_of_le h2 hb.size, fun j u hj => by rw [hb.cell (p := ⟨b, o + j, none⟩) h2]; exact h3 j u hj⟩, h.one⟩
/-- A list of a walk's own, that grows. -/
structure GLs (w W : World) (v : Value) (xs : List Value) : Prop where
  bl : Below w.heap.size w W
  ow : W.ownsRow w.heap.size 24 1 v xs.length xs
  nn : v.ownBlock ≠ none
theorem GLs.lt {w W : World} {v : Value} {xs : List Value} (h : GLs w W v xs) : ∃ g cap, v = .slice (some ⟨g, 0, none⟩) xs.length cap ∧ w.heap.size ≤ g ∧ g < W.heap.size := by
  rcases id h.ow with ⟨-, ⟨rfl, h0⟩ | ⟨g, cap, cur, rfl, h1, h2, -⟩⟩
  · exact absurd rfl h.nn
  · refine ⟨g, cap, rfl, h1, ?_⟩
    by_cases hg : g < W.heap.size
    · exact hg
    · rw [Array.getElem?_eq_none (by omega)] at h2; cases h2
theorem GLs.below {w W W' : World} {v : Value} {xs : List Value} (h : GLs w W v xs) (hb : Below W.heap.size W W') : GLs w W' v xs := by
  refine ⟨h.bl.trans (hb.mono h.bl.size), ?_, h.nn⟩
  rcases h.ow with ⟨h0, h1 | ⟨g, cap, cur, h1, h2, h3, h4⟩⟩
  · exact ⟨h0, Or.inl h1⟩
  · refine ⟨h0, Or.inr ⟨g, cap, cur, h1, h2, ?_, h4⟩⟩
    rw [hb.block g (by
      by_cases hg : g < W.heap.size
      · exact hg
      · rw [Array.getElem?_eq_none (by omega)] at h3; cases h3)]
    exact h3
/-- 'append(l, ys...)', l a walk's own. -/
theorem GLs.app2 {w W : World} {v : Value} {xs ys : List Value} {q : Option Addr} {m c : Nat} (h : GLs w W v xs) (hx : VL W q m ys) (hn : xs.length + m ≤ 1000000) :
    ∃ v' W', (Builtin.append_ #[33, 33] 33 #[v, .slice q m c]).run Tryz.prog W = .ok v' W' ∧ GLs w W' v' (xs ++ ys) ∧ W.heap.size ≤ W'.heap.size := by
  obtain ⟨i, hi, he⟩ := Option.map_eq_some_iff.1 infoBB
  simp only [Prod.mk.injEq] at he
  obtain ⟨h1, h2, h3⟩ := he
  obtain ⟨z, hz, hz2⟩ := Option.map_eq_some_iff.1 h3
  obtain ⟨g, cap, rfl, hg1, hg2⟩ := h.lt
  cases q with
  | none =>
    have hm := hx.nil rfl
    subst hm
    obtain rfl : ys = [] := List.length_eq_zero_iff.1 hx.len
    rcases id h.ow with ⟨-, ⟨h0, -⟩ | ⟨g', cap', cur, h0, g1, g2, g3, g4⟩⟩
    · cases h0
    · injection h0 with h0 _ h0'
      injection h0 with h0
      injection h0 with h0
      subst h0 h0'
      have hap := run_append_room_src (P := Tryz.prog) W 33 33 33 24 i undBB hi g 0 xs.length cap (.slice none 0 c) 0 [] (Src.ofNil (e' := 24) _ undBB c) g3 (fun j hj => by cases hj) (fun j hj => by cases hj)
      refine ⟨_, _, hap, ?_, Nat.le_refl _⟩
      rw [List.append_nil]
      exact h
  | some a =>
    obtain ⟨v', W', r1, r2, r3, r4⟩ := run_append_own (P := Tryz.prog) W w.heap.size 33 33 24 i z 1 24 undBB hi hz h1 h2 hz2 (by decide) _ xs.length xs h.ow a m c ys (by rw [hx.len]; omega)
      (fun j u hj => by
        rcases hx.cells with rfl | ⟨b, o, hq, -, hc⟩
        · cases hj
        · obtain rfl := Option.some.inj hq
          rw [addP0]; exact hc j u hj) hx.one (by unfold maxLen; omega) (by omega) h.bl.size
    refine ⟨v', W', r1, ⟨⟨by rw [r3.os, h.bl.os], by rw [r3.tape, h.bl.tape], by rw [r3.output, h.bl.output], Nat.le_trans h.bl.size r3.size, fun k hk => ?_⟩, ?_, ?_⟩, r3.size⟩
    · rw [r3.block k (Nat.lt_of_lt_of_le hk h.bl.size) (by simp [Value.ownBlock]; omega)]
      exact h.bl.block k hk
    · rw [List.length_append, hx.len]; exact r2
    · rcases r2.2 with ⟨h5, -⟩ | ⟨g', cap', cur, rfl, -⟩
      · have := (r4.1 h5).1
        exact absurd this (by simp)
      · simp [Value.ownBlock]
theorem GLs.app {w W : World} {v : Value} {xs ys : List Value} {q : Option Addr} {m c : Nat} (h : GLs w W v xs) (hx : VL W q m ys) (hn : xs.length + m ≤ 1000000) :
    ∃ v' W', (Builtin.append_ #[33, 33] 33 #[v, .slice q m c]).run Tryz.prog W = .ok v' W' ∧ GLs w W' v' (xs ++ ys) := by
  obtain ⟨v', W', h1, h2, -⟩ := h.app2 (c := c) hx hn
  exact ⟨v', W', h1, h2⟩
end Go.Proofs.YtmepmoalhgehhaaGreatDoor
namespace Go.Proofs.YtmepmoalhgehhaaGreatDoor
open Go.RowKit Go.Sort Go.Deep
theorem Hid.mkP {p : Prop} (h : p) : Hid p := h
section
variable {P : Program} {ops : Array Oper} {rest : List Oper} {op : Oper} {a : Act} {w w' : World} {v : Value} {Q : Exit → Act → World → Prop}
theorem wpList_opP (hgd : op.guard = none) (X : Op) (_ : op.op = X) (hr : (execOp a.eval op).run P w = .ok (.value v) w') (h : wpList P ops Q rest (a.put op.dst v) w') : wpList P ops Q (op :: rest) a w :=
  wpList_plain hgd fun K hK => by
    unfold Oper.wp
    rw [hr]
    exact hK _ _ h
end
theorem alloc_below (w : World) (o : Obj) : Below w.heap.size w (w.alloc o) := (Below.refl _ _).alloc (Nat.le_refl _) _
theorem alloc_cell (w : World) (cs : Array Value) (T : TypeId) (j : Nat) (v : Value) (h : cs[j]? = some v) : (w.alloc (.cells cs T)).cell? ⟨w.heap.size, j, none⟩ = some v := by
  unfold World.alloc World.cell?
  simp [h]
theorem gls_new (w : World) : GLs w (w.alloc (.cells #[] 24)) (.slice (some ⟨w.heap.size, 0, none⟩) 0 0) [] :=
  ⟨alloc_below w _, ⟨rfl, .inr ⟨w.heap.size, 0, #[], rfl, Nat.le_refl _, Array.getElem?_push_size, Nat.le_refl _, Nat.zero_le _, rfl, rfl⟩⟩, by simp [Value.ownBlock]⟩
theorem vl_new (w : World) (ys : List Value) (T : TypeId) (h1 : ∀ u ∈ ys, u.oneCell' = true) : VL (w.alloc (.cells ys.toArray T)) (some ⟨w.heap.size, 0, none⟩) ys.length ys :=
  ⟨rfl, fun h => by (cases h), Or.inr ⟨w.heap.size, 0, rfl, by rw [World.size_alloc]; omega, fun j u hj => by rw [Nat.zero_add]; exact alloc_cell w _ T j u (by simpa using hj)⟩, h1⟩
end Go.Proofs.YtmepmoalhgehhaaGreatDoor
namespace Go.Proofs.YtmepmoalhgehhaaGreatDoor
open Go.RowKit Go.Sort Go.Deep
/-- A part of a proof: any bytes' value. -/
structure Sv where
  q : Option Addr
  n : Nat
  c : Nat
def Sv.v (s : Sv) : Value := .slice s.q s.n s.c
/-- A proof of a range, as eleven cells: A, S, T1, T2, Tau, Mu, T, then L, R, A, B. -/
def rgC (a b c d e f g l r x y : Sv) : List Value := [a.v, b.v, c.v, d.v, e.v, f.v, g.v, l.v, r.v, x.v, y.v]
end Go.Proofs.YtmepmoalhgehhaaGreatDoor
namespace Go.Proofs.YtmepmoalhgehhaaGreatDoor
open Go.RowKit Go.Sort Go.Deep
theorem GLs.cell {w W : World} {g n c : Nat} {xs : List Value} (h : GLs w W (.slice (some ⟨g, 0, none⟩) n c) xs) (j : Nat) (u : Value) (hj : xs[j]? = some u) : W.cell? ⟨g, j, none⟩ = some u := by
  have := h.ow.cells (g := g) rfl j u hj
  rw [addP0, Nat.zero_add] at this
  exact this
theorem idxP (g n c i : Nat) (hi : i < n) (w : World) : (Instr.indexAt 33 (.slice (some ⟨g, 0, none⟩) n c) (.int .i64 (i : Int))).run Tryz.prog w = .ok (.pointer (some ⟨g, i, none⟩)) w := by
  have h1 : ¬ (i : Int) < 0 := by omega
  have h2 : (i : Int) < (n : Int) := by omega
  go_simp
/-- What claimed answers. -/
def ClR (w : World) (n m : Nat) (XS : List Value) (e : Ending) (w' : World) : Prop := Below w.heap.size w w' ∧ ∃ t, e = .returned (.bool t) ∧ (t = true → n ≤ 10 ∧ m ≤ 10 ∧ ∀ s : Sv, s.v ∈ XS → s.n ≤ 100)
end Go.Proofs.YtmepmoalhgehhaaGreatDoor
namespace Go.Proofs.YtmepmoalhgehhaaGreatDoor
open Go.RowKit Go.Sort Go.Deep
/-- A value is bytes b, wherever they lie. -/
def Pt (W : World) (u : Value) (b : SP.Bs) : Prop := ∃ q c, u = .slice q (Array.size b) c ∧ (b.size = 0 ∨ ∃ g o, q = some ⟨g, o, none⟩ ∧ g < W.heap.size ∧ Holds SP.encB W g o b)
theorem Pt.below {W W' : World} {u : Value} {b : SP.Bs} (h : Pt W u b) (hb : Below W.heap.size W W') : Pt W' u b := by
  obtain ⟨q, c, h1, h2 | ⟨g, o, h3, h4, h5⟩⟩ := h
  · exact ⟨q, c, h1, Or.inl h2⟩
  · exact ⟨q, c, h1, Or.inr ⟨g, o, h3, Nat.lt_of_lt_of_le h4 hb.size, SP.Holds.below h5 hb h4⟩⟩
theorem Pt.conv {W : World} {u : Value} {b : SP.Bs} (h : Pt W u b) : (convert 24 9 u).run Tryz.prog W = .ok (.string ⟨b⟩) W := by
  obtain ⟨q, c, rfl, h2 | ⟨g, o, rfl, h4, h5⟩⟩ := h
  · obtain rfl : b = #[] := Array.eq_empty_of_size_eq_zero h2
    cases q with
    | none => exact run_convert_bytes_nil (P := Tryz.prog) (w := W) 24 5 SP.slice22 SP.int5 0 c 9 SP.str9
    | some a => exact run_convert_bytes_back (P := Tryz.prog) W 24 9 5 a c [] SP.slice22 SP.int5 SP.str9 (fun j hj => by cases hj)
  · exact SP.conv_str Tryz.prog 24 9 5 SP.slice22 SP.int5 SP.str9 W g o _ c b h5 rfl
/-- An Inner's value. -/
def inV (l r x y : Sv) : List Value := [l.v, r.v, x.v, y.v]
theorem alloc_range (w : World) (cs : List Value) (T : TypeId) : (w.alloc (.cells cs.toArray T)).rangeAt w.heap.size 0 cs := fun j u hj => by rw [Nat.zero_add]; exact alloc_cell w _ _ j u (by simpa using hj)
theorem range_below {w w' : World} {b o : Nat} {cs : List Value} (h : w.rangeAt b o cs) (hb : Below w.heap.size w w') (hlt : b < w.heap.size) : w'.rangeAt b o cs := fun j u hj => by rw [hb.cell (p := ⟨b, o + j, none⟩) hlt]; exact h j u hj
end Go.Proofs.YtmepmoalhgehhaaGreatDoor
namespace Go.Proofs.YtmepmoalhgehhaaGreatDoor
open Go.RowKit Go.Sort Go.Deep
/-- Seven values, four values: a proof of a range as eleven cells. -/
structure Rg where
  a : Sv
  b : Sv
  c : Sv
  d : Sv
  e : Sv
  f : Sv
  g : Sv
  l : Sv
  r : Sv
  x : Sv
  y : Sv
def Rg.cs (p : Rg) : List Value := rgC p.a p.b p.c p.d p.e p.f p.g p.l p.r p.x p.y
def Rg.all (p : Rg) (ys1 ys2 : List Value) : List Value := ys1 ++ ys2 ++ [p.x.v, p.y.v] ++ [p.a.v, p.b.v, p.c.v, p.d.v, p.e.v, p.f.v, p.g.v]
end Go.Proofs.YtmepmoalhgehhaaGreatDoor
namespace Go.Proofs.YtmepmoalhgehhaaGreatDoor
open Go.RowKit Go.Sort Go.Deep
/-- A text as bytes of one's own. -/
theorem conv_ofP (s : ByteArray) (w : World) :
    ∃ cap w', (convert 9 24 (.string s)).run Tryz.prog w = .ok (.slice (some ⟨w.heap.size, 0, none⟩) s.size cap) w' ∧ s.size ≤ cap ∧ Below w.heap.size w w' ∧ Holds SP.encB w' w.heap.size 0 s.data ∧ w.heap.size < w'.heap.size := by
  have h := Lib.run_convert_string_bytes (P := Tryz.prog) w 9 24 5 s SP.str9 SP.slice22 SP.int5
  have hcap : s.size ≤ grownCap w s.size 0 5 := by
    unfold grownCap Question.cut
    exact Nat.le_add_right _ _
  have hl : s.data.size = s.size := rfl
  refine ⟨_, _, h, hcap, ?_, ?_, by rw [Lib.bytesWorld_size]; omega⟩
  · refine ⟨?_, ?_, ?_, ?_, fun k hk => Lib.bytesWorld_at_old w 5 s k hk⟩
    · unfold Lib.bytesWorld World.freeze
      rw [if_neg (by decide)]
      rfl
    · unfold Lib.bytesWorld World.freeze
      rw [if_neg (by decide)]
      rfl
    · unfold Lib.bytesWorld World.freeze
      rw [if_neg (by decide)]
      rfl
    · rw [Lib.bytesWorld_size]; omega
  · intro j hj
    have hb := Lib.bytesWorld_at_new w 5 s
    have hsz : (Lib.bytesCells w 5 s).size = grownCap w s.size 0 5 := by
      unfold Lib.bytesCells
      rw [Array.size_append, Array.size_map, Array.size_replicate]
      omega
    have hc : (Lib.bytesCells w 5 s) = (s.data ++ Array.replicate (grownCap w s.size 0 5 - s.size) 0).map SP.encB := by
      unfold Lib.bytesCells
      rw [Array.map_append, Array.map_replicate]
      rfl
    have hj2 : j < (s.data ++ Array.replicate (grownCap w s.size 0 5 - s.size) 0).size := by rw [Array.size_append, Array.size_replicate]; omega
    have hget : (s.data ++ Array.replicate (grownCap w s.size 0 5 - s.size) 0)[j] = s.data[j]! := by
      rw [Array.getElem_append_left hj, getElem!_pos s.data j hj]
    constructor
    · unfold World.cell?
      rw [hb]
      simp only [Nat.zero_add]
      rw [if_neg (by decide), hc, Array.getElem?_map, Array.getElem?_eq_getElem hj2, Option.map_some, hget]
    · unfold World.frozen?
      rw [hb]
      simp only [Nat.zero_add, hsz]
      simp
      omega
theorem slT (s : ByteArray) (at' m : Nat) (h0 : at' ≤ m) (h : m ≤ s.size) (w : World) : (Instr.sliceAt 9 (.string s) (some (.int .i64 (at' : Int))) (some (.int .i64 (m : Int))) none).run Tryz.prog w = .ok (.string (s.extract at' m)) w := by
  have h1 : (0 : Int) ≤ (at' : Int) := by omega
  have h2 : (0 : Int) ≤ (m : Int) := by omega
  have h3 : (m : Int) ≤ (s.size : Int) := by omega
  have h4 : (at' : Int) ≤ (m : Int) := by omega
  go_simp
end Go.Proofs.YtmepmoalhgehhaaGreatDoor
namespace Go.Proofs.YtmepmoalhgehhaaGreatDoor
open Go.RowKit Go.Sort Go.Deep
theorem nextcap_leP (n c : Nat) (h : c < n) : Builtin.nextslicecap n c ≤ 2 * n + 768 := by
  unfold Builtin.nextslicecap
  split
  · omega
  · split
    · omega
    · simp only [Builtin.growBy]
      repeat' split
      all_goals omega
/-- 'append(l, x...)', l a row of one's own: where the new row lies. -/
theorem own_blockP {base n m size c : Nat} {T e : TypeId} {i : TypeInfo} {z : Value} {W W' : World} {v v' : Value} {xs news : List Value} {a : Addr} (hT : Tryz.prog.underlying T = some (.slice e)) (hi : Tryz.prog.info? e = some i) (hz : i.zero = some z) (hsz : i.size = size) (hby : i.bytes ≤ 1000)
    (hown : W.ownsRow base e size v n xs) (hs : Src Tryz.prog size T (.slice (some a) m c) m news W) (hn : n + m ≤ 1000000000)
    (hr : (Builtin.append_ #[T, T] T #[v, .slice (some a) m c]).run Tryz.prog W = .ok v' W') : v'.ownBlock = v.ownBlock ∨ v'.ownBlock = some W.heap.size := by
  subst hsz
  have hgrow : ∀ (q : Option Addr) (cap : Nat) (olds : List Value), v = .slice q n cap → cap < n + m → (Builtin.firstCells i.size n (.slice q n cap)).run Tryz.prog W.drew = .ok olds.toArray W.drew → v'.ownBlock = v.ownBlock ∨ v'.ownBlock = some W.heap.size := fun q cap olds hv hc hold => by
    have h1 := nextcap_leP (n + m) cap hc
    have h2 : Builtin.nextslicecap (n + m) cap * i.bytes ≤ (2 * (n + m) + 768) * 1000 := Nat.mul_le_mul h1 hby
    have hap := run_append_grow_src (P := Tryz.prog) W T T T e i z hT hi hz q n cap olds hold (.slice (some a) m c) m news hs hc (by omega) (Nat.le_trans h2 (by clear h1 h2; omega))
    rw [hv, hap] at hr
    injection hr with hr1 hr2
    right
    rw [← hr1]
    rfl
  rcases id hown with ⟨-, ⟨rfl, rfl⟩ | ⟨g, cap, cur, rfl, g1, g2, g3, g4, g5, g6⟩⟩
  · by_cases hm : m = 0
    · subst hm
      have hr' := hr
      obtain ⟨w1, hr2⟩ : ∃ w1, (Builtin.append_ #[T, T] T #[.slice none 0 0, .slice (some a) 0 c]).run Tryz.prog W = .ok (.slice none 0 0) w1 := by
        rcases hs.kind with ⟨e', hk⟩ | hk <;> exact ⟨_, by simp [Builtin.append_, run_underlying hT, run_underlying hk, sizeOf, typeInfo, hi, hs.len, hs.cells]; rfl⟩
      rw [hr2] at hr
      injection hr with hr1 hr2
      left
      rw [← hr1]
    · exact hgrow none 0 [] rfl (by omega) (run_firstCells_none W.drew i.size 0 0 0)
  · by_cases hroom : n + m ≤ cap
    · have hap := run_append_room_src (P := Tryz.prog) W T T T e i hT hi g 0 n cap (.slice (some a) m c) m news hs hroom
        (fun j hj => by
          have hj2 : n * i.size + j < cur.size := by
            rw [g5]
            have h1 : j < m * i.size := by rw [← hs.newsLen]; exact hj
            have h2 : (n + m) * i.size ≤ cap * i.size := Nat.mul_le_mul_right _ hroom
            rw [Nat.add_mul] at h2
            omega
          simp [World.cell?, g2, Nat.zero_add, Array.getElem?_eq_getElem hj2])
        (fun j hj => by simp [World.frozen?, g2])
      rw [hap] at hr
      injection hr with hr1 hr2
      left
      rw [← hr1]
      rfl
    · refine hgrow (some ⟨g, 0, none⟩) cap xs rfl (by omega) ?_
      exact run_firstCells_some W.drew i.size n ⟨g, 0, none⟩ n cap xs hown.1 (fun j u hj => by rw [World.cell?_drew]; exact hown.cells (g := g) rfl j u hj)
end Go.Proofs.YtmepmoalhgehhaaGreatDoor
namespace Go.Proofs.YtmepmoalhgehhaaGreatDoor
open Go.RowKit Go.Sort Go.Deep
theorem step_runP {P : Program} {ops : Array Oper} {o : Oper} {a : Act} {w : World} {K : Act → World → Prop} {Q : Exit → Act → World → Prop} {E : Prop} (hg : o.guard = none) (s x : Operand) (t tn : TypeId)
    (ho : o.op = .call { callee := .builtin .append, args := #[s, x], argTypes := #[t, tn] }) (vs vx : Value) (hs : a.eval s = vs) (hx : a.eval x = vx)
    (v' : Value) (w' : World) (hr : (Builtin.append_ #[t, tn] o.type #[vs, vx]).run P w = .ok v' w') (h : K (a.put o.dst v') w') : if Region.wanted o (yielded ops a.tmps) = true then Oper.wp P o a w K Q else E := by
  have hw : Region.wanted o (yielded ops a.tmps) = true := by simp [Region.wanted, hg]
  rw [if_pos hw]
  exact Lib.wp_append_run w s x t tn ho vs vx hs hx v' w' hr h
/-- A part: where it lies, how long it is. -/
def pC (x : Addr × Nat) : List Value := [.pointer (some x.1), .int .i64 (x.2 : Int)]
def psC (ps : List (Addr × Nat)) : List Value := ps.flatMap pC
theorem psC_len : ∀ ps : List (Addr × Nat), (psC ps).length = ps.length * 2
  | [] => rfl
  | x :: r => by
    have := psC_len r
    unfold psC at *
    rw [List.flatMap_cons, List.length_append, this, List.length_cons]
    show 2 + _ = _
    omega
theorem psC_app (a b : List (Addr × Nat)) : psC (a ++ b) = psC a ++ psC b := List.flatMap_append
theorem psC_one : ∀ (ps : List (Addr × Nat)), ∀ u ∈ psC ps, u.oneCell' = true := by
  intro ps u hu
  obtain ⟨x, -, hx⟩ := List.mem_flatMap.1 hu
  unfold pC at hx
  simp only [List.mem_cons, List.not_mem_nil, or_false] at hx
  rcases hx with rfl | rfl <;> rfl
theorem psC_at : ∀ (ps : List (Addr × Nat)) (j : Nat) (x : Addr × Nat), ps[j]? = some x → (psC ps)[2 * j]? = some (.pointer (some x.1)) ∧ (psC ps)[2 * j + 1]? = some (.int .i64 (x.2 : Int))
  | [], j, x, h => by simp at h
  | y :: r, 0, x, h => by
    obtain rfl : y = x := by simpa using h
    exact ⟨rfl, rfl⟩
  | y :: r, j + 1, x, h => by
    have := psC_at r j x (by simpa using h)
    have e : psC (y :: r) = pC y ++ psC r := rfl
    rw [e, List.getElem?_append_right (by show 2 ≤ _; omega), List.getElem?_append_right (by show 2 ≤ _; omega)]
    show (psC r)[2 * (j + 1) - 2]? = _ ∧ (psC r)[2 * (j + 1) + 1 - 2]? = _
    rw [show 2 * (j + 1) - 2 = 2 * j by omega, show 2 * (j + 1) + 1 - 2 = 2 * j + 1 by omega]
    exact this
end Go.Proofs.YtmepmoalhgehhaaGreatDoor
namespace Go.Proofs.YtmepmoalhgehhaaGreatDoor
open Go.RowKit Go.Sort Go.Deep
def lp (b o n : Nat) : List (Addr × Nat) := (List.range n).map fun j => ((⟨b, o + j, none⟩ : Addr), 33)
def basP (gp : Nat) : List (Addr × Nat) := [(⟨gp, 0, none⟩, 33), (⟨gp, 1, none⟩, 33), (⟨gp, 2, none⟩, 33), (⟨gp, 3, none⟩, 33), (⟨gp, 4, none⟩, 32), (⟨gp, 5, none⟩, 32), (⟨gp, 6, none⟩, 32)]
def endP (gp : Nat) : List (Addr × Nat) := [(⟨gp, 9, none⟩, 32), (⟨gp, 10, none⟩, 32)]
theorem lp_succ (b o n : Nat) : lp b o (n + 1) = lp b o n ++ [(⟨b, o + n, none⟩, 33)] := by
  unfold lp
  rw [List.range_succ, List.map_append]
  rfl
theorem lp_len (b o n : Nat) : (lp b o n).length = n := by unfold lp; simp
def curP (gp bl ol nl br or nr : Nat) : Nat → List (Addr × Nat)
  | 0 => basP gp
  | 1 => basP gp ++ lp bl ol nl
  | _ => basP gp ++ lp bl ol nl ++ lp br or nr
theorem idxO (b o n c i : Nat) (hi : i < n) (w : World) : (Instr.indexAt 33 (.slice (some ⟨b, o, none⟩) n c) (.int .i64 (i : Int))).run Tryz.prog w = .ok (.pointer (some ⟨b, o + i, none⟩)) w := by
  have h1 : ¬ (i : Int) < 0 := by omega
  have h2 : (i : Int) < (n : Int) := by omega
  have h3 := addP0 b o i
  go_simp
end Go.Proofs.YtmepmoalhgehhaaGreatDoor
namespace Go.Proofs.YtmepmoalhgehhaaGreatDoor
open Go.RowKit Go.Sort Go.Deep
theorem infoU8 : (Tryz.prog.info? 5).map (fun i => (i.size, i.bytes, i.zero.map fun z => z.cells.size)) = some (1, 1, some 1) := by kernel_rfl
/-- The bytes' cells. -/
def bC (b : SP.Bs) : List Value := b.toList.map SP.encB
theorem bC_len (b : SP.Bs) : (bC b).length = b.size := by unfold bC; simp
theorem bC_one (b : SP.Bs) : ∀ u ∈ bC b, u.oneCell' = true := by
  intro u hu
  obtain ⟨x, -, rfl⟩ := List.mem_map.1 hu
  rfl
theorem bC_app (a b : SP.Bs) : bC (a ++ b) = bC a ++ bC b := by unfold bC; simp
theorem Pt.vl {W : World} {q : Option Addr} {n c : Nat} {b : SP.Bs} (h : Pt W (.slice q n c) b) : n = b.size ∧ VL W q n (bC b) := by
  obtain ⟨q', c', h1, h2⟩ := h
  injection h1 with e1 e2 e3
  subst e1 e2
  refine ⟨rfl, ⟨bC_len b, ?_, ?_, bC_one b⟩⟩
  · intro hq
    rcases h2 with h2 | ⟨g, o, h3, -⟩
    · exact h2
    · rw [hq] at h3; cases h3
  · rcases h2 with h2 | ⟨g, o, h3, h4, h5⟩
    · left
      have : (bC b).length = 0 := by rw [bC_len]; exact h2
      exact List.length_eq_zero_iff.1 this
    · right
      refine ⟨g, o, h3, h4, fun j u hj => ?_⟩
      unfold bC at hj
      rw [List.getElem?_map] at hj
      obtain ⟨x, hx, rfl⟩ := Option.map_eq_some_iff.1 hj
      have hjl : j < b.size := by
        have := (List.getElem?_eq_some_iff.1 hx).1
        simpa using this
      rw [(h5 j hjl).1]
      rw [getElem!_pos b j hjl]
      have := (List.getElem?_eq_some_iff.1 hx).2
      rw [Array.getElem_toList] at this
      rw [this]
/-- What Put's loop keeps: bytes of its own, two blocks that stay. -/
structure PuI (w w4 W : World) (gp gq : Nat) (v : Value) (b : SP.Bs) : Prop where
  bl : Below w.heap.size w W
  ow : W.ownsRow w.heap.size 5 1 v b.size (bC b)
  nn : v.ownBlock ≠ none
  n1 : v.ownBlock ≠ some gp
  n2 : v.ownBlock ≠ some gq
  e1 : W.heap[gp]? = w4.heap[gp]?
  e2 : W.heap[gq]? = w4.heap[gq]?
  sz : w4.heap.size ≤ W.heap.size
  l1 : gp < w4.heap.size
  l2 : gq < w4.heap.size
theorem PuI.lt {w w4 W : World} {gp gq : Nat} {v : Value} {b : SP.Bs} (h : PuI w w4 W gp gq v b) : ∃ g cap, v = .slice (some ⟨g, 0, none⟩) b.size cap ∧ w.heap.size ≤ g ∧ g < W.heap.size := by
  rcases id h.ow with ⟨-, ⟨rfl, h0⟩ | ⟨g, cap, cur, rfl, h1, h2, -⟩⟩
  · exact absurd rfl h.nn
  · refine ⟨g, cap, rfl, h1, ?_⟩
    by_cases hg : g < W.heap.size
    · exact hg
    · rw [Array.getElem?_eq_none (by omega)] at h2; cases h2
theorem PuI.below {w w4 W W' : World} {gp gq : Nat} {v : Value} {b : SP.Bs} (h : PuI w w4 W gp gq v b) (hb : Below W.heap.size W W') : PuI w w4 W' gp gq v b := by
  have hs := h.sz
  refine ⟨h.bl.trans (hb.mono h.bl.size), ?_, h.nn, h.n1, h.n2, by rw [hb.block gp (by have := h.l1; omega)]; exact h.e1, by rw [hb.block gq (by have := h.l2; omega)]; exact h.e2, Nat.le_trans hs hb.size, h.l1, h.l2⟩
  rcases h.ow with ⟨h0, h1 | ⟨g, cap, cur, h1, h2, h3, h4⟩⟩
  · exact ⟨h0, Or.inl h1⟩
  · refine ⟨h0, Or.inr ⟨g, cap, cur, h1, h2, ?_, h4⟩⟩
    rw [hb.block g (by
      by_cases hg : g < W.heap.size
      · exact hg
      · rw [Array.getElem?_eq_none (by omega)] at h3; cases h3)]
    exact h3
theorem undB5 : Tryz.prog.underlying 24 = some (.slice 5) := by kernel_rfl
theorem PuI.app {w w4 W : World} {gp gq : Nat} {v : Value} {b x : SP.Bs} {q : Option Addr} {c : Nat} (h : PuI w w4 W gp gq v b) (hx : VL W q x.size (bC x)) (hn : b.size + x.size ≤ 1000000) :
    ∃ v' W', (Builtin.append_ #[24, 24] 24 #[v, .slice q x.size c]).run Tryz.prog W = .ok v' W' ∧ PuI w w4 W' gp gq v' (b ++ x) := by
  obtain ⟨i, hi, he⟩ := Option.map_eq_some_iff.1 infoU8
  simp only [Prod.mk.injEq] at he
  obtain ⟨h1, h2, h3⟩ := he
  obtain ⟨z, hz, hz2⟩ := Option.map_eq_some_iff.1 h3
  obtain ⟨g, cap, rfl, hg1, hg2⟩ := h.lt
  have hs := h.sz
  cases q with
  | none =>
    have hm := hx.nil rfl
    obtain rfl : x = #[] := Array.eq_empty_of_size_eq_zero hm
    rcases id h.ow with ⟨-, ⟨h0, -⟩ | ⟨g', cap', cur, h0, g1, g2, g3, g4⟩⟩
    · cases h0
    · injection h0 with h0 _ h0'
      injection h0 with h0
      injection h0 with h0
      subst h0 h0'
      have hap := run_append_room_src (P := Tryz.prog) W 24 24 24 5 i undB5 hi g 0 b.size cap (.slice none 0 c) 0 [] (Src.ofNil (e' := 5) _ undB5 c) g3 (fun j hj => by cases hj) (fun j hj => by cases hj)
      refine ⟨_, _, hap, ?_⟩
      rw [Array.append_empty]
      exact h
  | some a =>
    have hc : ∀ (j : Nat) u, (bC x)[j]? = some u → W.cell? (a.add j) = some u := fun j u hj => by
      rcases hx.cells with h0 | ⟨b, o, hq, -, hc⟩
      · rw [h0] at hj; cases hj
      · obtain rfl := Option.some.inj hq
        rw [addP0]; exact hc j u hj
    obtain ⟨v', W', r1, r2, r3, r4⟩ := run_append_own (P := Tryz.prog) W w.heap.size 24 24 5 i z 1 1 undB5 hi hz h1 h2 hz2 (by decide) _ b.size (bC b) h.ow a x.size c (bC x) (by rw [bC_len]; omega) hc (bC_one x) (by unfold maxLen; omega) (by omega) h.bl.size
    have hb := own_blockP (c := c) undB5 hi hz h1 (by omega) h.ow (Src.ofSlice (P := Tryz.prog) (size := 1) W undB5 a x.size c (bC x) (by rw [bC_len]; omega) hc (bC_one x)) (by omega) r1
    have k1 : ∀ k, k < w4.heap.size → v'.ownBlock ≠ some k ∨ (Value.slice (some ⟨g, 0, none⟩) b.size cap).ownBlock = some k := fun k hk => by
      rcases hb with e | e
      · by_cases hh : (Value.slice (some ⟨g, 0, none⟩) b.size cap).ownBlock = some k
        · exact Or.inr hh
        · left; rw [e]; exact hh
      · left; rw [e]; intro hh; have := Option.some.inj hh; omega
    refine ⟨v', W', r1, ⟨⟨by rw [r3.os, h.bl.os], by rw [r3.tape, h.bl.tape], by rw [r3.output, h.bl.output], Nat.le_trans h.bl.size r3.size, fun k hk => ?_⟩, ?_, ?_, ?_, ?_, ?_, ?_, ?_, h.l1, h.l2⟩⟩
    · rw [r3.block k (Nat.lt_of_lt_of_le hk h.bl.size) (by simp [Value.ownBlock]; omega)]
      exact h.bl.block k hk
    · rw [Array.size_append, bC_app]; exact r2
    · rcases hb with e | e <;> rw [e]
      · simp [Value.ownBlock]
      · simp
    · rcases k1 gp h.l1 with e | e
      · exact e
      · exact absurd e h.n1
    · rcases k1 gq h.l2 with e | e
      · exact e
      · exact absurd e h.n2
    · rw [r3.block gp (by have := h.l1; omega) (fun e => h.n1 e.symm)]; exact h.e1
    · rw [r3.block gq (by have := h.l2; omega) (fun e => h.n2 e.symm)]; exact h.e2
    · exact Nat.le_trans hs r3.size
end Go.Proofs.YtmepmoalhgehhaaGreatDoor
namespace Go.Proofs.YtmepmoalhgehhaaGreatDoor
open Go.RowKit Go.Sort Go.Deep
/-- 'append(l, x...)', l a row of one's own: where the new row lies. -/
theorem own_blockQ {base n m size c : Nat} {T e : TypeId} {i : TypeInfo} {z : Value} {W W' : World} {v v' : Value} {xs news : List Value} {a : Addr} (hT : Tryz.prog.underlying T = some (.slice e)) (hi : Tryz.prog.info? e = some i) (hz : i.zero = some z) (hsz : i.size = size) (hby : i.bytes ≤ 1000)
    (hown : W.ownsRow base e size v n xs) (hs : Src Tryz.prog size T (.slice (some a) m c) m news W) (hn : n + m ≤ 1000000000)
    (hr : (Builtin.append_ #[T, T] T #[v, .slice (some a) m c]).run Tryz.prog W = .ok v' W') : v'.ownBlock = v.ownBlock ∨ (v'.ownBlock = some W.heap.size ∧ Below W.heap.size W W') := by
  subst hsz
  have hgrow : ∀ (q : Option Addr) (cap : Nat) (olds : List Value), v = .slice q n cap → cap < n + m → (Builtin.firstCells i.size n (.slice q n cap)).run Tryz.prog W.drew = .ok olds.toArray W.drew → v'.ownBlock = v.ownBlock ∨ (v'.ownBlock = some W.heap.size ∧ Below W.heap.size W W') := fun q cap olds hv hc hold => by
    have h1 := nextcap_leP (n + m) cap hc
    have h2 : Builtin.nextslicecap (n + m) cap * i.bytes ≤ (2 * (n + m) + 768) * 1000 := Nat.mul_le_mul h1 hby
    have hap := run_append_grow_src (P := Tryz.prog) W T T T e i z hT hi hz q n cap olds hold (.slice (some a) m c) m news hs hc (by omega) (Nat.le_trans h2 (by clear h1 h2; omega))
    rw [hv, hap] at hr
    injection hr with hr1 hr2
    right
    refine ⟨by rw [← hr1]; rfl, ?_⟩
    rw [← hr2]
    exact (⟨rfl, rfl, rfl, Nat.le_refl _, fun _ _ => rfl⟩ : Below W.heap.size W W.drew).trans (alloc_below W.drew _)
  rcases id hown with ⟨-, ⟨rfl, rfl⟩ | ⟨g, cap, cur, rfl, g1, g2, g3, g4, g5, g6⟩⟩
  · by_cases hm : m = 0
    · subst hm
      have hr' := hr
      obtain ⟨w1, hr2⟩ : ∃ w1, (Builtin.append_ #[T, T] T #[.slice none 0 0, .slice (some a) 0 c]).run Tryz.prog W = .ok (.slice none 0 0) w1 := by
        rcases hs.kind with ⟨e', hk⟩ | hk <;> exact ⟨_, by simp [Builtin.append_, run_underlying hT, run_underlying hk, sizeOf, typeInfo, hi, hs.len, hs.cells]; rfl⟩
      rw [hr2] at hr
      injection hr with hr1 hr2
      left
      rw [← hr1]
    · exact hgrow none 0 [] rfl (by omega) (run_firstCells_none W.drew i.size 0 0 0)
  · by_cases hroom : n + m ≤ cap
    · have hap := run_append_room_src (P := Tryz.prog) W T T T e i hT hi g 0 n cap (.slice (some a) m c) m news hs hroom
        (fun j hj => by
          have hj2 : n * i.size + j < cur.size := by
            rw [g5]
            have h1 : j < m * i.size := by rw [← hs.newsLen]; exact hj
            have h2 : (n + m) * i.size ≤ cap * i.size := Nat.mul_le_mul_right _ hroom
            rw [Nat.add_mul] at h2
            omega
          simp [World.cell?, g2, Nat.zero_add, Array.getElem?_eq_getElem hj2])
        (fun j hj => by simp [World.frozen?, g2])
      rw [hap] at hr
      injection hr with hr1 hr2
      left
      rw [← hr1]
      rfl
    · refine hgrow (some ⟨g, 0, none⟩) cap xs rfl (by omega) ?_
      exact run_firstCells_some W.drew i.size n ⟨g, 0, none⟩ n cap xs hown.1 (fun j u hj => by rw [World.cell?_drew]; exact hown.cells (g := g) rfl j u hj)
/-- What an append of one value to a row of one's own turns. -/
structure Ap1 (W W' : World) (v v' : Value) : Prop where
  os : W'.os = W.os
  tape : W'.tape = W.tape
  output : W'.output = W.output
  size : W.heap.size ≤ W'.heap.size
  keep : ∀ g, g < W.heap.size → v.ownBlock ≠ some g → W'.heap[g]? = W.heap[g]?
  mv : v'.ownBlock = v.ownBlock ∨ ((∃ g, v'.ownBlock = some g ∧ W.heap.size ≤ g) ∧ ∀ g, g < W.heap.size → W'.heap[g]? = W.heap[g]?)
theorem own_keep {W W' : World} {base n k : Nat} {e : TypeId} {v : Value} {xs : List Value} (h : W.ownsRow base e k v n xs) (hk : ∀ g, v.ownBlock = some g → W'.heap[g]? = W.heap[g]?) : W'.ownsRow base e k v n xs := by
  rcases h with ⟨h0, h1 | ⟨g, cap, cur, rfl, h2, h3, h4⟩⟩
  · exact ⟨h0, Or.inl h1⟩
  · exact ⟨h0, Or.inr ⟨g, cap, cur, rfl, h2, by rw [hk g rfl]; exact h3, h4⟩⟩
theorem own_lt {W : World} {base n k g : Nat} {e : TypeId} {v : Value} {xs : List Value} (h : W.ownsRow base e k v n xs) (hg : v.ownBlock = some g) : base ≤ g ∧ g < W.heap.size ∧ ∃ cur, W.heap[g]? = some (.cells cur e (0, 0)) := by
  rcases h with ⟨h0, ⟨rfl, -⟩ | ⟨g', cap, cur, rfl, h2, h3, h4⟩⟩
  · cases hg
  · obtain rfl : g' = g := Option.some.inj hg
    refine ⟨h2, ?_, cur, h3⟩
    by_cases hg : g' < W.heap.size
    · exact hg
    · rw [Array.getElem?_eq_none (by omega)] at h3; cases h3
theorem own_app1 {base n by' : Nat} {T e : TypeId} {W : World} {v x : Value} {xs : List Value} (hT : Tryz.prog.underlying T = some (.slice e)) (hI : (Tryz.prog.info? e).map (fun i => (i.size, i.bytes, i.zero.map fun z => z.cells.size)) = some (1, by', some 1)) (hby : by' ≤ 1000)
    (hown : W.ownsRow base e 1 v n xs) (hx : x.oneCell' = true) (hn : n ≤ 100000000) (hb : base ≤ W.heap.size) :
    ∃ v' W', (Builtin.append_ #[T, T] T #[v, .slice (some ⟨W.heap.size, 0, none⟩) 1 1]).run Tryz.prog (W.alloc (.cells #[x] e)) = .ok v' W' ∧ W'.ownsRow base e 1 v' (n + 1) (xs ++ [x]) ∧ Ap1 W W' v v' := by
  obtain ⟨i, hi, he⟩ := Option.map_eq_some_iff.1 hI
  simp only [Prod.mk.injEq] at he
  obtain ⟨h1, h2, h3⟩ := he
  obtain ⟨z, hz, hz2⟩ := Option.map_eq_some_iff.1 h3
  have ba := alloc_below W (.cells #[x] e)
  have hz1 : (W.alloc (.cells #[x] e)).heap.size = W.heap.size + 1 := World.size_alloc _ _
  have ho : (W.alloc (.cells #[x] e)).ownsRow base e 1 v n xs := own_keep hown (fun g hg => ba.block g (own_lt hown hg).2.1)
  have hc : ∀ (j : Nat) u, [x][j]? = some u → (W.alloc (.cells #[x] e)).cell? ((⟨W.heap.size, 0, none⟩ : Addr).add j) = some u := fun j u hj => by
    rw [addP0, Nat.zero_add]
    exact alloc_cell W _ _ j u (by simpa using hj)
  have h1x : ∀ u ∈ [x], u.oneCell' = true := fun u hu => by
    obtain rfl : u = x := by simpa using hu
    exact hx
  obtain ⟨v', W', r1, r2, r3, -⟩ := run_append_own (P := Tryz.prog) (W.alloc (.cells #[x] e)) base T T e i z 1 by' hT hi hz h1 h2 hz2 (by decide) v n xs ho ⟨W.heap.size, 0, none⟩ 1 1 [x] rfl hc h1x (by unfold maxLen; omega) (by
    have : (n + 1) * by' ≤ (n + 1) * 1000 := Nat.mul_le_mul_left _ hby
    omega) (by omega)
  have hq := own_blockQ (c := 1) hT hi hz h1 (by omega) ho (Src.ofSlice (P := Tryz.prog) (size := 1) (W.alloc (.cells #[x] e)) hT ⟨W.heap.size, 0, none⟩ 1 1 [x] rfl hc h1x) (by omega) r1
  refine ⟨v', W', r1, r2, r3.os, r3.tape, r3.output, by have := r3.size; omega, fun g hg hv => ?_, ?_⟩
  · rw [r3.block g (by omega) (fun h => hv h.symm), ba.block g hg]
  · rcases hq with h | ⟨h, hbl⟩
    · exact Or.inl h
    · refine Or.inr ⟨⟨_, h, by omega⟩, fun g hg => ?_⟩
      rw [hbl.block g (by omega), ba.block g hg]
/-- A block below L, or one of bytes. -/
def TyQ (W : World) (L g : Nat) : Prop := g < W.heap.size ∧ (g < L ∨ ∃ cur, W.heap[g]? = some (.cells cur 5 (0, 0)))
theorem TyQ.keep {W W' : World} {L g : Nat} (h : TyQ W L g) (hs : W.heap.size ≤ W'.heap.size) (e : W'.heap[g]? = W.heap[g]?) : TyQ W' L g := ⟨Nat.lt_of_lt_of_le h.1 hs, by rw [e]; exact h.2⟩
theorem keepQ {W W' : World} {k : Nat} {b : SP.Bs} (h : Holds SP.encB W k 0 b) (e : W'.heap[k]? = W.heap[k]?) : Holds SP.encB W' k 0 b := fun j hj => by
  rw [World.cell?_of_block (a := ⟨k, 0 + j, none⟩) e, World.frozen?_of_block (a := ⟨k, 0 + j, none⟩) e]
  exact h j hj
/-- A row of one's own; or one without spare room in a block below L, whatever its type. -/
def OwQ (W : World) (L B : Nat) (v : Value) (b : SP.Bs) : Prop := W.ownsRow B 5 1 v b.size (bC b) ∨ ∃ g, v = .slice (some ⟨g, 0, none⟩) b.size b.size ∧ B ≤ g ∧ g < L ∧ g < W.heap.size ∧ Holds SP.encB W g 0 b
theorem OwQ.keep {W W' : World} {L B : Nat} {v : Value} {b : SP.Bs} (h : OwQ W L B v b) (hs : W.heap.size ≤ W'.heap.size) (hk : ∀ g, v.ownBlock = some g → W'.heap[g]? = W.heap[g]?) : OwQ W' L B v b := by
  rcases h with h | ⟨g, rfl, h2, h3, h4, h5⟩
  · exact Or.inl (own_keep h hk)
  · exact Or.inr ⟨g, rfl, h2, h3, Nat.lt_of_lt_of_le h4 hs, keepQ h5 (hk g rfl)⟩
theorem OwQ.lt {W : World} {L B g : Nat} {v : Value} {b : SP.Bs} (h : OwQ W L B v b) (hg : v.ownBlock = some g) : B ≤ g ∧ TyQ W L g := by
  rcases h with h | ⟨g', rfl, h2, h3, h4, h5⟩
  · obtain ⟨h1, h2, h3⟩ := own_lt h hg
    exact ⟨h1, h2, Or.inr h3⟩
  · obtain rfl : g' = g := Option.some.inj hg
    exact ⟨h2, h4, Or.inl h3⟩
theorem own_holdsQ {W : World} {B g c : Nat} {b : SP.Bs} (h : W.ownsRow B 5 1 (.slice (some ⟨g, 0, none⟩) b.size c) b.size (bC b)) : Holds SP.encB W g 0 b := fun k hk => by
  obtain ⟨-, -, cur, h1⟩ := own_lt h (g := g) rfl
  refine ⟨?_, by simp [World.frozen?, h1]⟩
  have h3 := h.cells (g := g) rfl k (SP.encB b[k]!) (by
    unfold bC
    rw [List.getElem?_map, List.getElem?_eq_getElem (by simpa using hk), Option.map_some, getElem!_pos b k hk]
    simp)
  rw [addP0] at h3
  exact h3
/-- A byte is written. -/
theorem OwQ.set {W : World} {L B g c k : Nat} {b : SP.Bs} {x : UInt8} (h : OwQ W L B (.slice (some ⟨g, 0, none⟩) b.size c) b) (hk : k < b.size) : OwQ (W.setCell ⟨g, k, none⟩ (SP.encB x)) L B (.slice (some ⟨g, 0, none⟩) b.size c) (b.setIfInBounds k x) := by
  unfold OwQ
  rw [Array.size_setIfInBounds]
  rcases h with h | ⟨g', e, h2, h3, h4, h5⟩
  · left
    have := (h.stored k (SP.encB x)).1
    have e : bC (b.setIfInBounds k x) = (bC b).set k (SP.encB x) := by unfold bC; rw [Array.toList_setIfInBounds, List.map_set]
    rw [e]
    exact this
  · right
    simp only [Value.slice.injEq, Option.some.injEq, Addr.mk.injEq, and_true, true_and] at e
    obtain ⟨rfl, rfl⟩ := e
    refine ⟨g, rfl, h2, h3, by rw [World.size_setCell]; exact h4, fun j hj => ?_⟩
    rw [Array.size_setIfInBounds] at hj
    have h6 := h5 j hj
    rw [Nat.zero_add] at h6 ⊢
    rw [World.frozen?_setCell]
    refine ⟨?_, h6.2⟩
    rw [getElem!_pos (b.setIfInBounds k x) j (by rw [Array.size_setIfInBounds]; exact hj), Array.getElem_setIfInBounds hj]
    by_cases e : k = j
    · subst e
      rw [if_pos rfl]
      exact World.cell?_setCell_same _ _ _ h6.1
    · rw [if_neg e, World.cell?_setCell_other _ _ _ _ (by intro x; injection x with _ x _; exact e x)]
      rw [← getElem!_pos b j hj]
      exact h6.1
theorem undB5Q : Tryz.prog.underlying 24 = some (.slice 5) := by kernel_rfl
/-- A byte is appended. -/
theorem OwQ.app {W : World} {L B : Nat} {v : Value} {b : SP.Bs} {x : UInt8} (h : OwQ W L B v b) (hn : b.size ≤ 100000000) (hb : B ≤ W.heap.size) :
    ∃ v' W', (Builtin.append_ #[24, 24] 24 #[v, .slice (some ⟨W.heap.size, 0, none⟩) 1 1]).run Tryz.prog (W.alloc (.cells #[SP.encB x] 5)) = .ok v' W' ∧ OwQ W' L B v' (b ++ #[x]) ∧ Ap1 W W' v v' := by
  have e1 : (b ++ #[x]).size = b.size + 1 := by rw [Array.size_append]; rfl
  have e2 : bC (b ++ #[x]) = bC b ++ [SP.encB x] := by rw [bC_app]; rfl
  rcases h with h | ⟨g, rfl, h2, h3, h4, h5⟩
  · obtain ⟨v', W', r1, r2, r3⟩ := own_app1 undB5Q infoU8 (by omega) h (x := SP.encB x) rfl hn hb
    refine ⟨v', W', r1, Or.inl ?_, r3⟩
    rw [e1, e2]
    exact r2
  · obtain ⟨i, hi, he⟩ := Option.map_eq_some_iff.1 infoU8
    simp only [Prod.mk.injEq] at he
    obtain ⟨g1, g2, g3⟩ := he
    obtain ⟨z, hz, hz2⟩ := Option.map_eq_some_iff.1 g3
    have ba := alloc_below W (.cells #[SP.encB x] 5)
    have hz1 : (W.alloc (.cells #[SP.encB x] 5)).heap.size = W.heap.size + 1 := World.size_alloc _ _
    obtain ⟨v', W', r1, r2, r3⟩ := run_append_arg_grows (P := Tryz.prog) (W.alloc (.cells #[SP.encB x] 5)) 24 24 5 i z 1 1 undB5Q hi hz g1 g2 hz2 (by decide) ⟨g, 0, none⟩ b.size b.size (bC b) (by rw [bC_len, Nat.mul_one]) (fun j u hj => by
      have hjb : j < b.size := by have := (List.getElem?_eq_some_iff.1 hj).1; rw [bC_len] at this; exact this
      have e : u = SP.encB b[j]! := by
        unfold bC at hj
        rw [List.getElem?_map, List.getElem?_eq_getElem (by simpa using hjb), Option.map_some] at hj
        rw [← Option.some.inj hj, getElem!_pos b j hjb]
        simp
      rw [addP0, World.cell?_of_block (a := ⟨g, 0 + j, none⟩) (ba.block g h4), e]
      exact (h5 j hjb).1) ⟨W.heap.size, 0, none⟩ 1 1 [SP.encB x] rfl (fun j u hj => by
      rw [addP0, Nat.zero_add]
      exact alloc_cell W _ _ j u (by simpa using hj)) (by omega) (by unfold maxLen; omega) (by omega)
    have hv : ∃ g', v'.ownBlock = some g' ∧ (W.alloc (.cells #[SP.encB x] 5)).heap.size ≤ g' := by
      rcases r2.2 with ⟨-, h0⟩ | ⟨g', cap, cur, rfl, hb', -⟩
      · omega
      · exact ⟨g', rfl, hb'⟩
    obtain ⟨g', hv1, hv2⟩ := hv
    have hk : ∀ y, y < W.heap.size → W'.heap[y]? = W.heap[y]? := fun y hy => by rw [r3.block y (by omega) (by simp), ba.block y hy]
    refine ⟨v', W', r1, Or.inl ?_, r3.os, r3.tape, r3.output, by have := r3.size; omega, fun y hy _ => hk y hy, Or.inr ⟨⟨g', hv1, by omega⟩, hk⟩⟩
    rw [e1, e2]
    rcases r2 with ⟨q0, q1 | ⟨y, cap, cur, q1, q2, q3⟩⟩
    · exact ⟨q0, Or.inl q1⟩
    · exact ⟨q0, Or.inr ⟨y, cap, cur, q1, by omega, q3⟩⟩
/-- A value is bytes at the front of a block, or nothing. -/
def RV (W : World) (L : Nat) (v : Value) (b : SP.Bs) : Prop := (b.size = 0 ∧ v = .slice none 0 0) ∨ ∃ g c, v = .slice (some ⟨g, 0, none⟩) b.size c ∧ TyQ W L g ∧ Holds SP.encB W g 0 b
theorem RV.keep {W W' : World} {L : Nat} {v : Value} {b : SP.Bs} (h : RV W L v b) (hs : W.heap.size ≤ W'.heap.size) (hk : ∀ g, v.ownBlock = some g → W'.heap[g]? = W.heap[g]?) : RV W' L v b := by
  rcases h with h | ⟨g, c, rfl, h1, h2⟩
  · exact Or.inl h
  · exact Or.inr ⟨g, c, rfl, h1.keep hs (hk g rfl), keepQ h2 (hk g rfl)⟩
theorem RV.of {W : World} {L B : Nat} {v : Value} {b : SP.Bs} (h : OwQ W L B v b) : RV W L v b := by
  rcases h with h | ⟨g, rfl, h2, h3, h4, h5⟩
  · rcases id h with ⟨h0, ⟨rfl, h1⟩ | ⟨g, cap, cur, rfl, h2, h3, h4⟩⟩
    · exact Or.inl ⟨h1, rfl⟩
    · exact Or.inr ⟨g, cap, rfl, ⟨(own_lt h rfl).2.1, Or.inr ⟨cur, h3⟩⟩, own_holdsQ h⟩
  · exact Or.inr ⟨g, b.size, rfl, ⟨h4, Or.inl h3⟩, h5⟩
theorem RV.slice {W : World} {L : Nat} {v : Value} {b : SP.Bs} (h : RV W L v b) : ∃ q c, v = .slice q b.size c := by
  rcases h with ⟨h, rfl⟩ | ⟨g, c, rfl, -⟩
  · exact ⟨none, 0, by rw [h]⟩
  · exact ⟨_, _, rfl⟩
theorem RV.at {W : World} {L : Nat} {v : Value} {b : SP.Bs} (h : RV W L v b) {k : Nat} (hk : k < b.size) : ∃ g c, v = .slice (some ⟨g, 0, none⟩) b.size c ∧ W.cell? ⟨g, k, none⟩ = some (SP.encB b[k]!) ∧ W.frozen? ⟨g, k, none⟩ = false := by
  rcases h with ⟨h, -⟩ | ⟨g, c, rfl, -, h2⟩
  · omega
  · have := h2 k hk
    rw [Nat.zero_add] at this
    exact ⟨g, c, rfl, this⟩
theorem RV.pt {W : World} {L : Nat} {v : Value} {b : SP.Bs} (h : RV W L v b) : Pt W v b := by
  rcases h with ⟨h1, rfl⟩ | ⟨g, c, rfl, h1, h2⟩
  · exact ⟨none, 0, by rw [h1], Or.inl h1⟩
  · exact ⟨_, _, rfl, Or.inr ⟨g, 0, rfl, h1.1, h2⟩⟩
theorem holds_frontQ {W : World} {g : Nat} {b x : SP.Bs} (h : Holds SP.encB W g 0 (b ++ x)) : Holds SP.encB W g 0 b := fun j hj => by
  have := h j (by rw [Array.size_append]; omega)
  rw [getElem!_pos (b ++ x) j (by rw [Array.size_append]; omega), Array.getElem_append_left hj, ← getElem!_pos b j hj] at this
  exact this
theorem RV.typ {W : World} {L : Nat} {v : Value} {b : SP.Bs} {g : Nat} (h : RV W L v b) (hg : v.ownBlock = some g) : TyQ W L g := by
  rcases h with ⟨-, rfl⟩ | ⟨g', c, rfl, h1, -⟩
  · cases hg
  · obtain rfl : g' = g := Option.some.inj hg
    exact h1
/-- A block of another type, from L on. -/
theorem TyQ.ne {W : World} {L g g' : Nat} {cur : Array Value} {t : TypeId} (h : TyQ W L g) (hL : L ≤ g') (hc : W.heap[g']? = some (.cells cur t (0, 0))) (ht : t ≠ 5) : g' ≠ g := by
  rintro rfl
  rcases h.2 with h1 | ⟨cur', h1⟩
  · omega
  · rw [hc] at h1
    injection h1 with h1
    injection h1 with _ h1 _
    exact ht h1
end Go.Proofs.YtmepmoalhgehhaaGreatDoor
namespace Go.Proofs.YtmepmoalhgehhaaGreatDoor
open Go.RowKit Go.Sort Go.Deep
def fillQ (i j : Nat) : UInt8 := UInt8.ofNat ((i * 37 + j) % 253) ^^^ 90
theorem fillQ_int (i j : Nat) : bits .xor .u8 (((i : Int) * 37 + (j : Int)) % 253) 90 = SP.ub (fillQ i j) := by
  have H : ∀ j : Fin 253, bits .xor .u8 (j.val : Int) 90 = SP.ub (UInt8.ofNat j.val ^^^ 90) := by decide +kernel
  have := H ⟨(i * 37 + j) % 253, Nat.mod_lt _ (by decide)⟩
  have e : (((i * 37 + j) % 253 : Nat) : Int) = ((i : Int) * 37 + (j : Int)) % 253 := by omega
  simp only [e] at this
  exact this
theorem ubQ_succ (x : UInt8) : IntKind.u8.wrap (SP.ub x + 1) = SP.ub (x + 1) := by
  have H : ∀ j : Fin 256, IntKind.u8.wrap ((j.val : Int) + 1) = (((UInt8.ofNat j.val + 1).toNat : Nat) : Int) := by decide +kernel
  have := H ⟨x.toNat, x.toNat_lt⟩
  unfold SP.ub
  simp only [UInt8.ofNat_toNat] at this
  exact this
/-- What has grown of b, list i, behind j steps. -/
def flQ (b : SP.Bs) (i : Nat) : Nat → SP.Bs
  | 0 => b
  | j + 1 => flQ b i j ++ #[fillQ i j]
theorem flQ_size (b : SP.Bs) (i : Nat) : ∀ j, (flQ b i j).size = b.size + j
  | 0 => rfl
  | j + 1 => by rw [flQ, Array.size_append, flQ_size b i j]; rfl
theorem arr_front (a x : SP.Bs) (k : Nat) (h : k < a.size) : (a ++ x)[k]! = a[k]! := by
  rw [getElem!_pos (a ++ x) k (by rw [Array.size_append]; omega), getElem!_pos a k h, Array.getElem_append_left h]
theorem flQ_low (b : SP.Bs) (i k : Nat) (hk : k < b.size) : ∀ j, (flQ b i j)[k]! = b[k]!
  | 0 => rfl
  | j + 1 => by rw [flQ, arr_front _ _ _ (by rw [flQ_size]; omega), flQ_low b i k hk j]
theorem flQ_high (b : SP.Bs) (i k : Nat) : ∀ j, k < j → (flQ b i j)[b.size + k]! = fillQ i k
  | 0, h => absurd h (by omega)
  | j + 1, h => by
    rw [flQ]
    by_cases e : k = j
    · subst e
      rw [getElem!_pos (flQ b i k ++ #[fillQ i k]) (b.size + k) (by rw [Array.size_append, flQ_size]; show _ < _ + 1; omega), Array.getElem_append_right (by rw [flQ_size]; omega)]
      simp [flQ_size]
    · rw [arr_front _ _ _ (by rw [flQ_size]; omega), flQ_high b i k j (by omega)]
theorem flQ_app (b : SP.Bs) (i j : Nat) : ∃ x, flQ b i j = b ++ x := by
  induction j with
  | zero => exact ⟨#[], by rw [Array.append_empty]; rfl⟩
  | succ j ih =>
    obtain ⟨x, hx⟩ := ih
    exact ⟨x ++ #[fillQ i j], by rw [flQ, hx, Array.append_assoc]⟩
/-- The first k bytes, each one more. -/
def incQ (b : SP.Bs) : Nat → SP.Bs
  | 0 => b
  | k + 1 => (incQ b k).setIfInBounds k (b[k]! + 1)
theorem incQ_size (b : SP.Bs) : ∀ k, (incQ b k).size = b.size
  | 0 => rfl
  | k + 1 => by rw [incQ, Array.size_setIfInBounds, incQ_size b k]
theorem incQ_at (b : SP.Bs) : ∀ k j, k ≤ b.size → j < b.size → (incQ b k)[j]! = if j < k then b[j]! + 1 else b[j]!
  | 0, j, _, _ => by simp [incQ]
  | k + 1, j, hk, hj => by
    have hj' : j < ((incQ b k).setIfInBounds k (b[k]! + 1)).size := by rw [Array.size_setIfInBounds, incQ_size]; exact hj
    rw [incQ, getElem!_pos _ j hj', Array.getElem_setIfInBounds (by rw [incQ_size]; exact hj)]
    by_cases e : k = j
    · subst e
      rw [if_pos rfl, if_pos (by omega)]
    · rw [if_neg e, ← getElem!_pos (incQ b k) j (by rw [incQ_size]; exact hj), incQ_at b k j (by omega) hj]
      by_cases h : j < k
      · rw [if_pos h, if_pos (by omega)]
      · rw [if_neg h, if_neg (by omega)]
def T2Q (T : Nat → SP.Bs) (i k : Nat) : Nat → SP.Bs := fun j => if j < i then incQ (T j) (T j).size else if j = i then incQ (T j) k else T j
theorem T2Q_zero (T : Nat → SP.Bs) : T2Q T 0 0 = T := by
  funext j
  unfold T2Q
  rw [if_neg (by omega)]
  by_cases h : j = 0
  · rw [if_pos h]; rfl
  · rw [if_neg h]
theorem T2Q_next (T : Nat → SP.Bs) (i : Nat) : T2Q T i (T i).size = T2Q T (i + 1) 0 := by
  funext j
  unfold T2Q
  by_cases h : j < i
  · rw [if_pos h, if_pos (by omega)]
  · rw [if_neg h]
    by_cases h2 : j = i
    · rw [if_pos h2, if_pos (by omega), h2]
    · rw [if_neg h2, if_neg (by omega)]
      by_cases h3 : j = i + 1
      · rw [if_pos h3]; rfl
      · rw [if_neg h3]
theorem T2Q_own (T : Nat → SP.Bs) (i k : Nat) : T2Q T i k i = incQ (T i) k := by unfold T2Q; rw [if_neg (by omega), if_pos rfl]
theorem T2Q_else (T : Nat → SP.Bs) (i k j : Nat) (h : j ≠ i) : T2Q T i (k + 1) j = T2Q T i k j := by
  unfold T2Q
  rw [if_neg h, if_neg h]
theorem T2Q_size (T : Nat → SP.Bs) (i k j : Nat) : (T2Q T i k j).size = (T j).size := by
  unfold T2Q
  split
  · exact incQ_size _ _
  · split
    · exact incQ_size _ _
    · rfl
theorem T2Q_all (T : Nat → SP.Bs) (n j : Nat) (h : j < n) : T2Q T n 0 j = incQ (T j) (T j).size := by unfold T2Q; rw [if_pos h]
theorem bC_set (b : SP.Bs) (k : Nat) (x : UInt8) : bC (b.setIfInBounds k x) = (bC b).set k (SP.encB x) := by
  unfold bC
  rw [Array.toList_setIfInBounds, List.map_set]
/-- What is laid down of the lists, at first. -/
structure ARow (w : World) (B kl n : Nat) (V : Nat → Value) : Prop where
  cell : ∀ j, j < n → w.cell? ⟨kl, j, none⟩ = some (V j)
  kb : 0 < n → kl < w.heap.size
  ne : ∀ j, j < n → (V j).ownBlock ≠ some kl
  inj : ∀ j j', j < n → j' < n → j ≠ j' → ∀ g, (V j).ownBlock = some g → (V j').ownBlock ≠ some g
  lt : ∀ j, j < n → ∀ g, (V j).ownBlock = some g → B ≤ g ∧ g < w.heap.size
/-- While they are written. -/
structure AS (w W : World) (B kl n : Nat) (V : Nat → Value) (T : Nat → SP.Bs) (sv : Value) (m : Nat) (S : Nat → SP.Bs) : Prop where
  bl : Below B w W
  sz : w.heap.size ≤ W.heap.size
  kl0 : 0 < n → W.heap[kl]? = w.heap[kl]?
  own : ∀ j, j < n → OwQ W w.heap.size B (V j) (T j)
  sl : W.ownsRow w.heap.size 9 1 sv m ((List.range m).map fun j => .string ⟨S j⟩)
theorem AS.cell {w W : World} {B kl n m : Nat} {V : Nat → Value} {T S : Nat → SP.Bs} {sv : Value} (h : AS w W B kl n V T sv m S) (hA : ARow w B kl n V) {j : Nat} (hj : j < n) : W.cell? ⟨kl, j, none⟩ = some (V j) := by
  have : W.cell? ⟨kl, j, none⟩ = w.cell? ⟨kl, j, none⟩ := by unfold World.cell?; rw [h.kl0 (by omega)]
  rw [this]
  exact hA.cell j hj
theorem AS.drewN {w W : World} {B kl n m : Nat} {V : Nat → Value} {T S : Nat → SP.Bs} {sv : Value} (h : AS w W B kl n V T sv m S) (q : Nat) : AS w (W.drewN q) B kl n V T sv m S := ⟨⟨h.bl.os, h.bl.tape, h.bl.output, h.bl.size, h.bl.block⟩, h.sz, h.kl0, h.own, h.sl⟩
theorem AS.drew {w W : World} {B kl n m : Nat} {V : Nat → Value} {T S : Nat → SP.Bs} {sv : Value} (h : AS w W B kl n V T sv m S) : AS w W.drew B kl n V T sv m S := ⟨⟨h.bl.os, h.bl.tape, h.bl.output, h.bl.size, h.bl.block⟩, h.sz, h.kl0, h.own, h.sl⟩
/-- A text is appended to the texts. -/
theorem infoST : (Tryz.prog.info? 9).map (fun i => (i.size, i.bytes, i.zero.map fun z => z.cells.size)) = some (1, 16, some 1) := by kernel_rfl
theorem undST : Tryz.prog.underlying 38 = some (.slice 9) := by kernel_rfl
theorem AS.push {w W : World} {B kl n m : Nat} {V : Nat → Value} {T S : Nat → SP.Bs} {sv : Value} (h : AS w W B kl n V T sv m S) (hA : ARow w B kl n V) (hB : B ≤ w.heap.size) (hm : m ≤ 1000000) {x : ByteArray} (hx : x = ⟨S m⟩) :
    ∃ v' W', (Builtin.append_ #[38, 38] 38 #[sv, .slice (some ⟨W.heap.size, 0, none⟩) 1 1]).run Tryz.prog (W.alloc (.cells #[.string x] 9)) = .ok v' W' ∧ AS w W' B kl n V T v' (m + 1) S := by
  have hs := h.sz
  obtain ⟨v', W', r1, r2, r3⟩ := own_app1 undST infoST (by omega) h.sl (x := .string x) rfl (by omega) hs
  have hsv : ∀ g, g < w.heap.size → sv.ownBlock ≠ some g := fun g hg e => by
    have := (own_lt h.sl e).1
    omega
  have hk : ∀ g, g < w.heap.size → W'.heap[g]? = W.heap[g]? := fun g hg => r3.keep g (by omega) (hsv g hg)
  refine ⟨v', W', r1, ⟨by rw [r3.os, h.bl.os], by rw [r3.tape, h.bl.tape], by rw [r3.output, h.bl.output], Nat.le_trans h.bl.size r3.size, fun g hg => ?_⟩, by have := r3.size; omega, fun hn => ?_, fun j hj => ?_, ?_⟩
  · rw [hk g (by omega), h.bl.block g hg]
  · rw [hk kl (hA.kb hn), h.kl0 hn]
  · exact (h.own j hj).keep r3.size (fun g hg => hk g (hA.lt j hj g hg).2)
  · rw [List.range_succ, List.map_append]
    rw [hx] at r2
    exact r2
/-- A byte is written. -/
theorem AS.set {w W : World} {B kl n m i k g c : Nat} {V : Nat → Value} {T S : Nat → SP.Bs} {sv : Value} {x : UInt8} (h : AS w W B kl n V (T2Q T i k) sv m S) (hA : ARow w B kl n V) (hi : i < n) (hv : V i = .slice (some ⟨g, 0, none⟩) (T i).size c) (hk0 : k < (T i).size) (hx : x = (T i)[k]! + 1) : AS w (W.setCell ⟨g, k, none⟩ (SP.encB x)) B kl n V (T2Q T i (k + 1)) sv m S := by
  have ho := h.own i hi
  have hg : (V i).ownBlock = some g := by rw [hv]; rfl
  obtain ⟨g1, g2⟩ := hA.lt i hi g hg
  have hsz := T2Q_size T i k i
  have s1 : W.heap.size ≤ (W.setCell ⟨g, k, none⟩ (SP.encB x)).heap.size := by rw [World.size_setCell]; exact Nat.le_refl _
  have hk : ∀ y, y < W.heap.size → y ≠ g → (W.setCell ⟨g, k, none⟩ (SP.encB x)).heap[y]? = W.heap[y]? := fun y _ hne => heap_setCell_other W ⟨g, k, none⟩ y _ hne
  have hs := h.sz
  refine ⟨⟨h.bl.os, h.bl.tape, h.bl.output, Nat.le_trans h.bl.size s1, fun y hy => ?_⟩, Nat.le_trans hs s1, fun hn => ?_, fun j hj => ?_, ?_⟩
  · rw [hk y (by omega) (by omega), h.bl.block y hy]
  · have := hA.kb hn
    rw [hk kl (by omega) (fun e => hA.ne i hi (by rw [hg, e])), h.kl0 hn]
  · by_cases e : j = i
    · subst e
      rw [hv, T2Q_own] at ho
      have hsz' : (incQ (T j) k).size = (T j).size := incQ_size _ _
      rw [hv, T2Q_own, incQ, ← hx]
      rw [← hsz'] at ho ⊢
      exact ho.set (by rw [hsz']; exact hk0)
    · rw [T2Q_else _ _ _ _ e]
      refine (h.own j hj).keep s1 (fun y hy => hk y (by have := (hA.lt j hj y hy).2; omega) (fun e2 => ?_))
      rw [e2] at hy
      exact hA.inj j i hj hi e g hy hg
  · refine own_keep h.sl (fun y hy => ?_)
    have := own_lt h.sl hy
    exact hk y this.2.1 (by omega)
end Go.Proofs.YtmepmoalhgehhaaGreatDoor
namespace Go.Proofs.YtmepmoalhgehhaaGreatDoor
open Go.RowKit Go.Sort Go.Deep
/-- While they grow: i lists are grown, rows from o on are as they were. -/
structure AG (w W : World) (B kl n : Nat) (V : Nat → Value) (T : Nat → SP.Bs) (sv : Value) (S : Nat → SP.Bs) (gv : Value) (i o : Nat) (U : Nat → Value) : Prop where
  bl : Below B w W
  sz : w.heap.size ≤ W.heap.size
  kl0 : 0 < n → W.heap[kl]? = w.heap[kl]?
  own : ∀ j, o ≤ j → j < n → OwQ W w.heap.size B (V j) (T j)
  rv : ∀ j, j < n → RV W w.heap.size (V j) (T j)
  sl : W.ownsRow w.heap.size 9 1 sv n ((List.range n).map fun j => .string ⟨S j⟩)
  gl : W.ownsRow w.heap.size 24 1 gv i ((List.range i).map U)
  uv : ∀ j, j < i → RV W w.heap.size (U j) (flQ (T j) j 80)
  ud : ∀ j, j < i → (U j).ownBlock = (V j).ownBlock ∨ ∃ g, (U j).ownBlock = some g ∧ w.heap.size ≤ g
variable {w W : World} {B kl n i o : Nat} {V U : Nat → Value} {T S : Nat → SP.Bs} {sv gv u : Value}
theorem AG.cell (h : AG w W B kl n V T sv S gv i o U) (hA : ARow w B kl n V) {j : Nat} (hj : j < n) : W.cell? ⟨kl, j, none⟩ = some (V j) := by
  have : W.cell? ⟨kl, j, none⟩ = w.cell? ⟨kl, j, none⟩ := by unfold World.cell?; rw [h.kl0 (by omega)]
  rw [this]
  exact hA.cell j hj
theorem AG.drewN (h : AG w W B kl n V T sv S gv i o U) (q : Nat) : AG w (W.drewN q) B kl n V T sv S gv i o U := ⟨⟨h.bl.os, h.bl.tape, h.bl.output, h.bl.size, h.bl.block⟩, h.sz, h.kl0, h.own, h.rv, h.sl, h.gl, h.uv, h.ud⟩
theorem AG.begin (h : AS w W B kl n V T sv n S) : AG w W B kl n V T sv S (.slice none 0 0) 0 0 U :=
  ⟨h.bl, h.sz, h.kl0, fun j _ hj => h.own j hj, fun j hj => RV.of (h.own j hj), h.sl, ⟨rfl, Or.inl ⟨rfl, rfl⟩⟩, fun j hj => absurd hj (Nat.not_lt_zero _), fun j hj => absurd hj (Nat.not_lt_zero _)⟩
/-- While list i grows. -/
structure AJ (w W : World) (B kl n : Nat) (V : Nat → Value) (T : Nat → SP.Bs) (sv : Value) (S : Nat → SP.Bs) (gv : Value) (i : Nat) (U : Nat → Value) (u : Value) (j : Nat) : Prop where
  ag : AG w W B kl n V T sv S gv i (i + 1) U
  cu : OwQ W w.heap.size B u (flQ (T i) i j)
  cd : u.ownBlock = (V i).ownBlock ∨ ∃ g, u.ownBlock = some g ∧ w.heap.size ≤ g
  un : ∀ k, k < i → ∀ g, (U k).ownBlock = some g → u.ownBlock ≠ some g
theorem AJ.begin (h : AG w W B kl n V T sv S gv i i U) (hA : ARow w B kl n V) (hi : i < n) : AJ w W B kl n V T sv S gv i U (V i) 0 := by
  refine ⟨⟨h.bl, h.sz, h.kl0, fun j h1 h2 => h.own j (by omega) h2, h.rv, h.sl, h.gl, h.uv, h.ud⟩, h.own i (Nat.le_refl _) hi, Or.inl rfl, fun k hk g hg e => ?_⟩
  have hl := hA.lt i hi g e
  rcases h.ud k hk with h1 | ⟨g', h1, h2⟩
  · rw [h1] at hg
    exact hA.inj k i (by omega) hi (by omega) g hg e
  · rw [h1] at hg
    have := Option.some.inj hg
    omega
theorem AJ.push {j : Nat} (h : AJ w W B kl n V T sv S gv i U u j) (hA : ARow w B kl n V) (hi : i < n) (hin : i < n) (hsz : (T i).size + j ≤ 1000000) (hB : B ≤ w.heap.size) {x : Value} (hx : x = SP.encB (fillQ i j)) :
    ∃ v' W', (Builtin.append_ #[24, 24] 24 #[u, .slice (some ⟨W.heap.size, 0, none⟩) 1 1]).run Tryz.prog (W.alloc (.cells #[x] 5)) = .ok v' W' ∧ AJ w W' B kl n V T sv S gv i U v' (j + 1) := by
  have a := h.ag
  have hs := a.sz
  subst hx
  obtain ⟨v', W', r1, r2, r3⟩ := h.cu.app (x := fillQ i j) (by rw [flQ_size]; omega) (by omega)
  have hcu' : OwQ W' w.heap.size B v' (flQ (T i) i (j + 1)) := r2
  have ut : ∀ g, u.ownBlock = some g → B ≤ g ∧ TyQ W w.heap.size g := fun g hg => h.cu.lt hg
  have uV : ∀ k, k < n → k ≠ i → ∀ g, (V k).ownBlock = some g → u.ownBlock ≠ some g := fun k hk hne g hg e => by
    rcases h.cd with h1 | ⟨g', h1, h2⟩
    · rw [h1] at e
      exact hA.inj k i hk hi hne g hg e
    · rw [h1] at e
      have e' := Option.some.inj e
      have := (hA.lt k hk g hg).2
      omega
  have hrs := r3.size
  refine ⟨v', W', r1, ⟨⟨⟨by rw [r3.os, a.bl.os], by rw [r3.tape, a.bl.tape], by rw [r3.output, a.bl.output], Nat.le_trans a.bl.size r3.size, fun g hg => ?_⟩, by omega, fun hn => ?_, fun k h1 h2 => ?_, fun k hk => ?_, ?_, ?_, fun k hk => ?_, a.ud⟩, hcu', ?_, fun k hk g hg => ?_⟩⟩
  · rw [r3.keep g (by omega) (fun e => by have := (ut g e).1; omega), a.bl.block g hg]
  · have hk := hA.kb hn
    rw [r3.keep kl (by omega) (fun e => by
      rcases h.cd with h1 | ⟨g', h1, h2⟩
      · exact hA.ne i hi (by rw [← h1]; exact e)
      · rw [h1] at e
        have := Option.some.inj e
        omega), a.kl0 hn]
  · exact (a.own k h1 h2).keep hrs (fun g hg => r3.keep g ((a.own k h1 h2).lt hg).2.1 (uV k h2 (by omega) g hg))
  · by_cases e : k = i
    · subst e
      rcases r3.mv with h1 | ⟨-, h1⟩
      · by_cases hb : u.ownBlock = (V k).ownBlock
        · rcases id (a.rv k hk) with h2 | ⟨g, c, h2, -⟩
          · exact Or.inl h2
          · obtain ⟨x', hx'⟩ := flQ_app (T k) k (j + 1)
            have hv' : v'.ownBlock = some g := by rw [h1, hb, h2]; rfl
            have hR := RV.of hcu'
            rw [hx'] at hR
            rcases id hR with ⟨-, e⟩ | ⟨g2, c2, e, t2, e2⟩
            · rw [e] at hv'; cases hv'
            · rw [e] at hv'
              obtain rfl : g2 = g := Option.some.inj hv'
              exact Or.inr ⟨g2, c, h2, t2, holds_frontQ e2⟩
        · exact (a.rv k hk).keep hrs (fun g hg => r3.keep g ((a.rv k hk).typ hg).1 (fun e => hb (by rw [e, hg])))
      · exact (a.rv k hk).keep hrs (fun g hg => h1 g ((a.rv k hk).typ hg).1)
    · exact (a.rv k hk).keep hrs (fun g hg => r3.keep g ((a.rv k hk).typ hg).1 (uV k hk e g hg))
  · refine own_keep a.sl (fun g hg => ?_)
    obtain ⟨g1, g2, cur, g3⟩ := own_lt a.sl hg
    exact r3.keep g g2 (fun e => (ut g e).2.ne g1 g3 (by decide) rfl)
  · refine own_keep a.gl (fun g hg => ?_)
    obtain ⟨g1, g2, cur, g3⟩ := own_lt a.gl hg
    exact r3.keep g g2 (fun e => (ut g e).2.ne g1 g3 (by decide) rfl)
  · exact (a.uv k hk).keep hrs (fun g hg => r3.keep g ((a.uv k hk).typ hg).1 (h.un k hk g hg))
  · rcases r3.mv with h1 | ⟨⟨g, h1, h2⟩, -⟩
    · rw [h1]; exact h.cd
    · exact Or.inr ⟨g, h1, by omega⟩
  · rcases r3.mv with h1 | ⟨⟨g', h1, h2⟩, -⟩
    · rw [h1]; exact h.un k hk g hg
    · rw [h1]
      intro e
      have e' := Option.some.inj e
      have := ((a.uv k hk).typ hg).1
      omega
theorem AJ.done (h : AJ w W B kl n V T sv S gv i U u 80) (hA : ARow w B kl n V) (hi : i < n) (hn : i ≤ 1000000) (hB : B ≤ w.heap.size) :
    ∃ v' W', (Builtin.append_ #[33, 33] 33 #[gv, .slice (some ⟨W.heap.size, 0, none⟩) 1 1]).run Tryz.prog (W.alloc (.cells #[u] 24)) = .ok v' W' ∧ AG w W' B kl n V T sv S v' (i + 1) (i + 1) (fun k => if k = i then u else U k) := by
  have a := h.ag
  have hs := a.sz
  have hu : RV W w.heap.size u (flQ (T i) i 80) := RV.of h.cu
  obtain ⟨v', W', r1, r2, r3⟩ := own_app1 undBB infoBB (by omega) a.gl (x := u) (by
    obtain ⟨q, c, rfl⟩ := hu.slice
    rfl) (by omega) hs
  have gt : ∀ g, gv.ownBlock = some g → w.heap.size ≤ g ∧ g < W.heap.size ∧ ∃ cur, W.heap[g]? = some (.cells cur 24 (0, 0)) := fun g hg => own_lt a.gl hg
  have hrs := r3.size
  have old : ∀ g, g < w.heap.size → W'.heap[g]? = W.heap[g]? := fun g hg => r3.keep g (by omega) (fun e => by have := (gt g e).1; omega)
  have kp : ∀ {v : Value} {b : SP.Bs}, RV W w.heap.size v b → RV W' w.heap.size v b := fun hv => hv.keep hrs (fun g hg => by
    have ty := hv.typ hg
    exact r3.keep g ty.1 (fun e => by
      obtain ⟨e1, -, cur', e3⟩ := gt g e
      exact ty.ne e1 e3 (by decide) rfl))
  refine ⟨v', W', r1, ⟨⟨by rw [r3.os, a.bl.os], by rw [r3.tape, a.bl.tape], by rw [r3.output, a.bl.output], Nat.le_trans a.bl.size r3.size, fun g hg => ?_⟩, by omega, fun hn => ?_, fun k h1 h2 => ?_, fun k hk => kp (a.rv k hk), ?_, ?_, fun k hk => ?_, fun k hk => ?_⟩⟩
  · rw [old g (by omega), a.bl.block g hg]
  · rw [old kl (hA.kb hn), a.kl0 hn]
  · exact (a.own k h1 h2).keep hrs (fun g hg => old g (hA.lt k h2 g hg).2)
  · refine own_keep a.sl (fun g hg => ?_)
    obtain ⟨-, g2, cur, g3⟩ := own_lt a.sl hg
    exact r3.keep g g2 (fun e => by
      obtain ⟨-, -, cur', e3⟩ := gt g e
      rw [g3] at e3
      injection e3 with e3
      injection e3 with _ e3 _
      cases e3)
  · rw [List.range_succ, List.map_append]
    have e1 : (List.range i).map (fun k => if k = i then u else U k) = (List.range i).map U := by
      refine List.map_congr_left fun k hk => ?_
      have := List.mem_range.1 hk
      rw [if_neg (by omega)]
    rw [e1]
    simp only [List.map_cons, List.map_nil, if_pos]
    exact r2
  · by_cases e : k = i
    · subst e
      rw [if_pos rfl]
      exact kp hu
    · rw [if_neg e]
      exact kp (a.uv k (by omega))
  · by_cases e : k = i
    · subst e
      rw [if_pos rfl]
      exact h.cd
    · rw [if_neg e]
      exact a.ud k (by omega)
end Go.Proofs.YtmepmoalhgehhaaGreatDoor
namespace Go.Proofs.YtmepmoalhgehhaaGreatDoor
open Go.RowKit Go.Sort Go.Deep
/-- Row p, as it is looked at. -/
structure LookQ (W : World) (kl gs gg p : Nat) (qv qu : Option Addr) (m cv cu : Nat) (s : ByteArray) (b b3 : SP.Bs) (L : Nat) : Prop where
  cl : W.cell? ⟨kl, p, none⟩ = some (.slice qv m cv)
  cs : W.cell? ⟨gs, p, none⟩ = some (.string s)
  cg : W.cell? ⟨gg, p, none⟩ = some (.slice qu (m + 80) cu)
  hl : RV W L (.slice qv m cv) b
  hg : RV W L (.slice qu (m + 80) cu) b3
theorem LookQ.drewN {W : World} {kl gs gg p m cv cu L : Nat} {qv qu : Option Addr} {s : ByteArray} {b b3 : SP.Bs} (h : LookQ W kl gs gg p qv qu m cv cu s b b3 L) (q : Nat) : LookQ (W.drewN q) kl gs gg p qv qu m cv cu s b b3 L := ⟨h.cl, h.cs, h.cg, h.hl, h.hg⟩
theorem mixedQ : Tryz.prog.follows .mixedOrders = true := by kernel_rfl
theorem own_cellS {W : World} {base n g c : Nat} {e : TypeId} {xs : List Value} (h : W.ownsRow base e 1 (.slice (some ⟨g, 0, none⟩) n c) n xs) {j : Nat} {u : Value} (hu : xs[j]? = some u) : W.cell? ⟨g, j, none⟩ = some u := by
  have := h.cells (g := g) rfl j u hu
  rw [addP0, Nat.zero_add] at this
  exact this
theorem own_shape {W : World} {base n : Nat} {e : TypeId} {v : Value} {xs : List Value} (h : W.ownsRow base e 1 v n xs) (hn : 0 < n) : ∃ g c, v = .slice (some ⟨g, 0, none⟩) n c := by
  rcases h with ⟨-, ⟨-, h0⟩ | ⟨g, cap, cur, rfl, -⟩⟩
  · omega
  · exact ⟨g, cap, rfl⟩
set_option maxHeartbeats 4000000 in
set_option maxRecDepth 100000 in
theorem ApartQ (kl n c B : Nat) (q : Option Addr) (V : Nat → Value) (T : Nat → SP.Bs) (w : World) (hn : n ≤ 5000) (hq : 0 < n → q = some ⟨kl, 0, none⟩) (hA : ARow w B kl n V) (hO : ∀ j, j < n → OwQ w w.heap.size B (V j) (T j)) (hT : ∀ j, j < n → (T j).size ≤ 100000) (hBw : B ≤ w.heap.size) :
    Calls Tryz.prog 10 #[.slice q n c] w (fun e w' => e = .returned (.bool true) ∧ Below B w w') := by
  have HA := Hid.mkP hA
  have HT := Hid.mkP hT
  have HQ := Hid.mkP hq
  have A0 : Hid (AS w w B kl n V T (.slice none 0 0) 0 T) := ⟨Below.refl _ _, Nat.le_refl _, fun _ => rfl, hO, ⟨rfl, Or.inl ⟨rfl, rfl⟩⟩⟩
  clear hA hO hq hT
  go_enter Tryz.func10, Tryz.ntmps10
  go_wp2
  go_loopg [3, 4] n (fun gk s3 s4 wr => ∃ (i : Nat) (sv : Value), i + gk = n ∧ sv = s3 ∧ s4 = .int .i64 (i : Int) ∧ Hid (AS w wr B kl n V T sv i T))
  case atStart => exact ⟨0, _, Nat.zero_add _, rfl, rfl, A0⟩
  case round =>
    clear A0
    obtain ⟨i, sv, hi, rfl, rfl, HS⟩ := hrel
    by_cases hlt : i < n
    · have hlt' : (i : Int) < (n : Int) := by omega
      obtain rfl := HQ.out (by omega)
      have hc := HS.out.cell HA.out hlt
      have hpt := (RV.of (HS.out.own i hlt)).pt
      obtain ⟨qv, cv, hv, -⟩ := id hpt
      rw [hv] at hc hpt
      have hcv := hpt.conv
      obtain ⟨v', w3, hap, hL3⟩ := HS.out.push HA.out hBw (by omega) (x := ⟨T i⟩) rfl
      have HL3 := Hid.mkP hL3
      generalize (⟨T i⟩ : ByteArray) = s at hcv hap
      generalize Array.size (T i) = m at hc hcv
      clear hL3 hpt hv HS
      go_wp2_with (at_builtin; refine Lib.wpList_append_run _ rfl _ _ 38 38 rfl _ _ rfl rfl _ _ hap ?_)
      go_roundg (gk - 1)
      case measure => omega
      case rel => exact ⟨i + 1, _, by omega, rfl, rfl, HL3⟩
    · have hge : ¬ (i : Int) < (n : Int) := by omega
      obtain rfl : i = n := by omega
      have HS1 : Hid (AS w wr B kl i V (T2Q T 0 0) sv i T) := by rw [T2Q_zero]; exact HS
      clear HS hi hlt
      go_wp2
      clear hge
      go_loopg [5] i (fun gk s5 wr => ∃ k : Nat, k + gk = i ∧ s5 = .int .i64 (k : Int) ∧ Hid (AS w wr B kl i V (T2Q T k 0) sv i T))
      case atStart => exact ⟨0, Nat.zero_add _, rfl, HS1⟩
      case round =>
        clear HS1
        obtain ⟨k, hk, rfl, HS1⟩ := hrel
        by_cases hlt : k < i
        · have hlt' : (k : Int) < (i : Int) := by omega
          obtain rfl := HQ.out (by omega)
          have hm : (T k).size ≤ 100000 := HT.out k hlt
          obtain ⟨m, hmm⟩ : ∃ m, Hid ((T k).size = m) := ⟨_, rfl⟩
          rw [hmm.out] at hm
          obtain ⟨qv, cv, hv⟩ := (RV.of (HS1.out.own k hlt)).slice
          rw [T2Q_size, hmm.out] at hv
          have Hv := Hid.mkP hv
          clear hv
          go_wp2
          go_loopg [6] m (fun gj s6 wr => ∃ j : Nat, j + gj = m ∧ s6 = .int .i64 (j : Int) ∧ Hid (AS w wr B kl i V (T2Q T k j) sv i T))
          case atStart => exact ⟨0, Nat.zero_add _, rfl, HS1⟩
          case round =>
            clear HS1
            obtain ⟨j, hj, rfl, HS1⟩ := hrel
            have hc := HS1.out.cell HA.out hlt
            rw [Hv.out] at hc
            by_cases hj2 : j < m
            · have hj3 : (j : Int) < (m : Int) := by omega
              obtain ⟨x, hx⟩ : ∃ x, (T k)[j]! = x := ⟨_, rfl⟩
              obtain ⟨g, c0, e1, hb0, hf0⟩ := (RV.of (HS1.out.own k hlt)).at (k := j) (by rw [T2Q_size, hmm.out]; exact hj2)
              rw [T2Q_own, incQ_at _ _ _ (by rw [hmm.out]; omega) (by rw [hmm.out]; omega), if_neg (by omega), hx] at hb0
              have e2 : V k = .slice (some ⟨g, 0, none⟩) (T k).size c0 := by rw [e1, T2Q_size]
              rw [Hv.out, hmm.out] at e2
              injection e2 with e3 _ e4
              subst e3 e4
              have hw := ubQ_succ x
              have HS2 : Hid (AS w (wr.setCell ⟨g, j, none⟩ (SP.encB (x + 1))) B kl i V (T2Q T k (j + 1)) sv i T) := HS1.out.set HA.out hlt (by rw [Hv.out, hmm.out]) (by rw [hmm.out]; exact hj2) (by rw [hx])
              unfold SP.encB at hb0 HS2
              clear HS1 hx e1
              generalize SP.ub x = u at hb0 hw
              go_wp2_with fail
              go_still_tail 14, mixedQ
              go_wp2
              go_roundg (gk - 1)
              case measure => omega
              case rel => exact ⟨j + 1, by omega, rfl, HS2.out.drew⟩
            · have hj3 : ¬ (j : Int) < (m : Int) := by omega
              obtain rfl : j = m := by omega
              have HS2 : Hid (AS w wr B kl i V (T2Q T (k + 1) 0) sv i T) := by
                rw [← T2Q_next, hmm.out]
                exact HS1
              clear HS1
              go_wp2
              go_roundg (i - (k + 1))
              case measure => omega
              case rel => exact ⟨k + 1, by omega, rfl, HS2⟩
        · have hge : ¬ (k : Int) < (i : Int) := by omega
          obtain rfl : k = i := by omega
          have HG0 : Hid (AG w wr B kl k V (T2Q T k 0) sv T (.slice none 0 0) 0 0 (fun _ => undef)) := AG.begin HS1.out
          clear hlt hk HS1
          go_wp2
          clear hge
          go_loopg [7, 8] k (fun gk s7 s8 wr => ∃ (i : Nat) (gv : Value) (U : Nat → Value), i + gk = k ∧ gv = s7 ∧ s8 = .int .i64 (i : Int) ∧ Hid (AG w wr B kl k V (T2Q T k 0) sv T gv i i U))
          case atStart => exact ⟨0, _, _, Nat.zero_add _, rfl, rfl, HG0⟩
          case round =>
            clear HG0
            obtain ⟨i, gv, U, hi, rfl, rfl, HG1⟩ := hrel
            by_cases hlt : i < k
            · have hlt' : (i : Int) < (k : Int) := by omega
              obtain rfl := HQ.out (by omega)
              have hc := HG1.out.cell HA.out hlt
              obtain ⟨qv, cv, hv⟩ := (HG1.out.rv i hlt).slice
              have HJ0 : Hid (AJ w wr B kl k V (T2Q T k 0) sv T gv i U (V i) 0) := AJ.begin HG1.out HA.out hlt
              have hm : (T2Q T k 0 i).size ≤ 100000 := by rw [T2Q_size]; exact HT.out i hlt
              obtain ⟨m, Hm⟩ : ∃ m, Hid ((T2Q T k 0 i).size = m) := ⟨_, rfl⟩
              rw [hv, Hm.out] at hc HJ0
              rw [Hm.out] at hm
              clear hv HG1
              go_wp2
              clear hc
              go_loopg [9, 10] 80 (fun gk s9 s10 wr => ∃ (j : Nat) (bv : Value), j + gk = 80 ∧ bv = s9 ∧ s10 = .int .i64 (j : Int) ∧ Hid (AJ w wr B kl k V (T2Q T k 0) sv T gv i U bv j))
              case atStart => exact ⟨0, _, Nat.zero_add _, rfl, rfl, HJ0⟩
              case round =>
                clear HJ0
                obtain ⟨j, bv, hj, rfl, rfl, HJ⟩ := hrel
                by_cases hj2 : j < 80
                · have hj3 : (j : Int) < 80 := by omega
                  have hf := fillQ_int i j
                  obtain ⟨v', w3, hap, hL3⟩ := HJ.out.push HA.out hlt hlt (by rw [Hm.out]; omega) hBw (x := .int .u8 (SP.ub (fillQ i j))) rfl
                  have HL3 := Hid.mkP hL3
                  clear hL3 HJ
                  generalize SP.ub (fillQ i j) = u at hf hap
                  go_wp2_with (at_builtin; refine Lib.wpList_append_run _ rfl _ _ 24 24 rfl _ _ rfl rfl _ _ hap ?_)
                  go_roundg (gk - 1)
                  case measure => omega
                  case rel => exact ⟨j + 1, _, by omega, rfl, rfl, HL3⟩
                · have hj3 : ¬ (j : Int) < 80 := by omega
                  obtain rfl : j = 80 := by omega
                  obtain ⟨qb, cb, hbv⟩ : ∃ q c, bv = .slice q (m + 80) c := by
                    have h1 : RV wr w.heap.size bv (flQ (T2Q T k 0 i) i 80) := RV.of HJ.out.cu
                    obtain ⟨q, c, h2⟩ := h1.slice
                    rw [flQ_size, Hm.out] at h2
                    exact ⟨q, c, h2⟩
                  subst hbv
                  obtain ⟨v', w3, hap, hL3⟩ := HJ.out.done HA.out hlt (by omega) hBw
                  have HL3 := Hid.mkP hL3
                  clear hL3 HJ
                  go_wp2_with (at_builtin; refine Lib.wpList_append_run _ rfl _ _ 33 33 rfl _ _ rfl rfl _ _ hap ?_)
                  go_roundg (k - (i + 1))
                  case measure => omega
                  case rel => exact ⟨i + 1, _, _, by omega, rfl, rfl, HL3⟩
            · have hge : ¬ (i : Int) < (k : Int) := by omega
              obtain rfl : i = k := by omega
              clear hlt hi
              go_wp2
              clear hge
              go_loopg [11] i (fun gk s11 wr => ∃ p : Nat, p + gk = i ∧ s11 = .int .i64 (p : Int) ∧ Hid (AG w wr B kl i V (T2Q T i 0) sv T gv i i U))
              case atStart => exact ⟨0, Nat.zero_add _, rfl, HG1⟩
              case round =>
                clear HG1
                obtain ⟨p, hp, rfl, HST⟩ := hrel
                by_cases hlt : p < i
                · have hlt' : (p : Int) < (i : Int) := by omega
                  obtain rfl := HQ.out (by omega)
                  obtain ⟨gs, cs, rfl⟩ := own_shape HST.out.sl (by omega)
                  obtain ⟨gg, cg, rfl⟩ := own_shape HST.out.gl (by omega)
                  have hcs : wr.cell? ⟨gs, p, none⟩ = some (.string ⟨T p⟩) := own_cellS HST.out.sl (by rw [List.getElem?_map, List.getElem?_range hlt]; rfl)
                  have hcg : wr.cell? ⟨gg, p, none⟩ = some (U p) := own_cellS HST.out.gl (by rw [List.getElem?_map, List.getElem?_range hlt]; rfl)
                  have hcl := HST.out.cell HA.out hlt
                  have hHl := HST.out.rv p hlt
                  have hHg := HST.out.uv p hlt
                  obtain ⟨qv, cv, hv⟩ := hHl.slice
                  obtain ⟨qu, cu, hu⟩ := hHg.slice
                  have hm : (T p).size ≤ 100000 := HT.out p hlt
                  obtain ⟨m, hmm⟩ : ∃ m, (T p).size = m := ⟨_, rfl⟩
                  rw [T2Q_size, hmm] at hv
                  rw [flQ_size, T2Q_size, hmm] at hu
                  rw [hv] at hcl hHl
                  rw [hu] at hcg hHg
                  rw [hmm] at hm
                  have HLK : Hid (LookQ wr kl gs gg p qv qu m cv cu ⟨T p⟩ (T2Q T i 0 p) (flQ (T2Q T i 0 p) p 80) w.heap.size) := ⟨hcl, hcs, hcg, hHl, hHg⟩
                  have HB1 : Hid (∀ j, j < m → (T2Q T i 0 p)[j]! = (T p)[j]! + 1) := fun j hj => by rw [T2Q_all _ _ _ hlt, incQ_at _ _ _ (Nat.le_refl _) (by rw [hmm]; exact hj), if_pos (by rw [hmm]; exact hj)]
                  have HB2 : Hid (∀ j, j < m → (flQ (T2Q T i 0 p) p 80)[j]! = (T p)[j]! + 1) := fun j hj => by
                    rw [flQ_low _ _ _ (by rw [T2Q_size, hmm]; exact hj)]
                    exact HB1.out j hj
                  have HB3 : Hid (∀ j, j < 80 → (flQ (T2Q T i 0 p) p 80)[m + j]! = fillQ p j) := fun j hj => by
                    have := flQ_high (T2Q T i 0 p) p j 80 hj
                    rw [T2Q_size, hmm] at this
                    exact this
                  have HSS : Hid ((T2Q T i 0 p).size = m ∧ (flQ (T2Q T i 0 p) p 80).size = m + 80) := ⟨by rw [T2Q_size, hmm], by rw [flQ_size, T2Q_size, hmm]⟩
                  generalize flQ (T2Q T i 0 p) p 80 = b3 at HLK HB2 HB3 HSS
                  obtain ⟨b, hb⟩ : ∃ b, T2Q T i 0 p = b := ⟨_, rfl⟩
                  rw [hb] at HLK HB1 HSS
                  obtain ⟨s, hs⟩ : ∃ s : ByteArray, s = ⟨T p⟩ := ⟨_, rfl⟩
                  rw [← hs] at HLK hcs
                  have hsz : s.size = m := by rw [hs]; exact hmm
                  have HSX : Hid (∀ j (h : j < s.size), s[j] = (T p)[j]!) := fun j h => by
                    subst hs
                    have h' : j < (T p).size := h
                    rw [getElem!_pos (T p) j h']
                    rfl
                  clear hHg hHl hs hb hv hu hmm
                  go_wp2_with fail
                  go_quiet (fail)
                  have HST1 := Hid.mkP (HST.out.drewN nq)
                  have HLK1 := Hid.mkP (HLK.out.drewN nq)
                  clear HST HLK hcs hcg hcl
                  generalize wr.drewN nq = w6 at HST1 HLK1 ⊢
                  go_wp2
                  go_loopg [12] m (fun gk s12 wr => ∃ j : Nat, j + gk = m ∧ s12 = .int .i64 (j : Int) ∧ Hid (AG w wr B kl i V (T2Q T i 0) (.slice (some ⟨gs, 0, none⟩) i cs) T (.slice (some ⟨gg, 0, none⟩) i cg) i i U) ∧ Hid (LookQ wr kl gs gg p qv qu m cv cu s b b3 w.heap.size))
                  case atStart => exact ⟨0, Nat.zero_add _, rfl, HST1, HLK1⟩
                  case round =>
                    clear HST1 HLK1
                    obtain ⟨j, hj, rfl, HST, HLK⟩ := hrel
                    have hcs := HLK.out.cs
                    by_cases hj2 : j < m
                    · have hj3 : (j : Int) < (m : Int) := by omega
                      have hj4 : j < s.size := by omega
                      have hj5 : (j : Int) < (s.size : Int) := by omega
                      have hj6 : (j : Int) < (m : Int) + 80 := by omega
                      have hcl := HLK.out.cl
                      have hcg := HLK.out.cg
                      obtain ⟨g1, c1, e1, h1, -⟩ := HLK.out.hl.at (k := j) (by rw [HSS.out.1]; exact hj2)
                      obtain ⟨g2, c2, e2, h2, -⟩ := HLK.out.hg.at (k := j) (by rw [HSS.out.2]; omega)
                      rw [HB1.out j hj2] at h1
                      rw [HB2.out j hj2] at h2
                      injection e1 with e1 _ _
                      injection e2 with e2 _ _
                      have hw : IntKind.u8.wrap ((s[j].toNat : Int) + 1) = SP.ub ((T p)[j]! + 1) := by rw [HSX.out j hj4]; exact ubQ_succ _
                      unfold SP.encB at h1 h2
                      generalize SP.ub ((T p)[j]! + 1) = u at h1 h2 hw
                      rw [e1] at hcl
                      rw [e2] at hcg
                      go_wp2_with fail
                      go_quiet (fail)
                      have HST1 := Hid.mkP (HST.out.drewN nq)
                      have HLK1 := Hid.mkP (HLK.out.drewN nq)
                      clear HST HLK hcs hcg hcl h1 h2 hw
                      generalize wr.drewN nq = w7 at HST1 HLK1 ⊢
                      go_wp2
                      go_roundg (gk - 1)
                      case measure => omega
                      case rel => exact ⟨j + 1, by omega, rfl, HST1, HLK1⟩
                    · have hj3 : ¬ (j : Int) < (m : Int) := by omega
                      have hj7 : ¬ (j : Int) < (s.size : Int) := by omega
                      go_wp2
                      clear hcs hj3
                      go_loopg [13] 80 (fun gk s13 wr => ∃ j : Nat, j + gk = 80 ∧ s13 = .int .i64 (j : Int) ∧ Hid (AG w wr B kl i V (T2Q T i 0) (.slice (some ⟨gs, 0, none⟩) i cs) T (.slice (some ⟨gg, 0, none⟩) i cg) i i U) ∧ Hid (LookQ wr kl gs gg p qv qu m cv cu s b b3 w.heap.size))
                      case atStart => exact ⟨0, Nat.zero_add _, rfl, HST, HLK⟩
                      case round =>
                        clear HST HLK hj hj2
                        obtain ⟨j, hj, rfl, HST, HLK⟩ := hrel
                        by_cases hj2 : j < 80
                        · have hj3 : (j : Int) < 80 := by omega
                          have hcs := HLK.out.cs
                          have hcg := HLK.out.cg
                          obtain ⟨m2, hm2⟩ : ∃ m2, m + j = m2 := ⟨_, rfl⟩
                          have i1 : (s.size : Int) + (j : Int) = (m2 : Int) := by omega
                          have i2 : (m2 : Int) < (m : Int) + 80 := by omega
                          obtain ⟨g2, c2, e2, h2, -⟩ := HLK.out.hg.at (k := m2) (by rw [HSS.out.2]; omega)
                          injection e2 with e2 _ _
                          rw [e2] at hcg
                          rw [← hm2, HB3.out j hj2, hm2] at h2
                          have hf := fillQ_int p j
                          unfold SP.encB at h2
                          generalize SP.ub (fillQ p j) = u at h2 hf
                          go_wp2_with fail
                          go_quiet (fail)
                          have HST1 := Hid.mkP (HST.out.drewN nq)
                          have HLK1 := Hid.mkP (HLK.out.drewN nq)
                          clear HST HLK hcs hcg h2 hf
                          generalize wr.drewN nq = w7 at HST1 HLK1 ⊢
                          go_wp2
                          go_roundg (gk - 1)
                          case measure => omega
                          case rel => exact ⟨j + 1, by omega, rfl, HST1, HLK1⟩
                        · have hj3 : ¬ (j : Int) < 80 := by omega
                          go_wp2
                          go_roundg (i - (p + 1))
                          case measure => omega
                          case rel => exact ⟨p + 1, by omega, rfl, HST⟩
                · have hge : ¬ (p : Int) < (i : Int) := by omega
                  go_wp2
                  go_ret
                  exact ⟨rfl, HST.out.bl⟩
end Go.Proofs.YtmepmoalhgehhaaGreatDoor
namespace Go.Proofs.YtmepmoalhgehhaaGreatDoor
open Go.RowKit Go.Sort Go.Deep
variable {N : Nat}
theorem pop0 : ∀ (f x : Nat), x < 2 ^ f → OC.popAux f x = 0 → x = 0
  | 0, x, h, _ => by simp at h; exact h
  | f + 1, x, h, e => by
    rw [OC.popAux] at e
    have := pop0 f (x / 2) (by rw [Nat.pow_succ] at h; omega) (by omega)
    omega
theorem pop1 : ∀ (f x : Nat), x < 2 ^ f → OC.popAux f x = 1 → ∃ k, k < f ∧ x = 2 ^ k
  | 0, x, _, e => by rw [OC.popAux] at e; omega
  | f + 1, x, h, e => by
    rw [OC.popAux] at e
    rw [Nat.pow_succ] at h
    by_cases h2 : x % 2 = 1
    · have := pop0 f (x / 2) (by omega) (by omega)
      exact ⟨0, by omega, by rw [Nat.pow_zero]; omega⟩
    · obtain ⟨k, h3, h4⟩ := pop1 f (x / 2) (by omega) (by omega)
      exact ⟨k + 1, by omega, by rw [Nat.pow_succ, ← h4]; omega⟩
/-- An amount is no denomination. -/
def NoP (x : Nat) : Prop := ∀ k, k < 20 → x ≠ 2 ^ k
theorem nop_or {x : Nat} (hx : x < 18446744073709551616) (hn : NoP x) : OC.popAux 64 x ≠ 1 ∨ 524288 < x := by
  by_cases h : OC.popAux 64 x = 1
  · right
    obtain ⟨k, h1, h2⟩ := pop1 64 x hx h
    by_cases hk : k < 20
    · exact absurd h2 (hn k hk)
    · have : 2 ^ 20 ≤ 2 ^ k := Nat.pow_le_pow_right (by decide) (by omega)
      omega
  · exact Or.inl h
theorem placen_c (x : Nat) (hx : x < 18446744073709551616) (hn : NoP x) (w : World) : Calls Tryz.prog 6 #[.int .u64 (x : Int)] w fun e w' => e = .returned (.tuple #[.int .i64 0, .int .i64 7]) ∧ w' = w := by
  have hO := ones_c x hx w
  have h := nop_or hx hn
  generalize OC.popAux 64 x = p at hO h
  clear hn
  by_cases hp : p = 1
  · have g1 : (524288 : Int) < (x : Int) := by omega
    subst hp
    clear h
    go_enter Tryz.func6, Tryz.ntmps6
    go_wp2_with fail
    refine hO.mono ?_
    rintro e w' ⟨rfl, rfl⟩
    clear hO
    go_wp2
    go_ret2
    exact ⟨rfl, rfl⟩
  · have g1 : ¬ (p : Int) = 1 := by omega
    have g2 : ((p : Int) == 1) = false := by simpa using g1
    clear h
    go_enter Tryz.func6, Tryz.ntmps6
    go_wp2_with fail
    refine hO.mono ?_
    rintro e w' ⟨rfl, rfl⟩
    clear hO
    go_wp2
    go_ret2
    exact ⟨rfl, rfl⟩
theorem KeyF_c (sq : Option Addr) (n sc nb x : Nat) (hn : n ≠ 32) (w : World) : Calls Tryz.prog 4 #[.slice sq n sc, .int .u32 (nb : Int), .int .u64 (x : Int)] w fun e w' => e = .returned (.tuple #[.slice none 0 0, .int .i64 2]) ∧ w' = w := by
  have hS := isSeedY_c sq n sc w
  rw [decide_eq_false hn] at hS
  clear hn
  go_enter Tryz.func4, Tryz.ntmps4
  go_wp2_with fail
  refine hS.mono ?_
  rintro e w' ⟨rfl, rfl⟩
  clear hS
  go_wp2
  go_ret2
  exact ⟨rfl, rfl⟩
theorem KeyN_c (sq : Option Addr) (sc nb x : Nat) (hx : x < 18446744073709551616) (hn : NoP x) (w : World) : Calls Tryz.prog 4 #[.slice sq 32 sc, .int .u32 (nb : Int), .int .u64 (x : Int)] w fun e w' => e = .returned (.tuple #[.slice none 0 0, .int .i64 7]) ∧ w' = w := by
  have hS := isSeedY_c sq 32 sc w
  have hP := placen_c x hx hn w
  clear hn hx
  go_enter Tryz.func4, Tryz.ntmps4
  go_wp2_with fail
  refine hS.mono ?_
  rintro e w' ⟨rfl, rfl⟩
  clear hS
  go_wp2_with fail
  refine hP.mono ?_
  rintro e w' ⟨rfl, rfl⟩
  clear hP
  go_wp2
  go_ret2
  exact ⟨rfl, rfl⟩
/-- The mint's key for an amount: its bytes, what is wrong. -/
def kyB (N : Nat) (k : Bs) (nb x : Nat) : Bs := if k.size = 32 ∧ x ∈ (List.range 20).map (2 ^ ·) then bx (mkN N k nb (Nat.log2 x)) else #[]
def kyE (k : Bs) (x : Nat) : Nat := if k.size = 32 then (if x ∈ (List.range 20).map (2 ^ ·) then 0 else 7) else 2
theorem nop_mem {x : Nat} (h : NoP x) : ¬ x ∈ (List.range 20).map (2 ^ ·) := fun hm => by
  obtain ⟨k, h1, h2⟩ := List.mem_map.1 hm
  exact h k (List.mem_range.1 h1) h2.symm
theorem pow_mem {x k : Nat} (hk : k < 20) (hx : x = 2 ^ k) : x ∈ (List.range 20).map (2 ^ ·) := List.mem_map.2 ⟨k, List.mem_range.2 hk, hx.symm⟩
theorem pow_cases (x : Nat) : (∃ k, k < 20 ∧ x = 2 ^ k) ∨ NoP x := by
  by_cases h : ∃ k, k < 20 ∧ x = 2 ^ k
  · exact Or.inl h
  · exact Or.inr fun k hk e => h ⟨k, hk, e⟩
theorem log_pow {x k : Nat} (hx : x = 2 ^ k) : Nat.log2 x = k := by rw [hx, Nat.log2_two_pow]
/-- THE PROGRAM'S Key. -/
theorem KeyA_c (O : Ord N) (sq : Option Addr) (sc : Nat) (k : Bs) (nb x : Nat) (hnb : nb < 4294967296) (hx : x < 18446744073709551616) (w : World) (hk : SP.PartOk w (.slice sq k.size sc) k.toList) (hT : TabX w) :
    Calls Tryz.prog 4 #[.slice sq k.size sc, .int .u32 (nb : Int), .int .u64 (x : Int)] w (Ret fun e w' => Below w.heap.size w w' ∧ ∃ v, e = .tuple #[v, .int .i64 (kyE k x : Int)] ∧ Pt w' v (kyB N k nb x)) := by
  by_cases h32 : k.size = 32
  · rcases pow_cases x with ⟨i, hi, hxi⟩ | hn
    · have e1 : kyE k x = 0 := by unfold kyE; rw [if_pos h32, if_pos (pow_mem hi hxi)]
      have e2 : kyB N k nb x = bx (mkN N k nb i) := by unfold kyB; rw [if_pos ⟨h32, pow_mem hi hxi⟩, log_pow hxi]
      rw [e1, e2]
      rw [h32] at hk ⊢
      refine (Key_c O sq sc k nb i x hnb hi hxi w hk hT).mono ?_
      rintro e w' ⟨v, rfl, hb, g, rfl, h1, h2⟩
      exact ⟨_, rfl, hb, _, rfl, some ⟨g, 0, none⟩, 32, by rw [bx_size], Or.inr ⟨g, 0, rfl, h1, h2⟩⟩
    · have e1 : kyE k x = 7 := by unfold kyE; rw [if_pos h32, if_neg (nop_mem hn)]
      have e2 : kyB N k nb x = #[] := by unfold kyB; rw [if_neg (fun h => nop_mem hn h.2)]
      rw [e1, e2, h32]
      refine (KeyN_c sq sc nb x hx hn w).mono ?_
      rintro e w' ⟨rfl, rfl⟩
      exact ⟨_, rfl, Below.refl _ _, _, rfl, none, 0, rfl, Or.inl rfl⟩
  · have e1 : kyE k x = 2 := by unfold kyE; rw [if_neg h32]
    have e2 : kyB N k nb x = #[] := by unfold kyB; rw [if_neg (fun h => h32 h.1)]
    rw [e1, e2]
    refine (KeyF_c sq k.size sc nb x h32 w).mono ?_
    rintro e w' ⟨rfl, rfl⟩
    exact ⟨_, rfl, Below.refl _ _, _, rfl, none, 0, rfl, Or.inl rfl⟩
end Go.Proofs.YtmepmoalhgehhaaGreatDoor
namespace Go.Proofs.YtmepmoalhgehhaaGreatDoor
open Go.RowKit Go.Sort Go.Deep
variable {P : Nat} [NeZero P] {N : Nat}
theorem results_cY {P : Program} {fn : Func} {tmps : Array Value} {W : World} {k : Nat} {vs : List Value} {v : Value} (t u : Tmp) (T : TypeId) (hr : fn.results = #[.cell t T, .tmp u]) (h : Row W k vs) (ht : tmps[t]? = some (.pointer (some ⟨k, 0, none⟩))) (hv : tmps[u]? = some v)
    (hu : (P.underlying T).map (·.isRow) = some true) (hi : (P.info? T).map (·.size) = some vs.length) : (results fn tmps).run P W = .ok (.tuple #[.agg vs.toArray, v]) W := by
  obtain ⟨d, hu, hd⟩ := Option.map_eq_some_iff.1 hu
  have h1 := run_loadVar_mid (P := P) W k 0 T vs d h.2.1 hu hd hi
  have h2 : tmps.getD t undef = .pointer (some ⟨k, 0, none⟩) := by rw [Array.getD_eq_getD_getElem?, ht]; rfl
  have h3 : tmps.getD u undef = v := by rw [Array.getD_eq_getD_getElem?, hv]; rfl
  unfold results
  rw [hr]
  simp only [Array.mapM_eq_mapM_toList, List.mapM_cons, List.mapM_nil, h2, h3, asAddr]
  simp [Sem.run_bind, h1]
/-- The public key at a place. -/
def pkB (P N : Nat) [NeZero P] (k : Bs) (nb i : Nat) : Bs := wr (EC.mul (mkN N k nb i) (gG P))
theorem row_blk {W W' : World} {k : Nat} {vs : List Value} (h : Row W k vs) (hs : W.heap.size ≤ W'.heap.size) (e : W'.heap[k]? = W.heap[k]?) : Row W' k vs :=
  ⟨Nat.lt_of_lt_of_le h.1 hs, fun j v hj => by rw [World.cell?_of_block (a := ⟨k, 0 + j, none⟩) e]; exact h.2.1 j v hj, fun j hj => by rw [World.cell?_of_block (a := ⟨k, 0 + j, none⟩) e, World.frozen?_of_block (a := ⟨k, 0 + j, none⟩) e]; exact h.2.2 j hj⟩
theorem row_set {W : World} {k : Nat} {vs : List Value} (h : Row W k vs) (j : Nat) (hj : j < vs.length) (v : Value) : Row (W.setCell ⟨k, j, none⟩ v) k (vs.set j v) := by
  have hcj : ∃ u, W.cell? ⟨k, j, none⟩ = some u := ⟨_, h.cell hj⟩
  obtain ⟨u, hcj⟩ := hcj
  have hce : ∀ i u, (vs.set j v)[i]? = some u → (W.setCell ⟨k, j, none⟩ v).cell? ⟨k, 0 + i, none⟩ = some u := fun i u hi => by
    rw [Nat.zero_add]
    by_cases e : i = j
    · subst e
      rw [List.getElem?_set_self hj] at hi
      obtain rfl := Option.some.inj hi
      exact World.cell?_setCell_same _ _ _ hcj
    · rw [List.getElem?_set_ne (fun x => e x.symm)] at hi
      rw [World.cell?_setCell_other _ _ _ _ (by intro x; injection x with _ x _; exact e x.symm)]
      have := h.2.1 i u hi
      rw [Nat.zero_add] at this
      exact this
  refine ⟨by rw [World.size_setCell]; exact h.1, hce, fun i hi => ?_⟩
  rw [List.length_set] at hi
  refine ⟨by rw [hce i ((vs.set j v)[i]'(by rw [List.length_set]; exact hi)) (List.getElem?_eq_getElem _)]; rfl, ?_⟩
  rw [World.frozen?_setCell]
  exact (h.2.2 i hi).2
/-- Bytes of a point, in new memory. -/
theorem ptBytesK_c {a : Bs} (ha : a.size = 33) (w : World) : Calls Tryz.prog 20 #[pvl a] w (Ret fun e w' => Below w.heap.size w w' ∧ ∃ k, e = .slice (some ⟨k, 0, none⟩) 33 33 ∧ w.heap.size ≤ k ∧ k < w'.heap.size ∧ Holds encB w' k 0 a) := by
  have B1 := Hid.mk' (boxCP ha w)
  obtain ⟨w1, hw1⟩ : ∃ w1, Hid (w.alloc (.cells (bl33 a).toArray 52) = w1) := ⟨_, rfl⟩
  rw [hw1.out] at B1
  have K : Hid (Row w1 w.heap.size (bl33 a) ∧ Below w.heap.size w w1) := by rw [← hw1.out]; exact ⟨row_new w _ _, below1 w _⟩
  obtain ⟨va, hva⟩ : ∃ v, Hid (pvl a = v) := ⟨_, rfl⟩
  have B1' : Hid ((Instr.box 52 va).run Tryz.prog w = .ok (.pointer (some ⟨w.heap.size, 0, none⟩)) w1) := by rw [← hva.out]; exact B1
  rw [hva.out]
  have hs := slCP w.heap.size
  clear B1 hw1
  go_enter Tryz.func20, Tryz.ntmps20
  go_wp2_with (first | (refine wpList_box (u := va) (v := .pointer (some ⟨w.heap.size, 0, none⟩)) (w' := w1) rfl 52 (.tmp 0) rfl ?_ ?_ ?_; rfl; exact B1'.out))
  go_ret
  exact ⟨_, rfl, K.out.2, w.heap.size, rfl, Nat.le_refl _, K.out.1.1, row_holds K.out.1⟩
/-- The public keys that are there already, and their blocks. -/
structure Pub (w W : World) (g : Nat) (S : Nat → Bs) (j : Nat) (C : List Value) (K : Nat → Nat) : Prop where
  bl : Below w.heap.size w W
  row : Row W g C
  len : C.length = 20
  el : ∀ i, i < j → C[i]? = some (.slice (some ⟨K i, 0, none⟩) 33 33) ∧ g < K i ∧ K i < W.heap.size ∧ (S i).size = 33 ∧ Holds encB W (K i) 0 (S i)
  up : ∀ i i', i < i' → i' < j → K i < K i'
  ks : Row W w.heap.size [.slice none 0 0, .slice none 0 0]
  gk : g = w.heap.size + 1
theorem Pub.below {w W W' : World} {g j : Nat} {S : Nat → Bs} {C : List Value} {K : Nat → Nat} (h : Pub w W g S j C K) (hb : Below W.heap.size W W') : Pub w W' g S j C K :=
  ⟨h.bl.trans (hb.mono h.bl.size), h.row.below hb, h.len, fun i hi => by
    obtain ⟨h1, h2, h3, h4, h5⟩ := h.el i hi
    exact ⟨h1, h2, Nat.lt_of_lt_of_le h3 hb.size, h4, Holds.kept h5 (hb.block _ h3)⟩, h.up, h.ks.below hb, h.gk⟩
theorem Pub.put {w W W0 : World} {g j k : Nat} {S : Nat → Bs} {C : List Value} {K : Nat → Nat} (h : Pub w W0 g S j C K) (hb : Below W0.heap.size W0 W) (hj : j < 20) (hk1 : W0.heap.size ≤ k) (hk2 : k < W.heap.size) (hs : (S j).size = 33) (hH : Holds encB W k 0 (S j)) :
    Pub w (W.setCell ⟨g, j, none⟩ (.slice (some ⟨k, 0, none⟩) 33 33)) g S (j + 1) (C.set j (.slice (some ⟨k, 0, none⟩) 33 33)) (fun i => if i = j then k else K i) := by
  have hP := h.below hb
  have hgW : g < W0.heap.size := h.row.1
  have hoth : ∀ y, y ≠ g → (W.setCell ⟨g, j, none⟩ (.slice (some ⟨k, 0, none⟩) 33 33)).heap[y]? = W.heap[y]? := fun y hy => heap_setCell_other W ⟨g, j, none⟩ y _ hy
  have hsz : (W.setCell ⟨g, j, none⟩ (.slice (some ⟨k, 0, none⟩) 33 33)).heap.size = W.heap.size := World.size_setCell _ _ _
  refine ⟨hP.bl.setCell (p := ⟨g, j, none⟩) (by show w.heap.size ≤ g; rw [h.gk]; omega) _, row_set hP.row j (by rw [h.len]; exact hj) _, by rw [List.length_set]; exact h.len, fun i hi => ?_, fun i i' h1 h2 => ?_, ?_, h.gk⟩
  · rw [hsz]
    by_cases hij : i = j
    · subst hij
      simp only [if_true]
      exact ⟨by rw [List.getElem?_set_self (by rw [h.len]; exact hj)], by omega, hk2, hs, Holds.kept hH (hoth _ (by omega))⟩
    · obtain ⟨h1, h2, h3, h4, h5⟩ := hP.el i (by omega)
      simp only [if_neg hij]
      exact ⟨by rw [List.getElem?_set_ne (fun e => hij e.symm)]; exact h1, h2, h3, h4, Holds.kept h5 (hoth _ (by omega))⟩
  · by_cases hij : i' = j
    · subst hij
      have h3 := (h.el i h1).2.2.1
      simp only [if_true, if_neg (Nat.ne_of_lt h1)]
      omega
    · have hij2 : i ≠ j := by omega
      simp only [if_neg hij, if_neg hij2]
      exact h.up i i' h1 (by omega)
  · exact row_blk hP.ks (by rw [hsz]; exact Nat.le_refl _) (hoth _ (by rw [h.gk]; omega))
end Go.Proofs.YtmepmoalhgehhaaGreatDoor
namespace Go.Proofs.YtmepmoalhgehhaaGreatDoor
open Go.RowKit Go.Sort Go.Deep
variable {P : Nat} [NeZero P] {N : Nat}
def nil20 : List Value := List.replicate 20 (.slice none 0 0)
theorem mk20 (w : World) : (Instr.makeSlice 33 (.int .i64 20) (.int .i64 20)).run Tryz.prog w = .ok (.slice (some ⟨w.heap.size, 0, none⟩) 20 20) (w.alloc (.cells nil20.toArray 24)) := by kernel_rfl
theorem uKS : (Tryz.prog.underlying 35).map (·.isRow) = some true := by kernel_rfl
theorem iKS : (Tryz.prog.info? 35).map (·.size) = some 2 := by kernel_rfl
theorem zKS : ∀ w : World, (zeroValue 35).run Tryz.prog w = .ok (.agg #[.slice none 0 0, .slice none 0 0]) w := fun _ => by kernel_rfl
theorem idx20 (g j : Nat) (hj : j < 20) (w : World) : (Instr.indexAt 33 (.slice (some ⟨g, 0, none⟩) 20 20) (.int .i64 (j : Int))).run Tryz.prog w = .ok (.pointer (some ⟨g, j, none⟩)) w := by
  have h1 : ¬ (j : Int) < 0 := by omega
  have h2 : (j : Int) < 20 := by omega
  go_simp
theorem one2 (a b : Value) (ha : a.oneCell' = true) (hb : b.oneCell' = true) : (#[a, b] : Array Value).all (·.oneCell') = true :=
  Go.all_oneCell_toArray (cs := [a, b]) fun v hv => by
    rcases List.mem_cons.1 hv with rfl | hv
    · exact ha
    · rcases List.mem_cons.1 hv with rfl | hv
      · exact hb
      · cases hv
/-- The calls of one round. -/
theorem round_calls (C : Fld P) (O : Ord N) (sq : Option Addr) (sc : Nat) (k : Bs) (nb : Nat) (hnb : nb < 4294967296) (j : Nat) (hj : j < 20) : ∃ (vG vy vB : Value) (T : List Value),
    (∀ W : World, Calls Tryz.prog 17 #[] W (Ret fun e w' => Below W.heap.size W w' ∧ e = vG)) ∧
    (∀ W : World, SP.PartOk W (.slice sq 32 sc) k.toList → Calls Tryz.prog 12 #[.slice sq 32 sc, .int .u32 (nb : Int), .int .i64 (j : Int)] W (Ret fun e w' => Below W.heap.size W w' ∧ e = vy)) ∧
    (∀ W : World, Calls Tryz.prog 18 #[vG, vy] W (Ret fun e w' => Below W.heap.size W w' ∧ ∃ k, e = .slice (some ⟨k, 0, none⟩) 1 1 ∧ Row w' k T)) ∧
    (∀ (g2 : Nat) (W : World), Row W g2 T → Calls Tryz.prog 19 #[.slice (some ⟨g2, 0, none⟩) 1 1] W (Ret fun e w' => Below W.heap.size W w' ∧ e = vB)) ∧
    (∀ W : World, Calls Tryz.prog 20 #[vB] W (Ret fun e w' => Below W.heap.size W w' ∧ ∃ k0, e = .slice (some ⟨k0, 0, none⟩) 33 33 ∧ W.heap.size ≤ k0 ∧ k0 < w'.heap.size ∧ Holds encB w' k0 0 (pkB P N k nb j))) := by
  refine ⟨pvl (wr (gG P)), nv (mkN N k nb j), pvl (pkB P N k nb j), wn (mkN N k nb j) ++ bl33 (wr (gG P)), fun W => gen_c C W, fun W h => mintKey_c O sq 32 sc k nb j hnb hj W h, fun W => (ptTimes_c (wr (gG P)) (wr_size _) (mkN N k nb j) W).mono ?_, fun g2 W h => one_point C O (mkN_lt O k nb j) (gG_on C) W h, fun W => ptBytesK_c (wr_size _) W⟩
  rintro e w' ⟨v, rfl, hb, k5, rfl, -, hR⟩
  exact ⟨_, rfl, hb, k5, rfl, hR⟩
def pkL (P N : Nat) [NeZero P] (k : Bs) (nb : Nat) : List (List UInt8) := (List.range 20).map fun i => (pkB P N k nb i).toList
theorem pkB_size (k : Bs) (nb i : Nat) : (pkB P N k nb i).size = 33 := wr_size _
/-- The name of a set of public keys. -/
def nmB (P N : Nat) [NeZero P] (k : Bs) (nb : Nat) : Bs := (SP.tagL [107, 101, 121, 115, 101, 116] (pkL P N k nb)).extract 0 8
/-- What Set answers. -/
def SetR (P N : Nat) [NeZero P] (w : World) (k : Bs) (nb : Nat) (e : Value) (w' : World) : Prop := Below w.heap.size w w' ∧ ∃ (r g : Nat) (C : List Value) (K : Nat → Nat), e = .tuple #[.agg #[.slice (some ⟨r, 0, none⟩) 8 8, .slice (some ⟨g, 0, none⟩) 20 20], .int .i64 0] ∧ Row w' g C ∧ C.length = 20 ∧ w.heap.size ≤ g ∧ g < r ∧ r < w'.heap.size ∧ (nmB P N k nb).size = 8 ∧ Holds encB w' r 0 (nmB P N k nb) ∧ (∀ i, i < 20 → C[i]? = some (.slice (some ⟨K i, 0, none⟩) 33 33) ∧ g < K i ∧ K i < r ∧ Holds encB w' (K i) 0 (pkB P N k nb i)) ∧ ∀ i i', i < i' → i' < 20 → K i < K i'
theorem holds_cut {W : World} {r : Nat} {T : Bs} (hT : T.size = 32) (h : Holds encB W r 0 T) : (T.extract 0 8).size = 8 ∧ Holds encB W r 0 (T.extract 0 8) := by
  have hs : (T.extract 0 8).size = 8 := by rw [Array.size_extract]; omega
  refine ⟨hs, fun j hj => ?_⟩
  rw [hs] at hj
  have h1 := h j (by omega)
  rw [getElem!_pos (T.extract 0 8) j (by omega), Array.getElem_extract]
  rw [getElem!_pos T j (by omega)] at h1
  simpa using h1
set_option maxHeartbeats 600000 in
set_option maxRecDepth 100000 in
theorem Set_c (C : Fld P) (O : Ord N) (sq : Option Addr) (sc : Nat) (k : Bs) (nb : Nat) (hnb : nb < 4294967296) (w : World) (hk : SP.PartOk w (.slice sq 32 sc) k.toList) :
    Calls Tryz.prog 8 #[.slice sq 32 sc, .int .u32 (nb : Int)] w (Ret (SetR P N w k nb)) := by
  obtain ⟨w1, hw1⟩ : ∃ w1, Hid (w.alloc (.cells #[.slice none 0 0, .slice none 0 0] 35) = w1) := ⟨_, rfl⟩
  obtain ⟨w2, hw2⟩ : ∃ w2, Hid (w1.alloc (.cells nil20.toArray 24) = w2) := ⟨_, rfl⟩
  have e1 : w1.heap.size = w.heap.size + 1 := by rw [← hw1.out, World.size_alloc]
  have hb01 : Below w.heap.size w w1 := by rw [← hw1.out]; exact below1 w _
  have hb12 : Below w1.heap.size w1 w2 := by rw [← hw2.out]; exact below1 w1 _
  have HK := Hid.mk2 hk
  have K2 : Hid (Pub w w2 (w.heap.size + 1) (pkB P N k nb) 0 nil20 (fun _ => 0)) := by
    refine ⟨hb01.trans (hb12.mono hb01.size), ?_, by decide, fun i hi => absurd hi (Nat.not_lt_zero _), fun i i' _ hi => absurd hi (Nat.not_lt_zero _), ?_, rfl⟩
    · rw [← hw2.out, ← e1]; exact row_new w1 _ _
    · have q1 : Row w1 w.heap.size [.slice none 0 0, .slice none 0 0] := by rw [← hw1.out]; exact row_new w _ _
      exact q1.below hb12
  have hS := isSeedY_c sq 32 sc w1
  have hmk := mk20 w1
  have HRC := Hid.mk2 (round_calls C O sq sc k nb hnb)
  have zk := zKS
  rw [hw2.out, e1] at hmk
  clear hb01 hb12 hk C O
  go_enter Tryz.func8, Tryz.ntmps8
  go_wp2_with fail
  rw [hw1.out]
  refine hS.mono ?_
  rintro e w' ⟨rfl, rfl⟩
  clear hS hw1
  go_wp2_with fail
  have Hgg : Hid (∃ g, g = w.heap.size + 1) := ⟨_, rfl⟩
  generalize hgg : w.heap.size + 1 = g at K2 ⊢
  have HG := Hid.mk2 hgg
  clear hgg hmk hw2 e1 Hgg
  go_loopg [7, 15] 20 (fun gk s7 s15 wr => ∃ (j : Nat) (L : List Value) (K : Nat → Nat), j + gk = 20 ∧ s15 = .int .i64 (j : Int) ∧ Hid (Pub w wr g (pkB P N k nb) j L K))
  case atStart => exact ⟨0, nil20, _, by omega, rfl, K2⟩
  case round =>
    clear K2
    obtain ⟨j, L, KK, hj, rfl, KM⟩ := hrel
    by_cases hj20 : j < 20
    · have hj' : (j : Int) < 20 := by omega
      obtain ⟨vG, vy, vB, T, f1, f2, f3, f4, f5⟩ := HRC.out j hj20
      have HGen := Hid.mk2 (f1 wr)
      have HMk := Hid.mk2 f2
      have HT := Hid.mk2 f3
      have HOne := Hid.mk2 f4
      have HBy := Hid.mk2 f5
      clear f1 f2 f3 f4 f5
      have hidx := idx20 g j hj20
      go_wp2_with fail
      refine HGen.out.mono ?_
      rintro e w3 ⟨v3, rfl, hb3, rfl⟩
      have K3 := Hid.mk2 hb3
      clear hb3 HGen
      go_wp2_with fail
      refine (HMk.out w3 (HK.out.below (KM.out.bl.trans (K3.out.mono KM.out.bl.size)))).mono ?_
      rintro e w4 ⟨v4, rfl, hb4, rfl⟩
      have K4 : Hid (Below wr.heap.size wr w4) := K3.out.trans (hb4.mono K3.out.size)
      clear hb4 HMk K3
      go_wp2_with fail
      refine (HT.out w4).mono ?_
      rintro e w5 ⟨v5, rfl, hb5, k5, rfl, hR5⟩
      have K5 : Hid (Below wr.heap.size wr w5 ∧ Row w5 k5 T) := ⟨K4.out.trans (hb5.mono K4.out.size), hR5⟩
      clear hb5 hR5 HT K4
      go_wp2_with fail
      refine (HOne.out k5 w5 K5.out.2).mono ?_
      rintro e w6 ⟨v6, rfl, hb6, rfl⟩
      have K6 : Hid (Below wr.heap.size wr w6) := K5.out.1.trans (hb6.mono K5.out.1.size)
      clear hb6 HOne K5
      go_wp2_with fail
      refine (HBy.out w6).mono ?_
      rintro e w7 ⟨v7, rfl, hb7, k7, rfl, hk71, hk72, hE7⟩
      have hb07 : Below wr.heap.size wr w7 := K6.out.trans (hb7.mono K6.out.size)
      have hP7 : Pub w w7 g (pkB P N k nb) j L KK := KM.out.below hb07
      have hz7 : w7.frozen? ⟨g, j, none⟩ = false := by
        have := (hP7.row.2.2 j (by rw [hP7.len]; exact hj20)).2
        rw [Nat.zero_add] at this
        exact this
      obtain ⟨u7, hu7⟩ : ∃ u, w7.cell? ⟨g, j, none⟩ = some u := ⟨_, hP7.row.cell (j := j) (by rw [hP7.len]; exact hj20)⟩
      have KN : Hid (Pub w (w7.setCell ⟨g, j, none⟩ (.slice (some ⟨k7, 0, none⟩) 33 33)) g (pkB P N k nb) (j + 1) (L.set j (.slice (some ⟨k7, 0, none⟩) 33 33)) (fun i => if i = j then k7 else KK i)) := KM.out.put hb07 hj20 (Nat.le_trans K6.out.size hk71) hk72 (pkB_size _ _ _) hE7
      clear hk71 hk72 hE7 hb07
      clear hb7 hP7 KM K6 HBy
      go_wp2
      go_roundg (gk - 1)
      case measure => omega
      case rel => exact ⟨j + 1, _, _, by omega, rfl, KN⟩
    · have hj' : ¬ (j : Int) < 20 := by omega
      obtain rfl : j = 20 := by omega
      have hpl : (pkL P N k nb).length = 20 := by unfold pkL; rw [List.length_map, List.length_range]
      have hTg := SP.Tag_any ⟨#[107, 101, 121, 115, 101, 116]⟩ (some ⟨g, 0, none⟩) 20 (pkL P N k nb) wr (by decide) (by rw [hpl]; decide) (Or.inr ⟨g, 0, rfl, fun i hi => ?_⟩)
      rotate_left
      · rw [hpl] at hi
        obtain ⟨h1, h2, h3, h4, h5⟩ := KM.out.el i hi
        refine ⟨_, KM.out.row.2.1 i _ h1, ?_⟩
        have e : (pkL P N k nb)[i]! = (pkB P N k nb i).toList := by
          rw [getElem!_pos _ i (by rw [hpl]; exact hi)]
          unfold pkL
          rw [List.getElem_map, List.getElem_range]
        rw [e]
        exact ⟨some ⟨KK i, 0, none⟩, KK i, 0, 33, pkB P N k nb i, by rw [h4], rfl, by omega, by omega, Or.inr ⟨rfl, h5⟩⟩
      rw [hpl] at hTg
      have K3 := KM
      clear KM HRC HK
      go_wp2_with fail
      refine hTg.mono ?_
      rintro e w4 ⟨r, rfl, hr, hb4, hH4⟩
      have K4 : Hid (Pub w w4 g (pkB P N k nb) 20 L KK ∧ wr.heap.size ≤ r ∧ (∀ i, i < 20 → KK i < wr.heap.size) ∧ g < wr.heap.size ∧ Holds encB w4 r 0 (SP.tagL [107, 101, 121, 115, 101, 116] (pkL P N k nb))) := ⟨K3.out.below hb4, hr, fun i hi => (K3.out.el i hi).2.2.1, K3.out.row.1, hH4⟩
      have hsl : ∀ W : World, (Instr.sliceAt 24 (.slice (some ⟨r, 0, none⟩) 32 32) none (some (.int .i64 8)) (some (.int .i64 8))).run Tryz.prog W = .ok (.slice (some ⟨r, 0, none⟩) 8 8) W := fun W => by kernel_rfl
      clear hTg hr hb4 hH4 K3
      obtain ⟨w5, hw5⟩ : ∃ w5, Hid (w4.setCells w.heap.size 0 [.slice (some ⟨r, 0, none⟩) 8 8, .slice (some ⟨g, 0, none⟩) 20 20] = w5) := ⟨_, rfl⟩
      have K5 : Hid (Row w5 w.heap.size [.slice (some ⟨r, 0, none⟩) 8 8, .slice (some ⟨g, 0, none⟩) 20 20] ∧ SetR P N w k nb (.tuple #[.agg #[.slice (some ⟨r, 0, none⟩) 8 8, .slice (some ⟨g, 0, none⟩) 20 20], .int .i64 0]) w5) := by
        rw [← hw5.out]
        obtain ⟨k4, hr4, hK4, hg4, hT4⟩ := K4.out
        have hb5 : Below w.heap.size w (w4.setCells w.heap.size 0 [.slice (some ⟨r, 0, none⟩) 8 8, .slice (some ⟨g, 0, none⟩) 20 20]) := RG.below_setCells (Nat.le_refl _) _ _ _ k4.bl
        have hoth : ∀ y, y ≠ w.heap.size → (w4.setCells w.heap.size 0 [.slice (some ⟨r, 0, none⟩) 8 8, .slice (some ⟨g, 0, none⟩) 20 20]).heap[y]? = w4.heap[y]? := fun y hy => RG.setCells_other _ _ _ _ _ hy
        have hgw := k4.gk
        obtain ⟨c1, c2⟩ := holds_cut (SP.tagL_size _ _) (Holds.kept hT4 (hoth r (by omega)))
        refine ⟨k4.ks.put rfl, hb5, r, g, L, KK, rfl, k4.row.other (by omega), k4.len, by omega, by omega, ?_, c1, c2, fun i hi => ?_, k4.up⟩
        · rw [RG.setCells_size]
          exact Holds.lt hT4 (by rw [SP.tagL_size]; omega)
        · obtain ⟨h1, h2, h3, h4, h5⟩ := k4.el i hi
          have := hK4 i hi
          exact ⟨h1, h2, by omega, Holds.kept h5 (hoth _ (by omega))⟩
      go_wp2_with (refine wpList_store_mid rfl 35 _ _ rfl w.heap.size 0 #[.slice (some ⟨r, 0, none⟩) 8 8, .slice (some ⟨g, 0, none⟩) 20 20] ?_ ?_ ?_ ?_ ?_ ?_; rfl; rfl; exact K4.out.1.ks.2.2; exact iKS; exact one2 _ _ rfl rfl; rw [show (#[Value.slice (some ⟨r, 0, none⟩) 8 8, .slice (some ⟨g, 0, none⟩) 20 20] : Array Value).toList = [.slice (some ⟨r, 0, none⟩) 8 8, .slice (some ⟨g, 0, none⟩) 20 20] from rfl, hw5.out])
      refine bodyPost_ret (results_cY 4 5 35 rfl K5.out.1 rfl rfl uKS iKS) rfl ?_
      exact ⟨_, rfl, K5.out.2⟩
/-- No seed. -/
theorem SetF_c (sq : Option Addr) (n sc nb : Nat) (hn : n ≠ 32) (w : World) : Calls Tryz.prog 8 #[.slice sq n sc, .int .u32 (nb : Int)] w (Ret fun e w' => Below w.heap.size w w' ∧ e = .tuple #[.agg #[.slice none 0 0, .slice none 0 0], .int .i64 2]) := by
  obtain ⟨w1, hw1⟩ : ∃ w1, Hid (w.alloc (.cells #[.slice none 0 0, .slice none 0 0] 35) = w1) := ⟨_, rfl⟩
  have hS := isSeedY_c sq n sc w1
  rw [decide_eq_false hn] at hS
  have zk := zKS
  have K1 : Hid (Row w1 w.heap.size [.slice none 0 0, .slice none 0 0] ∧ Below w.heap.size w w1) := by rw [← hw1.out]; exact ⟨row_new w _ _, below1 w _⟩
  clear hn
  go_enter Tryz.func8, Tryz.ntmps8
  go_wp2_with fail
  rw [hw1.out]
  refine hS.mono ?_
  rintro e w' ⟨rfl, rfl⟩
  clear hS hw1
  obtain ⟨w5, hw5⟩ : ∃ w5, Hid (w'.setCells w.heap.size 0 [.slice none 0 0, .slice none 0 0] = w5) := ⟨_, rfl⟩
  have K5 : Hid (Row w5 w.heap.size [.slice none 0 0, .slice none 0 0] ∧ Below w.heap.size w w5) := by rw [← hw5.out]; exact ⟨K1.out.1.put rfl, RG.below_setCells (Nat.le_refl _) _ _ _ K1.out.2⟩
  go_wp2_with (refine wpList_store_mid rfl 35 _ _ rfl w.heap.size 0 #[.slice none 0 0, .slice none 0 0] ?_ ?_ ?_ ?_ ?_ ?_; rfl; rfl; exact K1.out.1.2.2; exact iKS; exact one2 _ _ rfl rfl; rw [show (#[Value.slice none 0 0, .slice none 0 0] : Array Value).toList = [.slice none 0 0, .slice none 0 0] from rfl, hw5.out])
  refine bodyPost_ret (results_cY 4 5 35 rfl K5.out.1 rfl rfl uKS iKS) rfl ?_
  exact ⟨_, rfl, K5.out.2, rfl⟩
end Go.Proofs.YtmepmoalhgehhaaGreatDoor
