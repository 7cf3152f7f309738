import Derived.Test.YtdeidgbknlmhjabDD
import Derived.Test.YtdeidgbknlmhjabU1
import Derived.Test.YtdeidgbknlmhjabV1
import Derived.Deep.RegionHeld3
namespace Go.Proofs.Ytdeidgbknlmhjab
open Go.RowKit Go.Sort Go.Deep
variable {P : Nat} [NeZero P]

theorem RReadR.two (C : Fld P) {bs : Bs} {e : Value} (h : RReadR P bs e) : ∃ t : T3 P, e = .tuple #[tv t, .bool (rd P bs).isSome] ∧ ∀ p, rd P bs = some p → FracT t (pt p) := by
  unfold RReadR at h
  cases hr : rd P bs with
  | none =>
    rw [hr] at h
    obtain ⟨t, rfl⟩ := h
    exact ⟨t, rfl, fun p hp => by cases hp⟩
  | some p =>
    rw [hr] at h
    obtain ⟨t, q, rfl, h1, h2⟩ := h
    refine ⟨t, rfl, fun p' hp => ?_⟩
    obtain rfl := Option.some.inj hp
    rw [← pair_pt C h1 h2.2]
    exact h2
theorem NumQR.two {N : Nat} {bs : Bs} {e : Value} (h : NumQR N bs e) : ∃ m, e = .tuple #[nv m, .bool (rq N bs).isSome] ∧ ∀ n, rq N bs = some n → m = n := by
  unfold NumQR at h
  cases hr : rq N bs with
  | none =>
    rw [hr] at h
    obtain ⟨m, rfl⟩ := h
    exact ⟨m, rfl, fun n hn => by cases hn⟩
  | some n =>
    rw [hr] at h
    exact ⟨n, h, fun n' hn => Option.some.inj hn⟩
def z4 : Array Value := #[.int .u64 0, .int .u64 0, .int .u64 0, .int .u64 0]
theorem cell12 (w : World) (N : List Value) (hl : N.length = 12) (h1 : N.all (·.oneCell') = true) : ∃ w2, (storeCells ⟨w.heap.size, 0, none⟩ N).run Try.prog (w.alloc (.cells z12 56)) = .ok () w2 ∧ Below w.heap.size w w2 ∧ w2.rangeAt w.heap.size 0 N ∧ w.heap.size < w2.heap.size := by
  obtain ⟨w2, s0, -, -, hS⟩ := (RG.St.new w z12.toList 56).store1 (P := Try.prog) 56 (D := N) hl (by rw [hl]; exact i56) h1
  have hh := hS.has 0 N rfl
  exact ⟨w2, s0, hS.bel.below, hh.1, hh.2.2.1⟩
theorem cell4 (w : World) (N : List Value) (hl : N.length = 4) (h1 : N.all (·.oneCell') = true) : ∃ w2, (storeCells ⟨w.heap.size, 0, none⟩ N).run Try.prog (w.alloc (.cells z4 33)) = .ok () w2 ∧ Below w.heap.size w w2 ∧ w2.rangeAt w.heap.size 0 N ∧ w.heap.size < w2.heap.size := by
  obtain ⟨w2, s0, -, -, hS⟩ := (RG.St.new w z4.toList 33).store1 (P := Try.prog) 33 (D := N) hl (by rw [hl]; exact i33) h1
  have hh := hS.has 0 N rfl
  exact ⟨w2, s0, hS.bel.below, hh.1, hh.2.2.1⟩
omit [NeZero P] in
theorem tv_list (t : T3 P) : ∃ N : List Value, tv t = .agg N.toArray ∧ N.length = 12 ∧ N.all (·.oneCell') = true := ⟨ws t.1 ++ (ws t.2.1 ++ ws t.2.2), rfl, rfl, rfl⟩
theorem nv_list (m : Nat) : ∃ N : List Value, nv m = .agg N.toArray ∧ N.length = 4 ∧ N.all (·.oneCell') = true := ⟨wn m, rfl, rfl, rfl⟩
/-- What the law keeps: rows in blocks of their own. -/
structure Ro (W : World) (k : Nat) (N : List Value) : Prop where
  at' : W.rangeAt k 0 N
  lt : k < W.heap.size
theorem Ro.call {W W' : World} {k : Nat} {N : List Value} (h : Ro W k N) (hb : Below W.heap.size W W') : Ro W' k N := ⟨RG.range_below h.at' hb h.lt, Nat.lt_of_lt_of_le h.lt hb.size⟩
theorem lent_arg33 {W : World} {k : Nat} {s : ByteArray} (h : Holds encB W k 0 (lent s)) (_ : s.size ≤ 16384) : Arg33 W (.slice (some ⟨k, 0, none⟩) s.size (s.size + 160)) s.data :=
  ⟨_, _, _, rfl, rfl, fun h1 => ⟨k, 0, rfl, by omega, Holds.lt h (by rw [lent_size]; omega), holds_text s h⟩⟩

/-- An answer: bytes and no errno, or no bytes and an errno. -/
def Ans3 (W : World) (T : Bs) (c : Int) (q : Option Addr) (n cap : Nat) (ep : Int) : Prop :=
  (∃ g, q = some ⟨g, 0, none⟩ ∧ n = 33 ∧ ep = 0 ∧ c = 0 ∧ T.size = 33 ∧ g < W.heap.size ∧ Holds encB W g 0 T) ∨ (q = none ∧ n = 0 ∧ cap = 0 ∧ ep = c ∧ ¬ c = 0)
theorem Ans3.call {W W' : World} {T : Bs} {c : Int} {q : Option Addr} {n cap : Nat} {ep : Int} (h : Ans3 W T c q n cap ep) (hb : Below W.heap.size W W') : Ans3 W' T c q n cap ep := by
  rcases h with ⟨g, h1, h2, h3, h4, h5, h6, h7⟩ | h
  · exact Or.inl ⟨g, h1, h2, h3, h4, h5, Nat.lt_of_lt_of_le h6 hb.size, Holds.below h7 hb h6⟩
  · exact Or.inr h
theorem Ans3.told {W : World} {T : Bs} {c : Int} {q : Option Addr} {n cap : Nat} {ep : Int} (h : Ans3 W T c q n cap ep) : Calls Try.prog 41 #[.slice q n cap, .int .i64 ep, .int .i64 c, .string ⟨T⟩] W (Ret fun e w' => Below W.heap.size W w' ∧ e = .bool true) := by
  rcases h with ⟨g, rfl, rfl, rfl, rfl, h5, h6, h7⟩ | ⟨rfl, rfl, rfl, rfl, h5⟩
  · exact told3_ok g cap T W h5 h7
  · exact told3_err _ _ h5 W
theorem OutP.ans {w w' : World} {T : Bs} {e : Value} (h : OutP w T e w') (hT : T.size = 33) : ∃ q n cap ep, e = .tuple #[.slice q n cap, .int .i64 ep] ∧ Ans3 w' T 0 q n cap ep := by
  obtain ⟨g, cap, rfl, h1, h2, h3, h4⟩ := h
  exact ⟨_, _, _, _, rfl, Or.inl ⟨g, rfl, rfl, rfl, rfl, hT, h3, h4⟩⟩
theorem OutE.ans {w' : World} {c : Int} {e : Value} (h : OutE c e) (hc : ¬ c = 0) : ∃ q n cap ep, e = .tuple #[.slice q n cap, .int .i64 ep] ∧ Ans3 w' #[] c q n cap ep :=
  ⟨_, _, _, _, h, Or.inr ⟨rfl, rfl, rfl, rfl, hc⟩⟩
/-- What is asked of Plus. -/
def plT (x y : Option (Fin P × Fin P)) : Bs × Int := match x, y with
  | some p, some q => (wr (EC.add (pt p) (pt q)), 0)
  | _, _ => (#[], 4)
def miT (x : Option (Fin P × Fin P)) : Bs × Int := match x with
  | some p => (wr (EC.neg (pt p)), 0)
  | none => (#[], 4)
def tiT (n : Option Nat) (x : Option (Fin P × Fin P)) : Bs × Int := match n, x with
  | none, _ => (#[], 3)
  | some _, none => (#[], 4)
  | some n, some p => (wr (EC.mul n (pt p)), 0)
theorem PlusQ.ans {w w' : World} {az bs : Bs} {e : Value} (h : PlusQ P w az bs e w') : ∃ q n cap ep, e = .tuple #[.slice q n cap, .int .i64 ep] ∧ Ans3 w' (plT (rd P az) (rd P bs)).1 (plT (rd P az) (rd P bs)).2 q n cap ep := by
  unfold PlusQ at h
  unfold plT
  cases h1 : rd P az with
  | none => rw [h1] at h; exact OutE.ans (c := 4) h (by decide)
  | some p =>
    cases h2 : rd P bs with
    | none => rw [h1, h2] at h; exact OutE.ans (c := 4) h (by decide)
    | some q => rw [h1, h2] at h; exact OutP.ans h (wr_size _)
theorem MinusQ.ans {w w' : World} {bs : Bs} {e : Value} (h : MinusQ P w bs e w') : ∃ q n cap ep, e = .tuple #[.slice q n cap, .int .i64 ep] ∧ Ans3 w' (miT (rd P bs)).1 (miT (rd P bs)).2 q n cap ep := by
  unfold MinusQ at h
  unfold miT
  cases h1 : rd P bs with
  | none => rw [h1] at h; exact OutE.ans (c := 4) h (by decide)
  | some p => rw [h1] at h; exact OutP.ans h (wr_size _)
theorem TimesQ.ans {N : Nat} {w w' : World} {az bs : Bs} {e : Value} (h : TimesQ P N w az bs e w') : ∃ q n cap ep, e = .tuple #[.slice q n cap, .int .i64 ep] ∧ Ans3 w' (tiT (rq N az) (rd P bs)).1 (tiT (rq N az) (rd P bs)).2 q n cap ep := by
  unfold TimesQ at h
  unfold tiT
  cases h1 : rq N az with
  | none => rw [h1] at h; exact OutE.ans (c := 3) h (by decide)
  | some n =>
    cases h2 : rd P bs with
    | none => rw [h1, h2] at h; exact OutE.ans (c := 4) h (by decide)
    | some p => rw [h1, h2] at h; exact OutP.ans h (wr_size _)
theorem Hid.callA {W W' : World} {T : Bs} {c : Int} {q : Option Addr} {n cap : Nat} {ep : Int} (h : Hid (Ans3 W T c q n cap ep)) (hb : Below W.heap.size W W') : Hid (Ans3 W' T c q n cap ep) := Ans3.call h.out hb
theorem negT (C : Fl3 P) (t : T3 P) : Gives 37 #[tv t] (tv (t.1, 0 - t.2.1, t.2.2)) := rNeg3_c C t.1 t.2.1 t.2.2
/-- What the law keeps. -/
structure Cx (w0 W : World) (k1 : Nat) (N1 : List Value) (k2 : Nat) (N2 : List Value) (k3 : Nat) (N3 : List Value) (ks kt : Nat) (a b : ByteArray) : Prop where
  bl : Below w0.heap.size w0 W
  x1 : Ro W k1 N1
  x2 : Ro W k2 N2
  x3 : Ro W k3 N3
  ls : Holds encB W ks 0 (lent a)
  lt : Holds encB W kt 0 (lent b)
theorem Cx.call {w0 W W' : World} {k1 k2 k3 ks kt : Nat} {N1 N2 N3 : List Value} {a b : ByteArray} (h : Cx w0 W k1 N1 k2 N2 k3 N3 ks kt a b) (hb : Below W.heap.size W W') : Cx w0 W' k1 N1 k2 N2 k3 N3 ks kt a b :=
  ⟨h.bl.trans (hb.mono h.bl.size), h.x1.call hb, h.x2.call hb, h.x3.call hb, Holds.below h.ls hb (Holds.lt h.ls (by rw [lent_size]; omega)), Holds.below h.lt hb (Holds.lt h.lt (by rw [lent_size]; omega))⟩
theorem Cx.drew {w0 W : World} {k1 k2 k3 ks kt : Nat} {N1 N2 N3 : List Value} {a b : ByteArray} (h : Cx w0 W k1 N1 k2 N2 k3 N3 ks kt a b) : Cx w0 W.drew k1 N1 k2 N2 k3 N3 ks kt a b :=
  ⟨h.bl.drew, ⟨h.x1.at', h.x1.lt⟩, ⟨h.x2.at', h.x2.lt⟩, ⟨h.x3.at', h.x3.lt⟩, h.ls, h.lt⟩

set_option maxHeartbeats 8000000 in
set_option maxRecDepth 100000 in
theorem points_all {N : Nat} (C : Fl3 P) (hG : Gap 4624529908474429119 4994812053365940164 1 N) (hN : N ≤ top) (hR : RefP 13822214165235122497 13451932020343611451 18446744073709551614 18446744073709551615 4624529908474429119 4994812053365940164 1 0 N)
    (a b c : ByteArray) (ha : a.size ≤ 4096) (hb : b.size ≤ 4096) (hc : c.size ≤ 4096) (w0 : World) :
    Calls Try.prog 7 #[.string a, .string b, .string c] w0 fun e w' => e = .returned (.bool true) ∧ Below w0.heap.size w0 w' := by
  have HC : Hid (Fl3 P) := C
  have HG : Hid (Gap 4624529908474429119 4994812053365940164 1 N) := hG
  have HN : Hid (N ≤ top) := hN
  have HR : Hid (RefP 13822214165235122497 13451932020343611451 18446744073709551614 18446744073709551615 4624529908474429119 4994812053365940164 1 0 N) := hR
  clear C hG hN hR
  have g1 : ¬ (4096 : Int) < (a.size : Int) := by omega
  have g2 : ¬ (4096 : Int) < (b.size : Int) := by omega
  have g3 : ¬ (4096 : Int) < (c.size : Int) := by omega
  have g4 : (a.size : Int) ≤ (a.size : Int) + 160 := by omega
  have g5 : (b.size : Int) ≤ (b.size : Int) + 160 := by omega
  have HA : Hid (a.size ≤ 16384) := (by omega : a.size ≤ 16384)
  have HB : Hid (b.size ≤ 16384) := (by omega : b.size ≤ 16384)
  clear ha hb hc
  go_enter Try.func7, Try.ntmps7
  go_wp2_with fail
  refine (rRead_c HC.out a.data w0).mono ?_
  rintro e w1 ⟨v, rfl, hb1, hr⟩
  obtain ⟨tx, rfl, hfx⟩ := hr.two HC.out.toFld
  have HX : Hid (∀ p, rd P a.data = some p → FracT tx (pt p)) := hfx
  obtain ⟨N1, e1, l1, o1⟩ := tv_list tx
  obtain ⟨w2, s2, hb2, r2, lt2⟩ := cell12 w1 N1 l1 o1
  unfold z12 at s2
  rw [e1]
  have E1 : Hid (tv tx = .agg N1.toArray) := e1
  clear hr hfx e1 o1
  have KX : Hid (Below w0.heap.size w0 w2 ∧ Ro w2 w1.heap.size N1) := ⟨hb1.trans (hb2.mono hb1.size), ⟨r2, lt2⟩⟩
  clear hb1 hb2 r2 lt2
  generalize hox : (rd P a.data).isSome = ox
  have HOX : Hid ((rd P a.data).isSome = ox) := hox
  clear hox
  go_wp2_with fail
  clear s2
  generalize w1.heap.size = k1 at KX ⊢
  refine (rRead_c HC.out b.data w2).mono ?_
  rintro e w3 ⟨v, rfl, hb3, hr⟩
  obtain ⟨ty, rfl, hfx⟩ := hr.two HC.out.toFld
  have HY : Hid (∀ p, rd P b.data = some p → FracT ty (pt p)) := hfx
  obtain ⟨N2, e2, l2, o2⟩ := tv_list ty
  obtain ⟨w4, s4, hb4, r4, lt4⟩ := cell12 w3 N2 l2 o2
  unfold z12 at s4
  rw [e2]
  have E2 : Hid (tv ty = .agg N2.toArray) := e2
  replace KX : Hid (Below w0.heap.size w0 w4 ∧ Ro w4 k1 N1 ∧ Ro w4 w3.heap.size N2) := ⟨KX.out.1.trans ((hb3.trans (hb4.mono hb3.size)).mono KX.out.1.size), (KX.out.2.call hb3).call hb4, ⟨r4, lt4⟩⟩
  clear hr hfx e2 o2 hb3 hb4 r4 lt4
  generalize hoy : (rd P b.data).isSome = oy
  have HOY : Hid ((rd P b.data).isSome = oy) := hoy
  clear hoy
  go_wp2_with fail
  clear s4
  generalize w3.heap.size = k2 at KX ⊢
  refine (Q3_c w4).mono ?_
  rintro e w5 ⟨v, rfl, hb5, rfl⟩
  go_wp2_with fail
  refine (rNumQ HR.out c.data w5).mono ?_
  rintro e w6 ⟨v, rfl, hb6, hr⟩
  obtain ⟨m, rfl, hfm⟩ := hr.two
  have HM : Hid (∀ n, rq N c.data = some n → m = n) := hfm
  obtain ⟨N3, e3, l3, o3⟩ := nv_list m
  obtain ⟨w7, s7, hb7, r7, lt7⟩ := cell4 w6 N3 l3 o3
  unfold z4 at s7
  rw [e3]
  have E3 : Hid (nv m = .agg N3.toArray) := e3
  have hb57 : Below w4.heap.size w4 w7 := hb5.trans ((hb6.trans (hb7.mono hb6.size)).mono hb5.size)
  replace KX : Hid (Below w0.heap.size w0 w7 ∧ Ro w7 k1 N1 ∧ Ro w7 k2 N2 ∧ Ro w7 w6.heap.size N3) := ⟨KX.out.1.trans (hb57.mono KX.out.1.size), KX.out.2.1.call hb57, KX.out.2.2.call hb57, ⟨r7, lt7⟩⟩
  clear hr hfm e3 o3 hb5 hb6 hb7 hb57 r7 lt7
  generalize hok : (rq N c.data).isSome = ok
  have HOK : Hid ((rq N c.data).isSome = ok) := hok
  clear hok
  go_wp2_with fail
  clear s7
  generalize w6.heap.size = k3 at KX ⊢
  refine (Lent_any a _ HA.out).mono ?_
  rintro e w8 ⟨rfl, hb8, hL⟩
  go_wp2_with fail
  refine (Lent_any b _ HB.out).mono ?_
  rintro e w9 ⟨rfl, hb9, hL2⟩
  have hb79 : Below w7.heap.size w7 w9 := hb8.trans (hb9.mono hb8.size)
  replace KX : Hid (Cx w0 w9 k1 N1 k2 N2 k3 N3 w7.heap.size w8.heap.size a b) := ⟨KX.out.1.trans (hb79.mono KX.out.1.size), KX.out.2.1.call hb79, KX.out.2.2.1.call hb79, KX.out.2.2.2.call hb79, Holds.below hL hb9 (Holds.lt hL (by rw [lent_size]; omega)), hL2⟩
  clear hb8 hb9 hb79 hL hL2
  generalize w7.heap.size = ks at KX ⊢
  generalize w8.heap.size = kt at KX ⊢
  go_wp2_with fail
  refine (gPoint_c HC.out.toFld _ a.data w9 (lent_arg33 KX.out.ls HA.out)).mono ?_
  rintro e w10 ⟨v, rfl, hb10, rfl⟩
  replace KX : Hid (Cx w0 w10 k1 N1 k2 N2 k3 N3 ks kt a b) := KX.out.call hb10
  clear hb10
  rw [HOX.out]
  go_wp2_with fail
  have KP := KX.out
  clear KX
  obtain ⟨PL, hPL⟩ : ∃ z, plT (rd P a.data) (rd P b.data) = z := ⟨_, rfl⟩
  obtain ⟨MI, hMI⟩ : ∃ z, miT (rd P a.data) = z := ⟨_, rfl⟩
  obtain ⟨TI, hTI⟩ : ∃ z, tiT (rq N c.data) (rd P a.data) = z := ⟨_, rfl⟩
  have HPL : Hid (plT (rd P a.data) (rd P b.data) = PL) := hPL
  have HMI : Hid (miT (rd P a.data) = MI) := hMI
  have HTI : Hid (tiT (rq N c.data) (rd P a.data) = TI) := hTI
  clear hPL hMI hTI
  go_region_held3 (fun W => Cx w0 W k1 N1 k2 N2 k3 N3 ks kt a b) (first | (with_reducible exact KP) | (with_reducible exact KP.drew) | fail) (first | (go_at_call 34; (first | (with_reducible refine (gPlus_c HC.out.toFld _ _ a.data b.data _ (lent_arg33 KP.ls HA.out) (lent_arg33 KP.lt HB.out)).mono ?_) | (with_reducible refine (gPlus_c HC.out.toFld _ _ a.data b.data _ (lent_arg33 KP.drew.ls HA.out) (lent_arg33 KP.drew.lt HB.out)).mono ?_)); rintro e w11 ⟨v, rfl, hb11, hr⟩; obtain ⟨qs, ns, cs, es, rfl, hs⟩ := (PlusR.q HC.out.toFld hr).ans; rw [HPL.out] at hs; (first | (with_reducible (have KP1 := KP.drew.call hb11)) | (with_reducible (have KP1 := KP.call hb11)) | fail); have HS : Hid (Ans3 w11 PL.1 PL.2 qs ns cs es) := hs; clear KP hb11 hr hs; have KP := KP1; clear KP1))
  go_wp2_with fail
  refine (gMinus_c HC.out.toFld _ a.data _ (lent_arg33 KP.ls HA.out) 0).mono ?_
  rintro e w12 ⟨v, rfl, hb12, hr⟩
  obtain ⟨qm, nm, cm, em, rfl, hs⟩ := (MinusR.q HC.out.toFld hr).ans
  rw [HMI.out] at hs
  replace HS : Hid (Ans3 w12 PL.1 PL.2 qs ns cs es) := HS.out.call hb12
  have HI : Hid (Ans3 w12 MI.1 MI.2 qm nm cm em) := hs
  have KX : Hid (Cx w0 w12 k1 N1 k2 N2 k3 N3 ks kt a b) := KP.call hb12
  clear hb12 hr hs KP
  obtain ⟨capn, w13, hcv, hcc, hb13, hH13, hlt13⟩ := conv_of c w12
  replace KX : Hid (Cx w0 w13 k1 N1 k2 N2 k3 N3 ks kt a b) := KX.out.call hb13
  replace HS : Hid (Ans3 w13 PL.1 PL.2 qs ns cs es) := HS.out.call hb13
  replace HI : Hid (Ans3 w13 MI.1 MI.2 qm nm cm em) := HI.out.call hb13
  have HCN : Hid (Arg w13 (.slice (some ⟨w12.heap.size, 0, none⟩) c.size capn) c.data) := ⟨_, _, _, rfl, rfl, fun h => ⟨_, 0, rfl, by omega, hlt13, hH13⟩⟩
  clear hb13 hH13 hlt13 hcc
  go_wp2_with fail
  refine (gTimes_c HC.out.toFld HG.out HN.out _ _ c.data a.data w13 HCN.out (lent_arg33 KX.out.ls HA.out)).mono ?_
  rintro e w14 ⟨v, rfl, hb14, hr⟩
  obtain ⟨qt, nt, ct, et, rfl, hs⟩ := (TimesR.q HC.out.toFld HN.out hr).ans
  rw [HTI.out] at hs
  replace KX : Hid (Cx w0 w14 k1 N1 k2 N2 k3 N3 ks kt a b) := KX.out.call hb14
  replace HS : Hid (Ans3 w14 PL.1 PL.2 qs ns cs es) := HS.out.call hb14
  replace HI : Hid (Ans3 w14 MI.1 MI.2 qm nm cm em) := HI.out.call hb14
  have HT : Hid (Ans3 w14 TI.1 TI.2 qt nt ct et) := hs
  clear hb14 hr hs hcv HCN
  go_wp2_with fail
  refine (Still_any ks _ a w14 HA.out KX.out.ls rfl).mono ?_
  rintro e w15 ⟨rfl, hb15⟩
  replace KX : Hid (Cx w0 w15 k1 N1 k2 N2 k3 N3 ks kt a b) := KX.out.call hb15
  replace HS : Hid (Ans3 w15 PL.1 PL.2 qs ns cs es) := HS.out.call hb15
  replace HI : Hid (Ans3 w15 MI.1 MI.2 qm nm cm em) := HI.out.call hb15
  replace HT : Hid (Ans3 w15 TI.1 TI.2 qt nt ct et) := HT.out.call hb15
  clear hb15
  go_wp2_with fail
  refine (Still_any kt _ b w15 HB.out KX.out.lt rfl).mono ?_
  rintro e w16 ⟨rfl, hb16⟩
  replace KX : Hid (Cx w0 w16 k1 N1 k2 N2 k3 N3 ks kt a b) := KX.out.call hb16
  replace HS : Hid (Ans3 w16 PL.1 PL.2 qs ns cs es) := HS.out.call hb16
  replace HI : Hid (Ans3 w16 MI.1 MI.2 qm nm cm em) := HI.out.call hb16
  replace HT : Hid (Ans3 w16 TI.1 TI.2 qt nt ct et) := HT.out.call hb16
  clear hb16
  have hxx : (ox != ox) = false := by simp
  clear g1 g2 g3 g4 g5
  have HU : Hid (∃ d, Try.prog.underlying 56 = some d ∧ d.isRow = true) := Option.map_eq_some_iff.1 u56
  have HU3 : Hid (∃ d, Try.prog.underlying 33 = some d ∧ d.isRow = true) := Option.map_eq_some_iff.1 u33
  obtain ⟨d56, hu56, hd56⟩ := HU.out
  obtain ⟨d33, hu33, hd33⟩ := HU3.out
  clear HU HU3
  cases hx : rd P a.data with
  | none =>
    obtain rfl : ox = false := by rw [← HOX.out, hx]; rfl
    obtain rfl : MI = (#[], 4) := by rw [← HMI.out, hx]; rfl
    obtain rfl : PL = (#[], 4) := by rw [← HPL.out, hx]; rfl
    cases hk : rq N c.data with
    | none =>
      obtain rfl : ok = false := by rw [← HOK.out, hk]; rfl
      obtain rfl : TI = (#[], 3) := by rw [← HTI.out, hk]; rfl
      have r1 := KX.out.x1.at'
      have r2 := KX.out.x2.at'
      have r3 := KX.out.x3.at'
      go_wp2_with (first | refine wpList_load_mid rfl 56 _ rfl k1 0 rfl N1 _ r1 hu56 hd56 (by rw [l1]; exact i56) ?_ | refine wpList_load_mid rfl 56 _ rfl k2 0 rfl N2 _ r2 hu56 hd56 (by rw [l2]; exact i56) ?_ | refine wpList_load_mid rfl 33 _ rfl k3 0 rfl N3 _ r3 hu33 hd33 (by rw [l3]; exact i33) ?_)
      clear r1 r2 r3
      refine (Ans3.told HS.out).mono ?_
      rintro e w17 ⟨v, rfl, hbx, rfl⟩
      replace KX : Hid (Cx w0 w17 k1 N1 k2 N2 k3 N3 ks kt a b) := KX.out.call hbx
      replace HI := Hid.callA HI hbx
      replace HT := Hid.callA HT hbx
      clear hbx
      have r1 := KX.out.x1.at'
      have r2 := KX.out.x2.at'
      have r3 := KX.out.x3.at'
      go_wp2_with (first | refine wpList_load_mid rfl 56 _ rfl k1 0 rfl N1 _ r1 hu56 hd56 (by rw [l1]; exact i56) ?_ | refine wpList_load_mid rfl 56 _ rfl k2 0 rfl N2 _ r2 hu56 hd56 (by rw [l2]; exact i56) ?_ | refine wpList_load_mid rfl 33 _ rfl k3 0 rfl N3 _ r3 hu33 hd33 (by rw [l3]; exact i33) ?_)
      clear r1 r2 r3
      refine (Ans3.told HI.out).mono ?_
      rintro e w18 ⟨v, rfl, hbx, rfl⟩
      replace KX : Hid (Cx w0 w18 k1 N1 k2 N2 k3 N3 ks kt a b) := KX.out.call hbx
      replace HT := Hid.callA HT hbx
      clear hbx
      have r1 := KX.out.x1.at'
      have r2 := KX.out.x2.at'
      have r3 := KX.out.x3.at'
      go_wp2_with (first | refine wpList_load_mid rfl 56 _ rfl k1 0 rfl N1 _ r1 hu56 hd56 (by rw [l1]; exact i56) ?_ | refine wpList_load_mid rfl 56 _ rfl k2 0 rfl N2 _ r2 hu56 hd56 (by rw [l2]; exact i56) ?_ | refine wpList_load_mid rfl 33 _ rfl k3 0 rfl N3 _ r3 hu33 hd33 (by rw [l3]; exact i33) ?_)
      clear r1 r2 r3
      refine (Ans3.told HT.out).mono ?_
      rintro e w19 ⟨v, rfl, hbx, rfl⟩
      replace KX : Hid (Cx w0 w19 k1 N1 k2 N2 k3 N3 ks kt a b) := KX.out.call hbx
      clear hbx
      go_wp2
      go_ret
      exact ⟨by simp, KX.out.bl⟩
    | some n =>
      obtain rfl : ok = true := by rw [← HOK.out, hk]; rfl
      obtain rfl : TI = (#[], 4) := by rw [← HTI.out, hk, hx]; rfl
      have r1 := KX.out.x1.at'
      have r2 := KX.out.x2.at'
      have r3 := KX.out.x3.at'
      go_wp2_with (first | refine wpList_load_mid rfl 56 _ rfl k1 0 rfl N1 _ r1 hu56 hd56 (by rw [l1]; exact i56) ?_ | refine wpList_load_mid rfl 56 _ rfl k2 0 rfl N2 _ r2 hu56 hd56 (by rw [l2]; exact i56) ?_ | refine wpList_load_mid rfl 33 _ rfl k3 0 rfl N3 _ r3 hu33 hd33 (by rw [l3]; exact i33) ?_)
      clear r1 r2 r3
      refine (Ans3.told HS.out).mono ?_
      rintro e w17 ⟨v, rfl, hbx, rfl⟩
      replace KX : Hid (Cx w0 w17 k1 N1 k2 N2 k3 N3 ks kt a b) := KX.out.call hbx
      replace HI := Hid.callA HI hbx
      replace HT := Hid.callA HT hbx
      clear hbx
      have r1 := KX.out.x1.at'
      have r2 := KX.out.x2.at'
      have r3 := KX.out.x3.at'
      go_wp2_with (first | refine wpList_load_mid rfl 56 _ rfl k1 0 rfl N1 _ r1 hu56 hd56 (by rw [l1]; exact i56) ?_ | refine wpList_load_mid rfl 56 _ rfl k2 0 rfl N2 _ r2 hu56 hd56 (by rw [l2]; exact i56) ?_ | refine wpList_load_mid rfl 33 _ rfl k3 0 rfl N3 _ r3 hu33 hd33 (by rw [l3]; exact i33) ?_)
      clear r1 r2 r3
      refine (Ans3.told HI.out).mono ?_
      rintro e w18 ⟨v, rfl, hbx, rfl⟩
      replace KX : Hid (Cx w0 w18 k1 N1 k2 N2 k3 N3 ks kt a b) := KX.out.call hbx
      replace HT := Hid.callA HT hbx
      clear hbx
      have r1 := KX.out.x1.at'
      have r2 := KX.out.x2.at'
      have r3 := KX.out.x3.at'
      go_wp2_with (first | refine wpList_load_mid rfl 56 _ rfl k1 0 rfl N1 _ r1 hu56 hd56 (by rw [l1]; exact i56) ?_ | refine wpList_load_mid rfl 56 _ rfl k2 0 rfl N2 _ r2 hu56 hd56 (by rw [l2]; exact i56) ?_ | refine wpList_load_mid rfl 33 _ rfl k3 0 rfl N3 _ r3 hu33 hd33 (by rw [l3]; exact i33) ?_)
      clear r1 r2 r3
      refine (Ans3.told HT.out).mono ?_
      rintro e w19 ⟨v, rfl, hbx, rfl⟩
      replace KX : Hid (Cx w0 w19 k1 N1 k2 N2 k3 N3 ks kt a b) := KX.out.call hbx
      clear hbx
      go_wp2
      go_ret
      exact ⟨by simp, KX.out.bl⟩
  | some p =>
    obtain rfl : ox = true := by rw [← HOX.out, hx]; rfl
    obtain rfl : MI = (wr (EC.neg (pt p)), 0) := by rw [← HMI.out, hx]; rfl
    have HFX : Hid (FracT tx (pt p)) := HX.out p hx
    cases hy : rd P b.data with
    | none =>
      obtain rfl : oy = false := by rw [← HOY.out, hy]; rfl
      obtain rfl : PL = (#[], 4) := by rw [← HPL.out, hx, hy]; rfl
      cases hk : rq N c.data with
      | none =>
        obtain rfl : ok = false := by rw [← HOK.out, hk]; rfl
        obtain rfl : TI = (#[], 3) := by rw [← HTI.out, hk]; rfl
        have r1 := KX.out.x1.at'
        have r2 := KX.out.x2.at'
        have r3 := KX.out.x3.at'
        go_wp2_with (first | refine wpList_load_mid rfl 56 _ rfl k1 0 rfl N1 _ r1 hu56 hd56 (by rw [l1]; exact i56) ?_ | refine wpList_load_mid rfl 56 _ rfl k2 0 rfl N2 _ r2 hu56 hd56 (by rw [l2]; exact i56) ?_ | refine wpList_load_mid rfl 33 _ rfl k3 0 rfl N3 _ r3 hu33 hd33 (by rw [l3]; exact i33) ?_)
        clear r1 r2 r3
        refine ((E1.out ▸ negT HC.out tx : Gives 37 #[.agg N1.toArray] _) _).mono ?_
        rintro e w17 ⟨v, rfl, hbx, rfl⟩
        replace KX : Hid (Cx w0 w17 k1 N1 k2 N2 k3 N3 ks kt a b) := KX.out.call hbx
        replace HS := Hid.callA HS hbx
        replace HI := Hid.callA HI hbx
        replace HT := Hid.callA HT hbx
        clear hbx
        have r1 := KX.out.x1.at'
        have r2 := KX.out.x2.at'
        have r3 := KX.out.x3.at'
        go_wp2_with (first | refine wpList_load_mid rfl 56 _ rfl k1 0 rfl N1 _ r1 hu56 hd56 (by rw [l1]; exact i56) ?_ | refine wpList_load_mid rfl 56 _ rfl k2 0 rfl N2 _ r2 hu56 hd56 (by rw [l2]; exact i56) ?_ | refine wpList_load_mid rfl 33 _ rfl k3 0 rfl N3 _ r3 hu33 hd33 (by rw [l3]; exact i33) ?_)
        clear r1 r2 r3
        refine ((rWritten_c HC.out HFX.out.neg) _).mono ?_
        rintro e w18 ⟨v, rfl, hbx, rfl⟩
        replace KX : Hid (Cx w0 w18 k1 N1 k2 N2 k3 N3 ks kt a b) := KX.out.call hbx
        replace HS := Hid.callA HS hbx
        replace HI := Hid.callA HI hbx
        replace HT := Hid.callA HT hbx
        clear hbx
        have r1 := KX.out.x1.at'
        have r2 := KX.out.x2.at'
        have r3 := KX.out.x3.at'
        go_wp2_with (first | refine wpList_load_mid rfl 56 _ rfl k1 0 rfl N1 _ r1 hu56 hd56 (by rw [l1]; exact i56) ?_ | refine wpList_load_mid rfl 56 _ rfl k2 0 rfl N2 _ r2 hu56 hd56 (by rw [l2]; exact i56) ?_ | refine wpList_load_mid rfl 33 _ rfl k3 0 rfl N3 _ r3 hu33 hd33 (by rw [l3]; exact i33) ?_)
        clear r1 r2 r3
        refine (Ans3.told HS.out).mono ?_
        rintro e w19 ⟨v, rfl, hbx, rfl⟩
        replace KX : Hid (Cx w0 w19 k1 N1 k2 N2 k3 N3 ks kt a b) := KX.out.call hbx
        replace HI := Hid.callA HI hbx
        replace HT := Hid.callA HT hbx
        clear hbx
        have r1 := KX.out.x1.at'
        have r2 := KX.out.x2.at'
        have r3 := KX.out.x3.at'
        go_wp2_with (first | refine wpList_load_mid rfl 56 _ rfl k1 0 rfl N1 _ r1 hu56 hd56 (by rw [l1]; exact i56) ?_ | refine wpList_load_mid rfl 56 _ rfl k2 0 rfl N2 _ r2 hu56 hd56 (by rw [l2]; exact i56) ?_ | refine wpList_load_mid rfl 33 _ rfl k3 0 rfl N3 _ r3 hu33 hd33 (by rw [l3]; exact i33) ?_)
        clear r1 r2 r3
        refine (Ans3.told HI.out).mono ?_
        rintro e w20 ⟨v, rfl, hbx, rfl⟩
        replace KX : Hid (Cx w0 w20 k1 N1 k2 N2 k3 N3 ks kt a b) := KX.out.call hbx
        replace HT := Hid.callA HT hbx
        clear hbx
        have r1 := KX.out.x1.at'
        have r2 := KX.out.x2.at'
        have r3 := KX.out.x3.at'
        go_wp2_with (first | refine wpList_load_mid rfl 56 _ rfl k1 0 rfl N1 _ r1 hu56 hd56 (by rw [l1]; exact i56) ?_ | refine wpList_load_mid rfl 56 _ rfl k2 0 rfl N2 _ r2 hu56 hd56 (by rw [l2]; exact i56) ?_ | refine wpList_load_mid rfl 33 _ rfl k3 0 rfl N3 _ r3 hu33 hd33 (by rw [l3]; exact i33) ?_)
        clear r1 r2 r3
        refine (Ans3.told HT.out).mono ?_
        rintro e w21 ⟨v, rfl, hbx, rfl⟩
        replace KX : Hid (Cx w0 w21 k1 N1 k2 N2 k3 N3 ks kt a b) := KX.out.call hbx
        clear hbx
        go_wp2
        go_ret
        exact ⟨by simp, KX.out.bl⟩
      | some n =>
        obtain rfl : ok = true := by rw [← HOK.out, hk]; rfl
        obtain rfl := HM.out n hk
        obtain rfl : TI = (wr (EC.mul m (pt p)), 0) := by rw [← HTI.out, hk, hx]; rfl
        have HMT : Hid (m < top) := rq_top HN.out hk
        have HFT : Hid (FracT (tmF m tx 256) (EC.mul m (pt p))) := by
          have h := tmF_F HC.out HMT.out HFX.out 256 (Nat.le_refl _)
          rw [Nat.sub_self, Nat.pow_zero, Nat.div_one] at h
          exact h
        have r1 := KX.out.x1.at'
        have r2 := KX.out.x2.at'
        have r3 := KX.out.x3.at'
        go_wp2_with (first | refine wpList_load_mid rfl 56 _ rfl k1 0 rfl N1 _ r1 hu56 hd56 (by rw [l1]; exact i56) ?_ | refine wpList_load_mid rfl 56 _ rfl k2 0 rfl N2 _ r2 hu56 hd56 (by rw [l2]; exact i56) ?_ | refine wpList_load_mid rfl 33 _ rfl k3 0 rfl N3 _ r3 hu33 hd33 (by rw [l3]; exact i33) ?_)
        clear r1 r2 r3
        refine ((E1.out ▸ negT HC.out tx : Gives 37 #[.agg N1.toArray] _) _).mono ?_
        rintro e w17 ⟨v, rfl, hbx, rfl⟩
        replace KX : Hid (Cx w0 w17 k1 N1 k2 N2 k3 N3 ks kt a b) := KX.out.call hbx
        replace HS := Hid.callA HS hbx
        replace HI := Hid.callA HI hbx
        replace HT := Hid.callA HT hbx
        clear hbx
        have r1 := KX.out.x1.at'
        have r2 := KX.out.x2.at'
        have r3 := KX.out.x3.at'
        go_wp2_with (first | refine wpList_load_mid rfl 56 _ rfl k1 0 rfl N1 _ r1 hu56 hd56 (by rw [l1]; exact i56) ?_ | refine wpList_load_mid rfl 56 _ rfl k2 0 rfl N2 _ r2 hu56 hd56 (by rw [l2]; exact i56) ?_ | refine wpList_load_mid rfl 33 _ rfl k3 0 rfl N3 _ r3 hu33 hd33 (by rw [l3]; exact i33) ?_)
        clear r1 r2 r3
        refine ((rWritten_c HC.out HFX.out.neg) _).mono ?_
        rintro e w18 ⟨v, rfl, hbx, rfl⟩
        replace KX : Hid (Cx w0 w18 k1 N1 k2 N2 k3 N3 ks kt a b) := KX.out.call hbx
        replace HS := Hid.callA HS hbx
        replace HI := Hid.callA HI hbx
        replace HT := Hid.callA HT hbx
        clear hbx
        have r1 := KX.out.x1.at'
        have r2 := KX.out.x2.at'
        have r3 := KX.out.x3.at'
        go_wp2_with (first | refine wpList_load_mid rfl 56 _ rfl k1 0 rfl N1 _ r1 hu56 hd56 (by rw [l1]; exact i56) ?_ | refine wpList_load_mid rfl 56 _ rfl k2 0 rfl N2 _ r2 hu56 hd56 (by rw [l2]; exact i56) ?_ | refine wpList_load_mid rfl 33 _ rfl k3 0 rfl N3 _ r3 hu33 hd33 (by rw [l3]; exact i33) ?_)
        clear r1 r2 r3
        refine ((by rw [← E1.out, ← E3.out]; exact rTimes_c HC.out m HMT.out tx HFX.out : Gives 40 #[.agg N3.toArray, .agg N1.toArray] (tv (tmF m tx 256))) _).mono ?_
        rintro e w19 ⟨v, rfl, hbx, rfl⟩
        replace KX : Hid (Cx w0 w19 k1 N1 k2 N2 k3 N3 ks kt a b) := KX.out.call hbx
        replace HS := Hid.callA HS hbx
        replace HI := Hid.callA HI hbx
        replace HT := Hid.callA HT hbx
        clear hbx
        have r1 := KX.out.x1.at'
        have r2 := KX.out.x2.at'
        have r3 := KX.out.x3.at'
        go_wp2_with (first | refine wpList_load_mid rfl 56 _ rfl k1 0 rfl N1 _ r1 hu56 hd56 (by rw [l1]; exact i56) ?_ | refine wpList_load_mid rfl 56 _ rfl k2 0 rfl N2 _ r2 hu56 hd56 (by rw [l2]; exact i56) ?_ | refine wpList_load_mid rfl 33 _ rfl k3 0 rfl N3 _ r3 hu33 hd33 (by rw [l3]; exact i33) ?_)
        clear r1 r2 r3
        refine ((rWritten_c HC.out HFT.out) _).mono ?_
        rintro e w20 ⟨v, rfl, hbx, rfl⟩
        replace KX : Hid (Cx w0 w20 k1 N1 k2 N2 k3 N3 ks kt a b) := KX.out.call hbx
        replace HS := Hid.callA HS hbx
        replace HI := Hid.callA HI hbx
        replace HT := Hid.callA HT hbx
        clear hbx
        have r1 := KX.out.x1.at'
        have r2 := KX.out.x2.at'
        have r3 := KX.out.x3.at'
        go_wp2_with (first | refine wpList_load_mid rfl 56 _ rfl k1 0 rfl N1 _ r1 hu56 hd56 (by rw [l1]; exact i56) ?_ | refine wpList_load_mid rfl 56 _ rfl k2 0 rfl N2 _ r2 hu56 hd56 (by rw [l2]; exact i56) ?_ | refine wpList_load_mid rfl 33 _ rfl k3 0 rfl N3 _ r3 hu33 hd33 (by rw [l3]; exact i33) ?_)
        clear r1 r2 r3
        refine (Ans3.told HS.out).mono ?_
        rintro e w21 ⟨v, rfl, hbx, rfl⟩
        replace KX : Hid (Cx w0 w21 k1 N1 k2 N2 k3 N3 ks kt a b) := KX.out.call hbx
        replace HI := Hid.callA HI hbx
        replace HT := Hid.callA HT hbx
        clear hbx
        have r1 := KX.out.x1.at'
        have r2 := KX.out.x2.at'
        have r3 := KX.out.x3.at'
        go_wp2_with (first | refine wpList_load_mid rfl 56 _ rfl k1 0 rfl N1 _ r1 hu56 hd56 (by rw [l1]; exact i56) ?_ | refine wpList_load_mid rfl 56 _ rfl k2 0 rfl N2 _ r2 hu56 hd56 (by rw [l2]; exact i56) ?_ | refine wpList_load_mid rfl 33 _ rfl k3 0 rfl N3 _ r3 hu33 hd33 (by rw [l3]; exact i33) ?_)
        clear r1 r2 r3
        refine (Ans3.told HI.out).mono ?_
        rintro e w22 ⟨v, rfl, hbx, rfl⟩
        replace KX : Hid (Cx w0 w22 k1 N1 k2 N2 k3 N3 ks kt a b) := KX.out.call hbx
        replace HT := Hid.callA HT hbx
        clear hbx
        have r1 := KX.out.x1.at'
        have r2 := KX.out.x2.at'
        have r3 := KX.out.x3.at'
        go_wp2_with (first | refine wpList_load_mid rfl 56 _ rfl k1 0 rfl N1 _ r1 hu56 hd56 (by rw [l1]; exact i56) ?_ | refine wpList_load_mid rfl 56 _ rfl k2 0 rfl N2 _ r2 hu56 hd56 (by rw [l2]; exact i56) ?_ | refine wpList_load_mid rfl 33 _ rfl k3 0 rfl N3 _ r3 hu33 hd33 (by rw [l3]; exact i33) ?_)
        clear r1 r2 r3
        refine (Ans3.told HT.out).mono ?_
        rintro e w23 ⟨v, rfl, hbx, rfl⟩
        replace KX : Hid (Cx w0 w23 k1 N1 k2 N2 k3 N3 ks kt a b) := KX.out.call hbx
        clear hbx
        go_wp2
        go_ret
        exact ⟨by simp, KX.out.bl⟩
    | some q =>
      obtain rfl : oy = true := by rw [← HOY.out, hy]; rfl
      obtain rfl : PL = (wr (EC.add (pt p) (pt q)), 0) := by rw [← HPL.out, hx, hy]; rfl
      have HFY : Hid (FracT ty (pt q)) := HY.out q hy
      cases hk : rq N c.data with
      | none =>
        obtain rfl : ok = false := by rw [← HOK.out, hk]; rfl
        obtain rfl : TI = (#[], 3) := by rw [← HTI.out, hk]; rfl
        have r1 := KX.out.x1.at'
        have r2 := KX.out.x2.at'
        have r3 := KX.out.x3.at'
        go_wp2_with (first | refine wpList_load_mid rfl 56 _ rfl k1 0 rfl N1 _ r1 hu56 hd56 (by rw [l1]; exact i56) ?_ | refine wpList_load_mid rfl 56 _ rfl k2 0 rfl N2 _ r2 hu56 hd56 (by rw [l2]; exact i56) ?_ | refine wpList_load_mid rfl 33 _ rfl k3 0 rfl N3 _ r3 hu33 hd33 (by rw [l3]; exact i33) ?_)
        clear r1 r2 r3
        refine ((E1.out ▸ negT HC.out tx : Gives 37 #[.agg N1.toArray] _) _).mono ?_
        rintro e w17 ⟨v, rfl, hbx, rfl⟩
        replace KX : Hid (Cx w0 w17 k1 N1 k2 N2 k3 N3 ks kt a b) := KX.out.call hbx
        replace HS := Hid.callA HS hbx
        replace HI := Hid.callA HI hbx
        replace HT := Hid.callA HT hbx
        clear hbx
        have r1 := KX.out.x1.at'
        have r2 := KX.out.x2.at'
        have r3 := KX.out.x3.at'
        go_wp2_with (first | refine wpList_load_mid rfl 56 _ rfl k1 0 rfl N1 _ r1 hu56 hd56 (by rw [l1]; exact i56) ?_ | refine wpList_load_mid rfl 56 _ rfl k2 0 rfl N2 _ r2 hu56 hd56 (by rw [l2]; exact i56) ?_ | refine wpList_load_mid rfl 33 _ rfl k3 0 rfl N3 _ r3 hu33 hd33 (by rw [l3]; exact i33) ?_)
        clear r1 r2 r3
        refine ((rWritten_c HC.out HFX.out.neg) _).mono ?_
        rintro e w18 ⟨v, rfl, hbx, rfl⟩
        replace KX : Hid (Cx w0 w18 k1 N1 k2 N2 k3 N3 ks kt a b) := KX.out.call hbx
        replace HS := Hid.callA HS hbx
        replace HI := Hid.callA HI hbx
        replace HT := Hid.callA HT hbx
        clear hbx
        have r1 := KX.out.x1.at'
        have r2 := KX.out.x2.at'
        have r3 := KX.out.x3.at'
        go_wp2_with (first | refine wpList_load_mid rfl 56 _ rfl k1 0 rfl N1 _ r1 hu56 hd56 (by rw [l1]; exact i56) ?_ | refine wpList_load_mid rfl 56 _ rfl k2 0 rfl N2 _ r2 hu56 hd56 (by rw [l2]; exact i56) ?_ | refine wpList_load_mid rfl 33 _ rfl k3 0 rfl N3 _ r3 hu33 hd33 (by rw [l3]; exact i33) ?_)
        clear r1 r2 r3
        refine ((by rw [← E1.out, ← E2.out]; exact (HFX.out.plus HC.out HFY.out).1 : Gives 39 #[.agg N1.toArray, .agg N2.toArray] (tv (plF tx ty))) _).mono ?_
        rintro e w19 ⟨v, rfl, hbx, rfl⟩
        replace KX : Hid (Cx w0 w19 k1 N1 k2 N2 k3 N3 ks kt a b) := KX.out.call hbx
        replace HS := Hid.callA HS hbx
        replace HI := Hid.callA HI hbx
        replace HT := Hid.callA HT hbx
        clear hbx
        have r1 := KX.out.x1.at'
        have r2 := KX.out.x2.at'
        have r3 := KX.out.x3.at'
        go_wp2_with (first | refine wpList_load_mid rfl 56 _ rfl k1 0 rfl N1 _ r1 hu56 hd56 (by rw [l1]; exact i56) ?_ | refine wpList_load_mid rfl 56 _ rfl k2 0 rfl N2 _ r2 hu56 hd56 (by rw [l2]; exact i56) ?_ | refine wpList_load_mid rfl 33 _ rfl k3 0 rfl N3 _ r3 hu33 hd33 (by rw [l3]; exact i33) ?_)
        clear r1 r2 r3
        refine ((rWritten_c HC.out (HFX.out.plus HC.out HFY.out).2) _).mono ?_
        rintro e w20 ⟨v, rfl, hbx, rfl⟩
        replace KX : Hid (Cx w0 w20 k1 N1 k2 N2 k3 N3 ks kt a b) := KX.out.call hbx
        replace HS := Hid.callA HS hbx
        replace HI := Hid.callA HI hbx
        replace HT := Hid.callA HT hbx
        clear hbx
        have r1 := KX.out.x1.at'
        have r2 := KX.out.x2.at'
        have r3 := KX.out.x3.at'
        go_wp2_with (first | refine wpList_load_mid rfl 56 _ rfl k1 0 rfl N1 _ r1 hu56 hd56 (by rw [l1]; exact i56) ?_ | refine wpList_load_mid rfl 56 _ rfl k2 0 rfl N2 _ r2 hu56 hd56 (by rw [l2]; exact i56) ?_ | refine wpList_load_mid rfl 33 _ rfl k3 0 rfl N3 _ r3 hu33 hd33 (by rw [l3]; exact i33) ?_)
        clear r1 r2 r3
        refine (Ans3.told HS.out).mono ?_
        rintro e w21 ⟨v, rfl, hbx, rfl⟩
        replace KX : Hid (Cx w0 w21 k1 N1 k2 N2 k3 N3 ks kt a b) := KX.out.call hbx
        replace HI := Hid.callA HI hbx
        replace HT := Hid.callA HT hbx
        clear hbx
        have r1 := KX.out.x1.at'
        have r2 := KX.out.x2.at'
        have r3 := KX.out.x3.at'
        go_wp2_with (first | refine wpList_load_mid rfl 56 _ rfl k1 0 rfl N1 _ r1 hu56 hd56 (by rw [l1]; exact i56) ?_ | refine wpList_load_mid rfl 56 _ rfl k2 0 rfl N2 _ r2 hu56 hd56 (by rw [l2]; exact i56) ?_ | refine wpList_load_mid rfl 33 _ rfl k3 0 rfl N3 _ r3 hu33 hd33 (by rw [l3]; exact i33) ?_)
        clear r1 r2 r3
        refine (Ans3.told HI.out).mono ?_
        rintro e w22 ⟨v, rfl, hbx, rfl⟩
        replace KX : Hid (Cx w0 w22 k1 N1 k2 N2 k3 N3 ks kt a b) := KX.out.call hbx
        replace HT := Hid.callA HT hbx
        clear hbx
        have r1 := KX.out.x1.at'
        have r2 := KX.out.x2.at'
        have r3 := KX.out.x3.at'
        go_wp2_with (first | refine wpList_load_mid rfl 56 _ rfl k1 0 rfl N1 _ r1 hu56 hd56 (by rw [l1]; exact i56) ?_ | refine wpList_load_mid rfl 56 _ rfl k2 0 rfl N2 _ r2 hu56 hd56 (by rw [l2]; exact i56) ?_ | refine wpList_load_mid rfl 33 _ rfl k3 0 rfl N3 _ r3 hu33 hd33 (by rw [l3]; exact i33) ?_)
        clear r1 r2 r3
        refine (Ans3.told HT.out).mono ?_
        rintro e w23 ⟨v, rfl, hbx, rfl⟩
        replace KX : Hid (Cx w0 w23 k1 N1 k2 N2 k3 N3 ks kt a b) := KX.out.call hbx
        clear hbx
        go_wp2
        go_ret
        exact ⟨by simp, KX.out.bl⟩
      | some n =>
        obtain rfl : ok = true := by rw [← HOK.out, hk]; rfl
        obtain rfl := HM.out n hk
        obtain rfl : TI = (wr (EC.mul m (pt p)), 0) := by rw [← HTI.out, hk, hx]; rfl
        have HMT : Hid (m < top) := rq_top HN.out hk
        have HFT : Hid (FracT (tmF m tx 256) (EC.mul m (pt p))) := by
          have h := tmF_F HC.out HMT.out HFX.out 256 (Nat.le_refl _)
          rw [Nat.sub_self, Nat.pow_zero, Nat.div_one] at h
          exact h
        have r1 := KX.out.x1.at'
        have r2 := KX.out.x2.at'
        have r3 := KX.out.x3.at'
        go_wp2_with (first | refine wpList_load_mid rfl 56 _ rfl k1 0 rfl N1 _ r1 hu56 hd56 (by rw [l1]; exact i56) ?_ | refine wpList_load_mid rfl 56 _ rfl k2 0 rfl N2 _ r2 hu56 hd56 (by rw [l2]; exact i56) ?_ | refine wpList_load_mid rfl 33 _ rfl k3 0 rfl N3 _ r3 hu33 hd33 (by rw [l3]; exact i33) ?_)
        clear r1 r2 r3
        refine ((E1.out ▸ negT HC.out tx : Gives 37 #[.agg N1.toArray] _) _).mono ?_
        rintro e w17 ⟨v, rfl, hbx, rfl⟩
        replace KX : Hid (Cx w0 w17 k1 N1 k2 N2 k3 N3 ks kt a b) := KX.out.call hbx
        replace HS := Hid.callA HS hbx
        replace HI := Hid.callA HI hbx
        replace HT := Hid.callA HT hbx
        clear hbx
        have r1 := KX.out.x1.at'
        have r2 := KX.out.x2.at'
        have r3 := KX.out.x3.at'
        go_wp2_with (first | refine wpList_load_mid rfl 56 _ rfl k1 0 rfl N1 _ r1 hu56 hd56 (by rw [l1]; exact i56) ?_ | refine wpList_load_mid rfl 56 _ rfl k2 0 rfl N2 _ r2 hu56 hd56 (by rw [l2]; exact i56) ?_ | refine wpList_load_mid rfl 33 _ rfl k3 0 rfl N3 _ r3 hu33 hd33 (by rw [l3]; exact i33) ?_)
        clear r1 r2 r3
        refine ((rWritten_c HC.out HFX.out.neg) _).mono ?_
        rintro e w18 ⟨v, rfl, hbx, rfl⟩
        replace KX : Hid (Cx w0 w18 k1 N1 k2 N2 k3 N3 ks kt a b) := KX.out.call hbx
        replace HS := Hid.callA HS hbx
        replace HI := Hid.callA HI hbx
        replace HT := Hid.callA HT hbx
        clear hbx
        have r1 := KX.out.x1.at'
        have r2 := KX.out.x2.at'
        have r3 := KX.out.x3.at'
        go_wp2_with (first | refine wpList_load_mid rfl 56 _ rfl k1 0 rfl N1 _ r1 hu56 hd56 (by rw [l1]; exact i56) ?_ | refine wpList_load_mid rfl 56 _ rfl k2 0 rfl N2 _ r2 hu56 hd56 (by rw [l2]; exact i56) ?_ | refine wpList_load_mid rfl 33 _ rfl k3 0 rfl N3 _ r3 hu33 hd33 (by rw [l3]; exact i33) ?_)
        clear r1 r2 r3
        refine ((by rw [← E1.out, ← E2.out]; exact (HFX.out.plus HC.out HFY.out).1 : Gives 39 #[.agg N1.toArray, .agg N2.toArray] (tv (plF tx ty))) _).mono ?_
        rintro e w19 ⟨v, rfl, hbx, rfl⟩
        replace KX : Hid (Cx w0 w19 k1 N1 k2 N2 k3 N3 ks kt a b) := KX.out.call hbx
        replace HS := Hid.callA HS hbx
        replace HI := Hid.callA HI hbx
        replace HT := Hid.callA HT hbx
        clear hbx
        have r1 := KX.out.x1.at'
        have r2 := KX.out.x2.at'
        have r3 := KX.out.x3.at'
        go_wp2_with (first | refine wpList_load_mid rfl 56 _ rfl k1 0 rfl N1 _ r1 hu56 hd56 (by rw [l1]; exact i56) ?_ | refine wpList_load_mid rfl 56 _ rfl k2 0 rfl N2 _ r2 hu56 hd56 (by rw [l2]; exact i56) ?_ | refine wpList_load_mid rfl 33 _ rfl k3 0 rfl N3 _ r3 hu33 hd33 (by rw [l3]; exact i33) ?_)
        clear r1 r2 r3
        refine ((rWritten_c HC.out (HFX.out.plus HC.out HFY.out).2) _).mono ?_
        rintro e w20 ⟨v, rfl, hbx, rfl⟩
        replace KX : Hid (Cx w0 w20 k1 N1 k2 N2 k3 N3 ks kt a b) := KX.out.call hbx
        replace HS := Hid.callA HS hbx
        replace HI := Hid.callA HI hbx
        replace HT := Hid.callA HT hbx
        clear hbx
        have r1 := KX.out.x1.at'
        have r2 := KX.out.x2.at'
        have r3 := KX.out.x3.at'
        go_wp2_with (first | refine wpList_load_mid rfl 56 _ rfl k1 0 rfl N1 _ r1 hu56 hd56 (by rw [l1]; exact i56) ?_ | refine wpList_load_mid rfl 56 _ rfl k2 0 rfl N2 _ r2 hu56 hd56 (by rw [l2]; exact i56) ?_ | refine wpList_load_mid rfl 33 _ rfl k3 0 rfl N3 _ r3 hu33 hd33 (by rw [l3]; exact i33) ?_)
        clear r1 r2 r3
        refine ((by rw [← E1.out, ← E3.out]; exact rTimes_c HC.out m HMT.out tx HFX.out : Gives 40 #[.agg N3.toArray, .agg N1.toArray] (tv (tmF m tx 256))) _).mono ?_
        rintro e w21 ⟨v, rfl, hbx, rfl⟩
        replace KX : Hid (Cx w0 w21 k1 N1 k2 N2 k3 N3 ks kt a b) := KX.out.call hbx
        replace HS := Hid.callA HS hbx
        replace HI := Hid.callA HI hbx
        replace HT := Hid.callA HT hbx
        clear hbx
        have r1 := KX.out.x1.at'
        have r2 := KX.out.x2.at'
        have r3 := KX.out.x3.at'
        go_wp2_with (first | refine wpList_load_mid rfl 56 _ rfl k1 0 rfl N1 _ r1 hu56 hd56 (by rw [l1]; exact i56) ?_ | refine wpList_load_mid rfl 56 _ rfl k2 0 rfl N2 _ r2 hu56 hd56 (by rw [l2]; exact i56) ?_ | refine wpList_load_mid rfl 33 _ rfl k3 0 rfl N3 _ r3 hu33 hd33 (by rw [l3]; exact i33) ?_)
        clear r1 r2 r3
        refine ((rWritten_c HC.out HFT.out) _).mono ?_
        rintro e w22 ⟨v, rfl, hbx, rfl⟩
        replace KX : Hid (Cx w0 w22 k1 N1 k2 N2 k3 N3 ks kt a b) := KX.out.call hbx
        replace HS := Hid.callA HS hbx
        replace HI := Hid.callA HI hbx
        replace HT := Hid.callA HT hbx
        clear hbx
        have r1 := KX.out.x1.at'
        have r2 := KX.out.x2.at'
        have r3 := KX.out.x3.at'
        go_wp2_with (first | refine wpList_load_mid rfl 56 _ rfl k1 0 rfl N1 _ r1 hu56 hd56 (by rw [l1]; exact i56) ?_ | refine wpList_load_mid rfl 56 _ rfl k2 0 rfl N2 _ r2 hu56 hd56 (by rw [l2]; exact i56) ?_ | refine wpList_load_mid rfl 33 _ rfl k3 0 rfl N3 _ r3 hu33 hd33 (by rw [l3]; exact i33) ?_)
        clear r1 r2 r3
        refine (Ans3.told HS.out).mono ?_
        rintro e w23 ⟨v, rfl, hbx, rfl⟩
        replace KX : Hid (Cx w0 w23 k1 N1 k2 N2 k3 N3 ks kt a b) := KX.out.call hbx
        replace HI := Hid.callA HI hbx
        replace HT := Hid.callA HT hbx
        clear hbx
        have r1 := KX.out.x1.at'
        have r2 := KX.out.x2.at'
        have r3 := KX.out.x3.at'
        go_wp2_with (first | refine wpList_load_mid rfl 56 _ rfl k1 0 rfl N1 _ r1 hu56 hd56 (by rw [l1]; exact i56) ?_ | refine wpList_load_mid rfl 56 _ rfl k2 0 rfl N2 _ r2 hu56 hd56 (by rw [l2]; exact i56) ?_ | refine wpList_load_mid rfl 33 _ rfl k3 0 rfl N3 _ r3 hu33 hd33 (by rw [l3]; exact i33) ?_)
        clear r1 r2 r3
        refine (Ans3.told HI.out).mono ?_
        rintro e w24 ⟨v, rfl, hbx, rfl⟩
        replace KX : Hid (Cx w0 w24 k1 N1 k2 N2 k3 N3 ks kt a b) := KX.out.call hbx
        replace HT := Hid.callA HT hbx
        clear hbx
        have r1 := KX.out.x1.at'
        have r2 := KX.out.x2.at'
        have r3 := KX.out.x3.at'
        go_wp2_with (first | refine wpList_load_mid rfl 56 _ rfl k1 0 rfl N1 _ r1 hu56 hd56 (by rw [l1]; exact i56) ?_ | refine wpList_load_mid rfl 56 _ rfl k2 0 rfl N2 _ r2 hu56 hd56 (by rw [l2]; exact i56) ?_ | refine wpList_load_mid rfl 33 _ rfl k3 0 rfl N3 _ r3 hu33 hd33 (by rw [l3]; exact i33) ?_)
        clear r1 r2 r3
        refine (Ans3.told HT.out).mono ?_
        rintro e w25 ⟨v, rfl, hbx, rfl⟩
        replace KX : Hid (Cx w0 w25 k1 N1 k2 N2 k3 N3 ks kt a b) := KX.out.call hbx
        clear hbx
        go_wp2
        go_ret
        exact ⟨by simp, KX.out.bl⟩
end Go.Proofs.Ytdeidgbknlmhjab
