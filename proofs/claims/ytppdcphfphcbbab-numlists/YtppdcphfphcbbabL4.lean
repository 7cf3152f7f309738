import Derived.Test.YtppdcphfphcbbabL3
import Derived.Test.YtppdcphfphcbbabJ8
import Derived.Deep.CutRange
import Derived.Deep.DeepCutAuto
namespace Go.Proofs.Ytppdcphfphcbbab
open Go.RowKit Go.Sort Go.Deep

theorem oneS_get {w W : World} {kp kn xa xb xc xd g0 g1 g2 : Nat} (h : W.cell? ⟨kp, 0, none⟩ = some (.int .u64 (g0 : Int)) ∧ W.cell? ⟨kp, 1, none⟩ = some (.int .u64 (g1 : Int)) ∧ W.cell? ⟨kp, 2, none⟩ = some (.int .u64 (g2 : Int)) ∧ W.cell? ⟨kp, 3, none⟩ = some (.int .u64 0) ∧ W.cell? ⟨kn, 0, none⟩ = some (.int .u64 (xa : Int)) ∧ W.cell? ⟨kn, 1, none⟩ = some (.int .u64 (xb : Int)) ∧ W.cell? ⟨kn, 2, none⟩ = some (.int .u64 (xc : Int)) ∧ W.cell? ⟨kn, 3, none⟩ = some (.int .u64 (xd : Int)) ∧ Kept w w.heap.size [⟨kp, 0, g0, g1, g2, 0⟩, ⟨kn, 0, xa, xb, xc, xd⟩] W) : Kept w w.heap.size [⟨kp, 0, g0, g1, g2, 0⟩, ⟨kn, 0, xa, xb, xc, xd⟩] W := h.2.2.2.2.2.2.2.2
theorem oneS_alloc {w W : World} {kp kn xa xb xc xd g0 g1 g2 : Nat} {o : Obj} (h : W.cell? ⟨kp, 0, none⟩ = some (.int .u64 (g0 : Int)) ∧ W.cell? ⟨kp, 1, none⟩ = some (.int .u64 (g1 : Int)) ∧ W.cell? ⟨kp, 2, none⟩ = some (.int .u64 (g2 : Int)) ∧ W.cell? ⟨kp, 3, none⟩ = some (.int .u64 0) ∧ W.cell? ⟨kn, 0, none⟩ = some (.int .u64 (xa : Int)) ∧ W.cell? ⟨kn, 1, none⟩ = some (.int .u64 (xb : Int)) ∧ W.cell? ⟨kn, 2, none⟩ = some (.int .u64 (xc : Int)) ∧ W.cell? ⟨kn, 3, none⟩ = some (.int .u64 (xd : Int)) ∧ Kept w w.heap.size [⟨kp, 0, g0, g1, g2, 0⟩, ⟨kn, 0, xa, xb, xc, xd⟩] W) : (W.alloc o).cell? ⟨kp, 0, none⟩ = some (.int .u64 (g0 : Int)) ∧ (W.alloc o).cell? ⟨kp, 1, none⟩ = some (.int .u64 (g1 : Int)) ∧ (W.alloc o).cell? ⟨kp, 2, none⟩ = some (.int .u64 (g2 : Int)) ∧ (W.alloc o).cell? ⟨kp, 3, none⟩ = some (.int .u64 0) ∧ (W.alloc o).cell? ⟨kn, 0, none⟩ = some (.int .u64 (xa : Int)) ∧ (W.alloc o).cell? ⟨kn, 1, none⟩ = some (.int .u64 (xb : Int)) ∧ (W.alloc o).cell? ⟨kn, 2, none⟩ = some (.int .u64 (xc : Int)) ∧ (W.alloc o).cell? ⟨kn, 3, none⟩ = some (.int .u64 (xd : Int)) ∧ Kept w w.heap.size [⟨kp, 0, g0, g1, g2, 0⟩, ⟨kn, 0, xa, xb, xc, xd⟩] (W.alloc o) := oneS_of ((oneS_get h).alloc o)
theorem oneS_allocd {w W : World} {kp kn xa xb xc xd g0 g1 g2 : Nat} {o : Obj} (h : W.drew.cell? ⟨kp, 0, none⟩ = some (.int .u64 (g0 : Int)) ∧ W.drew.cell? ⟨kp, 1, none⟩ = some (.int .u64 (g1 : Int)) ∧ W.drew.cell? ⟨kp, 2, none⟩ = some (.int .u64 (g2 : Int)) ∧ W.drew.cell? ⟨kp, 3, none⟩ = some (.int .u64 0) ∧ W.drew.cell? ⟨kn, 0, none⟩ = some (.int .u64 (xa : Int)) ∧ W.drew.cell? ⟨kn, 1, none⟩ = some (.int .u64 (xb : Int)) ∧ W.drew.cell? ⟨kn, 2, none⟩ = some (.int .u64 (xc : Int)) ∧ W.drew.cell? ⟨kn, 3, none⟩ = some (.int .u64 (xd : Int)) ∧ Kept w w.heap.size [⟨kp, 0, g0, g1, g2, 0⟩, ⟨kn, 0, xa, xb, xc, xd⟩] W.drew) : (W.alloc o).drew.cell? ⟨kp, 0, none⟩ = some (.int .u64 (g0 : Int)) ∧ (W.alloc o).drew.cell? ⟨kp, 1, none⟩ = some (.int .u64 (g1 : Int)) ∧ (W.alloc o).drew.cell? ⟨kp, 2, none⟩ = some (.int .u64 (g2 : Int)) ∧ (W.alloc o).drew.cell? ⟨kp, 3, none⟩ = some (.int .u64 0) ∧ (W.alloc o).drew.cell? ⟨kn, 0, none⟩ = some (.int .u64 (xa : Int)) ∧ (W.alloc o).drew.cell? ⟨kn, 1, none⟩ = some (.int .u64 (xb : Int)) ∧ (W.alloc o).drew.cell? ⟨kn, 2, none⟩ = some (.int .u64 (xc : Int)) ∧ (W.alloc o).drew.cell? ⟨kn, 3, none⟩ = some (.int .u64 (xd : Int)) ∧ Kept w w.heap.size [⟨kp, 0, g0, g1, g2, 0⟩, ⟨kn, 0, xa, xb, xc, xd⟩] (W.alloc o).drew := oneS_of (((oneS_get h).undrew).alloc o).drew
theorem oneS_drew {w W : World} {kp kn xa xb xc xd g0 g1 g2 : Nat} (h : W.cell? ⟨kp, 0, none⟩ = some (.int .u64 (g0 : Int)) ∧ W.cell? ⟨kp, 1, none⟩ = some (.int .u64 (g1 : Int)) ∧ W.cell? ⟨kp, 2, none⟩ = some (.int .u64 (g2 : Int)) ∧ W.cell? ⟨kp, 3, none⟩ = some (.int .u64 0) ∧ W.cell? ⟨kn, 0, none⟩ = some (.int .u64 (xa : Int)) ∧ W.cell? ⟨kn, 1, none⟩ = some (.int .u64 (xb : Int)) ∧ W.cell? ⟨kn, 2, none⟩ = some (.int .u64 (xc : Int)) ∧ W.cell? ⟨kn, 3, none⟩ = some (.int .u64 (xd : Int)) ∧ Kept w w.heap.size [⟨kp, 0, g0, g1, g2, 0⟩, ⟨kn, 0, xa, xb, xc, xd⟩] W) : W.drew.cell? ⟨kp, 0, none⟩ = some (.int .u64 (g0 : Int)) ∧ W.drew.cell? ⟨kp, 1, none⟩ = some (.int .u64 (g1 : Int)) ∧ W.drew.cell? ⟨kp, 2, none⟩ = some (.int .u64 (g2 : Int)) ∧ W.drew.cell? ⟨kp, 3, none⟩ = some (.int .u64 0) ∧ W.drew.cell? ⟨kn, 0, none⟩ = some (.int .u64 (xa : Int)) ∧ W.drew.cell? ⟨kn, 1, none⟩ = some (.int .u64 (xb : Int)) ∧ W.drew.cell? ⟨kn, 2, none⟩ = some (.int .u64 (xc : Int)) ∧ W.drew.cell? ⟨kn, 3, none⟩ = some (.int .u64 (xd : Int)) ∧ Kept w w.heap.size [⟨kp, 0, g0, g1, g2, 0⟩, ⟨kn, 0, xa, xb, xc, xd⟩] W.drew := oneS_of (oneS_get h).drew
theorem oneS_call {w W w1 : World} {kp kn xa xb xc xd g0 g1 g2 : Nat} (h : W.cell? ⟨kp, 0, none⟩ = some (.int .u64 (g0 : Int)) ∧ W.cell? ⟨kp, 1, none⟩ = some (.int .u64 (g1 : Int)) ∧ W.cell? ⟨kp, 2, none⟩ = some (.int .u64 (g2 : Int)) ∧ W.cell? ⟨kp, 3, none⟩ = some (.int .u64 0) ∧ W.cell? ⟨kn, 0, none⟩ = some (.int .u64 (xa : Int)) ∧ W.cell? ⟨kn, 1, none⟩ = some (.int .u64 (xb : Int)) ∧ W.cell? ⟨kn, 2, none⟩ = some (.int .u64 (xc : Int)) ∧ W.cell? ⟨kn, 3, none⟩ = some (.int .u64 (xd : Int)) ∧ Kept w w.heap.size [⟨kp, 0, g0, g1, g2, 0⟩, ⟨kn, 0, xa, xb, xc, xd⟩] W) (hb : Below W.heap.size W w1) : w1.cell? ⟨kp, 0, none⟩ = some (.int .u64 (g0 : Int)) ∧ w1.cell? ⟨kp, 1, none⟩ = some (.int .u64 (g1 : Int)) ∧ w1.cell? ⟨kp, 2, none⟩ = some (.int .u64 (g2 : Int)) ∧ w1.cell? ⟨kp, 3, none⟩ = some (.int .u64 0) ∧ w1.cell? ⟨kn, 0, none⟩ = some (.int .u64 (xa : Int)) ∧ w1.cell? ⟨kn, 1, none⟩ = some (.int .u64 (xb : Int)) ∧ w1.cell? ⟨kn, 2, none⟩ = some (.int .u64 (xc : Int)) ∧ w1.cell? ⟨kn, 3, none⟩ = some (.int .u64 (xd : Int)) ∧ Kept w w.heap.size [⟨kp, 0, g0, g1, g2, 0⟩, ⟨kn, 0, xa, xb, xc, xd⟩] w1 := oneS_of ((oneS_get h).call hb)

/-- What stands behind Root: its answer, in a block of its own. -/
def SqR (w : World) (kp kn xa xb xc xd g0 g1 g2 P m R : Nat) (s9 s10 : Value) (wx : World) : Prop :=
  ∃ (k9 a b c d : Nat) (ok : Bool), s9 = .pointer (some ⟨k9, 0, none⟩) ∧ s10 = .bool ok ∧ Kept w w.heap.size (⟨k9, 0, a, b, c, d⟩ :: [⟨kp, 0, g0, g1, g2, 0⟩, ⟨kn, 0, xa, xb, xc, xd⟩]) wx ∧ RootR P m R (.tuple #[.agg #[.int .u64 (a : Int), .int .u64 (b : Int), .int .u64 (c : Int), .int .u64 (d : Int)], .bool ok])
theorem SqR.drew {w wx : World} {kp kn xa xb xc xd g0 g1 g2 P m R : Nat} {s9 s10 : Value} (h : SqR w kp kn xa xb xc xd g0 g1 g2 P m R s9 s10 wx) : SqR w kp kn xa xb xc xd g0 g1 g2 P m R s9 s10 wx.drew := by
  obtain ⟨k9, a, b, c, d, ok, h1, h2, h3, h4⟩ := h
  exact ⟨k9, a, b, c, d, ok, h1, h2, h3.drew, h4⟩
theorem SqR.made {w w1 : World} {kp kn xa xb xc xd g0 g1 g2 P m R a b c d : Nat} {ok : Bool} (KP : Kept w w.heap.size [⟨kp, 0, g0, g1, g2, 0⟩, ⟨kn, 0, xa, xb, xc, xd⟩] w1) (hR : Hid (RootR P m R (.tuple #[.agg #[.int .u64 (a : Int), .int .u64 (b : Int), .int .u64 (c : Int), .int .u64 (d : Int)], .bool ok]))) :
    SqR w kp kn xa xb xc xd g0 g1 g2 P m R (.pointer (some ⟨w1.heap.size, 0, none⟩)) (.bool ok) (w1.alloc (.cells #[.int .u64 (a : Int), .int .u64 (b : Int), .int .u64 (c : Int), .int .u64 (d : Int)] 85)) :=
  ⟨w1.heap.size, a, b, c, d, ok, rfl, rfl, (KP.alloc _).cons (At4.made w1 85 a b c d rfl).blk, hR.out⟩
theorem SqR.put {w w1 : World} {kp kn xa xb xc xd g0 g1 g2 P m R a b c d k7 x y z u : Nat} {ok : Bool} (KP : Kept w w.heap.size [⟨kp, 0, g0, g1, g2, 0⟩, ⟨kn, 0, xa, xb, xc, xd⟩] w1) (T : At4 w1 k7 x y z u) (M7 : w.heap.size ≤ k7) (N7 : ∀ x ∈ ([⟨kp, 0, g0, g1, g2, 0⟩, ⟨kn, 0, xa, xb, xc, xd⟩] : List Blk), x.k < k7) (hR : Hid (RootR P m R (.tuple #[.agg #[.int .u64 (a : Int), .int .u64 (b : Int), .int .u64 (c : Int), .int .u64 (d : Int)], .bool ok]))) :
    SqR w kp kn xa xb xc xd g0 g1 g2 P m R (.pointer (some ⟨k7, 0, none⟩)) (.bool ok) ((((w1.setCell ⟨k7, 0, none⟩ (.int .u64 (a : Int))).setCell ⟨k7, 1, none⟩ (.int .u64 (b : Int))).setCell ⟨k7, 2, none⟩ (.int .u64 (c : Int))).setCell ⟨k7, 3, none⟩ (.int .u64 (d : Int))) :=
  ⟨k7, a, b, c, d, ok, rfl, rfl, (KP.set4' M7 (fun x hx => Nat.ne_of_gt (N7 x hx)) _ _ _ _).cons (T.self4 a b c d).blk, hR.out⟩

/-- What Sqrt answers: the even root, ErrNone, or ErrScalar. -/
def SqrtR (w : World) (P : Nat) (s : Bs) (R : Nat) (e : Value) (w' : World) : Prop :=
  (IsNum P s ∧ R * R % P = beV s.toList ∧ ∃ v, e = .tuple #[v, .int .i64 0] ∧ IsBytes w' w.heap.size v (even P R)) ∨ (IsNum P s ∧ ¬ R * R % P = beV s.toList ∧ e = .tuple #[.slice none 0 0, .int .i64 6]) ∨ (¬ IsNum P s ∧ e = .tuple #[.slice none 0 0, .int .i64 3])

theorem quarter0 : Go.Proofs.Ytppdcphfphcbbab.p0 / 4 % 18446744073709551616 < 18446744073709551615 := by decide +kernel

set_option maxHeartbeats 4000000 in
set_option maxRecDepth 100000 in
theorem Sqrt_any (va : Value) (s : Bs) (w : World) (ha : Arg w va s) :
    Calls Try.prog 23 #[.int .i64 0, va] w (Ret fun e w' => Below w.heap.size w w' ∧ SqrtR w Go.Proofs.Ytppdcphfphcbbab.p0 s (beV s.toList ^ (Go.Proofs.Ytppdcphfphcbbab.p0 / 4 + 1) % Go.Proofs.Ytppdcphfphcbbab.p0) e w') := by
  obtain ⟨P, hP⟩ : ∃ P, P = Go.Proofs.Ytppdcphfphcbbab.p0 := ⟨_, rfl⟩
  have hx : ∃ g0 g1 g2 : Nat, Gap g0 g1 g2 P ∧ ∀ w, Calls Try.prog 63 #[] w fun e w' => e = .returned (.agg #[.int .u64 (g0 : Int), .int .u64 (g1 : Int), .int .u64 (g2 : Int), .int .u64 0]) ∧ w' = w.alloc (.cells #[.int .u64 (g0 : Int), .int .u64 (g1 : Int), .int .u64 (g2 : Int), .int .u64 0] 79) :=
    ⟨4294968273, 0, 0, by rw [hP]; exact gap0, Coordinates_any⟩
  obtain ⟨g0, g1, g2, hg, hco⟩ := hx
  have HG : Hid (Gap g0 g1 g2 P) := hg
  have HQ : Hid (P / 4 % 18446744073709551616 < 18446744073709551615) := by unfold Hid; rw [hP]; exact quarter0
  have HCO : Hid _ := hco
  clear hg hco
  rw [← hP]
  clear hP
  obtain ⟨R, hR⟩ : ∃ R, beV s.toList ^ (P / 4 + 1) % P = R := ⟨_, rfl⟩
  have HRE : Hid (beV s.toList ^ (P / 4 + 1) % P = R) := hR
  rw [hR]
  clear hR
  have HA : Hid (Arg w va s) := ha
  obtain ⟨pa, na, ca, rfl, -⟩ := id ha
  clear ha
  go_enter Try.func23, Try.ntmps23
  go_wp2_with fail
  refine (HCO.out _).mono ?_
  rintro e w0 ⟨rfl, rfl⟩
  go_wp2_with fail
  have A0 := At4.made (w.alloc (.cells #[.int .u64 (g0 : Int), .int .u64 (g1 : Int), .int .u64 (g2 : Int), .int .u64 0] 79)) 79 g0 g1 g2 0 rfl
  have hb0 := below2 w (.cells #[.int .u64 (g0 : Int), .int .u64 (g1 : Int), .int .u64 (g2 : Int), .int .u64 0] 79) (.cells #[.int .u64 (g0 : Int), .int .u64 (g1 : Int), .int .u64 (g2 : Int), .int .u64 0] 79)
  rw [World.size_alloc] at A0
  try simp only [Int.natCast_zero] at A0
  generalize World.alloc _ _ = W0 at A0 hb0 ⊢
  refine (byKind_0 _ 1 g0 g1 g2 0 (by decide) _ A0).mono ?_
  rintro e w1 ⟨v, rfl, hb1, rfl⟩
  replace hb1 := hb0.trans (hb1.mono hb0.size)
  clear A0 hb0
  go_wp2_with fail
  have KP := ((Kept.mk1 hb1 hb1.size).alloc (.cells #[.int .u64 (g0 : Int), .int .u64 (g1 : Int), .int .u64 (g2 : Int), .int .u64 0] 79)).cons (At4.made w1 79 g0 g1 g2 0 rfl).blk
  try simp only [Int.natCast_zero] at KP
  have hA := args_one HA.out KP.bl 23
  rw [World.size_alloc] at hA
  replace KP := KP.alloc (.cells #[.slice pa na ca] 23)
  clear hb1
  generalize World.alloc _ _ = W1 at KP hA ⊢
  generalize w1.heap.size = kp at KP hA ⊢
  refine (numbers_any g0 g1 g2 P 1 1 _ (fun _ => s) HG.out _ (by decide) hA).mono ?_
  rintro e w2 ⟨v, rfl, hb2, h2⟩
  replace KP := KP.call hb2
  clear hb2 hA
  rcases h2 with ⟨hall, kn, hkn, rfl, NM⟩ | ⟨hno, rfl⟩
  · have HBO : Hid (IsNum P s) := hall 0 (by decide)
    clear hall hkn
    obtain ⟨xa, xb, xc, xd, X, hX⟩ := NM 0 (by decide)
    have HX : Hid (Four _ (beV s.toList)) := hX (by decide)
    replace X : (Blk.mk kn 0 xa xb xc xd).at w2 := X
    replace KP : Kept w w.heap.size [⟨kp, 0, g0, g1, g2, 0⟩, ⟨kn, 0, xa, xb, xc, xd⟩] w2 := ((Kept.mk1 KP.bl KP.le).cons X).cons KP.head
    clear NM hX X
    obtain ⟨pc0, pc1, pc2, pc3, pf⟩ := KP.head.at4
    go_upto_region 7 with fail
    clear pc0 pc1 pc2 pc3 pf
    go_cut [9, 10] (fun s9 s10 wx => SqR w kp kn xa xb xc xd g0 g1 g2 P (beV s.toList) R s9 s10 wx)
    case first =>
      go_region_held3 (fun w' => w'.cell? ⟨kp, 0, none⟩ = some (.int .u64 (g0 : Int)) ∧ w'.cell? ⟨kp, 1, none⟩ = some (.int .u64 (g1 : Int)) ∧ w'.cell? ⟨kp, 2, none⟩ = some (.int .u64 (g2 : Int)) ∧ w'.cell? ⟨kp, 3, none⟩ = some (.int .u64 0) ∧ w'.cell? ⟨kn, 0, none⟩ = some (.int .u64 (xa : Int)) ∧ w'.cell? ⟨kn, 1, none⟩ = some (.int .u64 (xb : Int)) ∧ w'.cell? ⟨kn, 2, none⟩ = some (.int .u64 (xc : Int)) ∧ w'.cell? ⟨kn, 3, none⟩ = some (.int .u64 (xd : Int)) ∧ Kept w w.heap.size [⟨kp, 0, g0, g1, g2, 0⟩, ⟨kn, 0, xa, xb, xc, xd⟩] w') (first | (with_reducible exact oneS_of KP) | (with_reducible exact oneS_of KP.drew) | (with_reducible exact oneS_call (by assumption) (by assumption)) | (with_reducible exact oneS_allocd (by assumption)) | (with_reducible exact oneS_alloc (by assumption)) | (with_reducible exact oneS_drew (by assumption)) | (with_reducible exact oneS_of (KP.alloc _)) | (with_reducible exact oneS_of (KP.set4' M7 (fun x hx => Nat.ne_of_gt (N7 x hx)) _ _ _ _)) | (with_reducible exact oneS_of (KP.alloc _).drew) | (with_reducible exact oneS_of (KP.set4' M7 (fun x hx => Nat.ne_of_gt (N7 x hx)) _ _ _ _).drew) | fail) (first | (go_at_call 64; refine (Root_any g0 g1 g2 P _ _ HG.out HQ.out HX.out _).mono ?_; rintro e w3 ⟨v, rfl, hb1, hr⟩; rw [HRE.out] at hr; obtain ⟨ya, yb, yc, yd, ok, rfl, -⟩ := id hr; have HRR : Hid (RootR _ _ _ _) := hr; clear hr; (try (with_reducible have T1 := T.call hb1; clear T; have T := T1; clear T1)); (try (first | (with_reducible have T := (At4.made _ 85 0 0 0 0 rfl).call hb1) | (with_reducible have T := (At4.made _ 85 0 0 0 0 rfl).drew.call hb1)); have N7 := KP.lts; have M7 := KP.le); have KP1 := Kept.call (oneS_get (by assumption)) hb1; clear KP; have KP := KP1; clear KP1 hb1; (try (obtain ⟨tc0, tc1, tc2, tc3, tf⟩ := id T; have zt := T.lt))))
      all_goals (try go_wp2)
      all_goals (go_meet; first | (with_reducible exact SqR.made KP HRR) | (with_reducible exact (SqR.made KP HRR).drew) | (with_reducible exact SqR.put KP T M7 N7 HRR) | (with_reducible exact (SqR.put KP T M7 N7 HRR).drew) | fail)
    case rest =>
      clear KP
      obtain ⟨k9, a, b, c, d, ok, rfl, rfl, KP, hr⟩ := hcut
      obtain ⟨ya, yb, yc, yd, ok', e', hyes, hno⟩ := id hr
      have he : ya = a ∧ yb = b ∧ yc = c ∧ yd = d ∧ ok' = ok := by
        simp only [Value.tuple.injEq, Array.mk.injEq, List.cons.injEq, Value.agg.injEq, Value.int.injEq, Value.bool.injEq, true_and, and_true, Int.ofNat_inj] at e'
        exact ⟨e'.1.1.symm, e'.1.2.1.symm, e'.1.2.2.1.symm, e'.1.2.2.2.symm, e'.2.symm⟩
      obtain ⟨rfl, rfl, rfl, rfl, rfl⟩ := he
      clear e' hr
      cases ok' with
      | false =>
        have HN : Hid (¬ R * R % P = beV s.toList) := hno rfl
        clear hyes hno
        go_wp2
        go_ret2
        exact ⟨_, rfl, KP.bl, Or.inr (Or.inl ⟨HBO.out, HN.out, rfl⟩)⟩
      | true =>
        have HN : Hid _ := hyes rfl
        clear hyes hno
        obtain ⟨tc0, tc1, tc2, tc3, tf⟩ := KP.head.at4
        have zt := KP.head.lt
        go_wp2_with fail
        clear tc0 tc1 tc2 tc3 tf zt
        refine (bytes_of _ _ _ HN.out.2).mono ?_
        rintro e w4 ⟨v, rfl, hb4, hv⟩
        obtain ⟨g', x', y', z', u', rfl, h2⟩ := id hv
        clear h2
        have HV : Hid (IsBytes _ _ _ _) := hv
        clear hv
        go_wp2
        go_ret2
        exact ⟨_, rfl, KP.bl.trans (hb4.mono KP.le), Or.inl ⟨HBO.out, HN.out.1, _, rfl, HV.out.mono KP.le⟩⟩
  · have HN : Hid (¬ IsNum P s) := by obtain ⟨j, -, h⟩ := hno; exact h
    clear hno
    go_wp2
    go_ret2
    exact ⟨_, rfl, KP.bl, Or.inr (Or.inr ⟨HN.out, rfl⟩)⟩

set_option maxHeartbeats 1000000 in
theorem Sqrt_no (k : Int) (hk : ¬ k = 0) (va : Value) (w : World) :
    Calls Try.prog 23 #[.int .i64 k, va] w (Ret fun e w' => Below w.heap.size w w' ∧ e = .tuple #[.slice none 0 0, .int .i64 2]) := by
  have HK : Hid (k < 0 ∨ ((1 : Nat) : Int) ≤ k) := by unfold Hid; omega
  clear hk
  go_enter Try.func23, Try.ntmps23
  go_wp2_with fail
  refine (Coordinates_any _).mono ?_
  rintro e w0 ⟨rfl, rfl⟩
  go_wp2_with fail
  have hb0 := below2 w (.cells #[.int .u64 4294968273, .int .u64 0, .int .u64 0, .int .u64 0] 79) (.cells #[.int .u64 4294968273, .int .u64 0, .int .u64 0, .int .u64 0] 79)
  generalize World.alloc _ _ = W0 at hb0 ⊢
  refine (byKind_no k _ 1 HK.out _).mono ?_
  rintro e w1 ⟨v, rfl, hb1, rfl⟩
  replace hb1 := hb0.trans (hb1.mono hb0.size)
  clear hb0
  go_wp2
  go_ret2
  exact ⟨_, rfl, hb1.alloc hb1.size _, rfl⟩
end Go.Proofs.Ytppdcphfphcbbab
