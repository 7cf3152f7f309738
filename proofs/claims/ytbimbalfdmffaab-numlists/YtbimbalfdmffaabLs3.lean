import Derived.Deep.CutRange
import Derived.Deep.DeepCutAuto
import Derived.Deep.LoopGhost
import Derived.Lib.ConvBytes
import Derived.Deep.RegionHeld3
import Derived.Test.YtbimbalfdmffaabLs2
set_option linter.unusedVariables false
set_option linter.unusedSimpArgs false
namespace Go.Proofs.Ytbimbalfdmffaab
open Go.RowKit Go.Sort Go.Deep

theorem oneS_get {w W : World} {kp kn xa xb xc xd g0 g1 g2 : Nat} (h : W.cell? ⟨kp, 0, none⟩ = some (.int .u64 (g0 : Int)) ∧ W.cell? ⟨kp, 1, none⟩ = some (.int .u64 (g1 : Int)) ∧ W.cell? ⟨kp, 2, none⟩ = some (.int .u64 (g2 : Int)) ∧ W.cell? ⟨kp, 3, none⟩ = some (.int .u64 0) ∧ W.cell? ⟨kn, 0, none⟩ = some (.int .u64 (xa : Int)) ∧ W.cell? ⟨kn, 1, none⟩ = some (.int .u64 (xb : Int)) ∧ W.cell? ⟨kn, 2, none⟩ = some (.int .u64 (xc : Int)) ∧ W.cell? ⟨kn, 3, none⟩ = some (.int .u64 (xd : Int)) ∧ Kept w w.heap.size [⟨kp, 0, g0, g1, g2, 0⟩, ⟨kn, 0, xa, xb, xc, xd⟩] W) : Kept w w.heap.size [⟨kp, 0, g0, g1, g2, 0⟩, ⟨kn, 0, xa, xb, xc, xd⟩] W := h.2.2.2.2.2.2.2.2
theorem oneS_alloc {w W : World} {kp kn xa xb xc xd g0 g1 g2 : Nat} {o : Obj} (h : W.cell? ⟨kp, 0, none⟩ = some (.int .u64 (g0 : Int)) ∧ W.cell? ⟨kp, 1, none⟩ = some (.int .u64 (g1 : Int)) ∧ W.cell? ⟨kp, 2, none⟩ = some (.int .u64 (g2 : Int)) ∧ W.cell? ⟨kp, 3, none⟩ = some (.int .u64 0) ∧ W.cell? ⟨kn, 0, none⟩ = some (.int .u64 (xa : Int)) ∧ W.cell? ⟨kn, 1, none⟩ = some (.int .u64 (xb : Int)) ∧ W.cell? ⟨kn, 2, none⟩ = some (.int .u64 (xc : Int)) ∧ W.cell? ⟨kn, 3, none⟩ = some (.int .u64 (xd : Int)) ∧ Kept w w.heap.size [⟨kp, 0, g0, g1, g2, 0⟩, ⟨kn, 0, xa, xb, xc, xd⟩] W) : (W.alloc o).cell? ⟨kp, 0, none⟩ = some (.int .u64 (g0 : Int)) ∧ (W.alloc o).cell? ⟨kp, 1, none⟩ = some (.int .u64 (g1 : Int)) ∧ (W.alloc o).cell? ⟨kp, 2, none⟩ = some (.int .u64 (g2 : Int)) ∧ (W.alloc o).cell? ⟨kp, 3, none⟩ = some (.int .u64 0) ∧ (W.alloc o).cell? ⟨kn, 0, none⟩ = some (.int .u64 (xa : Int)) ∧ (W.alloc o).cell? ⟨kn, 1, none⟩ = some (.int .u64 (xb : Int)) ∧ (W.alloc o).cell? ⟨kn, 2, none⟩ = some (.int .u64 (xc : Int)) ∧ (W.alloc o).cell? ⟨kn, 3, none⟩ = some (.int .u64 (xd : Int)) ∧ Kept w w.heap.size [⟨kp, 0, g0, g1, g2, 0⟩, ⟨kn, 0, xa, xb, xc, xd⟩] (W.alloc o) := oneS_of ((oneS_get h).alloc o)
theorem oneS_allocd {w W : World} {kp kn xa xb xc xd g0 g1 g2 : Nat} {o : Obj} (h : W.drew.cell? ⟨kp, 0, none⟩ = some (.int .u64 (g0 : Int)) ∧ W.drew.cell? ⟨kp, 1, none⟩ = some (.int .u64 (g1 : Int)) ∧ W.drew.cell? ⟨kp, 2, none⟩ = some (.int .u64 (g2 : Int)) ∧ W.drew.cell? ⟨kp, 3, none⟩ = some (.int .u64 0) ∧ W.drew.cell? ⟨kn, 0, none⟩ = some (.int .u64 (xa : Int)) ∧ W.drew.cell? ⟨kn, 1, none⟩ = some (.int .u64 (xb : Int)) ∧ W.drew.cell? ⟨kn, 2, none⟩ = some (.int .u64 (xc : Int)) ∧ W.drew.cell? ⟨kn, 3, none⟩ = some (.int .u64 (xd : Int)) ∧ Kept w w.heap.size [⟨kp, 0, g0, g1, g2, 0⟩, ⟨kn, 0, xa, xb, xc, xd⟩] W.drew) : (W.alloc o).drew.cell? ⟨kp, 0, none⟩ = some (.int .u64 (g0 : Int)) ∧ (W.alloc o).drew.cell? ⟨kp, 1, none⟩ = some (.int .u64 (g1 : Int)) ∧ (W.alloc o).drew.cell? ⟨kp, 2, none⟩ = some (.int .u64 (g2 : Int)) ∧ (W.alloc o).drew.cell? ⟨kp, 3, none⟩ = some (.int .u64 0) ∧ (W.alloc o).drew.cell? ⟨kn, 0, none⟩ = some (.int .u64 (xa : Int)) ∧ (W.alloc o).drew.cell? ⟨kn, 1, none⟩ = some (.int .u64 (xb : Int)) ∧ (W.alloc o).drew.cell? ⟨kn, 2, none⟩ = some (.int .u64 (xc : Int)) ∧ (W.alloc o).drew.cell? ⟨kn, 3, none⟩ = some (.int .u64 (xd : Int)) ∧ Kept w w.heap.size [⟨kp, 0, g0, g1, g2, 0⟩, ⟨kn, 0, xa, xb, xc, xd⟩] (W.alloc o).drew := oneS_of (((oneS_get h).undrew).alloc o).drew
theorem oneS_drew {w W : World} {kp kn xa xb xc xd g0 g1 g2 : Nat} (h : W.cell? ⟨kp, 0, none⟩ = some (.int .u64 (g0 : Int)) ∧ W.cell? ⟨kp, 1, none⟩ = some (.int .u64 (g1 : Int)) ∧ W.cell? ⟨kp, 2, none⟩ = some (.int .u64 (g2 : Int)) ∧ W.cell? ⟨kp, 3, none⟩ = some (.int .u64 0) ∧ W.cell? ⟨kn, 0, none⟩ = some (.int .u64 (xa : Int)) ∧ W.cell? ⟨kn, 1, none⟩ = some (.int .u64 (xb : Int)) ∧ W.cell? ⟨kn, 2, none⟩ = some (.int .u64 (xc : Int)) ∧ W.cell? ⟨kn, 3, none⟩ = some (.int .u64 (xd : Int)) ∧ Kept w w.heap.size [⟨kp, 0, g0, g1, g2, 0⟩, ⟨kn, 0, xa, xb, xc, xd⟩] W) : W.drew.cell? ⟨kp, 0, none⟩ = some (.int .u64 (g0 : Int)) ∧ W.drew.cell? ⟨kp, 1, none⟩ = some (.int .u64 (g1 : Int)) ∧ W.drew.cell? ⟨kp, 2, none⟩ = some (.int .u64 (g2 : Int)) ∧ W.drew.cell? ⟨kp, 3, none⟩ = some (.int .u64 0) ∧ W.drew.cell? ⟨kn, 0, none⟩ = some (.int .u64 (xa : Int)) ∧ W.drew.cell? ⟨kn, 1, none⟩ = some (.int .u64 (xb : Int)) ∧ W.drew.cell? ⟨kn, 2, none⟩ = some (.int .u64 (xc : Int)) ∧ W.drew.cell? ⟨kn, 3, none⟩ = some (.int .u64 (xd : Int)) ∧ Kept w w.heap.size [⟨kp, 0, g0, g1, g2, 0⟩, ⟨kn, 0, xa, xb, xc, xd⟩] W.drew := oneS_of (oneS_get h).drew
theorem oneS_call {w W w1 : World} {kp kn xa xb xc xd g0 g1 g2 : Nat} (h : W.cell? ⟨kp, 0, none⟩ = some (.int .u64 (g0 : Int)) ∧ W.cell? ⟨kp, 1, none⟩ = some (.int .u64 (g1 : Int)) ∧ W.cell? ⟨kp, 2, none⟩ = some (.int .u64 (g2 : Int)) ∧ W.cell? ⟨kp, 3, none⟩ = some (.int .u64 0) ∧ W.cell? ⟨kn, 0, none⟩ = some (.int .u64 (xa : Int)) ∧ W.cell? ⟨kn, 1, none⟩ = some (.int .u64 (xb : Int)) ∧ W.cell? ⟨kn, 2, none⟩ = some (.int .u64 (xc : Int)) ∧ W.cell? ⟨kn, 3, none⟩ = some (.int .u64 (xd : Int)) ∧ Kept w w.heap.size [⟨kp, 0, g0, g1, g2, 0⟩, ⟨kn, 0, xa, xb, xc, xd⟩] W) (hb : Below W.heap.size W w1) : w1.cell? ⟨kp, 0, none⟩ = some (.int .u64 (g0 : Int)) ∧ w1.cell? ⟨kp, 1, none⟩ = some (.int .u64 (g1 : Int)) ∧ w1.cell? ⟨kp, 2, none⟩ = some (.int .u64 (g2 : Int)) ∧ w1.cell? ⟨kp, 3, none⟩ = some (.int .u64 0) ∧ w1.cell? ⟨kn, 0, none⟩ = some (.int .u64 (xa : Int)) ∧ w1.cell? ⟨kn, 1, none⟩ = some (.int .u64 (xb : Int)) ∧ w1.cell? ⟨kn, 2, none⟩ = some (.int .u64 (xc : Int)) ∧ w1.cell? ⟨kn, 3, none⟩ = some (.int .u64 (xd : Int)) ∧ Kept w w.heap.size [⟨kp, 0, g0, g1, g2, 0⟩, ⟨kn, 0, xa, xb, xc, xd⟩] w1 := oneS_of ((oneS_get h).call hb)

/-- What stands behind Root: its answer, in a block of its own. -/
def SqR (w : World) (kp kn xa xb xc xd g0 g1 g2 P m R : Nat) (s9 s10 : Value) (wx : World) : Prop :=
  ∃ (k9 a b c d : Nat) (ok : Bool), s9 = .pointer (some ⟨k9, 0, none⟩) ∧ s10 = .bool ok ∧ Kept w w.heap.size (⟨k9, 0, a, b, c, d⟩ :: [⟨kp, 0, g0, g1, g2, 0⟩, ⟨kn, 0, xa, xb, xc, xd⟩]) wx ∧ RootR P m R (.tuple #[.agg #[.int .u64 (a : Int), .int .u64 (b : Int), .int .u64 (c : Int), .int .u64 (d : Int)], .bool ok])
theorem SqR.drew {w wx : World} {kp kn xa xb xc xd g0 g1 g2 P m R : Nat} {s9 s10 : Value} (h : SqR w kp kn xa xb xc xd g0 g1 g2 P m R s9 s10 wx) : SqR w kp kn xa xb xc xd g0 g1 g2 P m R s9 s10 wx.drew := by
  obtain ⟨k9, a, b, c, d, ok, h1, h2, h3, h4⟩ := h
  exact ⟨k9, a, b, c, d, ok, h1, h2, h3.drew, h4⟩
theorem SqR.made {w w1 : World} {kp kn xa xb xc xd g0 g1 g2 P m R a b c d : Nat} {ok : Bool} (KP : Kept w w.heap.size [⟨kp, 0, g0, g1, g2, 0⟩, ⟨kn, 0, xa, xb, xc, xd⟩] w1) (hR : Hid (RootR P m R (.tuple #[.agg #[.int .u64 (a : Int), .int .u64 (b : Int), .int .u64 (c : Int), .int .u64 (d : Int)], .bool ok]))) :
    SqR w kp kn xa xb xc xd g0 g1 g2 P m R (.pointer (some ⟨w1.heap.size, 0, none⟩)) (.bool ok) (w1.alloc (.cells #[.int .u64 (a : Int), .int .u64 (b : Int), .int .u64 (c : Int), .int .u64 (d : Int)] 85)) :=
  ⟨w1.heap.size, a, b, c, d, ok, rfl, rfl, (KP.alloc _).cons (At4.made w1 85 a b c d rfl).blk, hR.out⟩
theorem SqR.put {w w1 : World} {kp kn xa xb xc xd g0 g1 g2 P m R a b c d k7 x y z u : Nat} {ok : Bool} (KP : Kept w w.heap.size [⟨kp, 0, g0, g1, g2, 0⟩, ⟨kn, 0, xa, xb, xc, xd⟩] w1) (T : At4 w1 k7 x y z u) (M7 : w.heap.size ≤ k7) (N7 : ∀ x ∈ ([⟨kp, 0, g0, g1, g2, 0⟩, ⟨kn, 0, xa, xb, xc, xd⟩] : List Blk), x.k < k7) (hR : Hid (RootR P m R (.tuple #[.agg #[.int .u64 (a : Int), .int .u64 (b : Int), .int .u64 (c : Int), .int .u64 (d : Int)], .bool ok]))) :
    SqR w kp kn xa xb xc xd g0 g1 g2 P m R (.pointer (some ⟨k7, 0, none⟩)) (.bool ok) ((((w1.setCell ⟨k7, 0, none⟩ (.int .u64 (a : Int))).setCell ⟨k7, 1, none⟩ (.int .u64 (b : Int))).setCell ⟨k7, 2, none⟩ (.int .u64 (c : Int))).setCell ⟨k7, 3, none⟩ (.int .u64 (d : Int))) :=
  ⟨k7, a, b, c, d, ok, rfl, rfl, (KP.set4' M7 (fun x hx => Nat.ne_of_gt (N7 x hx)) _ _ _ _).cons (T.self4 a b c d).blk, hR.out⟩

/-- What Sqrt answers: the even root, ErrNone, or ErrScalar. -/
def SqrtR (w : World) (P : Nat) (s : Bs) (R : Nat) (e : Value) (w' : World) : Prop :=
  (IsNum P s ∧ R * R % P = beV s.toList ∧ ∃ v, e = .tuple #[v, .int .i64 0] ∧ IsBytes w' w.heap.size v (even P R)) ∨ (IsNum P s ∧ ¬ R * R % P = beV s.toList ∧ e = .tuple #[.slice none 0 0, .int .i64 6]) ∨ (¬ IsNum P s ∧ e = .tuple #[.slice none 0 0, .int .i64 3])

theorem quarter0 : Go.Proofs.Ytbimbalfdmffaab.p0 / 4 % 18446744073709551616 < 18446744073709551615 := by decide +kernel

set_option maxHeartbeats 4000000 in
set_option maxRecDepth 100000 in
theorem Sqrt_any (va : Value) (s : Bs) (w : World) (ha : Arg w va s) :
    Calls Try.prog 23 #[.int .i64 0, va] w (Ret fun e w' => Below w.heap.size w w' ∧ SqrtR w Go.Proofs.Ytbimbalfdmffaab.p0 s (beV s.toList ^ (Go.Proofs.Ytbimbalfdmffaab.p0 / 4 + 1) % Go.Proofs.Ytbimbalfdmffaab.p0) e w') := by
  obtain ⟨P, hP⟩ : ∃ P, P = Go.Proofs.Ytbimbalfdmffaab.p0 := ⟨_, rfl⟩
  have hx : ∃ g0 g1 g2 : Nat, Gap g0 g1 g2 P ∧ ∀ w, Calls Try.prog 63 #[] w fun e w' => e = .returned (.agg #[.int .u64 (g0 : Int), .int .u64 (g1 : Int), .int .u64 (g2 : Int), .int .u64 0]) ∧ w' = w.alloc (.cells #[.int .u64 (g0 : Int), .int .u64 (g1 : Int), .int .u64 (g2 : Int), .int .u64 0] 79) :=
    ⟨4294968273, 0, 0, by rw [hP]; exact gap0, Coordinates_any⟩
  obtain ⟨g0, g1, g2, hg, hco⟩ := hx
  have HG : Hid (Gap g0 g1 g2 P) := hg
  have HQ : Hid (P / 4 % 18446744073709551616 < 18446744073709551615) := by unfold Hid; rw [hP]; exact quarter0
  have HCO : Hid _ := hco
  clear hg hco
  rw [← hP]
  clear hP
  obtain ⟨R, hR⟩ : ∃ R, beV s.toList ^ (P / 4 + 1) % P = R := ⟨_, rfl⟩
  have HRE : Hid (beV s.toList ^ (P / 4 + 1) % P = R) := hR
  rw [hR]
  clear hR
  have HA : Hid (Arg w va s) := ha
  obtain ⟨pa, na, ca, rfl, -⟩ := id ha
  clear ha
  go_enter Try.func23, Try.ntmps23
  go_wp2_with fail
  refine (HCO.out _).mono ?_
  rintro e w0 ⟨rfl, rfl⟩
  go_wp2_with fail
  have A0 := At4.made (w.alloc (.cells #[.int .u64 (g0 : Int), .int .u64 (g1 : Int), .int .u64 (g2 : Int), .int .u64 0] 79)) 79 g0 g1 g2 0 rfl
  have hb0 := below2 w (.cells #[.int .u64 (g0 : Int), .int .u64 (g1 : Int), .int .u64 (g2 : Int), .int .u64 0] 79) (.cells #[.int .u64 (g0 : Int), .int .u64 (g1 : Int), .int .u64 (g2 : Int), .int .u64 0] 79)
  rw [World.size_alloc] at A0
  try simp only [Int.natCast_zero] at A0
  generalize World.alloc _ _ = W0 at A0 hb0 ⊢
  refine (byKind_0 _ 1 g0 g1 g2 0 (by decide) _ A0).mono ?_
  rintro e w1 ⟨v, rfl, hb1, rfl⟩
  replace hb1 := hb0.trans (hb1.mono hb0.size)
  clear A0 hb0
  go_wp2_with fail
  have KP := ((Kept.mk1 hb1 hb1.size).alloc (.cells #[.int .u64 (g0 : Int), .int .u64 (g1 : Int), .int .u64 (g2 : Int), .int .u64 0] 79)).cons (At4.made w1 79 g0 g1 g2 0 rfl).blk
  try simp only [Int.natCast_zero] at KP
  have hA := args_one HA.out KP.bl 23
  rw [World.size_alloc] at hA
  replace KP := KP.alloc (.cells #[.slice pa na ca] 23)
  clear hb1
  generalize World.alloc _ _ = W1 at KP hA ⊢
  generalize w1.heap.size = kp at KP hA ⊢
  refine (numbers_any g0 g1 g2 P 1 1 _ (fun _ => s) HG.out _ (by decide) hA).mono ?_
  rintro e w2 ⟨v, rfl, hb2, h2⟩
  replace KP := KP.call hb2
  clear hb2 hA
  rcases h2 with ⟨hall, kn, hkn, rfl, NM⟩ | ⟨hno, rfl⟩
  · have HBO : Hid (IsNum P s) := hall 0 (by decide)
    clear hall hkn
    obtain ⟨xa, xb, xc, xd, X, hX⟩ := NM 0 (by decide)
    have HX : Hid (Four _ (beV s.toList)) := hX (by decide)
    replace X : (Blk.mk kn 0 xa xb xc xd).at w2 := X
    replace KP : Kept w w.heap.size [⟨kp, 0, g0, g1, g2, 0⟩, ⟨kn, 0, xa, xb, xc, xd⟩] w2 := ((Kept.mk1 KP.bl KP.le).cons X).cons KP.head
    clear NM hX X
    obtain ⟨pc0, pc1, pc2, pc3, pf⟩ := KP.head.at4
    go_upto_region 7 with fail
    clear pc0 pc1 pc2 pc3 pf
    go_cut [9, 10] (fun s9 s10 wx => SqR w kp kn xa xb xc xd g0 g1 g2 P (beV s.toList) R s9 s10 wx)
    case first =>
      go_region_held3 (fun w' => w'.cell? ⟨kp, 0, none⟩ = some (.int .u64 (g0 : Int)) ∧ w'.cell? ⟨kp, 1, none⟩ = some (.int .u64 (g1 : Int)) ∧ w'.cell? ⟨kp, 2, none⟩ = some (.int .u64 (g2 : Int)) ∧ w'.cell? ⟨kp, 3, none⟩ = some (.int .u64 0) ∧ w'.cell? ⟨kn, 0, none⟩ = some (.int .u64 (xa : Int)) ∧ w'.cell? ⟨kn, 1, none⟩ = some (.int .u64 (xb : Int)) ∧ w'.cell? ⟨kn, 2, none⟩ = some (.int .u64 (xc : Int)) ∧ w'.cell? ⟨kn, 3, none⟩ = some (.int .u64 (xd : Int)) ∧ Kept w w.heap.size [⟨kp, 0, g0, g1, g2, 0⟩, ⟨kn, 0, xa, xb, xc, xd⟩] w') (first | (with_reducible exact oneS_of KP) | (with_reducible exact oneS_of KP.drew) | (with_reducible exact oneS_call (by assumption) (by assumption)) | (with_reducible exact oneS_allocd (by assumption)) | (with_reducible exact oneS_alloc (by assumption)) | (with_reducible exact oneS_drew (by assumption)) | (with_reducible exact oneS_of (KP.alloc _)) | (with_reducible exact oneS_of (KP.set4' M7 (fun x hx => Nat.ne_of_gt (N7 x hx)) _ _ _ _)) | (with_reducible exact oneS_of (KP.alloc _).drew) | (with_reducible exact oneS_of (KP.set4' M7 (fun x hx => Nat.ne_of_gt (N7 x hx)) _ _ _ _).drew) | fail) (first | (go_at_call 64; refine (Root_any g0 g1 g2 P _ _ HG.out HQ.out HX.out _).mono ?_; rintro e w3 ⟨v, rfl, hb1, hr⟩; rw [HRE.out] at hr; obtain ⟨ya, yb, yc, yd, ok, rfl, -⟩ := id hr; have HRR : Hid (RootR _ _ _ _) := hr; clear hr; (try (with_reducible have T1 := T.call hb1; clear T; have T := T1; clear T1)); (try (first | (with_reducible have T := (At4.made _ 85 0 0 0 0 rfl).call hb1) | (with_reducible have T := (At4.made _ 85 0 0 0 0 rfl).drew.call hb1)); have N7 := KP.lts; have M7 := KP.le); have KP1 := Kept.call (oneS_get (by assumption)) hb1; clear KP; have KP := KP1; clear KP1 hb1; (try (obtain ⟨tc0, tc1, tc2, tc3, tf⟩ := id T; have zt := T.lt))))
      all_goals (try go_wp2)
      all_goals (go_meet; first | (with_reducible exact SqR.made KP HRR) | (with_reducible exact (SqR.made KP HRR).drew) | (with_reducible exact SqR.put KP T M7 N7 HRR) | (with_reducible exact (SqR.put KP T M7 N7 HRR).drew) | fail)
    case rest =>
      clear KP
      obtain ⟨k9, a, b, c, d, ok, rfl, rfl, KP, hr⟩ := hcut
      obtain ⟨ya, yb, yc, yd, ok', e', hyes, hno⟩ := id hr
      have he : ya = a ∧ yb = b ∧ yc = c ∧ yd = d ∧ ok' = ok := by
        simp only [Value.tuple.injEq, Array.mk.injEq, List.cons.injEq, Value.agg.injEq, Value.int.injEq, Value.bool.injEq, true_and, and_true, Int.ofNat_inj] at e'
        exact ⟨e'.1.1.symm, e'.1.2.1.symm, e'.1.2.2.1.symm, e'.1.2.2.2.symm, e'.2.symm⟩
      obtain ⟨rfl, rfl, rfl, rfl, rfl⟩ := he
      clear e' hr
      cases ok' with
      | false =>
        have HN : Hid (¬ R * R % P = beV s.toList) := hno rfl
        clear hyes hno
        go_wp2
        go_ret2
        exact ⟨_, rfl, KP.bl, Or.inr (Or.inl ⟨HBO.out, HN.out, rfl⟩)⟩
      | true =>
        have HN : Hid _ := hyes rfl
        clear hyes hno
        obtain ⟨tc0, tc1, tc2, tc3, tf⟩ := KP.head.at4
        have zt := KP.head.lt
        go_wp2_with fail
        clear tc0 tc1 tc2 tc3 tf zt
        refine (bytes_of _ _ _ HN.out.2).mono ?_
        rintro e w4 ⟨v, rfl, hb4, hv⟩
        obtain ⟨g', x', y', z', u', rfl, h2⟩ := id hv
        clear h2
        have HV : Hid (IsBytes _ _ _ _) := hv
        clear hv
        go_wp2
        go_ret2
        exact ⟨_, rfl, KP.bl.trans (hb4.mono KP.le), Or.inl ⟨HBO.out, HN.out.1, _, rfl, HV.out.mono KP.le⟩⟩
  · have HN : Hid (¬ IsNum P s) := by obtain ⟨j, -, h⟩ := hno; exact h
    clear hno
    go_wp2
    go_ret2
    exact ⟨_, rfl, KP.bl, Or.inr (Or.inr ⟨HN.out, rfl⟩)⟩

set_option maxHeartbeats 1000000 in
theorem Sqrt_no (k : Int) (hk : ¬ k = 0) (va : Value) (w : World) :
    Calls Try.prog 23 #[.int .i64 k, va] w (Ret fun e w' => Below w.heap.size w w' ∧ e = .tuple #[.slice none 0 0, .int .i64 2]) := by
  have HK : Hid (k < 0 ∨ ((1 : Nat) : Int) ≤ k) := by unfold Hid; omega
  clear hk
  go_enter Try.func23, Try.ntmps23
  go_wp2_with fail
  refine (Coordinates_any _).mono ?_
  rintro e w0 ⟨rfl, rfl⟩
  go_wp2_with fail
  have hb0 := below2 w (.cells #[.int .u64 4294968273, .int .u64 0, .int .u64 0, .int .u64 0] 79) (.cells #[.int .u64 4294968273, .int .u64 0, .int .u64 0, .int .u64 0] 79)
  generalize World.alloc _ _ = W0 at hb0 ⊢
  refine (byKind_no k _ 1 HK.out _).mono ?_
  rintro e w1 ⟨v, rfl, hb1, rfl⟩
  replace hb1 := hb0.trans (hb1.mono hb0.size)
  clear hb0
  go_wp2
  go_ret2
  exact ⟨_, rfl, hb1.alloc hb1.size _, rfl⟩
end Go.Proofs.Ytbimbalfdmffaab
namespace Go.Proofs.Ytbimbalfdmffaab
open Go.RowKit Go.Sort

/-- A prime as the reference has it: itself, and what is missing to 2^256. -/
structure RefP (p0 p1 p2 p3 c0 c1 c2 c3 P : Nat) : Prop where
  hp0 : p0 < 18446744073709551616
  hp1 : p1 < 18446744073709551616
  hp2 : p2 < 18446744073709551616
  hp3 : p3 < 18446744073709551616
  hc0 : c0 < 18446744073709551616
  hc1 : c1 < 18446744073709551616
  hc2 : c2 < 18446744073709551616
  hc3 : c3 < 18446744073709551616
  eP : P = val p0 p1 p2 p3
  hP : P + val c0 c1 c2 c3 = top
  hP2 : top < 2 * P

theorem refP0 : RefP 18446744069414583343 18446744073709551615 18446744073709551615 18446744073709551615 4294968273 0 0 0 Go.Proofs.Ytbimbalfdmffaab.p0 :=
  ⟨by decide, by decide, by decide, by decide, by decide, by decide, by decide, by decide, by decide +kernel, by decide +kernel, by decide +kernel⟩
theorem refP1 : RefP 13822214165235122497 13451932020343611451 18446744073709551614 18446744073709551615 4624529908474429119 4994812053365940164 1 0 Go.Proofs.Ytbimbalfdmffaab.p1 :=
  ⟨by decide, by decide, by decide, by decide, by decide, by decide, by decide, by decide, by decide +kernel, by decide +kernel, by decide +kernel⟩


theorem low0 : 2 ≤ Go.Proofs.Ytbimbalfdmffaab.p0 % 18446744073709551616 := by decide +kernel
theorem low1 : 2 ≤ Go.Proofs.Ytbimbalfdmffaab.p1 % 18446744073709551616 := by decide +kernel
end Go.Proofs.Ytbimbalfdmffaab
namespace Go.Proofs.Ytbimbalfdmffaab
open Go.RowKit Go.Sort Go.Deep

theorem At4.setq {w : World} {k a b c d : Nat} (h : At4 w k a b c d) (q o : Nat) (hq : q < 4) :
    At4 (w.setCell ⟨k, q, none⟩ (.int .u64 (o : Int))) k (if q = 0 then o else a) (if q = 1 then o else b) (if q = 2 then o else c) (if q = 3 then o else d) := by
  have h' : q = 0 ∨ q = 1 ∨ q = 2 ∨ q = 3 := by omega
  rcases h' with rfl | rfl | rfl | rfl
  · exact h.set0 o
  · exact h.set1 o
  · exact h.set2 o
  · exact h.set3 o

theorem of_word {a b c d M k B : Nat} (ha : a < 18446744073709551616) (hb : b < 18446744073709551616) (hc : c < 18446744073709551616) (hd : d < 18446744073709551616) (hk : k < 32) (hB : B < 256) (hv : val a b c d = M * 256 ^ (k + 1)) :
    bits .or .u64 (wd a b c d (k / 8) : Int) ((B * 2 ^ (8 * (k % 8)) : Nat) : Int) = ((wd a b c d (k / 8) + B * 2 ^ (8 * (k % 8)) : Nat) : Int) ∧ wd a b c d (k / 8) + B * 2 ^ (8 * (k % 8)) < 18446744073709551616 := by
  have h1 : wd a b c d (k / 8) = 256 ^ (k % 8 + 1) * (M % 256 ^ (7 - k % 8)) := by
    rw [wd_eq (k / 8) (by omega) ha hb hc hd, hv, of_div rfl rfl]
  obtain ⟨h2, h3⟩ := of_or (y := M % 256 ^ (7 - k % 8)) (x := B) (r := k % 8) (by omega) hB (Nat.mod_lt _ (Nat.pow_pos (by decide)))
  rw [h1]
  refine ⟨?_, h3⟩
  rw [bits_or_u64_nat _ _ (by omega) (by omega), h2]

theorem of_step {a b c d k B o : Nat} (hk : k < 32) (ho : o = wd a b c d (k / 8) + B * 2 ^ (8 * (k % 8))) :
    val (if k / 8 = 0 then o else a) (if k / 8 = 1 then o else b) (if k / 8 = 2 then o else c) (if k / 8 = 3 then o else d) = val a b c d + B * 256 ^ k := by
  have h := val_set a b c d (k / 8) o (by omega)
  have e : (256 : Nat) ^ k = 2 ^ (64 * (k / 8)) * 2 ^ (8 * (k % 8)) := by
    rw [← Nat.pow_add, show 64 * (k / 8) + 8 * (k % 8) = 8 * k by omega, Nat.pow_mul]
  rw [ho, Nat.mul_add, ← Nat.mul_assoc, Nat.mul_comm (2 ^ (64 * (k / 8))) B, Nat.mul_assoc, ← e] at h
  rw [ho]
  omega

theorem beV_next (s : ByteArray) (i : Nat) (hi : i < s.size) : beV (s.data.extract 0 (i + 1)).toList = beV (s.data.extract 0 i).toList * 256 + s[i].toNat := by
  have e : (s.data.extract 0 (i + 1)).toList = (s.data.extract 0 i).toList ++ [s[i]] := by
    rw [Array.extract_succ_right (by omega) hi, Array.toList_push]
    rfl
  rw [e, beV_append]
  simp [beV]

set_option maxHeartbeats 4000000 in
set_option maxRecDepth 100000 in
theorem rOf_any (s : ByteArray) (hs : s.size = 32) (w : World) :
    Calls Try.prog 53 #[.string s] w (Ret fun e w' => Below w.heap.size w w' ∧ Four e (beV s.data.toList)) := by
  go_enter Try.func53, Try.ntmps53
  go_wp2
  have KP := ((Kept.mk1 (below2 w (.cells #[.int .u64 0, .int .u64 0, .int .u64 0, .int .u64 0] 33) (.cells #[.int .u64 0, .int .u64 0, .int .u64 0, .int .u64 0] 33)) (below2 w _ _).size).cons ((At4.made w 33 0 0 0 0 rfl).alloc (.cells #[.int .u64 0, .int .u64 0, .int .u64 0, .int .u64 0] 33)).blk).cons (At4.made (w.alloc (.cells #[.int .u64 0, .int .u64 0, .int .u64 0, .int .u64 0] 33)) 33 0 0 0 0 (World.size_alloc _ _)).blk
  generalize World.alloc _ _ = W0 at KP ⊢
  generalize h1 : w.heap.size + 1 = k1 at KP ⊢
  have n10 : k1 ≠ w.heap.size := by omega
  have Q1 : Hid (w.heap.size ≤ k1) := by unfold Hid; omega
  clear h1
  go_loopg [4] 32 (fun gk s4 wr => ∃ i a b c d : Nat, i + gk = 32 ∧ s4 = .int .i64 (i : Int) ∧ Kept w w.heap.size [⟨k1, 0, a, b, c, d⟩, ⟨w.heap.size, 0, 0, 0, 0, 0⟩] wr ∧ Hid (Four (.agg #[.int .u64 (a : Int), .int .u64 (b : Int), .int .u64 (c : Int), .int .u64 (d : Int)]) (beV (s.data.extract 0 i).toList * 256 ^ (32 - i))))
  case atStart =>
    refine ⟨0, 0, 0, 0, 0, rfl, rfl, KP, ?_⟩
    have : beV (s.data.extract 0 0).toList = 0 := by simp [beV]
    rw [this, Nat.zero_mul]
    exact Four.mk (by decide) (by decide) (by decide) (by decide) rfl
  case round =>
    clear KP
    obtain ⟨i, a, b, c, d, hi, rfl, KP, HF⟩ := hrel
    by_cases hlt : i < 32
    · obtain ⟨k, hk⟩ : ∃ k, 31 - i = k := ⟨_, rfl⟩
      have hk32 : k < 32 := by omega
      have hi32 : i < s.size := by omega
      have hF : val a b c d = beV (s.data.extract 0 i).toList * 256 ^ (k + 1) ∧ a < 18446744073709551616 ∧ b < 18446744073709551616 ∧ c < 18446744073709551616 ∧ d < 18446744073709551616 := by
        obtain ⟨a', b', c', d', e', h1, h2, h3, h4, h5⟩ := HF.out
        obtain ⟨rfl, rfl, rfl, rfl⟩ : a' = a ∧ b' = b ∧ c' = c ∧ d' = d := by
          simp only [Value.agg.injEq, Array.mk.injEq, List.cons.injEq, Value.int.injEq, true_and, and_true, Int.ofNat_inj] at e'
          exact ⟨e'.1.symm, e'.2.1.symm, e'.2.2.1.symm, e'.2.2.2.symm⟩
        exact ⟨by rw [← h5, show 32 - i = k + 1 by omega], h1, h2, h3, h4⟩
      obtain ⟨B, hB⟩ : ∃ B, s[i].toNat = B := ⟨_, rfl⟩
      have hB256 : B < 256 := hB ▸ s[i].toNat_lt
      have hsb : IntKind.u64.wrap (s[i].toNat : Int) = (B : Int) := by rw [hB]; exact wrapN _ (by omega)
      obtain ⟨hor, hol⟩ := of_word hF.2.1 hF.2.2.1 hF.2.2.2.1 hF.2.2.2.2 hk32 hB256 hF.1
      have xw := KP.head.at4.wd (k / 8) (by omega)
      obtain ⟨o, ho⟩ : ∃ o, wd a b c d (k / 8) + B * 2 ^ (8 * (k % 8)) = o := ⟨_, rfl⟩
      rw [ho] at hor hol
      have hst := of_step (a := a) (b := b) (c := c) (d := d) hk32 ho.symm
      have HST : Hid (Four (.agg #[.int .u64 ((if k / 8 = 0 then o else a : Nat) : Int), .int .u64 ((if k / 8 = 1 then o else b : Nat) : Int), .int .u64 ((if k / 8 = 2 then o else c : Nat) : Int), .int .u64 ((if k / 8 = 3 then o else d : Nat) : Int)]) (beV (s.data.extract 0 (i + 1)).toList * 256 ^ (32 - (i + 1)))) := by
        refine Four.mk ?_ ?_ ?_ ?_ ?_
        · split; exact hol; exact hF.2.1
        · split; exact hol; exact hF.2.2.1
        · split; exact hol; exact hF.2.2.2.1
        · split; exact hol; exact hF.2.2.2.2
        · rw [hst, hF.1, beV_next s i hi32, hB, show 32 - (i + 1) = k by omega, Nat.add_mul, Nat.pow_succ, Nat.mul_assoc, Nat.mul_comm (256 ^ k) 256]
      obtain ⟨y, hy⟩ : ∃ y, B * 2 ^ (8 * (k % 8)) = y := ⟨_, rfl⟩
      have hyl : y < 18446744073709551616 := by omega
      rw [hy] at hor
      obtain ⟨v, hv⟩ : ∃ v, wd a b c d (k / 8) = v := ⟨_, rfl⟩
      rw [hv] at hor xw
      obtain ⟨q, hq⟩ : ∃ q, k / 8 = q := ⟨_, rfl⟩
      obtain ⟨r, hr⟩ : ∃ r, k % 8 = r := ⟨_, rfl⟩
      obtain ⟨t, ht⟩ : ∃ t, 8 * r = t := ⟨_, rfl⟩
      have hq4 : q < 4 := by omega
      have PT := fun (v : Value) => KP.tail.set (j := k1) (i := q) Q1.out (by simp only [List.mem_cons, List.not_mem_nil, or_false]; rintro x rfl; exact n10) v
      rw [hq] at xw HST
      have hsh : IntKind.u64.wrap ((B : Int) * 2 ^ t) = (y : Int) := by
        rw [← ht, ← hr, ← hy, Int.natCast_mul, Int.natCast_pow]
        have := wrapN (B * 2 ^ (8 * (k % 8))) (by omega)
        rw [Int.natCast_mul, Int.natCast_pow] at this
        exact this
      have i1 : (31 : Int) - (i : Int) = (k : Int) := by omega
      have i2 : (k : Int).tdiv 8 = (q : Int) := by rw [Int.tdiv_eq_ediv_of_nonneg (by omega)]; omega
      have i3 : (k : Int).tmod 8 = (r : Int) := by rw [Int.tmod_eq_emod_of_nonneg (by omega)]; omega
      have i4 : (q : Int) < 4 := by omega
      have i5 : IntKind.i64.wrap (q : Int) = (q : Int) := wrap_i _ (by omega)
      have i6 : IntKind.i64.wrap (r : Int) = (r : Int) := wrap_i _ (by omega)
      have i7 : (8 : Int) * (r : Int) = (t : Int) := by omega
      have i8 : IntKind.i64.wrap (t : Int) = (t : Int) := wrap_i _ (by omega)
      have i9 : t < 64 := by omega
      have i10 : (t : Int) < 64 := by omega
      have hlt' : (i : Int) < 32 := by omega
      have T1 := KP.head.at4.setq q o hq4
      have z1 := KP.head.lt
      have xf := KP.head.f
      have HSB : Hid (s[i].toNat = B) := hB
      have H4 : Hid (q < 4) := hq4
      clear hy hv hq hr ht ho hst hF hB HF
      go_wp2
      go_region
      go_wp2
      go_roundg (gk - 1)
      case measure => omega
      case rel =>
        refine ⟨i + 1, _, _, _, _, by omega, rfl, ?_, HST⟩
        exact ((PT _).cons T1.blk).drew
    · have hi32 : i = 32 := by omega
      subst hi32
      have hse : s.data.extract 0 32 = s.data := by
        have h2 : s.data.size = 32 := hs
        rw [← h2]
        exact Array.extract_size
      have h1 := HF.out
      rw [Nat.sub_self, Nat.pow_zero, Nat.mul_one, hse] at h1
      have HFE : Hid (Four _ _) := h1
      clear h1 hse
      obtain ⟨nc0, nc1, nc2, nc3, nf⟩ := KP.head.at4
      obtain ⟨rc0, rc1, rc2, rc3, rf⟩ := KP.tail.head.at4
      have z1 := KP.head.lt
      have z0 := KP.tail.head.lt
      clear HF
      go_wp2
      have RF := KP.tail.head.at4.self4 a b c d
      unfold set4 at RF
      refine bodyPost_ret (v := ?v) ?hr rfl ?hR
      case hr => simp [results, Try.results53, go_sem, RF.c0, RF.c1, RF.c2, RF.c3]; rfl
      exact ⟨_, rfl, below_set4 KP.bl (Nat.le_refl _) _ _ _ _, HFE.out⟩
end Go.Proofs.Ytbimbalfdmffaab
namespace Go.Proofs.Ytbimbalfdmffaab
open Go.RowKit Go.Sort Go.Deep

/-- A prime of the reference, two numbers and a result, each in a block of its own. -/
theorem keptF3 (w : World) (p0 p1 p2 p3 c0 c1 c2 c3 a b c d p q r s : Nat) :
    Kept w w.heap.size [⟨w.heap.size, 0, p0, p1, p2, p3⟩, ⟨w.heap.size, 4, c0, c1, c2, c3⟩, ⟨w.heap.size + 1, 0, a, b, c, d⟩, ⟨w.heap.size + 1 + 1, 0, p, q, r, s⟩, ⟨w.heap.size + 1 + 1 + 1, 0, 0, 0, 0, 0⟩]
      ((((w.alloc (.cells #[.int .u64 (p0 : Int), .int .u64 (p1 : Int), .int .u64 (p2 : Int), .int .u64 (p3 : Int), .int .u64 (c0 : Int), .int .u64 (c1 : Int), .int .u64 (c2 : Int), .int .u64 (c3 : Int)] 35)).alloc (.cells #[.int .u64 (a : Int), .int .u64 (b : Int), .int .u64 (c : Int), .int .u64 (d : Int)] 33)).alloc (.cells #[.int .u64 (p : Int), .int .u64 (q : Int), .int .u64 (r : Int), .int .u64 (s : Int)] 33)).alloc (.cells #[.int .u64 0, .int .u64 0, .int .u64 0, .int .u64 0] 33)) := by
  have F := (((At8.made w 35 p0 p1 p2 p3 c0 c1 c2 c3 rfl).alloc (.cells #[.int .u64 (a : Int), .int .u64 (b : Int), .int .u64 (c : Int), .int .u64 (d : Int)] 33)).alloc (.cells #[.int .u64 (p : Int), .int .u64 (q : Int), .int .u64 (r : Int), .int .u64 (s : Int)] 33)).alloc (.cells #[.int .u64 0, .int .u64 0, .int .u64 0, .int .u64 0] 33)
  refine (((((Kept.mk1 (below4 w _ _ _ _) (below4 w _ _ _ _).size).cons ?_).cons ?_).cons ?_).cons ?_).cons ?_
  · exact (At4.made _ 33 0 0 0 0 (by simp)).blk
  · exact ((At4.made _ 33 p q r s (by simp)).alloc _).blk
  · exact (((At4.made _ 33 a b c d (by simp)).alloc _).alloc _).blk
  · exact ⟨F.c4, F.c5, F.c6, F.c7, F.fz⟩
  · exact ⟨F.c0, F.c1, F.c2, F.c3, F.fz⟩
theorem keptF2 (w : World) (p0 p1 p2 p3 c0 c1 c2 c3 a b c d : Nat) :
    Kept w w.heap.size [⟨w.heap.size, 0, p0, p1, p2, p3⟩, ⟨w.heap.size, 4, c0, c1, c2, c3⟩, ⟨w.heap.size + 1, 0, a, b, c, d⟩, ⟨w.heap.size + 1 + 1, 0, 0, 0, 0, 0⟩]
      (((w.alloc (.cells #[.int .u64 (p0 : Int), .int .u64 (p1 : Int), .int .u64 (p2 : Int), .int .u64 (p3 : Int), .int .u64 (c0 : Int), .int .u64 (c1 : Int), .int .u64 (c2 : Int), .int .u64 (c3 : Int)] 35)).alloc (.cells #[.int .u64 (a : Int), .int .u64 (b : Int), .int .u64 (c : Int), .int .u64 (d : Int)] 33)).alloc (.cells #[.int .u64 0, .int .u64 0, .int .u64 0, .int .u64 0] 33)) := by
  have F := ((At8.made w 35 p0 p1 p2 p3 c0 c1 c2 c3 rfl).alloc (.cells #[.int .u64 (a : Int), .int .u64 (b : Int), .int .u64 (c : Int), .int .u64 (d : Int)] 33)).alloc (.cells #[.int .u64 0, .int .u64 0, .int .u64 0, .int .u64 0] 33)
  refine ((((Kept.mk1 (below3 w _ _ _) (below3 w _ _ _).size).cons ?_).cons ?_).cons ?_).cons ?_
  · exact (At4.made _ 33 0 0 0 0 (by simp)).blk
  · exact ((At4.made _ 33 a b c d (by simp)).alloc _).blk
  · exact ⟨F.c4, F.c5, F.c6, F.c7, F.fz⟩
  · exact ⟨F.c0, F.c1, F.c2, F.c3, F.fz⟩
theorem keptF1 (w : World) (p0 p1 p2 p3 c0 c1 c2 c3 : Nat) :
    Kept w w.heap.size [⟨w.heap.size, 0, p0, p1, p2, p3⟩, ⟨w.heap.size, 4, c0, c1, c2, c3⟩, ⟨w.heap.size + 1, 0, 0, 0, 0, 0⟩] ((w.alloc (.cells #[.int .u64 (p0 : Int), .int .u64 (p1 : Int), .int .u64 (p2 : Int), .int .u64 (p3 : Int), .int .u64 (c0 : Int), .int .u64 (c1 : Int), .int .u64 (c2 : Int), .int .u64 (c3 : Int)] 35)).alloc (.cells #[.int .u64 0, .int .u64 0, .int .u64 0, .int .u64 0] 33)) := by
  have F := (At8.made w 35 p0 p1 p2 p3 c0 c1 c2 c3 rfl).alloc (.cells #[.int .u64 0, .int .u64 0, .int .u64 0, .int .u64 0] 33)
  refine (((Kept.mk1 (below2 w _ _) (below2 w _ _).size).cons ?_).cons ?_).cons ?_
  · exact (At4.made _ 33 0 0 0 0 (by simp)).blk
  · exact ⟨F.c4, F.c5, F.c6, F.c7, F.fz⟩
  · exact ⟨F.c0, F.c1, F.c2, F.c3, F.fz⟩

set_option maxHeartbeats 2000000 in
set_option maxRecDepth 100000 in
theorem rNumber_any (p0 p1 p2 p3 c0 c1 c2 c3 P : Nat) (x : ByteArray) (hR : RefP p0 p1 p2 p3 c0 c1 c2 c3 P) (w : World) :
    Calls Try.prog 17 #[.agg #[.int .u64 (p0 : Int), .int .u64 (p1 : Int), .int .u64 (p2 : Int), .int .u64 (p3 : Int), .int .u64 (c0 : Int), .int .u64 (c1 : Int), .int .u64 (c2 : Int), .int .u64 (c3 : Int)], .string x] w (Ret fun e w' => Below w.heap.size w w' ∧ ∃ (a b c d : Nat) (ok : Bool), e = .tuple #[.agg #[.int .u64 (a : Int), .int .u64 (b : Int), .int .u64 (c : Int), .int .u64 (d : Int)], .bool ok] ∧ (ok = true → IsNum P x.data ∧ Four (.agg #[.int .u64 (a : Int), .int .u64 (b : Int), .int .u64 (c : Int), .int .u64 (d : Int)]) (beV x.data.toList)) ∧ (ok = false → ¬ IsNum P x.data)) := by
  have HR : Hid (RefP p0 p1 p2 p3 c0 c1 c2 c3 P) := hR
  clear hR
  by_cases hs : x.size = 32
  · have HS : Hid (x.size = 32) := hs
    have hs' : (x.size : Int) = 32 := by omega
    clear hs
    go_enter Try.func17, Try.ntmps17
    go_wp2_with fail
    have KP := keptF1 w p0 p1 p2 p3 c0 c1 c2 c3
    generalize World.alloc _ _ = W0 at KP ⊢
    refine (rOf_any x HS.out _).mono ?_
    rintro e w1 ⟨v, rfl, hb1, hF⟩
    obtain ⟨a, b, c, d, rfl, ha, hb, hc, hd, es⟩ := id hF
    have HF : Hid (Four _ _) := hF
    replace KP := KP.call hb1
    clear hF es hb1 ha hb hc hd
    obtain ⟨pc0, pc1, pc2, pc3, pf⟩ := KP.head.at4
    have z0 := KP.head.lt
    have n0 : w.heap.size ≠ w1.heap.size := Nat.ne_of_lt z0
    go_wp2_with fail
    refine (rBelow_any _ _ _ _ HF.out (Four.mk HR.out.hp0 HR.out.hp1 HR.out.hp2 HR.out.hp3 HR.out.eP) _).mono ?_
    rintro e w2 ⟨v, rfl, hb2, rfl⟩
    have KP2 := ((KP.alloc (.cells #[.int .u64 (a : Int), .int .u64 (b : Int), .int .u64 (c : Int), .int .u64 (d : Int)] 33)).cons (At4.made w1 33 a b c d rfl).blk).call hb2
    clear hb2 pc0 pc1 pc2 pc3 pf z0 n0
    have n4 : w.heap.size + 1 ≠ w1.heap.size := Nat.ne_of_lt KP.tail.tail.head.lt
    clear KP
    generalize w1.heap.size = k5 at KP2 n4 ⊢
    obtain ⟨nc0, nc1, nc2, nc3, nf⟩ := KP2.head.at4
    obtain ⟨rc0, rc1, rc2, rc3, rf⟩ := KP2.tail.tail.tail.head.at4
    have z5 := KP2.head.lt
    have z1 := KP2.tail.tail.tail.head.lt
    obtain ⟨ok, hok⟩ : ∃ ok, decide (beV x.data.toList < P) = ok := ⟨_, rfl⟩
    rw [hok]
    have HO : Hid (decide (beV x.data.toList < P) = ok) := hok
    clear hok
    go_wp2
    have RF := KP2.tail.tail.tail.head.at4.self4 a b c d
    unfold set4 at RF
    refine bodyPost_ret (v := ?v) ?hr rfl ?hR
    case hr => simp [results, Try.results17, go_sem, RF.c0, RF.c1, RF.c2, RF.c3]; rfl
    refine ⟨_, rfl, below_set4 KP2.bl (Nat.le_succ _) _ _ _ _, a, b, c, d, ok, rfl, fun h => ⟨⟨HS.out, ?_⟩, HF.out⟩, fun h hn => ?_⟩
    · exact of_decide_eq_true (HO.out.trans h)
    · have := HO.out
      rw [h] at this
      exact of_decide_eq_false this hn.2
  · have hs' : ¬ (x.size : Int) = 32 := by omega
    go_enter Try.func17, Try.ntmps17
    go_wp2
    refine bodyPost_ret (v := ?v2) ?hr2 rfl ?hR2
    case hr2 => simp [results, Try.results17, go_sem]; rfl
    exact ⟨_, rfl, below2 _ _ _, 0, 0, 0, 0, false, rfl, fun h => Bool.noConfusion h, fun _ h => hs h.1⟩

theorem rSmall_any (n : Nat) (_ : n < 18446744073709551616) (w : World) : Calls Try.prog 66 #[.int .u64 (n : Int)] w (Ret fun e w' => Below w.heap.size w w' ∧ e = .agg #[.int .u64 (n : Int), .int .u64 0, .int .u64 0, .int .u64 0]) := by
  go_enter Try.func66, Try.ntmps66
  go_wp2
  refine bodyPost_ret (v := ?v) ?hr rfl ?hR
  case hr => simp [results, Try.results66, go_sem]; rfl
  exact ⟨_, rfl, below1 _ _, rfl⟩

set_option maxHeartbeats 1000000 in
theorem rBit_any (x : Value) (m i : Nat) (hx : Four x m) (hi : i < 256) (w : World) : Calls Try.prog 65 #[x, .int .i64 (i : Int)] w (Ret fun e w' => Below w.heap.size w w' ∧ ∃ t : Nat, e = .int .u64 (t : Int) ∧ t = m / 2 ^ i % 2) := by
  obtain ⟨a, b, c, d, rfl, ha, hb, hc, hd, em⟩ := id hx
  have xw := (At4.made w 33 a b c d rfl).wd (i / 64) (by omega)
  have hwl : wd a b c d (i / 64) < 18446744073709551616 := wd_lt _ ha hb hc hd
  have hbit : wd a b c d (i / 64) / 2 ^ (i % 64) % 2 = m / 2 ^ i % 2 := by rw [em]; exact wd_bit i hi ha hb hc hd
  have i2 : (i : Int).tdiv 64 = ((i / 64 : Nat) : Int) := by rw [Int.tdiv_eq_ediv_of_nonneg (by omega)]; omega
  have i3 : (i : Int).tmod 64 = ((i % 64 : Nat) : Int) := by rw [Int.tmod_eq_emod_of_nonneg (by omega)]; omega
  have i4 : (i / 64 : Nat) < 4 := by omega
  generalize wd a b c d (i / 64) = v at xw hwl hbit
  have hvl : v / 2 ^ (i % 64) < 18446744073709551616 := Nat.lt_of_le_of_lt (Nat.div_le_self _ _) hwl
  have hand : bits .and .u64 ((v : Int) / 2 ^ (i % 64)) 1 = ((m / 2 ^ i % 2 : Nat) : Int) := by
    have := and_one (v / 2 ^ (i % 64)) hvl
    rw [hbit] at this
    rw [← this, Int.natCast_ediv, Int.natCast_pow]
    rfl
  obtain ⟨t, ht⟩ : ∃ t, m / 2 ^ i % 2 = t := ⟨_, rfl⟩
  rw [ht] at hand
  have HT : Hid (t = m / 2 ^ i % 2) := ht.symm
  clear hx em ha hb hc hd hbit ht hvl
  go_enter Try.func65, Try.ntmps65
  go_upto_region 1 with fail
  have zx : w.heap.size < (w.alloc (.cells #[.int .u64 (a : Int), .int .u64 (b : Int), .int .u64 (c : Int), .int .u64 (d : Int)] 33)).heap.size := by simp
  have BL := below1 w (.cells #[.int .u64 (a : Int), .int .u64 (b : Int), .int .u64 (c : Int), .int .u64 (d : Int)] 33)
  generalize World.alloc _ _ = W0 at xw zx BL ⊢
  go_wp2
  go_ret
  exact ⟨_, rfl, BL, t, rfl, HT.out⟩

theorem or_nat (a b : Nat) (ha : a < 18446744073709551616) (hb : b < 18446744073709551616) : ∃ x : Nat, bits .or .u64 (a : Int) (b : Int) = (x : Int) ∧ (x = 0 ↔ a = 0 ∧ b = 0) ∧ x < 18446744073709551616 :=
  ⟨a ||| b, bits_or_u64_nat a b ha hb, Nat.or_eq_zero_iff, Nat.or_lt_two_pow (n := 64) ha hb⟩

set_option maxHeartbeats 1000000 in
theorem rZero_any (x : Value) (m : Nat) (hx : Four x m) (w : World) : Calls Try.prog 79 #[x] w (Ret fun e w' => Below w.heap.size w w' ∧ e = .bool (decide (m = 0))) := by
  obtain ⟨a, b, c, d, rfl, ha, hb, hc, hd, em⟩ := id hx
  obtain ⟨y, o1, z1, l1⟩ := or_nat a b ha hb
  obtain ⟨z, o2, z2, l2⟩ := or_nat y c l1 hc
  obtain ⟨t, o3, z3, l3⟩ := or_nat z d l2 hd
  have hz : decide (m = 0) = decide (t = 0) := by
    rw [decide_eq_decide, z3, z2, z1, em]
    unfold val
    omega
  rw [hz]
  clear z1 z2 z3 hz em hx
  go_enter Try.func79, Try.ntmps79
  go_wp2
  go_ret
  exact ⟨_, rfl, below1 _ _, by by_cases h : t = 0 <;> simp [h]⟩

theorem neg_val {P m s k : Nat} (hm : m < P) (_ : P < top) (h0 : ¬ m = 0) (hs : s < top) (hk : k ≤ 1) (h : s + m = P + top * k) : s = (P - m) % P := by
  have : k = 0 ∨ k = 1 := by omega
  rw [Nat.mod_eq_of_lt (by omega)]
  rcases this with h' | h' <;> rw [h'] at h <;> omega

set_option maxHeartbeats 2000000 in
set_option maxRecDepth 100000 in
theorem rNeg_any (p0 p1 p2 p3 c0 c1 c2 c3 P : Nat) (x : Value) (m : Nat) (hR : RefP p0 p1 p2 p3 c0 c1 c2 c3 P) (hx : Four x m) (hm : m < P) (w : World) :
    Calls Try.prog 57 #[.agg #[.int .u64 (p0 : Int), .int .u64 (p1 : Int), .int .u64 (p2 : Int), .int .u64 (p3 : Int), .int .u64 (c0 : Int), .int .u64 (c1 : Int), .int .u64 (c2 : Int), .int .u64 (c3 : Int)], x] w (Ret fun e w' => Below w.heap.size w w' ∧ Four e ((P - m) % P)) := by
  have HR : Hid (RefP p0 p1 p2 p3 c0 c1 c2 c3 P) := hR
  have HX : Hid (Four x m) := hx
  have HM : Hid (m < P) := hm
  obtain ⟨a, b, c, d, rfl, ha, hb, hc, hd, em⟩ := id hx
  clear hR hx hm em ha hb hc hd
  go_enter Try.func57, Try.ntmps57
  go_wp2_with fail
  have KP := keptF2 w p0 p1 p2 p3 c0 c1 c2 c3 a b c d
  generalize World.alloc _ _ = W0 at KP ⊢
  generalize h2 : w.heap.size + 1 + 1 = k2 at KP ⊢
  generalize h1 : w.heap.size + 1 = k1 at KP ⊢
  have Q2 : Hid (w.heap.size ≤ k2) := by unfold Hid; omega
  generalize h0 : w.heap.size = k0 at KP Q2 ⊢
  have H0 : Hid (w.heap.size = k0) := h0
  clear h0 h1 h2
  refine (rZero_any _ _ HX.out _).mono ?_
  rintro e w1 ⟨v, rfl, hb1, rfl⟩
  replace KP := KP.call hb1
  clear hb1
  obtain ⟨xc0, xc1, xc2, xc3, xf⟩ := KP.tail.tail.head.at4
  have zx := KP.tail.tail.head.lt
  by_cases hz : m = 0
  · have hd : decide (m = 0) = true := decide_eq_true hz
    rw [hd]
    have HZ : Hid (m = 0) := hz
    clear hd hz
    obtain ⟨rc0, rc1, rc2, rc3, rf⟩ := KP.tail.tail.tail.head.at4
    have zr := KP.tail.tail.tail.head.lt
    go_wp2
    have RF := KP.tail.tail.tail.head.at4.self4 a b c d
    unfold set4 at RF
    refine bodyPost_ret (v := ?v) ?hr rfl ?hR
    case hr => simp [results, Try.results57, go_sem, RF.c0, RF.c1, RF.c2, RF.c3]; rfl
    refine ⟨_, rfl, by rw [H0.out]; exact below_set4 KP.bl Q2.out _ _ _ _, ?_⟩
    have h1 := HX.out
    rw [HZ.out] at h1 ⊢
    rw [Nat.sub_zero, Nat.mod_self]
    exact h1
  · have hd : decide (m = 0) = false := decide_eq_false hz
    rw [hd]
    have HZ : Hid (¬ m = 0) := hz
    clear hd hz
    obtain ⟨fc0, fc1, fc2, fc3, ff⟩ := KP.head.at4
    have zf := KP.head.lt
    go_wp2_with fail
    refine (rless_any _ _ _ _ (Four.mk HR.out.hp0 HR.out.hp1 HR.out.hp2 HR.out.hp3 HR.out.eP) HX.out _).mono ?_
    rintro e w2 ⟨v, rfl, hb2, v2, t, k, rfl, hF, hk, he⟩
    have HF : Hid (Four v2 ((P - m) % P)) := by
      have h1 := neg_val HM.out (by have h3 := HR.out.hP; have h4 := HR.out.hP2; have h5 := HM.out; have h6 : 0 < val c0 c1 c2 c3 ∨ val c0 c1 c2 c3 = 0 := by omega
                                    rcases h6 with h6 | h6
                                    · omega
                                    · have h7 : Four (.agg #[.int .u64 (p0 : Int), .int .u64 (p1 : Int), .int .u64 (p2 : Int), .int .u64 (p3 : Int)]) P := Four.mk HR.out.hp0 HR.out.hp1 HR.out.hp2 HR.out.hp3 HR.out.eP
                                      exact h7.lt) HZ.out hF.lt hk he
      rw [← h1]; exact hF
    obtain ⟨ra, rb, rc, rd, rfl, -⟩ := id hF
    replace KP := KP.call hb2
    clear hb2 xc0 xc1 xc2 xc3 xf zx fc0 fc1 fc2 fc3 ff zf hF he
    obtain ⟨rc0, rc1, rc2, rc3, rf⟩ := KP.tail.tail.tail.head.at4
    have zr := KP.tail.tail.tail.head.lt
    have nr : k2 ≠ w2.heap.size := Nat.ne_of_lt zr
    go_wp2
    have RF := (KP.tail.tail.tail.head.at4.self4 ra rb rc rd).alloc (.cells #[.int .u64 (ra : Int), .int .u64 (rb : Int), .int .u64 (rc : Int), .int .u64 (rd : Int)] 33)
    unfold set4 at RF
    refine bodyPost_ret (v := ?v2) ?hr2 rfl ?hR2
    case hr2 => simp [results, Try.results57, go_sem, RF.c0, RF.c1, RF.c2, RF.c3]; rfl
    refine ⟨_, rfl, ?_, HF.out⟩
    rw [H0.out]
    exact (below_set4 KP.bl Q2.out _ _ _ _).alloc (by simpa [set4] using KP.le) _
end Go.Proofs.Ytbimbalfdmffaab
namespace Go.Proofs.Ytbimbalfdmffaab
open Go.RowKit Go.Sort Go.Deep

theorem rAdd_R {p0 p1 p2 p3 c0 c1 c2 c3 P : Nat} {x y : Value} {m n : Nat} (hR : RefP p0 p1 p2 p3 c0 c1 c2 c3 P) (hx : Four x m) (hy : Four y n) (w : World) :
    Calls Try.prog 18 #[.agg #[.int .u64 (p0 : Int), .int .u64 (p1 : Int), .int .u64 (p2 : Int), .int .u64 (p3 : Int), .int .u64 (c0 : Int), .int .u64 (c1 : Int), .int .u64 (c2 : Int), .int .u64 (c3 : Int)], x, y] w (Ret fun e w' => Below w.heap.size w w' ∧ Four e ((m + n) % P)) :=
  rAdd_any p0 p1 p2 p3 c0 c1 c2 c3 P x y m n hR.hp0 hR.hp1 hR.hp2 hR.hp3 hR.hc0 hR.hc1 hR.hc2 hR.hc3 hR.eP hR.hP hR.hP2 hx hy w
theorem rMul_R {p0 p1 p2 p3 c0 c1 c2 c3 P : Nat} {x y : Value} {m n : Nat} (hR : RefP p0 p1 p2 p3 c0 c1 c2 c3 P) (hx : Four x m) (hy : Four y n) (w : World) :
    Calls Try.prog 20 #[.agg #[.int .u64 (p0 : Int), .int .u64 (p1 : Int), .int .u64 (p2 : Int), .int .u64 (p3 : Int), .int .u64 (c0 : Int), .int .u64 (c1 : Int), .int .u64 (c2 : Int), .int .u64 (c3 : Int)], x, y] w (Ret fun e w' => Below w.heap.size w w' ∧ Four e (m * n % P)) :=
  rMul_any p0 p1 p2 p3 c0 c1 c2 c3 P x y m n hR.hp0 hR.hp1 hR.hp2 hR.hp3 hR.hc0 hR.hc1 hR.hc2 hR.hc3 hR.eP hR.hP hR.hP2 hx hy w
theorem sub_val {P m n : Nat} (hn : n < P) : (m + (P - n) % P) % P = (m + P - n) % P := by
  rw [Nat.add_mod, Nat.mod_mod, ← Nat.add_mod, show m + P - n = m + (P - n) by omega]

set_option maxHeartbeats 4000000 in
set_option maxRecDepth 100000 in
theorem rSub_any (p0 p1 p2 p3 c0 c1 c2 c3 P : Nat) (x y : Value) (m n : Nat) (hR : RefP p0 p1 p2 p3 c0 c1 c2 c3 P) (hx : Four x m) (hy : Four y n) (hn : n < P) (w : World) :
    Calls Try.prog 19 #[.agg #[.int .u64 (p0 : Int), .int .u64 (p1 : Int), .int .u64 (p2 : Int), .int .u64 (p3 : Int), .int .u64 (c0 : Int), .int .u64 (c1 : Int), .int .u64 (c2 : Int), .int .u64 (c3 : Int)], x, y] w (Ret fun e w' => Below w.heap.size w w' ∧ Four e ((m + P - n) % P)) := by
  obtain ⟨a, b, c, d, rfl, ha, hb, hc, hd, em⟩ := id hx
  obtain ⟨p, q, r, s, rfl, hp, hq, hr, hs, en⟩ := id hy
  have HX : Hid (Four _ _) := hx
  have HY : Hid (Four _ _) := hy
  have HR : Hid (RefP p0 p1 p2 p3 c0 c1 c2 c3 P) := hR
  have HN : Hid (n < P) := hn
  clear em en hx hy ha hb hc hd hp hq hr hs hR hn
  go_enter Try.func19, Try.ntmps19
  go_wp2_with fail
  have FR := ((((At8.made w 35 p0 p1 p2 p3 c0 c1 c2 c3 rfl).alloc (.cells #[.int .u64 (a : Int), .int .u64 (b : Int), .int .u64 (c : Int), .int .u64 (d : Int)] 33)).alloc (.cells #[.int .u64 (p : Int), .int .u64 (q : Int), .int .u64 (r : Int), .int .u64 (s : Int)] 33)).alloc (.cells #[.int .u64 0, .int .u64 0, .int .u64 0, .int .u64 0] 33))
  have X := (((At4.made (w.alloc (.cells #[.int .u64 (p0 : Int), .int .u64 (p1 : Int), .int .u64 (p2 : Int), .int .u64 (p3 : Int), .int .u64 (c0 : Int), .int .u64 (c1 : Int), .int .u64 (c2 : Int), .int .u64 (c3 : Int)] 35)) 33 a b c d (World.size_alloc _ _)).alloc (.cells #[.int .u64 (p : Int), .int .u64 (q : Int), .int .u64 (r : Int), .int .u64 (s : Int)] 33)).alloc (.cells #[.int .u64 0, .int .u64 0, .int .u64 0, .int .u64 0] 33))
  have Y := ((At4.made ((w.alloc (.cells #[.int .u64 (p0 : Int), .int .u64 (p1 : Int), .int .u64 (p2 : Int), .int .u64 (p3 : Int), .int .u64 (c0 : Int), .int .u64 (c1 : Int), .int .u64 (c2 : Int), .int .u64 (c3 : Int)] 35)).alloc (.cells #[.int .u64 (a : Int), .int .u64 (b : Int), .int .u64 (c : Int), .int .u64 (d : Int)] 33)) 33 p q r s (k := w.heap.size + 1 + 1) (by simp)).alloc (.cells #[.int .u64 0, .int .u64 0, .int .u64 0, .int .u64 0] 33))
  have T3 := At4.made (((w.alloc (.cells #[.int .u64 (p0 : Int), .int .u64 (p1 : Int), .int .u64 (p2 : Int), .int .u64 (p3 : Int), .int .u64 (c0 : Int), .int .u64 (c1 : Int), .int .u64 (c2 : Int), .int .u64 (c3 : Int)] 35)).alloc (.cells #[.int .u64 (a : Int), .int .u64 (b : Int), .int .u64 (c : Int), .int .u64 (d : Int)] 33)).alloc (.cells #[.int .u64 (p : Int), .int .u64 (q : Int), .int .u64 (r : Int), .int .u64 (s : Int)] 33)) 33 0 0 0 0 (k := w.heap.size + 1 + 1 + 1) (by simp)
  have KP := ((((Kept.mk1 (below4 w (.cells #[.int .u64 (p0 : Int), .int .u64 (p1 : Int), .int .u64 (p2 : Int), .int .u64 (p3 : Int), .int .u64 (c0 : Int), .int .u64 (c1 : Int), .int .u64 (c2 : Int), .int .u64 (c3 : Int)] 35) (.cells #[.int .u64 (a : Int), .int .u64 (b : Int), .int .u64 (c : Int), .int .u64 (d : Int)] 33) (.cells #[.int .u64 (p : Int), .int .u64 (q : Int), .int .u64 (r : Int), .int .u64 (s : Int)] 33) (.cells #[.int .u64 0, .int .u64 0, .int .u64 0, .int .u64 0] 33)) (below4 w (.cells #[.int .u64 (p0 : Int), .int .u64 (p1 : Int), .int .u64 (p2 : Int), .int .u64 (p3 : Int), .int .u64 (c0 : Int), .int .u64 (c1 : Int), .int .u64 (c2 : Int), .int .u64 (c3 : Int)] 35) (.cells #[.int .u64 (a : Int), .int .u64 (b : Int), .int .u64 (c : Int), .int .u64 (d : Int)] 33) (.cells #[.int .u64 (p : Int), .int .u64 (q : Int), .int .u64 (r : Int), .int .u64 (s : Int)] 33) (.cells #[.int .u64 0, .int .u64 0, .int .u64 0, .int .u64 0] 33)).size).cons Y.blk).cons X.blk).cons (x := ⟨w.heap.size, 4, c0, c1, c2, c3⟩) ⟨FR.c4, FR.c5, FR.c6, FR.c7, FR.fz⟩).cons (x := ⟨w.heap.size, 0, p0, p1, p2, p3⟩) ⟨FR.c0, FR.c1, FR.c2, FR.c3, FR.fz⟩
  simp only [Int.natCast_zero] at T3
  clear FR X Y
  generalize World.alloc _ _ = W0 at KP T3 ⊢
  generalize h3 : w.heap.size + 1 + 1 + 1 = k3 at T3 ⊢
  generalize h2 : w.heap.size + 1 + 1 = k2 at KP ⊢
  generalize h1 : w.heap.size + 1 = k1 at KP ⊢
  have Q3 : Hid (w.heap.size ≤ k3) := by unfold Hid; omega
  generalize h0 : w.heap.size = k0 at KP Q3 ⊢
  have H0 : Hid (w.heap.size = k0) := h0
  have hl3 : ∀ x ∈ ([⟨k0, 0, p0, p1, p2, p3⟩, ⟨k0, 4, c0, c1, c2, c3⟩, ⟨k1, 0, a, b, c, d⟩, ⟨k2, 0, p, q, r, s⟩] : List Blk), k3 ≠ x.k := by simp only [List.mem_cons, List.not_mem_nil, or_false]; rintro x (rfl | rfl | rfl | rfl) <;> simp only <;> omega
  clear h0 h1 h2 h3
  obtain ⟨tc0, tc1, tc2, tc3, tf⟩ := id T3
  have zt := T3.lt
  go_region_held3 (fun w' => w'.cell? ⟨k0, 0, none⟩ = some (.int .u64 (p0 : Int)) ∧ w'.cell? ⟨k0, 1, none⟩ = some (.int .u64 (p1 : Int)) ∧ w'.cell? ⟨k0, 2, none⟩ = some (.int .u64 (p2 : Int)) ∧ w'.cell? ⟨k0, 3, none⟩ = some (.int .u64 (p3 : Int)) ∧ w'.cell? ⟨k0, 4, none⟩ = some (.int .u64 (c0 : Int)) ∧ w'.cell? ⟨k0, 5, none⟩ = some (.int .u64 (c1 : Int)) ∧ w'.cell? ⟨k0, 6, none⟩ = some (.int .u64 (c2 : Int)) ∧ w'.cell? ⟨k0, 7, none⟩ = some (.int .u64 (c3 : Int)) ∧ w'.cell? ⟨k1, 0, none⟩ = some (.int .u64 (a : Int)) ∧ w'.cell? ⟨k1, 1, none⟩ = some (.int .u64 (b : Int)) ∧ w'.cell? ⟨k1, 2, none⟩ = some (.int .u64 (c : Int)) ∧ w'.cell? ⟨k1, 3, none⟩ = some (.int .u64 (d : Int)) ∧ w'.cell? ⟨k2, 0, none⟩ = some (.int .u64 (p : Int)) ∧ w'.cell? ⟨k2, 1, none⟩ = some (.int .u64 (q : Int)) ∧ w'.cell? ⟨k2, 2, none⟩ = some (.int .u64 (r : Int)) ∧ w'.cell? ⟨k2, 3, none⟩ = some (.int .u64 (s : Int)) ∧ Kept w k0 [⟨k0, 0, p0, p1, p2, p3⟩, ⟨k0, 4, c0, c1, c2, c3⟩, ⟨k1, 0, a, b, c, d⟩, ⟨k2, 0, p, q, r, s⟩] w') (first | (with_reducible exact mulS_of KP) | (with_reducible exact mulS_of KP.drew) | (with_reducible exact mulS_of (KP.set4' Q3.out hl3 _ _ _ _)) | (with_reducible exact mulS_of (KP.set4' Q3.out hl3 _ _ _ _).drew) | fail) (first | (go_at_call 57; refine (rNeg_any p0 p1 p2 p3 c0 c1 c2 c3 P _ _ HR.out HY.out HN.out _).mono ?_; rintro e w1 ⟨v, rfl, hb1, hE1⟩; obtain ⟨x0, x1, x2, x3, rfl, -⟩ := id hE1; have HE1 : Hid (Four _ _) := hE1; clear hE1; have KP1 := KP.drew.call hb1; have T1 := T3.drew.call hb1; clear KP T3 hb1; have KP := KP1; have T3 := T1; clear KP1 T1; obtain ⟨tc0, tc1, tc2, tc3, tf⟩ := id T3; have zt := T3.lt) | (go_at_call 18; refine (rAdd_R HR.out HX.out HE1.out _).mono ?_; rintro e w2 ⟨v, rfl, hb2, hF3⟩; rw [sub_val HN.out] at hF3; obtain ⟨a', b', c', d', rfl, ha', hb', hc', hd', es3⟩ := id hF3; clear es3; have HF3 : Hid (Four _ _) := hF3; clear hF3; have KP1 := KP.call hb2; have T1 := T3.call hb2; clear KP T3 hb2; have KP := KP1; have T3 := T1; clear KP1 T1; obtain ⟨tc0, tc1, tc2, tc3, tf⟩ := id T3; have zt := T3.lt))
  go_wp2
  have RF := T3.self4 a' b' c' d'
  unfold set4 at RF
  refine bodyPost_ret (v := ?v) ?hr rfl ?hR
  case hr => simp [results, Try.results19, go_sem, RF.c0, RF.c1, RF.c2, RF.c3]; rfl
  refine ⟨_, rfl, ?_, HF3.out⟩
  rw [H0.out]
  exact below_set4 KP.bl Q3.out _ _ _ _
end Go.Proofs.Ytbimbalfdmffaab
namespace Go.Proofs.Ytbimbalfdmffaab
open Go.RowKit Go.Sort Go.Deep

set_option maxHeartbeats 4000000 in
set_option maxRecDepth 100000 in
theorem rPow_any (p0 p1 p2 p3 c0 c1 c2 c3 P : Nat) (x y : Value) (m n : Nat) (hR : RefP p0 p1 p2 p3 c0 c1 c2 c3 P) (hx : Four x m) (hy : Four y n) (w : World) :
    Calls Try.prog 60 #[.agg #[.int .u64 (p0 : Int), .int .u64 (p1 : Int), .int .u64 (p2 : Int), .int .u64 (p3 : Int), .int .u64 (c0 : Int), .int .u64 (c1 : Int), .int .u64 (c2 : Int), .int .u64 (c3 : Int)], x, y] w (Ret fun e w' => Below w.heap.size w w' ∧ Four e (m ^ n % P)) := by
  obtain ⟨a, b, c, d, rfl, ha, hb, hc, hd, em⟩ := id hx
  obtain ⟨p, q, r, s, rfl, hp, hq, hr, hs, en⟩ := id hy
  have HX : Hid (Four _ _) := hx
  have HY : Hid (Four _ _) := hy
  have HR : Hid (RefP p0 p1 p2 p3 c0 c1 c2 c3 P) := hR
  clear em en hx hy ha hb hc hd hp hq hr hs hR
  go_enter Try.func60, Try.ntmps60
  go_wp2_with fail
  have KP := keptF3 w p0 p1 p2 p3 c0 c1 c2 c3 a b c d p q r s
  generalize World.alloc _ _ = W0 at KP ⊢
  generalize h3 : w.heap.size + 1 + 1 + 1 = k3 at KP ⊢
  generalize h2 : w.heap.size + 1 + 1 = k2 at KP ⊢
  generalize h1 : w.heap.size + 1 = k1 at KP ⊢
  have Q3 : Hid (w.heap.size ≤ k3) := by unfold Hid; omega
  generalize h0 : w.heap.size = k0 at KP Q3 ⊢
  have H0 : Hid (w.heap.size = k0) := h0
  clear h0 h1 h2 h3
  refine (rSmall_any 1 (by decide) _).mono ?_
  rintro e w1 ⟨v, rfl, hb1, rfl⟩
  replace KP := KP.call hb1
  clear hb1
  go_wp2
  have KN : Kept w k0 (⟨w1.heap.size, 0, 1, 0, 0, 0⟩ :: [⟨k0, 0, p0, p1, p2, p3⟩, ⟨k0, 4, c0, c1, c2, c3⟩, ⟨k1, 0, a, b, c, d⟩, ⟨k2, 0, p, q, r, s⟩, ⟨k3, 0, 0, 0, 0, 0⟩]) _ := (KP.alloc (.cells #[.int .u64 1, .int .u64 0, .int .u64 0, .int .u64 0] 33)).cons (At4.made w1 33 1 0 0 0 rfl).blk
  have Q7 : Hid (k0 ≤ w1.heap.size) := KP.le
  have hlt := KP.lts
  clear KP
  generalize World.alloc _ _ = W1 at KN ⊢
  generalize w1.heap.size = k7 at KN hlt Q7 ⊢
  have hl7 : ∀ x ∈ ([⟨k0, 0, p0, p1, p2, p3⟩, ⟨k0, 4, c0, c1, c2, c3⟩, ⟨k1, 0, a, b, c, d⟩, ⟨k2, 0, p, q, r, s⟩, ⟨k3, 0, 0, 0, 0, 0⟩] : List Blk), k7 ≠ x.k := fun x hx => Nat.ne_of_gt (hlt x hx)
  have n70 : k7 ≠ k0 := hl7 _ (List.mem_cons_self)
  have n71 : k7 ≠ k1 := hl7 ⟨k1, 0, a, b, c, d⟩ (by simp)
  have n72 : k7 ≠ k2 := hl7 ⟨k2, 0, p, q, r, s⟩ (by simp)
  have n73 : k7 ≠ k3 := hl7 ⟨k3, 0, 0, 0, 0, 0⟩ (by simp)
  clear hlt
  go_loopg [8] 256 (fun gk s8 wr => gk ≤ 256 ∧ s8 = .int .i64 ((gk : Int) - 1) ∧ ∃ na nb nc nd : Nat, Kept w k0 (⟨k7, 0, na, nb, nc, nd⟩ :: [⟨k0, 0, p0, p1, p2, p3⟩, ⟨k0, 4, c0, c1, c2, c3⟩, ⟨k1, 0, a, b, c, d⟩, ⟨k2, 0, p, q, r, s⟩, ⟨k3, 0, 0, 0, 0, 0⟩]) wr ∧ Hid (Four (.agg #[.int .u64 (na : Int), .int .u64 (nb : Int), .int .u64 (nc : Int), .int .u64 (nd : Int)]) (m ^ (n / 2 ^ gk) % P)))
  case atStart =>
    refine ⟨Nat.le_refl _, rfl, 1, 0, 0, 0, KN, ?_⟩
    have h1 := HR.out.hP2
    have h2 : 3 < top := by decide
    rw [show n / 2 ^ 256 = 0 from Nat.div_eq_of_lt HY.out.lt, Nat.pow_zero, Nat.mod_eq_of_lt (by omega)]
    exact Four.mk (by decide) (by decide) (by decide) (by decide) rfl
  case round =>
    clear KN
    obtain ⟨hg, rfl, na, nb, nc, nd, KP, HF⟩ := hrel
    obtain ⟨tc0, tc1, tc2, tc3, tf⟩ := KP.head.at4
    have zt := KP.head.lt
    by_cases hz : gk = 0
    · subst hz
      have HF0 := HF.out
      rw [Nat.pow_zero, Nat.div_one] at HF0
      have HFE : Hid (Four _ _) := HF0
      clear HF0 HF
      obtain ⟨rc0, rc1, rc2, rc3, rf⟩ := KP.tail.tail.tail.tail.tail.head.at4
      have zr := KP.tail.tail.tail.tail.tail.head.lt
      go_wp2
      have RF := KP.tail.tail.tail.tail.tail.head.at4.self4 na nb nc nd
      unfold set4 at RF
      refine bodyPost_ret (v := ?v) ?hr rfl ?hR
      case hr => simp [results, Try.results60, go_sem, RF.c0, RF.c1, RF.c2, RF.c3]; rfl
      refine ⟨_, rfl, ?_, HFE.out⟩
      rw [H0.out]
      exact below_set4 KP.bl Q3.out _ _ _ _
    · obtain ⟨i, hi⟩ : ∃ i, gk = i + 1 := ⟨gk - 1, by omega⟩
      have e1 : (gk : Int) - 1 = (i : Int) := by omega
      rw [e1]
      have d1 : (0 : Int) ≤ (i : Int) := by omega
      have hi2 : i < 256 := by omega
      obtain ⟨E, hE⟩ : ∃ E, n / 2 ^ gk = E := ⟨_, rfl⟩
      rw [hE] at HF
      rw [hi] at hE
      have HE : Hid (n / 2 ^ (i + 1) = E) := hE
      have HI : Hid (gk = i + 1) := hi
      clear hE hi e1
      obtain ⟨fc0, fc1, fc2, fc3, ff⟩ := KP.tail.head.at4
      have fb := KP.tail.tail.head
      obtain ⟨fd0, fd1, fd2, fd3, fg⟩ := id fb
      replace fd0 : wr.cell? ⟨k0, 4, none⟩ = some (.int .u64 (c0 : Int)) := fd0
      replace fd1 : wr.cell? ⟨k0, 5, none⟩ = some (.int .u64 (c1 : Int)) := fd1
      replace fd2 : wr.cell? ⟨k0, 6, none⟩ = some (.int .u64 (c2 : Int)) := fd2
      replace fd3 : wr.cell? ⟨k0, 7, none⟩ = some (.int .u64 (c3 : Int)) := fd3
      have zf := KP.tail.head.lt
      go_wp2_with fail
      clear tc0 tc1 tc2 tc3 tf zt fc0 fc1 fc2 fc3 ff fb fd0 fd1 fd2 fd3 fg zf
      refine (rMul_R HR.out HF.out HF.out _).mono ?_
      rintro e w2 ⟨v, rfl, hb2, hF3⟩
      rw [pow_two_mod] at hF3
      obtain ⟨ya, yb, yc, yd, rfl, -⟩ := id hF3
      clear HF
      have HF : Hid (Four _ _) := hF3
      clear hF3
      replace KP := KP.call hb2
      clear hb2
      obtain ⟨tc0, tc1, tc2, tc3, tf⟩ := KP.head.at4
      have zt := KP.head.lt
      obtain ⟨ec0, ec1, ec2, ec3, ef⟩ := KP.tail.tail.tail.tail.head.at4
      have ze := KP.tail.tail.tail.tail.head.lt
      go_wp2_with fail
      clear tc0 tc1 tc2 tc3 tf zt ec0 ec1 ec2 ec3 ef ze
      have KP2 := KP.put Q7.out hl7 ya yb yc yd
      clear KP
      generalize World.setCell _ _ _ = WX at KP2 ⊢
      refine (rBit_any _ _ i HY.out hi2 _).mono ?_
      rintro e w3 ⟨v, rfl, hb3, t, rfl, ht⟩
      have KP := KP2.call hb3
      have HT : Hid (t = n / 2 ^ i % 2) := ht
      have ht2 : t = 0 ∨ t = 1 := by omega
      clear hb3 KP2 ht
      rcases ht2 with rfl | rfl
      · go_wp2
        go_roundg (gk - 1)
        case measure => omega
        case rel =>
          refine ⟨by omega, ?_, ya, yb, yc, yd, KP, ?_⟩
          · have := HI.out
            congr 1
            omega
          · have h1 := HF.out
            unfold Hid
            rw [HI.out, Nat.add_sub_cancel, div_bit n i, HE.out, ← HT.out, Nat.add_zero]
            exact h1
      · obtain ⟨tc0, tc1, tc2, tc3, tf⟩ := KP.head.at4
        have zt := KP.head.lt
        obtain ⟨ac0, ac1, ac2, ac3, af⟩ := KP.tail.tail.tail.head.at4
        have za := KP.tail.tail.tail.head.lt
        obtain ⟨fc0, fc1, fc2, fc3, ff⟩ := KP.tail.head.at4
        have fb := KP.tail.tail.head
        obtain ⟨fd0, fd1, fd2, fd3, fg⟩ := id fb
        replace fd0 : w3.cell? ⟨k0, 4, none⟩ = some (.int .u64 (c0 : Int)) := fd0
        replace fd1 : w3.cell? ⟨k0, 5, none⟩ = some (.int .u64 (c1 : Int)) := fd1
        replace fd2 : w3.cell? ⟨k0, 6, none⟩ = some (.int .u64 (c2 : Int)) := fd2
        replace fd3 : w3.cell? ⟨k0, 7, none⟩ = some (.int .u64 (c3 : Int)) := fd3
        have zf := KP.tail.head.lt
        go_wp2_with fail
        clear tc0 tc1 tc2 tc3 tf zt fc0 fc1 fc2 fc3 ff fb fd0 fd1 fd2 fd3 fg zf ac0 ac1 ac2 ac3 af za
        refine (rMul_R HR.out HF.out HX.out _).mono ?_
        rintro e w4 ⟨v, rfl, hb4, hF3⟩
        rw [pow_step_mod] at hF3
        obtain ⟨ua, ub, uc, ud, rfl, -⟩ := id hF3
        clear HF
        have HF : Hid (Four _ _) := hF3
        clear hF3
        replace KP := KP.call hb4
        clear hb4
        obtain ⟨tc0, tc1, tc2, tc3, tf⟩ := KP.head.at4
        have zt := KP.head.lt
        go_wp2
        go_roundg (gk - 1)
        case measure => omega
        case rel =>
          refine ⟨by omega, ?_, ua, ub, uc, ud, KP.put Q7.out hl7 ua ub uc ud, ?_⟩
          · have := HI.out
            congr 1
            omega
          · have h1 := HF.out
            unfold Hid
            rw [HI.out, Nat.add_sub_cancel, div_bit n i, HE.out, ← HT.out]
            exact h1

set_option maxHeartbeats 2000000 in
set_option maxRecDepth 100000 in
theorem rInv_any (p0 p1 p2 p3 c0 c1 c2 c3 P : Nat) (x : Value) (m : Nat) (hR : RefP p0 p1 p2 p3 c0 c1 c2 c3 P) (hx : Four x m) (w : World) :
    Calls Try.prog 21 #[.agg #[.int .u64 (p0 : Int), .int .u64 (p1 : Int), .int .u64 (p2 : Int), .int .u64 (p3 : Int), .int .u64 (c0 : Int), .int .u64 (c1 : Int), .int .u64 (c2 : Int), .int .u64 (c3 : Int)], x] w (Ret fun e w' => Below w.heap.size w w' ∧ Four e (m ^ (P - 2) % P)) := by
  have HR : Hid (RefP p0 p1 p2 p3 c0 c1 c2 c3 P) := hR
  have HX : Hid (Four x m) := hx
  obtain ⟨a, b, c, d, rfl, ha, hb, hc, hd, em⟩ := id hx
  clear hR hx em ha hb hc hd
  go_enter Try.func21, Try.ntmps21
  go_wp2_with fail
  have KP := keptF2 w p0 p1 p2 p3 c0 c1 c2 c3 a b c d
  generalize World.alloc _ _ = W0 at KP ⊢
  generalize h2 : w.heap.size + 1 + 1 = k2 at KP ⊢
  generalize h1 : w.heap.size + 1 = k1 at KP ⊢
  have Q2 : Hid (w.heap.size ≤ k2) := by unfold Hid; omega
  generalize h0 : w.heap.size = k0 at KP Q2 ⊢
  have H0 : Hid (w.heap.size = k0) := h0
  clear h0 h1 h2
  have hP4 : Four (.agg #[.int .u64 (p0 : Int), .int .u64 (p1 : Int), .int .u64 (p2 : Int), .int .u64 (p3 : Int)]) P := Four.mk HR.out.hp0 HR.out.hp1 HR.out.hp2 HR.out.hp3 HR.out.eP
  refine (rless_any _ _ P 2 hP4 (Four.mk (a := 2) (b := 0) (c := 0) (d := 0) (by decide) (by decide) (by decide) (by decide) rfl) _).mono ?_
  rintro e w1 ⟨v, rfl, hb1, v2, t, k, rfl, hF, hk, he⟩
  have ht : t = P - 2 := by
    have h1 := hF.lt
    have h2 := hP4.lt
    have h3 := HR.out.hP2
    have h4 : 3 < top := by decide
    have : k = 0 ∨ k = 1 := by omega
    rcases this with h | h <;> rw [h] at he <;> omega
  have HE : Hid (Four v2 (P - 2)) := by unfold Hid; rw [← ht]; exact hF
  obtain ⟨ea, eb, ec, ed, rfl, -⟩ := id hF
  replace KP := KP.call hb1
  clear hb1 hF ht he hP4
  obtain ⟨xc0, xc1, xc2, xc3, xf⟩ := KP.tail.tail.head.at4
  have zx := KP.tail.tail.head.lt
  obtain ⟨fc0, fc1, fc2, fc3, ff⟩ := KP.head.at4
  have fb := KP.tail.head
  obtain ⟨fd0, fd1, fd2, fd3, fg⟩ := id fb
  replace fd0 : w1.cell? ⟨k0, 4, none⟩ = some (.int .u64 (c0 : Int)) := fd0
  replace fd1 : w1.cell? ⟨k0, 5, none⟩ = some (.int .u64 (c1 : Int)) := fd1
  replace fd2 : w1.cell? ⟨k0, 6, none⟩ = some (.int .u64 (c2 : Int)) := fd2
  replace fd3 : w1.cell? ⟨k0, 7, none⟩ = some (.int .u64 (c3 : Int)) := fd3
  have zf := KP.head.lt
  have n0 : k0 ≠ w1.heap.size := Nat.ne_of_lt zf
  have n1 : k1 ≠ w1.heap.size := Nat.ne_of_lt zx
  go_wp2_with fail
  clear xc0 xc1 xc2 xc3 xf zx fc0 fc1 fc2 fc3 ff fb fd0 fd1 fd2 fd3 fg zf n0 n1
  refine (rPow_any p0 p1 p2 p3 c0 c1 c2 c3 P _ _ _ _ HR.out HX.out HE.out _).mono ?_
  rintro e w2 ⟨v, rfl, hb2, hF⟩
  replace KP := (KP.alloc _).call hb2
  clear hb2
  obtain ⟨qa, qb, qc, qd, rfl, -⟩ := id hF
  have HF : Hid (Four _ _) := hF
  clear hF
  obtain ⟨rc0, rc1, rc2, rc3, rf⟩ := KP.tail.tail.tail.head.at4
  have zr := KP.tail.tail.tail.head.lt
  go_wp2
  have RF := KP.tail.tail.tail.head.at4.self4 qa qb qc qd
  unfold set4 at RF
  refine bodyPost_ret (v := ?v) ?hr rfl ?hR
  case hr => simp [results, Try.results21, go_sem, RF.c0, RF.c1, RF.c2, RF.c3]; rfl
  refine ⟨_, rfl, ?_, HF.out⟩
  rw [H0.out]
  exact below_set4 KP.bl Q2.out _ _ _ _
end Go.Proofs.Ytbimbalfdmffaab
namespace Go.Proofs.Ytbimbalfdmffaab
open Go.RowKit Go.Sort Go.Deep

/-- A text as bytes of one's own. -/
theorem conv_of (s : ByteArray) (w : World) :
    ∃ cap w', (convert 9 23 (.string s)).run Try.prog w = .ok (.slice (some ⟨w.heap.size, 0, none⟩) s.size cap) w' ∧ s.size ≤ cap ∧ Below w.heap.size w w' ∧ Holds encB w' w.heap.size 0 s.data ∧ w.heap.size < w'.heap.size := by
  have h := Lib.run_convert_string_bytes (P := Try.prog) w 9 23 5 s str9 slice22 int5
  have hcap : s.size ≤ grownCap w s.size 0 5 := by
    unfold grownCap Question.cut
    exact Nat.le_add_right _ _
  have hl : s.data.size = s.size := rfl
  refine ⟨_, _, h, hcap, ?_, ?_, by rw [Lib.bytesWorld_size]; omega⟩
  · refine ⟨?_, ?_, ?_, ?_, fun k hk => Lib.bytesWorld_at_old w 5 s k hk⟩
    · unfold Lib.bytesWorld World.freeze
      rw [if_neg (by decide)]
      rfl
    · unfold Lib.bytesWorld World.freeze
      rw [if_neg (by decide)]
      rfl
    · unfold Lib.bytesWorld World.freeze
      rw [if_neg (by decide)]
      rfl
    · rw [Lib.bytesWorld_size]; omega
  · intro j hj
    have hb := Lib.bytesWorld_at_new w 5 s
    have hsz : (Lib.bytesCells w 5 s).size = grownCap w s.size 0 5 := by
      unfold Lib.bytesCells
      rw [Array.size_append, Array.size_map, Array.size_replicate]
      omega
    have hc : (Lib.bytesCells w 5 s) = (s.data ++ Array.replicate (grownCap w s.size 0 5 - s.size) 0).map encB := by
      unfold Lib.bytesCells
      rw [Array.map_append, Array.map_replicate]
      rfl
    have hj2 : j < (s.data ++ Array.replicate (grownCap w s.size 0 5 - s.size) 0).size := by rw [Array.size_append, Array.size_replicate]; omega
    have hget : (s.data ++ Array.replicate (grownCap w s.size 0 5 - s.size) 0)[j] = s.data[j]! := by
      rw [Array.getElem_append_left hj, getElem!_pos s.data j hj]
    constructor
    · unfold World.cell?
      rw [hb]
      simp only [Nat.zero_add]
      rw [if_neg (by decide), hc, Array.getElem?_map, Array.getElem?_eq_getElem hj2, Option.map_some, hget]
    · unfold World.frozen?
      rw [hb]
      simp only [Nat.zero_add, hsz]
      simp
      omega
end Go.Proofs.Ytbimbalfdmffaab
namespace Go.Proofs.Ytbimbalfdmffaab
open Go.RowKit Go.Sort Go.Deep

theorem Holds.prefix {α : Type} [Inhabited α] {f : α → Value} {w : World} {b o : Nat} {d e : Array α} (h : Holds f w b o d) (hs : e.size ≤ d.size) (he : ∀ j, j < e.size → e[j]! = d[j]!) : Holds f w b o e := by
  intro j hj
  rw [he j hj]
  exact h j (by omega)

theorem lentTo_front (s : ByteArray) (k j : Nat) (hj : j < s.data.size) : (lentTo s k)[j]! = s.data[j]! := by
  induction k with
  | zero => rw [lent_front s j hj, getElem!_pos s.data j hj]
  | succ k ih =>
    show ((lentTo s k).setIfInBounds (s.size + k) (fill (s.size + k)))[j]! = _
    have : s.data.size = s.size := rfl
    rw [getElem!_set_other _ _ _ _ (by omega), ih]

theorem holds_text {w : World} {b : Nat} (s : ByteArray) (h : Holds encB w b 0 (lent s)) : Holds encB w b 0 s.data := by
  have : s.data.size = s.size := rfl
  exact Holds.prefix h (by rw [lent_size]; omega) (fun j hj => (lentTo_front s 160 j hj).symm)


/-- An answer: a number's bytes, or ErrScalar. -/
def Ans (W : World) (ok : Prop) (p : Option Addr) (n c : Nat) (ep : Int) (x : Nat) : Prop := (ok ∧ ep = 0 ∧ IsBytes W 0 (.slice p n c) x) ∨ (¬ ok ∧ ep = 3 ∧ n = 0)
theorem Ans.call {W w1 : World} {ok : Prop} {p : Option Addr} {n c x : Nat} {ep : Int} (h : Ans W ok p n c ep x) (hb : Below W.heap.size W w1) : Ans w1 ok p n c ep x := by
  rcases h with ⟨h1, h2, h3⟩ | h
  · exact Or.inl ⟨h1, h2, h3.call hb⟩
  · exact Or.inr h
theorem ans_two {w w' : World} {P x : Nat} {s t : Bs} {e : Value} (h : TwoR w P s t x e w') : ∃ (p : Option Addr) (n c : Nat) (ep : Int), e = .tuple #[.slice p n c, .int .i64 ep] ∧ Ans w' (IsNum P s ∧ IsNum P t) p n c ep x := by
  rcases h with ⟨h1, h2, v, rfl, h3⟩ | ⟨h1, rfl⟩
  · obtain ⟨g, a, b, c, d, rfl, h4⟩ := h3
    exact ⟨_, _, _, 0, rfl, Or.inl ⟨⟨h1, h2⟩, rfl, ⟨g, a, b, c, d, rfl, Nat.zero_le _, h4.2⟩⟩⟩
  · exact ⟨none, 0, 0, 3, rfl, Or.inr ⟨h1, rfl, rfl⟩⟩
theorem ans_one {w w' : World} {P x : Nat} {s : Bs} {e : Value} (h : OneR w P s x e w') : ∃ (p : Option Addr) (n c : Nat) (ep : Int), e = .tuple #[.slice p n c, .int .i64 ep] ∧ Ans w' (IsNum P s) p n c ep x := by
  rcases h with ⟨h1, v, rfl, h3⟩ | ⟨h1, rfl⟩
  · obtain ⟨g, a, b, c, d, rfl, h4⟩ := h3
    exact ⟨_, _, _, 0, rfl, Or.inl ⟨h1, rfl, ⟨g, a, b, c, d, rfl, Nat.zero_le _, h4.2⟩⟩⟩
  · exact ⟨none, 0, 0, 3, rfl, Or.inr ⟨h1, rfl, rfl⟩⟩

set_option maxHeartbeats 1000000 in
theorem told_err (p : Option Addr) (n c : Nat) (ep : Int) (x : Value) (y : Nat) (hx : Four x y) (hn : n = 0) (h0 : ¬ ep = 0) (w : World) :
    Calls Try.prog 22 #[.slice p n c, .int .i64 ep, .int .i64 ep, x] w (Ret fun e w' => Below w.heap.size w w' ∧ e = .bool true) := by
  subst hn
  obtain ⟨a, b, c', d, rfl, -⟩ := hx
  go_enter Try.func22, Try.ntmps22
  go_wp2
  go_ret
  exact ⟨_, rfl, below1 _ _, by simp⟩

theorem told_yes {w : World} {ok : Prop} {p : Option Addr} {n c y : Nat} {ep : Int} {x : Value} (h : Ans w ok p n c ep y) (ho : ok) (hx : Four x y) :
    Calls Try.prog 22 #[.slice p n c, .int .i64 ep, .int .i64 0, x] w (Ret fun e w' => Below w.heap.size w w' ∧ e = .bool true) := by
  rcases h with ⟨-, rfl, h3⟩ | ⟨h1, -⟩
  · exact told_ok _ _ _ 0 w h3 hx
  · exact absurd ho h1
theorem told_no {w : World} {ok : Prop} {p : Option Addr} {n c y z : Nat} {ep : Int} {x : Value} (h : Ans w ok p n c ep y) (ho : ¬ ok) (hx : Four x z) :
    Calls Try.prog 22 #[.slice p n c, .int .i64 ep, .int .i64 3, x] w (Ret fun e w' => Below w.heap.size w w' ∧ e = .bool true) := by
  rcases h with ⟨h1, -⟩ | ⟨-, rfl, h3⟩
  · exact absurd h1 ho
  · exact told_err _ _ _ 3 x z hx h3 (by decide) w

/-- What a law of two texts keeps: the texts, lent. -/
structure Ctx (w0 W : World) (ks kt : Nat) (s t : ByteArray) : Prop where
  bl : Below w0.heap.size w0 W
  ls : Holds encB W ks 0 (lent s)
  lt : Holds encB W kt 0 (lent t)
theorem Ctx.call {w0 W w1 : World} {ks kt : Nat} {s t : ByteArray} (h : Ctx w0 W ks kt s t) (hb : Below W.heap.size W w1) : Ctx w0 w1 ks kt s t :=
  ⟨h.bl.trans (hb.mono h.bl.size), Holds.below h.ls hb (Holds.lt h.ls (by rw [lent_size]; omega)), Holds.below h.lt hb (Holds.lt h.lt (by rw [lent_size]; omega))⟩
theorem lent_arg {W : World} {k : Nat} {s : ByteArray} (h : Holds encB W k 0 (lent s)) (_ : s.size ≤ 16384) : Arg W (.slice (some ⟨k, 0, none⟩) s.size (s.size + 160)) s.data :=
  ⟨_, _, _, rfl, rfl, fun h1 => ⟨k, 0, rfl, by omega, Holds.lt h (by rw [lent_size]; omega), holds_text s h⟩⟩

theorem Kept.sub {w W : World} {k0 : Nat} {l l' : List Blk} (h : Kept w k0 l W) (hs : ∀ x ∈ l', x ∈ l) : Kept w k0 l' W := ⟨h.bl, h.le, fun x hx => h.at' x (hs x hx)⟩
theorem Kept.puts {w W : World} {k0 j a b c d : Nat} {l l' : List Blk} (h : Kept w k0 l W) (hm : (⟨j, 0, a, b, c, d⟩ : Blk) ∈ l) (hj : k0 ≤ j) (hl : ∀ x ∈ l', x ∈ l ∧ j ≠ x.k) (x y z t : Nat) :
    Kept w k0 (⟨j, 0, x, y, z, t⟩ :: l') ((((W.setCell ⟨j, 0, none⟩ (.int .u64 (x : Int))).setCell ⟨j, 1, none⟩ (.int .u64 (y : Int))).setCell ⟨j, 2, none⟩ (.int .u64 (z : Int))).setCell ⟨j, 3, none⟩ (.int .u64 (t : Int))) :=
  ((h.sub fun x hx => (hl x hx).1).cons (h.at' _ hm)).put hj (fun x hx => (hl x hx).2) x y z t
theorem keptZ4 {w0 W : World} (h : Below w0.heap.size w0 W) :
    Kept w0 w0.heap.size [⟨W.heap.size, 0, 0, 0, 0, 0⟩, ⟨W.heap.size + 1, 0, 0, 0, 0, 0⟩, ⟨W.heap.size + 1 + 1, 0, 0, 0, 0, 0⟩, ⟨W.heap.size + 1 + 1 + 1, 0, 0, 0, 0, 0⟩] ((((W.alloc (.cells #[.int .u64 0, .int .u64 0, .int .u64 0, .int .u64 0] 33)).alloc (.cells #[.int .u64 0, .int .u64 0, .int .u64 0, .int .u64 0] 33)).alloc (.cells #[.int .u64 0, .int .u64 0, .int .u64 0, .int .u64 0] 33)).alloc (.cells #[.int .u64 0, .int .u64 0, .int .u64 0, .int .u64 0] 33)) := by
  have K := kept4 W 33 33 33 33 0 0 0 0 0 0 0 0 0 0 0 0 0 0 0 0
  exact ⟨h.trans (K.bl.mono h.size), Nat.le_trans h.size K.le, K.at'⟩
end Go.Proofs.Ytbimbalfdmffaab
namespace Go.Proofs.Ytbimbalfdmffaab.NT

def IsP (n : Nat) : Prop := 2 ≤ n ∧ ∀ m, m ∣ n → m = 1 ∨ m = n

theorem IsP.cop {p k : Nat} (h : IsP p) (h0 : 0 < k) (hk : k < p) : Nat.Coprime p k := by
  unfold Nat.Coprime
  rcases h.2 _ (Nat.gcd_dvd_left p k) with e | e
  · exact e
  · have := Nat.le_of_dvd h0 (Nat.gcd_dvd_right p k)
    omega

theorem IsP.cop_of {p k : Nat} (h : IsP p) (hk : ¬ p ∣ k) : Nat.Coprime p k := by
  unfold Nat.Coprime
  rcases h.2 _ (Nat.gcd_dvd_left p k) with e | e
  · exact e
  · exact absurd (e ▸ Nat.gcd_dvd_right p k) hk

theorem IsP.euclid {p a b : Nat} (h : IsP p) (hd : p ∣ a * b) : p ∣ a ∨ p ∣ b := by
  by_cases ha : p ∣ a
  · exact Or.inl ha
  · exact Or.inr ((h.cop_of ha).dvd_of_dvd_mul_left hd)

/-! the binomials -/
def ch : Nat → Nat → Nat
  | _, 0 => 1
  | 0, _ + 1 => 0
  | n + 1, k + 1 => ch n k + ch n (k + 1)

theorem ch_zero (n : Nat) : ch n 0 = 1 := by cases n <;> rfl

theorem ch_above : ∀ (n k : Nat), n < k → ch n k = 0
  | 0, k + 1, _ => rfl
  | n + 1, k + 1, h => by
    rw [ch, ch_above n k (by omega), ch_above n (k + 1) (by omega)]

theorem ch_self : ∀ (n : Nat), ch n n = 1
  | 0 => rfl
  | n + 1 => by rw [ch, ch_self n, ch_above n (n + 1) (by omega)]

theorem ch_step : ∀ (n k : Nat), (k + 1) * ch (n + 1) (k + 1) = (n + 1) * ch n k
  | 0, 0 => rfl
  | 0, k + 1 => by simp [ch]
  | n + 1, 0 => by
    have h := ch_step n 0
    have e : ch (n + 1 + 1) (0 + 1) = ch (n + 1) 0 + ch (n + 1) (0 + 1) := rfl
    rw [ch_zero] at h
    rw [e, ch_zero]
    omega
  | n + 1, k + 1 => by
    have h1 := ch_step n k
    have h2 := ch_step n (k + 1)
    have e : ch (n + 1 + 1) (k + 1 + 1) = ch (n + 1) (k + 1) + ch (n + 1) (k + 1 + 1) := rfl
    have e3 : ch (n + 1) (k + 1) = ch n k + ch n (k + 1) := rfl
    rw [e, Nat.mul_add, h2]
    have : (k + 1 + 1) * ch (n + 1) (k + 1) = (n + 1) * ch n k + ch (n + 1) (k + 1) := by
      rw [← h1, Nat.add_mul (k + 1) 1, Nat.one_mul]
    rw [this, e3, Nat.add_mul (n + 1) 1, Nat.one_mul, Nat.mul_add]
    omega

def sumTo : Nat → (Nat → Nat) → Nat
  | 0, _ => 0
  | n + 1, f => sumTo n f + f n

theorem sumTo_congr (f g : Nat → Nat) : ∀ n, (∀ k, k < n → f k = g k) → sumTo n f = sumTo n g
  | 0, _ => rfl
  | n + 1, h => by
    rw [sumTo, sumTo, sumTo_congr f g n (fun k hk => h k (by omega)), h n (by omega)]

theorem sumTo_add (f g : Nat → Nat) : ∀ n, sumTo n (fun k => f k + g k) = sumTo n f + sumTo n g
  | 0 => rfl
  | n + 1 => by simp only [sumTo]; rw [sumTo_add f g n]; omega

theorem sumTo_mul (a : Nat) (f : Nat → Nat) : ∀ n, sumTo n (fun k => a * f k) = a * sumTo n f
  | 0 => rfl
  | n + 1 => by simp only [sumTo]; rw [sumTo_mul a f n, Nat.mul_add]

theorem sumTo_front (f : Nat → Nat) : ∀ n, sumTo (n + 1) f = f 0 + sumTo n (fun k => f (k + 1))
  | 0 => by simp [sumTo]
  | n + 1 => by rw [sumTo, sumTo_front f n]; simp only [sumTo]; omega

theorem sumTo_dvd (p : Nat) (f : Nat → Nat) : ∀ n, (∀ k, k < n → p ∣ f k) → p ∣ sumTo n f
  | 0, _ => Nat.dvd_zero p
  | n + 1, h => Nat.dvd_add (sumTo_dvd p f n (fun k hk => h k (by omega))) (h n (by omega))

theorem binom (a : Nat) : ∀ n, (a + 1) ^ n = sumTo (n + 1) (fun k => ch n k * a ^ k)
  | 0 => by simp [sumTo, ch]
  | n + 1 => by
    rw [Nat.pow_succ, binom a n, Nat.mul_add, Nat.mul_one]
    rw [sumTo_front (fun k => ch (n + 1) k * a ^ k) (n + 1)]
    have e : sumTo (n + 1) (fun k => ch (n + 1) (k + 1) * a ^ (k + 1))
        = sumTo (n + 1) (fun k => a * (ch n k * a ^ k)) + sumTo (n + 1) (fun k => ch n (k + 1) * a ^ (k + 1)) := by
      rw [← sumTo_add]
      refine sumTo_congr _ _ _ ?_
      intro k _
      show (ch n k + ch n (k + 1)) * a ^ (k + 1) = _
      rw [Nat.add_mul, Nat.pow_succ]
      have : ch n k * (a ^ k * a) = a * (ch n k * a ^ k) := by
        rw [Nat.mul_comm a, Nat.mul_assoc]
      rw [this]
    rw [e, sumTo_mul]
    have e2 : sumTo (n + 1) (fun k => ch n k * a ^ k)
        = ch n 0 * a ^ 0 + sumTo n (fun k => ch n (k + 1) * a ^ (k + 1)) := sumTo_front (fun k => ch n k * a ^ k) n
    have e3 : sumTo (n + 1) (fun k => ch n (k + 1) * a ^ (k + 1)) = sumTo n (fun k => ch n (k + 1) * a ^ (k + 1)) := by
      rw [sumTo, ch_above n (n + 1) (by omega), Nat.zero_mul, Nat.add_zero]
    have e4 : ch (n + 1) 0 * a ^ 0 = ch n 0 * a ^ 0 := by rw [ch_zero, ch_zero]
    rw [e3, e4, Nat.mul_comm _ a]
    omega

theorem IsP.ch_dvd {p k : Nat} (h : IsP p) (hk : k + 1 < p) : p ∣ ch p (k + 1) := by
  obtain ⟨n, rfl⟩ : ∃ n, p = n + 1 := ⟨p - 1, by have := h.1; omega⟩
  have e := ch_step n k
  have hd : (n + 1) ∣ (k + 1) * ch (n + 1) (k + 1) := e ▸ Nat.dvd_mul_right _ _
  exact (h.cop (by omega) hk).dvd_of_dvd_mul_left hd

theorem IsP.frob {p : Nat} (h : IsP p) (a : Nat) : (a + 1) ^ p % p = (a ^ p + 1) % p := by
  obtain ⟨n, rfl⟩ : ∃ n, p = n + 1 := ⟨p - 1, by have := h.1; omega⟩
  rw [binom, sumTo, sumTo_front, ch_self, ch_zero]
  obtain ⟨c, hc⟩ : (n + 1) ∣ sumTo n (fun k => ch (n + 1) (k + 1) * a ^ (k + 1)) :=
    sumTo_dvd _ _ _ (fun k hk => Nat.dvd_mul_right_of_dvd (h.ch_dvd (by omega)) _)
  rw [hc]
  have : 1 * a ^ 0 + (n + 1) * c + 1 * a ^ (n + 1) = (a ^ (n + 1) + 1) + (n + 1) * c := by
    rw [Nat.pow_zero]; omega
  rw [this, Nat.add_mul_mod_self_left]

theorem IsP.fermat {p : Nat} (h : IsP p) : ∀ a, a ^ p % p = a % p
  | 0 => by
    rw [Nat.zero_pow (by have := h.1; omega)]
  | a + 1 => by
    rw [h.frob, Nat.add_mod, h.fermat a, ← Nat.add_mod]

theorem IsP.cancel {p a x y : Nat} (h : IsP p) (ha : ¬ p ∣ a) (e : a * x % p = a * y % p) : x % p = y % p := by
  have key : ∀ x y, y ≤ x → a * x % p = a * y % p → x % p = y % p := by
    intro x y hle e
    have h1 : p ∣ a * x - a * y := Nat.dvd_of_mod_eq_zero (Nat.sub_mod_eq_zero_of_mod_eq e)
    rw [← Nat.mul_sub] at h1
    obtain ⟨c, hc⟩ := (h.cop_of ha).dvd_of_dvd_mul_left h1
    have : x = y + p * c := by omega
    rw [this, Nat.add_mul_mod_self_left]
  rcases Nat.le_total y x with hle | hle
  · exact key x y hle e
  · exact (key y x hle e.symm).symm

theorem IsP.fermat1 {p : Nat} (h : IsP p) (a : Nat) (ha : ¬ p ∣ a) : a ^ (p - 1) % p = 1 := by
  obtain ⟨n, rfl⟩ : ∃ n, p = n + 1 := ⟨p - 1, by have := h.1; omega⟩
  have e := h.fermat a
  rw [Nat.pow_succ, Nat.mul_comm] at e
  have := h.cancel ha (x := a ^ n) (y := 1) (by rw [e, Nat.mul_one])
  rw [Nat.add_sub_cancel, this, Nat.mod_eq_of_lt h.1]

/-! powers that are 1 -/
theorem pow_gcd (b r : Nat) (hr : 1 < r) (x y : Nat) : b ^ x % r = 1 → b ^ y % r = 1 → b ^ (Nat.gcd x y) % r = 1 := by
  induction x, y using Nat.gcd.induction with
  | H0 n => intro _ h; rw [Nat.gcd_zero_left]; exact h
  | H1 m n hm ih =>
    intro h1 h2
    rw [Nat.gcd_rec]
    refine ih ?_ h1
    have e : b ^ n = (b ^ m) ^ (n / m) * b ^ (n % m) := by
      rw [← Nat.pow_mul, ← Nat.pow_add, Nat.div_add_mod]
    rw [e, Nat.mul_mod, Nat.pow_mod, h1, Nat.one_pow, Nat.mod_eq_of_lt hr, Nat.one_mul, Nat.mod_mod] at h2
    exact h2

theorem exists_prime : ∀ n, 2 ≤ n → ∃ r, IsP r ∧ r ∣ n ∧ (IsP n ∨ r * r ≤ n) := by
  intro n
  induction n using Nat.strongRecOn with
  | _ n ih =>
    intro hn
    by_cases hp : IsP n
    · exact ⟨n, hp, Nat.dvd_refl n, Or.inl hp⟩
    · have : ∃ m, m ∣ n ∧ m ≠ 1 ∧ m ≠ n := by
        refine Classical.byContradiction fun hc => hp ⟨hn, fun m hm => ?_⟩
        refine Classical.byContradiction fun hc2 => hc ⟨m, hm, fun e => hc2 (Or.inl e), fun e => hc2 (Or.inr e)⟩
      obtain ⟨m, ⟨k, hk⟩, h1, h2⟩ := this
      have hm0 : m ≠ 0 := by intro e; rw [e, Nat.zero_mul] at hk; omega
      have hk0 : k ≠ 0 := by intro e; rw [e, Nat.mul_zero] at hk; omega
      have hk1 : k ≠ 1 := by intro e; rw [e, Nat.mul_one] at hk; omega
      have hmn : m < n := by
        have := Nat.le_of_dvd (by omega) (⟨k, hk⟩ : m ∣ n); omega
      have hkn : k < n := by
        have := Nat.mul_le_mul_right k (show 2 ≤ m by omega); omega
      rcases Nat.le_total m k with hle | hle
      · obtain ⟨r, hr, hrd, _⟩ := ih m hmn (by omega)
        have hrm := Nat.le_of_dvd (by omega) hrd
        refine ⟨r, hr, Nat.dvd_trans hrd ⟨k, hk⟩, Or.inr ?_⟩
        rw [hk]; exact Nat.mul_le_mul hrm (Nat.le_trans hrm hle)
      · obtain ⟨r, hr, hrd, _⟩ := ih k hkn (by omega)
        have hrm := Nat.le_of_dvd (by omega) hrd
        refine ⟨r, hr, Nat.dvd_trans hrd ⟨m, by rw [hk, Nat.mul_comm]⟩, Or.inr ?_⟩
        rw [hk]; exact Nat.mul_le_mul (Nat.le_trans hrm hle) hrm

/-! what of a prime of n - 1 goes into the primes of n -/
theorem part {n q a r : Nat} (hq : IsP q) (hr : IsP r) (hrn : r ∣ n) (hn : 1 < n)
    (h1 : a ^ (n - 1) % n = 1) (hd : q ∣ n - 1) (h2 : Nat.gcd (a ^ ((n - 1) / q) % n + (n - 1)) n = 1) : q ∣ r - 1 := by
  have hr2 := hr.1
  have toR : ∀ x y, x % n = y % n → x % r = y % r := by
    intro x y e
    rw [← Nat.mod_mod_of_dvd x hrn, e, Nat.mod_mod_of_dvd y hrn]
  have hm : a ^ (n - 1) % r = 1 := by
    have := toR (a ^ (n - 1)) 1 (by rw [h1, Nat.mod_eq_of_lt hn])
    rw [this, Nat.mod_eq_of_lt hr2]
  have hra : ¬ r ∣ a := by
    intro hc
    have hz : a ^ (n - 1) % r = 0 := Nat.mod_eq_zero_of_dvd (Nat.dvd_trans hc (by
      have : a ^ 1 ∣ a ^ (n - 1) := Nat.pow_dvd_pow a (by omega)
      rwa [Nat.pow_one] at this))
    omega
  have hb : (a ^ ((n - 1) / q)) ^ q % r = 1 := by
    rw [← Nat.pow_mul, Nat.div_mul_cancel hd]; exact hm
  have hbr : ¬ r ∣ a ^ ((n - 1) / q) := by
    intro hc
    have : r ∣ (a ^ ((n - 1) / q)) ^ q := Nat.dvd_trans hc (by
      have : (a ^ ((n - 1) / q)) ^ 1 ∣ (a ^ ((n - 1) / q)) ^ q := Nat.pow_dvd_pow _ (by have := hq.1; omega)
      rwa [Nat.pow_one] at this)
    have := Nat.mod_eq_zero_of_dvd this
    omega
  have hg := pow_gcd _ r hr2 q (r - 1) hb (hr.fermat1 _ hbr)
  rcases hq.2 _ (Nat.gcd_dvd_left q (r - 1)) with e | e
  · rw [e, Nat.pow_one] at hg
    exfalso
    have hx : r ∣ a ^ ((n - 1) / q) % n + (n - 1) := by
      refine Nat.dvd_of_mod_eq_zero ?_
      have e1 : (a ^ ((n - 1) / q) % n) % r = 1 := by rw [Nat.mod_mod_of_dvd _ hrn]; exact hg
      have e2 : (n - 1 + 1) % r = 0 := by
        rw [Nat.sub_add_cancel (by omega)]; exact Nat.mod_eq_zero_of_dvd hrn
      have : (a ^ ((n - 1) / q) % n + (n - 1)) % r = (1 + (n - 1)) % r := by
        rw [Nat.add_mod, e1, Nat.add_mod 1 (n - 1), Nat.mod_eq_of_lt hr2]
      rw [this, Nat.add_comm, e2]
    have := Nat.dvd_gcd hx hrn
    rw [h2] at this
    have := Nat.le_of_dvd (by omega) this
    omega
  · rw [← e]; exact Nat.gcd_dvd_right _ _

theorem pock {n f : Nat} (hn : 1 < n) (hf : n < (f + 1) * (f + 1))
    (hall : ∀ r, IsP r → r ∣ n → f ∣ r - 1) : IsP n := by
  obtain ⟨r, hr, hrn, h | h⟩ := exists_prime n hn
  · exact h
  · have := Nat.le_of_dvd (by have := hr.1; omega) (hall r hr hrn)
    have h2 : f + 1 ≤ r := by have := hr.1; omega
    have := Nat.mul_le_mul h2 h2
    omega

/-! trial -/
def trial (n : Nat) : Nat → Nat → Bool
  | 0, _ => true
  | k + 1, d => (n % d != 0) && trial n k (d + 1)

theorem trial_no (n : Nat) : ∀ k d, trial n k d = true → ∀ m, d ≤ m → m < d + k → ¬ m ∣ n
  | 0, _, _, m, _, _ => by omega
  | k + 1, d, h, m, h1, h2 => by
    simp only [trial, Bool.and_eq_true, bne_iff_ne, ne_eq] at h
    rcases Nat.lt_or_ge d m with hlt | hge
    · exact trial_no n k (d + 1) h.2 m hlt (by omega)
    · have : m = d := by omega
      subst this
      intro hd
      exact h.1 (Nat.mod_eq_zero_of_dvd hd)

theorem small {n k : Nat} (hn : 2 ≤ n) (ht : trial n k 2 = true) (hk : n < (k + 2) * (k + 2)) : IsP n := by
  obtain ⟨r, hr, hrn, h | h⟩ := exists_prime n hn
  · exact h
  · have h2 := hr.1
    have hlt : r < 2 + k := by
      refine Classical.byContradiction fun hc => ?_
      have := Nat.mul_le_mul (show k + 2 ≤ r by omega) (show k + 2 ≤ r by omega)
      omega
    exact absurd hrn (trial_no n k 2 ht r h2 hlt)

/-! powers, reckoned -/
def pm (n : Nat) : Nat → Nat → Nat → Nat → Nat
  | 0, _, _, acc => acc
  | k + 1, a, e, acc => pm n k (a * a % n) (e / 2) (if e % 2 = 1 then acc * a % n else acc)

theorem pm_eq (n : Nat) : ∀ k a e acc, e < 2 ^ k → acc < n → pm n k a e acc = acc * a ^ e % n
  | 0, a, e, acc, h, ha => by
    have : e = 0 := by simpa using h
    subst this
    rw [pm, Nat.pow_zero, Nat.mul_one, Nat.mod_eq_of_lt ha]
  | k + 1, a, e, acc, h, ha => by
    have hn : 0 < n := by omega
    have hacc : (if e % 2 = 1 then acc * a % n else acc) < n := by
      split
      · exact Nat.mod_lt _ hn
      · exact ha
    rw [pm, pm_eq n k _ _ _ (by rw [Nat.pow_succ] at h; omega) hacc]
    have hsq : ∀ y, y * (a * a % n) ^ (e / 2) % n = y * (a * a) ^ (e / 2) % n := by
      intro y
      rw [Nat.mul_mod, ← Nat.pow_mod, ← Nat.mul_mod]
    rw [hsq]
    have he : a ^ e = a ^ (e % 2) * (a * a) ^ (e / 2) := by
      have : (a * a) = a ^ 2 := by rw [Nat.pow_succ, Nat.pow_one]
      rw [this, ← Nat.pow_mul, ← Nat.pow_add, Nat.mod_add_div]
    rw [he]
    split
    · rename_i h1
      rw [h1, Nat.pow_one, Nat.mul_mod, Nat.mod_mod, ← Nat.mul_mod, Nat.mul_assoc]
    · rename_i h1
      have : e % 2 = 0 := by omega
      rw [this, Nat.pow_zero, Nat.one_mul]

theorem part' {n q a r k : Nat} (hq : IsP q) (hr : IsP r) (hrn : r ∣ n) (hn : 1 < n) (hk : n < 2 ^ k)
    (h1 : pm n k a (n - 1) 1 = 1) (hd : (n - 1) % q = 0) (h2 : Nat.gcd (pm n k a ((n - 1) / q) 1 + (n - 1)) n = 1) : q ∣ r - 1 := by
  rw [pm_eq n k a (n - 1) 1 (by omega) hn, Nat.one_mul] at h1
  rw [pm_eq n k a _ 1 (Nat.lt_of_le_of_lt (Nat.div_le_self _ _) (by omega)) hn, Nat.one_mul] at h2
  exact part hq hr hrn hn h1 (Nat.dvd_of_mod_eq_zero hd) h2


/-! the two primes -/
theorem x21 : IsP 1627771 := small (k := 1275) (by decide) (by decide +kernel) (by decide)
theorem x30 : IsP 545358713 := small (k := 23352) (by decide) (by decide +kernel) (by decide)
theorem x26 : IsP 44706919 := small (k := 6686) (by decide) (by decide +kernel) (by decide)
theorem x17 : IsP 120233 := small (k := 346) (by decide) (by decide +kernel) (by decide)
theorem x27 : IsP 107590001 := small (k := 10372) (by decide) (by decide +kernel) (by decide)
theorem x23 : IsP 7240687 := small (k := 2690) (by decide) (by decide +kernel) (by decide)
theorem x16 : IsP 96557 := small (k := 310) (by decide) (by decide +kernel) (by decide)
theorem x39 : IsP 297159362677 :=
  pock (f := 1627771) (by decide) (by decide +kernel) (fun r hr hd => part' (k := 39) (a := 2) x21 hr hd (by decide) (by decide +kernel) (by decide +kernel) (by decide +kernel) (by decide +kernel))
theorem c95 : IsP 29047611873442575647497758179 :=
  pock (f := (545358713 * 297159362677)) (by decide) (by decide +kernel) (fun r hr hd => Nat.Coprime.mul_dvd_of_dvd_of_dvd (by decide +kernel) (part' (k := 95) (a := 2) x30 hr hd (by decide) (by decide +kernel) (by decide +kernel) (by decide +kernel) (by decide +kernel)) (part' (k := 95) (a := 2) x39 hr hd (by decide) (by decide +kernel) (by decide +kernel) (by decide +kernel) (by decide +kernel)))
theorem b68 : IsP 174723607534414371449 :=
  pock (f := (44706919 * 120233)) (by decide) (by decide +kernel) (fun r hr hd => Nat.Coprime.mul_dvd_of_dvd_of_dvd (by decide +kernel) (part' (k := 68) (a := 2) x26 hr hd (by decide) (by decide +kernel) (by decide +kernel) (by decide +kernel) (by decide +kernel)) (part' (k := 68) (a := 2) x17 hr hd (by decide) (by decide +kernel) (by decide +kernel) (by decide +kernel) (by decide +kernel)))
theorem c109 : IsP 341948486974166000522343609283189 :=
  pock (f := 29047611873442575647497758179) (by decide) (by decide +kernel) (fun r hr hd => part' (k := 109) (a := 2) c95 hr hd (by decide) (by decide +kernel) (by decide +kernel) (by decide +kernel) (by decide +kernel))
theorem pN : IsP 115792089237316195423570985008687907852837564279074904382605163141518161494337 :=
  pock (f := (174723607534414371449 * 341948486974166000522343609283189)) (by decide) (by decide +kernel) (fun r hr hd => Nat.Coprime.mul_dvd_of_dvd_of_dvd (by decide +kernel) (part' (k := 256) (a := 2) b68 hr hd (by decide) (by decide +kernel) (by decide +kernel) (by decide +kernel) (by decide +kernel)) (part' (k := 256) (a := 2) c109 hr hd (by decide) (by decide +kernel) (by decide +kernel) (by decide +kernel) (by decide +kernel)))
theorem e128 : IsP 255515944373312847190720520512484175977 :=
  pock (f := (107590001 * 7240687 * 96557)) (by decide) (by decide +kernel) (fun r hr hd => Nat.Coprime.mul_dvd_of_dvd_of_dvd (by decide +kernel) (Nat.Coprime.mul_dvd_of_dvd_of_dvd (by decide +kernel) (part' (k := 128) (a := 2) x27 hr hd (by decide) (by decide +kernel) (by decide +kernel) (by decide +kernel) (by decide +kernel)) (part' (k := 128) (a := 2) x23 hr hd (by decide) (by decide +kernel) (by decide +kernel) (by decide +kernel) (by decide +kernel))) (part' (k := 128) (a := 2) x16 hr hd (by decide) (by decide +kernel) (by decide +kernel) (by decide +kernel) (by decide +kernel)))
theorem q237 : IsP 205115282021455665897114700593932402728804164701536103180137503955397371 :=
  pock (f := 255515944373312847190720520512484175977) (by decide) (by decide +kernel) (fun r hr hd => part' (k := 237) (a := 2) e128 hr hd (by decide) (by decide +kernel) (by decide +kernel) (by decide +kernel) (by decide +kernel))
theorem pP : IsP 115792089237316195423570985008687907853269984665640564039457584007908834671663 :=
  pock (f := 205115282021455665897114700593932402728804164701536103180137503955397371) (by decide) (by decide +kernel) (fun r hr hd => part' (k := 256) (a := 2) q237 hr hd (by decide) (by decide +kernel) (by decide +kernel) (by decide +kernel) (by decide +kernel))
end Go.Proofs.Ytbimbalfdmffaab.NT
namespace Go.Proofs.Ytbimbalfdmffaab

theorem add_assoc_mod (a b c P : Nat) : ((a + b) % P + c) % P = (a + (b + c) % P) % P := by
  rw [Nat.add_mod ((a + b) % P), Nat.mod_mod, ← Nat.add_mod, Nat.add_mod a ((b + c) % P), Nat.mod_mod, ← Nat.add_mod, Nat.add_assoc]
theorem mul_assoc_mod (a b c P : Nat) : a * b % P * c % P = a * (b * c % P) % P := by
  rw [Nat.mul_mod (a * b % P), Nat.mod_mod, ← Nat.mul_mod, Nat.mul_mod a (b * c % P), Nat.mod_mod, ← Nat.mul_mod, Nat.mul_assoc]
theorem distrib_mod (a b c P : Nat) : a * ((b + c) % P) % P = (a * b % P + a * c % P) % P := by
  rw [Nat.mul_mod, Nat.mod_mod, ← Nat.mul_mod, Nat.mul_add, ← Nat.add_mod]
theorem add_sub_mod {a b P : Nat} (ha : a < P) (hb : b < P) : ((a + b) % P + P - b) % P = a := by
  by_cases h : a + b < P
  · rw [Nat.mod_eq_of_lt h, show a + b + P - b = a + P by omega, Nat.add_mod_right, Nat.mod_eq_of_lt ha]
  · have e : (a + b) % P = a + b - P := by rw [Nat.mod_eq_sub_mod (by omega), Nat.mod_eq_of_lt (by omega)]
    rw [e, show a + b - P + P - b = a by omega, Nat.mod_eq_of_lt ha]
theorem sub_self_mod {a P : Nat} (ha : a < P) : (a + P - a) % P = 0 := by
  rw [show a + P - a = P by omega, Nat.mod_self]
theorem inv_mod {a P : Nat} (h : NT.IsP P) (ha : a < P) (h0 : ¬ a = 0) : a * (a ^ (P - 2) % P) % P = 1 := by
  have h2 := h.1
  rw [Nat.mul_mod, Nat.mod_mod, ← Nat.mul_mod, Nat.mul_comm, ← Nat.pow_succ, show (P - 2).succ = P - 1 by omega]
  exact h.fermat1 a (fun hd => h0 (Nat.eq_zero_of_dvd_of_lt hd ha))
theorem inv_zero_mod {P : Nat} (h : 2 < P) : 0 ^ (P - 2) % P = 0 := by
  rw [Nat.zero_pow (by omega), Nat.zero_mod]
theorem root_mod {a P : Nat} (h : NT.IsP P) (h4 : P % 4 = 3) : (a * a % P) ^ (P / 4 + 1) % P * ((a * a % P) ^ (P / 4 + 1) % P) % P = a * a % P := by
  rw [← Nat.mul_mod, ← Nat.pow_add, ← Nat.pow_mod, ← Nat.pow_two, ← Nat.pow_mul, show 2 * (P / 4 + 1 + (P / 4 + 1)) = P + 1 by omega, Nat.pow_succ, Nat.mul_mod, h.fermat a, ← Nat.mul_mod, Nat.pow_two]
theorem root_is {a R P : Nat} (h : NT.IsP P) (ha : a < P) (hR : R < P) (he : R * R % P = a * a % P) : R = a ∨ R + a = P := by
  have key : ∀ x y : Nat, x < P → y < P → y ≤ x → x * x % P = y * y % P → x = y ∨ x + y = P := by
    intro x y hx hy hxy hxe
    have hd : P ∣ x * x - y * y := by
      refine Nat.dvd_of_mod_eq_zero ?_
      exact Nat.sub_mod_eq_zero_of_mod_eq hxe
    have hf : x * x - y * y = (x - y) * (x + y) := by
      rw [Nat.mul_comm (x - y), Nat.mul_self_sub_mul_self_eq]
    rw [hf] at hd
    rcases h.euclid hd with h1 | h1
    · left
      have := Nat.eq_zero_of_dvd_of_lt h1 (by omega)
      omega
    · obtain ⟨k, hk⟩ := h1
      have : k = 0 ∨ k = 1 ∨ 2 ≤ k := by omega
      rcases this with rfl | rfl | h2
      · left; omega
      · right; omega
      · have := Nat.mul_le_mul_left P h2
        omega
  rcases Nat.le_total a R with h1 | h1
  · exact key R a hR ha h1 he
  · rcases key a R ha hR h1 he.symm with h2 | h2
    · left; exact h2.symm
    · right; omega
end Go.Proofs.Ytbimbalfdmffaab
namespace Go.Proofs.Ytbimbalfdmffaab
open Go.RowKit Go.Sort Go.Deep

theorem w8_be8 (x : Nat) (hx : x < 18446744073709551616) :
    w8 (UInt8.ofNat (x / 72057594037927936)) (UInt8.ofNat (x / 281474976710656)) (UInt8.ofNat (x / 1099511627776)) (UInt8.ofNat (x / 4294967296)) (UInt8.ofNat (x / 16777216)) (UInt8.ofNat (x / 65536)) (UInt8.ofNat (x / 256)) (UInt8.ofNat x) = x := by
  unfold w8
  simp only [UInt8.toNat_ofNat']
  omega

theorem be32_list (a b c d : Nat) : (be32 a b c d).toList = [UInt8.ofNat (d / 72057594037927936), UInt8.ofNat (d / 281474976710656), UInt8.ofNat (d / 1099511627776), UInt8.ofNat (d / 4294967296), UInt8.ofNat (d / 16777216), UInt8.ofNat (d / 65536), UInt8.ofNat (d / 256), UInt8.ofNat d, UInt8.ofNat (c / 72057594037927936), UInt8.ofNat (c / 281474976710656), UInt8.ofNat (c / 1099511627776), UInt8.ofNat (c / 4294967296), UInt8.ofNat (c / 16777216), UInt8.ofNat (c / 65536), UInt8.ofNat (c / 256), UInt8.ofNat c, UInt8.ofNat (b / 72057594037927936), UInt8.ofNat (b / 281474976710656), UInt8.ofNat (b / 1099511627776), UInt8.ofNat (b / 4294967296), UInt8.ofNat (b / 16777216), UInt8.ofNat (b / 65536), UInt8.ofNat (b / 256), UInt8.ofNat b, UInt8.ofNat (a / 72057594037927936), UInt8.ofNat (a / 281474976710656), UInt8.ofNat (a / 1099511627776), UInt8.ofNat (a / 4294967296), UInt8.ofNat (a / 16777216), UInt8.ofNat (a / 65536), UInt8.ofNat (a / 256), UInt8.ofNat a] := by
  simp only [be32, be8, Array.toList_append, List.cons_append, List.nil_append]
theorem val_congr {a b c d p q r s : Nat} (h1 : a = p) (h2 : b = q) (h3 : c = r) (h4 : d = s) : val a b c d = val p q r s := by subst h1 h2 h3 h4; rfl
theorem beV_be32 (a b c d : Nat) (ha : a < 18446744073709551616) (hb : b < 18446744073709551616) (hc : c < 18446744073709551616) (hd : d < 18446744073709551616) : beV (be32 a b c d).toList = val a b c d :=
  (congrArg beV (be32_list a b c d)).trans ((beV_32 _ _ _ _ _ _ _ _ _ _ _ _ _ _ _ _ _ _ _ _ _ _ _ _ _ _ _ _ _ _ _ _).trans (val_congr (w8_be8 a ha) (w8_be8 b hb) (w8_be8 c hc) (w8_be8 d hd)))

/-- The 32 bytes of a number. -/
def bytesOf (n : Nat) : Bs := be32 (n % 18446744073709551616) (n / 18446744073709551616 % 18446744073709551616) (n / 340282366920938463463374607431768211456 % 18446744073709551616) (n / 6277101735386680763835789423207666416102355444464034512896)
theorem bytesOf_eq {a b c d n : Nat} (ha : a < 18446744073709551616) (hb : b < 18446744073709551616) (hc : c < 18446744073709551616) (hn : n = val a b c d) : be32 a b c d = bytesOf n := by
  unfold bytesOf
  unfold val at hn
  congr 1 <;> omega
theorem bytesOf_size (n : Nat) : (bytesOf n).size = 32 := be32_size _ _ _ _
theorem bytesOf_val {n : Nat} (hn : n < top) : beV (bytesOf n).toList = n := by
  unfold bytesOf
  unfold top at hn
  rw [beV_be32 _ _ _ _ (by omega) (by omega) (by omega) (by omega)]
  unfold val
  omega

/-- The bytes of a number in a block. -/
def At32 (W : World) (g n : Nat) : Prop := n < top ∧ Holds encB W g 0 (bytesOf n)
theorem At32.call {W w1 : World} {g n : Nat} (h : At32 W g n) (hb : Below W.heap.size W w1) : At32 w1 g n :=
  ⟨h.1, Holds.below h.2 hb (Holds.lt h.2 (by rw [bytesOf_size]; omega))⟩
theorem At32.of {W : World} {B n : Nat} {v : Value} (h : IsBytes W B v n) : ∃ g, v = .slice (some ⟨g, 0, none⟩) 32 32 ∧ At32 W g n := by
  obtain ⟨g, a, b, c, d, rfl, -, hF, hH⟩ := h
  refine ⟨g, rfl, hF.lt, ?_⟩
  obtain ⟨a', b', c', d', e, h1, h2, h3, h4, h5⟩ := hF
  simp only [Value.agg.injEq, Array.mk.injEq, List.cons.injEq, Value.int.injEq, true_and, and_true, Int.ofNat_inj] at e
  obtain ⟨rfl, rfl, rfl, rfl⟩ := e
  rw [← bytesOf_eq h1 h2 h3 h5]
  exact hH
theorem At32.arg {W : World} {g n : Nat} (h : At32 W g n) : Arg W (.slice (some ⟨g, 0, none⟩) 32 32) (bytesOf n) :=
  ⟨_, _, _, rfl, bytesOf_size n, fun _ => ⟨g, 0, rfl, Nat.le_refl _, Holds.lt h.2 (by rw [bytesOf_size]; omega), h.2⟩⟩
theorem At32.num {W : World} {g n P : Nat} (h : At32 W g n) (hn : n < P) : IsNum P (bytesOf n) := ⟨bytesOf_size n, by rw [bytesOf_val h.1]; exact hn⟩
theorem At32.str {W : World} {g n : Nat} (h : At32 W g n) : (convert 23 9 (.slice (some ⟨g, 0, none⟩) 32 32)).run Try.prog W = .ok (.string ⟨bytesOf n⟩) W :=
  conv_str Try.prog 23 9 5 slice22 int5 str9 W g 0 32 32 _ h.2 (bytesOf_size n)
theorem bytesOf_inj {m n : Nat} (hm : m < top) (hn : n < top) (h : bytesOf m = bytesOf n) : m = n := by
  rw [← bytesOf_val hm, ← bytesOf_val hn, h]

/-- Numbers in blocks. -/
def Env (W : World) (l : List (Nat × Nat)) : Prop := ∀ x ∈ l, At32 W x.1 x.2
theorem Env.call {W w1 : World} {l : List (Nat × Nat)} (h : Env W l) (hb : Below W.heap.size W w1) : Env w1 l := fun x hx => (h x hx).call hb
theorem Env.cons {W : World} {l : List (Nat × Nat)} {g n : Nat} (h : Env W l) (hx : At32 W g n) : Env W ((g, n) :: l) := fun x hx' => by
  rcases List.mem_cons.1 hx' with rfl | h2
  · exact hx
  · exact h x h2
theorem Env.nil {W : World} : Env W [] := fun _ h => by cases h

/-- An operation's answer as a number in a block. -/
def Gives (w : World) (x : Nat) (e : Value) (w' : World) : Prop := Below w.heap.size w w' ∧ ∃ g, e = .tuple #[.slice (some ⟨g, 0, none⟩) 32 32, .int .i64 0] ∧ At32 w' g x

theorem two_gives {w w' : World} {P x : Nat} {s t : Bs} {e : Value} (h : TwoR w P s t x e w') (hs : IsNum P s) (ht : IsNum P t) (hb : Below w.heap.size w w') : Gives w x e w' := by
  rcases h with ⟨-, -, v, rfl, h3⟩ | ⟨h1, -⟩
  · obtain ⟨g, rfl, h4⟩ := At32.of h3
    exact ⟨hb, g, rfl, h4⟩
  · exact absurd ⟨hs, ht⟩ h1

theorem Add_nb {k : Int} {g0 g1 g2 P g h a b : Nat} (hG : Gap g0 g1 g2 P) (hp : PrimeOf k g0 g1 g2) (w : World) (hA : At32 w g a) (hB : At32 w h b) (ha : a < P) (hb : b < P) :
    Calls Try.prog 10 #[.int .i64 k, .slice (some ⟨g, 0, none⟩) 32 32, .slice (some ⟨h, 0, none⟩) 32 32] w (Ret (Gives w ((a + b) % P))) := by
  refine (Add_any k g0 g1 g2 P _ _ _ _ hG w hp hA.arg hB.arg).mono ?_
  rintro e w' ⟨v, rfl, hb', h⟩
  rw [bytesOf_val hA.1, bytesOf_val hB.1] at h
  exact ⟨_, rfl, two_gives h (hA.num ha) (hB.num hb) hb'⟩
theorem Sub_nb {k : Int} {g0 g1 g2 P g h a b : Nat} (hG : Gap g0 g1 g2 P) (hp : PrimeOf k g0 g1 g2) (w : World) (hA : At32 w g a) (hB : At32 w h b) (ha : a < P) (hb : b < P) :
    Calls Try.prog 11 #[.int .i64 k, .slice (some ⟨g, 0, none⟩) 32 32, .slice (some ⟨h, 0, none⟩) 32 32] w (Ret (Gives w ((a + P - b) % P))) := by
  refine (Sub_any k g0 g1 g2 P _ _ _ _ hG w hp hA.arg hB.arg).mono ?_
  rintro e w' ⟨v, rfl, hb', h⟩
  rw [bytesOf_val hA.1, bytesOf_val hB.1] at h
  exact ⟨_, rfl, two_gives h (hA.num ha) (hB.num hb) hb'⟩
theorem Mul_nb {k : Int} {g0 g1 g2 P g h a b : Nat} (hG : Gap g0 g1 g2 P) (hp : PrimeOf k g0 g1 g2) (w : World) (hA : At32 w g a) (hB : At32 w h b) (ha : a < P) (hb : b < P) :
    Calls Try.prog 12 #[.int .i64 k, .slice (some ⟨g, 0, none⟩) 32 32, .slice (some ⟨h, 0, none⟩) 32 32] w (Ret (Gives w (a * b % P))) := by
  refine (Mul_any k g0 g1 g2 P _ _ _ _ hG w hp hA.arg hB.arg).mono ?_
  rintro e w' ⟨v, rfl, hb', h⟩
  rw [bytesOf_val hA.1, bytesOf_val hB.1] at h
  exact ⟨_, rfl, two_gives h (hA.num ha) (hB.num hb) hb'⟩
theorem Inv_nb {k : Int} {g0 g1 g2 P g a : Nat} (hG : Gap g0 g1 g2 P) (hP2 : 2 ≤ P % 18446744073709551616) (hp : PrimeOf k g0 g1 g2) (w : World) (hA : At32 w g a) (ha : a < P) :
    Calls Try.prog 13 #[.int .i64 k, .slice (some ⟨g, 0, none⟩) 32 32] w (Ret (Gives w (a ^ (P - 2) % P))) := by
  refine (Inv_any k g0 g1 g2 P _ _ hG hP2 w hp hA.arg).mono ?_
  rintro e w' ⟨v, rfl, hb', h⟩
  rw [bytesOf_val hA.1] at h
  rcases h with ⟨-, v, rfl, h3⟩ | ⟨h1, -⟩
  · obtain ⟨g, rfl, h4⟩ := At32.of h3
    exact ⟨_, rfl, hb', g, rfl, h4⟩
  · exact absurd (hA.num ha) h1
theorem Sqrt_nb {g a : Nat} (w : World) (hA : At32 w g a) (ha : a < Go.Proofs.Ytbimbalfdmffaab.p0) (hr : a ^ (Go.Proofs.Ytbimbalfdmffaab.p0 / 4 + 1) % Go.Proofs.Ytbimbalfdmffaab.p0 * (a ^ (Go.Proofs.Ytbimbalfdmffaab.p0 / 4 + 1) % Go.Proofs.Ytbimbalfdmffaab.p0) % Go.Proofs.Ytbimbalfdmffaab.p0 = a) :
    Calls Try.prog 23 #[.int .i64 0, .slice (some ⟨g, 0, none⟩) 32 32] w (Ret (Gives w (even Go.Proofs.Ytbimbalfdmffaab.p0 (a ^ (Go.Proofs.Ytbimbalfdmffaab.p0 / 4 + 1) % Go.Proofs.Ytbimbalfdmffaab.p0)))) := by
  refine (Sqrt_any _ _ w hA.arg).mono ?_
  rintro e w' ⟨v, rfl, hb', h⟩
  rw [bytesOf_val hA.1] at h
  rcases h with ⟨-, -, v, rfl, h3⟩ | ⟨-, h1, -⟩ | ⟨h1, -⟩
  · obtain ⟨g, rfl, h4⟩ := At32.of h3
    exact ⟨_, rfl, hb', g, rfl, h4⟩
  · exact absurd (by rw [bytesOf_val hA.1]; exact hr) h1
  · exact absurd (hA.num ha) h1
end Go.Proofs.Ytbimbalfdmffaab
namespace Go.Proofs.Ytbimbalfdmffaab
open Go.RowKit Go.Sort Go.Deep

theorem infoB : (Try.prog.info? 23).map (fun i => (i.zero, i.size, i.bytes)) = some (some (.slice none 0 0), 1, 24) := by kernel_rfl
theorem sliceB : Try.prog.underlying 46 = some (.slice 23) := by kernel_rfl

theorem At32.far {W : World} {g n j i : Nat} (h : At32 W g n) (hj : j ≠ g) (v : Value) : At32 (W.setCell ⟨j, i, none⟩ v) g n := ⟨h.1, Holds.far h.2 hj v⟩
theorem At32.lt {W : World} {g n : Nat} (h : At32 W g n) : g < W.heap.size := Holds.lt h.2 (by rw [bytesOf_size]; omega)
theorem At32.drew {W : World} {g n : Nat} (h : At32 W g n) : At32 W.drew g n := ⟨h.1, Holds.drew h.2⟩

/-- A list of n bytes' slices in block kl, of which the first i are numbers' bytes, each in a block of its own. -/
structure Shelf (W : World) (kl n i : Nat) (f : Nat → Nat) : Prop where
  all : ∀ j, j < n → ∃ v, W.cell? ⟨kl, j, none⟩ = some v
  fz : ∀ o, W.frozen? ⟨kl, o, none⟩ = false
  lt : kl < W.heap.size
  front : ∃ G : Nat → Nat, (∀ j, j < i → W.cell? ⟨kl, j, none⟩ = some (.slice (some ⟨G j, 0, none⟩) 32 32) ∧ At32 W (G j) (f j) ∧ kl < G j) ∧ ∀ j j', j' < i → j < j' → G j < G j'

theorem Shelf.call {W w1 : World} {kl n i : Nat} {f : Nat → Nat} (h : Shelf W kl n i f) (hb : Below W.heap.size W w1) : Shelf w1 kl n i f := by
  obtain ⟨h1, h2, h3, G, h4, h5⟩ := h
  refine ⟨fun j hj => ?_, fun o => ?_, Nat.lt_of_lt_of_le h3 hb.size, G, fun j hj => ?_, h5⟩
  · obtain ⟨v, hv⟩ := h1 j hj
    exact ⟨v, by rw [hb.cell (p := ⟨kl, j, none⟩) h3]; exact hv⟩
  · rw [hb.frozen (p := ⟨kl, o, none⟩) h3]; exact h2 o
  · obtain ⟨h6, h7, h8⟩ := h4 j hj
    exact ⟨by rw [hb.cell (p := ⟨kl, j, none⟩) h3]; exact h6, h7.call hb, h8⟩
theorem Shelf.drew {W : World} {kl n i : Nat} {f : Nat → Nat} (h : Shelf W kl n i f) : Shelf W.drew kl n i f := by
  obtain ⟨h1, h2, h3, G, h4, h5⟩ := h
  exact ⟨h1, h2, h3, G, fun j hj => ⟨(h4 j hj).1, (h4 j hj).2.1.drew, (h4 j hj).2.2⟩, h5⟩
/-- A store into a block below the list. -/
theorem Shelf.far {W : World} {kl n i g o : Nat} {f : Nat → Nat} (h : Shelf W kl n i f) (hg : g ≠ kl) (hn : ∀ (G : Nat → Nat), (∀ j, j < i → W.cell? ⟨kl, j, none⟩ = some (.slice (some ⟨G j, 0, none⟩) 32 32)) → ∀ j, j < i → g ≠ G j) (v : Value) : Shelf (W.setCell ⟨g, o, none⟩ v) kl n i f := by
  obtain ⟨h1, h2, h3, G, h4, h5⟩ := h
  refine ⟨fun j hj => ?_, fun o => ?_, by simpa using h3, G, fun j hj => ?_, h5⟩
  · obtain ⟨v', hv⟩ := h1 j hj
    exact ⟨v', by rw [World.cell?_setCell_other _ _ _ _ (ne_addr (Or.inl hg))]; exact hv⟩
  · rw [World.frozen?_setCell]; exact h2 o
  · obtain ⟨h6, h7, h8⟩ := h4 j hj
    exact ⟨by rw [World.cell?_setCell_other _ _ _ _ (ne_addr (Or.inl hg))]; exact h6, h7.far (hn G (fun j hj => (h4 j hj).1) j hj) v, h8⟩
/-- The next one is laid into the list. -/
theorem Shelf.put {W : World} {kl n i g : Nat} {f : Nat → Nat} (h : Shelf W kl n i f) (hi : i < n) (hx : At32 W g (f i)) (hg : kl < g) (hn : ∀ (G : Nat → Nat), (∀ j, j < i → W.cell? ⟨kl, j, none⟩ = some (.slice (some ⟨G j, 0, none⟩) 32 32)) → ∀ j, j < i → G j < g) :
    Shelf (W.setCell ⟨kl, i, none⟩ (.slice (some ⟨g, 0, none⟩) 32 32)) kl n (i + 1) f := by
  obtain ⟨h1, h2, h3, G, h4, h5⟩ := h
  obtain ⟨v0, hv0⟩ := h1 i hi
  have hsame := World.cell?_setCell_same W ⟨kl, i, none⟩ (.slice (some ⟨g, 0, none⟩) 32 32) hv0
  refine ⟨fun j hj => ?_, fun o => ?_, by simpa using h3, fun j => if j = i then g else G j, fun j hj => ?_, fun j j' hj' hjj => ?_⟩
  · by_cases hji : j = i
    · subst hji; exact ⟨_, hsame⟩
    · obtain ⟨v', hv⟩ := h1 j hj
      exact ⟨v', by rw [World.cell?_setCell_other _ _ _ _ (ne_addr (Or.inr (Ne.symm hji)))]; exact hv⟩
  · rw [World.frozen?_setCell]; exact h2 o
  · by_cases hji : j = i
    · subst hji
      simp only [if_true]
      exact ⟨hsame, hx.far (by omega) _, hg⟩
    · obtain ⟨h6, h7, h8⟩ := h4 j (by omega)
      simp only [if_neg hji]
      exact ⟨by rw [World.cell?_setCell_other _ _ _ _ (ne_addr (Or.inr (Ne.symm hji)))]; exact h6, h7.far (by omega) _, h8⟩
  · have hlt := hn G (fun j hj => (h4 j hj).1)
    simp only
    rw [if_neg (by omega)]
    by_cases hji : j' = i
    · rw [if_pos hji]; exact hlt j (by omega)
    · rw [if_neg hji]; exact h5 j j' (by omega) hjj
theorem Shelf.below_size {W : World} {kl n i : Nat} {f : Nat → Nat} (h : Shelf W kl n i f) (G : Nat → Nat) (hG : ∀ j, j < i → W.cell? ⟨kl, j, none⟩ = some (.slice (some ⟨G j, 0, none⟩) 32 32)) (j : Nat) (hj : j < i) : kl < G j ∧ G j < W.heap.size := by
  obtain ⟨h1, h2, h3, G', h4, h5⟩ := h
  obtain ⟨h6, h7, h8⟩ := h4 j hj
  have := hG j hj
  rw [h6] at this
  injection this with e
  injection e with e1 _ _
  injection e1 with e1
  injection e1 with e1 _ _
  rw [← e1]
  exact ⟨h8, h7.lt⟩
theorem Shelf.set4 {W : World} {kl n i g : Nat} {f : Nat → Nat} (h : Shelf W kl n i f) (hg : g ≠ kl) (hn : ∀ (G : Nat → Nat), (∀ j, j < i → W.cell? ⟨kl, j, none⟩ = some (.slice (some ⟨G j, 0, none⟩) 32 32)) → ∀ j, j < i → g ≠ G j) (x y z t : Value) :
    Shelf ((((W.setCell ⟨g, 0, none⟩ x).setCell ⟨g, 1, none⟩ y).setCell ⟨g, 2, none⟩ z).setCell ⟨g, 3, none⟩ t) kl n i f := by
  have nx : ∀ (W : World) (o : Nat) (v : Value), (∀ (G : Nat → Nat), (∀ j, j < i → W.cell? ⟨kl, j, none⟩ = some (.slice (some ⟨G j, 0, none⟩) 32 32)) → ∀ j, j < i → g ≠ G j) → (∀ (G : Nat → Nat), (∀ j, j < i → (W.setCell ⟨g, o, none⟩ v).cell? ⟨kl, j, none⟩ = some (.slice (some ⟨G j, 0, none⟩) 32 32)) → ∀ j, j < i → g ≠ G j) := fun W o v h0 G hG => h0 G (fun j hj => by
    have := hG j hj
    rw [World.cell?_setCell_other _ _ _ _ (ne_addr (Or.inl hg))] at this
    exact this)
  exact (((h.far hg hn x).far hg (nx _ _ _ hn) y).far hg (nx _ _ _ (nx _ _ _ hn)) z).far hg (nx _ _ _ (nx _ _ _ (nx _ _ _ hn))) t
theorem Shelf.made (W : World) (n : Nat) (f : Nat → Nat) : Shelf (W.alloc (.cells (madeCells #[.slice none 0 0] n) 23)) W.heap.size n 0 f := by
  refine ⟨fun j hj => ⟨.slice none 0 0, ?_⟩, fun o => World.frozen?_alloc_new _ _ _ _, by simp, fun _ => 0, fun j hj => by omega, fun j j' hj => by omega⟩
  rw [World.cell?_alloc_new]
  unfold madeCells
  rw [Array.getElem?_map, Array.getElem?_range]
  simp [hj, Nat.mod_one]

/-- What Powers answers. -/
def PowR (w : World) (P n : Nat) (s : Bs) (e : Value) (w' : World) : Prop :=
  (IsNum P s ∧ ∃ kl, w.heap.size ≤ kl ∧ e = .tuple #[.slice (some ⟨kl, 0, none⟩) n n, .int .i64 0] ∧ Shelf w' kl n n (fun j => beV s.toList ^ j % P)) ∨ (¬ IsNum P s ∧ e = .tuple #[.slice none 0 0, .int .i64 3])

theorem powrS_of {w W : World} {kp kn kw kl n i xa xb xc xd a b c d g0 g1 g2 : Nat} {f : Nat → Nat} (h : Kept w w.heap.size (⟨kw, 0, a, b, c, d⟩ :: [⟨kp, 0, g0, g1, g2, 0⟩, ⟨kn, 0, xa, xb, xc, xd⟩]) W) (hr : Shelf W kl n i f) : W.cell? ⟨kp, 0, none⟩ = some (.int .u64 (g0 : Int)) ∧ W.cell? ⟨kp, 1, none⟩ = some (.int .u64 (g1 : Int)) ∧ W.cell? ⟨kp, 2, none⟩ = some (.int .u64 (g2 : Int)) ∧ W.cell? ⟨kp, 3, none⟩ = some (.int .u64 0) ∧ W.cell? ⟨kw, 0, none⟩ = some (.int .u64 (a : Int)) ∧ W.cell? ⟨kw, 1, none⟩ = some (.int .u64 (b : Int)) ∧ W.cell? ⟨kw, 2, none⟩ = some (.int .u64 (c : Int)) ∧ W.cell? ⟨kw, 3, none⟩ = some (.int .u64 (d : Int)) ∧ W.cell? ⟨kn, 0, none⟩ = some (.int .u64 (xa : Int)) ∧ W.cell? ⟨kn, 1, none⟩ = some (.int .u64 (xb : Int)) ∧ W.cell? ⟨kn, 2, none⟩ = some (.int .u64 (xc : Int)) ∧ W.cell? ⟨kn, 3, none⟩ = some (.int .u64 (xd : Int)) ∧ Kept w w.heap.size (⟨kw, 0, a, b, c, d⟩ :: [⟨kp, 0, g0, g1, g2, 0⟩, ⟨kn, 0, xa, xb, xc, xd⟩]) W ∧ Shelf W kl n i f :=
  ⟨h.tail.head.c0, h.tail.head.c1, h.tail.head.c2, h.tail.head.c3, h.head.c0, h.head.c1, h.head.c2, h.head.c3, h.tail.tail.head.c0, h.tail.tail.head.c1, h.tail.tail.head.c2, h.tail.tail.head.c3, h, hr⟩

set_option maxHeartbeats 8000000 in
set_option maxRecDepth 100000 in
theorem Powers_any (k : Int) (g0 g1 g2 P n : Nat) (va : Value) (s : Bs) (hG : Gap g0 g1 g2 P) (w : World) (hn : n ≤ 256) (hp : PrimeOf k g0 g1 g2) (ha : Arg w va s) :
    Calls Try.prog 25 #[.int .i64 k, va, .int .i64 (n : Int)] w (Ret fun e w' => Below w.heap.size w w' ∧ PowR w P n s e w') := by
  have HP : Hid (PrimeOf k g0 g1 g2) := hp
  have HA : Hid (Arg w va s) := ha
  have HG : Hid (Gap g0 g1 g2 P) := hG
  obtain ⟨pa, na, ca, rfl, -⟩ := id ha
  have HMK : Hid (∀ w : World, (Instr.makeSlice 46 (.int .i64 (n : Int)) (.int .i64 (n : Int))).run Try.prog w = .ok (.slice (some ⟨w.heap.size, 0, none⟩) n n) (w.alloc (.cells (madeCells #[.slice none 0 0] n) 23))) :=
    run_make_row' (P := Try.prog) 46 23 (.slice none 0 0) 24 sliceB infoB rfl .i64 .i64 n (by omega) (by omega)
  have d1 : ¬ (n : Int) < 0 := by omega
  have d2 : ¬ (256 : Int) < (n : Int) := by omega
  clear hp hG ha
  go_enter Try.func25, Try.ntmps25
  go_wp2_with fail
  refine (HP.out _).mono ?_
  rintro e w1 ⟨v, rfl, hb1, rfl⟩
  go_wp2_with fail
  have KP := ((Kept.mk1 hb1 hb1.size).alloc (.cells #[.int .u64 (g0 : Int), .int .u64 (g1 : Int), .int .u64 (g2 : Int), .int .u64 0] 79)).cons (At4.made w1 79 g0 g1 g2 0 rfl).blk
  have hA := args_one HA.out KP.bl 23
  rw [World.size_alloc] at hA
  replace KP := KP.alloc (.cells #[.slice pa na ca] 23)
  clear hb1
  generalize World.alloc _ _ = W0 at KP hA ⊢
  generalize w1.heap.size = kp at KP hA ⊢
  refine (numbers_any g0 g1 g2 P 1 1 _ (fun _ => s) HG.out _ (by decide) hA).mono ?_
  rintro e w2 ⟨v, rfl, hb2, h2⟩
  replace KP := KP.call hb2
  clear hb2 hA
  rcases h2 with ⟨hall, kn, hkn, rfl, NM⟩ | ⟨hno, rfl⟩
  · have HBO : Hid (IsNum P s) := hall 0 (by decide)
    clear hall hkn
    obtain ⟨xa, xb, xc, xd, X, hX⟩ := NM 0 (by decide)
    have HX : Hid (Four _ (beV s.toList)) := hX (by decide)
    replace X : (Blk.mk kn 0 xa xb xc xd).at w2 := X
    replace KP : Kept w w.heap.size [⟨kp, 0, g0, g1, g2, 0⟩, ⟨kn, 0, xa, xb, xc, xd⟩] w2 := ((Kept.mk1 KP.bl KP.le).cons X).cons KP.head
    clear NM hX X
    have hmk := HMK.out
    go_wp2
    clear hmk
    have NM := Shelf.made w2 n (fun j => beV s.toList ^ j % P)
    have KW := ((KP.alloc (.cells (madeCells #[.slice none 0 0] n) 23)).alloc (.cells #[.int .u64 1, .int .u64 0, .int .u64 0, .int .u64 0] 85)).cons (At4.made (w2.alloc (.cells (madeCells #[.slice none 0 0] n) 23)) 85 1 0 0 0 (World.size_alloc _ _)).blk
    replace NM := NM.call (below1 _ (.cells #[.int .u64 1, .int .u64 0, .int .u64 0, .int .u64 0] 85))
    have QL : Hid (w.heap.size ≤ w2.heap.size) := KP.le
    have hlt := KP.lts
    clear KP
    generalize World.alloc _ _ = W3 at KW NM ⊢
    generalize hkw : w2.heap.size + 1 = kw at KW ⊢
    generalize hkl : w2.heap.size = kl at NM QL hlt ⊢
    have nlw : kw ≠ kl := by omega
    have HKO : Hid (kl < kw) := by unfold Hid; omega
    have hlw : ∀ x ∈ ([⟨kp, 0, g0, g1, g2, 0⟩, ⟨kn, 0, xa, xb, xc, xd⟩] : List Blk), kw ≠ x.k := fun x hx => by have := hlt x hx; omega
    have hll : ∀ x ∈ ([⟨kp, 0, g0, g1, g2, 0⟩, ⟨kn, 0, xa, xb, xc, xd⟩] : List Blk), kl ≠ x.k := fun x hx => by have := hlt x hx; omega
    have QW : Hid (w.heap.size ≤ kw) := by have := QL.out; unfold Hid; omega
    clear hkw hkl hlt
    go_loopg [43] n (fun gk s43 wr => ∃ i a b c d : Nat, i + gk = n ∧ s43 = .int .i64 (i : Int) ∧ Kept w w.heap.size (⟨kw, 0, a, b, c, d⟩ :: [⟨kp, 0, g0, g1, g2, 0⟩, ⟨kn, 0, xa, xb, xc, xd⟩]) wr ∧ Shelf wr kl n i (fun j => beV s.toList ^ j % P) ∧ (∀ (G : Nat → Nat), (∀ j, j < i → wr.cell? ⟨kl, j, none⟩ = some (.slice (some ⟨G j, 0, none⟩) 32 32)) → ∀ j, j < i → kw < G j) ∧ Hid (Four (.agg #[.int .u64 (a : Int), .int .u64 (b : Int), .int .u64 (c : Int), .int .u64 (d : Int)]) (beV s.toList ^ i % P)))
    case atStart =>
      refine ⟨0, 1, 0, 0, 0, Nat.zero_add _, rfl, KW, NM, fun G hG j hj => by omega, ?_⟩
      have h1 := HG.out.hP2
      have h2 : 3 < top := by decide
      rw [Nat.pow_zero, Nat.mod_eq_of_lt (by omega)]
      exact Four.mk (by decide) (by decide) (by decide) (by decide) rfl
    case round =>
      clear KW NM
      obtain ⟨i, a, b, c, d, hi, rfl, KP, NM, hgt, HF⟩ := hrel
      by_cases hlt : i < n
      · have hlt' : (i : Int) < (n : Int) := by omega
        obtain ⟨tc0, tc1, tc2, tc3, tf⟩ := KP.head.at4
        have zt := KP.head.lt
        have HGT : Hid _ := hgt
        clear hgt
        go_wp2_with fail
        clear tc0 tc1 tc2 tc3 tf zt
        refine (bytes_of _ _ _ HF.out).mono ?_
        rintro e w3 ⟨v, rfl, hb3, hv⟩
        have hgB : ∃ g, v = .slice (some ⟨g, 0, none⟩) 32 32 ∧ At32 w3 g (beV s.toList ^ i % P) ∧ wr.heap.size ≤ g := by
          obtain ⟨g, h1, h2⟩ := At32.of hv
          obtain ⟨g', x1, x2, x3, x4, h3, h4, -⟩ := hv
          rw [h1] at h3
          injection h3 with e1 _ _
          injection e1 with e1
          injection e1 with e1 _ _
          exact ⟨g, h1, h2, by omega⟩
        obtain ⟨gb, rfl, hgb, hgs⟩ := hgB
        clear hv
        have hltw : kw < wr.heap.size := KP.head.lt
        have hltl := NM.lt
        have hbs := fun G hG j hj => (NM.below_size G hG j hj).2
        have NM3 := NM.call hb3
        have HG3 : Hid (∀ (G : Nat → Nat), (∀ j, j < i → w3.cell? ⟨kl, j, none⟩ = some (.slice (some ⟨G j, 0, none⟩) 32 32)) → ∀ j, j < i → kw < G j ∧ G j < gb) := fun G hG j hj => by
          have hG' : ∀ j, j < i → wr.cell? ⟨kl, j, none⟩ = some (.slice (some ⟨G j, 0, none⟩) 32 32) := fun j hj => by rw [← hb3.cell (p := ⟨kl, j, none⟩) hltl]; exact hG j hj
          exact ⟨HGT.out G hG' j hj, Nat.lt_of_lt_of_le (hbs G hG' j hj) hgs⟩
        have HKG : Hid (kl < gb ∧ kw < gb) := ⟨by omega, by omega⟩
        replace KP := KP.call hb3
        obtain ⟨v0, hv0⟩ := NM3.all i hlt
        have cf := NM3.fz
        have cz := NM3.lt
        clear hb3 hbs hltw hltl hgs NM HGT
        go_upto_region 15 with fail
        clear cf cz
        have NM4 := NM3.put hlt hgb HKG.out.1 (fun G hG j hj => (HG3.out G hG j hj).2)
        have KP4 := KP.set (j := kl) (i := i) QL.out (by simp only [List.mem_cons, List.not_mem_nil, or_false]; rintro x (rfl | rfl | rfl); exact nlw.symm; exact hll ⟨kp, 0, g0, g1, g2, 0⟩ (by simp); exact hll ⟨kn, 0, xa, xb, xc, xd⟩ (by simp)) (.slice (some ⟨gb, 0, none⟩) 32 32)
        have HG4 : Hid (∀ (G : Nat → Nat), (∀ j, j < i + 1 → (w3.setCell ⟨kl, i, none⟩ (.slice (some ⟨gb, 0, none⟩) 32 32)).cell? ⟨kl, j, none⟩ = some (.slice (some ⟨G j, 0, none⟩) 32 32)) → ∀ j, j < i + 1 → kw < G j) := fun G hG j hj => by
          by_cases hji : j = i
          · subst hji
            have h1 := hG j (by omega)
            rw [World.cell?_setCell_same _ _ _ hv0] at h1
            injection h1 with e
            injection e with e1 _ _
            injection e1 with e1
            injection e1 with e1 _ _
            have := HKG.out.2
            omega
          · refine (HG3.out G (fun j' hj' => ?_) j (by omega)).1
            have h1 := hG j' (by omega)
            rw [World.cell?_setCell_other _ _ _ _ (ne_addr (Or.inr (by omega)))] at h1
            exact h1
        clear NM3 KP hgb HG3 hv0
        generalize World.setCell _ _ _ = W5 at NM4 KP4 HG4 ⊢
        refine anyTill.begin (fun w' => w'.cell? ⟨kp, 0, none⟩ = some (.int .u64 (g0 : Int)) ∧ w'.cell? ⟨kp, 1, none⟩ = some (.int .u64 (g1 : Int)) ∧ w'.cell? ⟨kp, 2, none⟩ = some (.int .u64 (g2 : Int)) ∧ w'.cell? ⟨kp, 3, none⟩ = some (.int .u64 0) ∧ w'.cell? ⟨kw, 0, none⟩ = some (.int .u64 (a : Int)) ∧ w'.cell? ⟨kw, 1, none⟩ = some (.int .u64 (b : Int)) ∧ w'.cell? ⟨kw, 2, none⟩ = some (.int .u64 (c : Int)) ∧ w'.cell? ⟨kw, 3, none⟩ = some (.int .u64 (d : Int)) ∧ w'.cell? ⟨kn, 0, none⟩ = some (.int .u64 (xa : Int)) ∧ w'.cell? ⟨kn, 1, none⟩ = some (.int .u64 (xb : Int)) ∧ w'.cell? ⟨kn, 2, none⟩ = some (.int .u64 (xc : Int)) ∧ w'.cell? ⟨kn, 3, none⟩ = some (.int .u64 (xd : Int)) ∧ Kept w w.heap.size (⟨kw, 0, a, b, c, d⟩ :: [⟨kp, 0, g0, g1, g2, 0⟩, ⟨kn, 0, xa, xb, xc, xd⟩]) w' ∧ Shelf w' kl n (i + 1) (fun j => beV s.toList ^ j % P)) 6 mixed (powrS_of KP4.drew NM4.drew) (fun hS => ?_)
        refine anyTill.take (i := 0) (v := ?_) rfl (by kernel_rfl) (by kernel_rfl) (by kernel_rfl) (by kernel_rfl) (by kernel_rfl) (fun _ _ _ h => h) (Or.inl ⟨by rfl, ?_⟩) hS ?_
        rotate_left
        · intro w hSw
          (try dsimp only at hSw)
          go_simp
          try (with_reducible rfl)
        simp only [Act.put, List.setIfInBounds_toArray]
        refine anyTill.take (i := 1) (v := ?_) rfl (by kernel_rfl) (by kernel_rfl) (by kernel_rfl) (by kernel_rfl) (by kernel_rfl) (fun _ _ _ h => h) (Or.inl ⟨by rfl, ?_⟩) hS ?_
        rotate_left
        · intro w hSw
          (try dsimp only at hSw)
          go_simp
          try (with_reducible rfl)
        simp only [Act.put]
        refine anyTill.take (i := 2) (v := ?_) rfl (by kernel_rfl) (by kernel_rfl) (by kernel_rfl) (by kernel_rfl) (by kernel_rfl) (fun _ _ _ h => h) (Or.inl ⟨by rfl, ?_⟩) hS ?_
        rotate_left
        · intro w hSw
          (try dsimp only at hSw)
          go_simp
          try (with_reducible rfl)
        simp only [Act.put]
        refine anyTill.take (i := 3) (v := ?_) rfl (by kernel_rfl) (by kernel_rfl) (by kernel_rfl) (by kernel_rfl) (by kernel_rfl) (fun _ _ _ h => h) (Or.inl ⟨by rfl, ?_⟩) hS ?_
        rotate_left
        · intro w hSw
          (try dsimp only at hSw)
          go_simp
          try (with_reducible rfl)
        simp only [Act.put]
        refine anyTill.take (i := 4) (v := ?_) rfl (by kernel_rfl) (by kernel_rfl) (by kernel_rfl) (by kernel_rfl) (by kernel_rfl) (fun _ _ _ h => h) (Or.inl ⟨by rfl, ?_⟩) hS ?_
        rotate_left
        · intro w hSw
          (try dsimp only at hSw)
          go_simp
          try (with_reducible rfl)
        simp only [Act.put]
        try simp only [List.set_cons_zero, List.set_cons_succ]
        refine anyTill.step (i := 5) rfl (by kernel_rfl) (fun K hK => ?_)
        go_simp
        refine (Times_any g0 g1 g2 P _ _ _ _ HG.out HF.out HX.out _).mono ?_
        rintro e w6 ⟨v, rfl, hb6, hF3⟩
        rw [pow_step_mod] at hF3
        obtain ⟨ua, ub, uc, ud, rfl, -⟩ := id hF3
        have HFU : Hid (Four _ _) := hF3
        clear hF3 hS HF
        have KP6 := KP4.drew.call hb6
        have NM6 := NM4.drew.call hb6
        have HG6 : Hid (∀ (G : Nat → Nat), (∀ j, j < i + 1 → w6.cell? ⟨kl, j, none⟩ = some (.slice (some ⟨G j, 0, none⟩) 32 32)) → ∀ j, j < i + 1 → kw < G j) := fun G hG j hj =>
          HG4.out G (fun j hj => by rw [← hG j hj, hb6.cell (p := ⟨kl, j, none⟩) NM4.drew.lt]; rfl) j hj
        clear hb6 KP4 NM4 HG4
        refine hK.out _ _ (fun _ => powrS_of KP6 NM6) ?_
        clear hK K
        try simp only [Act.put, List.setIfInBounds_toArray, List.set_cons_zero, List.set_cons_succ]
        obtain ⟨tc0, tc1, tc2, tc3, tf⟩ := KP6.head.at4
        have zt := KP6.head.lt
        refine anyTill.step (i := 6) rfl (by kernel_rfl) (fun K hK => ?_)
        go_simp
        refine hK.out _ _ (fun h => Bool.noConfusion h) ?_
        clear hK K
        try simp only [Act.put, List.setIfInBounds_toArray, List.set_cons_zero, List.set_cons_succ]
        refine anyTill.done (by kernel_rfl) ?_ _
        clear tc0 tc1 tc2 tc3 tf zt
        go_wp2
        go_roundg (gk - 1)
        case measure => omega
        case rel =>
          refine ⟨i + 1, ua, ub, uc, ud, by omega, rfl, KP6.put QW.out hlw ua ub uc ud, NM6.set4 nlw (fun G hG j hj => Nat.ne_of_lt (HG6.out G hG j hj)) _ _ _ _, fun G hG j hj => HG6.out G (fun j hj => ?_) j hj, HFU⟩
          have h1 := hG j hj
          rw [World.cell?_setCell_other _ _ _ _ (ne_addr (Or.inl nlw)), World.cell?_setCell_other _ _ _ _ (ne_addr (Or.inl nlw)), World.cell?_setCell_other _ _ _ _ (ne_addr (Or.inl nlw)), World.cell?_setCell_other _ _ _ _ (ne_addr (Or.inl nlw))] at h1
          exact h1
      · have hge : ¬ (i : Int) < (n : Int) := by omega
        have HIN : Hid (i = n) := by unfold Hid; omega
        go_wp2
        go_ret2
        refine ⟨_, rfl, KP.bl, Or.inl ⟨HBO.out, kl, QL.out, rfl, ?_⟩⟩
        rw [HIN.out] at NM
        exact NM
  · have HN : Hid (¬ IsNum P s) := by obtain ⟨j, -, h⟩ := hno; exact h
    clear hno
    go_wp2
    go_ret2
    exact ⟨_, rfl, KP.bl, Or.inr ⟨HN.out, rfl⟩⟩

set_option maxHeartbeats 1000000 in
theorem Powers_long (k : Int) (g0 g1 g2 : Nat) (n : Int) (va : Value) (w : World) (hn : n < 0 ∨ 256 < n) (hp : PrimeOf k g0 g1 g2) :
    Calls Try.prog 25 #[.int .i64 k, va, .int .i64 n] w (Ret fun e w' => Below w.heap.size w w' ∧ e = .tuple #[.slice none 0 0, .int .i64 1]) := by
  have HP : Hid (PrimeOf k g0 g1 g2) := hp
  clear hp
  by_cases h0 : n < 0
  · go_enter Try.func25, Try.ntmps25
    go_wp2_with fail
    refine (HP.out _).mono ?_
    rintro e w1 ⟨v, rfl, hb1, rfl⟩
    go_wp2
    go_ret2
    exact ⟨_, rfl, hb1.alloc hb1.size _, rfl⟩
  · have h1 : 256 < n := hn.resolve_left h0
    go_enter Try.func25, Try.ntmps25
    go_wp2_with fail
    refine (HP.out _).mono ?_
    rintro e w1 ⟨v, rfl, hb1, rfl⟩
    go_wp2
    go_ret2
    exact ⟨_, rfl, hb1.alloc hb1.size _, rfl⟩
set_option maxHeartbeats 1000000 in
theorem Powers_no (k : Int) (hk : k < 0 ∨ 2 ≤ k) (va vn : Value) (w : World) :
    Calls Try.prog 25 #[.int .i64 k, va, vn] w (Ret fun e w' => Below w.heap.size w w' ∧ e = .tuple #[.slice none 0 0, .int .i64 2]) := by
  go_enter Try.func25, Try.ntmps25
  go_wp2_with fail
  refine (primeOf_n k hk _).mono ?_
  rintro e w1 ⟨v, rfl, hb1, rfl⟩
  go_wp2
  go_ret2
  exact ⟨_, rfl, hb1.alloc hb1.size _, rfl⟩
end Go.Proofs.Ytbimbalfdmffaab
namespace Go.Proofs.Ytbimbalfdmffaab
open Go.RowKit Go.Sort Go.Deep

/-- The sum of products, as far as i. -/
def dsum (P : Nat) (f h : Nat → Nat) : Nat → Nat
  | 0 => 0
  | i + 1 => (dsum P f h i + f i * h i % P) % P
theorem dsum_lt {P : Nat} (hP : 0 < P) (f h : Nat → Nat) : ∀ i, dsum P f h i < P
  | 0 => hP
  | _ + 1 => Nat.mod_lt _ hP

theorem Nums.other {W : World} {k n i g o : Nat} {f : Nat → Nat} (h : Nums W k n i f) (hg : g ≠ k) (v : Value) : Nums (W.setCell ⟨g, o, none⟩ v) k n i f := fun j hj => by
  obtain ⟨a, b, c, d, h1, h2⟩ := h j hj
  exact ⟨a, b, c, d, h1.other hg v, h2⟩
theorem Nums.other4 {W : World} {k n i g : Nat} {f : Nat → Nat} (h : Nums W k n i f) (hg : g ≠ k) (x y z t : Value) :
    Nums ((((W.setCell ⟨g, 0, none⟩ x).setCell ⟨g, 1, none⟩ y).setCell ⟨g, 2, none⟩ z).setCell ⟨g, 3, none⟩ t) k n i f := (((h.other hg x).other hg y).other hg z).other hg t

/-- What Dot answers. -/
def DotR (w : World) (P n m : Nat) (L M : Nat → Bs) (e : Value) (w' : World) : Prop :=
  ((∀ j, j < n → IsNum P (L j)) ∧ (∀ j, j < m → IsNum P (M j)) ∧ n = m ∧ ∃ v, e = .tuple #[v, .int .i64 0] ∧ IsBytes w' w.heap.size v (dsum P (fun j => beV (L j).toList) (fun j => beV (M j).toList) n)) ∨
  ((∀ j, j < n → IsNum P (L j)) ∧ (∀ j, j < m → IsNum P (M j)) ∧ ¬ n = m ∧ e = .tuple #[.slice none 0 0, .int .i64 2]) ∨
  (((∃ j, j < n ∧ ¬ IsNum P (L j)) ∨ (∃ j, j < m ∧ ¬ IsNum P (M j))) ∧ e = .tuple #[.slice none 0 0, .int .i64 3])

theorem Args.below {w w1 : World} {q : Option Addr} {n : Nat} {L : Nat → Bs} (h : Args w q n L) (hb : Below w.heap.size w w1) : Args w1 q n L := fun hn => by
  obtain ⟨gg, h1, h2, h3⟩ := h hn
  refine ⟨gg, h1, Nat.lt_of_lt_of_le h2 hb.size, fun j hj => ?_⟩
  obtain ⟨v, h4, h5⟩ := h3 j hj
  exact ⟨v, by rw [hb.cell (p := ⟨gg, j, none⟩) h2]; exact h4, h5.below hb⟩

theorem dotS_of {w W : World} {kp ks kl kr n i la lb lc ld ra rb rc rd a b c d g0 g1 g2 : Nat} {f h : Nat → Nat} (hk : Kept w w.heap.size [⟨ks, 0, a, b, c, d⟩, ⟨kp, 0, g0, g1, g2, 0⟩, ⟨kl, i * 4, la, lb, lc, ld⟩, ⟨kr, i * 4, ra, rb, rc, rd⟩] W) (h1 : Nums W kl n n f) (h2 : Nums W kr n n h) : W.cell? ⟨kp, 0, none⟩ = some (.int .u64 (g0 : Int)) ∧ W.cell? ⟨kp, 1, none⟩ = some (.int .u64 (g1 : Int)) ∧ W.cell? ⟨kp, 2, none⟩ = some (.int .u64 (g2 : Int)) ∧ W.cell? ⟨kp, 3, none⟩ = some (.int .u64 0) ∧ W.cell? ⟨ks, 0, none⟩ = some (.int .u64 (a : Int)) ∧ W.cell? ⟨ks, 1, none⟩ = some (.int .u64 (b : Int)) ∧ W.cell? ⟨ks, 2, none⟩ = some (.int .u64 (c : Int)) ∧ W.cell? ⟨ks, 3, none⟩ = some (.int .u64 (d : Int)) ∧ W.cell? ⟨kl, i * 4, none⟩ = some (.int .u64 (la : Int)) ∧ W.cell? ⟨kl, i * 4 + 1, none⟩ = some (.int .u64 (lb : Int)) ∧ W.cell? ⟨kl, i * 4 + 2, none⟩ = some (.int .u64 (lc : Int)) ∧ W.cell? ⟨kl, i * 4 + 3, none⟩ = some (.int .u64 (ld : Int)) ∧ W.cell? ⟨kr, i * 4, none⟩ = some (.int .u64 (ra : Int)) ∧ W.cell? ⟨kr, i * 4 + 1, none⟩ = some (.int .u64 (rb : Int)) ∧ W.cell? ⟨kr, i * 4 + 2, none⟩ = some (.int .u64 (rc : Int)) ∧ W.cell? ⟨kr, i * 4 + 3, none⟩ = some (.int .u64 (rd : Int)) ∧ Kept w w.heap.size [⟨ks, 0, a, b, c, d⟩, ⟨kp, 0, g0, g1, g2, 0⟩, ⟨kl, i * 4, la, lb, lc, ld⟩, ⟨kr, i * 4, ra, rb, rc, rd⟩] W ∧ Nums W kl n n f ∧ Nums W kr n n h :=
  ⟨hk.tail.head.c0, hk.tail.head.c1, hk.tail.head.c2, hk.tail.head.c3, hk.head.c0, hk.head.c1, hk.head.c2, hk.head.c3, hk.tail.tail.head.c0, hk.tail.tail.head.c1, hk.tail.tail.head.c2, hk.tail.tail.head.c3, hk.tail.tail.tail.head.c0, hk.tail.tail.tail.head.c1, hk.tail.tail.tail.head.c2, hk.tail.tail.tail.head.c3, hk, h1, h2⟩

set_option maxHeartbeats 8000000 in
set_option maxRecDepth 100000 in
theorem Dot_any (k : Int) (g0 g1 g2 P n m ca cb : Nat) (qa qb : Option Addr) (L M : Nat → Bs) (hG : Gap g0 g1 g2 P) (w : World) (hn : n ≤ 256) (hm : m ≤ 256) (hp : PrimeOf k g0 g1 g2) (hA : Args w qa n L) (hB : Args w qb m M) :
    Calls Try.prog 26 #[.int .i64 k, .slice qa n ca, .slice qb m cb] w (Ret fun e w' => Below w.heap.size w w' ∧ DotR w P n m L M e w') := by
  have HP : Hid (PrimeOf k g0 g1 g2) := hp
  have HA : Hid (Args w qa n L) := hA
  have HB : Hid (Args w qb m M) := hB
  have HG : Hid (Gap g0 g1 g2 P) := hG
  have d1 : ¬ (256 : Int) < (n : Int) := by omega
  have d2 : ¬ (256 : Int) < (m : Int) := by omega
  have HPOS : Hid (0 < P) := by have h1 := hG.hP2; have h2 : 3 < top := by decide
                                unfold Hid; omega
  clear hp hG hA hB
  go_enter Try.func26, Try.ntmps26
  go_wp2_with fail
  refine (HP.out _).mono ?_
  rintro e w1 ⟨v, rfl, hb1, rfl⟩
  go_wp2_with fail
  have KP := ((Kept.mk1 hb1 hb1.size).alloc (.cells #[.int .u64 (g0 : Int), .int .u64 (g1 : Int), .int .u64 (g2 : Int), .int .u64 0] 79)).cons (At4.made w1 79 g0 g1 g2 0 rfl).blk
  clear hb1
  generalize World.alloc _ _ = W0 at KP ⊢
  generalize w1.heap.size = kp at KP ⊢
  refine (numbers_any g0 g1 g2 P n ca _ L HG.out _ (by omega) (HA.out.below KP.bl)).mono ?_
  rintro e w2 ⟨v, rfl, hb2, h2⟩
  have hsz := KP.le
  replace KP := KP.call hb2
  clear hb2
  rcases h2 with ⟨hall, kl, hkl, rfl, NL⟩ | ⟨hno, rfl⟩
  · have HL : Hid (∀ j, j < n → IsNum P (L j)) := hall
    have QL : Hid (w.heap.size ≤ kl) := Nat.le_trans hsz hkl
    clear hall hkl hsz
    obtain ⟨pc0, pc1, pc2, pc3, pf⟩ := KP.head.at4
    have zp := KP.head.lt
    go_wp2_with fail
    clear pc0 pc1 pc2 pc3 pf zp
    refine (numbers_any g0 g1 g2 P m cb _ M HG.out _ (by omega) (HB.out.below KP.bl)).mono ?_
    rintro e w3 ⟨v, rfl, hb3, h3⟩
    have hsz := KP.le
    replace KP := KP.call hb3
    replace NL := NL.call hb3
    clear hb3
    rcases h3 with ⟨hall, kr, hkr, rfl, NR⟩ | ⟨hno, rfl⟩
    · have HR : Hid (∀ j, j < m → IsNum P (M j)) := hall
      clear hall hsz
      by_cases hnm : n = m
      · subst hnm
        clear hkr
        go_wp2
        have KS : Kept w w.heap.size (⟨w3.heap.size, 0, 0, 0, 0, 0⟩ :: [⟨kp, 0, g0, g1, g2, 0⟩]) _ := (KP.alloc (.cells #[.int .u64 0, .int .u64 0, .int .u64 0, .int .u64 0] 85)).cons (At4.made w3 85 0 0 0 0 rfl).blk
        have NL4 := NL.call (below1 w3 (.cells #[.int .u64 0, .int .u64 0, .int .u64 0, .int .u64 0] 85))
        have NR4 := NR.call (below1 w3 (.cells #[.int .u64 0, .int .u64 0, .int .u64 0, .int .u64 0] 85))
        have nsp : w3.heap.size ≠ kp := Nat.ne_of_gt KP.head.lt
        have nsl : 0 < n → w3.heap.size ≠ kl := fun h => by obtain ⟨x1, x2, x3, x4, h1, -⟩ := NL 0 h; exact Nat.ne_of_gt h1.lt
        have nsr : 0 < n → w3.heap.size ≠ kr := fun h => by obtain ⟨x1, x2, x3, x4, h1, -⟩ := NR 0 h; exact Nat.ne_of_gt h1.lt
        have QS : Hid (w.heap.size ≤ w3.heap.size) := KP.le
        clear KP NL NR
        generalize World.alloc _ _ = W4 at KS NL4 NR4 ⊢
        generalize w3.heap.size = ks at KS nsp nsl nsr QS ⊢
        have HSL : Hid (0 < n → ks ≠ kl) := nsl
        have HSR : Hid (0 < n → ks ≠ kr) := nsr
        clear nsl nsr
        go_loopg [55] n (fun gk s55 wr => ∃ i a b c d : Nat, i + gk = n ∧ s55 = .int .i64 (i : Int) ∧ Kept w w.heap.size [⟨ks, 0, a, b, c, d⟩, ⟨kp, 0, g0, g1, g2, 0⟩] wr ∧ Nums wr kl n n (fun j => beV (L j).toList) ∧ Nums wr kr n n (fun j => beV (M j).toList) ∧ Hid (Four (.agg #[.int .u64 (a : Int), .int .u64 (b : Int), .int .u64 (c : Int), .int .u64 (d : Int)]) (dsum P (fun j => beV (L j).toList) (fun j => beV (M j).toList) i)))
        case atStart =>
          exact ⟨0, 0, 0, 0, 0, Nat.zero_add _, rfl, KS, NL4, NR4, Four.mk (by decide) (by decide) (by decide) (by decide) rfl⟩
        case round =>
          clear KS NL4 NR4
          obtain ⟨i, a, b, c, d, hi, rfl, KP0, NL, NR, HF⟩ := hrel
          by_cases hlt : i < n
          · have hlt' : (i : Int) < (n : Int) := by omega
            obtain ⟨la, lb, lc, ld, BL, hFL⟩ := NL i hlt
            obtain ⟨ra, rb, rc, rd, BR, hFR⟩ := NR i hlt
            have HFL : Hid (Four _ (beV (L i).toList)) := hFL hlt
            have HFR : Hid (Four _ (beV (M i).toList)) := hFR hlt
            have nsl : ks ≠ kl := HSL.out (by omega)
            have nsr : ks ≠ kr := HSR.out (by omega)
            have KP : Kept w w.heap.size [⟨ks, 0, a, b, c, d⟩, ⟨kp, 0, g0, g1, g2, 0⟩, ⟨kl, i * 4, la, lb, lc, ld⟩, ⟨kr, i * 4, ra, rb, rc, rd⟩] wr := ((((Kept.mk1 KP0.bl KP0.le).cons BR).cons BL).cons KP0.tail.head).cons KP0.head
            clear KP0 BL BR hFL hFR
            obtain ⟨f, hf⟩ : ∃ f, (fun j => beV (L j).toList) = f := ⟨_, rfl⟩
            obtain ⟨h, hh⟩ : ∃ h, (fun j => beV (M j).toList) = h := ⟨_, rfl⟩
            have efi : beV (L i).toList = f i := by rw [← hf]
            have ehi : beV (M i).toList = h i := by rw [← hh]
            rw [efi] at HFL
            rw [ehi] at HFR
            rw [hf, hh] at HF
            rw [hf] at NL
            rw [hh] at NR
            have HFF : Hid ((fun j => beV (L j).toList) = f ∧ (fun j => beV (M j).toList) = h) := ⟨hf, hh⟩
            have HLF : Hid (f i < P ∧ h i < P) := ⟨efi ▸ (HL.out i hlt).2, ehi ▸ (HR.out i hlt).2⟩
            clear hf hh efi ehi
            go_upto_region 18 with fail
            refine anyTill.begin (fun w' => w'.cell? ⟨kp, 0, none⟩ = some (.int .u64 (g0 : Int)) ∧ w'.cell? ⟨kp, 1, none⟩ = some (.int .u64 (g1 : Int)) ∧ w'.cell? ⟨kp, 2, none⟩ = some (.int .u64 (g2 : Int)) ∧ w'.cell? ⟨kp, 3, none⟩ = some (.int .u64 0) ∧ w'.cell? ⟨ks, 0, none⟩ = some (.int .u64 (a : Int)) ∧ w'.cell? ⟨ks, 1, none⟩ = some (.int .u64 (b : Int)) ∧ w'.cell? ⟨ks, 2, none⟩ = some (.int .u64 (c : Int)) ∧ w'.cell? ⟨ks, 3, none⟩ = some (.int .u64 (d : Int)) ∧ w'.cell? ⟨kl, i * 4, none⟩ = some (.int .u64 (la : Int)) ∧ w'.cell? ⟨kl, i * 4 + 1, none⟩ = some (.int .u64 (lb : Int)) ∧ w'.cell? ⟨kl, i * 4 + 2, none⟩ = some (.int .u64 (lc : Int)) ∧ w'.cell? ⟨kl, i * 4 + 3, none⟩ = some (.int .u64 (ld : Int)) ∧ w'.cell? ⟨kr, i * 4, none⟩ = some (.int .u64 (ra : Int)) ∧ w'.cell? ⟨kr, i * 4 + 1, none⟩ = some (.int .u64 (rb : Int)) ∧ w'.cell? ⟨kr, i * 4 + 2, none⟩ = some (.int .u64 (rc : Int)) ∧ w'.cell? ⟨kr, i * 4 + 3, none⟩ = some (.int .u64 (rd : Int)) ∧ Kept w w.heap.size [⟨ks, 0, a, b, c, d⟩, ⟨kp, 0, g0, g1, g2, 0⟩, ⟨kl, i * 4, la, lb, lc, ld⟩, ⟨kr, i * 4, ra, rb, rc, rd⟩] w' ∧ Nums w' kl n n f ∧ Nums w' kr n n h) 13 mixed (dotS_of KP.drew NL.drew NR.drew) (fun hS => ?_)
            refine anyTill.take (i := 0) (v := ?_) rfl (by kernel_rfl) (by kernel_rfl) (by kernel_rfl) (by kernel_rfl) (by kernel_rfl) (fun _ _ _ h => h) (Or.inl ⟨by rfl, ?_⟩) hS ?_
            rotate_left
            · intro w hSw
              (try dsimp only at hSw)
              go_simp
              try (with_reducible rfl)
            simp only [Act.put, List.setIfInBounds_toArray]
            refine anyTill.take (i := 1) (v := ?_) rfl (by kernel_rfl) (by kernel_rfl) (by kernel_rfl) (by kernel_rfl) (by kernel_rfl) (fun _ _ _ h => h) (Or.inl ⟨by rfl, ?_⟩) hS ?_
            rotate_left
            · intro w hSw
              (try dsimp only at hSw)
              go_simp
              try (with_reducible rfl)
            simp only [Act.put]
            refine anyTill.take (i := 2) (v := ?_) rfl (by kernel_rfl) (by kernel_rfl) (by kernel_rfl) (by kernel_rfl) (by kernel_rfl) (fun _ _ _ h => h) (Or.inl ⟨by rfl, ?_⟩) hS ?_
            rotate_left
            · intro w hSw
              (try dsimp only at hSw)
              go_simp
              try (with_reducible rfl)
            simp only [Act.put]
            refine anyTill.take (i := 3) (v := ?_) rfl (by kernel_rfl) (by kernel_rfl) (by kernel_rfl) (by kernel_rfl) (by kernel_rfl) (fun _ _ _ h => h) (Or.inl ⟨by rfl, ?_⟩) hS ?_
            rotate_left
            · intro w hSw
              (try dsimp only at hSw)
              go_simp
              try (with_reducible rfl)
            simp only [Act.put]
            refine anyTill.take (i := 4) (v := ?_) rfl (by kernel_rfl) (by kernel_rfl) (by kernel_rfl) (by kernel_rfl) (by kernel_rfl) (fun _ _ _ h => h) (Or.inl ⟨by rfl, ?_⟩) hS ?_
            rotate_left
            · intro w hSw
              (try dsimp only at hSw)
              go_simp
              try (with_reducible rfl)
            simp only [Act.put]
            refine anyTill.take (i := 5) (v := ?_) rfl (by kernel_rfl) (by kernel_rfl) (by kernel_rfl) (by kernel_rfl) (by kernel_rfl) (fun _ _ _ h => h) (Or.inl ⟨by rfl, ?_⟩) hS ?_
            rotate_left
            · intro w hSw
              (try dsimp only at hSw)
              go_simp
              try (with_reducible rfl)
            simp only [Act.put]
            refine anyTill.take (i := 6) (v := ?_) rfl (by kernel_rfl) (by kernel_rfl) (by kernel_rfl) (by kernel_rfl) (by kernel_rfl) (fun _ _ _ h => h) (Or.inl ⟨by rfl, ?_⟩) hS ?_
            rotate_left
            · intro w hSw
              (try dsimp only at hSw)
              go_simp
              try (with_reducible rfl)
            simp only [Act.put]
            refine anyTill.take (i := 7) (v := ?_) rfl (by kernel_rfl) (by kernel_rfl) (by kernel_rfl) (by kernel_rfl) (by kernel_rfl) (fun _ _ _ h => h) (Or.inl ⟨by rfl, ?_⟩) hS ?_
            rotate_left
            · intro w hSw
              (try dsimp only at hSw)
              go_simp
              try (with_reducible rfl)
            simp only [Act.put]
            refine anyTill.take (i := 8) (v := ?_) rfl (by kernel_rfl) (by kernel_rfl) (by kernel_rfl) (by kernel_rfl) (by kernel_rfl) (fun _ _ _ h => h) (Or.inl ⟨by rfl, ?_⟩) hS ?_
            rotate_left
            · intro w hSw
              (try dsimp only at hSw)
              go_simp
              try (with_reducible rfl)
            simp only [Act.put]
            refine anyTill.take (i := 9) (v := ?_) rfl (by kernel_rfl) (by kernel_rfl) (by kernel_rfl) (by kernel_rfl) (by kernel_rfl) (fun _ _ _ h => h) (Or.inl ⟨by rfl, ?_⟩) hS ?_
            rotate_left
            · intro w hSw
              (try dsimp only at hSw)
              go_simp
              try (with_reducible rfl)
            simp only [Act.put]
            refine anyTill.take (i := 10) (v := ?_) rfl (by kernel_rfl) (by kernel_rfl) (by kernel_rfl) (by kernel_rfl) (by kernel_rfl) (fun _ _ _ h => h) (Or.inl ⟨by rfl, ?_⟩) hS ?_
            rotate_left
            · intro w hSw
              (try dsimp only at hSw)
              go_simp
              try (with_reducible rfl)
            simp only [Act.put]
            try simp only [List.set_cons_zero, List.set_cons_succ]
            refine anyTill.step (i := 11) rfl (by kernel_rfl) (fun K hK => ?_)
            go_simp
            refine (Times_any g0 g1 g2 P _ _ _ _ HG.out HFL.out HFR.out _).mono ?_
            rintro e w6 ⟨v, rfl, hb6, hF3⟩
            obtain ⟨ua, ub, uc, ud, rfl, -⟩ := id hF3
            have HFU : Hid (Four _ _) := hF3
            clear hF3 hS
            have KP6 := KP.drew.call hb6
            have NL6 := NL.drew.call hb6
            have NR6 := NR.drew.call hb6
            clear hb6 KP NL NR
            refine hK.out _ _ (fun _ => dotS_of KP6 NL6 NR6) ?_
            clear hK K
            try simp only [Act.put, List.setIfInBounds_toArray, List.set_cons_zero, List.set_cons_succ]
            refine anyTill.step (i := 12) rfl (by kernel_rfl) (fun K hK => ?_)
            go_simp
            refine (Plus_any g0 g1 g2 P _ _ _ _ HG.out HF.out HFU.out (dsum_lt HPOS.out _ _ _) (Nat.mod_lt _ HPOS.out) _).mono ?_
            rintro e w7 ⟨v, rfl, hb7, hF3⟩
            obtain ⟨va, vb, vc, vd, rfl, -⟩ := id hF3
            have HFV : Hid (Four _ (dsum P f h (i + 1))) := hF3
            clear hF3 HF HFU
            have KP7 := KP6.call hb7
            have NL7 := NL6.call hb7
            have NR7 := NR6.call hb7
            clear hb7 KP6 NL6 NR6
            refine hK.out _ _ (fun _ => dotS_of KP7 NL7 NR7) ?_
            clear hK K
            try simp only [Act.put, List.setIfInBounds_toArray, List.set_cons_zero, List.set_cons_succ]
            obtain ⟨tc0, tc1, tc2, tc3, tf⟩ := KP7.head.at4
            have zt := KP7.head.lt
            refine anyTill.step (i := 13) rfl (by kernel_rfl) (fun K hK => ?_)
            go_simp
            refine hK.out _ _ (fun h => Bool.noConfusion h) ?_
            clear hK K
            try simp only [Act.put, List.setIfInBounds_toArray, List.set_cons_zero, List.set_cons_succ]
            refine anyTill.done (by kernel_rfl) ?_ _
            clear tc0 tc1 tc2 tc3 tf zt
            go_wp2
            go_roundg (gk - 1)
            case measure => omega
            case rel =>
              rw [HFF.out.1, HFF.out.2]
              have K8 : Kept w w.heap.size [⟨ks, 0, a, b, c, d⟩, ⟨kp, 0, g0, g1, g2, 0⟩] w7 := ((Kept.mk1 KP7.bl KP7.le).cons KP7.tail.head).cons KP7.head
              exact ⟨i + 1, va, vb, vc, vd, by omega, rfl, K8.put QS.out (by intro x hx; rw [List.mem_singleton.1 hx]; exact nsp) va vb vc vd, NL7.other4 nsl _ _ _ _, NR7.other4 nsr _ _ _ _, HFV⟩
          · have hge : ¬ (i : Int) < (n : Int) := by omega
            have HIN : Hid (i = n) := by unfold Hid; omega
            obtain ⟨tc0, tc1, tc2, tc3, tf⟩ := KP0.head.at4
            have zt := KP0.head.lt
            go_wp2_with fail
            clear tc0 tc1 tc2 tc3 tf zt
            refine (bytes_of _ _ _ HF.out).mono ?_
            rintro e w8 ⟨v, rfl, hb8, hv⟩
            obtain ⟨g', x', y', z', u', rfl, h2⟩ := id hv
            clear h2
            rw [HIN.out] at hv
            have HV : Hid (IsBytes _ _ _ _) := hv
            clear hv
            go_wp2
            go_ret2
            exact ⟨_, rfl, KP0.bl.trans (hb8.mono KP0.le), Or.inl ⟨HL.out, HR.out, rfl, _, rfl, HV.out.mono KP0.le⟩⟩
      · have hnm' : ¬ (n : Int) = (m : Int) := by omega
        have HNM : Hid (¬ n = m) := hnm
        clear hnm
        go_wp2
        go_ret2
        exact ⟨_, rfl, KP.bl, Or.inr (Or.inl ⟨HL.out, HR.out, HNM.out, rfl⟩)⟩
    · have HN : Hid _ := hno
      clear hno
      go_wp2
      go_ret2
      exact ⟨_, rfl, KP.bl, Or.inr (Or.inr ⟨Or.inr HN.out, rfl⟩)⟩
  · have HN : Hid _ := hno
    clear hno
    go_wp2
    go_ret2
    exact ⟨_, rfl, KP.bl, Or.inr (Or.inr ⟨Or.inl HN.out, rfl⟩)⟩

set_option maxHeartbeats 1000000 in
theorem Dot_long (k : Int) (g0 g1 g2 n m ca cb : Nat) (qa qb : Option Addr) (w : World) (hn : 256 < n ∨ 256 < m) (hp : PrimeOf k g0 g1 g2) :
    Calls Try.prog 26 #[.int .i64 k, .slice qa n ca, .slice qb m cb] w (Ret fun e w' => Below w.heap.size w w' ∧ e = .tuple #[.slice none 0 0, .int .i64 1]) := by
  have HP : Hid (PrimeOf k g0 g1 g2) := hp
  clear hp
  by_cases h0 : 256 < n
  · have h0' : (256 : Int) < (n : Int) := by omega
    go_enter Try.func26, Try.ntmps26
    go_wp2_with fail
    refine (HP.out _).mono ?_
    rintro e w1 ⟨v, rfl, hb1, rfl⟩
    go_wp2
    go_ret2
    exact ⟨_, rfl, hb1.alloc hb1.size _, rfl⟩
  · have h0' : ¬ (256 : Int) < (n : Int) := by omega
    have h1' : (256 : Int) < (m : Int) := by omega
    go_enter Try.func26, Try.ntmps26
    go_wp2_with fail
    refine (HP.out _).mono ?_
    rintro e w1 ⟨v, rfl, hb1, rfl⟩
    go_wp2
    go_ret2
    exact ⟨_, rfl, hb1.alloc hb1.size _, rfl⟩
set_option maxHeartbeats 1000000 in
theorem Dot_no (k : Int) (hk : k < 0 ∨ 2 ≤ k) (va vb : Value) (w : World) :
    Calls Try.prog 26 #[.int .i64 k, va, vb] w (Ret fun e w' => Below w.heap.size w w' ∧ e = .tuple #[.slice none 0 0, .int .i64 2]) := by
  go_enter Try.func26, Try.ntmps26
  go_wp2_with fail
  refine (primeOf_n k hk _).mono ?_
  rintro e w1 ⟨v, rfl, hb1, rfl⟩
  go_wp2
  go_ret2
  exact ⟨_, rfl, hb1.alloc hb1.size _, rfl⟩
end Go.Proofs.Ytbimbalfdmffaab
namespace Go.Proofs.Ytbimbalfdmffaab
open Go.RowKit Go.Sort Go.Deep

theorem plS_of {w W : World} {k0 ky kw kl i g p0 p1 p2 p3 c0 c1 c2 c3 ya yb yc yd a b c d : Nat} {T : Bs} (h : Kept w k0 (⟨kw, 0, a, b, c, d⟩ :: [⟨k0, 0, p0, p1, p2, p3⟩, ⟨k0, 4, c0, c1, c2, c3⟩, ⟨ky, 0, ya, yb, yc, yd⟩]) W) (hk : w.heap.size = k0) (hkl : kl < w.heap.size) (hc : w.cell? ⟨kl, i, none⟩ = some (.slice (some ⟨g, 0, none⟩) 32 32)) (hH : Holds encB w g 0 T) (hT : T.size = 32) : W.cell? ⟨kw, 0, none⟩ = some (.int .u64 (a : Int)) ∧ W.cell? ⟨kw, 1, none⟩ = some (.int .u64 (b : Int)) ∧ W.cell? ⟨kw, 2, none⟩ = some (.int .u64 (c : Int)) ∧ W.cell? ⟨kw, 3, none⟩ = some (.int .u64 (d : Int)) ∧ W.cell? ⟨kl, i, none⟩ = some (.slice (some ⟨g, 0, none⟩) 32 32) ∧ (convert 23 9 (.slice (some ⟨g, 0, none⟩) 32 32)).run Try.prog W = .ok (.string ⟨T⟩) W ∧ Kept w k0 (⟨kw, 0, a, b, c, d⟩ :: [⟨k0, 0, p0, p1, p2, p3⟩, ⟨k0, 4, c0, c1, c2, c3⟩, ⟨ky, 0, ya, yb, yc, yd⟩]) W := by
  have hb : Below w.heap.size w W := by rw [hk]; exact h.bl
  exact ⟨h.head.c0, h.head.c1, h.head.c2, h.head.c3, by rw [hb.cell (p := ⟨kl, i, none⟩) hkl]; exact hc, conv_str Try.prog 23 9 5 slice22 int5 str9 _ g 0 32 32 _ (Holds.below hH hb (Holds.lt hH (by omega))) hT, h⟩

/-- The law's powers, where there are some. -/
theorem lpowers_err (p0 p1 p2 p3 c0 c1 c2 c3 P : Nat) (x : ByteArray) (hR : RefP p0 p1 p2 p3 c0 c1 c2 c3 P) (n ep : Int) (c : Nat) (q : Option Addr) (w : World) (h : ((n < 0 ∨ 256 < n) ∧ ep = 1) ∨ ((0 ≤ n ∧ n ≤ 256) ∧ ¬ IsNum P x.data ∧ ep = 3)) :
    Calls Try.prog 27 #[.agg #[.int .u64 (p0 : Int), .int .u64 (p1 : Int), .int .u64 (p2 : Int), .int .u64 (p3 : Int), .int .u64 (c0 : Int), .int .u64 (c1 : Int), .int .u64 (c2 : Int), .int .u64 (c3 : Int)], .string x, .int .i64 n, .slice q 0 c, .int .i64 ep] w (Ret fun e w' => Below w.heap.size w w' ∧ e = .bool true) := by
  have HR : Hid (RefP p0 p1 p2 p3 c0 c1 c2 c3 P) := hR
  have HH : Hid _ := h
  clear hR h
  go_enter Try.func27, Try.ntmps27
  go_wp2_with fail
  have A7 := At8.made w 35 p0 p1 p2 p3 c0 c1 c2 c3 rfl
  have hb0 := below1 w (.cells #[.int .u64 (p0 : Int), .int .u64 (p1 : Int), .int .u64 (p2 : Int), .int .u64 (p3 : Int), .int .u64 (c0 : Int), .int .u64 (c1 : Int), .int .u64 (c2 : Int), .int .u64 (c3 : Int)] 35)
  generalize World.alloc _ _ = W0 at A7 hb0 ⊢
  refine (rNumber_any p0 p1 p2 p3 c0 c1 c2 c3 P x HR.out _).mono ?_
  rintro e w1 ⟨v, rfl, hb1, xa, xb, xc, xd, am, rfl, ham, hnm⟩
  have HB : Hid (Below w.heap.size w w1) := hb0.trans (hb1.mono hb0.size)
  clear A7 hb0 hb1
  rcases HH.out with ⟨hn, rfl⟩ | ⟨hn, hno, rfl⟩
  · by_cases h0 : n < 0
    · clear HH ham hnm
      go_wp2
      go_ret
      exact ⟨_, rfl, HB.out.alloc HB.out.size _, by simp⟩
    · have h1 : 256 < n := hn.resolve_left h0
      clear HH ham hnm
      go_wp2
      go_ret
      exact ⟨_, rfl, HB.out.alloc HB.out.size _, by simp⟩
  · have h0 : ¬ n < 0 := by omega
    have h1 : ¬ 256 < n := by omega
    cases am with
    | true => exact absurd (ham rfl).1 hno
    | false =>
      clear HH ham hnm hno hn
      go_wp2
      go_ret
      exact ⟨_, rfl, HB.out.alloc HB.out.size _, by simp⟩

set_option maxHeartbeats 8000000 in
set_option maxRecDepth 100000 in
theorem lpowers_ok (p0 p1 p2 p3 c0 c1 c2 c3 P : Nat) (x : ByteArray) (hR : RefP p0 p1 p2 p3 c0 c1 c2 c3 P) (n kl : Nat) (hn : n ≤ 256) (w : World) (hx : IsNum P x.data) (hS : Shelf w kl n n (fun j => beV x.data.toList ^ j % P)) :
    Calls Try.prog 27 #[.agg #[.int .u64 (p0 : Int), .int .u64 (p1 : Int), .int .u64 (p2 : Int), .int .u64 (p3 : Int), .int .u64 (c0 : Int), .int .u64 (c1 : Int), .int .u64 (c2 : Int), .int .u64 (c3 : Int)], .string x, .int .i64 (n : Int), .slice (some ⟨kl, 0, none⟩) n n, .int .i64 0] w (Ret fun e w' => Below w.heap.size w w' ∧ e = .bool true) := by
  have HR : Hid (RefP p0 p1 p2 p3 c0 c1 c2 c3 P) := hR
  have HX : Hid (IsNum P x.data) := hx
  have HSH : Hid (Shelf w kl n n (fun j => beV x.data.toList ^ j % P)) := hS
  have h0 : ¬ (n : Int) < 0 := by omega
  have h1 : ¬ (256 : Int) < (n : Int) := by omega
  clear hR hx hS
  go_enter Try.func27, Try.ntmps27
  go_wp2_with fail
  have A7 := At8.made w 35 p0 p1 p2 p3 c0 c1 c2 c3 rfl
  have KP := ((Kept.mk1 (below1 w (.cells #[.int .u64 (p0 : Int), .int .u64 (p1 : Int), .int .u64 (p2 : Int), .int .u64 (p3 : Int), .int .u64 (c0 : Int), .int .u64 (c1 : Int), .int .u64 (c2 : Int), .int .u64 (c3 : Int)] 35)) (below1 w (.cells #[.int .u64 (p0 : Int), .int .u64 (p1 : Int), .int .u64 (p2 : Int), .int .u64 (p3 : Int), .int .u64 (c0 : Int), .int .u64 (c1 : Int), .int .u64 (c2 : Int), .int .u64 (c3 : Int)] 35)).size).cons (x := ⟨w.heap.size, 4, c0, c1, c2, c3⟩) ⟨A7.c4, A7.c5, A7.c6, A7.c7, A7.fz⟩).cons (x := ⟨w.heap.size, 0, p0, p1, p2, p3⟩) ⟨A7.c0, A7.c1, A7.c2, A7.c3, A7.fz⟩
  clear A7
  generalize World.alloc _ _ = W0 at KP ⊢
  generalize hk0 : w.heap.size = k0 at KP ⊢
  have H0 : Hid (w.heap.size = k0) := hk0
  clear hk0
  refine (rNumber_any p0 p1 p2 p3 c0 c1 c2 c3 P x HR.out _).mono ?_
  rintro e w1 ⟨v, rfl, hb1, ya, yb, yc, yd, am, rfl, ham, hnm⟩
  replace KP := KP.call hb1
  clear hb1
  cases am with
  | false => exact absurd HX.out (hnm rfl)
  | true =>
    have HY : Hid (Four _ (beV x.data.toList)) := (ham rfl).2
    clear ham hnm
    go_wp2_with fail
    have KY : Kept w k0 (⟨w1.heap.size, 0, ya, yb, yc, yd⟩ :: [⟨k0, 0, p0, p1, p2, p3⟩, ⟨k0, 4, c0, c1, c2, c3⟩]) _ := (KP.alloc (.cells #[.int .u64 (ya : Int), .int .u64 (yb : Int), .int .u64 (yc : Int), .int .u64 (yd : Int)] 33)).cons (At4.made w1 33 ya yb yc yd rfl).blk
    clear KP
    generalize World.alloc _ _ = W1 at KY ⊢
    generalize w1.heap.size = ky at KY ⊢
    refine (rSmall_any 1 (by decide) _).mono ?_
    rintro e w2 ⟨v, rfl, hb2, rfl⟩
    replace KY := KY.call hb2
    clear hb2
    go_wp2
    have KW : Kept w k0 (⟨w2.heap.size, 0, 1, 0, 0, 0⟩ :: [⟨k0, 0, p0, p1, p2, p3⟩, ⟨k0, 4, c0, c1, c2, c3⟩, ⟨ky, 0, ya, yb, yc, yd⟩]) _ := ((((Kept.mk1 (KY.alloc (.cells #[.int .u64 1, .int .u64 0, .int .u64 0, .int .u64 0] 33)).bl (KY.alloc _).le).cons (KY.alloc _).head).cons (KY.alloc _).tail.tail.head).cons (KY.alloc _).tail.head).cons (At4.made w2 33 1 0 0 0 rfl).blk
    have QW : Hid (k0 ≤ w2.heap.size) := KY.le
    have hltY := KY.lts
    clear KY
    generalize World.alloc _ _ = W2 at KW ⊢
    generalize w2.heap.size = kw at KW QW hltY ⊢
    have hlw : ∀ x ∈ ([⟨k0, 0, p0, p1, p2, p3⟩, ⟨k0, 4, c0, c1, c2, c3⟩, ⟨ky, 0, ya, yb, yc, yd⟩] : List Blk), kw ≠ x.k := by
      simp only [List.mem_cons, List.not_mem_nil, or_false]
      rintro x (rfl | rfl | rfl)
      · exact Nat.ne_of_gt (hltY ⟨k0, 0, p0, p1, p2, p3⟩ (by simp))
      · exact Nat.ne_of_gt (hltY ⟨k0, 4, c0, c1, c2, c3⟩ (by simp))
      · exact Nat.ne_of_gt (hltY ⟨ky, 0, ya, yb, yc, yd⟩ (by simp))
    have nwk : kw ≠ k0 := hlw ⟨k0, 0, p0, p1, p2, p3⟩ (by simp)
    have nwy : kw ≠ ky := hlw ⟨ky, 0, ya, yb, yc, yd⟩ (by simp)
    clear hltY
    go_loopg [14] n (fun gk s14 wr => ∃ i a b c d : Nat, i + gk = n ∧ s14 = .int .i64 (i : Int) ∧ Kept w k0 (⟨kw, 0, a, b, c, d⟩ :: [⟨k0, 0, p0, p1, p2, p3⟩, ⟨k0, 4, c0, c1, c2, c3⟩, ⟨ky, 0, ya, yb, yc, yd⟩]) wr ∧ Hid (Four (.agg #[.int .u64 (a : Int), .int .u64 (b : Int), .int .u64 (c : Int), .int .u64 (d : Int)]) (beV x.data.toList ^ i % P)))
    case atStart =>
      refine ⟨0, 1, 0, 0, 0, Nat.zero_add _, rfl, KW, ?_⟩
      have h1 := HR.out.hP2
      have h2 : 3 < top := by decide
      rw [Nat.pow_zero, Nat.mod_eq_of_lt (by omega)]
      exact Four.mk (by decide) (by decide) (by decide) (by decide) rfl
    case round =>
      clear KW
      obtain ⟨i, a, b, c, d, hi, rfl, KP, HF⟩ := hrel
      by_cases hlt : i < n
      · have hlt' : (i : Int) < (n : Int) := by omega
        obtain ⟨-, -, hkl, G, hG, -⟩ := HSH.out
        obtain ⟨hc, h32, -⟩ := hG i hlt
        obtain ⟨g, hg⟩ : ∃ g, G i = g := ⟨_, rfl⟩
        rw [hg] at hc h32
        obtain ⟨T, hT⟩ : ∃ T, bytesOf (beV x.data.toList ^ i % P) = T := ⟨_, rfl⟩
        have hTs : T.size = 32 := hT ▸ bytesOf_size _
        have hH : Holds encB w g 0 T := hT ▸ h32.2
        have HTE : Hid (be32 a b c d = T) := by
          obtain ⟨a', b', c', d', e', h1, h2, h3, h4, h5⟩ := HF.out
          simp only [Value.agg.injEq, Array.mk.injEq, List.cons.injEq, Value.int.injEq, true_and, and_true, Int.ofNat_inj] at e'
          obtain ⟨rfl, rfl, rfl, rfl⟩ := e'
          unfold Hid
          rw [← hT]
          exact bytesOf_eq h1 h2 h3 h5
        have HHH : Hid (Holds encB w g 0 T ∧ kl < w.heap.size ∧ w.cell? ⟨kl, i, none⟩ = some (.slice (some ⟨g, 0, none⟩) 32 32)) := ⟨hH, hkl, hc⟩
        clear hG hg hT h32 hH hkl hc G
        go_upto_region 12 with fail
        go_region_held3 (fun w' => w'.cell? ⟨kw, 0, none⟩ = some (.int .u64 (a : Int)) ∧ w'.cell? ⟨kw, 1, none⟩ = some (.int .u64 (b : Int)) ∧ w'.cell? ⟨kw, 2, none⟩ = some (.int .u64 (c : Int)) ∧ w'.cell? ⟨kw, 3, none⟩ = some (.int .u64 (d : Int)) ∧ w'.cell? ⟨kl, i, none⟩ = some (.slice (some ⟨g, 0, none⟩) 32 32) ∧ (convert 23 9 (.slice (some ⟨g, 0, none⟩) 32 32)).run Try.prog w' = .ok (.string ⟨T⟩) w' ∧ Kept w k0 (⟨kw, 0, a, b, c, d⟩ :: [⟨k0, 0, p0, p1, p2, p3⟩, ⟨k0, 4, c0, c1, c2, c3⟩, ⟨ky, 0, ya, yb, yc, yd⟩]) w') (first | (with_reducible exact plS_of KP H0.out HHH.out.2.1 HHH.out.2.2 HHH.out.1 hTs) | (with_reducible exact plS_of KP.drew H0.out HHH.out.2.1 HHH.out.2.2 HHH.out.1 hTs) | fail) (first | (go_at_call 61; refine (rBytes_any _ _ _ HF.out).mono ?_; rintro e w4 ⟨v, rfl, hb1, a', b', c', d', he, rfl⟩; obtain ⟨rfl, rfl, rfl, rfl⟩ := ag_inj he; rw [HTE.out]; clear he; (first | (with_reducible (have KP1 := KP.drew.call hb1)) | (with_reducible (have KP1 := KP.call hb1)) | fail); clear KP hb1; have KP := KP1; clear KP1))
        rename_i hHeld
        clear hHeld
        obtain ⟨tc0, tc1, tc2, tc3, tf⟩ := KP.head.at4
        have zt := KP.head.lt
        obtain ⟨fc0, fc1, fc2, fc3, ff⟩ := KP.tail.head.at4
        have fb := KP.tail.tail.head
        have fd0 : w4.cell? ⟨k0, 4, none⟩ = some (.int .u64 (c0 : Int)) := fb.c0
        have fd1 : w4.cell? ⟨k0, 5, none⟩ = some (.int .u64 (c1 : Int)) := fb.c1
        have fd2 : w4.cell? ⟨k0, 6, none⟩ = some (.int .u64 (c2 : Int)) := fb.c2
        have fd3 : w4.cell? ⟨k0, 7, none⟩ = some (.int .u64 (c3 : Int)) := fb.c3
        have zf := KP.tail.head.lt
        obtain ⟨yc0, yc1, yc2, yc3, yf⟩ := KP.tail.tail.tail.head.at4
        have zy := KP.tail.tail.tail.head.lt
        go_wp2_with fail
        clear tc0 tc1 tc2 tc3 tf zt fc0 fc1 fc2 fc3 ff fb fd0 fd1 fd2 fd3 zf yc0 yc1 yc2 yc3 yf zy
        refine (rMul_R HR.out HF.out HY.out _).mono ?_
        rintro e w5 ⟨v, rfl, hb5, hF3⟩
        rw [pow_step_mod] at hF3
        obtain ⟨ua, ub, uc, ud, rfl, -⟩ := id hF3
        have HFU : Hid (Four _ _) := hF3
        replace KP := KP.call hb5
        clear hF3 hb5
        obtain ⟨tc0, tc1, tc2, tc3, tf⟩ := KP.head.at4
        have zt := KP.head.lt
        go_wp2
        go_roundg (gk - 1)
        case measure => omega
        case rel => exact ⟨i + 1, ua, ub, uc, ud, by omega, rfl, KP.put QW.out hlw ua ub uc ud, HFU⟩
      · have hge : ¬ (i : Int) < (n : Int) := by omega
        go_wp2
        go_ret
        exact ⟨_, rfl, by rw [H0.out]; exact KP.bl, by simp⟩
end Go.Proofs.Ytbimbalfdmffaab
namespace Go.Proofs.Ytbimbalfdmffaab
open Go.RowKit Go.Sort Go.Deep

/-- A list of texts in a block. -/
def Texts (w : World) (q : Option Addr) (n : Nat) (S : Nat → ByteArray) : Prop := 0 < n → ∃ gg oo, q = some ⟨gg, oo, none⟩ ∧ gg < w.heap.size ∧ ∀ j, j < n → w.cell? ⟨gg, oo + j, none⟩ = some (.string (S j))

theorem lnS_of {w W : World} {k0 p0 p1 p2 p3 c0 c1 c2 c3 gg oo : Nat} {x : ByteArray} {l : List Blk} (h : Kept w k0 (⟨k0, 0, p0, p1, p2, p3⟩ :: ⟨k0, 4, c0, c1, c2, c3⟩ :: l) W) (hk : w.heap.size = k0) (hg : gg < w.heap.size) (hc : w.cell? ⟨gg, oo, none⟩ = some (.string x)) : W.cell? ⟨k0, 0, none⟩ = some (.int .u64 (p0 : Int)) ∧ W.cell? ⟨k0, 1, none⟩ = some (.int .u64 (p1 : Int)) ∧ W.cell? ⟨k0, 2, none⟩ = some (.int .u64 (p2 : Int)) ∧ W.cell? ⟨k0, 3, none⟩ = some (.int .u64 (p3 : Int)) ∧ W.cell? ⟨k0, 4, none⟩ = some (.int .u64 (c0 : Int)) ∧ W.cell? ⟨k0, 5, none⟩ = some (.int .u64 (c1 : Int)) ∧ W.cell? ⟨k0, 6, none⟩ = some (.int .u64 (c2 : Int)) ∧ W.cell? ⟨k0, 7, none⟩ = some (.int .u64 (c3 : Int)) ∧ W.cell? ⟨gg, oo, none⟩ = some (.string x) ∧ Kept w k0 (⟨k0, 0, p0, p1, p2, p3⟩ :: ⟨k0, 4, c0, c1, c2, c3⟩ :: l) W := by
  have hb : Below w.heap.size w W := by rw [hk]; exact h.bl
  exact ⟨h.head.c0, h.head.c1, h.head.c2, h.head.c3, h.tail.head.c0, h.tail.head.c1, h.tail.head.c2, h.tail.head.c3, by rw [hb.cell (p := ⟨gg, oo, none⟩) hg]; exact hc, h⟩
theorem lnS_get {w W : World} {k0 p0 p1 p2 p3 c0 c1 c2 c3 gg oo : Nat} {x : ByteArray} {l : List Blk} (h : W.cell? ⟨k0, 0, none⟩ = some (.int .u64 (p0 : Int)) ∧ W.cell? ⟨k0, 1, none⟩ = some (.int .u64 (p1 : Int)) ∧ W.cell? ⟨k0, 2, none⟩ = some (.int .u64 (p2 : Int)) ∧ W.cell? ⟨k0, 3, none⟩ = some (.int .u64 (p3 : Int)) ∧ W.cell? ⟨k0, 4, none⟩ = some (.int .u64 (c0 : Int)) ∧ W.cell? ⟨k0, 5, none⟩ = some (.int .u64 (c1 : Int)) ∧ W.cell? ⟨k0, 6, none⟩ = some (.int .u64 (c2 : Int)) ∧ W.cell? ⟨k0, 7, none⟩ = some (.int .u64 (c3 : Int)) ∧ W.cell? ⟨gg, oo, none⟩ = some (.string x) ∧ Kept w k0 (⟨k0, 0, p0, p1, p2, p3⟩ :: ⟨k0, 4, c0, c1, c2, c3⟩ :: l) W) : Kept w k0 (⟨k0, 0, p0, p1, p2, p3⟩ :: ⟨k0, 4, c0, c1, c2, c3⟩ :: l) W := h.2.2.2.2.2.2.2.2.2
theorem lnS_call {w W w1 : World} {k0 p0 p1 p2 p3 c0 c1 c2 c3 gg oo : Nat} {x : ByteArray} {l : List Blk} (h : W.cell? ⟨k0, 0, none⟩ = some (.int .u64 (p0 : Int)) ∧ W.cell? ⟨k0, 1, none⟩ = some (.int .u64 (p1 : Int)) ∧ W.cell? ⟨k0, 2, none⟩ = some (.int .u64 (p2 : Int)) ∧ W.cell? ⟨k0, 3, none⟩ = some (.int .u64 (p3 : Int)) ∧ W.cell? ⟨k0, 4, none⟩ = some (.int .u64 (c0 : Int)) ∧ W.cell? ⟨k0, 5, none⟩ = some (.int .u64 (c1 : Int)) ∧ W.cell? ⟨k0, 6, none⟩ = some (.int .u64 (c2 : Int)) ∧ W.cell? ⟨k0, 7, none⟩ = some (.int .u64 (c3 : Int)) ∧ W.cell? ⟨gg, oo, none⟩ = some (.string x) ∧ Kept w k0 (⟨k0, 0, p0, p1, p2, p3⟩ :: ⟨k0, 4, c0, c1, c2, c3⟩ :: l) W) (hb : Below W.heap.size W w1) : w1.cell? ⟨k0, 0, none⟩ = some (.int .u64 (p0 : Int)) ∧ w1.cell? ⟨k0, 1, none⟩ = some (.int .u64 (p1 : Int)) ∧ w1.cell? ⟨k0, 2, none⟩ = some (.int .u64 (p2 : Int)) ∧ w1.cell? ⟨k0, 3, none⟩ = some (.int .u64 (p3 : Int)) ∧ w1.cell? ⟨k0, 4, none⟩ = some (.int .u64 (c0 : Int)) ∧ w1.cell? ⟨k0, 5, none⟩ = some (.int .u64 (c1 : Int)) ∧ w1.cell? ⟨k0, 6, none⟩ = some (.int .u64 (c2 : Int)) ∧ w1.cell? ⟨k0, 7, none⟩ = some (.int .u64 (c3 : Int)) ∧ w1.cell? ⟨gg, oo, none⟩ = some (.string x) ∧ Kept w k0 (⟨k0, 0, p0, p1, p2, p3⟩ :: ⟨k0, 4, c0, c1, c2, c3⟩ :: l) w1 := by
  have hk := (lnS_get h).call hb
  exact ⟨hk.head.c0, hk.head.c1, hk.head.c2, hk.head.c3, hk.tail.head.c0, hk.tail.head.c1, hk.tail.head.c2, hk.tail.head.c3, by rw [hb.cell (p := ⟨gg, oo, none⟩) (World.block_lt_of_cell? _ _ h.2.2.2.2.2.2.2.2.1)]; exact h.2.2.2.2.2.2.2.2.1, hk⟩
theorem lnS_drew {w W : World} {k0 p0 p1 p2 p3 c0 c1 c2 c3 gg oo : Nat} {x : ByteArray} {l : List Blk} (h : W.cell? ⟨k0, 0, none⟩ = some (.int .u64 (p0 : Int)) ∧ W.cell? ⟨k0, 1, none⟩ = some (.int .u64 (p1 : Int)) ∧ W.cell? ⟨k0, 2, none⟩ = some (.int .u64 (p2 : Int)) ∧ W.cell? ⟨k0, 3, none⟩ = some (.int .u64 (p3 : Int)) ∧ W.cell? ⟨k0, 4, none⟩ = some (.int .u64 (c0 : Int)) ∧ W.cell? ⟨k0, 5, none⟩ = some (.int .u64 (c1 : Int)) ∧ W.cell? ⟨k0, 6, none⟩ = some (.int .u64 (c2 : Int)) ∧ W.cell? ⟨k0, 7, none⟩ = some (.int .u64 (c3 : Int)) ∧ W.cell? ⟨gg, oo, none⟩ = some (.string x) ∧ Kept w k0 (⟨k0, 0, p0, p1, p2, p3⟩ :: ⟨k0, 4, c0, c1, c2, c3⟩ :: l) W) : W.drew.cell? ⟨k0, 0, none⟩ = some (.int .u64 (p0 : Int)) ∧ W.drew.cell? ⟨k0, 1, none⟩ = some (.int .u64 (p1 : Int)) ∧ W.drew.cell? ⟨k0, 2, none⟩ = some (.int .u64 (p2 : Int)) ∧ W.drew.cell? ⟨k0, 3, none⟩ = some (.int .u64 (p3 : Int)) ∧ W.drew.cell? ⟨k0, 4, none⟩ = some (.int .u64 (c0 : Int)) ∧ W.drew.cell? ⟨k0, 5, none⟩ = some (.int .u64 (c1 : Int)) ∧ W.drew.cell? ⟨k0, 6, none⟩ = some (.int .u64 (c2 : Int)) ∧ W.drew.cell? ⟨k0, 7, none⟩ = some (.int .u64 (c3 : Int)) ∧ W.drew.cell? ⟨gg, oo, none⟩ = some (.string x) ∧ Kept w k0 (⟨k0, 0, p0, p1, p2, p3⟩ :: ⟨k0, 4, c0, c1, c2, c3⟩ :: l) W.drew := by
  have hk := (lnS_get h).drew
  exact ⟨hk.head.c0, hk.head.c1, hk.head.c2, hk.head.c3, hk.tail.head.c0, hk.tail.head.c1, hk.tail.head.c2, hk.tail.head.c3, h.2.2.2.2.2.2.2.2.1, hk⟩
theorem lnS_alloc {w W : World} {k0 p0 p1 p2 p3 c0 c1 c2 c3 gg oo : Nat} {x : ByteArray} {l : List Blk} {o : Obj} (h : W.cell? ⟨k0, 0, none⟩ = some (.int .u64 (p0 : Int)) ∧ W.cell? ⟨k0, 1, none⟩ = some (.int .u64 (p1 : Int)) ∧ W.cell? ⟨k0, 2, none⟩ = some (.int .u64 (p2 : Int)) ∧ W.cell? ⟨k0, 3, none⟩ = some (.int .u64 (p3 : Int)) ∧ W.cell? ⟨k0, 4, none⟩ = some (.int .u64 (c0 : Int)) ∧ W.cell? ⟨k0, 5, none⟩ = some (.int .u64 (c1 : Int)) ∧ W.cell? ⟨k0, 6, none⟩ = some (.int .u64 (c2 : Int)) ∧ W.cell? ⟨k0, 7, none⟩ = some (.int .u64 (c3 : Int)) ∧ W.cell? ⟨gg, oo, none⟩ = some (.string x) ∧ Kept w k0 (⟨k0, 0, p0, p1, p2, p3⟩ :: ⟨k0, 4, c0, c1, c2, c3⟩ :: l) W) : (W.alloc o).cell? ⟨k0, 0, none⟩ = some (.int .u64 (p0 : Int)) ∧ (W.alloc o).cell? ⟨k0, 1, none⟩ = some (.int .u64 (p1 : Int)) ∧ (W.alloc o).cell? ⟨k0, 2, none⟩ = some (.int .u64 (p2 : Int)) ∧ (W.alloc o).cell? ⟨k0, 3, none⟩ = some (.int .u64 (p3 : Int)) ∧ (W.alloc o).cell? ⟨k0, 4, none⟩ = some (.int .u64 (c0 : Int)) ∧ (W.alloc o).cell? ⟨k0, 5, none⟩ = some (.int .u64 (c1 : Int)) ∧ (W.alloc o).cell? ⟨k0, 6, none⟩ = some (.int .u64 (c2 : Int)) ∧ (W.alloc o).cell? ⟨k0, 7, none⟩ = some (.int .u64 (c3 : Int)) ∧ (W.alloc o).cell? ⟨gg, oo, none⟩ = some (.string x) ∧ Kept w k0 (⟨k0, 0, p0, p1, p2, p3⟩ :: ⟨k0, 4, c0, c1, c2, c3⟩ :: l) (W.alloc o) := lnS_call h (below1 W o)
theorem lnS_allocd {w W : World} {k0 p0 p1 p2 p3 c0 c1 c2 c3 gg oo : Nat} {x : ByteArray} {l : List Blk} {o : Obj} (h : W.drew.cell? ⟨k0, 0, none⟩ = some (.int .u64 (p0 : Int)) ∧ W.drew.cell? ⟨k0, 1, none⟩ = some (.int .u64 (p1 : Int)) ∧ W.drew.cell? ⟨k0, 2, none⟩ = some (.int .u64 (p2 : Int)) ∧ W.drew.cell? ⟨k0, 3, none⟩ = some (.int .u64 (p3 : Int)) ∧ W.drew.cell? ⟨k0, 4, none⟩ = some (.int .u64 (c0 : Int)) ∧ W.drew.cell? ⟨k0, 5, none⟩ = some (.int .u64 (c1 : Int)) ∧ W.drew.cell? ⟨k0, 6, none⟩ = some (.int .u64 (c2 : Int)) ∧ W.drew.cell? ⟨k0, 7, none⟩ = some (.int .u64 (c3 : Int)) ∧ W.drew.cell? ⟨gg, oo, none⟩ = some (.string x) ∧ Kept w k0 (⟨k0, 0, p0, p1, p2, p3⟩ :: ⟨k0, 4, c0, c1, c2, c3⟩ :: l) W.drew) : (W.alloc o).drew.cell? ⟨k0, 0, none⟩ = some (.int .u64 (p0 : Int)) ∧ (W.alloc o).drew.cell? ⟨k0, 1, none⟩ = some (.int .u64 (p1 : Int)) ∧ (W.alloc o).drew.cell? ⟨k0, 2, none⟩ = some (.int .u64 (p2 : Int)) ∧ (W.alloc o).drew.cell? ⟨k0, 3, none⟩ = some (.int .u64 (p3 : Int)) ∧ (W.alloc o).drew.cell? ⟨k0, 4, none⟩ = some (.int .u64 (c0 : Int)) ∧ (W.alloc o).drew.cell? ⟨k0, 5, none⟩ = some (.int .u64 (c1 : Int)) ∧ (W.alloc o).drew.cell? ⟨k0, 6, none⟩ = some (.int .u64 (c2 : Int)) ∧ (W.alloc o).drew.cell? ⟨k0, 7, none⟩ = some (.int .u64 (c3 : Int)) ∧ (W.alloc o).drew.cell? ⟨gg, oo, none⟩ = some (.string x) ∧ Kept w k0 (⟨k0, 0, p0, p1, p2, p3⟩ :: ⟨k0, 4, c0, c1, c2, c3⟩ :: l) (W.alloc o).drew := by
  have hk := (lnS_get h).undrew
  have h1 : W.cell? ⟨gg, oo, none⟩ = some (.string x) := h.2.2.2.2.2.2.2.2.1
  have hk2 := (hk.alloc o).drew
  exact ⟨hk2.head.c0, hk2.head.c1, hk2.head.c2, hk2.head.c3, hk2.tail.head.c0, hk2.tail.head.c1, hk2.tail.head.c2, hk2.tail.head.c3, by show (W.alloc o).cell? _ = _; rw [(below1 W o).cell (p := ⟨gg, oo, none⟩) (World.block_lt_of_cell? _ _ h1)]; exact h1, hk2⟩

/-- What stands behind the reading of a number: in a block of its own. -/
def NumR (w : World) (k0 p0 p1 p2 p3 c0 c1 c2 c3 P : Nat) (l : List Blk) (x : ByteArray) (s1 s2 : Value) (wx : World) : Prop :=
  ∃ (kq na nb nc nd : Nat) (am : Bool), s1 = .pointer (some ⟨kq, 0, none⟩) ∧ s2 = .bool am ∧ Kept w k0 (⟨k0, 0, p0, p1, p2, p3⟩ :: ⟨k0, 4, c0, c1, c2, c3⟩ :: ⟨kq, 0, na, nb, nc, nd⟩ :: l) wx ∧ (∀ x ∈ l, kq ≠ x.k) ∧ kq ≠ k0 ∧ Four (.agg #[.int .u64 (na : Int), .int .u64 (nb : Int), .int .u64 (nc : Int), .int .u64 (nd : Int)]) (beV x.data.toList) ∧ P = P
theorem NumR.drew {w wx : World} {k0 p0 p1 p2 p3 c0 c1 c2 c3 P : Nat} {l : List Blk} {x : ByteArray} {s1 s2 : Value} (h : NumR w k0 p0 p1 p2 p3 c0 c1 c2 c3 P l x s1 s2 wx) : NumR w k0 p0 p1 p2 p3 c0 c1 c2 c3 P l x s1 s2 wx.drew := by
  obtain ⟨kq, na, nb, nc, nd, am, h1, h2, h3, h4⟩ := h
  exact ⟨kq, na, nb, nc, nd, am, h1, h2, h3.drew, h4⟩
theorem NumR.made {w w1 : World} {k0 p0 p1 p2 p3 c0 c1 c2 c3 P na nb nc nd : Nat} {l : List Blk} {x : ByteArray} {am : Bool} (KP : Kept w k0 (⟨k0, 0, p0, p1, p2, p3⟩ :: ⟨k0, 4, c0, c1, c2, c3⟩ :: l) w1) (h : Hid (Four (.agg #[.int .u64 (na : Int), .int .u64 (nb : Int), .int .u64 (nc : Int), .int .u64 (nd : Int)]) (beV x.data.toList))) :
    NumR w k0 p0 p1 p2 p3 c0 c1 c2 c3 P l x (.pointer (some ⟨w1.heap.size, 0, none⟩)) (.bool am) (w1.alloc (.cells #[.int .u64 (na : Int), .int .u64 (nb : Int), .int .u64 (nc : Int), .int .u64 (nd : Int)] 33)) := by
  have K := KP.alloc (.cells #[.int .u64 (na : Int), .int .u64 (nb : Int), .int .u64 (nc : Int), .int .u64 (nd : Int)] 33)
  exact ⟨w1.heap.size, na, nb, nc, nd, am, rfl, rfl, ((K.tail.tail.cons (At4.made w1 33 na nb nc nd rfl).blk).cons K.tail.head).cons K.head, fun x hx => Nat.ne_of_gt (KP.tail.tail.lts x hx), Nat.ne_of_gt KP.head.lt, h.out, rfl⟩
theorem NumR.put {w w1 : World} {k0 p0 p1 p2 p3 c0 c1 c2 c3 P na nb nc nd k7 y0 y1 y2 y3 : Nat} {l : List Blk} {x : ByteArray} {am : Bool} (KP : Kept w k0 (⟨k0, 0, p0, p1, p2, p3⟩ :: ⟨k0, 4, c0, c1, c2, c3⟩ :: l) w1) (T : At4 w1 k7 y0 y1 y2 y3) (M7 : k0 ≤ k7) (N7 : ∀ x ∈ (⟨k0, 0, p0, p1, p2, p3⟩ :: ⟨k0, 4, c0, c1, c2, c3⟩ :: l), x.k < k7) (h : Hid (Four (.agg #[.int .u64 (na : Int), .int .u64 (nb : Int), .int .u64 (nc : Int), .int .u64 (nd : Int)]) (beV x.data.toList))) :
    NumR w k0 p0 p1 p2 p3 c0 c1 c2 c3 P l x (.pointer (some ⟨k7, 0, none⟩)) (.bool am) ((((w1.setCell ⟨k7, 0, none⟩ (.int .u64 (na : Int))).setCell ⟨k7, 1, none⟩ (.int .u64 (nb : Int))).setCell ⟨k7, 2, none⟩ (.int .u64 (nc : Int))).setCell ⟨k7, 3, none⟩ (.int .u64 (nd : Int))) := by
  have K := KP.set4' M7 (fun x hx => Nat.ne_of_gt (N7 x hx)) (.int .u64 (na : Int)) (.int .u64 (nb : Int)) (.int .u64 (nc : Int)) (.int .u64 (nd : Int))
  exact ⟨k7, na, nb, nc, nd, am, rfl, rfl, ((K.tail.tail.cons (T.self4 na nb nc nd).blk).cons K.tail.head).cons K.head, fun x hx => Nat.ne_of_gt (N7 x (List.mem_cons_of_mem _ (List.mem_cons_of_mem _ hx))), Nat.ne_of_gt (N7 _ (List.mem_cons_self)), h.out, rfl⟩

theorem lmS_of {w W : World} {k0 ks kx ky p0 p1 p2 p3 c0 c1 c2 c3 sa sb sc sd xa xb xc xd ya yb yc yd : Nat} (h : Kept w k0 (⟨k0, 0, p0, p1, p2, p3⟩ :: ⟨k0, 4, c0, c1, c2, c3⟩ :: ⟨ky, 0, ya, yb, yc, yd⟩ :: ⟨kx, 0, xa, xb, xc, xd⟩ :: ⟨ks, 0, sa, sb, sc, sd⟩ :: []) W) : W.cell? ⟨k0, 0, none⟩ = some (.int .u64 (p0 : Int)) ∧ W.cell? ⟨k0, 1, none⟩ = some (.int .u64 (p1 : Int)) ∧ W.cell? ⟨k0, 2, none⟩ = some (.int .u64 (p2 : Int)) ∧ W.cell? ⟨k0, 3, none⟩ = some (.int .u64 (p3 : Int)) ∧ W.cell? ⟨k0, 4, none⟩ = some (.int .u64 (c0 : Int)) ∧ W.cell? ⟨k0, 5, none⟩ = some (.int .u64 (c1 : Int)) ∧ W.cell? ⟨k0, 6, none⟩ = some (.int .u64 (c2 : Int)) ∧ W.cell? ⟨k0, 7, none⟩ = some (.int .u64 (c3 : Int)) ∧ W.cell? ⟨ks, 0, none⟩ = some (.int .u64 (sa : Int)) ∧ W.cell? ⟨ks, 1, none⟩ = some (.int .u64 (sb : Int)) ∧ W.cell? ⟨ks, 2, none⟩ = some (.int .u64 (sc : Int)) ∧ W.cell? ⟨ks, 3, none⟩ = some (.int .u64 (sd : Int)) ∧ W.cell? ⟨kx, 0, none⟩ = some (.int .u64 (xa : Int)) ∧ W.cell? ⟨kx, 1, none⟩ = some (.int .u64 (xb : Int)) ∧ W.cell? ⟨kx, 2, none⟩ = some (.int .u64 (xc : Int)) ∧ W.cell? ⟨kx, 3, none⟩ = some (.int .u64 (xd : Int)) ∧ W.cell? ⟨ky, 0, none⟩ = some (.int .u64 (ya : Int)) ∧ W.cell? ⟨ky, 1, none⟩ = some (.int .u64 (yb : Int)) ∧ W.cell? ⟨ky, 2, none⟩ = some (.int .u64 (yc : Int)) ∧ W.cell? ⟨ky, 3, none⟩ = some (.int .u64 (yd : Int)) ∧ Kept w k0 (⟨k0, 0, p0, p1, p2, p3⟩ :: ⟨k0, 4, c0, c1, c2, c3⟩ :: ⟨ky, 0, ya, yb, yc, yd⟩ :: ⟨kx, 0, xa, xb, xc, xd⟩ :: ⟨ks, 0, sa, sb, sc, sd⟩ :: []) W :=
  ⟨h.head.c0, h.head.c1, h.head.c2, h.head.c3, h.tail.head.c0, h.tail.head.c1, h.tail.head.c2, h.tail.head.c3, h.tail.tail.tail.tail.head.c0, h.tail.tail.tail.tail.head.c1, h.tail.tail.tail.tail.head.c2, h.tail.tail.tail.tail.head.c3, h.tail.tail.tail.head.c0, h.tail.tail.tail.head.c1, h.tail.tail.tail.head.c2, h.tail.tail.tail.head.c3, h.tail.tail.head.c0, h.tail.tail.head.c1, h.tail.tail.head.c2, h.tail.tail.head.c3, h⟩

/-- What Dot answered, as a law reads it. -/
def DAns (W : World) (P n m : Nat) (S T : Nat → ByteArray) (q : Option Addr) (k c : Nat) (ep : Int) : Prop :=
  ((∀ j, j < n → IsNum P (S j).data) ∧ (∀ j, j < m → IsNum P (T j).data) ∧ n = m ∧ ep = 0 ∧ IsBytes W 0 (.slice q k c) (dsum P (fun j => beV (S j).data.toList) (fun j => beV (T j).data.toList) n)) ∨
  ((∀ j, j < n → IsNum P (S j).data) ∧ (∀ j, j < m → IsNum P (T j).data) ∧ ¬ n = m ∧ ep = 2 ∧ k = 0) ∨
  (((∃ j, j < n ∧ ¬ IsNum P (S j).data) ∨ (∃ j, j < m ∧ ¬ IsNum P (T j).data)) ∧ ep = 3 ∧ k = 0)

set_option maxHeartbeats 1000000 in
theorem ldot_long (n m cn cm : Nat) (qn qm qd : Option Addr) (cd : Nat) (p0 p1 p2 p3 c0 c1 c2 c3 : Nat) (w : World) (h : 256 < n ∨ 256 < m) (hs : n ≤ 300 ∧ m ≤ 300) :
    Calls Try.prog 28 #[.agg #[.int .u64 (p0 : Int), .int .u64 (p1 : Int), .int .u64 (p2 : Int), .int .u64 (p3 : Int), .int .u64 (c0 : Int), .int .u64 (c1 : Int), .int .u64 (c2 : Int), .int .u64 (c3 : Int)], .slice qn n cn, .slice qm m cm, .slice qd 0 cd, .int .i64 1] w (Ret fun e w' => Below w.heap.size w w' ∧ e = .bool true) := by
  by_cases h0 : 256 < n
  · have h0' : (256 : Int) < (n : Int) := by omega
    go_enter Try.func28, Try.ntmps28
    go_wp2
    go_ret
    exact ⟨_, rfl, below1 _ _, by simp⟩
  · have h0' : ¬ (256 : Int) < (n : Int) := by omega
    have h1' : (256 : Int) < (m : Int) := by omega
    go_enter Try.func28, Try.ntmps28
    go_wp2
    go_ret
    exact ⟨_, rfl, below1 _ _, by simp⟩

set_option maxHeartbeats 8000000 in
set_option maxRecDepth 100000 in
theorem ldot_any (n m cn cm k cd : Nat) (qn qm qd : Option Addr) (ep : Int) (p0 p1 p2 p3 c0 c1 c2 c3 P : Nat) (hR : RefP p0 p1 p2 p3 c0 c1 c2 c3 P) (S T : Nat → ByteArray) (w : World) (hn : n ≤ 256) (hm : m ≤ 256) (hS : Texts w qn n S) (hT : Texts w qm m T) (hA : DAns w P n m S T qd k cd ep) :
    Calls Try.prog 28 #[.agg #[.int .u64 (p0 : Int), .int .u64 (p1 : Int), .int .u64 (p2 : Int), .int .u64 (p3 : Int), .int .u64 (c0 : Int), .int .u64 (c1 : Int), .int .u64 (c2 : Int), .int .u64 (c3 : Int)], .slice qn n cn, .slice qm m cm, .slice qd k cd, .int .i64 ep] w (Ret fun e w' => Below w.heap.size w w' ∧ e = .bool true) := by
  have HR : Hid (RefP p0 p1 p2 p3 c0 c1 c2 c3 P) := hR
  have HS : Hid (Texts w qn n S) := hS
  have HT : Hid (Texts w qm m T) := hT
  have HA : Hid (DAns w P n m S T qd k cd ep) := hA
  have d1 : ¬ (256 : Int) < (n : Int) := by omega
  have d2 : ¬ (256 : Int) < (m : Int) := by omega
  clear hR hS hT hA
  go_enter Try.func28, Try.ntmps28
  go_wp2
  have A7 := At8.made w 35 p0 p1 p2 p3 c0 c1 c2 c3 rfl
  have K0 := ((Kept.mk1 (below1 w (.cells #[.int .u64 (p0 : Int), .int .u64 (p1 : Int), .int .u64 (p2 : Int), .int .u64 (p3 : Int), .int .u64 (c0 : Int), .int .u64 (c1 : Int), .int .u64 (c2 : Int), .int .u64 (c3 : Int)] 35)) (below1 w (.cells #[.int .u64 (p0 : Int), .int .u64 (p1 : Int), .int .u64 (p2 : Int), .int .u64 (p3 : Int), .int .u64 (c0 : Int), .int .u64 (c1 : Int), .int .u64 (c2 : Int), .int .u64 (c3 : Int)] 35)).size).cons (x := ⟨w.heap.size, 4, c0, c1, c2, c3⟩) ⟨A7.c4, A7.c5, A7.c6, A7.c7, A7.fz⟩).cons (x := ⟨w.heap.size, 0, p0, p1, p2, p3⟩) ⟨A7.c0, A7.c1, A7.c2, A7.c3, A7.fz⟩
  have K := K0.alloc (.cells #[.int .u64 0, .int .u64 0, .int .u64 0, .int .u64 0] 33)
  have KP0 : Kept w w.heap.size [⟨w.heap.size, 0, p0, p1, p2, p3⟩, ⟨w.heap.size, 4, c0, c1, c2, c3⟩, ⟨w.heap.size + 1, 0, 0, 0, 0, 0⟩] _ := (((Kept.mk1 K.bl K.le).cons (At4.made (w.alloc (.cells #[.int .u64 (p0 : Int), .int .u64 (p1 : Int), .int .u64 (p2 : Int), .int .u64 (p3 : Int), .int .u64 (c0 : Int), .int .u64 (c1 : Int), .int .u64 (c2 : Int), .int .u64 (c3 : Int)] 35)) 33 0 0 0 0 (World.size_alloc _ _)).blk).cons K.tail.head).cons K.head
  clear A7 K0 K
  generalize World.alloc _ _ = W0 at KP0 ⊢
  generalize hks : w.heap.size + 1 = ks at KP0 ⊢
  generalize hk0 : w.heap.size = k0 at KP0 ⊢
  have H0 : Hid (w.heap.size = k0) := hk0
  have nsk : ks ≠ k0 := by omega
  have QS : Hid (k0 ≤ ks) := by unfold Hid; omega
  clear hk0 hks
  go_loopg [12] (n + m) (fun gk s12 wr => ∃ i : Nat, i + gk = n + m ∧ s12 = .int .i64 (i : Int) ∧ Kept w k0 [⟨k0, 0, p0, p1, p2, p3⟩, ⟨k0, 4, c0, c1, c2, c3⟩, ⟨ks, 0, 0, 0, 0, 0⟩] wr ∧ Hid ((∀ j, j < n → j < i → IsNum P (S j).data) ∧ (∀ j, j < m → j + n < i → IsNum P (T j).data)))
  case atStart => exact ⟨0, Nat.zero_add _, rfl, KP0, fun j _ hj => by omega, fun j _ hj => by omega⟩
  case round =>
    clear KP0
    obtain ⟨i, hi, rfl, KP, HI⟩ := hrel
    obtain ⟨fc0, fc1, fc2, fc3, ff⟩ := KP.head.at4
    have fb := KP.tail.head
    have fd0 : wr.cell? ⟨k0, 4, none⟩ = some (.int .u64 (c0 : Int)) := fb.c0
    have fd1 : wr.cell? ⟨k0, 5, none⟩ = some (.int .u64 (c1 : Int)) := fb.c1
    have fd2 : wr.cell? ⟨k0, 6, none⟩ = some (.int .u64 (c2 : Int)) := fb.c2
    have fd3 : wr.cell? ⟨k0, 7, none⟩ = some (.int .u64 (c3 : Int)) := fb.c3
    have zf := KP.head.lt
    clear fb
    by_cases hlt : i < n + m
    · have hlt' : (i : Int) < (n : Int) + (m : Int) := by omega
      by_cases hin : i < n
      · have hin' : (i : Int) < (n : Int) := by omega
        obtain ⟨gg, oo, rfl, hgg, hc⟩ := HS.out (by omega)
        have hc1 := hc i hin
        have hcw : wr.cell? ⟨gg, oo + i, none⟩ = some (.string (S i)) := by rw [← hc1]; exact KP.bl.cell (p := ⟨gg, oo + i, none⟩) (by rw [← H0.out]; exact hgg)
        clear hc hc1
        go_wp2_with fail
        clear hcw fc0 fc1 fc2 fc3 ff fd0 fd1 fd2 fd3 zf
        refine (rNumber_any p0 p1 p2 p3 c0 c1 c2 c3 P (S i) HR.out _).mono ?_
        rintro e w3 ⟨v, rfl, hb1, na, nb, nc, nd, am, rfl, ham, hnm⟩
        replace KP := KP.call hb1
        clear hb1
        cases am with
        | false =>
          have hno := hnm rfl
          have hans : ep = 3 ∧ k = 0 := by
            rcases HA.out with h | h | h
            · exact absurd (h.1 i (by omega)) hno
            · exact absurd (h.1 i (by omega)) hno
            · exact h.2
          obtain ⟨rfl, rfl⟩ := hans
          clear ham hnm hno HA
          go_wp2
          go_ret
          exact ⟨_, rfl, by rw [H0.out]; exact (KP.alloc _).bl, by simp⟩
        | true =>
          have HNN : Hid (IsNum P (S i).data) := (ham rfl).1
          clear ham hnm
          go_wp2
          go_roundg (gk - 1)
          case measure => omega
          case rel =>
            refine ⟨i + 1, by omega, rfl, KP.alloc _, fun j hj hji => ?_, fun j hj hji => ?_⟩
            · by_cases h : j = i
              · rw [h]; exact HNN.out
              · exact HI.out.1 j hj (by omega)
            · exact HI.out.2 j hj (by omega)
      · have hin' : ¬ (i : Int) < (n : Int) := by omega
        obtain ⟨i2, hi2⟩ : ∃ i2, i = n + i2 := ⟨i - n, by omega⟩
        have hi3 : (i : Int) - (n : Int) = (i2 : Int) := by omega
        have hi4 : (i2 : Int) < (m : Int) := by omega
        obtain ⟨gg, oo, rfl, hgg, hc⟩ := HT.out (by omega)
        have hc1 := hc i2 (by omega)
        have hcw : wr.cell? ⟨gg, oo + i2, none⟩ = some (.string (T i2)) := by rw [← hc1]; exact KP.bl.cell (p := ⟨gg, oo + i2, none⟩) (by rw [← H0.out]; exact hgg)
        clear hc hc1
        go_wp2_with fail
        clear hcw fc0 fc1 fc2 fc3 ff fd0 fd1 fd2 fd3 zf
        refine (rNumber_any p0 p1 p2 p3 c0 c1 c2 c3 P (T i2) HR.out _).mono ?_
        rintro e w3 ⟨v, rfl, hb1, na, nb, nc, nd, am, rfl, ham, hnm⟩
        replace KP := KP.call hb1
        clear hb1
        cases am with
        | false =>
          have hno := hnm rfl
          have hans : ep = 3 ∧ k = 0 := by
            rcases HA.out with h | h | h
            · exact absurd (h.2.1 i2 (by omega)) hno
            · exact absurd (h.2.1 i2 (by omega)) hno
            · exact h.2
          obtain ⟨rfl, rfl⟩ := hans
          clear ham hnm hno HA
          go_wp2
          go_ret
          exact ⟨_, rfl, by rw [H0.out]; exact (KP.alloc _).bl, by simp⟩
        | true =>
          have HNN : Hid (IsNum P (T i2).data) := (ham rfl).1
          clear ham hnm
          go_wp2
          go_roundg (gk - 1)
          case measure => omega
          case rel =>
            refine ⟨i + 1, by omega, congrArg (Value.int IntKind.i64) (by omega), KP.alloc _, fun j hj hji => ?_, fun j hj hji => ?_⟩
            · exact HI.out.1 j hj (by omega)
            · by_cases h : j = i2
              · rw [h]; exact HNN.out
              · exact HI.out.2 j hj (by omega)
    · have hge : ¬ (i : Int) < (n : Int) + (m : Int) := by omega
      have HNS : Hid (∀ j, j < n → IsNum P (S j).data) := fun j hj => HI.out.1 j hj (by omega)
      have HNT : Hid (∀ j, j < m → IsNum P (T j).data) := fun j hj => HI.out.2 j hj (by omega)
      clear fc0 fc1 fc2 fc3 ff fd0 fd1 fd2 fd3 zf HI
      by_cases hnm : n = m
      · subst hnm
        have hans : ep = 0 ∧ IsBytes w 0 (.slice qd k cd) (dsum P (fun j => beV (S j).data.toList) (fun j => beV (T j).data.toList) n) := by
          rcases HA.out with h | h | h
          · exact h.2.2.2
          · exact absurd rfl h.2.2.1
          · rcases h.1 with ⟨j, hj, h1⟩ | ⟨j, hj, h1⟩
            · exact absurd (HNS.out j hj) h1
            · exact absurd (HNT.out j hj) h1
        obtain ⟨rfl, hib⟩ := hans
        have HIB : Hid (IsBytes w 0 (.slice qd k cd) (dsum P (fun j => beV (S j).data.toList) (fun j => beV (T j).data.toList) n)) := hib
        clear hib HA
        go_wp2
        go_loopg [16] n (fun gk s16 wr => ∃ i sa sb sc sd : Nat, i + gk = n ∧ s16 = .int .i64 (i : Int) ∧ Kept w k0 [⟨k0, 0, p0, p1, p2, p3⟩, ⟨k0, 4, c0, c1, c2, c3⟩, ⟨ks, 0, sa, sb, sc, sd⟩] wr ∧ Hid (Four (.agg #[.int .u64 (sa : Int), .int .u64 (sb : Int), .int .u64 (sc : Int), .int .u64 (sd : Int)]) (dsum P (fun j => beV (S j).data.toList) (fun j => beV (T j).data.toList) i)))
        case atStart => exact ⟨0, 0, 0, 0, 0, Nat.zero_add _, rfl, KP, Four.mk (by decide) (by decide) (by decide) (by decide) rfl⟩
        case round =>
          clear KP hlt hge hi
          obtain ⟨i, sa, sb, sc, sd, hi, rfl, KP, HF⟩ := hrel
          by_cases hlt : i < n
          · have hlt' : (i : Int) < (n : Int) := by omega
            obtain ⟨gn, on, rfl, hgn, hcn⟩ := HS.out (by omega)
            obtain ⟨gm, om, rfl, hgm, hcm⟩ := HT.out (by omega)
            have HCN : Hid (gn < w.heap.size ∧ w.cell? ⟨gn, on + i, none⟩ = some (.string (S i))) := ⟨hgn, hcn i hlt⟩
            have HCM : Hid (gm < w.heap.size ∧ w.cell? ⟨gm, om + i, none⟩ = some (.string (T i))) := ⟨hgm, hcm i hlt⟩
            clear hgn hcn hgm hcm
            go_upto_region 19 with fail
            go_cut [17, 18] (fun s1 s2 wx => NumR w k0 p0 p1 p2 p3 c0 c1 c2 c3 P (⟨ks, 0, sa, sb, sc, sd⟩ :: []) (S i) s1 s2 wx)
            case first =>
              go_region_held3 (fun w' => w'.cell? ⟨k0, 0, none⟩ = some (.int .u64 (p0 : Int)) ∧ w'.cell? ⟨k0, 1, none⟩ = some (.int .u64 (p1 : Int)) ∧ w'.cell? ⟨k0, 2, none⟩ = some (.int .u64 (p2 : Int)) ∧ w'.cell? ⟨k0, 3, none⟩ = some (.int .u64 (p3 : Int)) ∧ w'.cell? ⟨k0, 4, none⟩ = some (.int .u64 (c0 : Int)) ∧ w'.cell? ⟨k0, 5, none⟩ = some (.int .u64 (c1 : Int)) ∧ w'.cell? ⟨k0, 6, none⟩ = some (.int .u64 (c2 : Int)) ∧ w'.cell? ⟨k0, 7, none⟩ = some (.int .u64 (c3 : Int)) ∧ w'.cell? ⟨gn, on + i, none⟩ = some (.string (S i)) ∧ Kept w k0 (⟨k0, 0, p0, p1, p2, p3⟩ :: ⟨k0, 4, c0, c1, c2, c3⟩ :: ⟨ks, 0, sa, sb, sc, sd⟩ :: []) w') (first | (with_reducible exact lnS_of KP H0.out HCN.out.1 HCN.out.2) | (with_reducible exact lnS_of KP.drew H0.out HCN.out.1 HCN.out.2) | (with_reducible exact lnS_call (by assumption) (by assumption)) | (with_reducible exact lnS_allocd (by assumption)) | (with_reducible exact lnS_alloc (by assumption)) | (with_reducible exact lnS_drew (by assumption)) | (with_reducible exact lnS_of (KP.alloc _) H0.out HCN.out.1 HCN.out.2) | (with_reducible exact lnS_of (KP.set4' M7 (fun x hx => Nat.ne_of_gt (N7 x hx)) _ _ _ _) H0.out HCN.out.1 HCN.out.2) | (with_reducible exact lnS_of (KP.alloc _).drew H0.out HCN.out.1 HCN.out.2) | (with_reducible exact lnS_of (KP.set4' M7 (fun x hx => Nat.ne_of_gt (N7 x hx)) _ _ _ _).drew H0.out HCN.out.1 HCN.out.2) | fail) (first | (go_at_call 17; refine (rNumber_any p0 p1 p2 p3 c0 c1 c2 c3 P _ HR.out _).mono ?_; rintro e w3 ⟨v, rfl, hb1, na, nb, nc, nd, am, rfl, ham, hnm⟩; have HNR : Hid (Four (.agg #[.int .u64 (na : Int), .int .u64 (nb : Int), .int .u64 (nc : Int), .int .u64 (nd : Int)]) (beV (S i).data.toList)) := (ham (by cases am with | true => rfl | false => exact absurd (HNS.out i hlt) (hnm rfl))).2; clear ham hnm; (try (with_reducible have T1 := T.call hb1; clear T; have T := T1; clear T1)); (try (first | (with_reducible have T := (At4.made _ 33 0 0 0 0 rfl).call hb1) | (with_reducible have T := (At4.made _ 33 0 0 0 0 rfl).drew.call hb1)); have N7 := KP.lts; have M7 := KP.le); have KP1 := Kept.call (lnS_get (by assumption)) hb1; clear KP; have KP := KP1; clear KP1 hb1; (try (obtain ⟨tc0, tc1, tc2, tc3, tf⟩ := id T; have zt := T.lt))))
              all_goals (try go_wp2)
              all_goals (go_meet; first | (with_reducible exact NumR.made KP HNR) | (with_reducible exact (NumR.made KP HNR).drew) | (with_reducible exact NumR.put KP T M7 N7 HNR) | (with_reducible exact (NumR.put KP T M7 N7 HNR).drew) | fail)
            case rest =>
            clear KP
            obtain ⟨kx, xa, xb, xc, xd, am1, rfl, rfl, KP, nx, nxk, hX, -⟩ := hcut
            have nxs : kx ≠ ks := nx ⟨ks, 0, sa, sb, sc, sd⟩ (by simp)
            clear nx
            go_upto_region 20 with fail
            go_cut [19, 20] (fun s1 s2 wx => NumR w k0 p0 p1 p2 p3 c0 c1 c2 c3 P (⟨kx, 0, xa, xb, xc, xd⟩ :: ⟨ks, 0, sa, sb, sc, sd⟩ :: []) (T i) s1 s2 wx)
            case first =>
              go_region_held3 (fun w' => w'.cell? ⟨k0, 0, none⟩ = some (.int .u64 (p0 : Int)) ∧ w'.cell? ⟨k0, 1, none⟩ = some (.int .u64 (p1 : Int)) ∧ w'.cell? ⟨k0, 2, none⟩ = some (.int .u64 (p2 : Int)) ∧ w'.cell? ⟨k0, 3, none⟩ = some (.int .u64 (p3 : Int)) ∧ w'.cell? ⟨k0, 4, none⟩ = some (.int .u64 (c0 : Int)) ∧ w'.cell? ⟨k0, 5, none⟩ = some (.int .u64 (c1 : Int)) ∧ w'.cell? ⟨k0, 6, none⟩ = some (.int .u64 (c2 : Int)) ∧ w'.cell? ⟨k0, 7, none⟩ = some (.int .u64 (c3 : Int)) ∧ w'.cell? ⟨gm, om + i, none⟩ = some (.string (T i)) ∧ Kept w k0 (⟨k0, 0, p0, p1, p2, p3⟩ :: ⟨k0, 4, c0, c1, c2, c3⟩ :: ⟨kx, 0, xa, xb, xc, xd⟩ :: ⟨ks, 0, sa, sb, sc, sd⟩ :: []) w') (first | (with_reducible exact lnS_of KP H0.out HCM.out.1 HCM.out.2) | (with_reducible exact lnS_of KP.drew H0.out HCM.out.1 HCM.out.2) | (with_reducible exact lnS_call (by assumption) (by assumption)) | (with_reducible exact lnS_allocd (by assumption)) | (with_reducible exact lnS_alloc (by assumption)) | (with_reducible exact lnS_drew (by assumption)) | (with_reducible exact lnS_of (KP.alloc _) H0.out HCM.out.1 HCM.out.2) | (with_reducible exact lnS_of (KP.set4' M7 (fun x hx => Nat.ne_of_gt (N7 x hx)) _ _ _ _) H0.out HCM.out.1 HCM.out.2) | (with_reducible exact lnS_of (KP.alloc _).drew H0.out HCM.out.1 HCM.out.2) | (with_reducible exact lnS_of (KP.set4' M7 (fun x hx => Nat.ne_of_gt (N7 x hx)) _ _ _ _).drew H0.out HCM.out.1 HCM.out.2) | fail) (first | (go_at_call 17; refine (rNumber_any p0 p1 p2 p3 c0 c1 c2 c3 P _ HR.out _).mono ?_; rintro e w3 ⟨v, rfl, hb1, na, nb, nc, nd, am, rfl, ham, hnm⟩; have HNR : Hid (Four (.agg #[.int .u64 (na : Int), .int .u64 (nb : Int), .int .u64 (nc : Int), .int .u64 (nd : Int)]) (beV (T i).data.toList)) := (ham (by cases am with | true => rfl | false => exact absurd (HNT.out i hlt) (hnm rfl))).2; clear ham hnm; (try (with_reducible have T1 := T.call hb1; clear T; have T := T1; clear T1)); (try (first | (with_reducible have T := (At4.made _ 33 0 0 0 0 rfl).call hb1) | (with_reducible have T := (At4.made _ 33 0 0 0 0 rfl).drew.call hb1)); have N7 := KP.lts; have M7 := KP.le); have KP1 := Kept.call (lnS_get (by assumption)) hb1; clear KP; have KP := KP1; clear KP1 hb1; (try (obtain ⟨tc0, tc1, tc2, tc3, tf⟩ := id T; have zt := T.lt))))
              all_goals (try go_wp2)
              all_goals (go_meet; first | (with_reducible exact NumR.made KP HNR) | (with_reducible exact (NumR.made KP HNR).drew) | (with_reducible exact NumR.put KP T M7 N7 HNR) | (with_reducible exact (NumR.put KP T M7 N7 HNR).drew) | fail)
            case rest =>
            clear KP
            obtain ⟨ky, ya, yb, yc, yd, am2, rfl, rfl, KP, ny, nyk, hY, -⟩ := hcut
            have nyx : ky ≠ kx := ny ⟨kx, 0, xa, xb, xc, xd⟩ (by simp)
            have nys : ky ≠ ks := ny ⟨ks, 0, sa, sb, sc, sd⟩ (by simp)
            clear ny
            have HXX : Hid (Four (.agg #[.int .u64 (xa : Int), .int .u64 (xb : Int), .int .u64 (xc : Int), .int .u64 (xd : Int)]) (beV (S i).data.toList)) := hX
            have HYY : Hid (Four (.agg #[.int .u64 (ya : Int), .int .u64 (yb : Int), .int .u64 (yc : Int), .int .u64 (yd : Int)]) (beV (T i).data.toList)) := hY
            clear hX hY
            go_upto_region 21 with fail
            refine anyTill.begin (fun w' => w'.cell? ⟨k0, 0, none⟩ = some (.int .u64 (p0 : Int)) ∧ w'.cell? ⟨k0, 1, none⟩ = some (.int .u64 (p1 : Int)) ∧ w'.cell? ⟨k0, 2, none⟩ = some (.int .u64 (p2 : Int)) ∧ w'.cell? ⟨k0, 3, none⟩ = some (.int .u64 (p3 : Int)) ∧ w'.cell? ⟨k0, 4, none⟩ = some (.int .u64 (c0 : Int)) ∧ w'.cell? ⟨k0, 5, none⟩ = some (.int .u64 (c1 : Int)) ∧ w'.cell? ⟨k0, 6, none⟩ = some (.int .u64 (c2 : Int)) ∧ w'.cell? ⟨k0, 7, none⟩ = some (.int .u64 (c3 : Int)) ∧ w'.cell? ⟨ks, 0, none⟩ = some (.int .u64 (sa : Int)) ∧ w'.cell? ⟨ks, 1, none⟩ = some (.int .u64 (sb : Int)) ∧ w'.cell? ⟨ks, 2, none⟩ = some (.int .u64 (sc : Int)) ∧ w'.cell? ⟨ks, 3, none⟩ = some (.int .u64 (sd : Int)) ∧ w'.cell? ⟨kx, 0, none⟩ = some (.int .u64 (xa : Int)) ∧ w'.cell? ⟨kx, 1, none⟩ = some (.int .u64 (xb : Int)) ∧ w'.cell? ⟨kx, 2, none⟩ = some (.int .u64 (xc : Int)) ∧ w'.cell? ⟨kx, 3, none⟩ = some (.int .u64 (xd : Int)) ∧ w'.cell? ⟨ky, 0, none⟩ = some (.int .u64 (ya : Int)) ∧ w'.cell? ⟨ky, 1, none⟩ = some (.int .u64 (yb : Int)) ∧ w'.cell? ⟨ky, 2, none⟩ = some (.int .u64 (yc : Int)) ∧ w'.cell? ⟨ky, 3, none⟩ = some (.int .u64 (yd : Int)) ∧ Kept w k0 (⟨k0, 0, p0, p1, p2, p3⟩ :: ⟨k0, 4, c0, c1, c2, c3⟩ :: ⟨ky, 0, ya, yb, yc, yd⟩ :: ⟨kx, 0, xa, xb, xc, xd⟩ :: ⟨ks, 0, sa, sb, sc, sd⟩ :: []) w') 7 mixed (lmS_of KP.drew) (fun hS => ?_)
            refine anyTill.take (i := 0) (v := ?_) rfl (by kernel_rfl) (by kernel_rfl) (by kernel_rfl) (by kernel_rfl) (by kernel_rfl) (fun _ _ _ h => h) (Or.inl ⟨by rfl, ?_⟩) hS ?_
            rotate_left
            · intro w hSw
              (try dsimp only at hSw)
              go_simp
              try (with_reducible rfl)
            simp only [Act.put, List.setIfInBounds_toArray]
            refine anyTill.take (i := 1) (v := ?_) rfl (by kernel_rfl) (by kernel_rfl) (by kernel_rfl) (by kernel_rfl) (by kernel_rfl) (fun _ _ _ h => h) (Or.inl ⟨by rfl, ?_⟩) hS ?_
            rotate_left
            · intro w hSw
              (try dsimp only at hSw)
              go_simp
              try (with_reducible rfl)
            simp only [Act.put]
            refine anyTill.take (i := 2) (v := ?_) rfl (by kernel_rfl) (by kernel_rfl) (by kernel_rfl) (by kernel_rfl) (by kernel_rfl) (fun _ _ _ h => h) (Or.inl ⟨by rfl, ?_⟩) hS ?_
            rotate_left
            · intro w hSw
              (try dsimp only at hSw)
              go_simp
              try (with_reducible rfl)
            simp only [Act.put]
            refine anyTill.take (i := 3) (v := ?_) rfl (by kernel_rfl) (by kernel_rfl) (by kernel_rfl) (by kernel_rfl) (by kernel_rfl) (fun _ _ _ h => h) (Or.inl ⟨by rfl, ?_⟩) hS ?_
            rotate_left
            · intro w hSw
              (try dsimp only at hSw)
              go_simp
              try (with_reducible rfl)
            simp only [Act.put]
            refine anyTill.take (i := 4) (v := ?_) rfl (by kernel_rfl) (by kernel_rfl) (by kernel_rfl) (by kernel_rfl) (by kernel_rfl) (fun _ _ _ h => h) (Or.inl ⟨by rfl, ?_⟩) hS ?_
            rotate_left
            · intro w hSw
              (try dsimp only at hSw)
              go_simp
              try (with_reducible rfl)
            simp only [Act.put]
            try simp only [List.set_cons_zero, List.set_cons_succ]
            refine anyTill.step (i := 5) rfl (by kernel_rfl) (fun K hK => ?_)
            go_simp
            refine (rMul_R HR.out HXX.out HYY.out _).mono ?_
            rintro e w6 ⟨v, rfl, hb6, hF3⟩
            obtain ⟨ua, ub, uc, ud, rfl, -⟩ := id hF3
            have HFU : Hid (Four _ _) := hF3
            clear hF3 hS
            have KP6 := KP.drew.call hb6
            clear hb6 KP
            refine hK.out _ _ (fun _ => lmS_of KP6) ?_
            clear hK K
            try simp only [Act.put, List.setIfInBounds_toArray, List.set_cons_zero, List.set_cons_succ]
            refine anyTill.step (i := 6) rfl (by kernel_rfl) (fun K hK => ?_)
            go_simp
            refine (rAdd_R HR.out HF.out HFU.out _).mono ?_
            rintro e w7 ⟨v, rfl, hb7, hF3⟩
            obtain ⟨va, vb, vc, vd, rfl, -⟩ := id hF3
            have HFZ : Hid (Four _ (dsum P (fun j => beV (S j).data.toList) (fun j => beV (T j).data.toList) (i + 1))) := hF3
            clear hF3 HF HFU
            have KP7 := KP6.call hb7
            clear hb7 KP6
            refine hK.out _ _ (fun _ => lmS_of KP7) ?_
            clear hK K
            try simp only [Act.put, List.setIfInBounds_toArray, List.set_cons_zero, List.set_cons_succ]
            obtain ⟨tc0, tc1, tc2, tc3, tf⟩ := KP7.tail.tail.tail.tail.head.at4
            have zt := KP7.tail.tail.tail.tail.head.lt
            refine anyTill.step (i := 7) rfl (by kernel_rfl) (fun K hK => ?_)
            go_simp
            refine hK.out _ _ (fun h => Bool.noConfusion h) ?_
            clear hK K
            try simp only [Act.put, List.setIfInBounds_toArray, List.set_cons_zero, List.set_cons_succ]
            refine anyTill.done (by kernel_rfl) ?_ _
            clear tc0 tc1 tc2 tc3 tf zt
            go_wp2
            go_roundg (gk - 1)
            case measure => omega
            case rel =>
              have K8 : Kept w k0 (⟨ks, 0, sa, sb, sc, sd⟩ :: ⟨k0, 0, p0, p1, p2, p3⟩ :: ⟨k0, 4, c0, c1, c2, c3⟩ :: []) w7 := (((Kept.mk1 KP7.bl KP7.le).cons KP7.tail.head).cons KP7.head).cons KP7.tail.tail.tail.tail.head
              have K9 := K8.put QS.out (by simp only [List.mem_cons, List.not_mem_nil, or_false]; rintro x (rfl | rfl) <;> exact nsk) va vb vc vd
              exact ⟨i + 1, va, vb, vc, vd, by omega, rfl, ((((Kept.mk1 K9.bl K9.le).cons K9.head).cons K9.tail.tail.head).cons K9.tail.head), HFZ⟩
          · have hge : ¬ (i : Int) < (n : Int) := by omega
            have HIN : Hid (i = n) := by unfold Hid; omega
            obtain ⟨tc0, tc1, tc2, tc3, tf⟩ := KP.tail.tail.head.at4
            have zt := KP.tail.tail.head.lt
            have hib := HIB.out.call (w1 := wr) (by rw [H0.out]; exact KP.bl)
            rw [← HIN.out] at hib
            obtain ⟨g', x', y', z', u', hE, h2⟩ := id hib
            have HIB2 : Hid _ := hib
            clear h2 hib HIB
            go_wp2_with fail
            clear tc0 tc1 tc2 tc3 tf zt
            refine (told_ok _ _ _ 0 _ HIB2.out HF.out).mono ?_
            rintro e w8 ⟨v, rfl, hb8, rfl⟩
            go_wp2
            go_ret
            exact ⟨_, rfl, by rw [H0.out]; exact KP.bl.trans (hb8.mono KP.le), by simp⟩
      · have hnm' : ¬ (n : Int) = (m : Int) := by omega
        have hans : ep = 2 ∧ k = 0 := by
          rcases HA.out with h | h | h
          · exact absurd h.2.2.1 hnm
          · exact h.2.2.2
          · rcases h.1 with ⟨j, hj, h1⟩ | ⟨j, hj, h1⟩
            · exact absurd (HNS.out j hj) h1
            · exact absurd (HNT.out j hj) h1
        obtain ⟨rfl, rfl⟩ := hans
        clear HA hnm
        go_wp2
        go_ret
        exact ⟨_, rfl, by rw [H0.out]; exact KP.bl, by simp⟩
end Go.Proofs.Ytbimbalfdmffaab
