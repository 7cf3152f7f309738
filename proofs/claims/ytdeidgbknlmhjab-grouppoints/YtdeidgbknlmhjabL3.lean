import Derived.Test.YtdeidgbknlmhjabL2
namespace Go.Proofs.Ytdeidgbknlmhjab
open Go.RowKit Go.Sort Go.Deep

set_option maxHeartbeats 4000000 in
set_option maxRecDepth 100000 in
theorem Inv_any (k : Int) (g0 g1 g2 P : Nat) (va : Value) (s : Bs) (hG : Gap g0 g1 g2 P) (hP2 : 2 ≤ P % 18446744073709551616) (w : World) (hp : PrimeOf k g0 g1 g2) (ha : Arg w va s) :
    Calls Try.prog 13 #[.int .i64 k, va] w (Ret fun e w' => Below w.heap.size w w' ∧ OneR w P s (beV s.toList ^ (P - 2) % P) e w') := by
  have HP : Hid (PrimeOf k g0 g1 g2) := hp
  have HA : Hid (Arg w va s) := ha
  have HG : Hid (Gap g0 g1 g2 P) := hG
  have HP2 : Hid (2 ≤ P % 18446744073709551616) := hP2
  obtain ⟨pa, na, ca, rfl, -⟩ := id ha
  clear hp hG ha hP2
  go_enter Try.func13, Try.ntmps13
  go_wp2_with fail
  refine (HP.out _).mono ?_
  rintro e w1 ⟨v, rfl, hb1, rfl⟩
  go_wp2_with fail
  have KP := ((Kept.mk1 hb1 hb1.size).alloc (.cells #[.int .u64 (g0 : Int), .int .u64 (g1 : Int), .int .u64 (g2 : Int), .int .u64 0] 79)).cons (At4.made w1 79 g0 g1 g2 0 rfl).blk
  have hA := args_one HA.out KP.bl 23
  rw [World.size_alloc] at hA
  replace KP := KP.alloc (.cells #[.slice pa na ca] 23)
  clear hb1
  generalize World.alloc _ _ = W0 at KP hA ⊢
  generalize w1.heap.size = kp at KP hA ⊢
  refine (numbers_any g0 g1 g2 P 1 1 _ (fun _ => s) HG.out _ (by decide) hA).mono ?_
  rintro e w2 ⟨v, rfl, hb2, h2⟩
  replace KP := KP.call hb2
  clear hb2 hA
  rcases h2 with ⟨hall, kn, hkn, rfl, NM⟩ | ⟨hno, rfl⟩
  · have HBO : Hid (IsNum P s) := hall 0 (by decide)
    clear hall hkn
    obtain ⟨xa, xb, xc, xd, X, hX⟩ := NM 0 (by decide)
    have HX : Hid (Four _ (beV s.toList)) := hX (by decide)
    replace X : (Blk.mk kn 0 xa xb xc xd).at w2 := X
    replace KP : Kept w w.heap.size [⟨kp, 0, g0, g1, g2, 0⟩, ⟨kn, 0, xa, xb, xc, xd⟩] w2 := ((Kept.mk1 KP.bl KP.le).cons X).cons KP.head
    clear NM hX X
    obtain ⟨pc0, pc1, pc2, pc3, pf⟩ := KP.head.at4
    go_upto_region 7 with fail
    clear pc0 pc1 pc2 pc3 pf
    go_region_held3 (fun w' => w'.cell? ⟨kp, 0, none⟩ = some (.int .u64 (g0 : Int)) ∧ w'.cell? ⟨kp, 1, none⟩ = some (.int .u64 (g1 : Int)) ∧ w'.cell? ⟨kp, 2, none⟩ = some (.int .u64 (g2 : Int)) ∧ w'.cell? ⟨kp, 3, none⟩ = some (.int .u64 0) ∧ w'.cell? ⟨kn, 0, none⟩ = some (.int .u64 (xa : Int)) ∧ w'.cell? ⟨kn, 1, none⟩ = some (.int .u64 (xb : Int)) ∧ w'.cell? ⟨kn, 2, none⟩ = some (.int .u64 (xc : Int)) ∧ w'.cell? ⟨kn, 3, none⟩ = some (.int .u64 (xd : Int)) ∧ Kept w w.heap.size [⟨kp, 0, g0, g1, g2, 0⟩, ⟨kn, 0, xa, xb, xc, xd⟩] w') (first | (with_reducible exact oneS_of KP) | (with_reducible exact oneS_of KP.drew) | fail) (first | (go_at_call 50; refine (Inverse_any g0 g1 g2 P _ _ HG.out HP2.out HX.out _).mono ?_; rintro e w3 ⟨v, rfl, hb1, hF3⟩; obtain ⟨a', b', c', d', rfl, ha', hb', hc', hd', es3⟩ := id hF3; clear es3; have HF3 : Hid (Four _ _) := hF3; clear hF3; (first | (with_reducible (have KP1 := KP.drew.call hb1)) | (with_reducible (have KP1 := KP.call hb1)) | fail); clear KP; have KP := KP1; clear KP1; clear hb1) | (go_at_call 51; refine (bytes_of _ _ _ HF3.out).mono ?_; rintro e w4 ⟨v, rfl, hb1, hv⟩; obtain ⟨g', x', y', z', u', rfl, h2⟩ := id hv; clear h2; have HV : Hid (IsBytes _ _ _ _) := hv; clear hv; have HL : Hid (w.heap.size ≤ _) := KP.le; (first | (with_reducible (have KP1 := KP.drew.call hb1)) | (with_reducible (have KP1 := KP.call hb1)) | fail); clear KP; have KP := KP1; clear KP1; clear hb1))
    all_goals (try go_wp2)
    all_goals go_ret2
    all_goals exact ⟨_, rfl, KP.bl, Or.inl ⟨HBO.out, _, rfl, HV.out.mono HL.out⟩⟩
  · have HN : Hid (¬ IsNum P s) := by obtain ⟨j, -, h⟩ := hno; exact h
    clear hno
    go_wp2
    go_ret2
    exact ⟨_, rfl, KP.bl, Or.inr ⟨HN.out, rfl⟩⟩

set_option maxHeartbeats 1000000 in
theorem Inv_no (k : Int) (hk : k < 0 ∨ 2 ≤ k) (va : Value) (w : World) :
    Calls Try.prog 13 #[.int .i64 k, va] w (Ret fun e w' => Below w.heap.size w w' ∧ e = .tuple #[.slice none 0 0, .int .i64 2]) := by
  go_enter Try.func13, Try.ntmps13
  go_wp2_with fail
  refine (primeOf_n k hk _).mono ?_
  rintro e w1 ⟨v, rfl, hb1, rfl⟩
  go_wp2
  go_ret2
  exact ⟨_, rfl, hb1.alloc hb1.size _, rfl⟩
end Go.Proofs.Ytdeidgbknlmhjab
