import Derived.Test.YtppdcphfphcbbabL6
import Derived.Test.YtppdcphfphcbbabR4
import Derived.Test.YtppdcphfphcbbabM1
import Derived.Test.YtppdcphfphcbbabN3
import Derived.Deep.RegionHeld3
namespace Go.Proofs.Ytppdcphfphcbbab
open Go.RowKit Go.Sort Go.Deep

theorem plS_of {w W : World} {k0 ky kw kl i g p0 p1 p2 p3 c0 c1 c2 c3 ya yb yc yd a b c d : Nat} {T : Bs} (h : Kept w k0 (⟨kw, 0, a, b, c, d⟩ :: [⟨k0, 0, p0, p1, p2, p3⟩, ⟨k0, 4, c0, c1, c2, c3⟩, ⟨ky, 0, ya, yb, yc, yd⟩]) W) (hk : w.heap.size = k0) (hkl : kl < w.heap.size) (hc : w.cell? ⟨kl, i, none⟩ = some (.slice (some ⟨g, 0, none⟩) 32 32)) (hH : Holds encB w g 0 T) (hT : T.size = 32) : W.cell? ⟨kw, 0, none⟩ = some (.int .u64 (a : Int)) ∧ W.cell? ⟨kw, 1, none⟩ = some (.int .u64 (b : Int)) ∧ W.cell? ⟨kw, 2, none⟩ = some (.int .u64 (c : Int)) ∧ W.cell? ⟨kw, 3, none⟩ = some (.int .u64 (d : Int)) ∧ W.cell? ⟨kl, i, none⟩ = some (.slice (some ⟨g, 0, none⟩) 32 32) ∧ (convert 23 9 (.slice (some ⟨g, 0, none⟩) 32 32)).run Try.prog W = .ok (.string ⟨T⟩) W ∧ Kept w k0 (⟨kw, 0, a, b, c, d⟩ :: [⟨k0, 0, p0, p1, p2, p3⟩, ⟨k0, 4, c0, c1, c2, c3⟩, ⟨ky, 0, ya, yb, yc, yd⟩]) W := by
  have hb : Below w.heap.size w W := by rw [hk]; exact h.bl
  exact ⟨h.head.c0, h.head.c1, h.head.c2, h.head.c3, by rw [hb.cell (p := ⟨kl, i, none⟩) hkl]; exact hc, conv_str Try.prog 23 9 5 slice22 int5 str9 _ g 0 32 32 _ (Holds.below hH hb (Holds.lt hH (by omega))) hT, h⟩

/-- The law's powers, where there are some. -/
theorem lpowers_err (p0 p1 p2 p3 c0 c1 c2 c3 P : Nat) (x : ByteArray) (hR : RefP p0 p1 p2 p3 c0 c1 c2 c3 P) (n ep : Int) (c : Nat) (q : Option Addr) (w : World) (h : ((n < 0 ∨ 256 < n) ∧ ep = 1) ∨ ((0 ≤ n ∧ n ≤ 256) ∧ ¬ IsNum P x.data ∧ ep = 3)) :
    Calls Try.prog 27 #[.agg #[.int .u64 (p0 : Int), .int .u64 (p1 : Int), .int .u64 (p2 : Int), .int .u64 (p3 : Int), .int .u64 (c0 : Int), .int .u64 (c1 : Int), .int .u64 (c2 : Int), .int .u64 (c3 : Int)], .string x, .int .i64 n, .slice q 0 c, .int .i64 ep] w (Ret fun e w' => Below w.heap.size w w' ∧ e = .bool true) := by
  have HR : Hid (RefP p0 p1 p2 p3 c0 c1 c2 c3 P) := hR
  have HH : Hid _ := h
  clear hR h
  go_enter Try.func27, Try.ntmps27
  go_wp2_with fail
  have A7 := At8.made w 35 p0 p1 p2 p3 c0 c1 c2 c3 rfl
  have hb0 := below1 w (.cells #[.int .u64 (p0 : Int), .int .u64 (p1 : Int), .int .u64 (p2 : Int), .int .u64 (p3 : Int), .int .u64 (c0 : Int), .int .u64 (c1 : Int), .int .u64 (c2 : Int), .int .u64 (c3 : Int)] 35)
  generalize World.alloc _ _ = W0 at A7 hb0 ⊢
  refine (rNumber_any p0 p1 p2 p3 c0 c1 c2 c3 P x HR.out _).mono ?_
  rintro e w1 ⟨v, rfl, hb1, xa, xb, xc, xd, am, rfl, ham, hnm⟩
  have HB : Hid (Below w.heap.size w w1) := hb0.trans (hb1.mono hb0.size)
  clear A7 hb0 hb1
  rcases HH.out with ⟨hn, rfl⟩ | ⟨hn, hno, rfl⟩
  · by_cases h0 : n < 0
    · clear HH ham hnm
      go_wp2
      go_ret
      exact ⟨_, rfl, HB.out.alloc HB.out.size _, by simp⟩
    · have h1 : 256 < n := hn.resolve_left h0
      clear HH ham hnm
      go_wp2
      go_ret
      exact ⟨_, rfl, HB.out.alloc HB.out.size _, by simp⟩
  · have h0 : ¬ n < 0 := by omega
    have h1 : ¬ 256 < n := by omega
    cases am with
    | true => exact absurd (ham rfl).1 hno
    | false =>
      clear HH ham hnm hno hn
      go_wp2
      go_ret
      exact ⟨_, rfl, HB.out.alloc HB.out.size _, by simp⟩

set_option maxHeartbeats 8000000 in
set_option maxRecDepth 100000 in
theorem lpowers_ok (p0 p1 p2 p3 c0 c1 c2 c3 P : Nat) (x : ByteArray) (hR : RefP p0 p1 p2 p3 c0 c1 c2 c3 P) (n kl : Nat) (hn : n ≤ 256) (w : World) (hx : IsNum P x.data) (hS : Shelf w kl n n (fun j => beV x.data.toList ^ j % P)) :
    Calls Try.prog 27 #[.agg #[.int .u64 (p0 : Int), .int .u64 (p1 : Int), .int .u64 (p2 : Int), .int .u64 (p3 : Int), .int .u64 (c0 : Int), .int .u64 (c1 : Int), .int .u64 (c2 : Int), .int .u64 (c3 : Int)], .string x, .int .i64 (n : Int), .slice (some ⟨kl, 0, none⟩) n n, .int .i64 0] w (Ret fun e w' => Below w.heap.size w w' ∧ e = .bool true) := by
  have HR : Hid (RefP p0 p1 p2 p3 c0 c1 c2 c3 P) := hR
  have HX : Hid (IsNum P x.data) := hx
  have HSH : Hid (Shelf w kl n n (fun j => beV x.data.toList ^ j % P)) := hS
  have h0 : ¬ (n : Int) < 0 := by omega
  have h1 : ¬ (256 : Int) < (n : Int) := by omega
  clear hR hx hS
  go_enter Try.func27, Try.ntmps27
  go_wp2_with fail
  have A7 := At8.made w 35 p0 p1 p2 p3 c0 c1 c2 c3 rfl
  have KP := ((Kept.mk1 (below1 w (.cells #[.int .u64 (p0 : Int), .int .u64 (p1 : Int), .int .u64 (p2 : Int), .int .u64 (p3 : Int), .int .u64 (c0 : Int), .int .u64 (c1 : Int), .int .u64 (c2 : Int), .int .u64 (c3 : Int)] 35)) (below1 w (.cells #[.int .u64 (p0 : Int), .int .u64 (p1 : Int), .int .u64 (p2 : Int), .int .u64 (p3 : Int), .int .u64 (c0 : Int), .int .u64 (c1 : Int), .int .u64 (c2 : Int), .int .u64 (c3 : Int)] 35)).size).cons (x := ⟨w.heap.size, 4, c0, c1, c2, c3⟩) ⟨A7.c4, A7.c5, A7.c6, A7.c7, A7.fz⟩).cons (x := ⟨w.heap.size, 0, p0, p1, p2, p3⟩) ⟨A7.c0, A7.c1, A7.c2, A7.c3, A7.fz⟩
  clear A7
  generalize World.alloc _ _ = W0 at KP ⊢
  generalize hk0 : w.heap.size = k0 at KP ⊢
  have H0 : Hid (w.heap.size = k0) := hk0
  clear hk0
  refine (rNumber_any p0 p1 p2 p3 c0 c1 c2 c3 P x HR.out _).mono ?_
  rintro e w1 ⟨v, rfl, hb1, ya, yb, yc, yd, am, rfl, ham, hnm⟩
  replace KP := KP.call hb1
  clear hb1
  cases am with
  | false => exact absurd HX.out (hnm rfl)
  | true =>
    have HY : Hid (Four _ (beV x.data.toList)) := (ham rfl).2
    clear ham hnm
    go_wp2_with fail
    have KY : Kept w k0 (⟨w1.heap.size, 0, ya, yb, yc, yd⟩ :: [⟨k0, 0, p0, p1, p2, p3⟩, ⟨k0, 4, c0, c1, c2, c3⟩]) _ := (KP.alloc (.cells #[.int .u64 (ya : Int), .int .u64 (yb : Int), .int .u64 (yc : Int), .int .u64 (yd : Int)] 33)).cons (At4.made w1 33 ya yb yc yd rfl).blk
    clear KP
    generalize World.alloc _ _ = W1 at KY ⊢
    generalize w1.heap.size = ky at KY ⊢
    refine (rSmall_any 1 (by decide) _).mono ?_
    rintro e w2 ⟨v, rfl, hb2, rfl⟩
    replace KY := KY.call hb2
    clear hb2
    go_wp2
    have KW : Kept w k0 (⟨w2.heap.size, 0, 1, 0, 0, 0⟩ :: [⟨k0, 0, p0, p1, p2, p3⟩, ⟨k0, 4, c0, c1, c2, c3⟩, ⟨ky, 0, ya, yb, yc, yd⟩]) _ := ((((Kept.mk1 (KY.alloc (.cells #[.int .u64 1, .int .u64 0, .int .u64 0, .int .u64 0] 33)).bl (KY.alloc _).le).cons (KY.alloc _).head).cons (KY.alloc _).tail.tail.head).cons (KY.alloc _).tail.head).cons (At4.made w2 33 1 0 0 0 rfl).blk
    have QW : Hid (k0 ≤ w2.heap.size) := KY.le
    have hltY := KY.lts
    clear KY
    generalize World.alloc _ _ = W2 at KW ⊢
    generalize w2.heap.size = kw at KW QW hltY ⊢
    have hlw : ∀ x ∈ ([⟨k0, 0, p0, p1, p2, p3⟩, ⟨k0, 4, c0, c1, c2, c3⟩, ⟨ky, 0, ya, yb, yc, yd⟩] : List Blk), kw ≠ x.k := by
      simp only [List.mem_cons, List.not_mem_nil, or_false]
      rintro x (rfl | rfl | rfl)
      · exact Nat.ne_of_gt (hltY ⟨k0, 0, p0, p1, p2, p3⟩ (by simp))
      · exact Nat.ne_of_gt (hltY ⟨k0, 4, c0, c1, c2, c3⟩ (by simp))
      · exact Nat.ne_of_gt (hltY ⟨ky, 0, ya, yb, yc, yd⟩ (by simp))
    have nwk : kw ≠ k0 := hlw ⟨k0, 0, p0, p1, p2, p3⟩ (by simp)
    have nwy : kw ≠ ky := hlw ⟨ky, 0, ya, yb, yc, yd⟩ (by simp)
    clear hltY
    go_loopg [14] n (fun gk s14 wr => ∃ i a b c d : Nat, i + gk = n ∧ s14 = .int .i64 (i : Int) ∧ Kept w k0 (⟨kw, 0, a, b, c, d⟩ :: [⟨k0, 0, p0, p1, p2, p3⟩, ⟨k0, 4, c0, c1, c2, c3⟩, ⟨ky, 0, ya, yb, yc, yd⟩]) wr ∧ Hid (Four (.agg #[.int .u64 (a : Int), .int .u64 (b : Int), .int .u64 (c : Int), .int .u64 (d : Int)]) (beV x.data.toList ^ i % P)))
    case atStart =>
      refine ⟨0, 1, 0, 0, 0, Nat.zero_add _, rfl, KW, ?_⟩
      have h1 := HR.out.hP2
      have h2 : 3 < top := by decide
      rw [Nat.pow_zero, Nat.mod_eq_of_lt (by omega)]
      exact Four.mk (by decide) (by decide) (by decide) (by decide) rfl
    case round =>
      clear KW
      obtain ⟨i, a, b, c, d, hi, rfl, KP, HF⟩ := hrel
      by_cases hlt : i < n
      · have hlt' : (i : Int) < (n : Int) := by omega
        obtain ⟨-, -, hkl, G, hG, -⟩ := HSH.out
        obtain ⟨hc, h32, -⟩ := hG i hlt
        obtain ⟨g, hg⟩ : ∃ g, G i = g := ⟨_, rfl⟩
        rw [hg] at hc h32
        obtain ⟨T, hT⟩ : ∃ T, bytesOf (beV x.data.toList ^ i % P) = T := ⟨_, rfl⟩
        have hTs : T.size = 32 := hT ▸ bytesOf_size _
        have hH : Holds encB w g 0 T := hT ▸ h32.2
        have HTE : Hid (be32 a b c d = T) := by
          obtain ⟨a', b', c', d', e', h1, h2, h3, h4, h5⟩ := HF.out
          simp only [Value.agg.injEq, Array.mk.injEq, List.cons.injEq, Value.int.injEq, true_and, and_true, Int.ofNat_inj] at e'
          obtain ⟨rfl, rfl, rfl, rfl⟩ := e'
          unfold Hid
          rw [← hT]
          exact bytesOf_eq h1 h2 h3 h5
        have HHH : Hid (Holds encB w g 0 T ∧ kl < w.heap.size ∧ w.cell? ⟨kl, i, none⟩ = some (.slice (some ⟨g, 0, none⟩) 32 32)) := ⟨hH, hkl, hc⟩
        clear hG hg hT h32 hH hkl hc G
        go_upto_region 12 with fail
        go_region_held3 (fun w' => w'.cell? ⟨kw, 0, none⟩ = some (.int .u64 (a : Int)) ∧ w'.cell? ⟨kw, 1, none⟩ = some (.int .u64 (b : Int)) ∧ w'.cell? ⟨kw, 2, none⟩ = some (.int .u64 (c : Int)) ∧ w'.cell? ⟨kw, 3, none⟩ = some (.int .u64 (d : Int)) ∧ w'.cell? ⟨kl, i, none⟩ = some (.slice (some ⟨g, 0, none⟩) 32 32) ∧ (convert 23 9 (.slice (some ⟨g, 0, none⟩) 32 32)).run Try.prog w' = .ok (.string ⟨T⟩) w' ∧ Kept w k0 (⟨kw, 0, a, b, c, d⟩ :: [⟨k0, 0, p0, p1, p2, p3⟩, ⟨k0, 4, c0, c1, c2, c3⟩, ⟨ky, 0, ya, yb, yc, yd⟩]) w') (first | (with_reducible exact plS_of KP H0.out HHH.out.2.1 HHH.out.2.2 HHH.out.1 hTs) | (with_reducible exact plS_of KP.drew H0.out HHH.out.2.1 HHH.out.2.2 HHH.out.1 hTs) | fail) (first | (go_at_call 61; refine (rBytes_any _ _ _ HF.out).mono ?_; rintro e w4 ⟨v, rfl, hb1, a', b', c', d', he, rfl⟩; obtain ⟨rfl, rfl, rfl, rfl⟩ := ag_inj he; rw [HTE.out]; clear he; (first | (with_reducible (have KP1 := KP.drew.call hb1)) | (with_reducible (have KP1 := KP.call hb1)) | fail); clear KP hb1; have KP := KP1; clear KP1))
        rename_i hHeld
        clear hHeld
        obtain ⟨tc0, tc1, tc2, tc3, tf⟩ := KP.head.at4
        have zt := KP.head.lt
        obtain ⟨fc0, fc1, fc2, fc3, ff⟩ := KP.tail.head.at4
        have fb := KP.tail.tail.head
        have fd0 : w4.cell? ⟨k0, 4, none⟩ = some (.int .u64 (c0 : Int)) := fb.c0
        have fd1 : w4.cell? ⟨k0, 5, none⟩ = some (.int .u64 (c1 : Int)) := fb.c1
        have fd2 : w4.cell? ⟨k0, 6, none⟩ = some (.int .u64 (c2 : Int)) := fb.c2
        have fd3 : w4.cell? ⟨k0, 7, none⟩ = some (.int .u64 (c3 : Int)) := fb.c3
        have zf := KP.tail.head.lt
        obtain ⟨yc0, yc1, yc2, yc3, yf⟩ := KP.tail.tail.tail.head.at4
        have zy := KP.tail.tail.tail.head.lt
        go_wp2_with fail
        clear tc0 tc1 tc2 tc3 tf zt fc0 fc1 fc2 fc3 ff fb fd0 fd1 fd2 fd3 zf yc0 yc1 yc2 yc3 yf zy
        refine (rMul_R HR.out HF.out HY.out _).mono ?_
        rintro e w5 ⟨v, rfl, hb5, hF3⟩
        rw [pow_step_mod] at hF3
        obtain ⟨ua, ub, uc, ud, rfl, -⟩ := id hF3
        have HFU : Hid (Four _ _) := hF3
        replace KP := KP.call hb5
        clear hF3 hb5
        obtain ⟨tc0, tc1, tc2, tc3, tf⟩ := KP.head.at4
        have zt := KP.head.lt
        go_wp2
        go_roundg (gk - 1)
        case measure => omega
        case rel => exact ⟨i + 1, ua, ub, uc, ud, by omega, rfl, KP.put QW.out hlw ua ub uc ud, HFU⟩
      · have hge : ¬ (i : Int) < (n : Int) := by omega
        go_wp2
        go_ret
        exact ⟨_, rfl, by rw [H0.out]; exact KP.bl, by simp⟩
end Go.Proofs.Ytppdcphfphcbbab
