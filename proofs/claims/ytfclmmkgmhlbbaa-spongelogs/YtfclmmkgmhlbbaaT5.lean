import Derived.Test.YtfclmmkgmhlbbaaG9
import Derived.BigQuiet
import Derived.StillTailTactics
namespace Go.Proofs.Ytfclmmkgmhlbbaa
open Go.RowKit Go.Sort Go.Deep

set_option maxHeartbeats 2000000 in
set_option maxRecDepth 100000 in
theorem logs_big (label : ByteArray) (la : Option Addr) (n cap : Nat) (w : World) (wl : label.size ≤ maxLen) (wn : n ≤ maxLen) (h : 16384 < label.size ∨ 64 < n) :
    Calls Try.prog 6 #[.string label, .slice la n cap] w fun e w' => e = .returned (.bool true) ∧ Below w.heap.size w w' := by
  unfold maxLen at wl wn
  by_cases h1 : 16384 < label.size
  · have d1 : decide ((16384 : Int) < (label.size : Int)) = true := decide_eq_true (by omega)
    go_enter Try.func6, Try.ntmps6
    go_wp2
    go_ret
    exact ⟨rfl, Below.refl _ _⟩
  · have d1 : decide ((16384 : Int) < (label.size : Int)) = false := decide_eq_false (by omega)
    have d2 : decide ((64 : Int) < (n : Int)) = true := decide_eq_true (by omega)
    go_enter Try.func6, Try.ntmps6
    go_wp2
    go_ret
    exact ⟨rfl, Below.refl _ _⟩

/-- The steps that came in. -/
def StepsAt (w : World) (la : Option Addr) (n : Nat) : Prop :=
  n = 0 ∨ ∃ pb po, la = some ⟨pb, po, none⟩ ∧ ∀ i, i < n → ∃ (d nn : Int) (s t : ByteArray), w.rangeAt pb (po + i * 4) [.int .i64 d, .int .i64 nn, .string s, .string t] ∧ s.size ≤ maxLen ∧ t.size ≤ maxLen

set_option maxHeartbeats 3000000 in
set_option maxRecDepth 100000 in
theorem logs_small (label : ByteArray) (la : Option Addr) (n lcap : Nat) (w : World) (hl : label.size ≤ 16384) (hn : n ≤ 64) (hP : StepsAt w la n) :
    Calls Try.prog 6 #[.string label, .slice la n lcap] w fun e w' => e = .returned (.bool true) ∧ Below w.heap.size w w' := by
  have d1 : decide ((16384 : Int) < (label.size : Int)) = false := decide_eq_false (by omega)
  have d2 : decide ((64 : Int) < (n : Int)) = false := decide_eq_false (by omega)
  go_enter Try.func6, Try.ntmps6
  go_wp2_with fail
  refine (NewLog_any label _ (by omega)).mono ?_
  rintro e w1 ⟨rfl, hb1, hH1⟩
  have hs1 := hb1.size
  go_wp2_with fail
  refine (refNew_any label _ hl).mono ?_
  rintro e w2 ⟨y, rfl, hy, hb2, hR2⟩
  have hx2 := Holds.below' hH1 hb2
  have hI2 : Inv w2 w.heap.size 0 (fun _ => w.heap.size) (fun _ => y) (fun _ => newL label.data.toList) (fun _ => newL label.data.toList) :=
    ⟨fun _ _ => Nat.le_refl _, fun _ _ => by omega, fun _ _ => newL_size _, fun _ _ => hx2, fun _ _ => hR2, fun i j hi hj hij => by omega, fun i j hi hj hij => by omega⟩
  have hbb2 : Below w.heap.size w w2 := hb1.trans (hb2.mono hs1)
  generalize newL label.data.toList = L0 at hI2
  clear hx2 hR2 hb2 hH1 hb1 d1 d2
  go_wp2
  go_loopg [5, 7, 8, 9] n (fun g s5 s7 s8 s9 wr => ∃ (k c : Nat) (X Y : Nat → Nat) (P : Nat → Bs), k + g = n ∧ s9 = .int .i64 k ∧ s5 = .pointer (some ⟨X c, 0, none⟩) ∧ Y c = y ∧ c ≤ k ∧ Below w.heap.size w wr ∧ Inv wr w.heap.size c X Y P P ∧ PL wr w.heap.size c s7 X ∧ PL wr w.heap.size c s8 Y)
  case atStart => exact ⟨0, 0, _, _, _, by omega, rfl, rfl, rfl, Nat.le_refl _, hbb2, hI2, Or.inl ⟨rfl, rfl⟩, Or.inl ⟨rfl, rfl⟩⟩
  case round =>
    clear hI2 hbb2 hs1 hy
    obtain ⟨k, c, X, Y, P, hk, rfl, rfl, hYc, hck, hb, hI, hX, hY⟩ := hrel
    by_cases hlt : k < n
    · obtain ⟨pb, po, rfl, hPj⟩ : ∃ pb po, la = some ⟨pb, po, none⟩ ∧ ∀ i, i < n → ∃ (d nn : Int) (s t : ByteArray), w.rangeAt pb (po + i * 4) [.int .i64 d, .int .i64 nn, .string s, .string t] ∧ s.size ≤ maxLen ∧ t.size ≤ maxLen := by
        rcases hP with h | h
        · omega
        · exact h
      obtain ⟨d, nn, s, t, hrg0, hsz, htz⟩ := hPj k hlt
      have hpb := World.block_lt_of_cell? _ _ (hrg0 0 _ rfl)
      have hrg := range_below hrg0 hb hpb
      have hsr := hb.size
      obtain ⟨td, htd, htr⟩ := row47
      have HD : Hid (Try.prog.underlying 47 = some td) := htd
      have HZ : Hid ((Try.prog.info? 47).map (·.size) = some 4) := size47
      have zv := zero47
      obtain ⟨hbW, hsW, k0, k1, k2, k3⟩ := step_cells wr (.int .i64 d) (.int .i64 nn) (.string s) (.string t)
      have hbb : Below w.heap.size w (wr.alloc (.cells #[.int .i64 d, .int .i64 nn, .string s, .string t] 47)) := hb.trans (hbW.mono hsr)
      have hIW := hI.below hbW
      have hXW := hX.below hbW
      have hYW := hY.below hbW
      unfold maxLen at hsz htz
      have l1 : (k : Int) < (n : Int) := by omega
      clear hP hPj hrg0 htd hb hI hX hY hbW
      by_cases hs : 16384 < s.size
      · have ds : decide ((16384 : Int) < (s.size : Int)) = true := decide_eq_true (by omega)
        clear k0 k1 k2 k3
        go_wp2_with (refine wpList_load_mid rfl 47 _ rfl pb (po + k * 4) rfl [.int .i64 d, .int .i64 nn, .string s, .string t] td hrg HD.out htr HZ.out ?_)
        go_roundg (gk - 1)
        case measure => omega
        case rel => exact ⟨k + 1, c, X, Y, P, by omega, by go_num, rfl, hYc, by omega, hbb, hIW, hXW, hYW⟩
      have ds : decide ((16384 : Int) < (s.size : Int)) = false := decide_eq_false (by omega)
      by_cases ht : 16384 < t.size
      · have dt : decide ((16384 : Int) < (t.size : Int)) = true := decide_eq_true (by omega)
        clear k0 k1 k2 k3
        go_wp2_with (refine wpList_load_mid rfl 47 _ rfl pb (po + k * 4) rfl [.int .i64 d, .int .i64 nn, .string s, .string t] td hrg HD.out htr HZ.out ?_)
        go_roundg (gk - 1)
        case measure => omega
        case rel => exact ⟨k + 1, c, X, Y, P, by omega, by go_num, rfl, hYc, by omega, hbb, hIW, hXW, hYW⟩
      have dt : decide ((16384 : Int) < (t.size : Int)) = false := decide_eq_false (by omega)
      have hs' : s.size ≤ 16384 := by omega
      have ht' : t.size ≤ 16384 := by omega
      clear hsz htz hs ht
      have hLs : (P c).size = 32 := hIW.sz c (Nat.le_refl _)
      have hxW := hIW.hx c (Nat.le_refl _)
      have hyW := hIW.hy c (Nat.le_refl _)
      rw [hYc] at hyW
      have hxl := hIW.ltx (Nat.le_refl c)
      have hyl := hIW.lty (Nat.le_refl c)
      rw [hYc, hsW] at hyl
      rw [hsW] at hxl
      have hxB := hIW.bx c (Nat.le_refl _)
      have hyB := hIW.by' c (Nat.le_refl _)
      rw [hYc] at hyB
      have hxo : X c ≠ wr.heap.size := fun e => by
        have h0 := (hxW 0 (by omega)).1
        rw [e, k0] at h0
        injection h0 with h0
        injection h0 with h0 _
        cases h0
      by_cases h1 : d = 1
      · subst h1
        go_wp2_with (refine wpList_load_mid rfl 47 _ rfl pb (po + k * 4) rfl [.int .i64 1, .int .i64 nn, .string s, .string t] td hrg HD.out htr HZ.out ?_)
        refine (Lent_any t _ ht').mono ?_
        rintro e w3 ⟨rfl, hb3, hL3⟩
        obtain ⟨m, hm⟩ : ∃ m, t.size + 160 = m := ⟨_, rfl⟩
        rw [hm]
        have Hm : Hid (t.size + 160 = m) := hm
        have b1 : (t.size : Int) ≤ (m : Int) := by omega
        clear hm
        have hs3 := hb3.size
        have k2' := cell_below k2 hb3
        have k3' := cell_below k3 hb3
        rw [hsW] at hL3 hb3 hs3
        have hbb3 : Below w.heap.size w w3 := hbb.trans (hb3.mono (by omega))
        have hI3 := hIW.below (by rw [hsW]; exact hb3)
        have hX3 := hXW.below (by rw [hsW]; exact hb3)
        have hY3 := hYW.below (by rw [hsW]; exact hb3)
        have hx3 := hI3.hx c (Nat.le_refl _)
        clear hIW hXW hYW hxW hyW hbb k0 k1 k2 k3 hb3 ds dt l1
        go_wp2_with fail
        go_still_tail 8, mixed
        go_wp2_with fail
        have hP3 : PartOk w3.drew (.slice (some ⟨wr.heap.size + 1, 0, none⟩) t.size m) t.data.toList :=
          ⟨_, wr.heap.size + 1, 0, m, t.data, rfl, rfl, by show t.size ≤ m; have := Hm.out; omega, by show t.size ≤ _; omega, Or.inr ⟨rfl, Holds.drew (holds_text t hL3)⟩⟩
        refine (Say_any (X c) (P c) s (some ⟨wr.heap.size + 1, 0, none⟩) t.size m t.data.toList _ (by omega) (Holds.drew hx3) hLs hP3).mono ?_
        rintro e w4 ⟨rfl, hO4, hx4⟩
        have hO4' : Only (X c) 0 32 w3 w4 := ((Only.refl _ _ _ w3).drew).trans hO4
        have hN4 : (sayL (P c) s.data.toList t.data.toList).size = 32 := sayL_size _ _ _
        obtain ⟨N, hNe⟩ : ∃ N, sayL (P c) s.data.toList t.data.toList = N := ⟨_, rfl⟩
        rw [hNe] at hx4 hN4
        have HN : Hid (sayL (P c) s.data.toList t.data.toList = N) := hNe
        have hI4 := hI3.setX (Nat.le_refl c) hO4' hN4 hx4
        have hX4 := hX3.only hO4' (fun _ => not_ptr_x hx3 hLs _)
        have hY4 := hY3.only hO4' (fun _ => not_ptr_x hx3 hLs _)
        have hL4 := Holds.other0 hL3 hO4' (by omega)
        have k2'' := cell_only k2' hO4' (Ne.symm hxo)
        have k3'' := cell_only k3' hO4' (Ne.symm hxo)
        have hbb4 : Below w.heap.size w w4 := hbb3.trans (hO4'.below hbb3.size hxB)
        clear k2' k3' hI3 hX3 hY3 hx3 hL3 hP3 hO4 hO4' hbb3 hNe hN4 hx4
        go_wp2_with fail
        have hSt := Still_any (wr.heap.size + 1) _ t w4 ht' hL4 rfl
        rw [Hm.out] at hSt
        refine hSt.mono ?_
        rintro e w5 ⟨rfl, hb5⟩
        clear hSt
        have hI5 := hI4.below hb5
        have hX5 := hX4.below hb5
        have hY5 := hY4.below hb5
        have k25 := cell_below k2'' hb5
        have k35 := cell_below k3'' hb5
        have hbb5 : Below w.heap.size w w5 := hbb4.trans (hb5.mono hbb4.size)
        have hy5 := hI5.hy c (Nat.le_refl _)
        rw [hYc] at hy5
        clear k2'' k3'' hI4 hX4 hY4 hL4 hbb4 hb5
        go_wp2_with fail
        refine (refSay_any y (P c) s t _ hs' ht' hLs hy5).mono ?_
        rintro e w6 ⟨rfl, hO6, hy6⟩
        rw [HN.out] at hy6
        have hI6 := hI5.setY (Nat.le_refl c) (by rw [hYc]; exact hO6) (by rw [hYc]; exact hy6)
        have hX6 := hX5.only hO6 (fun _ => not_ptr_y hy5 _)
        have hY6 := hY5.only hO6 (fun _ => not_ptr_y hy5 _)
        have hbb6 : Below w.heap.size w w6 := hbb5.trans (hO6.below hbb5.size hyB)
        clear hI5 hX5 hY5 hy5 hbb5 HN k25 k35 hO6 hy6
        go_wp2
        go_roundg (gk - 1)
        case measure => omega
        case rel => exact ⟨k + 1, c, X, Y, upd P c N, by omega, by go_num, rfl, hYc, by omega, hbb6, hI6, hX6, hY6⟩
      by_cases h2 : d = 2
      · subst h2
        by_cases hn0 : nn < 0
        · have dn : decide (nn < 0) = true := decide_eq_true hn0
          go_wp2_with (refine wpList_load_mid rfl 47 _ rfl pb (po + k * 4) rfl [.int .i64 2, .int .i64 nn, .string s, .string t] td hrg HD.out htr HZ.out ?_)
          refine (Ask_no _ s nn _ (Or.inl hn0)).mono ?_
          rintro e w3 ⟨rfl, rfl⟩
          go_wp2
          go_roundg (gk - 1)
          case measure => omega
          case rel => exact ⟨k + 1, c, X, Y, P, by omega, by go_num, rfl, hYc, by omega, hbb, hIW, hXW, hYW⟩
        have dn : decide (nn < 0) = false := decide_eq_false hn0
        by_cases hn1 : 1024 < nn
        · have dn1 : decide (1024 < nn) = true := decide_eq_true hn1
          go_wp2_with (refine wpList_load_mid rfl 47 _ rfl pb (po + k * 4) rfl [.int .i64 2, .int .i64 nn, .string s, .string t] td hrg HD.out htr HZ.out ?_)
          refine (Ask_no _ s nn _ (Or.inr hn1)).mono ?_
          rintro e w3 ⟨rfl, rfl⟩
          go_wp2
          go_roundg (gk - 1)
          case measure => omega
          case rel => exact ⟨k + 1, c, X, Y, P, by omega, by go_num, rfl, hYc, by omega, hbb, hIW, hXW, hYW⟩
        obtain ⟨m, rfl⟩ := Int.eq_ofNat_of_zero_le (by omega : 0 ≤ nn)
        have dn1 : decide (1024 < (m : Int)) = false := decide_eq_false hn1
        go_wp2_with (refine wpList_load_mid rfl 47 _ rfl pb (po + k * 4) rfl [.int .i64 2, .int .i64 (m : Int), .string s, .string t] td hrg HD.out htr HZ.out ?_)
        refine (Ask_yes (X c) (P c) s m _ (by omega) (by omega) hxW hLs).mono ?_
        rintro e w3 ⟨r3, rfl, hr3, hO3, hx3, hA3⟩
        rw [hsW] at hr3
        have hN3 : (askedL (P c) s.data.toList).size = 32 := askedL_size _ _
        obtain ⟨N, hNe⟩ : ∃ N, askedL (P c) s.data.toList = N := ⟨_, rfl⟩
        rw [hNe] at hx3 hN3
        have HN : Hid (askedL (P c) s.data.toList = N) := hNe
        have hA : (askL (P c) s.data.toList m).size = m := askL_size _ _ _
        obtain ⟨A, hAe⟩ : ∃ A, askL (P c) s.data.toList m = A := ⟨_, rfl⟩
        rw [hAe] at hA3 hA
        have HA : Hid (askL (P c) s.data.toList m = A) := hAe
        have hI3 := hIW.setX (Nat.le_refl c) hO3 hN3 hx3
        have hX3 := hXW.only hO3 (fun _ => not_ptr_x hxW hLs _)
        have hY3 := hYW.only hO3 (fun _ => not_ptr_x hxW hLs _)
        have k13 := cell_only k1 hO3 (Ne.symm hxo)
        have k23 := cell_only k2 hO3 (Ne.symm hxo)
        have hbb3 : Below w.heap.size w w3 := hbb.trans (hO3.below hbb.size hxB)
        have hy3 := hI3.hy c (Nat.le_refl _)
        rw [hYc] at hy3
        clear k0 k1 k2 k3 hIW hXW hYW hxW hyW hbb hNe hAe hN3 hx3 hO3 ds dt l1
        go_wp2_with fail
        refine (refAsk_any y (P c) s m _ hs' (by omega) hLs hy3).mono ?_
        rintro e w4 ⟨rfl, hO4, hy4⟩
        rw [HA.out]
        rw [HN.out] at hy4
        have hA4 := Holds.other0 hA3 hO4 (by omega)
        have kc := conv_str Try.prog 22 9 5 slice22 int5 str9 w4 r3 0 m m A hA4 hA
        have hI4 := hI3.setY (Nat.le_refl c) (by rw [hYc]; exact hO4) (by rw [hYc]; exact hy4)
        have hX4 := hX3.only hO4 (fun _ => not_ptr_y hy3 _)
        have hY4 := hY3.only hO4 (fun _ => not_ptr_y hy3 _)
        have hbb4 : Below w.heap.size w w4 := hbb3.trans (hO4.below hbb3.size hyB)
        clear hI3 hX3 hY3 hy3 hbb3 k13 k23 hO4 hy4 hA3 hA4 HA HN
        go_wp2
        go_roundg (gk - 1)
        case measure => omega
        case rel => exact ⟨k + 1, c, X, Y, upd P c N, by omega, by go_num, rfl, hYc, by omega, hbb4, hI4, hX4, hY4⟩
      by_cases h3 : d = 3
      · subst h3
        go_wp2_with (refine wpList_load_mid rfl 47 _ rfl pb (po + k * 4) rfl [.int .i64 3, .int .i64 nn, .string s, .string t] td hrg HD.out htr HZ.out ?_)
        refine (Clone_any (X c) (P c) _ hxW hLs).mono ?_
        rintro e w3 ⟨rfl, hb3, hx3⟩
        have hI3 := hIW.below hb3
        have hX3 := hXW.below hb3
        have hY3 := hYW.below hb3
        have hbb3 : Below w.heap.size w w3 := hbb.trans (hb3.mono hbb.size)
        have hXn : ∀ j, j ≤ c → X j ≠ wr.heap.size + 1 := fun j hj => by have := hIW.ltx hj; rw [hsW] at this; omega
        rw [hsW] at hx3
        have hx3l := Holds.lt hx3 (by omega)
        have hX0 : 0 < c → X 0 ≠ Y 0 := fun _ => hI3.ne (Nat.zero_le _) (Nat.zero_le _)
        obtain ⟨v7, w4, hap4, hX4, hb4, hsf4⟩ := PL.push slice44 info40 hX3 hbb3.size (by omega) (x := X c) rfl rfl
        have hI4 := hI3.soft hsf4
        have hY4 := hY3.soft hsf4 hX0
        have hx4 := Holds.soft hx3 (by omega) hsf4
        have hbb4 : Below w.heap.size w w4 := hbb3.trans hb4
        have hy4 := hI4.hy c (Nat.le_refl _)
        rw [hYc] at hy4
        have hb5 : Below w4.heap.size w4 (w4.alloc (.cells #[.string ⟨P c⟩] 53)) := (Below.refl _ _).alloc (Nat.le_refl _) _
        have hs5 : (w4.alloc (.cells #[.string ⟨P c⟩] 53)).heap.size = w4.heap.size + 1 := by simp
        have hn5 := rlog_new w4 53 (P c)
        have hI5 := hI4.below hb5
        have hX5 := hX4.below hb5
        have hY5 := (hY4.below hb5).congr (X' := upd (upd Y (c + 1) (Y c)) c w4.heap.size) (fun j hj => by rw [upd_other _ _ _ (by omega), upd_other _ _ _ (by omega)])
        have hx5 := Holds.below' hx4 hb5
        have hbb5 : Below w.heap.size w (w4.alloc (.cells #[.string ⟨P c⟩] 53)) := hbb4.trans (hb5.mono hbb4.size)
        obtain ⟨v8, w6, hap6, hY6, hb6, hsf6⟩ := PL.push slice45 info42 hY5 hbb5.size (by omega) (x := w4.heap.size) rfl (by rw [upd_same])
        rw [hs5] at hap6
        have hI6 := hI5.soft hsf6
        have hX6 := hX5.soft hsf6 (fun h0 => by
          rw [upd_other _ _ _ (by omega), upd_other _ _ _ (by omega)]
          exact Ne.symm (hX0 h0))
        have hx6 := Holds.soft hx5 (by omega) hsf6
        have hn6 := hn5.soft hsf6
        have hI7 := hI6.clone rfl hx6 hn6 (by omega) (by have := hbb4.size; omega) hXn (fun j hj => by have := hI4.lty hj; omega)
        have hX7 : PL w6 w.heap.size (c + 1) v7 (upd X (c + 1) (wr.heap.size + 1)) := hX6.congr (fun j hj => upd_other _ _ _ (by omega))
        have hbb6 : Below w.heap.size w w6 := hbb5.trans hb6
        have hYn : upd (upd Y (c + 1) (Y c)) c w4.heap.size (c + 1) = y := by rw [upd_other _ _ _ (by omega), upd_same, hYc]
        obtain ⟨c4, f4⟩ := hy4
        clear k0 k1 k2 k3 hIW hXW hYW hxW hyW hbb hb3 hI3 hX3 hY3 hbb3 hx3 hI4 hY4 hx4 hbb4 hb5 hn5 hI5 hX5 hY5 hx5 hbb5 hI6 hX6 hx6 hn6 hb4 hb6 hsf4 hsf6 hX4 ds dt l1 hX0 hXn hs5
        go_wp2_with (at_builtin; first | refine Lib.wpList_append_run _ rfl _ _ 44 44 rfl _ _ rfl rfl _ _ hap4 ?_ | refine Lib.wpList_append_run _ rfl _ _ 45 45 rfl _ _ rfl rfl _ _ hap6 ?_)
        go_roundg (gk - 1)
        case measure => omega
        case rel => exact ⟨k + 1, c + 1, upd X (c + 1) (wr.heap.size + 1), upd (upd Y (c + 1) (Y c)) c w4.heap.size, upd P (c + 1) (P c), by omega, by go_num, by rw [upd_same], hYn, by omega, hbb6, hI7, hX7, hY6⟩
      have n1 : (d = 1) = False := eq_false h1
      have n2 : (d = 2) = False := eq_false h2
      have n3 : (d = 3) = False := eq_false h3
      clear k0 k1 k2 k3 hxW hyW
      go_wp2_with (refine wpList_load_mid rfl 47 _ rfl pb (po + k * 4) rfl [.int .i64 d, .int .i64 nn, .string s, .string t] td hrg HD.out htr HZ.out ?_)
      go_roundg (gk - 1)
      case measure => omega
      case rel => exact ⟨k + 1, c, X, Y, P, by omega, by go_num, rfl, hYc, by omega, hbb, hIW, hXW, hYW⟩
    · have l1 : (n : Int) ≤ (k : Int) := by omega
      have hX0 : 0 < c → X 0 ≠ Y 0 := fun _ => hI.ne (Nat.zero_le _) (Nat.zero_le _)
      obtain ⟨v7, w4, hap4, hX4, hb4, hsf4⟩ := PL.push slice44 info40 hX hb.size (by omega) (x := X c) rfl rfl
      have hI4 := hI.soft hsf4
      have hY4 := hY.soft hsf4 hX0
      have hbb4 : Below w.heap.size w w4 := hb.trans hb4
      obtain ⟨v8, w6, hap6, hY6, hb6, hsf6⟩ := PL.push slice45 info42 hY4 hbb4.size (by omega) (x := y) rfl hYc.symm
      have hI6 := hI4.soft hsf6
      have hX6 := hX4.soft hsf6 (fun h0 => Ne.symm (hX0 h0))
      have hbb6 : Below w.heap.size w w6 := hbb4.trans hb6
      obtain ⟨q, hq⟩ : ∃ q, c + 1 = q := ⟨_, rfl⟩
      rw [hq] at hX6 hY6
      have Hq : Hid (c + 1 = q) := hq
      have hq64 : q ≤ 65 := by omega
      have hq0 : 0 < q := by omega
      obtain ⟨g7, cap7, rfl, _⟩ := PL.at hX6 (j := 0) hq0
      obtain ⟨g8, cap8, rfl, _⟩ := PL.at hY6 (j := 0) hq0
      clear hq hI hX hY hb hb4 hsf4 hsf6 hI4 hX4 hY4 hbb4 hb6 hX0 hlt hck hk
      go_wp2_with (at_builtin; first | refine Lib.wpList_append_run _ rfl _ _ 44 44 rfl _ _ rfl rfl _ _ hap4 ?_ | refine Lib.wpList_append_run _ rfl _ _ 45 45 rfl _ _ rfl rfl _ _ hap6 ?_)
      clear hap4 hap6 l1
      go_loopg [17] q (fun g s17 wr => ∃ (i : Nat) (P : Nat → Bs), i + g = q ∧ s17 = .int .i64 i ∧ Below w.heap.size w wr ∧ Inv wr w.heap.size c X Y P P ∧ PL wr w.heap.size q (.slice (some ⟨g7, 0, none⟩) q cap7) X ∧ PL wr w.heap.size q (.slice (some ⟨g8, 0, none⟩) q cap8) Y)
      case atStart => exact ⟨0, P, by omega, rfl, hbb6, hI6, hX6, hY6⟩
      case round =>
        clear hbb6 hI6 hX6 hY6
        obtain ⟨i, P, hi, rfl, hb, hI, hX, hY⟩ := hrel
        by_cases hlt : i < q
        · have hic : i ≤ c := by have := Hq.out; omega
          have hc7 := hX.cell hlt
          have hLs : (P i).size = 32 := hI.sz i hic
          have hx := hI.hx i hic
          have hy := hI.hy i hic
          have hxB := hI.bx i hic
          have hyB := hI.by' i hic
          have hyl := hI.lty hic
          have l1 : (i : Int) < (q : Int) := by omega
          go_wp2_with fail
          refine (Ask_yes (X i) (P i) ⟨#[101, 110, 100]⟩ 40 _ (by decide) (by omega) hx hLs).mono ?_
          rintro e w3 ⟨r3, rfl, hr3, hO3, hx3, hA3⟩
          have hN3 : (askedL (P i) (⟨#[101, 110, 100]⟩ : ByteArray).data.toList).size = 32 := askedL_size _ _
          obtain ⟨N, hNe⟩ : ∃ N, askedL (P i) (⟨#[101, 110, 100]⟩ : ByteArray).data.toList = N := ⟨_, rfl⟩
          rw [hNe] at hx3 hN3
          have HN : Hid (askedL (P i) (⟨#[101, 110, 100]⟩ : ByteArray).data.toList = N) := hNe
          have hA : (askL (P i) (⟨#[101, 110, 100]⟩ : ByteArray).data.toList 40).size = 40 := askL_size _ _ _
          obtain ⟨A, hAe⟩ : ∃ A, askL (P i) (⟨#[101, 110, 100]⟩ : ByteArray).data.toList 40 = A := ⟨_, rfl⟩
          rw [hAe] at hA3 hA
          have HA : Hid (askL (P i) (⟨#[101, 110, 100]⟩ : ByteArray).data.toList 40 = A) := hAe
          have hI3 := hI.setX hic hO3 hN3 hx3
          have hX3 := hX.only hO3 (fun _ => not_ptr_x hx hLs _)
          have hY3 := hY.only hO3 (fun _ => not_ptr_x hx hLs _)
          have hc83 := hY3.cell hlt
          have hbb3 : Below w.heap.size w w3 := hb.trans (hO3.below hb.size hxB)
          have hy3 := hI3.hy i hic
          clear hNe hAe hN3 hx3 hI hX hY hc7 hx hy hb hO3
          go_wp2_with fail
          refine (refAsk_any (Y i) (P i) ⟨#[101, 110, 100]⟩ 40 _ (by decide) (by omega) hLs hy3).mono ?_
          rintro e w4 ⟨rfl, hO4, hy4⟩
          rw [HA.out]
          rw [HN.out] at hy4
          have hA4 := Holds.other0 hA3 hO4 (by omega)
          have kc := conv_str Try.prog 22 9 5 slice22 int5 str9 w4 r3 0 40 40 A hA4 hA
          have hI4 := hI3.setY hic hO4 hy4
          have hX4 := hX3.only hO4 (fun _ => not_ptr_y hy3 _)
          have hY4 := hY3.only hO4 (fun _ => not_ptr_y hy3 _)
          have hbb4 : Below w.heap.size w w4 := hbb3.trans (hO4.below hbb3.size hyB)
          clear hI3 hX3 hY3 hy3 hbb3 hc83 hO4 hy4 hA3 hA4 HA HN
          go_wp2
          go_roundg (gk - 1)
          case measure => omega
          case rel => exact ⟨i + 1, upd P i N, by omega, by go_num, hbb4, hI4, hX4, hY4⟩
        · have l1 : (q : Int) ≤ (i : Int) := by omega
          go_wp2
          go_ret
          exact ⟨rfl, hb⟩
end Go.Proofs.Ytfclmmkgmhlbbaa
