import Derived.Lib.Bytealg
import Derived.WalkKit
import Derived.Test.YtfkgfcggcfkkiaaDoorRows
import Derived.Lib.Mul64
import Derived.Laws.Bits64b
import Derived.Laws.Externs
import Derived.Sort.Row
import Derived.Below
import Derived.Deep.LoopGhost
import Derived.Deep.QuietTactic
import Derived.StillTailTactics
import Derived.BigRegion
import Derived.BigQuiet
import Derived.WalkSpells
import Derived.WalkLawsBesides
import Derived.Deep.MidRow
import Derived.OrdersHeld
import Derived.Test.YtfkgfcggcfkkiaaDoorwk1
set_option linter.unusedVariables false
set_option linter.unusedSimpArgs false
namespace Go.Proofs.YtfkgfcggcfkkiaaDoor
open Go.RowKit Go.Sort Go.Deep
namespace WI
theorem orK : ∀ (k : Fin 8) (n : Fin 32), bits .or .u8 ((k.val : Int) * 32) (n.val : Int) = ((32 * k.val + n.val : Nat) : Int) := by decide
theorem box1 (w : World) (c : UInt8) : (w.alloc (.cells #[.int .u8 (c.toNat : Int)] 5)).ownsRow w.heap.size 5 1 (.slice (some ⟨w.heap.size, 0, none⟩) 1 1) [c].length (Lib.byteCells [c]) :=
  ⟨rfl, .inr ⟨w.heap.size, 1, #[.int .u8 (c.toNat : Int)], rfl, Nat.le_refl _, Array.getElem?_push_size, Nat.le_refl _, by unfold maxLen; omega, rfl, rfl⟩⟩
theorem beN_take (n : Nat) : ∀ (S s : Nat), s < S → (beN S n).take (S - s) = (beN S n).take (S - (s + 1)) ++ [UInt8.ofNat (n / 256 ^ s)]
  | 0, s, h => by omega
  | S + 1, s, h => by
    rw [beN]
    by_cases e : s = S
    · subst e
      rw [show s + 1 - s = 0 + 1 by omega, show s + 1 - (s + 1) = 0 by omega, List.take_succ_cons]
      simp
    · rw [show S + 1 - s = (S - s) + 1 by omega, show S + 1 - (s + 1) = (S - (s + 1)) + 1 by omega, List.take_succ_cons, List.take_succ_cons, beN_take n S s (by omega)]
      rfl
/-- What it has so far. -/
def HdI (w : World) (l : List UInt8) (v : Value) (W : World) : Prop := Below w.heap.size w W ∧ W.ownsRow w.heap.size 5 1 v l.length (Lib.byteCells l)
theorem HdI.push {w : World} {l : List UInt8} {v : Value} {W : World} (h : HdI w l v W) (hl : l.length ≤ 1000000) (c : UInt8) (b : Int) (hb : (c.toNat : Int) = b) :
    ∃ q m cc q' n' c' W', v = .slice q m cc ∧ (Builtin.append_ #[22, 22] 22 #[.slice q m cc, .slice (some ⟨W.heap.size, 0, none⟩) 1 1]).run Tryd.prog (W.alloc (.cells #[.int .u8 b] 5)) = .ok (.slice q' n' c') W' ∧ HdI w (l ++ [c]) (.slice q' n' c') W' := by
  obtain ⟨q, cc, rfl⟩ := slice_own h.2
  obtain ⟨q', n', c', W', r1, r2, r3⟩ := push_b rfl h.1 h.2 hl c
  subst hb
  exact ⟨q, _, cc, q', n', c', W', rfl, r1 _, r2, r3⟩
theorem byteS (n s : Nat) : ((UInt8.ofNat (n / 256 ^ s)).toNat : Int) = (n : Int) / 2 ^ (8 * s) % 256 := by
  rw [show (256 : Nat) ^ s = 2 ^ (8 * s) by rw [Nat.pow_mul]]
  have : (UInt8.ofNat (n / 2 ^ (8 * s))).toNat = n / 2 ^ (8 * s) % 256 := by simp
  rw [this, Int.natCast_emod, Int.natCast_ediv, Int.natCast_pow]
  rfl
set_option maxHeartbeats 1000000 in
set_option maxRecDepth 20000 in
theorem headOf_c (w : World) (k n : Nat) (hk : k < 8) (hn : n < 18446744073709551616) : Calls Tryd.prog 73 #[.int .i64 (k : Int), .int .u64 (n : Int)] w (RetW fun e w' => HdI w (hd k n) e w') := by
  by_cases h : n < 24
  · have h1 : (n : Int) < 24 := by omega
    have hK : Hid (HdI w (hd k n) (.slice (some ⟨w.heap.size, 0, none⟩) 1 1) (w.alloc (.cells #[.int .u8 ((32 * k + n : Nat) : Int)] 5))) := by
      have e : (UInt8.ofNat (32 * k + n)).toNat = 32 * k + n := by simp; omega
      have := box1 w (UInt8.ofNat (32 * k + n))
      rw [e] at this
      rw [hd, if_pos h]
      exact ⟨alloc_below _ _, this⟩
    have ho := orK ⟨k, hk⟩ ⟨n, by omega⟩
    simp only at ho
    go_enter Tryd.func73, Tryd.ntmps73
    go_wp2
    go_ret
    exact ⟨_, rfl, hK.out⟩
  · have h1 : ¬ (n : Int) < 24 := by omega
    go_enter Tryd.func73, Tryd.ntmps73
    go_wp2
    go_loopg [6, 7] 5 (fun gk s6 s7 wr => w = wr ∧ ∃ sz lo : Nat, s6 = .int .i64 (sz : Int) ∧ s7 = .int .u8 (lo : Int) ∧ ((sz = 1 ∧ lo = 24 ∧ gk = 5) ∨ (sz = 2 ∧ lo = 25 ∧ 256 ≤ n ∧ gk = 4) ∨ (sz = 4 ∧ lo = 26 ∧ 65536 ≤ n ∧ gk = 3) ∨ (sz = 8 ∧ lo = 27 ∧ 4294967296 ≤ n ∧ gk = 2)))
    case atStart => exact ⟨rfl, 1, 24, rfl, rfl, Or.inl ⟨rfl, rfl, rfl⟩⟩
    case round =>
      obtain ⟨rfl, sz, lo, rfl, rfl, hc⟩ := hrel
      rcases hc with ⟨rfl, rfl, rfl⟩ | ⟨rfl, rfl, h2, rfl⟩ | ⟨rfl, rfl, h2, rfl⟩ | ⟨rfl, rfl, h2, rfl⟩
      · by_cases g : n < 256
        · have g1 : ¬ (0 : Int) < (n : Int) / 256 := by omega
          have ho : bits .or .u8 ((k : Int) * 32) 24 = (((UInt8.ofNat (32 * k + 24)).toNat : Nat) : Int) := by
            rw [show (UInt8.ofNat (32 * k + 24)).toNat = 32 * k + 24 by simp; omega]
            exact orK ⟨k, hk⟩ ⟨24, by omega⟩
          obtain ⟨c, hcc⟩ : ∃ c : UInt8, Hid (UInt8.ofNat (32 * k + 24) = c) := ⟨_, rfl⟩
          rw [hcc.out] at ho
          have H0 : Hid (HdI w [c] (.slice (some ⟨w.heap.size, 0, none⟩) 1 1) (w.alloc (.cells #[.int .u8 (c.toNat : Int)] 5))) := ⟨alloc_below _ _, box1 w c⟩
          have he : Hid (hd k n = c :: beN 1 n) := by
            show hd k n = c :: beN 1 n
            rw [← hcc.out, hd, if_neg h]
            simp only [hlo, hsz]
            rw [if_pos (by omega), if_pos (by omega)]
          clear hcc
          go_wp2
          go_loopg [6, 8] 2 (fun gk s6 s8 wx => ∃ s : Nat, s ≤ 1 ∧ s6 = .int .i64 (s : Int) ∧ gk = s + 1 ∧ HdI w (c :: (beN 1 n).take (1 - s)) s8 wx)
          case atStart => exact ⟨1, Nat.le_refl _, rfl, rfl, H0.out⟩
          case round =>
            obtain ⟨s, hs, rfl, rfl, hI⟩ := hrel
            by_cases h0 : s = 0
            · subst h0
              have KR : Hid (HdI w (hd k n) u8 wr) := by
                rw [he.out]
                rw [Nat.sub_zero, List.take_of_length_le (by rw [beN_length]; omega)] at hI
                exact hI
              clear hI
              go_wp2
              go_ret
              exact ⟨_, rfl, KR.out⟩
            · obtain ⟨s, rfl⟩ : ∃ t, s = t + 1 := ⟨s - 1, by omega⟩
              obtain ⟨q8, m8, c8, q', n', c', W', rfl, r1, r2⟩ := hI.push (by rw [List.length_cons, List.length_take, beN_length]; omega) _ _ (byteS n s)
              have hK : Hid (HdI w (c :: (beN 1 n).take (1 - s)) (.slice q' n' c') W') := by
                rw [beN_take n 1 s (by omega)]
                exact r2
              have g0 : (0 : Int) < ((s + 1 : Nat) : Int) := by omega
              have HAP := hidW r1
              clear hI r1 r2
              go_wp2_with (at_builtin; refine Lib.wpList_append_run _ rfl _ _ _ _ rfl _ _ rfl rfl _ _ HAP.out ?_)
              go_roundg (s + 1)
              case measure => omega
              case rel => exact ⟨s, by omega, rfl, rfl, hK.out⟩
        · have g1 : (0 : Int) < (n : Int) / 256 := by omega
          go_wp2
          go_roundg 4
          case measure => omega
          case rel => exact ⟨rfl, 2, 25, rfl, rfl, Or.inr (Or.inl ⟨rfl, rfl, by omega, rfl⟩)⟩
      · by_cases g : n < 65536
        · have g1 : ¬ (0 : Int) < (n : Int) / 65536 := by omega
          have ho : bits .or .u8 ((k : Int) * 32) 25 = (((UInt8.ofNat (32 * k + 25)).toNat : Nat) : Int) := by
            rw [show (UInt8.ofNat (32 * k + 25)).toNat = 32 * k + 25 by simp; omega]
            exact orK ⟨k, hk⟩ ⟨25, by omega⟩
          obtain ⟨c, hcc⟩ : ∃ c : UInt8, Hid (UInt8.ofNat (32 * k + 25) = c) := ⟨_, rfl⟩
          rw [hcc.out] at ho
          have H0 : Hid (HdI w [c] (.slice (some ⟨w.heap.size, 0, none⟩) 1 1) (w.alloc (.cells #[.int .u8 (c.toNat : Int)] 5))) := ⟨alloc_below _ _, box1 w c⟩
          have he : Hid (hd k n = c :: beN 2 n) := by
            show hd k n = c :: beN 2 n
            rw [← hcc.out, hd, if_neg h]
            simp only [hlo, hsz]
            rw [if_neg (by omega), if_pos (by omega), if_neg (by omega), if_pos (by omega)]
          clear hcc
          go_wp2
          go_loopg [6, 8] 3 (fun gk s6 s8 wx => ∃ s : Nat, s ≤ 2 ∧ s6 = .int .i64 (s : Int) ∧ gk = s + 1 ∧ HdI w (c :: (beN 2 n).take (2 - s)) s8 wx)
          case atStart => exact ⟨2, Nat.le_refl _, rfl, rfl, H0.out⟩
          case round =>
            obtain ⟨s, hs, rfl, rfl, hI⟩ := hrel
            by_cases h0 : s = 0
            · subst h0
              have KR : Hid (HdI w (hd k n) u8 wr) := by
                rw [he.out]
                rw [Nat.sub_zero, List.take_of_length_le (by rw [beN_length]; omega)] at hI
                exact hI
              clear hI
              go_wp2
              go_ret
              exact ⟨_, rfl, KR.out⟩
            · obtain ⟨s, rfl⟩ : ∃ t, s = t + 1 := ⟨s - 1, by omega⟩
              obtain ⟨q8, m8, c8, q', n', c', W', rfl, r1, r2⟩ := hI.push (by rw [List.length_cons, List.length_take, beN_length]; omega) _ _ (byteS n s)
              have hK : Hid (HdI w (c :: (beN 2 n).take (2 - s)) (.slice q' n' c') W') := by
                rw [beN_take n 2 s (by omega)]
                exact r2
              have g0 : (0 : Int) < ((s + 1 : Nat) : Int) := by omega
              have HAP := hidW r1
              clear hI r1 r2
              go_wp2_with (at_builtin; refine Lib.wpList_append_run _ rfl _ _ _ _ rfl _ _ rfl rfl _ _ HAP.out ?_)
              go_roundg (s + 1)
              case measure => omega
              case rel => exact ⟨s, by omega, rfl, rfl, hK.out⟩
        · have g1 : (0 : Int) < (n : Int) / 65536 := by omega
          go_wp2
          go_roundg 3
          case measure => omega
          case rel => exact ⟨rfl, 4, 26, rfl, rfl, Or.inr (Or.inr (Or.inl ⟨rfl, rfl, by omega, rfl⟩))⟩
      · by_cases g : n < 4294967296
        · have g1 : ¬ (0 : Int) < (n : Int) / 4294967296 := by omega
          have ho : bits .or .u8 ((k : Int) * 32) 26 = (((UInt8.ofNat (32 * k + 26)).toNat : Nat) : Int) := by
            rw [show (UInt8.ofNat (32 * k + 26)).toNat = 32 * k + 26 by simp; omega]
            exact orK ⟨k, hk⟩ ⟨26, by omega⟩
          obtain ⟨c, hcc⟩ : ∃ c : UInt8, Hid (UInt8.ofNat (32 * k + 26) = c) := ⟨_, rfl⟩
          rw [hcc.out] at ho
          have H0 : Hid (HdI w [c] (.slice (some ⟨w.heap.size, 0, none⟩) 1 1) (w.alloc (.cells #[.int .u8 (c.toNat : Int)] 5))) := ⟨alloc_below _ _, box1 w c⟩
          have he : Hid (hd k n = c :: beN 4 n) := by
            show hd k n = c :: beN 4 n
            rw [← hcc.out, hd, if_neg h]
            simp only [hlo, hsz]
            rw [if_neg (by omega), if_neg (by omega), if_pos (by omega), if_neg (by omega), if_neg (by omega), if_pos (by omega)]
          clear hcc
          go_wp2
          go_loopg [6, 8] 5 (fun gk s6 s8 wx => ∃ s : Nat, s ≤ 4 ∧ s6 = .int .i64 (s : Int) ∧ gk = s + 1 ∧ HdI w (c :: (beN 4 n).take (4 - s)) s8 wx)
          case atStart => exact ⟨4, Nat.le_refl _, rfl, rfl, H0.out⟩
          case round =>
            obtain ⟨s, hs, rfl, rfl, hI⟩ := hrel
            by_cases h0 : s = 0
            · subst h0
              have KR : Hid (HdI w (hd k n) u8 wr) := by
                rw [he.out]
                rw [Nat.sub_zero, List.take_of_length_le (by rw [beN_length]; omega)] at hI
                exact hI
              clear hI
              go_wp2
              go_ret
              exact ⟨_, rfl, KR.out⟩
            · obtain ⟨s, rfl⟩ : ∃ t, s = t + 1 := ⟨s - 1, by omega⟩
              obtain ⟨q8, m8, c8, q', n', c', W', rfl, r1, r2⟩ := hI.push (by rw [List.length_cons, List.length_take, beN_length]; omega) _ _ (byteS n s)
              have hK : Hid (HdI w (c :: (beN 4 n).take (4 - s)) (.slice q' n' c') W') := by
                rw [beN_take n 4 s (by omega)]
                exact r2
              have g0 : (0 : Int) < ((s + 1 : Nat) : Int) := by omega
              have HAP := hidW r1
              clear hI r1 r2
              go_wp2_with (at_builtin; refine Lib.wpList_append_run _ rfl _ _ _ _ rfl _ _ rfl rfl _ _ HAP.out ?_)
              go_roundg (s + 1)
              case measure => omega
              case rel => exact ⟨s, by omega, rfl, rfl, hK.out⟩
        · have g1 : (0 : Int) < (n : Int) / 4294967296 := by omega
          go_wp2
          go_roundg 2
          case measure => omega
          case rel => exact ⟨rfl, 8, 27, rfl, rfl, Or.inr (Or.inr (Or.inr ⟨rfl, rfl, by omega, rfl⟩))⟩
      · have g : ¬ n < 4294967296 := by omega
        have ho : bits .or .u8 ((k : Int) * 32) 27 = (((UInt8.ofNat (32 * k + 27)).toNat : Nat) : Int) := by
          rw [show (UInt8.ofNat (32 * k + 27)).toNat = 32 * k + 27 by simp; omega]
          exact orK ⟨k, hk⟩ ⟨27, by omega⟩
        obtain ⟨c, hcc⟩ : ∃ c : UInt8, Hid (UInt8.ofNat (32 * k + 27) = c) := ⟨_, rfl⟩
        rw [hcc.out] at ho
        have H0 : Hid (HdI w [c] (.slice (some ⟨w.heap.size, 0, none⟩) 1 1) (w.alloc (.cells #[.int .u8 (c.toNat : Int)] 5))) := ⟨alloc_below _ _, box1 w c⟩
        have he : Hid (hd k n = c :: beN 8 n) := by
          show hd k n = c :: beN 8 n
          rw [← hcc.out, hd, if_neg h]
          simp only [hlo, hsz]
          rw [if_neg (by omega), if_neg (by omega), if_neg (by omega), if_neg (by omega), if_neg (by omega), if_neg (by omega)]
        clear hcc
        go_wp2
        go_loopg [6, 8] 9 (fun gk s6 s8 wx => ∃ s : Nat, s ≤ 8 ∧ s6 = .int .i64 (s : Int) ∧ gk = s + 1 ∧ HdI w (c :: (beN 8 n).take (8 - s)) s8 wx)
        case atStart => exact ⟨8, Nat.le_refl _, rfl, rfl, H0.out⟩
        case round =>
          obtain ⟨s, hs, rfl, rfl, hI⟩ := hrel
          by_cases h0 : s = 0
          · subst h0
            have KR : Hid (HdI w (hd k n) u8 wr) := by
              rw [he.out]
              rw [Nat.sub_zero, List.take_of_length_le (by rw [beN_length]; omega)] at hI
              exact hI
            clear hI
            go_wp2
            go_ret
            exact ⟨_, rfl, KR.out⟩
          · obtain ⟨s, rfl⟩ : ∃ t, s = t + 1 := ⟨s - 1, by omega⟩
            obtain ⟨q8, m8, c8, q', n', c', W', rfl, r1, r2⟩ := hI.push (by rw [List.length_cons, List.length_take, beN_length]; omega) _ _ (byteS n s)
            have hK : Hid (HdI w (c :: (beN 8 n).take (8 - s)) (.slice q' n' c') W') := by
              rw [beN_take n 8 s (by omega)]
              exact r2
            have g0 : (0 : Int) < ((s + 1 : Nat) : Int) := by omega
            have HAP := hidW r1
            clear hI r1 r2
            go_wp2_with (at_builtin; refine Lib.wpList_append_run _ rfl _ _ _ _ rfl _ _ rfl rfl _ _ HAP.out ?_)
            go_roundg (s + 1)
            case measure => omega
            case rel => exact ⟨s, by omega, rfl, rfl, hK.out⟩
end WI
end Go.Proofs.YtfkgfcggcfkkiaaDoor
namespace Go.Proofs.YtfkgfcggcfkkiaaDoor
open Go.RowKit Go.Sort Go.Deep
namespace WI
theorem ltB_cmp : ∀ a b : List UInt8, (Lib.compareBytes a b < 0 ↔ ltB a b = true)
  | [], [] => by simp [Lib.compareBytes, ltB]
  | [], _ :: _ => by simp [Lib.compareBytes, ltB]
  | _ :: _, [] => by simp [Lib.compareBytes, ltB]
  | x :: a, y :: b => by
    have ih := ltB_cmp a b
    unfold Lib.compareBytes ltB
    by_cases h1 : x < y
    · simp [h1]
    · by_cases h2 : x = y
      · subst h2
        simp only [h1, if_false, if_true]
        exact ih
      · have h3 : y < x := UInt8.lt_of_le_of_ne (UInt8.not_lt.1 h1) (Ne.symm h2)
        simp [h1, h2, h3]
theorem loadBytes_run (b : Nat) (w : World) : ∀ (x : List UInt8) (o : Nat) (acc : ByteArray), (∀ j u, x[j]? = some u → w.cell? ⟨b, o + j, none⟩ = some (.int .u8 (u.toNat : Int))) → (Extern.Bytes.loadBytes ⟨b, o, none⟩ x.length acc).run Tryd.prog w = .ok ⟨acc.data ++ x.toArray⟩ w
  | [], o, acc, _ => by
    simp [Extern.Bytes.loadBytes]
  | u :: x, o, acc, h => by
    have h0 := h 0 u rfl
    rw [Nat.add_zero] at h0
    have hr := loadBytes_run b w x (o + 1) (acc.push u) (fun j v hj => by rw [show o + 1 + j = o + (j + 1) by omega]; exact h (j + 1) v hj)
    have e : (u.toNat : Int).toNat.toUInt8 = u := by rw [Int.toNat_natCast]; simp
    rw [List.length_cons, Extern.Bytes.loadBytes]
    simp only [Sem.run_bind, run_load, h0, Result.andThen_ok, addS0, e, hr]
    simp [ByteArray.push]
theorem bytesOf_run {w : World} {v : Value} {x : List UInt8} (h : PB w v x) : (Extern.Bytes.bytesOf v).run Tryd.prog w = .ok ⟨x.toArray⟩ w := by
  obtain ⟨q, c, rfl, h | ⟨b, o, rfl, h⟩⟩ := h
  · subst h
    cases q with
    | none => rfl
    | some a => rfl
  · have := loadBytes_run b w x o .empty h
    rw [Extern.Bytes.bytesOf, this]
    simp
theorem cmp_run {w : World} {v1 v2 : Value} {x y : List UInt8} (h1 : PB w v1 x) (h2 : PB w v2 y) : (callFunc 104 #[v1, v2]).run Tryd.prog w = .ok (.value (.int .i64 (Lib.compareBytes x y))) w := by
  rw [run_callFunc_extern (e := Extern.BytealgCompare.compare) Tryd.func104 (by kernel_rfl) (by kernel_rfl) (by kernel_rfl) (by kernel_rfl)]
  have : (Extern.BytealgCompare.compare #[v1, v2]).run Tryd.prog w = .ok (.int .i64 (Lib.compareBytes x y)) w := by
    change Sem.run Tryd.prog (do pure (goInt (Extern.BytealgCompare.cmp (← Extern.Bytes.bytesOf v1) (← Extern.Bytes.bytesOf v2)))) w = _
    simp only [Sem.run_bind, bytesOf_run h1, bytesOf_run h2, Sem.run_pure, Result.andThen]
    rw [Lib.cmp_eq]
    rfl
  rw [this]
  rfl
theorem compare_c {w : World} {v1 v2 : Value} {x y : List UInt8} (h1 : PB w v1 x) (h2 : PB w v2 y) : Calls Tryd.prog 101 #[v1, v2] w fun e w' => e = .returned (.int .i64 (Lib.compareBytes x y)) ∧ w' = w := by
  have h := cmp_run h1 h2
  clear h1 h2
  go_enter Tryd.func101, Tryd.ntmps101
  go_wp2
  go_ret
  exact ⟨rfl, rfl⟩
def RiR (w : World) (x y : List UInt8) (v : Value) (e : Ending) (w' : World) : Prop := w' = w ∧ ((ltB x y = true ∧ e = .returned v) ∨ (ltB x y = false ∧ e = thrown))
theorem rise_c {w : World} {v1 : Value} {q : Option Addr} {m c : Nat} {x y : List UInt8} (h1 : PB w v1 x) (h2 : PB w (.slice q m c) y) : Calls Tryd.prog 94 #[v1, .slice q m c] w (RiR w x y (.slice q m c)) := by
  have hc := compare_c h1 h2
  have hl := ltB_cmp x y
  generalize Lib.compareBytes x y = z at hc hl
  clear h1 h2
  by_cases hz : z < 0
  · have K := hidW (hl.1 hz)
    clear hl
    go_enter Tryd.func94, Tryd.ntmps94
    go_wp2_with fail
    refine hc.mono ?_
    rintro e w' ⟨rfl, rfl⟩
    go_wp2_with fail
    refine (must_y _).mono ?_
    rintro e w' ⟨rfl, rfl⟩
    go_wp2
    go_ret
    exact ⟨rfl, Or.inl ⟨K.out, rfl⟩⟩
  · have K : Hid (RiR w x y (.slice q m c) thrown w) := by
      refine ⟨rfl, Or.inr ⟨?_, rfl⟩⟩
      cases e : ltB x y with
      | false => rfl
      | true => exact absurd (hl.2 e) hz
    have hz2 : decide (z < 0) = false := decide_eq_false hz
    clear hl
    go_enter Tryd.func94, Tryd.ntmps94
    go_wp2_with fail
    refine hc.mono ?_
    rintro e w' ⟨rfl, rfl⟩
    go_wp2_with fail
    refine (must_n _).mono ?_
    rintro e w'' ⟨rfl, rfl⟩
    simp only [Exit.inBlock, Exit.then, bodyPost]
    exact ⟨trivial, K.out⟩
end WI
end Go.Proofs.YtfkgfcggcfkkiaaDoor
namespace Go.Proofs.YtfkgfcggcfkkiaaDoor
open Go.RowKit Go.Sort Go.Deep
namespace WI
/-- An item's value. -/
def itv (k : Int) (n : Nat) (qd : Option Addr) (dl cd : Nat) (ql : Option Addr) (m cl : Nat) : Value := .agg #[.int .i64 k, .int .u64 (n : Int), .slice qd dl cd, .slice ql m cl]
theorem any64_c (x : Value) (w : World) : Calls Tryd.prog 60 #[x] w fun e w' => e = .returned (.bool true) ∧ w' = w := by
  go_enter Tryd.func60, Tryd.ntmps60
  go_wp2
  go_ret
  exact ⟨rfl, rfl⟩
theorem anyB_c (x : Value) (w : World) : Calls Tryd.prog 62 #[x] w fun e w' => e = .returned (.bool true) ∧ w' = w := by
  go_enter Tryd.func62, Tryd.ntmps62
  go_wp2
  go_ret
  exact ⟨rfl, rfl⟩
theorem k7_c (n : Nat) (w : World) : Calls Tryd.prog 68 #[.int .u64 (n : Int)] w fun e w' => e = .returned (.bool (n == 20 || n == 21 || n == 22)) ∧ w' = w := by
  by_cases h0 : n = 20
  · subst h0
    go_enter Tryd.func68, Tryd.ntmps68
    go_wp2
    go_ret
    exact ⟨rfl, rfl⟩
  · have g0 : ((n : Int) == 20) = false := by simp; omega
    have f0 : (n == 20) = false := by simp; omega
    by_cases h1 : n = 21
    · subst h1
      go_enter Tryd.func68, Tryd.ntmps68
      go_wp2
      go_ret
      exact ⟨rfl, rfl⟩
    · have g1 : ((n : Int) == 21) = false := by simp; omega
      have f1 : (n == 21) = false := by simp; omega
      by_cases h2 : n = 22
      · subst h2
        go_enter Tryd.func68, Tryd.ntmps68
        go_wp2
        go_ret
        exact ⟨rfl, rfl⟩
      · have g2 : ((n : Int) == 22) = false := by simp; omega
        have f2 : (n == 22) = false := by simp; omega
        rw [f0, f1, f2]
        go_enter Tryd.func68, Tryd.ntmps68
        go_wp2
        go_ret
        exact ⟨rfl, rfl⟩
/-- A bool, and new memory alone. -/
def BoR (w : World) (b : Bool) (e : Value) (w' : World) : Prop := e = .bool b ∧ Below w.heap.size w w'
theorem eq0 (n : Nat) (h : ¬ n = 0) : ((n : Int) == 0) = false ∧ (n == 0) = false := by
  constructor <;> (simp; omega)
theorem vNumA_c (k : Int) (n : Nat) (qd : Option Addr) (dl cd : Nat) (ql : Option Addr) (m cl b : Nat) (w : World) (hb : w.cell? ⟨b, 0, none⟩ = some (fnv 60)) :
    Calls Tryd.prog 80 #[itv k n qd dl cd ql m cl, .pointer (some ⟨b, 0, none⟩)] w (RetW (BoR w (dl == 0 && m == 0))) := by
  have hlt := World.block_lt_of_cell? _ _ hb
  unfold itv
  by_cases h0 : dl = 0
  · subst h0
    by_cases h1 : m = 0
    · subst h1
      go_enter Tryd.func80, Tryd.ntmps80
      go_wp2_with fail
      refine (any64_c _ _).mono ?_
      rintro e w' ⟨rfl, rfl⟩
      go_wp2
      go_ret
      exact ⟨_, rfl, rfl, alloc_below _ _⟩
    · obtain ⟨g1, f1⟩ := eq0 m h1
      rw [f1]
      go_enter Tryd.func80, Tryd.ntmps80
      go_wp2
      go_ret
      exact ⟨_, rfl, rfl, alloc_below _ _⟩
  · obtain ⟨g0, f0⟩ := eq0 dl h0
    rw [f0]
    go_enter Tryd.func80, Tryd.ntmps80
    go_wp2
    go_ret
    exact ⟨_, rfl, rfl, alloc_below _ _⟩
theorem vNum7_c (k : Int) (n : Nat) (qd : Option Addr) (dl cd : Nat) (ql : Option Addr) (m cl b : Nat) (w : World) (hb : w.cell? ⟨b, 0, none⟩ = some (fnv 68)) :
    Calls Tryd.prog 80 #[itv k n qd dl cd ql m cl, .pointer (some ⟨b, 0, none⟩)] w (RetW (BoR w (dl == 0 && m == 0 && (n == 20 || n == 21 || n == 22)))) := by
  have hlt := World.block_lt_of_cell? _ _ hb
  unfold itv
  by_cases h0 : dl = 0
  · subst h0
    by_cases h1 : m = 0
    · subst h1
      go_enter Tryd.func80, Tryd.ntmps80
      go_wp2_with fail
      refine (k7_c _ _).mono ?_
      rintro e w' ⟨rfl, rfl⟩
      go_wp2
      go_ret
      exact ⟨_, rfl, by simp, alloc_below _ _⟩
    · obtain ⟨g1, f1⟩ := eq0 m h1
      rw [f1]
      go_enter Tryd.func80, Tryd.ntmps80
      go_wp2
      go_ret
      exact ⟨_, rfl, by simp, alloc_below _ _⟩
  · obtain ⟨g0, f0⟩ := eq0 dl h0
    rw [f0]
    go_enter Tryd.func80, Tryd.ntmps80
    go_wp2
    go_ret
    exact ⟨_, rfl, by simp, alloc_below _ _⟩
section
variable (T : World → Prop) (u : List UInt8 → Bool)
/-- What utf8.Valid says, where its tables are laid: u of the bytes, wherever they are. -/
def UV : Prop := (∀ w w', T w → (∀ k, k < 2 → w'.heap[k]? = w.heap[k]?) → T w') ∧ (∀ w, T w → 2 ≤ w.heap.size) ∧ ∀ (w : World) (q : Option Addr) (m c : Nat) (x : List UInt8), T w → PB w (.slice q m c) x → m ≤ c → x.length ≤ 4611686018427387904 → Calls Tryd.prog 46 #[.slice q m c] w (RetW (BoR w (u x)))
theorem vDatA_c (k : Int) (n : Nat) (qd : Option Addr) (dl cd : Nat) (ql : Option Addr) (m cl b : Nat) (w : World) (hb : w.cell? ⟨b, 0, none⟩ = some (fnv 62)) :
    Calls Tryd.prog 84 #[itv k n qd dl cd ql m cl, .pointer (some ⟨b, 0, none⟩)] w (RetW (BoR w (n == 0 && m == 0))) := by
  have hlt := World.block_lt_of_cell? _ _ hb
  unfold itv
  by_cases h0 : n = 0
  · subst h0
    by_cases h1 : m = 0
    · subst h1
      go_enter Tryd.func84, Tryd.ntmps84
      go_wp2_with fail
      refine (anyB_c _ _).mono ?_
      rintro e w' ⟨rfl, rfl⟩
      go_wp2
      go_ret
      exact ⟨_, rfl, by simp, alloc_below _ _⟩
    · obtain ⟨g1, f1⟩ := eq0 m h1
      rw [f1]
      go_enter Tryd.func84, Tryd.ntmps84
      go_wp2
      go_ret
      exact ⟨_, rfl, by simp, alloc_below _ _⟩
  · obtain ⟨g0, f0⟩ := eq0 n h0
    rw [f0]
    go_enter Tryd.func84, Tryd.ntmps84
    go_wp2
    go_ret
    exact ⟨_, rfl, by simp, alloc_below _ _⟩
theorem vDatU_c (k : Int) (n : Nat) (qd : Option Addr) (dl cd : Nat) (ql : Option Addr) (m cl b : Nat) (w : World) (hb : w.cell? ⟨b, 0, none⟩ = some (fnv 46)) (hU : UV T u) (hT : T w) (x : List UInt8) (hx : PB w (.slice qd dl cd) x) (hmc : dl ≤ cd) (hl : x.length ≤ 4611686018427387904) :
    Calls Tryd.prog 84 #[itv k n qd dl cd ql m cl, .pointer (some ⟨b, 0, none⟩)] w (RetW (BoR w (n == 0 && m == 0 && u x))) := by
  have hlt := World.block_lt_of_cell? _ _ hb
  unfold itv
  by_cases h0 : n = 0
  · subst h0
    by_cases h1 : m = 0
    · subst h1
      have hb2 := alloc_below w (.cells #[.int .i64 k, .int .u64 0, .slice qd dl cd, .slice ql 0 cl] 27)
      have hc := hU.2.2 (w.alloc (.cells #[.int .i64 k, .int .u64 0, .slice qd dl cd, .slice ql 0 cl] 27)) qd dl cd x (hU.1 w _ hT (fun j hj => hb2.block j (by have := hU.2.1 w hT; omega))) (hx.below hb2) hmc hl
      clear hx hU hT
      go_enter Tryd.func84, Tryd.ntmps84
      go_wp2_with fail
      refine hc.mono ?_
      rintro e w' ⟨v, rfl, rfl, hbl⟩
      have hB : Hid (Below w.heap.size w w') := hb2.trans (hbl.mono (by rw [World.size_alloc]; omega))
      clear hbl hb2
      go_wp2
      go_ret
      exact ⟨_, rfl, by simp, hB.out⟩
    · obtain ⟨g1, f1⟩ := eq0 m h1
      rw [f1]
      go_enter Tryd.func84, Tryd.ntmps84
      go_wp2
      go_ret
      exact ⟨_, rfl, by simp, alloc_below _ _⟩
  · obtain ⟨g0, f0⟩ := eq0 n h0
    rw [f0]
    go_enter Tryd.func84, Tryd.ntmps84
    go_wp2
    go_ret
    exact ⟨_, rfl, by simp, alloc_below _ _⟩
end
theorem vLst_c (by' : Nat) (hby : by' = 1 ∨ by' = 2) (k : Int) (n : Nat) (qd : Option Addr) (dl cd : Nat) (ql : Option Addr) (m cl b : Nat) (w : World) (hb : w.cell? ⟨b, 0, none⟩ = some (.int .i64 (by' : Int))) (hm : m ≤ 4611686018427387904) :
    Calls Tryd.prog 90 #[itv k n qd dl cd ql m cl, .pointer (some ⟨b, 0, none⟩)] w (RetW (BoR w (n == 0 && dl == 0 && m % by' == 0))) := by
  have hlt := World.block_lt_of_cell? _ _ hb
  unfold itv
  by_cases h0 : n = 0
  · subst h0
    by_cases h1 : dl = 0
    · subst h1
      have hr : (m : Int).tmod (by' : Int) = ((m % by' : Nat) : Int) := rfl
      obtain ⟨r, hr2⟩ : ∃ r, Hid (m % by' = r) := ⟨_, rfl⟩
      rw [hr2.out] at hr ⊢
      have hne : ¬ (by' : Int) = 0 := by omega
      have hne1 : ¬ (by' : Int) = -1 := by omega
      by_cases h2 : r = 0
      · subst h2
        go_enter Tryd.func90, Tryd.ntmps90
        go_wp2
        go_ret
        exact ⟨_, rfl, rfl, alloc_below _ _⟩
      · obtain ⟨g1, f1⟩ := eq0 r h2
        rw [f1]
        go_enter Tryd.func90, Tryd.ntmps90
        go_wp2
        go_ret
        exact ⟨_, rfl, by simp, alloc_below _ _⟩
    · obtain ⟨g1, f1⟩ := eq0 dl h1
      rw [f1]
      go_enter Tryd.func90, Tryd.ntmps90
      go_wp2
      go_ret
      exact ⟨_, rfl, by simp, alloc_below _ _⟩
  · obtain ⟨g0, f0⟩ := eq0 n h0
    rw [f0]
    go_enter Tryd.func90, Tryd.ntmps90
    go_wp2
    go_ret
    exact ⟨_, rfl, by simp, alloc_below _ _⟩
end WI
end Go.Proofs.YtfkgfcggcfkkiaaDoor
namespace Go.Proofs.YtfkgfcggcfkkiaaDoor
open Go.RowKit Go.Sort Go.Deep
namespace WI
/-- A number, and new memory alone. -/
def NuR (w : World) (n : Nat) (e : Value) (w' : World) : Prop := e = .int .u64 (n : Int) ∧ Below w.heap.size w w'
theorem nNum_c (k : Int) (n : Nat) (qd : Option Addr) (dl cd : Nat) (ql : Option Addr) (m cl : Nat) (w : World) : Calls Tryd.prog 81 #[itv k n qd dl cd ql m cl] w (RetW (NuR w n)) := by
  unfold itv
  go_enter Tryd.func81, Tryd.ntmps81
  go_wp2
  go_ret
  exact ⟨_, rfl, rfl, alloc_below _ _⟩
theorem nDat_c (k : Int) (n : Nat) (qd : Option Addr) (dl cd : Nat) (ql : Option Addr) (m cl : Nat) (w : World) (hd : dl ≤ 4611686018427387904) : Calls Tryd.prog 85 #[itv k n qd dl cd ql m cl] w (RetW (NuR w dl)) := by
  unfold itv
  go_enter Tryd.func85, Tryd.ntmps85
  go_wp2
  go_ret
  exact ⟨_, rfl, rfl, alloc_below _ _⟩
theorem nLst_c (by' : Nat) (hby : by' = 1 ∨ by' = 2) (k : Int) (n : Nat) (qd : Option Addr) (dl cd : Nat) (ql : Option Addr) (m cl b : Nat) (w : World) (hb : w.cell? ⟨b, 0, none⟩ = some (.int .i64 (by' : Int))) (hm : m ≤ 4611686018427387904) : Calls Tryd.prog 91 #[itv k n qd dl cd ql m cl, .pointer (some ⟨b, 0, none⟩)] w (RetW (NuR w (m / by'))) := by
  have hlt := World.block_lt_of_cell? _ _ hb
  have hr : (m : Int).tdiv (by' : Int) = ((m / by' : Nat) : Int) := rfl
  obtain ⟨r, hr2⟩ : ∃ r, Hid (m / by' = r) := ⟨_, rfl⟩
  have hrl : r ≤ m := by rw [← hr2.out]; exact Nat.div_le_self _ _
  rw [hr2.out] at hr ⊢
  have hne : ¬ (by' : Int) = 0 := by omega
  have hne1 : ¬ (by' : Int) = -1 := by omega
  unfold itv
  go_enter Tryd.func91, Tryd.ntmps91
  go_wp2
  go_ret
  exact ⟨_, rfl, rfl, alloc_below _ _⟩
theorem wNum_c (W : Nat) (k : Int) (n : Nat) (qd : Option Addr) (dl cd : Nat) (ql : Option Addr) (m cl : Nat) (w : World) : Calls Tryd.prog 82 #[.pointer (some ⟨W, 0, none⟩), itv k n qd dl cd ql m cl] w fun e w' => e = .returned (.tuple #[]) ∧ Below w.heap.size w w' := by
  unfold itv
  go_enter Tryd.func82, Tryd.ntmps82
  go_wp2
  first | go_end0 | go_ret
  exact ⟨rfl, alloc_below _ _⟩
theorem WrR.from {w w1 : World} {W h d n : Nat} {o : List UInt8} {v : Value} {ok : Prop} {n' : Nat} {x : List UInt8} {e : Ending} {w' : World} (hb : Below w.heap.size w w1) (hv : ∀ g, v.ownBlock = some g → g < w.heap.size) (H : WrR w1 W h d n o v ok n' x e w') : WrR w W h d n o v ok n' x e w' := by
  obtain ⟨h1, h2⟩ := H
  refine ⟨(FrX.of (X := WX W v) hb).trans h1 (fun k hk => Or.inl hk), ?_⟩
  rcases h2 with ⟨a, b, v', c1, c2⟩ | h2
  · refine Or.inl ⟨a, b, v', c1, ?_, fun g j hg hj => ?_⟩
    · rcases c2.1 with c2 | ⟨g, g1, g2⟩
      · exact Or.inl c2
      · exact Or.inr ⟨g, g1, Nat.le_trans hb.size g2⟩
    · rw [c2.2 g j hg hj]
      exact World.cell?_of_block (a := ⟨g, j, none⟩) (hb.block g (hv g hg))
  · exact Or.inr h2
theorem wDat_c (W h d n : Nat) (o : List UInt8) (v : Value) (k : Int) (nn : Nat) (qd : Option Addr) (dl cd : Nat) (ql : Option Addr) (m cl : Nat) (x : List UInt8) (w : World) (H : Wr w W h d n o v) (hx : PB w (.slice qd dl cd) x) (hq : o ≠ []) (ho : o.length ≤ 65536) (ok : Prop) (hok : Hid (ok ↔ o.length + x.length ≤ 65536)) :
    Calls Tryd.prog 86 #[.pointer (some ⟨W, 0, none⟩), itv k nn qd dl cd ql m cl] w (WrR w W h d n o v ok n x) := by
  unfold itv
  have hb := alloc_below w (.cells #[.int .i64 k, .int .u64 (nn : Int), .slice qd dl cd, .slice ql m cl] 27)
  have hc := bytes_c _ W h d n o v qd dl cd x (H.below hb) (hx.below hb) (Or.inl hq) ho ok hok
  have HB := hidW (And.intro hb (fun g hg => (own_lt H.own g hg).2))
  clear H hx hb
  go_enter Tryd.func86, Tryd.ntmps86
  go_wp2_with fail
  refine hc.mono ?_
  rintro e w' hR
  have KR := hidW (WrR.from HB.out.1 HB.out.2 hR)
  rcases hR.2 with ⟨-, rfl, -⟩ | ⟨-, rfl⟩
  · clear hR hc
    go_wp2
    first | go_end0 | go_ret
    exact KR.out
  · clear hR hc
    simp only [thrown, Exit.inBlock, Exit.then, bodyPost]
    exact ⟨trivial, KR.out⟩
end WI
end Go.Proofs.YtfkgfcggcfkkiaaDoor
namespace Go.Proofs.YtfkgfcggcfkkiaaDoor
open Go.RowKit Go.Sort Go.Deep
namespace WI
/-- Bytes in memory, in a block below B. -/
def PBb (w : World) (B : Nat) (v : Value) (x : List UInt8) : Prop := ∃ q c, v = .slice q x.length c ∧ x.length ≤ c ∧ (x = [] ∨ ∃ b o, q = some ⟨b, o, none⟩ ∧ b < B ∧ ∀ j u, x[j]? = some u → w.cell? ⟨b, o + j, none⟩ = some (.int .u8 (u.toNat : Int)))
theorem PBb.pb {w : World} {B : Nat} {v : Value} {x : List UInt8} (h : PBb w B v x) : PB w v x := by
  obtain ⟨q, c, h1, -, h2 | ⟨b, o, h2, -, h3⟩⟩ := h
  · exact ⟨q, c, h1, Or.inl h2⟩
  · exact ⟨q, c, h1, Or.inr ⟨b, o, h2, h3⟩⟩
theorem PBb.at {w w' : World} {B : Nat} {v : Value} {x : List UInt8} (h : PBb w B v x) (hb : ∀ k, k < B → w'.heap[k]? = w.heap[k]?) : PBb w' B v x := by
  obtain ⟨q, c, h1, hc, h2 | ⟨b, o, h2, h4, h3⟩⟩ := h
  · exact ⟨q, c, h1, hc, Or.inl h2⟩
  · exact ⟨q, c, h1, hc, Or.inr ⟨b, o, h2, h4, fun j u hj => by rw [World.cell?_of_block (a := ⟨b, o + j, none⟩) (hb b h4)]; exact h3 j u hj⟩⟩
def Itm.k : Itm → Int
  | .mk k _ _ _ => k
def Itm.n : Itm → Nat
  | .mk _ n _ _ => n
/-- An item's cells. -/
def CeI (w : World) (b o : Nat) (i : Itm) (vd vl : Value) : Prop := w.cell? ⟨b, o, none⟩ = some (.int .i64 i.k) ∧ w.cell? ⟨b, o + 1, none⟩ = some (.int .u64 (i.n : Int)) ∧ w.cell? ⟨b, o + 2, none⟩ = some vd ∧ w.cell? ⟨b, o + 3, none⟩ = some vl
mutual
/-- An item in memory, in blocks below B. -/
def InM (w : World) (B : Nat) : Itm → Value → Value → Prop
  | .mk _ n d l, vd, vl => n < 18446744073709551616 ∧ d.length ≤ 4611686018427387904 ∧ l.length ≤ 1152921504606846976 ∧ PBb w B vd d ∧ ∃ q c, vl = .slice q l.length c ∧ (l = [] ∨ ∃ b o, q = some ⟨b, o, none⟩ ∧ b < B ∧ InL w B l b o)
def InL (w : World) (B : Nat) : List Itm → Nat → Nat → Prop
  | [], _, _ => True
  | i :: r, b, o => (∃ vd vl, CeI w b o i vd vl ∧ InM w B i vd vl) ∧ InL w B r b (o + 4)
end
mutual
theorem InM.at {w w' : World} {B : Nat} (hb : ∀ k, k < B → w'.heap[k]? = w.heap[k]?) : ∀ (i : Itm) (vd vl : Value), InM w B i vd vl → InM w' B i vd vl
  | .mk k n d l, vd, vl, h => by
    rw [InM] at h ⊢
    obtain ⟨h1, h2, h3, h4, q, c, h5, h6⟩ := h
    refine ⟨h1, h2, h3, h4.at hb, q, c, h5, ?_⟩
    rcases h6 with h6 | ⟨b, o, h7, h8, h9⟩
    · exact Or.inl h6
    · exact Or.inr ⟨b, o, h7, h8, InL.at hb l b o h8 h9⟩
theorem InL.at {w w' : World} {B : Nat} (hb : ∀ k, k < B → w'.heap[k]? = w.heap[k]?) : ∀ (l : List Itm) (b o : Nat), b < B → InL w B l b o → InL w' B l b o
  | [], _, _, _, _ => by rw [InL]; trivial
  | i :: r, b, o, hB, h => by
    rw [InL] at h ⊢
    obtain ⟨⟨vd, vl, ⟨c1, c2, c3, c4⟩, h2⟩, h3⟩ := h
    have hc : ∀ j, w'.cell? ⟨b, j, none⟩ = w.cell? ⟨b, j, none⟩ := fun j => World.cell?_of_block (a := ⟨b, j, none⟩) (hb b hB)
    exact ⟨⟨vd, vl, ⟨by rw [hc]; exact c1, by rw [hc]; exact c2, by rw [hc]; exact c3, by rw [hc]; exact c4⟩, InM.at hb i vd vl h2⟩, InL.at hb r b (o + 4) hB h3⟩
end
theorem InL.get {w : World} {B b : Nat} : ∀ (l : List Itm) (o j : Nat) (i : Itm), InL w B l b o → l[j]? = some i → ∃ vd vl, CeI w b (o + j * 4) i vd vl ∧ InM w B i vd vl
  | [], _, _, _, _, hj => by cases hj
  | i :: r, o, 0, i', h, hj => by
    rw [InL] at h
    obtain rfl := Option.some.inj hj
    rw [Nat.zero_mul, Nat.add_zero]
    exact h.1
  | i :: r, o, j + 1, i', h, hj => by
    rw [InL] at h
    have := InL.get r (o + 4) j i' h.2 hj
    rw [show o + (j + 1) * 4 = o + 4 + j * 4 by omega]
    exact this
theorem InM.form {w : World} {B : Nat} {i : Itm} {vd vl : Value} (h : InM w B i vd vl) : ∃ qd dl cd ql m cl, vd = .slice qd dl cd ∧ vl = .slice ql m cl := by
  cases i with
  | mk k n d l =>
    rw [InM] at h
    obtain ⟨-, -, -, ⟨qd, cd, hd, -⟩, q, c, h5, -⟩ := h
    exact ⟨qd, _, cd, q, _, c, hd, h5⟩
section
variable (T : World → Prop) (u : List UInt8 → Bool)
/-- How a writer stands, with all that it leans on. -/
structure St (w : World) (W h d n B : Nat) (o : List UInt8) (v : Value) : Prop where
  ks : KS w h
  wr : Wr w W h d n o v
  tb : T w
  sep : ∀ k, WX W v k → B ≤ k ∧ ¬ (h ≤ k ∧ k < h + 19) ∧ 2 ≤ k
  hB : B ≤ w.heap.size
  hd : d ≤ 16
  hn : n ≤ 4096
  ho : o.length ≤ 65536
/-- It goes on. -/
def WrS (w : World) (W h d n' : Nat) (o o' : List UInt8) (v : Value) (v' : Value) (w' : World) : Prop := FrX (WX W v) w w' ∧ Wr w' W h d n' o' v' ∧ NewV w w' o v v' ∧ o.length ≤ o'.length
variable {T u}
theorem WrS.refl {w : World} {W h d n : Nat} {o : List UInt8} {v : Value} (H : Wr w W h d n o v) : WrS w W h d n o o v v w := ⟨FrX.refl _ _, H, ⟨Or.inl rfl, fun _ _ _ _ => rfl⟩, Nat.le_refl _⟩
theorem WX.up {w : World} {W : Nat} {v v' : Value} (h : v'.ownBlock = v.ownBlock ∨ ∃ g, v'.ownBlock = some g ∧ w.heap.size ≤ g) : ∀ k, WX W v' k → WX W v k ∨ w.heap.size ≤ k := fun k hk => by
  rcases hk with rfl | hk
  · exact Or.inl (Or.inl rfl)
  · rcases h with e | ⟨g, e, hg⟩
    · exact Or.inl (Or.inr (by rw [← e]; exact hk))
    · rw [e] at hk
      obtain rfl := Option.some.inj hk
      exact Or.inr hg
theorem WrS.step {w w1 w' : World} {W h d0 n0 d d1 n1 : Nat} {o o1 : List UInt8} {v v1 : Value} {ok : Prop} {n' : Nat} {x : List UInt8} {e : Ending} (H0 : Wr w W h d0 n0 o v) (H : WrS w W h d n1 o o1 v v1 w1) (R : WrR w1 W h d1 n1 o1 v1 ok n' x e w') :
    FrX (WX W v) w w' ∧ ((ok ∧ e = .returned (.tuple #[]) ∧ ∃ v', WrS w W h d1 n' o (o1 ++ x) v v' w') ∨ (¬ ok ∧ e = thrown)) := by
  obtain ⟨h1, h2, h3, h4⟩ := H
  obtain ⟨r1, r2⟩ := R
  have hF : FrX (WX W v) w w' := h1.trans r1 (WX.up h3.1)
  refine ⟨hF, ?_⟩
  rcases r2 with ⟨a, b, v', c1, c2⟩ | r2
  · refine Or.inl ⟨a, b, v', hF, c1, ⟨?_, fun g j hg hj => ?_⟩, by rw [List.length_append]; omega⟩
    · rcases c2.1 with c2 | ⟨g, g1, g2⟩
      · rcases h3.1 with h3 | ⟨g, g1, g2⟩
        · exact Or.inl (c2.trans h3)
        · exact Or.inr ⟨g, by rw [c2]; exact g1, g2⟩
      · exact Or.inr ⟨g, g1, Nat.le_trans h1.size g2⟩
    · rw [← h3.2 g j hg hj]
      have hgl := (own_lt H0.own g hg).2
      have hgW : g ≠ W := fun e => H0.ne (by rw [hg, e])
      rcases h3.1 with e1 | ⟨g1, e1, hg1⟩
      · exact c2.2 g j (by rw [e1]; exact hg) (by omega)
      · refine World.cell?_of_block (a := ⟨g, j, none⟩) (r1.block g (Nat.lt_of_lt_of_le hgl h1.size) (fun hx => ?_))
        rcases hx with hx | hx
        · exact hgW hx
        · rw [e1] at hx
          have := Option.some.inj hx
          omega
  · exact Or.inr r2
theorem WrS.below {w w1 w2 : World} {W h d0 n0 d n1 : Nat} {o o1 : List UInt8} {v v1 : Value} (H0 : Wr w W h d0 n0 o v) (H : WrS w W h d n1 o o1 v v1 w1) (hb : Below w1.heap.size w1 w2) : WrS w W h d n1 o o1 v v1 w2 :=
  ⟨H.1.belowTo hb, H.2.1.below hb, ⟨H.2.2.1.1, fun g j hg hj => by
    rw [← H.2.2.1.2 g j hg hj]
    exact World.cell?_of_block (a := ⟨g, j, none⟩) (hb.block g (Nat.lt_of_lt_of_le (own_lt H0.own g hg).2 H.1.size))⟩, H.2.2.2⟩
theorem St.next (hU : UV T u) {w w' : World} {W h d d' n n' B : Nat} {o o' : List UInt8} {v v' : Value} (S : St T w W h d n B o v) (H : WrS w W h d' n' o o' v v' w') (hd : d' ≤ 16) (hn : n' ≤ 4096) (ho : o'.length ≤ 65536) : St T w' W h d' n' B o' v' := by
  have hk : ∀ k, k < w.heap.size → ¬ WX W v k → w'.heap[k]? = w.heap[k]? := H.1.block
  have h18 := S.ks.lt
  have h2 := hU.2.1 w S.tb
  refine ⟨S.ks.at H.1.size (fun k h1 h2 => hk k (by omega) (fun hx => (S.sep k hx).2.1 ⟨h1, h2⟩)), H.2.1, hU.1 w w' S.tb (fun k hk2 => hk k (by omega) (fun hx => by have := (S.sep k hx).2.2; omega)), fun k hx => ?_, Nat.le_trans S.hB H.1.size, hd, hn, ho⟩
  rcases WX.up H.2.2.1.1 k hx with hx | hx
  · exact S.sep k hx
  · have := S.hB
    exact ⟨by omega, by omega, by omega⟩
theorem St.keep {w w' : World} {W h d n B : Nat} {o : List UInt8} {v : Value} (S : St T w W h d n B o v) (hF : FrX (WX W v) w w') : ∀ k, k < B → w'.heap[k]? = w.heap[k]? := fun k hk => hF.block k (Nat.lt_of_lt_of_le hk S.hB) (fun hx => by have := (S.sep k hx).1; omega)
variable (T u)
/-- What item does with an item. -/
def ISp (i : Itm) : Prop := ∀ (w : World) (W h d n B : Nat) (o : List UInt8) (v : Value) (qd : Option Addr) (dl cd : Nat) (ql : Option Addr) (m cl : Nat), St T w W h d n B o v → InM w B i (.slice qd dl cd) (.slice ql m cl) → ∀ ok, Hid (ok ↔ wok u i d n o.length) →
  Calls Tryd.prog 45 #[.pointer (some ⟨W, 0, none⟩), itv i.k i.n qd dl cd ql m cl] w (WrR w W h d n o v ok (n + cnt i) (byt i))
variable {T u}
theorem idxI (g o m c i : Nat) (hi : i < m) (w : World) : (Instr.indexAt 25 (.slice (some ⟨g, o, none⟩) m c) (.int .i64 (i : Int))).run Tryd.prog w = .ok (.pointer (some ⟨g, o + i * 4, none⟩)) w := by
  have h1 : ¬ (i : Int) < 0 := by omega
  have h2 : (i : Int) < (m : Int) := by omega
  go_simp
end
end WI
end Go.Proofs.YtfkgfcggcfkkiaaDoor
namespace Go.Proofs.YtfkgfcggcfkkiaaDoor
open Go.RowKit Go.Sort Go.Deep
namespace WI
variable {T : World → Prop} {u : List UInt8 → Bool}
theorem take_s {α : Type} (l : List α) (j : Nat) (i : α) (h : l[j]? = some i) : l.take (j + 1) = l.take j ++ [i] := by
  obtain ⟨hj, rfl⟩ := List.getElem?_eq_some_iff.1 h
  exact List.take_append_getElem hj |>.symm
/-- What the loop of items keeps. -/
structure LoI (u : List UInt8 → Bool) (w : World) (W h d n : Nat) (o : List UInt8) (v : Value) (l : List Itm) (j : Nat) (v' : Value) (w' : World) : Prop where
  hj : j ≤ l.length
  s : WrS w W h d (n + cnts (l.take j)) o (o ++ (byts (l.take j)).flatten) v v' w'
  ok : wokS u (l.take j) d n o.length
theorem LoI.next {w w1 w' : World} {W h d n : Nat} {o : List UInt8} {v v1 : Value} {l : List Itm} {j : Nat} {i : Itm} {ok : Prop} {e : Ending} (H0 : Wr w W h d n o v) (L : LoI u w W h d n o v l j v1 w1) (hi : l[j]? = some i) (hok : Hid (ok ↔ wok u i d (n + cnts (l.take j)) (o ++ (byts (l.take j)).flatten).length)) (R : WrR w1 W h d (n + cnts (l.take j)) (o ++ (byts (l.take j)).flatten) v1 ok (n + cnts (l.take j) + cnt i) (byt i) e w') :
    FrX (WX W v) w w' ∧ ((e = .returned (.tuple #[]) ∧ ∃ v', LoI u w W h d n o v l (j + 1) v' w') ∨ (¬ wokS u l d n o.length ∧ e = thrown)) := by
  have hs := wokS_snoc u (l.take j) i d n o.length
  rw [← take_s l j i hi] at hs
  have hlen : (o ++ (byts (l.take j)).flatten).length = o.length + (byts (l.take j)).flatten.length := List.length_append
  rw [hlen] at hok
  obtain ⟨r1, r2⟩ := L.s.step H0 R
  refine ⟨r1, ?_⟩
  have hj1 := (List.getElem?_eq_some_iff.1 hi).1
  rcases r2 with ⟨a, b, v', c⟩ | ⟨a, b⟩
  · refine Or.inl ⟨b, v', by omega, ?_, hs.2 ⟨L.ok, hok.out.1 a⟩⟩
    rw [take_s l j i hi, cnts_append, byts_append]
    simp only [cnts, byts, Nat.add_zero, List.flatten_append, List.flatten_cons, List.flatten_nil, List.append_nil]
    rw [← List.append_assoc, ← Nat.add_assoc]
    exact c
  · refine Or.inr ⟨fun hw => a (hok.out.2 ?_), b⟩
    have : wokS u (l.take (j + 1)) d n o.length := by
      refine wokS_app u _ (l.drop (j + 1)) d n o.length ?_
      rw [List.take_append_drop]; exact hw
    exact (hs.1 this).2
theorem LoI.st (hU : UV T u) {w w1 : World} {W h d n B : Nat} {o : List UInt8} {v v1 : Value} {l : List Itm} {j : Nat} (S : St T w W h d n B o v) (L : LoI u w W h d n o v l j v1 w1) : St T w1 W h d (n + cnts (l.take j)) B (o ++ (byts (l.take j)).flatten) v1 :=
  S.next hU L.s S.hd L.ok.2.2.1 (by rw [List.length_append]; exact L.ok.2.2.2)
set_option maxHeartbeats 1000000 in
theorem items_c (hU : UV T u) (l : List Itm) (hI : ∀ i ∈ l, ISp T u i) (w : World) (W h d n B : Nat) (o : List UInt8) (v : Value) (q : Option Addr) (c : Nat) (S : St T w W h d n B o v) (hL : l = [] ∨ ∃ b off, q = some ⟨b, off, none⟩ ∧ b < B ∧ InL w B l b off) (hl : l.length ≤ 1152921504606846976) (ok : Prop) (hok : Hid (ok ↔ wokS u l d n o.length)) :
    Calls Tryd.prog 64 #[.pointer (some ⟨W, 0, none⟩), .slice q l.length c] w (WrR w W h d n o v ok (n + cnts l) (byts l).flatten) := by
  obtain ⟨m, hm⟩ : ∃ m, Hid (l.length = m) := ⟨_, rfl⟩
  have hm2 : m ≤ 1152921504606846976 := by rw [← hm.out]; exact hl
  rw [hm.out]
  have H := hidW (And.intro S hL)
  have L0 : Hid (LoI u w W h d n o v l 0 v w) := ⟨Nat.zero_le _, by
    simp only [List.take_zero, cnts, byts, List.flatten_nil, List.append_nil, Nat.add_zero]
    exact WrS.refl S.wr, wokS_nil u d n o.length S.hn S.ho⟩
  clear S hL hl
  go_enter Tryd.func64, Tryd.ntmps64
  go_wp2
  go_loopg [8] (m + 1) (fun gk s8 wr => ∃ j v', s8 = .int .i64 ((j : Nat) : Int) ∧ gk = m + 1 - j ∧ LoI u w W h d n o v l j v' wr)
  case atStart => exact ⟨0, v, rfl, rfl, L0.out⟩
  case round =>
    obtain ⟨j, v1, rfl, hg, L⟩ := hrel
    have hjm : j ≤ m := by rw [← hm.out]; exact L.hj
    by_cases hj : j < m
    · have hjl : j < l.length := by rw [hm.out]; exact hj
      have hjz : (j : Int) < (m : Int) := by omega
      obtain ⟨i, hi⟩ : ∃ i, l[j]? = some i := ⟨_, List.getElem?_eq_getElem hjl⟩
      obtain ⟨S, hL⟩ := H.out
      obtain ⟨b, off, rfl, hb, hL⟩ : ∃ b off, q = some ⟨b, off, none⟩ ∧ b < B ∧ InL w B l b off := by
        rcases hL with rfl | hL
        · simp at hjl
        · exact hL
      have S1 := L.st hU S
      obtain ⟨vd, vl, ⟨c0, c1, c2, c3⟩, hM⟩ := InL.get l off j i (InL.at (S.keep L.s.1) l b off hb hL) hi
      obtain ⟨qd, dl, cd, ql, ml, cl, rfl, rfl⟩ := hM.form
      have hix := fun w => idxI b off m c j hj w
      have hlt := World.block_lt_of_cell? _ _ c0
      have hb2 := alloc_below wr (.cells #[.int .i64 i.k, .int .u64 (i.n : Int), .slice qd dl cd, .slice ql ml cl] 27)
      have hc := hI i (List.mem_of_getElem? hi) (wr.alloc (.cells #[.int .i64 i.k, .int .u64 (i.n : Int), .slice qd dl cd, .slice ql ml cl] 27)) W h d _ B _ v1 qd dl cd ql ml cl (S1.next hU ((WrS.refl S1.wr).below S1.wr hb2) S1.hd S1.hn S1.ho) (InM.at (fun k hk => hb2.block k (Nat.lt_of_lt_of_le hk S1.hB)) i _ _ hM) _ (hidW Iff.rfl)
      have HL := hidW (And.intro L hi)
      have HW := hidW (And.intro S.wr (fun g hg => (own_lt S1.wr.own g hg).2))
      have HB := hidW hb2
      clear S S1 hM hb2 L hL hi
      go_wp2_with fail
      refine hc.mono ?_
      rintro e w' hR
      obtain ⟨r1, r2⟩ := HL.out.1.next HW.out.1 HL.out.2 (hidW Iff.rfl) (WrR.from HB.out HW.out.2 hR)
      rcases r2 with ⟨rfl, v2, L2⟩ | ⟨hno, rfl⟩
      · have L3 := hidW L2
        clear hR r1 L2 hc HB HL
        go_wp2
        go_roundg (m + 1 - (j + 1))
        case measure => omega
        case rel => exact ⟨j + 1, v2, rfl, rfl, L3.out⟩
      · have KR : Hid (WrR w W h d n o v ok (n + cnts l) (byts l).flatten thrown w') := ⟨r1, Or.inr ⟨fun h' => hno (hok.out.1 h'), rfl⟩⟩
        clear hR r1 hc HB HL hno
        simp only [thrown, Exit.inBlock, Exit.then, bodyPost]
        exact ⟨trivial, KR.out⟩
    · have hjz : ¬ (j : Int) < (m : Int) := by omega
      obtain rfl : j = m := by omega
      have KR : Hid (WrR w W h d n o v ok (n + cnts l) (byts l).flatten (.returned (.tuple #[])) wr) := by
        have hs := L.s
        have hw := L.ok
        rw [← hm.out, List.take_length] at hs hw
        exact ⟨hs.1, Or.inl ⟨hok.out.2 hw, rfl, v1, hs.2.1, hs.2.2.1⟩⟩
      clear L
      go_wp2
      first | go_end0 | go_ret
      exact KR.out
end WI
end Go.Proofs.YtfkgfcggcfkkiaaDoor
namespace Go.Proofs.YtfkgfcggcfkkiaaDoor
open Go.RowKit Go.Sort Go.Deep
namespace WI
variable {T : World → Prop} {u : List UInt8 → Bool}
/-- Bytes that were written once, and can still be read. -/
def Old (w : World) (W : Nat) (v : Value) (o : List UInt8) (p : Value) (x : List UInt8) : Prop := ∃ q c, p = .slice q x.length c ∧ (x = [] ∨ ∃ g s, q = some ⟨g, s, none⟩ ∧ g ≠ W ∧ g < w.heap.size ∧ (v.ownBlock = some g → s + x.length ≤ o.length) ∧ ∀ j y, x[j]? = some y → w.cell? ⟨g, s + j, none⟩ = some (.int .u8 (y.toNat : Int)))
theorem Old.pb {w : World} {W : Nat} {v : Value} {o : List UInt8} {p : Value} {x : List UInt8} (h : Old w W v o p x) : PB w p x := by
  obtain ⟨q, c, h1, h2 | ⟨g, s, h2, -, -, -, h3⟩⟩ := h
  · exact ⟨q, c, h1, Or.inl h2⟩
  · exact ⟨q, c, h1, Or.inr ⟨g, s, h2, h3⟩⟩
theorem Old.step {w w' : World} {W h d n' : Nat} {v v' : Value} {o o' : List UInt8} {p : Value} {x : List UInt8} (H : WrS w W h d n' o o' v v' w') (h : Old w W v o p x) : Old w' W v' o' p x := by
  obtain ⟨q, c, h1, h2 | ⟨g, s, h2, h3, h4, h5, h6⟩⟩ := h
  · exact ⟨q, c, h1, Or.inl h2⟩
  · obtain ⟨f1, f2, f3, f4⟩ := H
    refine ⟨q, c, h1, Or.inr ⟨g, s, h2, h3, Nat.lt_of_lt_of_le h4 f1.size, fun hg => ?_, fun j y hj => ?_⟩⟩
    · rcases f3.1 with e | ⟨g1, e, hg1⟩
      · exact Nat.le_trans (h5 (by rw [← e]; exact hg)) f4
      · rw [e] at hg
        have := Option.some.inj hg
        omega
    · rw [← h6 j y hj]
      have hjl := (List.getElem?_eq_some_iff.1 hj).1
      by_cases hv : v.ownBlock = some g
      · exact f3.2 g (s + j) hv (by have := h5 hv; omega)
      · exact World.cell?_of_block (a := ⟨g, s + j, none⟩) (f1.block g h4 (fun hx => by
          rcases hx with hx | hx
          · exact h3 hx
          · exact hv hx))
theorem slLo (g o n c k : Nat) (hk : k < n) (hc : n ≤ c) (w : World) : (Instr.sliceAt 22 (.slice (some ⟨g, o, none⟩) n c) (some (.int .i64 (k : Int))) none none).run Tryd.prog w = .ok (.slice (some ⟨g, o + k, none⟩) (n - k) (c - k)) w := by
  have h0 : ¬ (k : Int) < 0 := by omega
  have h1 : (k : Int) ≤ n := by omega
  have h2 : (n : Int) ≤ c := by omega
  have h3 : ¬ c = k := by omega
  have h4 : ¬ c - k = 0 := by omega
  go_simp
/-- What lies behind the first bytes that were written. -/
theorem Wr.tail {w : World} {W h d n : Nat} {o x : List UInt8} {v : Value} (H : Wr w W h d n (o ++ x) v) (hx : x ≠ []) : ∃ g c, v = .slice (some ⟨g, 0, none⟩) (o ++ x).length c ∧ (o ++ x).length ≤ c ∧ Old w W v (o ++ x) (.slice (some ⟨g, 0 + o.length, none⟩) ((o ++ x).length - o.length) (c - o.length)) x := by
  rcases id H.own.2 with ⟨-, h0⟩ | ⟨g, cap, cur, hE, g1, g2, g3, g4⟩
  · have := List.length_pos_iff.2 hx
    rw [List.length_append] at h0
    omega
  · have hb : v.ownBlock = some g := by rw [hE]; rfl
    refine ⟨g, cap, hE, g3, some ⟨g, 0 + o.length, none⟩, cap - o.length, ?_, Or.inr ⟨g, 0 + o.length, rfl, fun e => H.ne (by rw [hb, e]), (own_lt H.own g hb).2, fun _ => by rw [List.length_append]; omega, fun j y hj => ?_⟩⟩
    · rw [List.length_append, Nat.add_sub_cancel_left]
    · obtain ⟨hj1, rfl⟩ := List.getElem?_eq_some_iff.1 hj
      rw [Nat.zero_add, own_cell H.own hb (by rw [List.length_append]; omega), List.getElem_append_right (by omega)]
      simp
theorem WrS.trans {w w1 w' : World} {W h d0 n0 d n1 d1 n2 : Nat} {o o1 o2 : List UInt8} {v v1 v2 : Value} (H0 : Wr w W h d0 n0 o v) (H : WrS w W h d n1 o o1 v v1 w1) (R : WrS w1 W h d1 n2 o1 o2 v1 v2 w') : WrS w W h d1 n2 o o2 v v2 w' := by
  obtain ⟨h1, h2, h3, h4⟩ := H
  obtain ⟨r1, c1, c2, r4⟩ := R
  refine ⟨h1.trans r1 (WX.up h3.1), c1, ⟨?_, fun g j hg hj => ?_⟩, by omega⟩
  · rcases c2.1 with c2 | ⟨g, g1, g2⟩
    · rcases h3.1 with h3 | ⟨g, g1, g2⟩
      · exact Or.inl (c2.trans h3)
      · exact Or.inr ⟨g, by rw [c2]; exact g1, g2⟩
    · exact Or.inr ⟨g, g1, Nat.le_trans h1.size g2⟩
  · rw [← h3.2 g j hg hj]
    have hgl := (own_lt H0.own g hg).2
    have hgW : g ≠ W := fun e => H0.ne (by rw [hg, e])
    rcases h3.1 with e1 | ⟨g1, e1, hg1⟩
    · exact c2.2 g j (by rw [e1]; exact hg) (by omega)
    · refine World.cell?_of_block (a := ⟨g, j, none⟩) (r1.block g (Nat.lt_of_lt_of_le hgl h1.size) (fun hx => ?_))
      rcases hx with hx | hx
      · exact hgW hx
      · rw [e1] at hx
        have := Option.some.inj hx
        omega
theorem LoI.add {w w1 w' : World} {W h d n : Nat} {o : List UInt8} {v v1 v2 : Value} {l : List Itm} {j : Nat} {i : Itm} (H0 : Wr w W h d n o v) (L : LoI u w W h d n o v l j v1 w1) (hi : l[j]? = some i) (hw : wok u i d (n + cnts (l.take j)) (o ++ (byts (l.take j)).flatten).length) (R : WrS w1 W h d (n + cnts (l.take j) + cnt i) (o ++ (byts (l.take j)).flatten) (o ++ (byts (l.take j)).flatten ++ byt i) v1 v2 w') : LoI u w W h d n o v l (j + 1) v2 w' := by
  have hs := wokS_snoc u (l.take j) i d n o.length
  rw [← take_s l j i hi] at hs
  have hlen : (o ++ (byts (l.take j)).flatten).length = o.length + (byts (l.take j)).flatten.length := List.length_append
  rw [hlen] at hw
  have hj1 := (List.getElem?_eq_some_iff.1 hi).1
  refine ⟨by omega, ?_, hs.2 ⟨L.ok, hw⟩⟩
  rw [take_s l j i hi, cnts_append, byts_append]
  simp only [cnts, byts, Nat.add_zero, List.flatten_append, List.flatten_cons, List.flatten_nil, List.append_nil]
  rw [← List.append_assoc, ← Nat.add_assoc]
  exact L.s.trans H0 R
theorem LoI.bad {w w1 : World} {W h d n : Nat} {o : List UInt8} {v v1 : Value} {l : List Itm} {j : Nat} {i : Itm} (L : LoI u w W h d n o v l j v1 w1) (hi : l[j]? = some i) (hw : ¬ wok u i d (n + cnts (l.take j)) (o ++ (byts (l.take j)).flatten).length) : ¬ wokS u l d n o.length := fun hl => hw (by
  have hs := wokS_snoc u (l.take j) i d n o.length
  rw [← take_s l j i hi] at hs
  have : wokS u (l.take (j + 1)) d n o.length := by
    refine wokS_app u _ (l.drop (j + 1)) d n o.length ?_
    rw [List.take_append_drop]; exact hl
  rw [List.length_append]
  exact (hs.1 this).2)
theorem lastK_two (l : List Itm) (j : Nat) (i i' : Itm) (hj : j % 2 = 0) (hi : l[j]? = some i) (hi' : l[j + 1]? = some i') (hr : rise [] (byts (l.take j)) = true) (hk : ltB (lastK [] (byts (l.take j))) (byt i) = true) : rise [] (byts (l.take (j + 1 + 1))) = true ∧ lastK [] (byts (l.take (j + 1 + 1))) = byt i := by
  have hlt := (List.getElem?_eq_some_iff.1 hi).1
  have hl : (byts (l.take j)).length % 2 = 0 := by rw [byts_length, List.length_take]; omega
  rw [take_s l (j + 1) i' hi', take_s l j i hi, List.append_assoc, byts_append]
  simp only [List.cons_append, List.nil_append, byts]
  rw [rise_app2 _ _ _ _ hl, lastK_app2 _ _ _ _ hl, hr, hk]
  exact ⟨rfl, rfl⟩
theorem flat_s (o : List UInt8) (l : List Itm) (j : Nat) (i : Itm) (hi : l[j]? = some i) : o ++ (byts (l.take j)).flatten ++ byt i = o ++ (byts (l.take (j + 1))).flatten := by
  rw [take_s l j i hi, byts_append]
  simp [byts]
/-- What the loop of pairs keeps. -/
structure LpI (u : List UInt8 → Bool) (w : World) (W h d n : Nat) (o : List UInt8) (v : Value) (l : List Itm) (j : Nat) (p v' : Value) (w' : World) : Prop where
  lo : LoI u w W h d n o v l j v' w'
  ev : j % 2 = 0
  ri : rise [] (byts (l.take j)) = true
  la : Old w' W v' (o ++ (byts (l.take j)).flatten) p (lastK [] (byts (l.take j)))
/-- A key that does not rise: the whole does not. -/
theorem rise_bad (l : List Itm) (j : Nat) (i : Itm) (hj : j % 2 = 0) (hi : l[j]? = some i) (h : ltB (lastK [] (byts (l.take j))) (byt i) = false) : rise [] (byts l) = false := by
  have hlt := (List.getElem?_eq_some_iff.1 hi).1
  have e1 : byts l = byts (l.take j) ++ byts (l.drop j) := by rw [← byts_append, List.take_append_drop]
  have e2 : l.drop j = i :: l.drop (j + 1) := by
    rw [List.drop_eq_getElem_cons hlt]
    congr 1
    exact (List.getElem?_eq_some_iff.1 hi).2
  rw [e1, rise_app _ _ _ (by rw [byts_length, List.length_take]; omega), e2, byts]
  cases byts (l.drop (j + 1)) with
  | nil => rw [rise, h, Bool.and_false]
  | cons a r => rw [rise, h, Bool.false_and, Bool.and_false]
set_option maxHeartbeats 2000000 in
theorem pairs_c (hU : UV T u) (l : List Itm) (hI : ∀ i ∈ l, ISp T u i) (w : World) (W h d n B : Nat) (o : List UInt8) (v : Value) (q : Option Addr) (c : Nat) (S : St T w W h d n B o v) (hL : l = [] ∨ ∃ b off, q = some ⟨b, off, none⟩ ∧ b < B ∧ InL w B l b off) (hl : l.length ≤ 1152921504606846976) (h2 : l.length % 2 = 0) (ok : Prop) (hok : Hid (ok ↔ rise [] (byts l) = true ∧ wokS u l d n o.length)) :
    Calls Tryd.prog 66 #[.pointer (some ⟨W, 0, none⟩), .slice q l.length c] w (WrR w W h d n o v ok (n + cnts l) (byts l).flatten) := by
  obtain ⟨m, hm⟩ : ∃ m, Hid (l.length = m) := ⟨_, rfl⟩
  have hm2 : m ≤ 1152921504606846976 := by rw [← hm.out]; exact hl
  have hme : m % 2 = 0 := by rw [← hm.out]; exact h2
  rw [hm.out]
  have H := hidW (And.intro S hL)
  have L0 : Hid (LpI u w W h d n o v l 0 (.slice none 0 0) v w) := ⟨⟨Nat.zero_le _, by
    simp only [List.take_zero, cnts, byts, List.flatten_nil, List.append_nil, Nat.add_zero]
    exact WrS.refl S.wr, wokS_nil u d n o.length S.hn S.ho⟩, rfl, by rw [List.take_zero, byts, rise], by rw [List.take_zero, byts]; exact ⟨none, 0, rfl, Or.inl rfl⟩⟩
  clear S hL hl h2
  go_enter Tryd.func66, Tryd.ntmps66
  go_wp2
  go_loopg [4, 5] (m + 1) (fun gk s4 s5 wr => ∃ j v', s5 = .int .i64 ((j : Nat) : Int) ∧ gk = m + 1 - j ∧ LpI u w W h d n o v l j s4 v' wr)
  case atStart => exact ⟨0, v, rfl, rfl, L0.out⟩
  case round =>
    obtain ⟨j, v1, rfl, hg, LP⟩ := hrel
    have L := LP.lo
    have hjm : j ≤ m := by rw [← hm.out]; exact L.hj
    have hje := LP.ev
    by_cases hj : j < m
    · have hjl : j < l.length := by rw [hm.out]; exact hj
      have hjl1 : j + 1 < l.length := by rw [hm.out]; omega
      have hjz : (j : Int) < (m : Int) := by omega
      obtain ⟨i, hi⟩ : ∃ i, l[j]? = some i := ⟨_, List.getElem?_eq_getElem hjl⟩
      obtain ⟨i', hi'⟩ : ∃ i', l[j + 1]? = some i' := ⟨_, List.getElem?_eq_getElem hjl1⟩
      obtain ⟨S, hL⟩ := H.out
      obtain ⟨b, off, rfl, hb, hL⟩ : ∃ b off, q = some ⟨b, off, none⟩ ∧ b < B ∧ InL w B l b off := by
        rcases hL with rfl | hL
        · simp at hjl
        · exact hL
      have S1 := L.st hU S
      obtain ⟨vd, vl, ⟨c0, c1, c2, c3⟩, hM⟩ := InL.get l off j i (InL.at (S.keep L.s.1) l b off hb hL) hi
      obtain ⟨qd, dl, cd, ql, ml, cl, rfl, rfl⟩ := hM.form
      have hix := fun w => idxI b off m c j hj w
      obtain ⟨j1, hj1⟩ : ∃ j1, Hid (j1 = j + 1) := ⟨_, rfl⟩
      have hix1 := fun w => idxI b off m c j1 (by rw [hj1.out]; omega) w
      have hw1 : (j : Int) + 1 = (j1 : Int) := by rw [hj1.out]; omega
      have hlt := World.block_lt_of_cell? _ _ c0
      have hltW := S1.wr.row.1
      have d3 := S1.wr.row.cell 3 _ rfl
      obtain ⟨q1, cc1, rfl⟩ := slice_own S1.wr.own
      have hc := hI i (List.mem_of_getElem? hi) wr W h d _ B _ _ qd dl cd ql ml cl S1 hM _ (hidW Iff.rfl)
      have hI1 := hI i' (List.mem_of_getElem? hi')
      obtain ⟨f0, hf0⟩ : ∃ f0, Hid ((o ++ (byts (l.take j)).flatten).length = f0) := ⟨_, rfl⟩
      have HL := hidW (And.intro LP (And.intro hi hi'))
      have HW := hidW (And.intro S hL)
      have HS := hidW S1
      rw [hf0.out] at d3
      clear S S1 hM L LP hL hi hi'
      go_wp2_with fail
      refine hc.mono ?_
      rintro e w2 hR
      rcases hR with ⟨hF, ⟨ok1, rfl, v2, k1, k2⟩ | ⟨ok1, rfl⟩⟩
      · have Sm : WrS wr W h d (n + cnts (l.take j) + cnt i) (o ++ (byts (l.take j)).flatten) (o ++ (byts (l.take j)).flatten ++ byt i) _ v2 w2 := ⟨hF, k1, k2, by simp only [List.length_append]; omega⟩
        have L2 := HL.out.1.lo.add HW.out.1.wr HL.out.2.1 ok1 Sm
        have S2 := L2.st hU HW.out.1
        have P2 := HL.out.1.la.step Sm
        obtain ⟨g2, cc2, rfl, hcc, O2⟩ := k1.tail (fun e => by have := byt_pos i; rw [e] at this; cases this)
        have hlen2 : f0 < (o ++ (byts (l.take j)).flatten ++ byt i).length := by rw [List.length_append, hf0.out]; have := byt_pos i; omega
        obtain ⟨n2, hn2⟩ : ∃ n2, Hid ((o ++ (byts (l.take j)).flatten ++ byt i).length = n2) := ⟨_, rfl⟩
        have e3 := S2.wr.row.cell 3 _ rfl
        have hltW2 := S2.wr.row.1
        have hsl := fun w => slLo g2 0 n2 cc2 f0 (by rw [← hn2.out]; exact hlen2) (by rw [← hn2.out]; exact hcc) w
        rw [hf0.out, hn2.out, Nat.zero_add] at O2
        rw [hn2.out] at e3
        have hri := rise_c P2.pb O2.pb
        obtain ⟨vd', vl', ⟨a0, a1, a2, a3⟩, hM'⟩ := InL.get l off (j + 1) i' (InL.at (HW.out.1.keep L2.s.1) l b off hb HW.out.2) HL.out.2.2
        obtain ⟨qd', dl', cd', ql', ml', cl', rfl, rfl⟩ := hM'.form
        rw [← hj1.out] at a0 a1 a2 a3
        have hlt' := World.block_lt_of_cell? _ _ a0
        have hc2 := hI1 w2 W h d _ B _ _ qd' dl' cd' ql' ml' cl' S2 hM' _ (hidW Iff.rfl)
        have H2 := hidW (And.intro L2 (And.intro O2 S2))
        clear hF k1 k2 Sm L2 S2 P2 O2 hM' hc HS d3
        go_wp2_with fail
        refine hri.mono ?_
        rintro e w3 ⟨hE3, hr3⟩
        subst hE3
        rcases hr3 with ⟨hk3, rfl⟩ | ⟨hk3, rfl⟩
        · have LK := hidW (lastK_two l j i i' hje HL.out.2.1 HL.out.2.2 HL.out.1.ri hk3)
          clear hri hk3
          go_wp2_with fail
          refine hc2.mono ?_
          rintro e w4 hR
          rcases hR with ⟨hF, ⟨ok2, rfl, v4, k1, k2⟩ | ⟨ok2, rfl⟩⟩
          · have Sm : WrS w3 W h d _ _ _ _ v4 w4 := ⟨hF, k1, k2, by simp only [List.length_append]; omega⟩
            have L4 := H2.out.1.add HW.out.1.wr HL.out.2.2 ok2 Sm
            have P4 : Hid (LpI u w W h d n o v l (j + 2) (.slice (some ⟨g2, f0, none⟩) (n2 - f0) (cc2 - f0)) v4 w4) := ⟨L4, by omega, LK.out.1, by
              have hO := H2.out.2.1
              rw [flat_s o l j i HL.out.2.1] at hO
              have hO2 := hO.step Sm
              rw [flat_s o l (j + 1) i' HL.out.2.2] at hO2
              rw [LK.out.2]
              exact hO2⟩
            clear hF k1 k2 Sm L4 hc2 H2 HL LK
            go_wp2
            go_roundg (m + 1 - (j + 2))
            case measure => omega
            case rel => exact ⟨j + 2, v4, rfl, rfl, P4.out⟩
          · have KR : Hid (WrR w W h d n o v ok (n + cnts l) (byts l).flatten thrown w4) := ⟨H2.out.1.s.1.trans hF (WX.up H2.out.1.s.2.2.1.1), Or.inr ⟨fun h' => H2.out.1.bad HL.out.2.2 ok2 (hok.out.1 h').2, rfl⟩⟩
            clear hF hc2 HL H2 ok2
            simp only [thrown, Exit.inBlock, Exit.then, bodyPost]
            exact ⟨trivial, KR.out⟩
        · have KR : Hid (WrR w W h d n o v ok (n + cnts l) (byts l).flatten thrown w3) := ⟨H2.out.1.s.1, Or.inr ⟨(fun h' => by
            have e1 := rise_bad l j i hje HL.out.2.1 hk3
            rw [(hok.out.1 h').1] at e1
            cases e1), rfl⟩⟩
          clear hri hc2 HL H2 hk3
          simp only [thrown, Exit.inBlock, Exit.then, bodyPost]
          exact ⟨trivial, KR.out⟩
      · have KR : Hid (WrR w W h d n o v ok (n + cnts l) (byts l).flatten thrown w2) := ⟨HL.out.1.lo.s.1.trans hF (WX.up HL.out.1.lo.s.2.2.1.1), Or.inr ⟨fun h' => HL.out.1.lo.bad HL.out.2.1 ok1 (hok.out.1 h').2, rfl⟩⟩
        clear hF hc HL ok1
        simp only [thrown, Exit.inBlock, Exit.then, bodyPost]
        exact ⟨trivial, KR.out⟩
    · have hjz : ¬ (j : Int) < (m : Int) := by omega
      obtain rfl : j = m := by omega
      have KR : Hid (WrR w W h d n o v ok (n + cnts l) (byts l).flatten (.returned (.tuple #[])) wr) := by
        have hs := L.s
        have hw := L.ok
        have hr := LP.ri
        rw [← hm.out, List.take_length] at hs hw hr
        exact ⟨hs.1, Or.inl ⟨hok.out.2 ⟨hr, hw⟩, rfl, v1, hs.2.1, hs.2.2.1⟩⟩
      clear L LP
      go_wp2
      first | go_end0 | go_ret
      exact KR.out
end WI
end Go.Proofs.YtfkgfcggcfkkiaaDoor
namespace Go.Proofs.YtfkgfcggcfkkiaaDoor
open Go.RowKit
/-- Four words, the lowest first. -/
def val (a b c d : Nat) : Nat := a + 18446744073709551616 * b + 340282366920938463463374607431768211456 * c + 6277101735386680763835789423207666416102355444464034512896 * d
def ag (a b c d : Nat) : Value := .agg #[.int .u64 (a : Int), .int .u64 (b : Int), .int .u64 (c : Int), .int .u64 (d : Int)]
/-- A value of four words is the number n. -/
def Four (v : Value) (n : Nat) : Prop := ∃ a b c d : Nat, v = .agg #[.int .u64 (a : Int), .int .u64 (b : Int), .int .u64 (c : Int), .int .u64 (d : Int)] ∧
  a < 18446744073709551616 ∧ b < 18446744073709551616 ∧ c < 18446744073709551616 ∧ d < 18446744073709551616 ∧ n = val a b c d
def top : Nat := 115792089237316195423570985008687907853269984665640564039457584007913129639936
theorem val_lt {a b c d : Nat} (ha : a < 18446744073709551616) (hb : b < 18446744073709551616) (hc : c < 18446744073709551616) (hd : d < 18446744073709551616) : val a b c d < top := by
  unfold val top; omega
theorem Four.lt {v : Value} {n : Nat} (h : Four v n) : n < top := by
  obtain ⟨a, b, c, d, -, ha, hb, hc, hd, rfl⟩ := h
  exact val_lt ha hb hc hd
theorem val_inj {a b c d p q r s : Nat} (ha : a < 18446744073709551616) (hb : b < 18446744073709551616) (hc : c < 18446744073709551616)
    (hp : p < 18446744073709551616) (hq : q < 18446744073709551616) (hr : r < 18446744073709551616) (h : val a b c d = val p q r s) : a = p ∧ b = q ∧ c = r ∧ d = s := by
  unfold val at h; omega
theorem Four.inj {v v' : Value} {n : Nat} (h : Four v n) (h' : Four v' n) : v = v' := by
  obtain ⟨a, b, c, d, rfl, ha, hb, hc, hd, e⟩ := h
  obtain ⟨p, q, r, s, rfl, hp, hq, hr, hs, e'⟩ := h'
  obtain ⟨rfl, rfl, rfl, rfl⟩ := val_inj ha hb hc hp hq hr (e.symm.trans e')
  rfl
theorem Four.num {v : Value} {n m : Nat} (h : Four v n) (h' : Four v m) : n = m := by
  obtain ⟨a, b, c, d, rfl, ha, hb, hc, hd, rfl⟩ := h
  obtain ⟨p, q, r, s, e, hp, hq, hr, hs, rfl⟩ := h'
  simp only [Value.agg.injEq, Array.mk.injEq, List.cons.injEq, Value.int.injEq, true_and, and_true, Int.ofNat_inj] at e
  obtain ⟨rfl, rfl, rfl, rfl⟩ := e
  rfl
theorem Four.mk {a b c d n : Nat} (ha : a < 18446744073709551616) (hb : b < 18446744073709551616) (hc : c < 18446744073709551616) (hd : d < 18446744073709551616) (hn : n = val a b c d) :
    Four (.agg #[.int .u64 (a : Int), .int .u64 (b : Int), .int .u64 (c : Int), .int .u64 (d : Int)]) n := ⟨a, b, c, d, rfl, ha, hb, hc, hd, hn⟩
theorem ret_int {k : IntKind} {a b : Int} (h : a = b) : Ending.returned (.int k a) = .returned (.int k b) := by rw [h]
/-- What Mul64 answers, as words. -/
theorem mul_parts (x y : Nat) : x * y / 18446744073709551616 * 18446744073709551616 + x * y % 18446744073709551616 = x * y := by
  omega
end Go.Proofs.YtfkgfcggcfkkiaaDoor
namespace Go.Proofs.YtfkgfcggcfkkiaaDoor
open Go.RowKit Go.Sort
theorem mixed : Tryd.prog.follows .mixedOrders = true := by kernel_rfl
theorem maskN (a : Nat) (ha : a < 18446744073709551616) : bits .and .u64 (a : Int) 4294967295 = ((a % 4294967296 : Nat) : Int) := by
  have h := bits_and_u64_nat a 4294967295 ha (by omega)
  rw [show a &&& 4294967295 = a % 4294967296 from Nat.and_two_pow_sub_one_eq_mod a 32] at h
  exact h
theorem divN (a : Nat) : (a : Int) / 4294967296 = ((a / 4294967296 : Nat) : Int) := by omega
theorem mulN (a b : Nat) : (a : Int) * (b : Int) = ((a * b : Nat) : Int) := (Int.natCast_mul a b).symm
theorem addN (a b : Nat) : (a : Int) + (b : Int) = ((a + b : Nat) : Int) := (Int.natCast_add a b).symm
theorem wrapN (a : Nat) (ha : a < 18446744073709551616) : IntKind.u64.wrap (a : Int) = (a : Int) := by rw [IntKind.wrap_u64]; omega
theorem wrapM (a : Nat) : IntKind.u64.wrap (a : Int) = ((a % 18446744073709551616 : Nat) : Int) := by rw [IntKind.wrap_u64]; omega
end Go.Proofs.YtfkgfcggcfkkiaaDoor
namespace Go.Proofs.YtfkgfcggcfkkiaaDoor
open Go.RowKit Go.Sort
/-- It returned a value, of which something holds. -/
def Ret (Q : Value → World → Prop) (e : Ending) (w : World) : Prop := ∃ v, e = .returned v ∧ Q v w
theorem below1 (w : World) (o1 : Obj) : Below w.heap.size w (w.alloc o1) := (Below.refl _ _).alloc (Nat.le_refl _) o1
theorem below2 (w : World) (o1 o2 : Obj) : Below w.heap.size w ((w.alloc o1).alloc o2) := (below1 w o1).alloc (by simp) o2
theorem below3 (w : World) (o1 o2 o3 : Obj) : Below w.heap.size w (((w.alloc o1).alloc o2).alloc o3) := (below2 w o1 o2).alloc (by simp; omega) o3
theorem below4 (w : World) (o1 o2 o3 o4 : Obj) : Below w.heap.size w ((((w.alloc o1).alloc o2).alloc o3).alloc o4) := (below3 w o1 o2 o3).alloc (by simp; omega) o4
theorem mul_val (x a b c d : Nat) : x * val a b c d = val (x * a) (x * b) (x * c) (x * d) := by
  unfold val
  rw [Nat.mul_add, Nat.mul_add, Nat.mul_add, Nat.mul_left_comm x _ b, Nat.mul_left_comm x _ c, Nat.mul_left_comm x _ d]
theorem row_sum {x a b c d p q r s l0 l1 l2 l3 h0 h1 h2 h3 m n : Nat} (em : m = val a b c d) (en : n = val p q r s)
    (e0 : l0 + 18446744073709551616 * h0 = x * a + p + 0) (e1 : l1 + 18446744073709551616 * h1 = x * b + q + h0)
    (e2 : l2 + 18446744073709551616 * h2 = x * c + r + h1) (e3 : l3 + 18446744073709551616 * h3 = x * d + s + h2) :
    l0 + 18446744073709551616 * val l1 l2 l3 h3 = x * m + n := by
  rw [em, en, mul_val x a b c d]
  generalize x * a = xa at *
  generalize x * b = xb at *
  generalize x * c = xc at *
  generalize x * d = xd at *
  unfold val
  omega
end Go.Proofs.YtfkgfcggcfkkiaaDoor
set_option linter.unusedVariables false
set_option linter.unusedSimpArgs false
namespace Go.Proofs.YtfkgfcggcfkkiaaDoor.RG
open Go Go.RowKit
/-- A value, or the address of one of the call's own blocks. -/
inductive SV where
  | v (x : Value)
  | p (b o : Nat)
  | s (b n c : Nat)
  | t (b n c : Nat) (y : Value)
def SV.at (μ : Nat → Nat) : SV → Value
  | .v x => x
  | .p b o => .pointer (some ⟨μ b, o, none⟩)
  | .s b n c => .slice (some ⟨μ b, 0, none⟩) n c
  | .t b n c y => .tuple #[.slice (some ⟨μ b, 0, none⟩) n c, y]
def SV.blk : SV → Option Nat
  | .v _ => none
  | .p b _ => some b
  | .s b _ _ => some b
  | .t b _ _ _ => some b
theorem SV.at_congr {μ ν : Nat → Nat} {s : SV} (h : ∀ b, s.blk = some b → μ b = ν b) : s.at μ = s.at ν := by
  cases s with
  | v x => rfl
  | p b o => show Value.pointer (some ⟨μ b, o, none⟩) = .pointer (some ⟨ν b, o, none⟩); rw [h b rfl]
  | s b n c => show Value.slice (some ⟨μ b, 0, none⟩) n c = .slice (some ⟨ν b, 0, none⟩) n c; rw [h b rfl]
  | t b n c y => show Value.tuple #[.slice (some ⟨μ b, 0, none⟩) n c, y] = .tuple #[.slice (some ⟨ν b, 0, none⟩) n c, y]; rw [h b rfl]
inductive Kind where
  | stay
  | pass
  | call
  | make (b : Nat)
  | put (b : Nat)
/-- What an operation of a region does; 'need': slots, and the operations that fill them. -/
structure It where
  dst : Option Tmp
  need : List (Tmp × Nat)
  out : SV
  kind : Kind
/-- A block: what lies in it, what is stored into it, which operation makes it and which stores into it. -/
structure Bl where
  before : List Value
  after : List Value
  al : Option Nat
  st : Option Nat
def on (L : Array Bool) (i : Nat) : Bool := L.getD i false
def Bl.live (e : Bl) (L : Array Bool) : Bool := (e.al.map (on L)).getD true
def Bl.put (e : Bl) (L : Array Bool) : Bool := (e.st.map (on L)).getD false
def Bl.now (e : Bl) (L : Array Bool) : List Value := if e.put L = true then e.after else e.before
theorem on_set {L : Array Bool} {i j : Nat} (h : i < L.size) : on (L.setIfInBounds i true) j = (on L j || i == j) := by
  unfold on
  simp only [Array.getD_eq_getD_getElem?, Array.getElem?_setIfInBounds]
  by_cases hij : i = j
  · subst hij; simp [h]
  · simp [hij]
theorem live_set {e : Bl} {L : Array Bool} {i : Nat} (h : i < L.size) : e.live (L.setIfInBounds i true) = (e.live L || e.al == some i) := by
  unfold Bl.live
  cases ha : e.al with
  | none => rfl
  | some j =>
    show on _ j = (on L j || _)
    rw [on_set h]
    by_cases hij : i = j
    · subst hij; simp
    · have h1 : (i == j) = false := by simpa using hij
      have h2 : (some j == some i) = false := by simpa using fun h => hij h.symm
      rw [h1, h2]
theorem put_set {e : Bl} {L : Array Bool} {i : Nat} (h : i < L.size) : e.put (L.setIfInBounds i true) = (e.put L || e.st == some i) := by
  unfold Bl.put
  cases ha : e.st with
  | none => rfl
  | some j =>
    show on _ j = (on L j || _)
    rw [on_set h]
    by_cases hij : i = j
    · subst hij; simp
    · have h1 : (i == j) = false := by simpa using hij
      have h2 : (some j == some i) = false := by simpa using fun h => hij h.symm
      rw [h1, h2]
theorem range_below {B k o : Nat} {w w' : World} {cs : List Value} (h : w.rangeAt k o cs) (hb : Below B w w') (hk : k < B) : w'.rangeAt k o cs := fun j v hv => by
  rw [hb.cell (p := ⟨k, o + j, none⟩) hk]; exact h j v hv
theorem there_below {B k o n : Nat} {w w' : World} (h : w.there k o n) (hb : Below B w w') (hk : k < B) : w'.there k o n := fun j hj => by
  rw [hb.cell (p := ⟨k, o + j, none⟩) hk, hb.frozen (p := ⟨k, o + j, none⟩) hk]; exact h j hj
theorem below_setCells {B k : Nat} {w0 : World} (hk : B ≤ k) : ∀ (vs : List Value) (o : Nat) (w : World), Below B w0 w → Below B w0 (w.setCells k o vs)
  | [], _, _, h => h
  | v :: r, o, w, h => below_setCells hk r (o + 1) _ (h.setCell (p := ⟨k, o, none⟩) hk v)
theorem setCells_size (k : Nat) : ∀ (vs : List Value) (o : Nat) (w : World), (w.setCells k o vs).heap.size = w.heap.size
  | [], _, _ => rfl
  | v :: r, o, w => by
    rw [World.setCells, setCells_size k r (o + 1)]
    simp [World.setCell]
theorem there_setCells {k b o n : Nat} : ∀ (vs : List Value) (i : Nat) (w : World), w.there b o n → (w.setCells k i vs).there b o n
  | [], _, _, h => h
  | v :: r, i, w, h => there_setCells r (i + 1) _ fun j hj => ⟨World.isSome_setCells k [v] i w _ (h j hj).1, by rw [World.frozen?_setCell]; exact (h j hj).2⟩
/-- Nothing below k0 was turned, but for the blocks of X. -/
structure BelX (k0 : Nat) (X : List Nat) (w w' : World) : Prop where
  os : w'.os = w.os
  tape : w'.tape = w.tape
  output : w'.output = w.output
  size : w.heap.size ≤ w'.heap.size
  block : ∀ j, j < k0 → j ∉ X → w'.heap[j]? = w.heap[j]?
theorem BelX.below {k0 : Nat} {w w' : World} (h : BelX k0 [] w w') : Below k0 w w' := ⟨h.os, h.tape, h.output, h.size, fun j hj => h.block j hj List.not_mem_nil⟩
theorem BelX.drew {k0 : Nat} {X : List Nat} {w w' : World} (h : BelX k0 X w w') : BelX k0 X w w'.drew := ⟨h.os, h.tape, h.output, h.size, h.block⟩
theorem BelX.refl (k0 : Nat) (X : List Nat) (w : World) : BelX k0 X w w := ⟨rfl, rfl, rfl, Nat.le_refl _, fun _ _ _ => rfl⟩
theorem BelX.trans {k0 : Nat} {X : List Nat} {a b c : World} (h : BelX k0 X a b) (k : BelX k0 X b c) : BelX k0 X a c :=
  ⟨k.os.trans h.os, k.tape.trans h.tape, k.output.trans h.output, Nat.le_trans h.size k.size, fun i hi hx => (k.block i hi hx).trans (h.block i hi hx)⟩
/-- What is known of the world, where the operations of L are done. -/
structure Wd (w0 : World) (k0 : Nat) (X : List Nat) (bl : List Bl) (L : Array Bool) (μ : Nat → Nat) (w : World) : Prop where
  bel : BelX k0 X w0 w
  le : k0 ≤ w.heap.size
  has : ∀ (b : Nat) (e : Bl), bl[b]? = some e → e.live L = true → w.rangeAt (μ b) 0 (e.now L) ∧ w.there (μ b) 0 e.before.length ∧ μ b < w.heap.size ∧ (k0 ≤ μ b ∨ μ b ∈ X)
  inj : ∀ (b c : Nat) (e f : Bl), bl[b]? = some e → bl[c]? = some f → e.live L = true → f.live L = true → b ≠ c → μ b ≠ μ c
variable {w0 w w' : World} {k0 : Nat} {X : List Nat} {bl : List Bl} {L : Array Bool} {μ : Nat → Nat}
theorem Wd.drew (h : Wd w0 k0 X bl L μ w) : Wd w0 k0 X bl L μ w.drew := ⟨h.bel.drew, h.le, h.has, h.inj⟩
theorem Wd.same {L' : Array Bool} (h : Wd w0 k0 X bl L μ w) (hl : ∀ (b : Nat) (e : Bl), bl[b]? = some e → e.live L' = e.live L ∧ e.put L' = e.put L) : Wd w0 k0 X bl L' μ w := by
  refine ⟨h.bel, h.le, fun b e hb hv => ?_, fun b c e f hb hc he hf => h.inj b c e f hb hc ((hl b e hb).1 ▸ he) ((hl c f hc).1 ▸ hf)⟩
  have := h.has b e hb ((hl b e hb).1 ▸ hv)
  unfold Bl.now at this ⊢
  rw [(hl b e hb).2]
  exact this
theorem Wd.call (h : Wd w0 k0 X bl L μ w) (hb : Below w.heap.size w w') : Wd w0 k0 X bl L μ w' := by
  refine ⟨h.bel.trans ⟨hb.os, hb.tape, hb.output, hb.size, fun k hk _ => hb.block k (Nat.lt_of_lt_of_le hk h.le)⟩, Nat.le_trans h.le hb.size, fun b e hbe hv => ?_, h.inj⟩
  obtain ⟨h1, h2, h3, h4⟩ := h.has b e hbe hv
  exact ⟨range_below h1 hb h3, there_below h2 hb h3, Nat.lt_of_lt_of_le h3 hb.size, h4⟩
def upd (μ : Nat → Nat) (b k : Nat) : Nat → Nat := fun c => if c = b then k else μ c
/-- A new block k; there lies c; nothing that was there was turned. -/
structure Made (w : World) (k : Nat) (c : List Value) (w' : World) : Prop where
  bel : Below w.heap.size w w'
  le : w.heap.size ≤ k
  lt : k < w'.heap.size
  range : w'.rangeAt k 0 c
  there : w'.there k 0 c.length
theorem Made.alloc (w : World) (c : List Value) (t : TypeId) : Made w w.heap.size c (w.alloc (.cells c.toArray t)) := by
  refine ⟨below1 w _, Nat.le_refl _, by rw [World.size_alloc]; omega, fun j v hj => ?_, fun j hj => ⟨?_, World.frozen?_alloc_new _ _ _ _⟩⟩
  · rw [Nat.zero_add, World.cell?_alloc_new]
    simpa using hj
  · rw [Nat.zero_add, World.cell?_alloc_new]
    simp [hj]
theorem Wd.make {i b k : Nat} {e : Bl} (h : Wd w0 k0 X bl L μ w) (hi : i < L.size) (hb : bl[b]? = some e) (ha : e.al = some i) (hne : ∀ (c : Nat) (f : Bl), bl[c]? = some f → c ≠ b → f.al ≠ some i)
    (hst : ∀ (c : Nat) (f : Bl), bl[c]? = some f → f.st ≠ some i) (hp : e.put L = false) (hm : Made w k e.before w') :
    Wd w0 k0 X bl (L.setIfInBounds i true) (upd μ b k) w' := by
  have hput : ∀ (c : Nat) (f : Bl), bl[c]? = some f → f.put (L.setIfInBounds i true) = f.put L := fun c f hc => by
    rw [put_set hi, show (f.st == some i) = false by simpa using hst c f hc, Bool.or_false]
  have hliv : ∀ (c : Nat) (f : Bl), bl[c]? = some f → c ≠ b → f.live (L.setIfInBounds i true) = f.live L := fun c f hc hcb => by
    rw [live_set hi, show (f.al == some i) = false by simpa using hne c f hc hcb, Bool.or_false]
  have hold : ∀ (c : Nat) (f : Bl), bl[c]? = some f → c ≠ b → f.live (L.setIfInBounds i true) = true → μ c < w.heap.size := fun c f hc hcb hv => (h.has c f hc (hliv c f hc hcb ▸ hv)).2.2.1
  have hal := hm.bel
  have hmk := hm.le
  refine ⟨h.bel.trans ⟨hal.os, hal.tape, hal.output, hal.size, fun k hk _ => hal.block k (Nat.lt_of_lt_of_le hk h.le)⟩, Nat.le_trans h.le hal.size, fun c f hc hv => ?_, fun c d f g hc hd hf hg hcd => ?_⟩
  · by_cases hcb : c = b
    · subst hcb
      rw [hb] at hc
      obtain rfl : e = f := Option.some.inj hc
      have hn : e.now (L.setIfInBounds i true) = e.before := by unfold Bl.now; rw [hput c e hb, hp]; rfl
      rw [hn]
      unfold upd
      rw [if_pos rfl]
      exact ⟨hm.range, hm.there, hm.lt, Or.inl (Nat.le_trans h.le hmk)⟩
    · obtain ⟨h1, h2, h3, h4⟩ := h.has c f hc (hliv c f hc hcb ▸ hv)
      unfold upd
      rw [if_neg hcb]
      have hn : f.now (L.setIfInBounds i true) = f.now L := by unfold Bl.now; rw [hput c f hc]
      rw [hn]
      exact ⟨range_below h1 hal h3, there_below h2 hal h3, Nat.lt_of_lt_of_le h3 hal.size, h4⟩
  · unfold upd
    by_cases hcb : c = b
    · subst hcb
      rw [if_pos rfl, if_neg (fun h => hcd h.symm)]
      exact Nat.ne_of_gt (Nat.lt_of_lt_of_le (hold d g hd (fun h => hcd h.symm) hg) hmk)
    · by_cases hdb : d = b
      · subst hdb
        rw [if_pos rfl, if_neg hcb]
        exact Nat.ne_of_lt (Nat.lt_of_lt_of_le (hold c f hc hcb hf) hmk)
      · rw [if_neg hcb, if_neg hdb]
        exact h.inj c d f g hc hd (hliv c f hc hcb ▸ hf) (hliv d g hd hdb ▸ hg) hcd
/-- Of what was there, block k alone was written; there lies cs now. -/
structure PutTo (k n : Nat) (cs : List Value) (w w' : World) : Prop where
  os : w'.os = w.os
  tape : w'.tape = w.tape
  output : w'.output = w.output
  size : w.heap.size ≤ w'.heap.size
  block : ∀ j, j < w.heap.size → j ≠ k → w'.heap[j]? = w.heap[j]?
  range : w'.rangeAt k 0 cs
  there : w'.there k 0 n
theorem setCells_other (k : Nat) : ∀ (vs : List Value) (o : Nat) (w : World) (j : Nat), j ≠ k → (w.setCells k o vs).heap[j]? = w.heap[j]?
  | [], _, _, _, _ => rfl
  | v :: r, o, w, j, h => by
    rw [World.setCells, setCells_other k r (o + 1) _ j h, Below.heap_setCell _ _ _ _ h]
theorem setCells_os (k : Nat) : ∀ (vs : List Value) (o : Nat) (w : World), (w.setCells k o vs).os = w.os ∧ (w.setCells k o vs).tape = w.tape ∧ (w.setCells k o vs).output = w.output
  | [], _, _ => ⟨rfl, rfl, rfl⟩
  | v :: r, o, w => by rw [World.setCells]; exact setCells_os k r (o + 1) _
/-- A store of some cells into a block. -/
theorem PutTo.store {k n o : Nat} {before after vs : List Value} (ht : w.there k 0 n) (hr : w.rangeAt k 0 before) (hl : o + vs.length ≤ n) (ha : ∀ j, after[j]? = if o ≤ j ∧ j < o + vs.length then vs[j - o]? else before[j]?) : PutTo k n after w (w.setCells k o vs) := by
  obtain ⟨h1, h2, h3⟩ := setCells_os k vs o w
  refine ⟨h1, h2, h3, by rw [setCells_size]; exact Nat.le_refl _, fun j _ hj => setCells_other k vs o w j hj, fun j v hv => ?_, there_setCells _ _ _ ht⟩
  have hto : w.there k o vs.length := fun j hj => by have := ht (o + j) (by omega); rwa [Nat.zero_add] at this
  rw [ha j] at hv
  rw [Nat.zero_add]
  by_cases hj : o ≤ j ∧ j < o + vs.length
  · rw [if_pos hj] at hv
    have := World.rangeAt_setCells_same w k o vs hto (j - o) v hv
    rwa [show o + (j - o) = j by omega] at this
  · rw [if_neg hj] at hv
    have h5 : w.rangeAt k j [v] := fun i u hu => by
      cases i with
      | zero =>
        obtain rfl : v = u := by simpa using hu
        have := hr j v hv
        rwa [Nat.zero_add] at this
      | succ i => simp at hu
    have h6 := World.rangeAt_setCells_apart h5 k o vs (Or.inr (by simp only [List.length_cons, List.length_nil]; omega))
    have := h6 0 v rfl
    exact this
theorem PutTo.whole {k : Nat} {before after : List Value} (ht : w.there k 0 before.length) (hr : w.rangeAt k 0 before) (hl : after.length = before.length) : PutTo k before.length after w (w.setCells k 0 after) :=
  PutTo.store ht hr (by omega) (fun j => by
    by_cases hj : 0 ≤ j ∧ j < 0 + after.length
    · rw [if_pos hj]; rfl
    · rw [if_neg hj, List.getElem?_eq_none (by omega), List.getElem?_eq_none (by omega)])
theorem Wd.put {i b : Nat} {e : Bl} (h : Wd w0 k0 X bl L μ w) (hi : i < L.size) (hb : bl[b]? = some e) (hs : e.st = some i) (hv : e.live L = true) (hp : PutTo (μ b) e.before.length e.after w w')
    (hne : ∀ (c : Nat) (f : Bl), bl[c]? = some f → c ≠ b → f.st ≠ some i) (hal : ∀ (c : Nat) (f : Bl), bl[c]? = some f → f.al ≠ some i) :
    Wd w0 k0 X bl (L.setIfInBounds i true) μ w' := by
  have hliv : ∀ (c : Nat) (f : Bl), bl[c]? = some f → f.live (L.setIfInBounds i true) = f.live L := fun c f hc => by
    rw [live_set hi, show (f.al == some i) = false by simpa using hal c f hc, Bool.or_false]
  obtain ⟨g1, g2, g3, g4⟩ := h.has b e hb hv
  have hle := h.le
  refine ⟨h.bel.trans ⟨hp.os, hp.tape, hp.output, hp.size, fun j hj hx => hp.block j (by omega) (fun e => g4.elim (fun h => by omega) (fun h => hx (e ▸ h)))⟩, Nat.le_trans h.le hp.size, fun c f hc hvc => ?_, fun c d f g hc hd hf hg => h.inj c d f g hc hd (hliv c f hc ▸ hf) (hliv d g hd ▸ hg)⟩
  rw [hliv c f hc] at hvc
  obtain ⟨h1, h2, h3, h4⟩ := h.has c f hc hvc
  by_cases hcb : c = b
  · subst hcb
    rw [hb] at hc
    obtain rfl : e = f := Option.some.inj hc
    have hn : e.now (L.setIfInBounds i true) = e.after := by
      unfold Bl.now
      rw [put_set hi, hs]
      simp
    rw [hn]
    exact ⟨hp.range, hp.there, Nat.lt_of_lt_of_le h3 hp.size, h4⟩
  · have hn : f.now (L.setIfInBounds i true) = f.now L := by
      unfold Bl.now
      rw [put_set hi, show (f.st == some i) = false by simpa using hne c f hc hcb, Bool.or_false]
    rw [hn]
    have hsame := hp.block (μ c) h3 (h.inj c b f e hc hb hvc hv hcb)
    refine ⟨fun j v hj => ?_, fun j hj => ?_, Nat.lt_of_lt_of_le h3 hp.size, h4⟩
    · rw [World.cell?_of_block (w := w) (a := ⟨μ c, 0 + j, none⟩) hsame]; exact h1 j v hj
    · rw [World.cell?_of_block (w := w) (a := ⟨μ c, 0 + j, none⟩) hsame, World.frozen?_of_block (w := w) (a := ⟨μ c, 0 + j, none⟩) hsame]; exact h2 j hj
end Go.Proofs.YtfkgfcggcfkkiaaDoor.RG
namespace Go.Proofs.YtfkgfcggcfkkiaaDoor.RG
open Go Go.RowKit
variable {P : Program} {ops : Array Oper} {Q : Exit → Act → World → Prop} {w0 w : World} {k0 : Nat} {X : List Nat} {its : List It} {bl : List Bl} {olds : List (Tmp × SV)} {a0 : Act} {L : Array Bool} {μ μ' μ0 : Nat → Nat}
/-- What is known of the slots, where the operations of L are done. -/
structure Ac (its : List It) (bl : List Bl) (a0 : Act) (L : Array Bool) (μ : Nat → Nat) (a : Act) : Prop where
  defers : a.defers = a0.defers
  size : a.tmps.size = a0.tmps.size
  got : ∀ (i : Nat) (it : It) (d : Tmp), its[i]? = some it → on L i = true → it.dst = some d → a.tmps[d]? = some (it.out.at μ) ∧ ∀ b, it.out.blk = some b → ∃ e : Bl, bl[b]? = some e ∧ e.live L = true
  rest : ∀ t : Tmp, (∀ (i : Nat) (it : It), its[i]? = some it → on L i = true → it.dst ≠ some t) → a.tmps[t]? = a0.tmps[t]?
def depB (o : Oper) (j : Nat) : Bool := o.after.any (fun e => Region.binds .any e && e.on == j)
/-- Who fills slot t, waits for operation i. -/
def freeB (ops : Array Oper) (its : List It) (i : Nat) (t : Tmp) : Bool := its.zipIdx.all (fun x => x.1.dst != some t || (match ops[x.2]? with | some o => depB o i | none => false))
def Known (ops : Array Oper) (i : Nat) (its : List It) (olds : List (Tmp × SV)) (need : List (Tmp × Nat)) (μ : Nat → Nat) (a : Act) : Prop :=
  (∀ (t : Tmp) (j : Nat) (it : It), (t, j) ∈ need → its[j]? = some it → a.eval (.tmp t) = it.out.at μ) ∧ (∀ (t : Tmp) (s : SV), (t, s) ∈ olds → freeB ops its i t = true → a.eval (.tmp t) = s.at μ)
/-- Operation i may read the block: nothing is stored into it, or by an operation that waits for i. -/
def readB (ops : Array Oper) (i : Nat) (e : Bl) : Bool := match e.st with | none => true | some s => match ops[s]? with | some o => depB o i | none => false
def Reads (ops : Array Oper) (i : Nat) (bl : List Bl) (μ : Nat → Nat) (w : World) : Prop := ∀ (b : Nat) (e : Bl), bl[b]? = some e → (e.al = none ∨ ∃ (o : Oper) (j : Nat), ops[i]? = some o ∧ e.al = some j ∧ depB o j = true) → readB ops i e = true → w.rangeAt (μ b) 0 e.before
def Does (P : Program) (Q : Exit → Act → World → Prop) (bl : List Bl) (o : Oper) (it : It) (μ : Nat → Nat) (a : Act) (w : World) (K : Act → World → Prop) : Kind → Prop
  | .stay => K (a.put o.dst (it.out.at μ)) w → o.wp P a w K Q
  | .pass => it.out = .v undef
  | .call => (∀ w', Below w.heap.size w w' → K (a.put o.dst (it.out.at μ)) w') → o.wp P a w K Q
  | .make b => ∀ e : Bl, bl[b]? = some e → (∀ (k : Nat) (w' : World), Made w k e.before w' → K (a.put o.dst (it.out.at (upd μ b k))) w') → o.wp P a w K Q
  | .put b => ∀ e : Bl, bl[b]? = some e → w.there (μ b) 0 e.before.length → w.rangeAt (μ b) 0 e.before → (∀ w', PutTo (μ b) e.before.length e.after w w' → K (a.put o.dst (it.out.at μ)) w') → o.wp P a w K Q
/-- An operation does what its row says. -/
def Cert (P : Program) (Q : Exit → Act → World → Prop) (w0 : World) (k0 : Nat) (X : List Nat) (ops : Array Oper) (i : Nat) (its : List It) (bl : List Bl) (olds : List (Tmp × SV)) (o : Oper) (it : It) : Prop :=
  ∀ (μ : Nat → Nat) (a : Act) (w : World) (K : Act → World → Prop), Known ops i its olds it.need μ a → Reads ops i bl μ w → BelX k0 X w0 w → Does P Q bl o it μ a w K it.kind
/-- The block of an address is there: operation o waits for its making, or has the address of an operation that it waits for. -/
def liveB (its : List It) (bl : List Bl) (o : Oper) (it : It) (b : Nat) : Bool :=
  (match bl[b]? with | some e => (match e.al with | none => true | some j => depB o j) | none => false) || it.need.any (fun x => depB o x.2 && (match its[x.2]? with | some jt => jt.dst.isSome && jt.out.blk == some b | none => false))
def kindB (its : List It) (bl : List Bl) (i : Nat) (o : Oper) (it : It) : Kind → Bool
  | .stay | .pass | .call => bl.all (fun e => e.al != some i && e.st != some i) && (match it.out.blk with | none => true | some b => liveB its bl o it b)
  | .make b => (match it.out.blk with | some c => c == b | none => false) && bl.zipIdx.all (fun x => x.1.st != some i && (x.1.al == some i) == (x.2 == b)) && (bl[b]?).isSome
  | .put b => (match it.out with | .v _ => true | _ => false) && bl.zipIdx.all (fun x => x.1.al != some i && (x.1.st == some i) == (x.2 == b)) && (match bl[b]? with | some e => (match e.al with | none => true | some j => depB o j) | none => false)
def Kind.isPass : Kind → Bool
  | .pass => true
  | _ => false
def guardB (its : List It) (o : Oper) (it : It) : Bool :=
  match o.guard with
  | none => !it.kind.isPass
  | some (j, want) => depB o j && (match its[j]? with | some jt => jt.dst.isSome && (match jt.out with | .v (.bool b) => (b == want) == !it.kind.isPass | _ => false) | none => false)
def okB (its : List It) (bl : List Bl) (i : Nat) (o : Oper) (it : It) : Bool :=
  (o.dst == it.dst) && guardB its o it && o.after.all (fun e => !Region.binds .any e || e.on < i) && it.need.all (fun tj => depB o tj.2 && ((its[tj.2]?).bind (·.dst)) == some tj.1) && kindB its bl i o it it.kind
def dstB : List It → Bool
  | [] => true
  | it :: r => (match it.dst with | none => true | some d => r.all (fun jt => jt.dst != some d)) && dstB r
def oldB (bl : List Bl) (olds : List (Tmp × SV)) : Bool :=
  olds.all (fun x => (match x.2.blk with | none => true | some b => match bl[b]? with | some e => e.al.isNone | none => false))
def allB (ops : Array Oper) (its : List It) (bl : List Bl) (olds : List (Tmp × SV)) (n : Nat) : Bool :=
  ops.size == its.length && dstB its && oldB bl olds && its.all (fun it => match it.dst with | none => true | some d => d < n) &&
  (List.range its.length).all (fun i => match ops[i]?, its[i]? with | some o, some it => okB its bl i o it | _, _ => false)
theorem dst_ne : ∀ {its : List It}, dstB its = true → ∀ (i j : Nat) (it jt : It) (d : Tmp), its[i]? = some it → its[j]? = some jt → it.dst = some d → jt.dst = some d → i = j
  | [], _, i, _, _, _, _, h, _, _, _ => by simp at h
  | x :: r, h, i, j, it, jt, d, hi, hj, di, dj => by
    simp only [dstB, Bool.and_eq_true] at h
    match i, j with
    | 0, 0 => rfl
    | 0, j + 1 =>
      simp only [List.getElem?_cons_zero, Option.some.injEq] at hi
      simp only [List.getElem?_cons_succ] at hj
      subst hi
      rw [di] at h
      have := List.all_eq_true.1 h.1 jt (List.mem_of_getElem? hj)
      rw [dj] at this
      simp at this
    | i + 1, 0 =>
      simp only [List.getElem?_cons_zero, Option.some.injEq] at hj
      simp only [List.getElem?_cons_succ] at hi
      subst hj
      rw [dj] at h
      have := List.all_eq_true.1 h.1 it (List.mem_of_getElem? hi)
      rw [di] at this
      simp at this
    | i + 1, j + 1 =>
      simp only [List.getElem?_cons_succ] at hi hj
      rw [dst_ne h.2 i j it jt d hi hj di dj]
theorem live_mono {e : Bl} {i : Nat} (hi : i < L.size) (h : e.live L = true) : e.live (L.setIfInBounds i true) = true := by rw [live_set hi, h, Bool.true_or]
theorem Ac.put {a : Act} {i : Nat} {it : It} (h : Ac its bl a0 L μ a) (hd : dstB its = true) (hi : i < L.size) (hit : its[i]? = some it) (hμ : ∀ (b : Nat) (e : Bl), bl[b]? = some e → e.live L = true → μ' b = μ b)
    (hin : ∀ d, it.dst = some d → d < a0.tmps.size) (hl : ∀ d, it.dst = some d → ∀ b, it.out.blk = some b → ∃ e : Bl, bl[b]? = some e ∧ e.live (L.setIfInBounds i true) = true)
    (v : Value) (hv : ∀ d, it.dst = some d → v = it.out.at μ') : Ac its bl a0 (L.setIfInBounds i true) μ' (a.put it.dst v) := by
  have hsame : ∀ (j : Nat) (jt : It) (d : Tmp), its[j]? = some jt → on L j = true → jt.dst = some d → a.tmps[d]? = some (jt.out.at μ') ∧ ∀ b, jt.out.blk = some b → ∃ e : Bl, bl[b]? = some e ∧ e.live (L.setIfInBounds i true) = true := fun j jt d hj ho hjd => by
    obtain ⟨h1, h2⟩ := h.got j jt d hj ho hjd
    refine ⟨?_, fun b hbo => ?_⟩
    · rw [h1]
      congr 1
      refine SV.at_congr fun b hb => ?_
      obtain ⟨e, he, hl⟩ := h2 b hb
      rw [hμ b e he hl]
    · obtain ⟨e, he, hl⟩ := h2 b hbo
      exact ⟨e, he, live_mono hi hl⟩
  cases hdst : it.dst with
  | none =>
    show Ac its bl a0 _ μ' a
    refine ⟨h.defers, h.size, fun j jt d hj ho hjd => ?_, fun t ht => h.rest t fun j jt hj ho => ht j jt hj (by rw [on_set hi, ho, Bool.true_or])⟩
    rw [on_set hi] at ho
    by_cases hij : i = j
    · subst hij
      rw [hit] at hj
      obtain rfl : it = jt := Option.some.inj hj
      rw [hdst] at hjd
      cases hjd
    · exact hsame j jt d hj (by simpa [hij] using ho) hjd
  | some d0 =>
    have hd0 := hin d0 hdst
    refine ⟨h.defers, ?_, fun j jt d hj ho hjd => ?_, fun t ht => ?_⟩
    · show (a.tmps.setIfInBounds d0 v).size = _
      rw [Array.size_setIfInBounds]; exact h.size
    · show (a.tmps.setIfInBounds d0 v)[d]? = _ ∧ _
      rw [Array.getElem?_setIfInBounds]
      rw [on_set hi] at ho
      by_cases hij : i = j
      · subst hij
        rw [hit] at hj
        obtain rfl : it = jt := Option.some.inj hj
        rw [hdst] at hjd
        obtain rfl : d0 = d := Option.some.inj hjd
        rw [if_pos rfl, if_pos (by rw [h.size]; exact hd0), hv d0 hdst]
        exact ⟨rfl, hl d0 hdst⟩
      · have hne : d0 ≠ d := fun hdd => hij (dst_ne hd i j it jt d0 hit hj hdst (hdd ▸ hjd))
        rw [if_neg hne]
        exact hsame j jt d hj (by simpa [hij] using ho) hjd
    · show (a.tmps.setIfInBounds d0 v)[t]? = _
      have hne : d0 ≠ t := fun hdt => ht i it hit (by rw [on_set hi]; simp) (by rw [hdst, hdt])
      rw [Array.getElem?_setIfInBounds, if_neg hne]
      exact h.rest t fun j jt hj ho => ht j jt hj (by rw [on_set hi, ho, Bool.true_or])
structure Inv (ops : Array Oper) (its : List It) (bl : List Bl) (a0 : Act) (w0 : World) (k0 : Nat) (X : List Nat) (μ0 : Nat → Nat) (L : Array Bool) (a : Act) (w : World) : Prop where
  size : L.size = its.length
  cl : ∀ (i : Nat) (o : Oper), ops[i]? = some o → on L i = true → ∀ e ∈ o.after, Region.binds .any e = true → on L e.on = true
  all : ∃ μ, (∀ (b : Nat) (e : Bl), bl[b]? = some e → e.al = none → μ b = μ0 b) ∧ Ac its bl a0 L μ a ∧ Wd w0 k0 X bl L μ w ∧ ∀ (b : Nat) (e : Bl), bl[b]? = some e → e.put L = true → e.live L = true
theorem wanted_none {o : Oper} (h : o.guard = none) (y : Nat → Option Bool) : Region.wanted o y = true := by unfold Region.wanted; rw [h]
theorem zip_all {p : Bl × Nat → Bool} (h : bl.zipIdx.all p = true) (b : Nat) (e : Bl) (hb : bl[b]? = some e) : p (e, b) = true :=
  List.all_eq_true.1 h (e, b) (by rw [List.mem_zipIdx_iff_getElem?]; exact hb)
theorem two {s t : Option Nat} {i c b : Nat} (h : (s != some i && (t == some i) == (c == b)) = true) : s ≠ some i ∧ (t = some i ↔ c = b) := by
  rw [Bool.and_eq_true] at h
  refine ⟨by simpa using h.1, ?_⟩
  have h2 : (t == some i) = (c == b) := by simpa using h.2
  constructor
  · intro ht
    rw [ht] at h2
    simpa using h2.symm
  · intro hc
    rw [hc] at h2
    simpa using h2
/-- One operation. -/
theorem step {i : Nat} {o : Oper} {it : It} {a : Act} (hd : dstB its = true) (ho : ops[i]? = some o) (hit : its[i]? = some it) (hok : okB its bl i o it = true) (hin : ∀ d, it.dst = some d → d < a0.tmps.size)
    (holds : ∀ (t : Tmp) (s : SV), (t, s) ∈ olds → a0.tmps[t]? = some (s.at μ0) ∧ ∀ b, s.blk = some b → ∃ e : Bl, bl[b]? = some e ∧ e.al = none)
    (hdops : ∀ (j : Nat) (oj : Oper) (jt : It), ops[j]? = some oj → its[j]? = some jt → oj.dst = jt.dst) (hops : ops.size = its.length) (hc : Cert P Q w0 k0 X ops i its bl olds o it) (hun : on L i = false) (hdep : ∀ e ∈ o.after, Region.binds .any e = true → on L e.on = true) (h : Inv ops its bl a0 w0 k0 X μ0 L a w) :
    wpOp P ops Q i (Inv ops its bl a0 w0 k0 X μ0 (L.setIfInBounds i true)) a w := by
  obtain ⟨hsz, hcl, μ, hμ, hA, hW, hO⟩ := h
  have hi : i < L.size := by rw [hsz]; exact (List.getElem?_eq_some_iff.1 hit).1
  simp only [okB, Bool.and_eq_true] at hok
  obtain ⟨⟨⟨⟨hdst, hg⟩, haft⟩, hneed⟩, hkind⟩ := hok
  have hdst' : o.dst = it.dst := by simpa using hdst
  have hdepB : ∀ j, depB o j = true → on L j = true := fun j hj => by
    obtain ⟨e, he, hb⟩ := Array.any_eq_true'.1 hj
    simp only [Bool.and_eq_true, beq_iff_eq] at hb
    rw [← hb.2]
    exact hdep e he hb.1
  have hwant : Region.wanted o (yielded ops a.tmps) = !it.kind.isPass := by
    unfold Region.wanted
    unfold guardB at hg
    cases hgd : o.guard with
    | none => rw [hgd] at hg; dsimp only at hg ⊢; rw [hg]
    | some jw =>
      obtain ⟨j, want⟩ := jw
      rw [hgd] at hg
      dsimp only at hg ⊢
      rw [Bool.and_eq_true] at hg
      cases hj : its[j]? with
      | none => rw [hj] at hg; cases hg.2
      | some jt =>
        rw [hj] at hg
        obtain ⟨h1, h2⟩ := hg
        dsimp only at h2
        rw [Bool.and_eq_true] at h2
        obtain ⟨d, hdj⟩ := Option.isSome_iff_exists.1 h2.1
        have hjl : j < its.length := (List.getElem?_eq_some_iff.1 hj).1
        have hoj : ops[j]? = some (ops[j]'(by rw [hops]; exact hjl)) := Array.getElem?_eq_getElem _
        have h3 := (hA.got j jt d hj (hdepB j h1) hdj).1
        have h4 : yielded ops a.tmps j = match jt.out.at μ with | .bool b => some b | _ => none := by
          unfold yielded
          rw [hoj]
          show (match (ops[j]'(by rw [hops]; exact hjl)).dst.bind (a.tmps[·]?) with | some (.bool b) => some b | _ => none) = _
          rw [hdops j _ jt hoj hj, hdj]
          show (match a.tmps[d]? with | some (.bool b) => some b | _ => none) = _
          rw [h3]
          cases jt.out.at μ <;> rfl
        rw [h4]
        have h5 := h2.2
        cases hout : jt.out with
        | p b x => rw [hout] at h5; cases h5
        | s b x y => rw [hout] at h5; cases h5
        | t b x y z => rw [hout] at h5; cases h5
        | v x =>
          rw [hout] at h5
          cases x with
          | bool b =>
            show (some b == some want) = _
            dsimp only at h5
            have : (b == want) = !it.kind.isPass := by simpa using h5
            rw [← this]
            cases b <;> cases want <;> rfl
          | _ => cases h5
  have hK : Known ops i its olds it.need μ a := by
    refine ⟨fun t j jt hm hj => ?_, fun t s hm hfree => ?_⟩
    · have h1 := List.all_eq_true.1 hneed (t, j) hm
      simp only [Bool.and_eq_true, hj] at h1
      have h2 : jt.dst = some t := by simpa using h1.2
      have h3 := (hA.got j jt t hj (hdepB j h1.1) h2).1
      show a.tmps.getD t undef = _
      rw [Array.getD_eq_getD_getElem?, h3]
      rfl
    · obtain ⟨h2, h3⟩ := holds t s hm
      have h4 := hA.rest t (fun j jt hj hon hdj => by
        have h5 := List.all_eq_true.1 hfree (jt, j) (by rw [List.mem_zipIdx_iff_getElem?]; exact hj)
        dsimp only at h5
        rw [hdj] at h5
        cases hoj : ops[j]? with
        | none => rw [hoj] at h5; simp at h5
        | some oj =>
          rw [hoj] at h5
          have h6 : depB oj i = true := by simpa using h5
          obtain ⟨e', he', hb'⟩ := Array.any_eq_true'.1 h6
          simp only [Bool.and_eq_true, beq_iff_eq] at hb'
          have := hcl j oj hoj hon e' he' hb'.1
          rw [hb'.2, hun] at this
          cases this)
      show a.tmps.getD t undef = _
      rw [Array.getD_eq_getD_getElem?, h4, h2]
      show s.at μ0 = s.at μ
      refine SV.at_congr fun b hb => ?_
      obtain ⟨e, he, hal⟩ := h3 b hb
      rw [hμ b e he hal]
  have hR : Reads ops i bl μ w := fun b e hb hal hst => by
    have := (hW.has b e hb (by
      unfold Bl.live
      rcases hal with hal | ⟨o', j, ho', hal, hd⟩
      · rw [hal]; rfl
      · rw [hal]
        show on L j = true
        rw [ho] at ho'
        obtain rfl := Option.some.inj ho'
        exact hdepB j hd)).1
    unfold Bl.now Bl.put at this
    unfold readB at hst
    cases hs : e.st with
    | none => rw [hs] at this; exact this
    | some s =>
      rw [hs] at this hst
      dsimp only at hst
      cases hos : ops[s]? with
      | none => rw [hos] at hst; cases hst
      | some os =>
        rw [hos] at hst
        have hns : on L s = false := by
          cases hon : on L s with
          | false => rfl
          | true =>
            obtain ⟨e', he', hb'⟩ := Array.any_eq_true'.1 hst
            simp only [Bool.and_eq_true, beq_iff_eq] at hb'
            have := hcl s os hos hon e' he' hb'.1
            rw [hb'.2, hun] at this
            cases this
        rw [show (Option.map (on L) (some s)).getD false = on L s from rfl, hns] at this
        exact this
  have hlive : ∀ b, liveB its bl o it b = true → ∃ e : Bl, bl[b]? = some e ∧ e.live L = true := fun b hb => by
    unfold liveB at hb
    rw [Bool.or_eq_true] at hb
    rcases hb with h2 | h2
    · cases he : bl[b]? with
      | none => rw [he] at h2; cases h2
      | some e =>
        rw [he] at h2
        dsimp only at h2
        refine ⟨e, rfl, ?_⟩
        unfold Bl.live
        cases hal : e.al with
        | none => rfl
        | some j => rw [hal] at h2; exact hdepB j h2
    · obtain ⟨x, hx, h3⟩ := List.any_eq_true.1 h2
      rw [Bool.and_eq_true] at h3
      cases hj : its[x.2]? with
      | none => rw [hj] at h3; cases h3.2
      | some jt =>
        rw [hj] at h3
        dsimp only at h3
        rw [Bool.and_eq_true] at h3
        obtain ⟨d, hd2⟩ := Option.isSome_iff_exists.1 h3.2.1
        exact (hA.got x.2 jt d hj (hdepB x.2 h3.1) hd2).2 b (by simpa using h3.2.2)
  have hcl' : ∀ (j : Nat) (oj : Oper), ops[j]? = some oj → on (L.setIfInBounds i true) j = true → ∀ e ∈ oj.after, Region.binds .any e = true → on (L.setIfInBounds i true) e.on = true := fun j oj hoj hon e he hb => by
    rw [on_set hi] at hon ⊢
    by_cases hij : i = j
    · subst hij
      rw [ho] at hoj
      obtain rfl : o = oj := Option.some.inj hoj
      rw [hdep e he hb, Bool.true_or]
    · rw [hcl j oj hoj (by simpa [hij] using hon) e he hb, Bool.true_or]
  have hsz' : (L.setIfInBounds i true).size = its.length := by rw [Array.size_setIfInBounds]; exact hsz
  have hC := hc μ a w (Inv ops its bl a0 w0 k0 X μ0 (L.setIfInBounds i true)) hK hR hW.bel
  unfold wpOp
  rw [ho]
  dsimp only
  rw [hwant]
  cases hk : it.kind with
  | pass =>
    rw [hk] at hC hkind
    simp only [kindB, Bool.and_eq_true] at hkind
    have hne : ∀ (b : Nat) (e : Bl), bl[b]? = some e → e.al ≠ some i ∧ e.st ≠ some i := fun b e hb => by simpa using List.all_eq_true.1 hkind.1 e (List.mem_of_getElem? hb)
    have hsame : ∀ (b : Nat) (e : Bl), bl[b]? = some e → e.live (L.setIfInBounds i true) = e.live L ∧ e.put (L.setIfInBounds i true) = e.put L := fun b e hb =>
      ⟨by rw [live_set hi, show (e.al == some i) = false by simpa using (hne b e hb).1, Bool.or_false], by rw [put_set hi, show (e.st == some i) = false by simpa using (hne b e hb).2, Bool.or_false]⟩
    show Inv ops its bl a0 w0 k0 X μ0 (L.setIfInBounds i true) (a.put o.dst undef) w
    refine ⟨hsz', hcl', μ, hμ, ?_, hW.same hsame, fun b e hb => by rw [(hsame b e hb).1, (hsame b e hb).2]; exact hO b e hb⟩
    rw [hdst']
    have hout : it.out = .v undef := hC
    refine hA.put hd hi hit (fun _ _ _ _ => rfl) hin (fun _ _ b hbx => ?_) _ (fun _ _ => by rw [hout]; rfl)
    rw [hout] at hbx
    cases hbx
  | stay =>
    rw [hk] at hC hkind
    simp only [kindB, Bool.and_eq_true] at hkind
    show o.wp P a w _ Q ∨ _
    left
    refine hC ?_
    have hne : ∀ (b : Nat) (e : Bl), bl[b]? = some e → e.al ≠ some i ∧ e.st ≠ some i := fun b e hb => by simpa using List.all_eq_true.1 hkind.1 e (List.mem_of_getElem? hb)
    have hsame : ∀ (b : Nat) (e : Bl), bl[b]? = some e → e.live (L.setIfInBounds i true) = e.live L ∧ e.put (L.setIfInBounds i true) = e.put L := fun b e hb =>
      ⟨by rw [live_set hi, show (e.al == some i) = false by simpa using (hne b e hb).1, Bool.or_false], by rw [put_set hi, show (e.st == some i) = false by simpa using (hne b e hb).2, Bool.or_false]⟩
    refine ⟨hsz', hcl', μ, hμ, ?_, hW.same hsame, fun b e hb => by rw [(hsame b e hb).1, (hsame b e hb).2]; exact hO b e hb⟩
    rw [hdst']
    refine hA.put hd hi hit (fun _ _ _ _ => rfl) hin (fun _ _ b hbx => ?_) _ (fun _ _ => rfl)
    have h2 := hkind.2
    rw [hbx] at h2
    obtain ⟨e, he, hl⟩ := hlive b h2
    exact ⟨e, he, live_mono hi hl⟩
  | call =>
    rw [hk] at hC hkind
    simp only [kindB, Bool.and_eq_true] at hkind
    show o.wp P a w _ Q ∨ _
    left
    refine hC fun w' hb' => ?_
    have hne : ∀ (b : Nat) (e : Bl), bl[b]? = some e → e.al ≠ some i ∧ e.st ≠ some i := fun b e hb => by simpa using List.all_eq_true.1 hkind.1 e (List.mem_of_getElem? hb)
    have hsame : ∀ (b : Nat) (e : Bl), bl[b]? = some e → e.live (L.setIfInBounds i true) = e.live L ∧ e.put (L.setIfInBounds i true) = e.put L := fun b e hb =>
      ⟨by rw [live_set hi, show (e.al == some i) = false by simpa using (hne b e hb).1, Bool.or_false], by rw [put_set hi, show (e.st == some i) = false by simpa using (hne b e hb).2, Bool.or_false]⟩
    refine ⟨hsz', hcl', μ, hμ, ?_, (hW.call hb').same hsame, fun b e hb => by rw [(hsame b e hb).1, (hsame b e hb).2]; exact hO b e hb⟩
    rw [hdst']
    refine hA.put hd hi hit (fun _ _ _ _ => rfl) hin (fun _ _ b hbx => ?_) _ (fun _ _ => rfl)
    have h2 := hkind.2
    rw [hbx] at h2
    obtain ⟨e, he, hl⟩ := hlive b h2
    exact ⟨e, he, live_mono hi hl⟩
  | make b =>
    rw [hk] at hC hkind
    simp only [kindB, Bool.and_eq_true] at hkind
    obtain ⟨⟨hout, hz⟩, hb0⟩ := hkind
    obtain ⟨e, hbe⟩ := Option.isSome_iff_exists.1 hb0
    have ha : e.al = some i := (two (zip_all hz b e hbe)).2.2 rfl
    have hstn : ∀ (c : Nat) (f : Bl), bl[c]? = some f → f.st ≠ some i := fun c f hc => (two (zip_all hz c f hc)).1
    have haln : ∀ (c : Nat) (f : Bl), bl[c]? = some f → c ≠ b → f.al ≠ some i := fun c f hc hcb h => hcb ((two (zip_all hz c f hc)).2.1 h)
    have hlv : e.live L = false := by unfold Bl.live; rw [ha]; exact hun
    have hpt : e.put L = false := by
      cases hp : e.put L with
      | false => rfl
      | true => have := hO b e hbe hp; rw [hlv] at this; cases this
    have hout' : it.out.blk = some b := by
      cases hoo : it.out.blk with
      | none => rw [hoo] at hout; cases hout
      | some c =>
        rw [hoo] at hout
        rw [show c = b by simpa using hout]
    show o.wp P a w _ Q ∨ _
    left
    refine hC e hbe fun k w' hm => ?_
    have hμb : ∀ (c : Nat) (f : Bl), bl[c]? = some f → f.live L = true → upd μ b k c = μ c := fun c f hc hl => by
      unfold upd
      rw [if_neg]
      rintro rfl
      rw [hbe] at hc
      obtain rfl : e = f := Option.some.inj hc
      rw [hlv] at hl
      cases hl
    refine ⟨hsz', hcl', upd μ b k, fun c f hc hal => ?_, ?_, hW.make hi hbe ha haln hstn hpt hm, fun c f hc => ?_⟩
    · rw [hμb c f hc (by unfold Bl.live; rw [hal]; rfl)]
      exact hμ c f hc hal
    · rw [hdst']
      refine hA.put hd hi hit hμb hin (fun _ _ c hcx => ?_) _ (fun _ _ => rfl)
      rw [hout'] at hcx
      have h1 : b = c := Option.some.inj hcx
      subst h1
      exact ⟨e, hbe, by rw [live_set hi, ha]; simp⟩
    · rw [put_set hi, show (f.st == some i) = false by simpa using hstn c f hc, Bool.or_false]
      exact fun hp => live_mono hi (hO c f hc hp)
  | put b =>
    rw [hk] at hC hkind
    simp only [kindB, Bool.and_eq_true] at hkind
    obtain ⟨⟨hdn, hz⟩, hb0⟩ := hkind
    cases hbe : bl[b]? with
    | none => rw [hbe] at hb0; cases hb0
    | some e =>
      rw [hbe] at hb0
      dsimp only at hb0
      have hs : e.st = some i := (two (zip_all hz b e hbe)).2.2 rfl
      have haln : ∀ (c : Nat) (f : Bl), bl[c]? = some f → f.al ≠ some i := fun c f hc => (two (zip_all hz c f hc)).1
      have hstn : ∀ (c : Nat) (f : Bl), bl[c]? = some f → c ≠ b → f.st ≠ some i := fun c f hc hcb h => hcb ((two (zip_all hz c f hc)).2.1 h)
      have hlv : e.live L = true := by
        unfold Bl.live
        cases hal : e.al with
        | none => rfl
        | some j =>
          have h2 := hb0
          rw [hal] at h2
          exact hdepB j h2
      show o.wp P a w _ Q ∨ _
      left
      have hpn : e.put L = false := by unfold Bl.put; rw [hs]; exact hun
      have hnow : e.now L = e.before := by unfold Bl.now; rw [hpn]; rfl
      refine hC e hbe (hW.has b e hbe hlv).2.1 (hnow ▸ (hW.has b e hbe hlv).1) fun w' hPT => ?_
      refine ⟨hsz', hcl', μ, hμ, ?_, hW.put hi hbe hs hlv hPT hstn haln, fun c f hc hp => ?_⟩
      · rw [hdst']
        refine hA.put hd hi hit (fun _ _ _ _ => rfl) hin (fun d hdd c hcx => ?_) _ (fun d hdd => rfl)
        cases hoo : it.out with
        | v x => rw [hoo] at hcx; cases hcx
        | p x y => rw [hoo] at hdn; cases hdn
        | s x y z => rw [hoo] at hdn; cases hdn
        | t x y z u => rw [hoo] at hdn; cases hdn
      · rw [live_set hi, show (f.al == some i) = false by simpa using haln c f hc, Bool.or_false]
        rw [put_set hi] at hp
        by_cases hcb : c = b
        · subst hcb
          rw [hbe] at hc
          obtain rfl : e = f := Option.some.inj hc
          exact hlv
        · rw [show (f.st == some i) = false by simpa using hstn c f hc hcb, Bool.or_false] at hp
          exact hO c f hc hp
end Go.Proofs.YtfkgfcggcfkkiaaDoor.RG
