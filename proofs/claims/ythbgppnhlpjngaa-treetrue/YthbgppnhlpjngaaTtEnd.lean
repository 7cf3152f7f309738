import Derived.OwnWalk
import Derived.ChangeOld
import Derived.Below
import Derived.WalkKit
import Derived.ProofKit
import Derived.OpenShut
import Derived.ShutString
import Derived.SliceStrings
import Derived.SizedLaws
import Derived.Test.YthbgppnhlpjngaaTt4
set_option linter.unusedVariables false
set_option linter.unusedSimpArgs false
namespace Go.Proofs.Ythbgppnhlpjngaa
open Go.RowKit Go.Sort Go.Deep
theorem pathR_len (S : Nat → Bs) : ∀ (N n a i : Nat), n ≤ N → (pathR S a n i).length ≤ n
  | 0, n, a, i, h => by rw [pathR_1 _ _ _ _ (by omega)]; exact Nat.zero_le _
  | N + 1, n, a, i, h => by
    by_cases hn : n ≤ 1
    · rw [pathR_1 _ _ _ _ hn]; exact Nat.zero_le _
    · have hf3 := hf_lt (n := n) (by omega)
      by_cases hk : hf n ≤ i
      · rw [pathR_hi _ _ _ _ (by omega) hk, List.length_cons]
        have := pathR_len S N (n - hf n) (a + hf n) (i - hf n) (by omega)
        omega
      · rw [pathR_lo _ _ _ _ (by omega) hk, List.length_cons]
        have := pathR_len S N (hf n) a i (by omega)
        omega
theorem growR_len (S : Nat → Bs) : ∀ (N n a m : Nat) (kn : Bool), n ≤ N → 1 ≤ m → m ≤ n → (growR S a n m kn).length ≤ n
  | 0, n, a, m, kn, h, h1, h2 => by omega
  | N + 1, n, a, m, kn, h, h1, h2 => by
    by_cases he : n ≤ m
    · cases kn with
      | true => rw [growR_y _ _ _ _ he]; exact Nat.zero_le _
      | false => rw [growR_n _ _ _ _ he]; show 1 ≤ n; omega
    · have hf3 := hf_lt (n := n) (by omega)
      by_cases hk : hf n < m
      · rw [growR_hi _ _ _ _ _ (by omega) he hk, List.length_cons]
        have := growR_len S N (n - hf n) (a + hf n) (m - hf n) false (by omega) (by omega) (by omega)
        omega
      · rw [growR_lo _ _ _ _ _ (by omega) he hk, List.length_cons]
        have := growR_len S N (hf n) a m kn (by omega) h1 (by omega)
        omega
set_option maxHeartbeats 1000000 in
theorem path_1 (q : Option Addr) (c : Nat) (i : Int) (w : World) : Calls Try.prog 21 #[.slice q 1 c, .int .i64 i] w (Ret (NewL w [])) := by
  go_enter Try.func21, Try.ntmps21
  go_wp2
  go_ret
  exact ⟨_, rfl, Below.refl _ _, Or.inl ⟨rfl, rfl⟩⟩
theorem path_c (S : Nat → Bs) : ∀ (N n a : Nat) (q : Option Addr) (c i : Nat) (w : World), n ≤ N → n ≤ 1048576 → n ≤ c → 1 ≤ n → i < n → Lists w q n (fun j => S (a + j)) → Calls Try.prog 21 #[.slice q n c, .int .i64 (i : Int)] w (Ret (NewL w (pathR S a n i).reverse)) := by
  intro N
  induction N with
  | zero => intro n a q c i w h0 _ _ h1; omega
  | succ N ih =>
    intro n a q c i w hN hn hc h1 hi hL
    by_cases he : n = 1
    · subst he
      rw [pathR_1 _ _ _ _ (Nat.le_refl _)]
      exact path_1 q c i w
    · obtain ⟨gg, oo, rfl, hgg, hcell⟩ := hL (by omega)
      have hf3 := hf_lt (n := n) (by omega)
      have HH := Hid.mk2 (halves_c gg oo n c (by omega) hn hc w)
      by_cases hk : hf n ≤ i
      · rw [pathR_hi _ _ _ _ (by omega) hk, List.reverse_cons]
        have hlen := pathR_len S n (n - hf n) (a + hf n) (i - hf n) (by omega)
        exact path_hi i (i - hf n) gg oo n c (hf n) _ _ (rootR_size _ _ _) (by rw [List.length_reverse]; omega) he hk (by omega) rfl w HH
          (fun w' hb => ih (n - hf n) (a + hf n) _ (c - hf n) (i - hf n) w' (by omega) (by omega) (by omega) (by omega) (by omega) ((hL.part (by omega)).below hb))
          (fun w' hb => root_c S n (hf n) a _ c w' (by omega) (by omega) (by omega) ((hL.less (by omega)).below hb))
      · rw [pathR_lo _ _ _ _ (by omega) hk, List.reverse_cons]
        have hlen := pathR_len S n (hf n) a i (by omega)
        exact path_lo i gg oo n c (hf n) _ _ (rootR_size _ _ _) (by rw [List.length_reverse]; omega) he hk w HH
          (fun w' hb => ih (hf n) a _ c i w' (by omega) (by omega) (by omega) (by omega) (by omega) ((hL.less (by omega)).below hb))
          (fun w' hb => root_c S n (n - hf n) (a + hf n) _ (c - hf n) w' (by omega) (by omega) (by omega) ((hL.part (by omega)).below hb))
set_option maxHeartbeats 1000000 in
theorem growth_y (q : Option Addr) (n c : Nat) (m : Int) (hm : ¬ m < (n : Int)) (w : World) : Calls Try.prog 22 #[.slice q n c, .int .i64 m, .bool true] w (Ret (NewL w [])) := by
  go_enter Try.func22, Try.ntmps22
  go_wp2
  go_ret
  exact ⟨_, rfl, Below.refl _ _, Or.inl ⟨rfl, rfl⟩⟩
set_option maxHeartbeats 1000000 in
theorem growth_n (q : Option Addr) (n c : Nat) (m : Int) (hm : ¬ m < (n : Int)) (T : Bs) (hT : T.size = 32) (w : World) (hR : Calls Try.prog 19 #[.slice q n c] w (Ret (NewH w T))) : Calls Try.prog 22 #[.slice q n c, .int .i64 m, .bool false] w (Ret (NewL w [T])) := by
  go_enter Try.func22, Try.ntmps22
  go_wp2_with fail
  refine hR.mono ?_
  rintro e w2 ⟨v2, rfl, hb2, r, rfl, hr, hH⟩
  have K : Hid (Below w.heap.size w (w2.alloc (.cells #[.slice (some ⟨r, 0, none⟩) 32 32] 26)) ∧ HL (w2.alloc (.cells #[.slice (some ⟨r, 0, none⟩) 32 32] 26)) w.heap.size (.slice (some ⟨w2.heap.size, 0, none⟩) 1 1) [T]) := ⟨hb2.trans (((Below.refl _ _).alloc (Nat.le_refl _) _).mono hb2.size), HL.one hb2.size hr hT hH⟩
  clear hr hb2 hH hR
  go_wp2
  go_ret
  exact ⟨_, rfl, K.out.1, K.out.2⟩
set_option maxHeartbeats 1000000 in
theorem growth_h (q : Option Addr) (n c : Nat) (m : Int) (kn : Bool) (hm : m < (n : Int)) (L : List Bs) (w : World) (hR : Calls Try.prog 37 #[.slice q n c, .int .i64 m, .bool kn] w (Ret (NewL w L))) : Calls Try.prog 22 #[.slice q n c, .int .i64 m, .bool kn] w (Ret (NewL w L)) := by
  go_enter Try.func22, Try.ntmps22
  go_wp2_with fail
  refine hR.mono ?_
  rintro e w2 ⟨v2, rfl, hb2⟩
  have K : Hid (NewL w L v2 w2) := hb2
  clear hb2 hR
  go_wp2
  go_ret
  exact ⟨_, rfl, K.out⟩
theorem growth_c (S : Nat → Bs) : ∀ (N n a : Nat) (q : Option Addr) (c m : Nat) (kn : Bool) (w : World), n ≤ N → n ≤ 1048576 → n ≤ c → 1 ≤ m → m ≤ n → Lists w q n (fun j => S (a + j)) → Calls Try.prog 22 #[.slice q n c, .int .i64 (m : Int), .bool kn] w (Ret (NewL w (growR S a n m kn).reverse)) := by
  intro N
  induction N with
  | zero => intro n a q c m kn w h0 _ _ h1; omega
  | succ N ih =>
    intro n a q c m kn w hN hn hc h1 hm hL
    by_cases he : n ≤ m
    · cases kn with
      | true =>
        rw [growR_y _ _ _ _ he]
        exact growth_y q n c m (by omega) w
      | false =>
        rw [growR_n _ _ _ _ he]
        exact growth_n q n c m (by omega) _ (rootR_size _ _ _) w (root_c S n n a q c w (Nat.le_refl _) hn hc hL)
    · obtain ⟨gg, oo, rfl, hgg, hcell⟩ := hL (by omega)
      have hf3 := hf_lt (n := n) (by omega)
      have HH := Hid.mk2 (halves_c gg oo n c (by omega) hn hc w)
      refine growth_h _ n c m kn (by omega) _ w ?_
      by_cases hk : hf n < m
      · rw [growR_hi _ _ _ _ _ (by omega) he hk, List.reverse_cons]
        have hlen := growR_len S n (n - hf n) (a + hf n) (m - hf n) false (by omega) (by omega) (by omega)
        exact goh_hi m (m - hf n) kn gg oo n c (hf n) _ _ (rootR_size _ _ _) (by rw [List.length_reverse]; omega) hk (by omega) rfl w HH
          (fun w' hb => ih (n - hf n) (a + hf n) _ (c - hf n) (m - hf n) false w' (by omega) (by omega) (by omega) (by omega) (by omega) ((hL.part (by omega)).below hb))
          (fun w' hb => root_c S n (hf n) a _ c w' (by omega) (by omega) (by omega) ((hL.less (by omega)).below hb))
      · rw [growR_lo _ _ _ _ _ (by omega) he hk, List.reverse_cons]
        have hlen := growR_len S n (hf n) a m kn (by omega) h1 (by omega)
        exact goh_lo m kn gg oo n c (hf n) _ _ (rootR_size _ _ _) (by rw [List.length_reverse]; omega) hk w HH
          (fun w' hb => ih (hf n) a _ c m kn w' (by omega) (by omega) (by omega) h1 (by omega) ((hL.less (by omega)).below hb))
          (fun w' hb => root_c S n (n - hf n) (a + hf n) _ (c - hf n) w' (by omega) (by omega) (by omega) ((hL.part (by omega)).below hb))
/-- Root, Path, Growth of at most 1024 leaves. -/
theorem Root_c (S : Nat → Bs) (n : Nat) (q : Option Addr) (c : Nat) (w : World) (hn : n ≤ 1024) (hc : n ≤ c) (hL : Lists w q n S) : Calls Try.prog 8 #[.slice q n c] w (Ret fun e w' => ∃ v, e = .tuple #[v, .int .i64 0] ∧ NewH w (rootR S 0 n) v w') := by
  have hR := root_c S n n 0 q c w (Nat.le_refl _) (by omega) hc (by simpa using hL)
  have g : ¬ (1024 : Int) < (n : Int) := by omega
  clear hL
  go_enter Try.func8, Try.ntmps8
  go_wp2_with fail
  refine hR.mono ?_
  rintro e w2 ⟨v2, rfl, hb2⟩
  have K : Hid (NewH w (rootR S 0 n) v2 w2) := hb2
  clear hb2 hR
  go_wp2
  go_ret2
  exact ⟨_, rfl, _, rfl, K.out⟩
theorem Path_c (S : Nat → Bs) (n i : Nat) (q : Option Addr) (c : Nat) (w : World) (hn : n ≤ 1024) (hc : n ≤ c) (h1 : 1 ≤ n) (hi : i < n) (hL : Lists w q n S) : Calls Try.prog 9 #[.slice q n c, .int .i64 (i : Int)] w (Ret fun e w' => ∃ v, e = .tuple #[v, .int .i64 0] ∧ NewL w (pathR S 0 n i).reverse v w') := by
  have hR := path_c S n n 0 q c i w (Nat.le_refl _) (by omega) hc h1 hi (by simpa using hL)
  have g : ¬ (1024 : Int) < (n : Int) := by omega
  have hw := within_c (i : Int) 0 ((n : Int) - 1) w
  rw [decide_eq_true ⟨by omega, by omega⟩] at hw
  clear hL
  go_enter Try.func9, Try.ntmps9
  go_wp2_with fail
  refine hw.mono ?_
  rintro e w' ⟨rfl, rfl⟩
  go_wp2_with fail
  refine hR.mono ?_
  rintro e w2 ⟨v2, rfl, hb2⟩
  have K : Hid (NewL w' (pathR S 0 n i).reverse v2 w2) := hb2
  clear hb2 hR hw
  go_wp2
  go_ret2
  exact ⟨_, rfl, _, rfl, K.out⟩
theorem Growth_c (S : Nat → Bs) (n m : Nat) (q : Option Addr) (c : Nat) (w : World) (hn : n ≤ 1024) (hc : n ≤ c) (h1 : 1 ≤ m) (hm : m ≤ n) (hL : Lists w q n S) : Calls Try.prog 10 #[.slice q n c, .int .i64 (m : Int)] w (Ret fun e w' => ∃ v, e = .tuple #[v, .int .i64 0] ∧ NewL w (growR S 0 n m true).reverse v w') := by
  have hR := growth_c S n n 0 q c m true w (Nat.le_refl _) (by omega) hc h1 hm (by simpa using hL)
  have g : ¬ (1024 : Int) < (n : Int) := by omega
  have hw := within_c (m : Int) 1 (n : Int) w
  rw [decide_eq_true ⟨by omega, by omega⟩] at hw
  clear hL
  go_enter Try.func10, Try.ntmps10
  go_wp2_with fail
  refine hw.mono ?_
  rintro e w' ⟨rfl, rfl⟩
  go_wp2_with fail
  refine hR.mono ?_
  rintro e w2 ⟨v2, rfl, hb2⟩
  have K : Hid (NewL w' (growR S 0 n m true).reverse v2 w2) := hb2
  clear hb2 hR hw
  go_wp2
  go_ret2
  exact ⟨_, rfl, _, rfl, K.out⟩
theorem revL_of (L : List Bs) : revL (fun j => L.reverse[j]!) L.length = L := by
  induction L with
  | nil => rfl
  | cons T L ih =>
    rw [List.length_cons, revL]
    have h1 : (T :: L).reverse[L.length]! = T := by
      rw [List.reverse_cons]
      have := nth_last L.reverse T
      rwa [List.length_reverse] at this
    have h2 : ∀ k, k ≤ L.length → revL (fun j => (T :: L).reverse[j]!) k = revL (fun j => L.reverse[j]!) k := fun k => by
      induction k with
      | zero => intro _; rfl
      | succ k ihk =>
        intro hk
        rw [revL, revL, ihk (by omega)]
        congr 1
        show (T :: L).reverse[k]! = L.reverse[k]!
        rw [List.reverse_cons, nth_front _ _ _ (by rw [List.length_reverse]; omega)]
    rw [h2 _ (Nat.le_refl _), ih]
    exact congrArg (· :: L) h1
theorem HL.lists {W : World} {B : Nat} {v : Value} {L : List Bs} (h : HL W B v L) : ∃ q c, v = .slice q L.length c ∧ L.length ≤ c ∧ Lists W q L.length (fun j => L[j]!) := by
  rcases h with ⟨rfl, rfl⟩ | ⟨g, cap, vs, cur, rfl, h2, h3, h4, h5, h6⟩
  · exact ⟨none, 0, rfl, Nat.le_refl _, fun h => by simp at h⟩
  · refine ⟨_, cap, rfl, by rw [← h2]; exact h5.fits, fun _ => ⟨g, 0, rfl, h5.lt, fun j hj => ?_⟩⟩
    obtain ⟨gx, e1, e2, e3, e4⟩ := h6 j hj
    have hh := h5.cell0 (j := j) (by omega)
    rw [e1] at hh
    refine ⟨_, by rw [Nat.zero_add]; exact hh, ⟨_, _, _, rfl⟩, part_h e3 e4⟩
end Go.Proofs.Ythbgppnhlpjngaa
namespace Go.Proofs.Ythbgppnhlpjngaa
open Go.RowKit Go.Sort Go.Deep
set_option maxHeartbeats 1000000 in
theorem rsized_c (q : Option Addr) (m c : Nat) (S : Nat → ByteArray) (w : World) (hm : m ≤ 1048576) (hL : Texts w q m S) : Calls Try.prog 30 #[.slice q m c] w fun e w' => e = .returned (.bool (decide (∀ j, j < m → (S j).data.size = 32))) ∧ w' = w := by
  have HL : Hid (Texts w q m S) := hL
  clear hL
  go_enter Try.func30, Try.ntmps30
  go_wp2
  go_loopg [3] m (fun g s3 W => ∃ i : Nat, i + g = m ∧ s3 = .int .i64 (i : Int) ∧ W = w ∧ Hid (∀ j, j < i → (S j).data.size = 32))
  case atStart => exact ⟨0, by omega, rfl, rfl, fun j hj => by omega⟩
  case round =>
    obtain ⟨i, him, rfl, rfl, HA⟩ := hrel
    by_cases hi : i < m
    · have hi' : (i : Int) < (m : Int) := by omega
      obtain ⟨gg, oo, rfl, hgg, hc⟩ := HL.out (by omega)
      have hv := hc i hi
      have hix : ∀ w : World, (Instr.indexAt 22 (.slice (some ⟨gg, oo, none⟩) m c) (.int .i64 (i : Int))).run Try.prog w = .ok (.pointer (some ⟨gg, oo + i, none⟩)) w := fun w => by
        have h1 : ¬ (i : Int) < 0 := by omega
        have h2 : (i : Int) < (m : Int) := by omega
        go_simp
      clear hc hgg
      obtain ⟨s, hs⟩ : ∃ s, Hid (S i = s) := ⟨_, rfl⟩
      rw [hs.out] at hv
      by_cases h32 : s.size = 32
      · have g1 : (s.size : Int) = 32 := by omega
        go_wp2
        go_roundg (gk - 1)
        case measure => omega
        case rel => exact ⟨i + 1, by omega, rfl, rfl, fun j hj => by
          by_cases e : j = i
          · rw [e, hs.out]; exact h32
          · exact HA.out j (by omega)⟩
      · have g1 : ¬ (s.size : Int) = 32 := by omega
        have g0 : ((s.size : Int) == 32) = false := by simpa using g1
        have HF : Hid (decide (∀ j, j < m → (S j).data.size = 32) = false) := decide_eq_false fun h => h32 (by rw [← hs.out]; exact h i hi)
        go_wp2
        go_ret
        exact ⟨congrArg Ending.returned (congrArg Value.bool HF.out.symm), rfl⟩
    · have hi' : ¬ (i : Int) < (m : Int) := by omega
      obtain rfl : i = m := by omega
      have HF : Hid (decide (∀ j, j < i → (S j).data.size = 32) = true) := decide_eq_true HA.out
      go_wp2
      go_ret
      exact ⟨congrArg Ending.returned (congrArg Value.bool HF.out.symm), rfl⟩
end Go.Proofs.Ythbgppnhlpjngaa
namespace Go.Proofs.Ythbgppnhlpjngaa
open Go.RowKit Go.Sort Go.Deep
def sumS (S : Nat → ByteArray) : Nat → Nat
  | 0 => 0
  | m + 1 => sumS S m + (S m).size
theorem sumS_le {S : Nat → ByteArray} {B : Nat} : ∀ m, (∀ j, j < m → (S j).size ≤ B) → sumS S m ≤ m * B
  | 0, _ => Nat.zero_le _
  | m + 1, h => by
    have := sumS_le m (fun j hj => h j (by omega))
    have h2 := h m (by omega)
    rw [sumS, Nat.add_mul]
    omega
theorem sumS_at {S : Nat → ByteArray} : ∀ m j, j < m → (S j).size ≤ sumS S m
  | m + 1, j, h => by
    rw [sumS]
    by_cases e : j = m
    · rw [e]; omega
    · have := sumS_at (S := S) m j (by omega)
      omega
set_option maxHeartbeats 1000000 in
theorem small_y (q : Option Addr) (m c : Nat) (S : Nat → ByteArray) (w : World) (hm : m ≤ 1100) (hS : ∀ j, j < m → (S j).size ≤ 140737488355328) (hL : Texts w q m S) : Calls Try.prog 6 #[.slice q m c] w fun e w' => e = .returned (.bool (decide (sumS S m ≤ 65536))) ∧ w' = w := by
  have HL : Hid (Texts w q m S ∧ ∀ j, j < m → (S j).size ≤ 140737488355328) := ⟨hL, hS⟩
  clear hL hS
  go_enter Try.func6, Try.ntmps6
  go_wp2
  go_loopg [3, 4] m (fun g s3 s4 W => ∃ i z : Nat, i + g = m ∧ s3 = .int .i64 (z : Int) ∧ s4 = .int .i64 (i : Int) ∧ W = w ∧ Hid (z = sumS S i) ∧ z ≤ i * 140737488355328)
  case atStart => exact ⟨0, 0, by omega, rfl, rfl, rfl, rfl, by omega⟩
  case round =>
    obtain ⟨i, z, him, rfl, rfl, rfl, HZ, hz⟩ := hrel
    have hz2 : z ≤ 154811237190860800 := by omega
    by_cases hi : i < m
    · have hi' : (i : Int) < (m : Int) := by omega
      obtain ⟨gg, oo, rfl, hgg, hc⟩ := HL.out.1 (by omega)
      have hv := hc i hi
      have hix : ∀ w : World, (Instr.indexAt 22 (.slice (some ⟨gg, oo, none⟩) m c) (.int .i64 (i : Int))).run Try.prog w = .ok (.pointer (some ⟨gg, oo + i, none⟩)) w := fun w => by
        have h1 : ¬ (i : Int) < 0 := by omega
        have h2 : (i : Int) < (m : Int) := by omega
        go_simp
      have hsz := HL.out.2 i hi
      obtain ⟨s, hs⟩ : ∃ s, Hid (S i = s) := ⟨_, rfl⟩
      rw [hs.out] at hv hsz
      obtain ⟨z2, hz3⟩ : ∃ z2, Hid (z + s.size = z2) := ⟨_, rfl⟩
      have hz4 := hz3.out
      have f1 : wrap64 ((z : Int) + (s.size : Int)) = (z2 : Int) := by unfold wrap64; omega
      have HK : Hid (z2 = sumS S (i + 1) ∧ z2 ≤ (i + 1) * 140737488355328) := ⟨by rw [sumS, ← HZ.out, hs.out]; omega, by omega⟩
      clear hc hgg hz4 hz hz2
      go_wp2
      go_roundg (gk - 1)
      case measure => omega
      case rel => exact ⟨i + 1, z2, by omega, by rw [f1], rfl, rfl, HK.out.1, HK.out.2⟩
    · have hi' : ¬ (i : Int) < (m : Int) := by omega
      obtain rfl : i = m := by omega
      have a2 : (i : Int) ≤ 1100 := by omega
      by_cases h : z ≤ 65536
      · have a1 : (z : Int) ≤ 65536 := by omega
        have HF : Hid (decide (sumS S i ≤ 65536) = true) := decide_eq_true (by rw [← HZ.out]; exact h)
        go_wp2
        go_ret
        exact ⟨congrArg Ending.returned (congrArg Value.bool HF.out.symm), rfl⟩
      · have a1 : ¬ (z : Int) ≤ 65536 := by omega
        have HF : Hid (decide (sumS S i ≤ 65536) = false) := decide_eq_false (by rw [← HZ.out]; exact h)
        go_wp2
        go_ret
        exact ⟨congrArg Ending.returned (congrArg Value.bool HF.out.symm), rfl⟩
set_option maxHeartbeats 1000000 in
theorem small_n (q : Option Addr) (m c : Nat) (S : Nat → ByteArray) (w : World) (hm : ¬ m ≤ 1100) (hm2 : m ≤ 140737488355328) (hL : Texts w q m S) : Calls Try.prog 6 #[.slice q m c] w fun e w' => e = .returned (.bool false) ∧ w' = w := by
  have HL : Hid (Texts w q m S) := hL
  clear hL
  go_enter Try.func6, Try.ntmps6
  go_wp2
  go_loopg [3, 4] m (fun g s3 s4 W => ∃ (i : Nat) (z : Int), i + g = m ∧ s3 = .int .i64 z ∧ s4 = .int .i64 (i : Int) ∧ W = w)
  case atStart => exact ⟨0, 0, by omega, rfl, rfl, rfl⟩
  case round =>
    obtain ⟨i, z, him, rfl, rfl, rfl⟩ := hrel
    by_cases hi : i < m
    · have hi' : (i : Int) < (m : Int) := by omega
      obtain ⟨gg, oo, rfl, hgg, hc⟩ := HL.out (by omega)
      have hv := hc i hi
      have hix : ∀ w : World, (Instr.indexAt 22 (.slice (some ⟨gg, oo, none⟩) m c) (.int .i64 (i : Int))).run Try.prog w = .ok (.pointer (some ⟨gg, oo + i, none⟩)) w := fun w => by
        have h1 : ¬ (i : Int) < 0 := by omega
        have h2 : (i : Int) < (m : Int) := by omega
        go_simp
      generalize S i = s at hv
      clear hc hgg
      go_wp2
      go_roundg (gk - 1)
      case measure => omega
      case rel => exact ⟨i + 1, _, by omega, rfl, rfl, rfl⟩
    · have hi' : ¬ (i : Int) < (m : Int) := by omega
      obtain rfl : i = m := by omega
      have a2 : ¬ (i : Int) ≤ 1100 := by omega
      by_cases h : z ≤ 65536
      · go_wp2
        go_ret
        exact ⟨rfl, rfl⟩
      · go_wp2
        go_ret
        exact ⟨rfl, rfl⟩
set_option maxHeartbeats 1000000 in
theorem lists8_c (q : Option Addr) (m c : Nat) (S : Nat → ByteArray) (w : World) (hm : m ≤ 1100) (hL : Texts w q m S) : Calls Try.prog 7 #[.slice q m c] w (Ret fun e w' => Below w.heap.size w w' ∧ AL w' w.heap.size m e S) := by
  have HL : Hid (Texts w q m S) := hL
  clear hL
  go_enter Try.func7, Try.ntmps7
  go_wp2
  go_loopg [3, 4] m (fun g s3 s4 W => ∃ (i : Nat) (v : Value), i + g = m ∧ v = s3 ∧ s4 = .int .i64 (i : Int) ∧ Below w.heap.size w W ∧ Hid (AL W w.heap.size i v S))
  case atStart => exact ⟨0, _, by omega, rfl, rfl, Below.refl _ _, Or.inl ⟨rfl, rfl⟩⟩
  case round =>
    obtain ⟨i, v, him, rfl, rfl, hb, HA⟩ := hrel
    by_cases hi : i < m
    · have hi' : (i : Int) < (m : Int) := by omega
      obtain ⟨gg, oo, rfl, hgg, hc⟩ := HL.out (by omega)
      have hv : wr.cell? ⟨gg, oo + i, none⟩ = some (.string (S i)) := by rw [hb.cell (p := ⟨gg, oo + i, none⟩) hgg]; exact hc i hi
      have hix : ∀ w : World, (Instr.indexAt 22 (.slice (some ⟨gg, oo, none⟩) m c) (.int .i64 (i : Int))).run Try.prog w = .ok (.pointer (some ⟨gg, oo + i, none⟩)) w := fun w => by
        have h1 : ¬ (i : Int) < 0 := by omega
        have h2 : (i : Int) < (m : Int) := by omega
        go_simp
      obtain ⟨cap, W1, hcv, hcap, hb1, hH1, hlt1⟩ := conv_of (S i) wr
      obtain ⟨v', w3, hap, hL3, hb3⟩ := AL.push HA.out hb.size (by omega) hb1 hlt1 hcap hH1 rfl
      have HL3 : Hid _ := hL3
      clear hc hgg hL3 hb1 hH1 hlt1 hcap
      generalize S i = s at hv hcv hap
      go_wp2_with (at_builtin; refine Lib.wpList_append_run _ rfl _ _ 24 24 rfl _ _ rfl rfl _ _ hap ?_)
      go_roundg (gk - 1)
      case measure => omega
      case rel => exact ⟨i + 1, _, by omega, rfl, rfl, hb.trans hb3, HL3.out⟩
    · have hi' : ¬ (i : Int) < (m : Int) := by omega
      obtain rfl : i = m := by omega
      go_wp2
      go_ret
      exact ⟨_, rfl, hb, HA.out⟩
theorem AL.lists {W : World} {B k : Nat} {v : Value} {S : Nat → ByteArray} (h : AL W B k v S) (hS : ∀ j, j < k → (S j).size ≤ 65536) : ∃ q c, v = .slice q k c ∧ k ≤ c ∧ Lists W q k (fun j => (S j).data) := by
  rcases h with ⟨rfl, rfl⟩ | ⟨g, cap, vs, cur, rfl, h2, h3, h4, h5, h6⟩
  · exact ⟨none, 0, rfl, Nat.le_refl _, fun h => by omega⟩
  · refine ⟨_, cap, rfl, by rw [← h2]; exact h5.fits, fun _ => ⟨g, 0, rfl, h5.lt, fun j hj => ?_⟩⟩
    obtain ⟨gx, c, e1, e2, e3, e4, e5⟩ := h6 j hj
    have hh := h5.holds j (by rw [h5.size]; have := h5.fits; omega)
    rw [h5.front j (by omega), e1] at hh
    exact ⟨_, hh.1, ⟨_, _, _, rfl⟩, _, gx, 0, c, (S j).data, rfl, rfl, e2, Nat.le_trans (hS j hj) (by decide), Or.inr ⟨rfl, e5⟩⟩
end Go.Proofs.Ythbgppnhlpjngaa
namespace Go.Proofs.Ythbgppnhlpjngaa
open Go.RowKit Go.Sort Go.Deep
theorem part_of8 {w : World} {k cap : Nat} {s : ByteArray} (hs : s.size ≤ 65536) (hc : s.size ≤ cap) (hH : Holds encB w k 0 s.data) : SP.PartOk w (.slice (some ⟨k, 0, none⟩) s.size cap) s.data.toList :=
  ⟨_, k, 0, cap, s.data, rfl, rfl, hc, Nat.le_trans hs (by decide), Or.inr ⟨rfl, hH⟩⟩
theorem liesT_congr (root leaf : Bs) (n i : Int) {S S' : Nat → Bs} {m : Nat} (h : ∀ j, j < m → S j = S' j) : liesT root leaf n i S m = liesT root leaf n i S' m := by
  have hr : ∀ k, k ≤ m → revL S k = revL S' k := fun k => by
    induction k with
    | zero => intro _; rfl
    | succ k ih => intro hk; rw [revL, revL, h k (by omega), ih (by omega)]
  have ha : (∀ j, j < m → (S j).size = 32) ↔ (∀ j, j < m → (S' j).size = 32) := ⟨fun g j hj => by rw [← h j hj]; exact g j hj, fun g j hj => by rw [h j hj]; exact g j hj⟩
  unfold liesT
  rw [hr m (Nat.le_refl _)]
  simp only [ha]
end Go.Proofs.Ythbgppnhlpjngaa
namespace Go.Proofs.Ythbgppnhlpjngaa
open Go.RowKit Go.Sort Go.Deep
def firstS : ByteArray := ⟨#[102, 105, 114, 115, 116]⟩
def consS (S : Nat → ByteArray) : Nat → ByteArray
  | 0 => firstS
  | j + 1 => S j
theorem add_lit0 (g o j : Nat) : (⟨g, o, none⟩ : Addr).add j = ⟨g, o + j, none⟩ := by
  unfold Addr.add
  by_cases h0 : j = 0
  · subst h0; rw [if_pos rfl]; rfl
  · rw [if_neg h0]
theorem app_first (q : Option Addr) (m c : Nat) (S : Nat → ByteArray) (w : World) (hm : m ≤ 1100) (hL : Texts w q m S) :
    ∃ q' cap' w', (Builtin.append_ #[22, 22] 22 #[.slice (some ⟨w.heap.size, 0, none⟩) 1 1, .slice q m c]).run Try.prog (w.alloc (.cells #[.string firstS] 9)) = .ok (.slice q' (m + 1) cap') w' ∧ Below w.heap.size w w' ∧ m + 1 ≤ cap' ∧ Texts w' q' (m + 1) (consS S) := by
  obtain ⟨i, hi, hz, hsz, hby⟩ := info_parts info9
  have hb0 : Below w.heap.size w (w.alloc (.cells #[.string firstS] 9)) := (Below.refl _ _).alloc (Nat.le_refl _) _
  by_cases h0 : m = 0
  · subst h0
    have hs : Src Try.prog i.size 22 (.slice q 0 c) 0 [] (w.alloc (.cells #[.string firstS] 9)) := by
      cases q with
      | none => exact Src.ofNil (e' := 9) _ slice45 c
      | some a => exact Src.ofSlice (e' := 9) _ slice45 a 0 c [] (by simp) (fun j u hj => by simp at hj) (fun u hu => by cases hu)
    have hap := run_append_room_src (P := Try.prog) (w.alloc (.cells #[.string firstS] 9)) 22 22 22 9 i slice45 hi w.heap.size 0 1 1 (.slice q 0 c) 0 [] hs (Nat.le_refl _) (fun j hj => by cases hj) (fun j hj => by cases hj)
    refine ⟨_, _, _, hap, hb0, Nat.le_refl _, fun _ => ⟨w.heap.size, 0, rfl, by show _ < (w.alloc _).heap.size; rw [World.size_alloc]; omega, fun j hj => ?_⟩⟩
    obtain rfl : j = 0 := by omega
    show (w.alloc _).cell? _ = _
    simp [consS]
  · obtain ⟨gg, oo, rfl, hgg, hc⟩ := hL (by omega)
    have hlen : ((List.range m).map fun j => Value.string (S j)).length = m := by simp
    have hs : Src Try.prog i.size 22 (.slice (some ⟨gg, oo, none⟩) m c) m ((List.range m).map fun j => Value.string (S j)) (w.alloc (.cells #[.string firstS] 9)) := by
      refine Src.ofSlice (e' := 9) _ slice45 ⟨gg, oo, none⟩ m c _ (by rw [hlen, hsz, Nat.mul_one]) (fun j u hj => ?_) (fun u hu => ?_)
      · have hjm : j < m := by
          have := (List.getElem?_eq_some_iff.1 hj).1
          omega
        have hu : u = .string (S j) := by
          rw [List.getElem?_map, List.getElem?_range hjm] at hj
          simpa using hj.symm
        rw [hu, add_lit0, hb0.cell (p := ⟨gg, oo + j, none⟩) hgg]
        exact hc j hjm
      · obtain ⟨j, -, rfl⟩ := List.mem_map.1 hu
        rfl
    have hold : (Builtin.firstCells i.size 1 (.slice (some ⟨w.heap.size, 0, none⟩) 1 1)).run Try.prog (w.alloc (.cells #[.string firstS] 9)).drew = .ok [Value.string firstS].toArray (w.alloc (.cells #[.string firstS] 9)).drew := by
      rw [hsz]
      refine run_firstCells_some _ 1 1 ⟨w.heap.size, 0, none⟩ 1 1 [Value.string firstS] rfl (fun j u hj => ?_)
      have hj0 : j = 0 := by
        have := (List.getElem?_eq_some_iff.1 hj).1
        simpa using this
      subst hj0
      have hu : u = .string firstS := by simpa using hj.symm
      rw [hu]
      simp [Addr.add]
    have hnc : Builtin.nextslicecap (1 + m) 1 ≤ 2 * (1 + m) + 768 := by
      unfold Builtin.nextslicecap
      split
      · omega
      · split
        · omega
        · simp only [Builtin.growBy]
          repeat' split
          all_goals omega
    have hap := run_append_grow_src (P := Try.prog) (w.alloc (.cells #[.string firstS] 9)) 22 22 22 9 i _ slice45 hi hz (some ⟨w.heap.size, 0, none⟩) 1 1 [.string firstS] hold _ m _ hs (by omega) (by omega) (by rw [hby]; omega)
    generalize hG : grownCap (w.alloc (.cells #[.string firstS] 9)) (1 + m) 1 9 = G at hap
    have hGl : 1 + m ≤ G := by
      rw [← hG]
      unfold grownCap Question.cut
      exact Nat.le_add_right _ _
    rw [Nat.add_comm 1 m] at hap hGl
    refine ⟨_, _, _, hap, ?_, hGl, fun _ => ⟨_, 0, rfl, ?_, fun j hj => ?_⟩⟩
    · exact (hb0.drew).alloc hb0.size _
    · simp
    · have hin : ([Value.string firstS] ++ (List.range m).map fun j => Value.string (S j))[j]? = some (.string (consS S j)) := by
        cases j with
        | zero => rfl
        | succ j =>
          show ((List.range m).map fun j => Value.string (S j))[j]? = _
          rw [List.getElem?_map, List.getElem?_range (by omega)]
          rfl
      have hjl : j < ([Value.string firstS] ++ (List.range m).map fun j => Value.string (S j)).toArray.size := by
        rw [List.size_toArray, List.length_append, hlen]
        show j < 1 + m
        omega
      rw [Nat.zero_add]
      have hnew := Holds.new (enc := encV) (w.alloc (.cells #[.string firstS] 9)).drew 9 (([Value.string firstS] ++ (List.range m).map fun j => Value.string (S j)).toArray ++ Builtin.zeroCells (Value.string ⟨#[]⟩).cells (G - (m + 1))) j (by rw [Array.size_append]; omega)
      have e0 : ∀ a : Array Value, a.map encV = a := fun a => by
        have : encV = id := rfl
        rw [this, Array.map_id]
      rw [e0, Nat.zero_add] at hnew
      refine hnew.1.trans ?_
      rw [getElem!_pos _ j (by rw [Array.size_append]; omega), Array.getElem_append_left hjl]
      have h3 := (List.getElem?_eq_some_iff.1 hin).2
      rw [List.getElem_toArray]
      exact congrArg some h3
end Go.Proofs.Ythbgppnhlpjngaa
namespace Go.Proofs.Ythbgppnhlpjngaa
open Go.RowKit Go.Sort Go.Deep
theorem consS_le {S : Nat → ByteArray} (h : ∀ j, (S j).size ≤ 65536) : ∀ j, (consS S j).size ≤ 65536
  | 0 => by show (5 : Nat) ≤ _; decide
  | j + 1 => h j
theorem Texts.less {w : World} {q : Option Addr} {n m : Nat} {S : Nat → ByteArray} (h : Texts w q n S) (hm : m ≤ n) : Texts w q m S := fun hn => by
  obtain ⟨gg, oo, h1, h2, h3⟩ := h (by omega)
  exact ⟨gg, oo, h1, h2, fun j hj => h3 j (by omega)⟩
/-- The law, behind its numbers: n leaves, leaf I, beginning M. -/
structure Lawful (S : Nat → Bs) (n I M : Nat) : Prop where
  n1 : 1 ≤ n
  n2 : n ≤ 1024
  i : I < n
  m1 : 1 ≤ M
  m2 : M ≤ n
theorem lies_true {S : Nat → Bs} {n I M : Nat} (h : Lawful S n I M) : liesT (rootR S 0 n) (S I) (n : Int) (I : Int) (fun j => (pathR S 0 n I).reverse[j]!) (pathR S 0 n I).length = true := by
  have h1 := h.n1; have h2 := h.n2; have h3 := h.i
  have ha : ∀ j, j < (pathR S 0 n I).length → ((pathR S 0 n I).reverse[j]!).size = 32 := fun j hj => by
    rw [getElem!_pos _ j (by rw [List.length_reverse]; exact hj)]
    exact pathR_32 S n n 0 I (Nat.le_refl _) _ (List.mem_reverse.1 (List.getElem_mem _))
  have hl := lead_path S n n 0 I (Nat.le_refl _) h1 h3
  rw [Nat.zero_add] at hl
  unfold liesT
  rw [if_pos ⟨⟨by omega, by omega⟩, ⟨by omega, by omega⟩, ha⟩, revL_of, Int.toNat_natCast, Int.toNat_natCast, hl]
  simp
theorem grew_true {S : Nat → Bs} {n I M : Nat} (h : Lawful S n I M) : grewT (rootR S 0 M) (rootR S 0 n) (M : Int) (n : Int) (fun j => (growR S 0 n M true).reverse[j]!) (growR S 0 n M true).length = true := by
  have h1 := h.n1; have h2 := h.n2; have h3 := h.m1; have h4 := h.m2
  have ha : ∀ j, j < (growR S 0 n M true).length → ((growR S 0 n M true).reverse[j]!).size = 32 := fun j hj => by
    rw [getElem!_pos _ j (by rw [List.length_reverse]; exact hj)]
    exact growR_32 S n n 0 M true (Nat.le_refl _) _ (List.mem_reverse.1 (List.getElem_mem _))
  unfold grewT
  rw [if_pos ⟨⟨by omega, by omega⟩, ⟨by omega, by omega⟩, ha⟩, revL_of, Int.toNat_natCast, Int.toNat_natCast, grw_grow S (rootR S 0 M) n n 0 M true (Nat.le_refl _) h3 h4 (fun _ => rfl)]
  simp
set_option maxRecDepth 100000 in
set_option maxHeartbeats 4000000 in
theorem trueL_core (q : Option Addr) (m c : Nat) (S : Nat → ByteArray) (i0 m0 : Int) (n I M : Nat) (w0 : World) (h2 : m ≤ 1024) (hsm : Calls Try.prog 6 #[.slice q m c] w0 fun e w' => e = .returned (.bool true) ∧ w' = w0)
    (hi0 : -9223372036854775808 ≤ i0 ∧ i0 ≤ 9223372036854775807) (hm0 : -9223372036854775808 ≤ m0 ∧ m0 ≤ 9223372036854775807)
    (HN : (¬ (1024 : Int) < (m : Int) + 1 ∧ m + 1 = n) ∨ ((1024 : Int) < (m : Int) + 1 ∧ 1024 = n)) (HI : (¬ i0 < 0 ∧ i0 % (n : Int) = (I : Int)) ∨ (i0 < 0 ∧ -((i0 + 1).tmod (n : Int)) = (I : Int))) (HM : (¬ m0 < 0 ∧ m0 % (n : Int) + 1 = (M : Int)) ∨ (m0 < 0 ∧ -((m0 + 1).tmod (n : Int)) + 1 = (M : Int)))
    (LW : Lawful (fun j => (consS S j).data) n I M) (hS6 : ∀ j, (S j).size ≤ 65536) (hL : Texts w0 q m S) :
    Calls Try.prog 5 #[.slice q m c, .int .i64 i0, .int .i64 m0] w0 fun e w' => e = .returned (.bool true) ∧ Below w0.heap.size w0 w' := by
  have a1 : ¬ (1024 : Int) < (m : Int) := by omega
  obtain ⟨q', cap', w1, hap, hb1, hcap, hT1⟩ := app_first q m c S w0 (by omega) hL
  have HB : Hid (Below w0.heap.size w0 w1 ∧ n ≤ cap' ∧ Texts w1 q' n (consS S) ∧ ∀ j, (consS S j).size ≤ 65536) := ⟨hb1, by omega, hT1.less (by omega), consS_le hS6⟩
  have LH := Hid.mk2 LW
  have hMr : (M : Int) ≤ 1024 := by have := LW.m2; have := LW.n2; omega
  have hMw : wrap64 (M : Int) = (M : Int) := by unfold wrap64; omega
  have hMc : (M : Int) ≤ (cap' : Int) := by have := LW.m2; have := HB.out.2.1; omega
  clear hL hS6 hb1 hT1 LW
  have hq : ∃ gg oo, q' = some ⟨gg, oo, none⟩ := by
    obtain ⟨gg, oo, h, -⟩ := HB.out.2.2.1 LH.out.n1
    exact ⟨gg, oo, h⟩
  obtain ⟨gg, oo, rfl⟩ := hq
  go_enter Try.func5, Try.ntmps5
  go_wp2_with fail
  refine hsm.mono ?_
  rintro e w' ⟨rfl, rfl⟩
  clear hsm
  rcases HN with ⟨hN, rfl⟩ | ⟨hN, rfl⟩
  all_goals rcases HI with ⟨hI0, hI⟩ | ⟨hI0, hI⟩
  all_goals rcases HM with ⟨hM0, hM⟩ | ⟨hM0, hM⟩
  all_goals (try rw [Int.natCast_add] at hI hM)
  all_goals (try simp only [Int.cast_ofNat_Int] at hI hM)
  all_goals go_wp2_with (at_builtin; refine Lib.wpList_append_run _ rfl _ _ 22 22 rfl _ _ rfl rfl _ _ hap ?_)
  all_goals (try rw [hI])
  all_goals (try rw [hM])
  all_goals (try rw [hMw])
  all_goals clear hI hM hI0 hM0 hN hi0 hm0 a1 hap hcap
  all_goals refine (lists8_c _ _ cap' (consS S) w1 (by omega) HB.out.2.2.1).mono ?_
  all_goals rintro e w2 ⟨v2, rfl, hb2, hA2⟩
  all_goals obtain ⟨q2, c2, rfl, hc2, hL2⟩ := hA2.lists (fun j _ => HB.out.2.2.2 j)
  all_goals have K2 := Hid.mk2 (And.intro (HB.out.1.trans (hb2.mono HB.out.1.size)) (HB.out.2.2.1.below hb2))
  all_goals have R2 := Hid.mk2 (Root_c (fun j => (consS S j).data) _ q2 c2 w2 LH.out.n2 hc2 hL2)
  all_goals clear hb2 hA2 hc2 hL2
  all_goals go_wp2_with fail
  all_goals refine R2.out.mono ?_
  all_goals rintro e w3 ⟨v3, rfl, v3, rfl, hb3, r3, rfl, -, hH3⟩
  all_goals have K3 := Hid.mk2 (And.intro (K2.out.1.trans (hb3.mono K2.out.1.size)) (And.intro (K2.out.2.below hb3) hH3))
  all_goals clear hb3 hH3 K2 R2
  all_goals go_wp2_with fail
  all_goals refine (lists8_c _ _ cap' (consS S) w3 (by omega) (K3.out.2.1.less LH.out.m2)).mono ?_
  all_goals rintro e w4 ⟨v4, rfl, hb4, hA4⟩
  all_goals obtain ⟨q4, c4, rfl, hc4, hL4⟩ := hA4.lists (fun j _ => HB.out.2.2.2 j)
  all_goals have K4 := Hid.mk2 (And.intro (K3.out.1.trans (hb4.mono K3.out.1.size)) (And.intro (K3.out.2.1.below hb4) (Holds.below K3.out.2.2 hb4 (Holds.lt K3.out.2.2 (by rw [rootR_size]; decide)))))
  all_goals have R4 := Hid.mk2 (Root_c (fun j => (consS S j).data) M q4 c4 w4 (Nat.le_trans LH.out.m2 LH.out.n2) hc4 hL4)
  all_goals clear hb4 hA4 hc4 hL4 K3
  all_goals go_wp2_with fail
  all_goals refine R4.out.mono ?_
  all_goals rintro e w5 ⟨v5, rfl, v5, rfl, hb5, r5, rfl, -, hH5⟩
  all_goals have K5 := Hid.mk2 (And.intro (K4.out.1.trans (hb5.mono K4.out.1.size)) (And.intro (K4.out.2.1.below hb5) (And.intro (Holds.below K4.out.2.2 hb5 (Holds.lt K4.out.2.2 (by rw [rootR_size]; decide))) hH5)))
  all_goals clear hb5 hH5 K4 R4
  all_goals go_wp2_with fail
  all_goals refine (lists8_c _ _ cap' (consS S) w5 (by omega) K5.out.2.1).mono ?_
  all_goals rintro e w6 ⟨v6, rfl, hb6, hA6⟩
  all_goals obtain ⟨q6, c6, rfl, hc6, hL6⟩ := hA6.lists (fun j _ => HB.out.2.2.2 j)
  all_goals have K6 := Hid.mk2 (And.intro (K5.out.1.trans (hb6.mono K5.out.1.size)) (And.intro (K5.out.2.1.below hb6) (And.intro (Holds.below K5.out.2.2.1 hb6 (Holds.lt K5.out.2.2.1 (by rw [rootR_size]; decide))) (Holds.below K5.out.2.2.2 hb6 (Holds.lt K5.out.2.2.2 (by rw [rootR_size]; decide))))))
  all_goals have R6 := Hid.mk2 (Path_c (fun j => (consS S j).data) _ I q6 c6 w6 LH.out.n2 hc6 LH.out.n1 LH.out.i hL6)
  all_goals clear hb6 hA6 hc6 hL6 K5
  all_goals go_wp2_with fail
  all_goals refine R6.out.mono ?_
  all_goals rintro e w7 ⟨v7, rfl, v7, rfl, hb7, hP7⟩
  all_goals have K7 := Hid.mk2 (And.intro (K6.out.1.trans (hb7.mono K6.out.1.size)) (And.intro (K6.out.2.1.below hb7) (And.intro (Holds.below K6.out.2.2.1 hb7 (Holds.lt K6.out.2.2.1 (by rw [rootR_size]; decide))) (And.intro (Holds.below K6.out.2.2.2 hb7 (Holds.lt K6.out.2.2.2 (by rw [rootR_size]; decide))) hP7))))
  all_goals clear hb7 hP7 K6 R6
  all_goals go_wp2_with fail
  all_goals refine (lists8_c _ _ cap' (consS S) w7 (by omega) K7.out.2.1).mono ?_
  all_goals rintro e w8 ⟨v8, rfl, hb8, hA8⟩
  all_goals obtain ⟨q8, c8, rfl, hc8, hL8⟩ := hA8.lists (fun j _ => HB.out.2.2.2 j)
  all_goals have K8 := Hid.mk2 (And.intro (K7.out.1.trans (hb8.mono K7.out.1.size)) (And.intro (K7.out.2.1.below hb8) (And.intro (Holds.below K7.out.2.2.1 hb8 (Holds.lt K7.out.2.2.1 (by rw [rootR_size]; decide))) (And.intro (Holds.below K7.out.2.2.2.1 hb8 (Holds.lt K7.out.2.2.2.1 (by rw [rootR_size]; decide))) (K7.out.2.2.2.2.below hb8)))))
  all_goals have R8 := Hid.mk2 (Growth_c (fun j => (consS S j).data) _ M q8 c8 w8 LH.out.n2 hc8 LH.out.m1 LH.out.m2 hL8)
  all_goals clear hb8 hA8 hc8 hL8 K7
  all_goals go_wp2_with fail
  all_goals refine R8.out.mono ?_
  all_goals rintro e w9 ⟨v9, rfl, v9, rfl, hb9, hP9⟩
  all_goals have K9 := Hid.mk2 (And.intro (K8.out.1.trans (hb9.mono K8.out.1.size)) (And.intro (K8.out.2.1.below hb9) (And.intro (Holds.below K8.out.2.2.1 hb9 (Holds.lt K8.out.2.2.1 (by rw [rootR_size]; decide))) (And.intro (Holds.below K8.out.2.2.2.1 hb9 (Holds.lt K8.out.2.2.2.1 (by rw [rootR_size]; decide))) (And.intro (K8.out.2.2.2.2.below hb9) hP9)))))
  all_goals clear hb9 hP9 K8 R8
  all_goals obtain ⟨q10, c10, rfl, hc10, hL10⟩ := K9.out.2.2.2.2.1.lists
  all_goals obtain ⟨q11, c11, rfl, hc11, hL11⟩ := K9.out.2.2.2.2.2.lists
  all_goals rw [List.length_reverse] at hc10 hL10 hc11 hL11
  all_goals obtain ⟨gg', oo', hqq, hgl, hcl⟩ := K9.out.2.1 LH.out.n1
  all_goals cases hqq
  all_goals have hcI := hcl I LH.out.i
  all_goals obtain ⟨cap5, W5, hcv, hcap5, hb10, hH10, hlt10⟩ := conv_of (consS S I) w9
  all_goals have KA := Hid.mk2 (And.intro (K9.out.1.trans (hb10.mono K9.out.1.size)) (And.intro (part_h (rootR_size _ _ _) (Holds.below K9.out.2.2.1 hb10 (Holds.lt K9.out.2.2.1 (by rw [rootR_size]; decide)))) (And.intro (part_h (rootR_size _ _ _) (Holds.below K9.out.2.2.2.1 hb10 (Holds.lt K9.out.2.2.2.1 (by rw [rootR_size]; decide)))) (And.intro (hL10.below hb10) (And.intro (hL11.below hb10) (And.intro hc10 (And.intro hc11 (part_of8 (HB.out.2.2.2 I) hcap5 hH10))))))))
  all_goals have HIn := LH.out.i
  all_goals have hIn : (I : Int) < _ := Int.ofNat_lt.2 HIn
  all_goals have hI0 : ¬ (I : Int) < 0 := by omega
  all_goals clear hb10 hH10 hlt10 hcap5 hL10 hL11 hc10 hc11 hgl hcl K9
  all_goals (try rw [Int.natCast_add] at hIn)
  all_goals (try simp only [Int.cast_ofNat_Int] at hIn)
  all_goals have LT := Hid.mk2 (And.intro (lies_true LH.out) (And.intro (grew_true LH.out) (And.intro (Nat.le_trans (pathR_len (fun j => (consS S j).data) _ _ 0 I (Nat.le_refl _)) LH.out.n2) (Nat.le_trans (growR_len (fun j => (consS S j).data) _ _ 0 M true (Nat.le_refl _) LH.out.m1 LH.out.m2) LH.out.n2))))
  all_goals clear LH HB
  all_goals generalize hsI : consS S I = sI at hcI hcv KA LT
  all_goals go_wp2_with fail
  all_goals refine (Lies_c _ _ q10 _ _ _ _ _ c10 _ _ _ (I : Int) _ W5 (Nat.le_trans LT.out.2.2.1 (by decide)) KA.out.2.2.2.2.2.1 KA.out.2.1 KA.out.2.2.2.2.2.2.2 KA.out.2.2.2.1).mono ?_
  all_goals rintro e wa ⟨va, rfl, hba, hva⟩
  all_goals obtain rfl : va = .bool true := hva.trans (congrArg Value.bool LT.out.1)
  all_goals have KB := Hid.mk2 (And.intro (KA.out.1.trans (hba.mono KA.out.1.size)) (And.intro (KA.out.2.1.below hba) (And.intro (KA.out.2.2.1.below hba) (And.intro (KA.out.2.2.2.2.1.below hba) KA.out.2.2.2.2.2.2.1))))
  all_goals clear hba hva KA
  all_goals go_wp2_with fail
  all_goals refine (Grown_c _ _ q11 _ _ _ _ _ c11 _ _ (M : Int) _ _ wa (Nat.le_trans LT.out.2.2.2 (by decide)) KB.out.2.2.2.2 KB.out.2.2.1 KB.out.2.1 KB.out.2.2.2.1).mono ?_
  all_goals rintro e wb ⟨vb, rfl, hbb, hvb⟩
  all_goals obtain rfl : vb = .bool true := hvb.trans (congrArg Value.bool LT.out.2.1)
  all_goals have KC := Hid.mk2 (KB.out.1.trans (hbb.mono KB.out.1.size))
  all_goals clear hbb hvb KB LT
  all_goals go_wp2
  all_goals go_ret
  all_goals exact ⟨rfl, KC.out⟩
theorem negmod {x : Int} {n : Nat} (hx : x < 0) : -((x + 1).tmod (n : Int)) = (-(x + 1)) % (n : Int) := by
  rw [← Int.neg_tmod, Int.tmod_eq_emod_of_nonneg (by omega)]
set_option maxHeartbeats 4000000 in
theorem trueL_any (q : Option Addr) (m c : Nat) (S0 : Nat → ByteArray) (i0 m0 : Int) (hi0 : -9223372036854775808 ≤ i0 ∧ i0 ≤ 9223372036854775807) (hm0 : -9223372036854775808 ≤ m0 ∧ m0 ≤ 9223372036854775807) (w0 : World) (hm2 : m ≤ 140737488355328) (hS0 : ∀ j, j < m → (S0 j).size ≤ 140737488355328) (hL0 : Texts w0 q m S0) :
    Calls Try.prog 5 #[.slice q m c, .int .i64 i0, .int .i64 m0] w0 fun e w' => e = .returned (.bool true) ∧ Below w0.heap.size w0 w' := by
  by_cases hm : m ≤ 1100
  · obtain ⟨S, hS⟩ : ∃ S : Nat → ByteArray, S = fun j => if j < m then S0 j else ByteArray.empty := ⟨_, rfl⟩
    have hSe : ∀ j, j < m → S j = S0 j := fun j hj => by rw [hS]; exact if_pos hj
    have hSn : ∀ j, ¬ j < m → S j = ByteArray.empty := fun j hj => by rw [hS]; exact if_neg hj
    have hL : Texts w0 q m S := fun hn => by
      obtain ⟨gg, oo, h1, h2, h3⟩ := hL0 hn
      exact ⟨gg, oo, h1, h2, fun j hj => by rw [hSe j hj]; exact h3 j hj⟩
    have hSz : ∀ j, j < m → (S j).size ≤ 140737488355328 := fun j hj => by rw [hSe j hj]; exact hS0 j hj
    clear hS0 hL0 hSe hS
    have hsm := small_y q m c S w0 hm hSz hL
    by_cases h1 : sumS S m ≤ 65536
    · rw [decide_eq_true h1] at hsm
      have hS6 : ∀ j, (S j).size ≤ 65536 := fun j => by
        by_cases hj : j < m
        · exact Nat.le_trans (sumS_at m j hj) h1
        · rw [hSn j hj]; exact Nat.zero_le _
      by_cases h2 : m ≤ 1024
      · obtain ⟨n, hn1, hn2, HN⟩ : ∃ n : Nat, 1 ≤ n ∧ n ≤ 1024 ∧ ((¬ (1024 : Int) < (m : Int) + 1 ∧ m + 1 = n) ∨ ((1024 : Int) < (m : Int) + 1 ∧ 1024 = n)) := by
          by_cases h : m + 1 ≤ 1024
          · exact ⟨m + 1, by omega, h, Or.inl ⟨by omega, rfl⟩⟩
          · exact ⟨1024, by decide, by decide, Or.inr ⟨by omega, rfl⟩⟩
        have hmod : ∀ x : Int, ∃ I : Nat, I < n ∧ ((¬ x < 0 ∧ x % (n : Int) = (I : Int)) ∨ (x < 0 ∧ -((x + 1).tmod (n : Int)) = (I : Int))) := fun x => by
          have hnz : (n : Int) ≠ 0 := by omega
          by_cases hx : x < 0
          · have h1 := Int.emod_nonneg (-(x + 1)) hnz
            have h2 := Int.emod_lt_of_pos (-(x + 1)) (show (0 : Int) < n by omega)
            exact ⟨((-(x + 1)) % (n : Int)).toNat, by omega, Or.inr ⟨hx, by rw [negmod hx]; omega⟩⟩
          · have h1 := Int.emod_nonneg x hnz
            have h2 := Int.emod_lt_of_pos x (show (0 : Int) < n by omega)
            exact ⟨(x % (n : Int)).toNat, by omega, Or.inl ⟨hx, by omega⟩⟩
        obtain ⟨I, hI, HI⟩ := hmod i0
        obtain ⟨M, hM, HM⟩ := hmod m0
        exact trueL_core q m c S i0 m0 n I (M + 1) w0 h2 hsm hi0 hm0 HN HI (HM.imp (fun h => ⟨h.1, by rw [h.2]; rfl⟩) (fun h => ⟨h.1, by rw [h.2]; rfl⟩)) ⟨hn1, hn2, hI, by omega, by omega⟩ hS6 hL
      · have a1 : (1024 : Int) < (m : Int) := by omega
        clear hL hSz hSn hS6 h1
        go_enter Try.func5, Try.ntmps5
        go_wp2_with fail
        refine hsm.mono ?_
        rintro e w' ⟨rfl, rfl⟩
        go_wp2
        go_ret
        exact ⟨rfl, Below.refl _ _⟩
    · rw [decide_eq_false h1] at hsm
      clear hL hSz hSn h1
      go_enter Try.func5, Try.ntmps5
      go_wp2_with fail
      refine hsm.mono ?_
      rintro e w' ⟨rfl, rfl⟩
      go_wp2
      go_ret
      exact ⟨rfl, Below.refl _ _⟩
  · have hsm := small_n q m c S0 w0 hm hm2 hL0
    clear hL0 hS0
    go_enter Try.func5, Try.ntmps5
    go_wp2_with fail
    refine hsm.mono ?_
    rintro e w' ⟨rfl, rfl⟩
    go_wp2
    go_ret
    exact ⟨rfl, Below.refl _ _⟩
end Go.Proofs.Ythbgppnhlpjngaa
/-
  THE ROW OF 'TreeTrue' round its walk: a slice of texts, two numbers.
-/
namespace Go.Proofs.Ythbgppnhlpjngaa.treeTrue
open Go.ChangeShapes Go.WideShapes Go.ChangeAt Go.RowKit
open Go.ChangeMaps (open_string shut_string)
theorem own : ownKnob Try.prog.godebug = none := by kernel_rfl
theorem laidOut : laidOutB Try.prog = true := by kernel_rfl
theorem cells9 : Try.prog.cellsOf 9 = 1 := by kernel_rfl
theorem bytes9 : Try.prog.bytesOf 9 = 16 := by kernel_rfl
theorem strs_weigh {H : Type} {P : Program} {e : TypeId} {x : ByteArray} : ∀ {ss : List ByteArray}, x ∈ ss → x.size ∈ DataW.weightsAll (H := H) P e (strs ss)
  | s :: r, h => by
    show x.size ∈ DataW.weights P e (.lit (.string s.data.toList)) ++ DataW.weightsAll P e (strs r)
    rw [List.mem_append]
    rcases List.mem_cons.1 h with rfl | h
    · left
      simp [DataW.weights]
    · exact Or.inr (strs_weigh h)
theorem sized_strs {H : Type} {P : Program} {ts : List TypeId} {ds : List (DataW H)} (h : (DataW.weightsEach P ts ds).all (· ≤ reachBytes) = true) {j : Nat} {t e : TypeId} {a b : List ByteArray} (ht : ts[j]? = some t) (hd : ds[j]? = some (.slice (strs a) (strs b))) (hu : P.underlying t = some (.slice e))
    (x : ByteArray) (hx : x ∈ a) : x.size ≤ reachBytes := by
  have := List.all_eq_true.1 h _ (DataW.weights_mem_each ht hd x.size (by
    simp only [DataW.weights, hu]
    exact List.mem_cons_of_mem _ (List.mem_append_left _ (strs_weigh hx))))
  simpa using this
theorem sized_str {H : Type} {P : Program} {ts : List TypeId} {ds : List (DataW H)} (h : (DataW.weightsEach P ts ds).all (· ≤ reachBytes) = true) {j : Nat} {t : TypeId} {s : ByteArray} (ht : ts[j]? = some t) (hd : ds[j]? = some (.lit (.string s.data.toList))) : s.size ≤ reachBytes := by
  have := List.all_eq_true.1 h _ (DataW.weights_mem_each ht hd s.size (by simp [DataW.weights]))
  simpa using this
theorem range64 {n : Int} (h : (Lit.int .i64 n).wf = true) : -9223372036854775808 ≤ n ∧ n ≤ 9223372036854775807 := by
  simp only [Lit.wf, Bool.and_eq_true, decide_eq_true_eq] at h
  exact h
set_option maxRecDepth 100000 in
theorem lifted (os : Os) (started : os.Started) (H : Type) (enc : TypeId × Value → H) :
    ReturnsInHanded {} Try.checked os 5 .any (Rows.treeTrueSpec.pre6 enc Try.prog Try.f5 Rows.treeTrueRow.domain false) (Rows.treeTrueSpec.post enc Try.prog Try.f5 false true false false) := by
  refine returnsInHanded_of_change_sized (C := Try.checked) own started (by kernel_rfl) Try.func5
    (ChangeSpec.witness6 (enc := enc) (C := Try.checked) false ⟨#[], #[.slice none 0 0, .int .i64 0, .int .i64 0], []⟩ 8 (by kernel_rfl) (by kernel_rfl) (by kernel_rfl) (by kernel_rfl)) ?_
  intro W base args ds gs before hval0 hW _ hsz0 _
  have hsz : (DataW.weightsEach Try.prog (Try.f5.params.toList ++ Rows.treeTrueSpec.plain.varTypes Try.prog) (ds ++ gs)).all (· ≤ reachBytes) = true := hsz0
  clear hsz0
  have hval : ∀ (j : Nat) t v, Try.f5.params[j]? = some t → args[j]? = some v → Value.okWide Try.prog W .any base t v := hval0
  have hW' := hW
  obtain ⟨p, q, hA0, hV, rfl, hfz, hnd⟩ := hW
  have hA : DataW.TrodAll enc Try.prog W 0 (fun _ => true) true Try.f5.params.toList args.toList ds p := hA0
  rw [Try.params5] at hA hval hsz
  obtain ⟨v0, vs0, d0, ds0, p0, q0, hargs, rfl, rfl, h0, r0⟩ := trodAll_cons hA
  obtain ⟨v1, vs1, d1, ds1, p1, q1, rfl, rfl, rfl, h1, r1⟩ := trodAll_cons r0
  obtain ⟨v2, vs2, d2, ds2, p2, q2, rfl, rfl, rfl, h2, r2⟩ := trodAll_cons r1
  obtain ⟨rfl, rfl, rfl⟩ := trodAll_nil r2
  obtain rfl : args = #[v0, v1, v2] := by cases args; simp_all
  obtain ⟨rfl, rfl⟩ := trodVars_none hV
  obtain ⟨a1, rfl, rfl, rfl, w1⟩ := open_int Try.underlying3 (hval 1 3 v1 rfl rfl) h1
  obtain ⟨a2, rfl, rfl, rfl, w2⟩ := open_int Try.underlying3 (hval 2 3 v2 rfl rfl) h2
  obtain ⟨a3, len3, cap3, rfl⟩ := okWide_slice Try.underlying22 (hval 0 22 v0 rfl rfl)
  have k3 := h0
  have lt3 : ∀ x ∈ p0, x.block < W.heap.size := by obtain ⟨m, hm⟩ := k3; exact DataW.trod_lt m _ _ _ hm
  have hx3 : ∃ S : Nat → ByteArray, Texts W a3 len3 S ∧ (∀ j, j < len3 → (S j).size ≤ 140737488355328) ∧ len3 ≤ 140737488355328 ∧ len3 ≤ cap3 := by
    obtain ⟨fuel, hf⟩ := h0
    rcases open_strings Try.underlying22 Try.underlying9 cells9 hf with ⟨hcs, hx⟩ | ⟨a, l, c, ss, hcs, _, hl, hm, hz, hx, hcell, hws⟩
    · simp [Value.cells] at hcs
      obtain ⟨rfl, rfl, rfl⟩ := hcs
      exact ⟨fun _ => ByteArray.empty, fun h => absurd h (by omega), fun j hj => absurd hj (by omega), by omega, by omega⟩
    · simp [Value.cells] at hcs
      obtain ⟨rfl, rfl, rfl⟩ := hcs
      simp only [Prod.mk.injEq] at hx
      obtain ⟨rfl, rfl⟩ := hx
      simp only [if_true] at hz
      have hn : (ss.take len3).length = len3 := by rw [List.length_take]; omega
      have hat : ∀ j, j < len3 → (ss.take len3)[j]! = ss.getD j ByteArray.empty := fun j hj => by
        rw [getElem!_pos (ss.take len3) j (by omega), List.getElem_take, List.getD_eq_getElem?_getD, List.getElem?_eq_getElem (by omega)]
        rfl
      have hreach : len3 * 16 ≤ 140737488355328 := by
        have := sized_slice hsz (j := 0) (t := 22) (e := 9) rfl rfl Try.underlying22
        rw [bytes9] at this
        simp only [strs, List.length_map, List.length_take, List.length_drop, reachBytes] at this
        omega
      have hs : ∀ j, j < len3 → ((ss.take len3)[j]!).size ≤ 140737488355328 := fun j hj => by
        have := sized_strs hsz (j := 0) (t := 22) (e := 9) (a := ss.take len3) (b := ss.drop len3) rfl rfl Try.underlying22 (ss.take len3)[j]! (by rw [getElem!_pos (ss.take len3) j (by omega)]; exact List.getElem_mem _)
        unfold reachBytes at this
        omega
      refine ⟨fun j => (ss.take len3)[j]!, fun h00 => ?_, hs, by omega, by omega⟩
      obtain ⟨b, off, spot⟩ := a
      have hspot : spot = none := by simpa [Addr.add] using World.cell?_spot (hcell 0 (by omega))
      subst hspot
      have hP : ∀ j, j < len3 → W.cell? ⟨b, off + j, none⟩ = some (.string (ss.take len3)[j]!) := fun j hj => by
        rw [hat j hj, ← hcell j (by omega)]
        congr 1
        unfold Addr.add
        by_cases hj0 : j = 0
        · subst hj0; rfl
        · rw [if_neg hj0]
      exact ⟨b, off, rfl, World.block_lt_of_cell? _ _ (hP 0 h00), hP⟩
  obtain ⟨S, hS, hSs, hSl, hSc⟩ := hx3
  refine (trueL_any a3 len3 cap3 S a1 a2 (range64 w1) (range64 w2) W hSl hSs hS).mono fun e W' ⟨he, bel⟩ => ?_
  subst he
  exact ⟨_, rfl, _, _, _, [], _, [], hW', trodAll_mk1 (shut_bool Try.underlying4 _), (trodAll_cons_mk (Below.trod laidOut (by kernel_rfl) (of_decide_eq_true (by kernel_rfl)) k3 bel lt3) (trodAll_cons_mk (shut_int Try.underlying3 w1) (trodAll_cons_mk (shut_int Try.underlying3 w2) trodAll_mk0))), rfl, bel.frame _, fun h => by cases h⟩
theorem over : Rows.treeTrueRow.holds Try.pinned (OpenSpec.ofChange Rows.treeTrueSpec) :=
  OpenClaim.holds_of_wide 5 Try.f5 rfl rfl rfl rfl rfl rfl rfl ⟨rfl, rfl, rfl, rfl, rfl⟩ rfl rfl rfl rfl rfl (by kernel_rfl) Try.func5 (by kernel_rfl)
    (of_decide_eq_true (by kernel_rfl)) (by unfold Func.isWrapper; first | (rw [if_pos (by decide +kernel)]; kernel_rfl) | (rw [if_neg (by decide +kernel)]; exact ⟨rfl, rfl⟩))
    (fun os started H enc _ => lifted os started H enc)
theorem proved : Rows.TreeTrueSaid :=
  over
end Go.Proofs.Ythbgppnhlpjngaa.treeTrue
namespace Go.Proofs.Ythbgppnhlpjngaa
/-- THE STATEMENT. -/
theorem treeTrue_holds : Rows.TreeTrueSaid := treeTrue.proved
#print axioms treeTrue_holds
end Go.Proofs.Ythbgppnhlpjngaa
