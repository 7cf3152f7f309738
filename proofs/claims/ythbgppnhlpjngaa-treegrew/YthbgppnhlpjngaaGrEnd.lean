import Derived.ChangeOld
import Derived.Below
import Derived.WalkKit
import Derived.ProofKit
import Derived.OpenShut
import Derived.ShutString
import Derived.SliceStrings
import Derived.SizedLaws
import Derived.Test.YthbgppnhlpjngaaGr4
set_option linter.unusedVariables false
set_option linter.unusedSimpArgs false
namespace Go.Proofs.Ythbgppnhlpjngaa
open Go.RowKit Go.Sort Go.Deep
set_option maxHeartbeats 1000000 in
theorem rgrows_k (old : ByteArray) (m : Int) (q : Option Addr) (j c : Nat) (hj : j ≤ 1048576) (w : World) :
    Calls Try.prog 31 #[.int .i64 m, .int .i64 m, .bool true, .string old, .slice q j c] w (Ret fun e w' => Below w.heap.size w w' ∧ e = .tuple #[.string old, .string old, .bool (decide (j = 0))]) := by
  obtain ⟨d, hd⟩ : ∃ d, Hid (decide (j = 0) = d) := ⟨_, rfl⟩
  rw [hd.out]
  by_cases h : j = 0
  · subst h
    obtain rfl : d = true := hd.out.symm
    go_enter Try.func31, Try.ntmps31
    go_wp2
    refine bodyPost_ret (v := .tuple #[.string old, .string old, .bool true]) (results_ttt2 (a := ⟨_, _⟩) 10 11 12 rfl _ _ _ rfl rfl rfl) rfl ?_
    exact ⟨_, rfl, Below.refl _ _, rfl⟩
  · obtain rfl : d = false := by rw [← hd.out]; exact decide_eq_false h
    have g : ¬ (j : Int) - 1 < 0 := by omega
    have f : wrap64 ((j : Int) - 1) = (j : Int) - 1 := by unfold wrap64; omega
    go_enter Try.func31, Try.ntmps31
    go_wp2
    refine bodyPost_ret (v := .tuple #[.string old, .string old, .bool false]) (results_ttt2 (a := ⟨_, _⟩) 10 11 12 rfl _ _ _ rfl rfl rfl) rfl ?_
    exact ⟨_, rfl, Below.refl _ _, rfl⟩
set_option maxHeartbeats 1000000 in
theorem rgrows_n (old : ByteArray) (m : Int) (q : Option Addr) (j c : Nat) (hj : j ≤ 1048576) (h1 : ¬ j = 1) (w : World) :
    Calls Try.prog 31 #[.int .i64 m, .int .i64 m, .bool false, .string old, .slice q j c] w (Ret fun e w' => Below w.heap.size w w' ∧ e = .tuple #[.string ⟨#[]⟩, .string ⟨#[]⟩, .bool false]) := by
  have g : ¬ (j : Int) - 1 = 0 := by omega
  have g0 : ((j : Int) - 1 == 0) = false := by simpa using g
  have f : wrap64 ((j : Int) - 1) = (j : Int) - 1 := by unfold wrap64; omega
  go_enter Try.func31, Try.ntmps31
  go_wp2
  refine bodyPost_ret (v := .tuple #[.string ⟨#[]⟩, .string ⟨#[]⟩, .bool false]) (results_ttt2 (a := ⟨_, _⟩) 10 11 12 rfl _ _ _ rfl rfl rfl) rfl ?_
  exact ⟨_, rfl, Below.refl _ _, rfl⟩
set_option maxHeartbeats 1000000 in
theorem rgrows_1 (old : ByteArray) (m : Int) (gg oo c : Nat) (s : ByteArray) (w : World) (hv : w.cell? ⟨gg, oo, none⟩ = some (.string s)) :
    Calls Try.prog 31 #[.int .i64 m, .int .i64 m, .bool false, .string old, .slice (some ⟨gg, oo, none⟩) 1 c] w (Ret fun e w' => Below w.heap.size w w' ∧ e = .tuple #[.string s, .string s, .bool true]) := by
  go_enter Try.func31, Try.ntmps31
  go_wp2_with fail
  go_quiet (fail)
  go_wp2
  refine bodyPost_ret (v := .tuple #[.string s, .string s, .bool true]) (results_ttt2 (a := ⟨_, _⟩) 10 11 12 rfl _ _ _ rfl rfl rfl) rfl ?_
  exact ⟨_, rfl, ⟨rfl, rfl, rfl, Nat.le_refl _, fun _ _ => rfl⟩, rfl⟩
set_option maxHeartbeats 1000000 in
theorem rgrows_0 (old : ByteArray) (kn : Bool) (m n : Int) (hmn : ¬ m = n) (q : Option Addr) (c : Nat) (w : World) :
    Calls Try.prog 31 #[.int .i64 m, .int .i64 n, .bool kn, .string old, .slice q 0 c] w (Ret fun e w' => Below w.heap.size w w' ∧ e = .tuple #[.string ⟨#[]⟩, .string ⟨#[]⟩, .bool false]) := by
  have g0 : (m == n) = false := by simpa using hmn
  go_enter Try.func31, Try.ntmps31
  go_wp2
  refine bodyPost_ret (v := .tuple #[.string ⟨#[]⟩, .string ⟨#[]⟩, .bool false]) (results_ttt2 (a := ⟨_, _⟩) 10 11 12 rfl _ _ _ rfl rfl rfl) rfl ?_
  exact ⟨_, rfl, Below.refl _ _, rfl⟩
theorem revL_mem {S : Nat → Bs} {B : Nat} (h : ∀ j, (S j).size ≤ B) : ∀ j, ∀ e ∈ revL S j, e.size ≤ B
  | 0, e, he => by cases he
  | j + 1, e, he => by
    rw [revL] at he
    rcases List.mem_cons.1 he with rfl | he
    · exact h j
    · exact revL_mem h j e he
set_option maxRecDepth 100000 in
theorem rgrows_c (old : ByteArray) (ho : old.size ≤ 65536) (S : Nat → ByteArray) (hS : ∀ j, (S j).size ≤ 65536) (q : Option Addr) (c : Nat) : ∀ (j m n : Nat) (kn : Bool) (w : World), j ≤ 1048576 → j ≤ c → 1 ≤ m → m ≤ n → n ≤ 1048576 → Texts w q j S →
    Calls Try.prog 31 #[.int .i64 (m : Int), .int .i64 (n : Int), .bool kn, .string old, .slice q j c] w (Ret fun e w' => Below w.heap.size w w' ∧ e = .tuple #[.string ⟨(grw old.data (revL (fun j => (S j).data) j) kn m n).1⟩, .string ⟨(grw old.data (revL (fun j => (S j).data) j) kn m n).2.1⟩, .bool (grw old.data (revL (fun j => (S j).data) j) kn m n).2.2]) := by
  intro j
  induction j with
  | zero =>
    intro m n kn w _ _ hm1 hmn hn _
    by_cases h1 : m = n
    · subst h1
      rw [revL, grw, if_pos rfl]
      cases kn with
      | true => exact rgrows_k old m q 0 c (by decide) w
      | false => exact rgrows_n old m q 0 c (by decide) (by decide) w
    · rw [revL, grw_nil h1]
      exact rgrows_0 old kn (m : Int) (n : Int) (by omega) q c w
  | succ j ih =>
    intro m n kn w hj hc hm1 hmn hn hL
    obtain ⟨gg, oo, rfl, hgg, hcell⟩ := hL (by omega)
    have hv := hcell j (by omega)
    by_cases h1 : m = n
    · subst h1
      rw [revL, grw, if_pos rfl]
      cases kn with
      | true =>
        have := rgrows_k old m (some ⟨gg, oo, none⟩) (j + 1) c hj w
        rwa [decide_eq_false (by omega)] at this
      | false =>
        by_cases h0 : j = 0
        · subst h0
          rw [if_neg (by decide), revL, if_pos rfl]
          exact rgrows_1 old m gg oo c (S 0) w hv
        · have hne : ¬ revL (fun j => (S j).data) j = [] := by
            cases j with
            | zero => exact absurd rfl h0
            | succ j => rw [revL]; exact List.cons_ne_nil _ _
          rw [if_neg (by decide), if_neg hne]
          exact rgrows_n old m _ (j + 1) c hj (by omega) w
    · have hf3 := hf_lt (n := n) (by omega)
      have hHf := fun w => rhalf_c n (by omega) hn w
      have hLj : Texts w (some ⟨gg, oo, none⟩) j S := fun _ => ⟨gg, oo, rfl, hgg, fun i hi => hcell i (by omega)⟩
      have hmem := revL_mem (S := fun j => (S j).data) (B := 65536) (fun j => hS j) j
      by_cases hk : hf n < m
      · rw [revL, grw_hi h1 hk]
        have hsz := grw_size (old := old.data) ho _ hmem false (m - hf n) (n - hf n)
        have hr := ih (m - hf n) (n - hf n) false w (by omega) (by omega) (by omega) (by omega) (by omega) hLj
        generalize grw old.data (revL (fun j => (S j).data) j) false (m - hf n) (n - hf n) = g at hr hsz ⊢
        obtain ⟨To, Tn, ok⟩ := g
        dsimp only at hr hsz ⊢
        generalize hf n = k at hHf hf3 hk hr
        generalize hm2 : m - k = m2 at hr
        generalize hn2 : n - k = n2 at hr
        exact rgrows_hi old S kn m n k m2 n2 h1 hk hm2 hn2 hmn hn gg oo j c hj hc To Tn _ _ ok w hgg hv hHf hr (rnode_c (S j) ⟨To⟩ (hS j) hsz.1) (rnode_c (S j) ⟨Tn⟩ (hS j) hsz.2)
      · rw [revL, grw_lo h1 hk]
        have hsz := grw_size (old := old.data) ho _ hmem kn m (hf n)
        have hr := ih m (hf n) kn w (by omega) (by omega) hm1 (by omega) (by omega) hLj
        generalize grw old.data (revL (fun j => (S j).data) j) kn m (hf n) = g at hr hsz ⊢
        obtain ⟨To, Tn, ok⟩ := g
        dsimp only at hr hsz ⊢
        generalize hf n = k at hHf hf3 hk hr
        exact rgrows_lo old S kn m n k h1 hk gg oo j c hj hc To Tn _ ok w hgg hv hHf hr (rnode_c ⟨Tn⟩ (S j) hsz.2 (hS j))
set_option maxHeartbeats 2000000 in
theorem rGrown_c (old root : ByteArray) (m n : Int) (ho : old.size ≤ 65536) (S : Nat → ByteArray) (hS : ∀ j, (S j).size ≤ 65536) (q : Option Addr) (j c : Nat) (w : World) (hj : j ≤ 1048576) (hjc : j ≤ c) (hL : Texts w q j S) :
    Calls Try.prog 17 #[.string old, .int .i64 m, .string root, .int .i64 n, .slice q j c] w (Ret fun e w' => Below w.heap.size w w' ∧ e = .bool (grewT old.data root.data m n (fun j => (S j).data) j)) := by
  have HL : Hid (Texts w q j S) := hL
  have hA := rsized_c q j c S w hj hL
  clear hL
  by_cases h3 : ∀ i, i < j → (S i).data.size = 32
  · rw [decide_eq_true h3] at hA
    by_cases hin : 1 ≤ n ∧ n ≤ 1048576 ∧ 1 ≤ m ∧ m ≤ n
    · obtain ⟨h1, h1b, h2, h2b⟩ := hin
      have a1 : ¬ n < 1 := by omega
      have a2 : ¬ (1048576 : Int) < n := by omega
      have a3 : ¬ m < 1 := by omega
      have a4 : ¬ n < m := by omega
      obtain ⟨n', rfl⟩ : ∃ n' : Nat, n = (n' : Int) := ⟨n.toNat, by omega⟩
      obtain ⟨m', rfl⟩ : ∃ m' : Nat, m = (m' : Int) := ⟨m.toNat, by omega⟩
      obtain ⟨T1, T2, ok, hT, hp⟩ : ∃ T1 T2 ok, grewT old.data root.data (m' : Int) (n' : Int) (fun j => (S j).data) j = (ok && decide (T1 = old.data) && decide (T2 = root.data)) ∧ Calls Try.prog 31 #[.int .i64 (m' : Int), .int .i64 (n' : Int), .bool true, .string old, .slice q j c] w (Ret fun e w' => Below w.heap.size w w' ∧ e = .tuple #[.string ⟨T1⟩, .string ⟨T2⟩, .bool ok]) :=
        ⟨_, _, _, by unfold grewT; rw [if_pos ⟨⟨h1, h1b⟩, ⟨h2, h2b⟩, h3⟩]; rfl, rgrows_c old ho S hS q c j m' n' true w hj hjc (by omega) (by omega) (by omega) HL.out⟩
      rw [hT]
      have HQ : Hid (((⟨T1⟩ : ByteArray).toList == old.toList) = decide (T1 = old.data) ∧ ((⟨T2⟩ : ByteArray).toList == root.toList) = decide (T2 = root.data)) := ⟨beq3 T1 old.data, beq3 T2 root.data⟩
      clear hT h3
      go_enter Try.func17, Try.ntmps17
      go_wp2_with fail
      refine hA.mono ?_
      rintro e w' ⟨rfl, rfl⟩
      go_wp2_with fail
      refine hp.mono ?_
      rintro e w4 ⟨v4, rfl, hb4, rfl⟩
      have K4 : Hid (Below w'.heap.size w' w4) := hb4
      clear hb4 hp hA
      cases ok with
      | false =>
        go_wp2
        go_ret
        exact ⟨_, rfl, K4.out, rfl⟩
      | true =>
        obtain ⟨y, hy⟩ : ∃ y, Hid (decide (T1 = old.data) = y) := ⟨_, rfl⟩
        obtain ⟨z, hz⟩ : ∃ z, Hid (decide (T2 = root.data) = z) := ⟨_, rfl⟩
        have hq1 := HQ.out.1
        have hq2 := HQ.out.2
        rw [hy.out] at hq1
        rw [hz.out] at hq2
        cases y with
        | false =>
          go_wp2
          go_ret
          exact ⟨_, rfl, K4.out, by rw [hy.out, hz.out]; rfl⟩
        | true =>
          go_wp2
          go_ret
          exact ⟨_, rfl, K4.out, by rw [hy.out, hz.out]; cases z <;> rfl⟩
    · have hT : grewT old.data root.data m n (fun j => (S j).data) j = false := by unfold grewT; rw [if_neg (fun h => hin ⟨h.1.1, h.1.2, h.2.1.1, h.2.1.2⟩)]
      rw [hT]
      clear h3
      by_cases b1 : n < 1
      · go_enter Try.func17, Try.ntmps17
        go_wp2_with fail
        refine hA.mono ?_
        rintro e w' ⟨rfl, rfl⟩
        go_wp2
        go_ret
        exact ⟨_, rfl, Below.refl _ _, rfl⟩
      · by_cases b2 : (1048576 : Int) < n
        · go_enter Try.func17, Try.ntmps17
          go_wp2_with fail
          refine hA.mono ?_
          rintro e w' ⟨rfl, rfl⟩
          go_wp2
          go_ret
          exact ⟨_, rfl, Below.refl _ _, rfl⟩
        · by_cases b3 : m < 1
          · go_enter Try.func17, Try.ntmps17
            go_wp2_with fail
            refine hA.mono ?_
            rintro e w' ⟨rfl, rfl⟩
            go_wp2
            go_ret
            exact ⟨_, rfl, Below.refl _ _, rfl⟩
          · have b4 : n < m := by omega
            go_enter Try.func17, Try.ntmps17
            go_wp2_with fail
            refine hA.mono ?_
            rintro e w' ⟨rfl, rfl⟩
            go_wp2
            go_ret
            exact ⟨_, rfl, Below.refl _ _, rfl⟩
  · rw [decide_eq_false h3] at hA
    have hT : grewT old.data root.data m n (fun j => (S j).data) j = false := by unfold grewT; rw [if_neg (fun h => h3 h.2.2)]
    rw [hT]
    clear h3
    go_enter Try.func17, Try.ntmps17
    go_wp2_with fail
    refine hA.mono ?_
    rintro e w' ⟨rfl, rfl⟩
    go_wp2
    go_ret
    exact ⟨_, rfl, Below.refl _ _, rfl⟩
set_option maxRecDepth 100000 in
set_option maxHeartbeats 2000000 in
theorem grewL_any (old root : ByteArray) (m0 n : Int) (q : Option Addr) (m c : Nat) (S0 : Nat → ByteArray) (w0 : World) (hmc : m ≤ c) (hm2 : m ≤ 140737488355328) (hr : old.size ≤ 140737488355328) (hlf : root.size ≤ 140737488355328) (hS0 : ∀ j, j < m → (S0 j).size ≤ 140737488355328) (hL0 : Texts w0 q m S0) :
    Calls Try.prog 4 #[.string old, .int .i64 m0, .string root, .int .i64 n, .slice q m c] w0 fun e w' => e = .returned (.bool true) ∧ Below w0.heap.size w0 w' := by
  by_cases hm : m ≤ 1100
  · obtain ⟨S, hS⟩ : ∃ S : Nat → ByteArray, S = fun j => if j < m then S0 j else ByteArray.empty := ⟨_, rfl⟩
    have hSe : ∀ j, j < m → S j = S0 j := fun j hj => by rw [hS]; exact if_pos hj
    have hSn : ∀ j, ¬ j < m → S j = ByteArray.empty := fun j hj => by rw [hS]; exact if_neg hj
    have hL : Texts w0 q m S := fun hn => by
      obtain ⟨gg, oo, h1, h2, h3⟩ := hL0 hn
      exact ⟨gg, oo, h1, h2, fun j hj => by rw [hSe j hj]; exact h3 j hj⟩
    have hSz : ∀ j, j < m → (S j).size ≤ 140737488355328 := fun j hj => by rw [hSe j hj]; exact hS0 j hj
    clear hS0 hL0 hSe hS
    have hsm := small_y q m c S w0 hm hSz hL
    by_cases h1 : sumS S m ≤ 65536
    · rw [decide_eq_true h1] at hsm
      have hS6 : ∀ j, (S j).size ≤ 65536 := fun j => by
        by_cases hj : j < m
        · exact Nat.le_trans (sumS_at m j hj) h1
        · rw [hSn j hj]; exact Nat.zero_le _
      by_cases h2 : root.size + old.size ≤ 65536
      · have a1 : ¬ (65536 : Int) < (root.size : Int) + (old.size : Int) := by omega
        have a0 : wrap64 ((root.size : Int) + (old.size : Int)) = (root.size : Int) + (old.size : Int) := by unfold wrap64; omega
        obtain ⟨cap1, w1, hc1, hcc1, hb1, hH1, hlt1⟩ := conv_of old w0
        obtain ⟨cap2, w2, hc2, hcc2, hb2, hH2, hlt2⟩ := conv_of root w1
        have HB : Hid (Below w0.heap.size w0 w2) := hb1.trans (hb2.mono hb1.size)
        have A1 : Hid (SP.PartOk w2 (.slice (some ⟨w0.heap.size, 0, none⟩) old.size cap1) old.data.toList) := part_of8 (by omega) hcc1 (Holds.below hH1 hb2 hlt1)
        have A2 : Hid (SP.PartOk w2 (.slice (some ⟨w1.heap.size, 0, none⟩) root.size cap2) root.data.toList) := part_of8 (by omega) hcc2 hH2
        have HL : Hid (Texts w0 q m S) := hL
        have HS : Hid (old.size ≤ 65536 ∧ ∀ j, (S j).size ≤ 65536) := ⟨by omega, hS6⟩
        clear hb1 hb2 hH1 hH2 hlt1 hlt2 hcc1 hcc2 hL hSz hSn hS6 h1 h2
        go_enter Try.func4, Try.ntmps4
        go_wp2_with fail
        refine hsm.mono ?_
        rintro e w' ⟨rfl, rfl⟩
        clear hsm
        go_wp2_with fail
        refine (lists8_c q m c S w2 hm (HL.out.below HB.out)).mono ?_
        rintro e w3 ⟨v3, rfl, hb3, hA3⟩
        obtain ⟨q3, c3, rfl, hc3, hL3⟩ := hA3.lists (fun j _ => HS.out.2 j)
        have K3 : Hid (Below w'.heap.size w' w3 ∧ m ≤ c3 ∧ Lists w3 q3 m (fun j => (S j).data) ∧ SP.PartOk w3 (.slice (some ⟨w'.heap.size, 0, none⟩) old.size cap1) old.data.toList ∧ SP.PartOk w3 (.slice (some ⟨w1.heap.size, 0, none⟩) root.size cap2) root.data.toList) := ⟨HB.out.trans (hb3.mono HB.out.size), hc3, hL3, A1.out.below hb3, A2.out.below hb3⟩
        clear hb3 hA3 hc3 hL3 HB A1 A2 hc1 hc2 a0 a1
        go_wp2_with fail
        refine (Grown_c _ _ q3 _ _ _ _ m c3 old.data root.data m0 n (fun j => (S j).data) w3 (by omega) K3.out.2.1 K3.out.2.2.2.1 K3.out.2.2.2.2 K3.out.2.2.1).mono ?_
        rintro e w4 ⟨v4, rfl, hb4, rfl⟩
        have K4 : Hid (Below w'.heap.size w' w4) := K3.out.1.trans (hb4.mono K3.out.1.size)
        clear hb4 K3
        go_wp2_with fail
        refine (rGrown_c old root m0 n HS.out.1 S HS.out.2 q m c w4 (by omega) hmc (HL.out.below K4.out)).mono ?_
        rintro e w5 ⟨v5, rfl, hb5, rfl⟩
        have K5 : Hid (Below w'.heap.size w' w5) := K4.out.trans (hb5.mono K4.out.size)
        clear hb5 K4 HL HS
        generalize grewT old.data root.data m0 n (fun j => (S j).data) m = u
        cases u <;> go_wp2 <;> go_ret <;> exact ⟨by simp, K5.out⟩
      · have a1 : (65536 : Int) < (root.size : Int) + (old.size : Int) := by omega
        have a0 : wrap64 ((root.size : Int) + (old.size : Int)) = (root.size : Int) + (old.size : Int) := by unfold wrap64; omega
        clear hL hSz hSn hS6 h1
        go_enter Try.func4, Try.ntmps4
        go_wp2_with fail
        refine hsm.mono ?_
        rintro e w' ⟨rfl, rfl⟩
        go_wp2
        go_ret
        exact ⟨rfl, Below.refl _ _⟩
    · rw [decide_eq_false h1] at hsm
      clear hL hSz hSn h1
      go_enter Try.func4, Try.ntmps4
      go_wp2_with fail
      refine hsm.mono ?_
      rintro e w' ⟨rfl, rfl⟩
      go_wp2
      go_ret
      exact ⟨rfl, Below.refl _ _⟩
  · have hsm := small_n q m c S0 w0 hm hm2 hL0
    clear hL0 hS0
    go_enter Try.func4, Try.ntmps4
    go_wp2_with fail
    refine hsm.mono ?_
    rintro e w' ⟨rfl, rfl⟩
    go_wp2
    go_ret
    exact ⟨rfl, Below.refl _ _⟩
end Go.Proofs.Ythbgppnhlpjngaa
/-
  THE ROW OF 'TreeGrew' round its walk: a text, a number, a text, a number, a slice of texts.
-/
namespace Go.Proofs.Ythbgppnhlpjngaa.treeGrew
open Go.ChangeShapes Go.WideShapes Go.ChangeAt Go.RowKit
open Go.ChangeMaps (open_string shut_string)
theorem own : ownKnob Try.prog.godebug = none := by kernel_rfl
theorem laidOut : laidOutB Try.prog = true := by kernel_rfl
theorem cells9 : Try.prog.cellsOf 9 = 1 := by kernel_rfl
theorem bytes9 : Try.prog.bytesOf 9 = 16 := by kernel_rfl
theorem strs_weigh {H : Type} {P : Program} {e : TypeId} {x : ByteArray} : ∀ {ss : List ByteArray}, x ∈ ss → x.size ∈ DataW.weightsAll (H := H) P e (strs ss)
  | s :: r, h => by
    show x.size ∈ DataW.weights P e (.lit (.string s.data.toList)) ++ DataW.weightsAll P e (strs r)
    rw [List.mem_append]
    rcases List.mem_cons.1 h with rfl | h
    · left
      simp [DataW.weights]
    · exact Or.inr (strs_weigh h)
theorem sized_strs {H : Type} {P : Program} {ts : List TypeId} {ds : List (DataW H)} (h : (DataW.weightsEach P ts ds).all (· ≤ reachBytes) = true) {j : Nat} {t e : TypeId} {a b : List ByteArray} (ht : ts[j]? = some t) (hd : ds[j]? = some (.slice (strs a) (strs b))) (hu : P.underlying t = some (.slice e))
    (x : ByteArray) (hx : x ∈ a) : x.size ≤ reachBytes := by
  have := List.all_eq_true.1 h _ (DataW.weights_mem_each ht hd x.size (by
    simp only [DataW.weights, hu]
    exact List.mem_cons_of_mem _ (List.mem_append_left _ (strs_weigh hx))))
  simpa using this
theorem sized_str {H : Type} {P : Program} {ts : List TypeId} {ds : List (DataW H)} (h : (DataW.weightsEach P ts ds).all (· ≤ reachBytes) = true) {j : Nat} {t : TypeId} {s : ByteArray} (ht : ts[j]? = some t) (hd : ds[j]? = some (.lit (.string s.data.toList))) : s.size ≤ reachBytes := by
  have := List.all_eq_true.1 h _ (DataW.weights_mem_each ht hd s.size (by simp [DataW.weights]))
  simpa using this
set_option maxRecDepth 100000 in
theorem lifted (os : Os) (started : os.Started) (H : Type) (enc : TypeId × Value → H) :
    ReturnsInHanded {} Try.checked os 4 .any (Rows.treeGrewSpec.pre6 enc Try.prog Try.f4 Rows.treeGrewRow.domain false) (Rows.treeGrewSpec.post enc Try.prog Try.f4 false true false false) := by
  refine returnsInHanded_of_change_sized (C := Try.checked) own started (by kernel_rfl) Try.func4
    (ChangeSpec.witness6 (enc := enc) (C := Try.checked) false ⟨#[], #[.string ByteArray.empty, .int .i64 0, .string ByteArray.empty, .int .i64 0, .slice none 0 0], []⟩ 8 (by kernel_rfl) (by kernel_rfl) (by kernel_rfl) (by kernel_rfl)) ?_
  intro W base args ds gs before hval0 hW _ hsz0 _
  have hsz : (DataW.weightsEach Try.prog (Try.f4.params.toList ++ Rows.treeGrewSpec.plain.varTypes Try.prog) (ds ++ gs)).all (· ≤ reachBytes) = true := hsz0
  clear hsz0
  have hval : ∀ (j : Nat) t v, Try.f4.params[j]? = some t → args[j]? = some v → Value.okWide Try.prog W .any base t v := hval0
  have hW' := hW
  obtain ⟨p, q, hA0, hV, rfl, hfz, hnd⟩ := hW
  have hA : DataW.TrodAll enc Try.prog W 0 (fun _ => true) true Try.f4.params.toList args.toList ds p := hA0
  rw [Try.params4] at hA hval hsz
  obtain ⟨v0, vs0, d0, ds0, p0, q0, hargs, rfl, rfl, h0, r0⟩ := trodAll_cons hA
  obtain ⟨v1, vs1, d1, ds1, p1, q1, rfl, rfl, rfl, h1, r1⟩ := trodAll_cons r0
  obtain ⟨v2, vs2, d2, ds2, p2, q2, rfl, rfl, rfl, h2, r2⟩ := trodAll_cons r1
  obtain ⟨v3, vs3, d3, ds3, p3, q3, rfl, rfl, rfl, h3, r3⟩ := trodAll_cons r2
  obtain ⟨v4, vs4, d4, ds4, p4, q4, rfl, rfl, rfl, h4, r4⟩ := trodAll_cons r3
  obtain ⟨rfl, rfl, rfl⟩ := trodAll_nil r4
  obtain rfl : args = #[v0, v1, v2, v3, v4] := by cases args; simp_all
  obtain ⟨rfl, rfl⟩ := trodVars_none hV
  obtain ⟨a0, rfl, rfl, rfl, w0⟩ := open_string Try.underlying9 (hval 0 9 v0 rfl rfl) h0
  obtain ⟨a1, rfl, rfl, rfl, w1⟩ := open_int Try.underlying3 (hval 1 3 v1 rfl rfl) h1
  obtain ⟨b3, rfl, rfl, rfl, w2⟩ := open_string Try.underlying9 (hval 2 9 v2 rfl rfl) h2
  obtain ⟨a2, rfl, rfl, rfl, w3⟩ := open_int Try.underlying3 (hval 3 3 v3 rfl rfl) h3
  obtain ⟨a3, len3, cap3, rfl⟩ := okWide_slice Try.underlying22 (hval 4 22 v4 rfl rfl)
  have k3 := h4
  have lt3 : ∀ x ∈ p4, x.block < W.heap.size := by obtain ⟨m, hm⟩ := k3; exact DataW.trod_lt m _ _ _ hm
  have z0 : a0.size ≤ reachBytes := sized_str hsz (j := 0) (t := 9) rfl rfl
  have z3 : b3.size ≤ reachBytes := sized_str hsz (j := 2) (t := 9) rfl rfl
  unfold reachBytes at z0 z3
  have hx3 : ∃ S : Nat → ByteArray, Texts W a3 len3 S ∧ (∀ j, j < len3 → (S j).size ≤ 140737488355328) ∧ len3 ≤ 140737488355328 ∧ len3 ≤ cap3 := by
    obtain ⟨fuel, hf⟩ := h4
    rcases open_strings Try.underlying22 Try.underlying9 cells9 hf with ⟨hcs, hx⟩ | ⟨a, l, c, ss, hcs, _, hl, hm, hz, hx, hcell, hws⟩
    · simp [Value.cells] at hcs
      obtain ⟨rfl, rfl, rfl⟩ := hcs
      exact ⟨fun _ => ByteArray.empty, fun h => absurd h (by omega), fun j hj => absurd hj (by omega), by omega, by omega⟩
    · simp [Value.cells] at hcs
      obtain ⟨rfl, rfl, rfl⟩ := hcs
      simp only [Prod.mk.injEq] at hx
      obtain ⟨rfl, rfl⟩ := hx
      simp only [if_true] at hz
      have hn : (ss.take len3).length = len3 := by rw [List.length_take]; omega
      have hat : ∀ j, j < len3 → (ss.take len3)[j]! = ss.getD j ByteArray.empty := fun j hj => by
        rw [getElem!_pos (ss.take len3) j (by omega), List.getElem_take, List.getD_eq_getElem?_getD, List.getElem?_eq_getElem (by omega)]
        rfl
      have hreach : len3 * 16 ≤ 140737488355328 := by
        have := sized_slice hsz (j := 4) (t := 22) (e := 9) rfl rfl Try.underlying22
        rw [bytes9] at this
        simp only [strs, List.length_map, List.length_take, List.length_drop, reachBytes] at this
        omega
      have hs : ∀ j, j < len3 → ((ss.take len3)[j]!).size ≤ 140737488355328 := fun j hj => by
        have := sized_strs hsz (j := 4) (t := 22) (e := 9) (a := ss.take len3) (b := ss.drop len3) rfl rfl Try.underlying22 (ss.take len3)[j]! (by rw [getElem!_pos (ss.take len3) j (by omega)]; exact List.getElem_mem _)
        unfold reachBytes at this
        omega
      refine ⟨fun j => (ss.take len3)[j]!, fun h00 => ?_, hs, by omega, by omega⟩
      obtain ⟨b, off, spot⟩ := a
      have hspot : spot = none := by simpa [Addr.add] using World.cell?_spot (hcell 0 (by omega))
      subst hspot
      have hP : ∀ j, j < len3 → W.cell? ⟨b, off + j, none⟩ = some (.string (ss.take len3)[j]!) := fun j hj => by
        rw [hat j hj, ← hcell j (by omega)]
        congr 1
        unfold Addr.add
        by_cases hj0 : j = 0
        · subst hj0; rfl
        · rw [if_neg hj0]
      exact ⟨b, off, rfl, World.block_lt_of_cell? _ _ (hP 0 h00), hP⟩
  obtain ⟨S, hS, hSs, hSl, hSc⟩ := hx3
  refine (grewL_any a0 b3 a1 a2 a3 len3 cap3 S W hSc hSl (by omega) (by omega) hSs hS).mono fun e W' ⟨he, bel⟩ => ?_
  subst he
  exact ⟨_, rfl, _, _, _, [], _, [], hW', trodAll_mk1 (shut_bool Try.underlying4 _), (trodAll_cons_mk (shut_string Try.underlying9 w0) (trodAll_cons_mk (shut_int Try.underlying3 w1) (trodAll_cons_mk (shut_string Try.underlying9 w2) (trodAll_cons_mk (shut_int Try.underlying3 w3) (trodAll_cons_mk (Below.trod laidOut (by kernel_rfl) (of_decide_eq_true (by kernel_rfl)) k3 bel lt3) trodAll_mk0))))), rfl, bel.frame _, fun h => by cases h⟩
theorem over : Rows.treeGrewRow.holds Try.pinned (OpenSpec.ofChange Rows.treeGrewSpec) :=
  OpenClaim.holds_of_wide 4 Try.f4 rfl rfl rfl rfl rfl rfl rfl ⟨rfl, rfl, rfl, rfl, rfl⟩ rfl rfl rfl rfl rfl (by kernel_rfl) Try.func4 (by kernel_rfl)
    (of_decide_eq_true (by kernel_rfl)) (by unfold Func.isWrapper; first | (rw [if_pos (by decide +kernel)]; kernel_rfl) | (rw [if_neg (by decide +kernel)]; exact ⟨rfl, rfl⟩))
    (fun os started H enc _ => lifted os started H enc)
theorem proved : Rows.TreeGrewSaid :=
  over
end Go.Proofs.Ythbgppnhlpjngaa.treeGrew
namespace Go.Proofs.Ythbgppnhlpjngaa
/-- THE STATEMENT. -/
theorem treeGrew_holds : Rows.TreeGrewSaid := treeGrew.proved
#print axioms treeGrew_holds
end Go.Proofs.Ythbgppnhlpjngaa
