import Derived.BigQuiet
import Derived.StillTailTactics
import Derived.Lib.AppendZeros
import Derived.Deep.LoopGhost
import Derived.OwnWalk
import Derived.ChangeOld
import Derived.Below
import Derived.WalkKit
import Derived.ProofKit
import Derived.OpenShut
import Derived.ShutString
import Derived.SliceStrings
import Derived.SizedLaws
import Derived.Test.YthbgppnhlpjngaaRt4
set_option linter.unusedVariables false
set_option linter.unusedSimpArgs false
namespace Go.Proofs.Ythbgppnhlpjngaa
open Go.RowKit Go.Sort Go.Deep
theorem pathR_len (S : Nat → Bs) : ∀ (N n a i : Nat), n ≤ N → (pathR S a n i).length ≤ n
  | 0, n, a, i, h => by rw [pathR_1 _ _ _ _ (by omega)]; exact Nat.zero_le _
  | N + 1, n, a, i, h => by
    by_cases hn : n ≤ 1
    · rw [pathR_1 _ _ _ _ hn]; exact Nat.zero_le _
    · have hf3 := hf_lt (n := n) (by omega)
      by_cases hk : hf n ≤ i
      · rw [pathR_hi _ _ _ _ (by omega) hk, List.length_cons]
        have := pathR_len S N (n - hf n) (a + hf n) (i - hf n) (by omega)
        omega
      · rw [pathR_lo _ _ _ _ (by omega) hk, List.length_cons]
        have := pathR_len S N (hf n) a i (by omega)
        omega
theorem growR_len (S : Nat → Bs) : ∀ (N n a m : Nat) (kn : Bool), n ≤ N → 1 ≤ m → m ≤ n → (growR S a n m kn).length ≤ n
  | 0, n, a, m, kn, h, h1, h2 => by omega
  | N + 1, n, a, m, kn, h, h1, h2 => by
    by_cases he : n ≤ m
    · cases kn with
      | true => rw [growR_y _ _ _ _ he]; exact Nat.zero_le _
      | false => rw [growR_n _ _ _ _ he]; show 1 ≤ n; omega
    · have hf3 := hf_lt (n := n) (by omega)
      by_cases hk : hf n < m
      · rw [growR_hi _ _ _ _ _ (by omega) he hk, List.length_cons]
        have := growR_len S N (n - hf n) (a + hf n) (m - hf n) false (by omega) (by omega) (by omega)
        omega
      · rw [growR_lo _ _ _ _ _ (by omega) he hk, List.length_cons]
        have := growR_len S N (hf n) a m kn (by omega) h1 (by omega)
        omega
set_option maxHeartbeats 1000000 in
theorem path_1 (q : Option Addr) (c : Nat) (i : Int) (w : World) : Calls Try.prog 21 #[.slice q 1 c, .int .i64 i] w (Ret (NewL w [])) := by
  go_enter Try.func21, Try.ntmps21
  go_wp2
  go_ret
  exact ⟨_, rfl, Below.refl _ _, Or.inl ⟨rfl, rfl⟩⟩
theorem path_c (S : Nat → Bs) : ∀ (N n a : Nat) (q : Option Addr) (c i : Nat) (w : World), n ≤ N → n ≤ 1048576 → n ≤ c → 1 ≤ n → i < n → Lists w q n (fun j => S (a + j)) → Calls Try.prog 21 #[.slice q n c, .int .i64 (i : Int)] w (Ret (NewL w (pathR S a n i).reverse)) := by
  intro N
  induction N with
  | zero => intro n a q c i w h0 _ _ h1; omega
  | succ N ih =>
    intro n a q c i w hN hn hc h1 hi hL
    by_cases he : n = 1
    · subst he
      rw [pathR_1 _ _ _ _ (Nat.le_refl _)]
      exact path_1 q c i w
    · obtain ⟨gg, oo, rfl, hgg, hcell⟩ := hL (by omega)
      have hf3 := hf_lt (n := n) (by omega)
      have HH := Hid.mk2 (halves_c gg oo n c (by omega) hn hc w)
      by_cases hk : hf n ≤ i
      · rw [pathR_hi _ _ _ _ (by omega) hk, List.reverse_cons]
        have hlen := pathR_len S n (n - hf n) (a + hf n) (i - hf n) (by omega)
        exact path_hi i (i - hf n) gg oo n c (hf n) _ _ (rootR_size _ _ _) (by rw [List.length_reverse]; omega) he hk (by omega) rfl w HH
          (fun w' hb => ih (n - hf n) (a + hf n) _ (c - hf n) (i - hf n) w' (by omega) (by omega) (by omega) (by omega) (by omega) ((hL.part (by omega)).below hb))
          (fun w' hb => root_c S n (hf n) a _ c w' (by omega) (by omega) (by omega) ((hL.less (by omega)).below hb))
      · rw [pathR_lo _ _ _ _ (by omega) hk, List.reverse_cons]
        have hlen := pathR_len S n (hf n) a i (by omega)
        exact path_lo i gg oo n c (hf n) _ _ (rootR_size _ _ _) (by rw [List.length_reverse]; omega) he hk w HH
          (fun w' hb => ih (hf n) a _ c i w' (by omega) (by omega) (by omega) (by omega) (by omega) ((hL.less (by omega)).below hb))
          (fun w' hb => root_c S n (n - hf n) (a + hf n) _ (c - hf n) w' (by omega) (by omega) (by omega) ((hL.part (by omega)).below hb))
set_option maxHeartbeats 1000000 in
theorem growth_y (q : Option Addr) (n c : Nat) (m : Int) (hm : ¬ m < (n : Int)) (w : World) : Calls Try.prog 22 #[.slice q n c, .int .i64 m, .bool true] w (Ret (NewL w [])) := by
  go_enter Try.func22, Try.ntmps22
  go_wp2
  go_ret
  exact ⟨_, rfl, Below.refl _ _, Or.inl ⟨rfl, rfl⟩⟩
set_option maxHeartbeats 1000000 in
theorem growth_n (q : Option Addr) (n c : Nat) (m : Int) (hm : ¬ m < (n : Int)) (T : Bs) (hT : T.size = 32) (w : World) (hR : Calls Try.prog 19 #[.slice q n c] w (Ret (NewH w T))) : Calls Try.prog 22 #[.slice q n c, .int .i64 m, .bool false] w (Ret (NewL w [T])) := by
  go_enter Try.func22, Try.ntmps22
  go_wp2_with fail
  refine hR.mono ?_
  rintro e w2 ⟨v2, rfl, hb2, r, rfl, hr, hH⟩
  have K : Hid (Below w.heap.size w (w2.alloc (.cells #[.slice (some ⟨r, 0, none⟩) 32 32] 26)) ∧ HL (w2.alloc (.cells #[.slice (some ⟨r, 0, none⟩) 32 32] 26)) w.heap.size (w2.alloc (.cells #[.slice (some ⟨r, 0, none⟩) 32 32] 26)).heap.size (.slice (some ⟨w2.heap.size, 0, none⟩) 1 1) [T]) := ⟨hb2.trans (((Below.refl _ _).alloc (Nat.le_refl _) _).mono hb2.size), (HL.one hb2.size hr hT hH).less (Nat.le_refl _) (by rw [World.size_alloc]; have := Holds.lt hH (by omega); omega)⟩
  clear hr hb2 hH hR
  go_wp2
  go_ret
  exact ⟨_, rfl, K.out.1, K.out.2⟩
set_option maxHeartbeats 1000000 in
theorem growth_h (q : Option Addr) (n c : Nat) (m : Int) (kn : Bool) (hm : m < (n : Int)) (L : List Bs) (w : World) (hR : Calls Try.prog 37 #[.slice q n c, .int .i64 m, .bool kn] w (Ret (NewL w L))) : Calls Try.prog 22 #[.slice q n c, .int .i64 m, .bool kn] w (Ret (NewL w L)) := by
  go_enter Try.func22, Try.ntmps22
  go_wp2_with fail
  refine hR.mono ?_
  rintro e w2 ⟨v2, rfl, hb2⟩
  have K : Hid (NewL w L v2 w2) := hb2
  clear hb2 hR
  go_wp2
  go_ret
  exact ⟨_, rfl, K.out⟩
theorem growth_c (S : Nat → Bs) : ∀ (N n a : Nat) (q : Option Addr) (c m : Nat) (kn : Bool) (w : World), n ≤ N → n ≤ 1048576 → n ≤ c → 1 ≤ m → m ≤ n → Lists w q n (fun j => S (a + j)) → Calls Try.prog 22 #[.slice q n c, .int .i64 (m : Int), .bool kn] w (Ret (NewL w (growR S a n m kn).reverse)) := by
  intro N
  induction N with
  | zero => intro n a q c m kn w h0 _ _ h1; omega
  | succ N ih =>
    intro n a q c m kn w hN hn hc h1 hm hL
    by_cases he : n ≤ m
    · cases kn with
      | true =>
        rw [growR_y _ _ _ _ he]
        exact growth_y q n c m (by omega) w
      | false =>
        rw [growR_n _ _ _ _ he]
        exact growth_n q n c m (by omega) _ (rootR_size _ _ _) w (root_c S n n a q c w (Nat.le_refl _) hn hc hL)
    · obtain ⟨gg, oo, rfl, hgg, hcell⟩ := hL (by omega)
      have hf3 := hf_lt (n := n) (by omega)
      have HH := Hid.mk2 (halves_c gg oo n c (by omega) hn hc w)
      refine growth_h _ n c m kn (by omega) _ w ?_
      by_cases hk : hf n < m
      · rw [growR_hi _ _ _ _ _ (by omega) he hk, List.reverse_cons]
        have hlen := growR_len S n (n - hf n) (a + hf n) (m - hf n) false (by omega) (by omega) (by omega)
        exact goh_hi m (m - hf n) kn gg oo n c (hf n) _ _ (rootR_size _ _ _) (by rw [List.length_reverse]; omega) hk (by omega) rfl w HH
          (fun w' hb => ih (n - hf n) (a + hf n) _ (c - hf n) (m - hf n) false w' (by omega) (by omega) (by omega) (by omega) (by omega) ((hL.part (by omega)).below hb))
          (fun w' hb => root_c S n (hf n) a _ c w' (by omega) (by omega) (by omega) ((hL.less (by omega)).below hb))
      · rw [growR_lo _ _ _ _ _ (by omega) he hk, List.reverse_cons]
        have hlen := growR_len S n (hf n) a m kn (by omega) h1 (by omega)
        exact goh_lo m kn gg oo n c (hf n) _ _ (rootR_size _ _ _) (by rw [List.length_reverse]; omega) hk w HH
          (fun w' hb => ih (hf n) a _ c m kn w' (by omega) (by omega) (by omega) h1 (by omega) ((hL.less (by omega)).below hb))
          (fun w' hb => root_c S n (n - hf n) (a + hf n) _ (c - hf n) w' (by omega) (by omega) (by omega) ((hL.part (by omega)).below hb))
/-- Root, Path, Growth of at most 1024 leaves. -/
theorem Root_c (S : Nat → Bs) (n : Nat) (q : Option Addr) (c : Nat) (w : World) (hn : n ≤ 1024) (hc : n ≤ c) (hL : Lists w q n S) : Calls Try.prog 8 #[.slice q n c] w (Ret fun e w' => ∃ v, e = .tuple #[v, .int .i64 0] ∧ NewH w (rootR S 0 n) v w') := by
  have hR := root_c S n n 0 q c w (Nat.le_refl _) (by omega) hc (by simpa using hL)
  have g : ¬ (1024 : Int) < (n : Int) := by omega
  clear hL
  go_enter Try.func8, Try.ntmps8
  go_wp2_with fail
  refine hR.mono ?_
  rintro e w2 ⟨v2, rfl, hb2⟩
  have K : Hid (NewH w (rootR S 0 n) v2 w2) := hb2
  clear hb2 hR
  go_wp2
  go_ret2
  exact ⟨_, rfl, _, rfl, K.out⟩
theorem Path_c (S : Nat → Bs) (n i : Nat) (q : Option Addr) (c : Nat) (w : World) (hn : n ≤ 1024) (hc : n ≤ c) (h1 : 1 ≤ n) (hi : i < n) (hL : Lists w q n S) : Calls Try.prog 9 #[.slice q n c, .int .i64 (i : Int)] w (Ret fun e w' => ∃ v, e = .tuple #[v, .int .i64 0] ∧ NewL w (pathR S 0 n i).reverse v w') := by
  have hR := path_c S n n 0 q c i w (Nat.le_refl _) (by omega) hc h1 hi (by simpa using hL)
  have g : ¬ (1024 : Int) < (n : Int) := by omega
  have hw := within_c (i : Int) 0 ((n : Int) - 1) w
  rw [decide_eq_true ⟨by omega, by omega⟩] at hw
  clear hL
  go_enter Try.func9, Try.ntmps9
  go_wp2_with fail
  refine hw.mono ?_
  rintro e w' ⟨rfl, rfl⟩
  go_wp2_with fail
  refine hR.mono ?_
  rintro e w2 ⟨v2, rfl, hb2⟩
  have K : Hid (NewL w' (pathR S 0 n i).reverse v2 w2) := hb2
  clear hb2 hR hw
  go_wp2
  go_ret2
  exact ⟨_, rfl, _, rfl, K.out⟩
theorem Growth_c (S : Nat → Bs) (n m : Nat) (q : Option Addr) (c : Nat) (w : World) (hn : n ≤ 1024) (hc : n ≤ c) (h1 : 1 ≤ m) (hm : m ≤ n) (hL : Lists w q n S) : Calls Try.prog 10 #[.slice q n c, .int .i64 (m : Int)] w (Ret fun e w' => ∃ v, e = .tuple #[v, .int .i64 0] ∧ NewL w (growR S 0 n m true).reverse v w') := by
  have hR := growth_c S n n 0 q c m true w (Nat.le_refl _) (by omega) hc h1 hm (by simpa using hL)
  have g : ¬ (1024 : Int) < (n : Int) := by omega
  have hw := within_c (m : Int) 1 (n : Int) w
  rw [decide_eq_true ⟨by omega, by omega⟩] at hw
  clear hL
  go_enter Try.func10, Try.ntmps10
  go_wp2_with fail
  refine hw.mono ?_
  rintro e w' ⟨rfl, rfl⟩
  go_wp2_with fail
  refine hR.mono ?_
  rintro e w2 ⟨v2, rfl, hb2⟩
  have K : Hid (NewL w' (growR S 0 n m true).reverse v2 w2) := hb2
  clear hb2 hR hw
  go_wp2
  go_ret2
  exact ⟨_, rfl, _, rfl, K.out⟩
theorem revL_of (L : List Bs) : revL (fun j => L.reverse[j]!) L.length = L := by
  induction L with
  | nil => rfl
  | cons T L ih =>
    rw [List.length_cons, revL]
    have h1 : (T :: L).reverse[L.length]! = T := by
      rw [List.reverse_cons]
      have := nth_last L.reverse T
      rwa [List.length_reverse] at this
    have h2 : ∀ k, k ≤ L.length → revL (fun j => (T :: L).reverse[j]!) k = revL (fun j => L.reverse[j]!) k := fun k => by
      induction k with
      | zero => intro _; rfl
      | succ k ihk =>
        intro hk
        rw [revL, revL, ihk (by omega)]
        congr 1
        show (T :: L).reverse[k]! = L.reverse[k]!
        rw [List.reverse_cons, nth_front _ _ _ (by rw [List.length_reverse]; omega)]
    rw [h2 _ (Nat.le_refl _), ih]
    exact congrArg (· :: L) h1
theorem HL.lists {W : World} {B U : Nat} {v : Value} {L : List Bs} (h : HL W B U v L) : ∃ q c, v = .slice q L.length c ∧ L.length ≤ c ∧ Lists W q L.length (fun j => L[j]!) := by
  rcases h with ⟨rfl, rfl⟩ | ⟨g, cap, vs, cur, gs, rfl, h2, h3, h4, h5, h6, -⟩
  · exact ⟨none, 0, rfl, Nat.le_refl _, fun h => by simp at h⟩
  · refine ⟨_, cap, rfl, by rw [← h2]; exact h5.fits, fun _ => ⟨g, 0, rfl, h5.lt, fun j hj => ?_⟩⟩
    obtain ⟨e1, e2, e3, e4, e5⟩ := h6 j hj
    have hh := h5.cell0 (j := j) (by omega)
    rw [e1] at hh
    refine ⟨_, by rw [Nat.zero_add]; exact hh, ⟨_, _, _, rfl⟩, part_h e4 e5⟩
end Go.Proofs.Ythbgppnhlpjngaa
namespace Go.Proofs.Ythbgppnhlpjngaa
open Go.RowKit Go.Sort Go.Deep
/-- n slices of 32 bytes in block kl, each in a block of its own. -/
structure Rack (W : World) (kl n : Nat) (G : Nat → Nat) (T : Nat → Bs) : Prop where
  cell : ∀ j, j < n → W.cell? ⟨kl, j, none⟩ = some (.slice (some ⟨G j, 0, none⟩) 32 32)
  hold : ∀ j, j < n → Holds encB W (G j) 0 (T j)
  sz : ∀ j, j < n → (T j).size = 32
  ne : ∀ j, j < n → G j ≠ kl
  inj : ∀ j j', j < n → j' < n → G j = G j' → j = j'
theorem Rack.lt {W : World} {kl n : Nat} {G : Nat → Nat} {T : Nat → Bs} (h : Rack W kl n G T) {j : Nat} (hj : j < n) : G j < W.heap.size := Holds.lt (h.hold j hj) (by rw [h.sz j hj]; omega)
theorem Rack.below {W w1 : World} {kl n B : Nat} {G : Nat → Nat} {T : Nat → Bs} (h : Rack W kl n G T) (hb : Below B W w1) (hk : kl < B) (hG : ∀ j, j < n → G j < B) : Rack w1 kl n G T :=
  ⟨fun j hj => by rw [hb.cell (p := ⟨kl, j, none⟩) hk]; exact h.cell j hj, fun j hj => Holds.below (h.hold j hj) hb (hG j hj), h.sz, h.ne, h.inj⟩
theorem Rack.drew {W : World} {kl n : Nat} {G : Nat → Nat} {T : Nat → Bs} (h : Rack W kl n G T) : Rack W.drew kl n G T := ⟨h.cell, h.hold, h.sz, h.ne, h.inj⟩
theorem Rack.drewN {W : World} {kl n : Nat} {G : Nat → Nat} {T : Nat → Bs} (h : Rack W kl n G T) (q : Nat) : Rack (W.drewN q) kl n G T := ⟨h.cell, h.hold, h.sz, h.ne, h.inj⟩
/-- Row i's byte k written anew. -/
def updX (T : Nat → Bs) (i : Nat) (b : Bs) : Nat → Bs := fun j => if j = i then b else T j
theorem updX_same (T : Nat → Bs) (i : Nat) (b : Bs) : updX T i b i = b := by simp [updX]
theorem updX_other (T : Nat → Bs) (i j : Nat) (b : Bs) (h : j ≠ i) : updX T i b j = T j := by simp [updX, h]
theorem Rack.set {W : World} {kl n i k : Nat} {G : Nat → Nat} {T : Nat → Bs} (h : Rack W kl n G T) (hi : i < n) (hk : k < 32) (x : UInt8) : Rack (W.setCell ⟨G i, k, none⟩ (encB x)) kl n G (updX T i ((T i).setIfInBounds k x)) := by
  have hO : Only (G i) 0 32 W (W.setCell ⟨G i, k, none⟩ (encB x)) := (Only.refl _ _ _ _).setCell (Nat.zero_le _) (by omega) _
  refine ⟨fun j hj => ?_, fun j hj => ?_, fun j hj => ?_, h.ne, h.inj⟩
  · rw [World.cell?_setCell_other _ _ _ _ (by intro e; simp only [Addr.mk.injEq, and_true] at e; exact h.ne i hi e.1)]
    exact h.cell j hj
  · by_cases e : j = i
    · subst e
      rw [updX_same]
      have := Holds.set (h.hold j hj) (i := k) (by rw [h.sz j hj]; exact hk) x
      rw [Nat.zero_add] at this
      exact this
    · rw [updX_other _ _ _ _ e]
      exact Holds.other (h.hold j hj) hO (fun e' => e (h.inj j i hj hi e')) (by rw [h.sz j hj]; omega)
  · by_cases e : j = i
    · subst e
      rw [updX_same, Array.size_setIfInBounds, h.sz j hj]
    · rw [updX_other _ _ _ _ e, h.sz j hj]
/-- A list of texts that grows, in a block from B on. -/
def SL (W : World) (B k : Nat) (v : Value) (S : Nat → ByteArray) : Prop :=
  (k = 0 ∧ v = .slice none 0 0) ∨ ∃ g cap vs cur, v = .slice (some ⟨g, 0, none⟩) k cap ∧ vs.length = k ∧ 0 < k ∧ B ≤ g ∧ ListAt W g cap vs cur ∧ ∀ j, j < k → vs[j]! = .string (S j)
theorem ListAt.cell {W : World} {g cap : Nat} {vs : List Value} {cur : Array Value} (h : ListAt W g cap vs cur) {j : Nat} (hj : j < vs.length) : W.cell? ⟨g, j, none⟩ = some vs[j]! := by
  have := (h.holds j (by rw [h.size]; have := h.fits; omega)).1
  rw [h.front j hj, Nat.zero_add] at this
  exact this
theorem ListAt.other {W w1 : World} {g cap b o m : Nat} {vs : List Value} {cur : Array Value} (h : ListAt W g cap vs cur) (k : Only b o m W w1) (hb : g ≠ b) (hv : 0 < vs.length) : ListAt w1 g cap vs cur :=
  ⟨Nat.lt_of_lt_of_le h.lt k.size, h.size, h.fits, Holds.other h.holds k hb (by rw [h.size]; have := h.fits; omega), h.front⟩
theorem SL.below {W w1 : World} {B k : Nat} {v : Value} {S : Nat → ByteArray} (h : SL W B k v S) (hb : Below W.heap.size W w1) : SL w1 B k v S := by
  rcases h with h | ⟨g, cap, vs, cur, h1, h2, h3, h4, h5, h6⟩
  · exact Or.inl h
  · exact Or.inr ⟨g, cap, vs, cur, h1, h2, h3, h4, h5.below hb, h6⟩
theorem SL.drewN {W : World} {B k : Nat} {v : Value} {S : Nat → ByteArray} (h : SL W B k v S) (q : Nat) : SL (W.drewN q) B k v S := h.below ⟨rfl, rfl, rfl, Nat.le_refl _, fun _ _ => rfl⟩
theorem SL.drew {W : World} {B k : Nat} {v : Value} {S : Nat → ByteArray} (h : SL W B k v S) : SL W.drew B k v S := h.below ⟨rfl, rfl, rfl, Nat.le_refl _, fun _ _ => rfl⟩
/-- What turns in one block that holds no text at its beginning turns no list of texts. -/
theorem SL.only {W w1 : World} {B k b o m : Nat} {v : Value} {S : Nat → ByteArray} (h : SL W B k v S) (hO : Only b o m W w1) (hb : ∀ s, W.cell? ⟨b, 0, none⟩ ≠ some (.string s)) : SL w1 B k v S := by
  rcases h with h | ⟨g, cap, vs, cur, h1, h2, h3, h4, h5, h6⟩
  · exact Or.inl h
  · refine Or.inr ⟨g, cap, vs, cur, h1, h2, h3, h4, h5.other hO (fun e => ?_) (by omega), h6⟩
    have := h5.cell (j := 0) (by omega)
    rw [h6 0 h3, e] at this
    exact hb _ this
theorem SL.push {W : World} {B k : Nat} {v : Value} {S : Nat → ByteArray} (h : SL W B k v S) (hB : B ≤ W.heap.size) (hk : k ≤ 1048576) {x : ByteArray} (hx : x = S k) :
    ∃ v' w', (Builtin.append_ #[22, 22] 22 #[v, .slice (some ⟨W.heap.size, 0, none⟩) 1 1]).run Try.prog (W.alloc (.cells #[.string x] 9)) = .ok v' w' ∧ SL w' B (k + 1) v' S ∧ Below B W w' := by
  have hr : (W.alloc (.cells #[.string x] 9)).cell? ⟨W.heap.size, 0, none⟩ = some (.string x) := by simp
  have hb0 : Below W.heap.size W (W.alloc (.cells #[.string x] 9)) := (Below.refl _ _).alloc (Nat.le_refl _) _
  have hs0 : (W.alloc (.cells #[.string x] 9)).heap.size = W.heap.size + 1 := by simp
  have hx1 : (Value.string x).oneCell' = true := rfl
  rcases h with ⟨rfl, rfl⟩ | ⟨g, cap, vs, cur, rfl, h2, h3, h4, h5, h6⟩
  · obtain ⟨cap', cur', w', hap, hL, hb2⟩ := append_firstS slice45 info9 rfl hr hx1
    have hbb := hb0.trans (hb2.mono (by omega))
    refine ⟨_, w', hap, Or.inr ⟨_, cap', _, cur', rfl, rfl, by omega, by omega, hL, fun j hj => ?_⟩, hbb.mono hB⟩
    have hj0 : j = 0 := by omega
    subst hj0
    rw [hx]; rfl
  · have h5' := h5.below hb0
    subst h2
    obtain ⟨g', cap', cur', w', hap, hL, hO, hg'⟩ := append_valS slice45 info9 rfl h5' hr hx1 hk
    have hg := h5.lt
    refine ⟨_, w', hap, Or.inr ⟨g', cap', _, cur', rfl, by rw [List.length_append]; rfl, by omega, by omega, hL, fun j hj => ?_⟩, (hb0.mono hB).trans (hO.below (by omega) h4)⟩
    by_cases hj1 : j = vs.length
    · rw [hj1, val_last, hx]
    · rw [val_front _ _ _ (by omega)]; exact h6 j (by omega)
/-- A list of slices that grows, in a block from B on; each of them in a block of its own, from B on. -/
def GL (W : World) (B k : Nat) (v : Value) (T : Nat → Bs) : Prop :=
  (k = 0 ∧ v = .slice none 0 0) ∨ ∃ g cap vs cur, v = .slice (some ⟨g, 0, none⟩) k cap ∧ vs.length = k ∧ 0 < k ∧ B ≤ g ∧ ListAt W g cap vs cur ∧ ∀ j, j < k → ∃ gx c, vs[j]! = .slice (some ⟨gx, 0, none⟩) (T j).size c ∧ B ≤ gx ∧ 0 < (T j).size ∧ Holds encB W gx 0 (T j)
theorem Holds.ne_of_cell {W : World} {g b : Nat} {T : Bs} (h : Holds encB W g 0 T) (hT : 0 < T.size) (hb : ∀ i, W.cell? ⟨b, 0, none⟩ ≠ some (.int .u8 i)) : g ≠ b := fun e => by
  have := (h 0 hT).1
  rw [e] at this
  exact hb _ this
theorem GL.below {W w1 : World} {B k : Nat} {v : Value} {T : Nat → Bs} (h : GL W B k v T) (hb : Below W.heap.size W w1) : GL w1 B k v T := by
  rcases h with h | ⟨g, cap, vs, cur, h1, h2, h3, h4, h5, h6⟩
  · exact Or.inl h
  · refine Or.inr ⟨g, cap, vs, cur, h1, h2, h3, h4, h5.below hb, fun j hj => ?_⟩
    obtain ⟨gx, c, e1, e2, e3, e4⟩ := h6 j hj
    exact ⟨gx, c, e1, e2, e3, Holds.below e4 hb (Holds.lt e4 e3)⟩
theorem GL.drewN {W : World} {B k : Nat} {v : Value} {T : Nat → Bs} (h : GL W B k v T) (q : Nat) : GL (W.drewN q) B k v T := h.below ⟨rfl, rfl, rfl, Nat.le_refl _, fun _ _ => rfl⟩
/-- 'grown = append(grown, g)': texts in another list stay. -/
theorem GL.push {W : World} {B k m gx c : Nat} {v u : Value} {T : Nat → Bs} {S : Nat → ByteArray} (h : GL W B k v T) (hS : SL W B m u S) (hB : B ≤ W.heap.size) (hk : k ≤ 1048576) (hgx : B ≤ gx) (hT : 0 < (T k).size) (hH : Holds encB W gx 0 (T k)) {l : Nat} (hl : l = (T k).size) :
    ∃ v' w', (Builtin.append_ #[24, 24] 24 #[v, .slice (some ⟨W.heap.size, 0, none⟩) 1 1]).run Try.prog (W.alloc (.cells #[.slice (some ⟨gx, 0, none⟩) l c] 26)) = .ok v' w' ∧ GL w' B (k + 1) v' T ∧ SL w' B m u S ∧ Below B W w' := by
  subst hl
  have hr : (W.alloc (.cells #[.slice (some ⟨gx, 0, none⟩) (T k).size c] 26)).cell? ⟨W.heap.size, 0, none⟩ = some (.slice (some ⟨gx, 0, none⟩) (T k).size c) := by simp
  have hb0 : Below W.heap.size W (W.alloc (.cells #[.slice (some ⟨gx, 0, none⟩) (T k).size c] 26)) := (Below.refl _ _).alloc (Nat.le_refl _) _
  have hs0 : (W.alloc (.cells #[.slice (some ⟨gx, 0, none⟩) (T k).size c] 26)).heap.size = W.heap.size + 1 := by simp
  have hx1 : (Value.slice (some ⟨gx, 0, none⟩) (T k).size c).oneCell' = true := rfl
  have hgl := Holds.lt hH hT
  rcases h with ⟨rfl, rfl⟩ | ⟨g, cap, vs, cur, rfl, h2, h3, h4, h5, h6⟩
  · obtain ⟨cap', cur', w', hap, hL, hb2⟩ := append_firstL slice46 info23 rfl hr hx1
    have hbb := hb0.trans (hb2.mono (by omega))
    refine ⟨_, w', hap, Or.inr ⟨_, cap', _, cur', rfl, rfl, by omega, by omega, hL, fun j hj => ?_⟩, hS.below hbb, hbb.mono hB⟩
    have hj0 : j = 0 := by omega
    subst hj0
    exact ⟨gx, c, rfl, hgx, hT, Holds.below hH hbb hgl⟩
  · have h5' := h5.below hb0
    have hS' := hS.below hb0
    subst h2
    obtain ⟨g', cap', cur', w', hap, hL, hO, hg'⟩ := append_valL slice46 info23 rfl h5' hr hx1 hk
    have hg := h5.lt
    have hc0 := h5'.cell (j := 0) h3
    obtain ⟨g0, c0, e0, -⟩ := h6 0 h3
    rw [e0] at hc0
    have hnb : ∀ {y : Nat} {U : Bs}, Holds encB (W.alloc (.cells #[.slice (some ⟨gx, 0, none⟩) (T vs.length).size c] 26)) y 0 U → 0 < U.size → Holds encB w' y 0 U := fun hU hu =>
      Holds.other hU hO (Holds.ne_of_cell hU hu (fun i e => by rw [hc0] at e; cases e)) hu
    refine ⟨_, w', hap, Or.inr ⟨g', cap', _, cur', rfl, by rw [List.length_append]; rfl, by omega, by omega, hL, fun j hj => ?_⟩, hS'.only hO (fun s e => by rw [hc0] at e; cases e), (hb0.mono hB).trans (hO.below (by omega) h4)⟩
    by_cases hj1 : j = vs.length
    · subst hj1
      rw [val_last]
      exact ⟨gx, c, rfl, hgx, hT, hnb (Holds.below hH hb0 hgl) hT⟩
    · obtain ⟨gy, d, e1, e2, e3, e4⟩ := h6 j (by omega)
      rw [val_front _ _ _ (by omega)]
      exact ⟨gy, d, e1, e2, e3, hnb (Holds.below e4 hb0 (Holds.lt e4 e3)) e3⟩
end Go.Proofs.Ythbgppnhlpjngaa
namespace Go.Proofs.Ythbgppnhlpjngaa
open Go.RowKit Go.Sort Go.Deep
/-- What Apart lays behind list i, at place j. -/
def fillB (i j : Nat) : UInt8 := UInt8.ofNat ((i * 37 + j) % 253) ^^^ 90
theorem fillB_int (i j : Nat) : bits .xor .u8 (((i : Int) * 37 + (j : Int)) % 253) 90 = ub (fillB i j) := by
  have H : ∀ j : Fin 253, bits .xor .u8 (j.val : Int) 90 = ub (UInt8.ofNat j.val ^^^ 90) := by decide +kernel
  have := H ⟨(i * 37 + j) % 253, Nat.mod_lt _ (by decide)⟩
  have e : (((i * 37 + j) % 253 : Nat) : Int) = ((i : Int) * 37 + (j : Int)) % 253 := by omega
  simp only [e] at this
  exact this
def rowL (b : Bs) (i : Nat) : Nat → List UInt8
  | 0 => b.toList
  | j + 1 => rowL b i j ++ [fillB i j]
theorem rowL_length (b : Bs) (i : Nat) (hb : b.size = 32) : ∀ j, (rowL b i j).length = 32 + j
  | 0 => by rw [rowL, Array.length_toList, hb]
  | j + 1 => by rw [rowL, List.length_append, rowL_length b i hb j]; rfl
theorem u8_front (a b : List UInt8) (j : Nat) (h : j < a.length) : (a ++ b)[j]! = a[j]! := by
  rw [getElem!_pos (a ++ b) j (by rw [List.length_append]; omega), getElem!_pos a j h, List.getElem_append_left h]
theorem u8_last (a : List UInt8) (x : UInt8) : (a ++ [x])[a.length]! = x := by
  rw [getElem!_pos (a ++ [x]) a.length (by simp)]
  simp
theorem rowL_low (b : Bs) (i : Nat) (hb : b.size = 32) (k : Nat) (hk : k < 32) : ∀ j, (rowL b i j)[k]! = b[k]!
  | 0 => by
    rw [rowL, getElem!_pos b.toList k (by rw [Array.length_toList]; omega), getElem!_pos b k (by omega), Array.getElem_toList]
  | j + 1 => by rw [rowL, u8_front _ _ _ (by rw [rowL_length b i hb]; omega), rowL_low b i hb k hk j]
theorem rowL_high (b : Bs) (i : Nat) (hb : b.size = 32) (k : Nat) : ∀ j, k < j → (rowL b i j)[32 + k]! = fillB i k
  | 0, h => absurd h (by omega)
  | j + 1, h => by
    rw [rowL]
    by_cases e : k = j
    · subst e
      rw [← rowL_length b i hb k, u8_last]
    · rw [u8_front _ _ _ (by rw [rowL_length b i hb]; omega), rowL_high b i hb k j (by omega)]
theorem map_enc_at (l : List UInt8) (j : Nat) (h : j < l.length) : (l.map encB)[j]! = encB l[j]! := by
  rw [getElem!_pos (l.map encB) j (by rw [List.length_map]; exact h), getElem!_pos l j h, List.getElem_map]
theorem list_arr (l : List UInt8) (j : Nat) (h : j < l.length) : l.toArray[j]! = l[j]! := by
  rw [getElem!_pos l.toArray j (by simpa using h), getElem!_pos l j h]
  simp
/-- A list of bytes, as values. -/
theorem ListAt.bytes {W : World} {g cap : Nat} {l : List UInt8} {cur : Array Value} (h : ListAt W g cap (l.map encB) cur) : Holds encB W g 0 l.toArray := fun j hj => by
  have hj' : j < l.length := by simpa using hj
  have h1 := h.holds j (by rw [h.size]; have := h.fits; rw [List.length_map] at this; omega)
  rw [h.front j (by rw [List.length_map]; exact hj'), map_enc_at _ _ hj'] at h1
  rw [list_arr _ _ hj']
  exact h1
theorem ListAt.of {W : World} {g : Nat} {b : Bs} (h : Holds encB W g 0 b) (hb : 0 < b.size) : ListAt W g b.size (b.toList.map encB) (b.map encB) := by
  have e : ∀ j, j < b.size → (b.map encB)[j]! = encB b[j]! := fun j hj => by
    rw [getElem!_pos (b.map encB) j (by simpa using hj), getElem!_pos b j hj, Array.getElem_map]
  refine ⟨Holds.lt h hb, by simp, by simp, fun j hj => ?_, fun j hj => ?_⟩
  · have hj' : j < b.size := by simpa using hj
    rw [e j hj']
    exact h j hj'
  · have hj' : j < b.size := by simpa using hj
    rw [e j hj', map_enc_at _ _ (by simpa using hj'), getElem!_pos b j hj', getElem!_pos b.toList j (by simpa using hj'), Array.getElem_toList]
/-- A list that grows: as yet what was handed in, or a copy from block N on. -/
def GB (W : World) (N gi : Nat) (v : Value) (b : Bs) (i j : Nat) : Prop :=
  (j = 0 ∧ v = .slice (some ⟨gi, 0, none⟩) 32 32) ∨ (0 < j ∧ ∃ g cap cur, v = .slice (some ⟨g, 0, none⟩) (32 + j) cap ∧ N ≤ g ∧ ListAt W g cap ((rowL b i j).map encB) cur)
theorem GB.push {W : World} {N gi i j : Nat} {v : Value} {b : Bs} (h : GB W N gi v b i j) (hH : Holds encB W gi 0 b) (hb : b.size = 32) (hN : N ≤ W.heap.size) (hj : j ≤ 1048000) {x : Value} (hx : x = encB (fillB i j)) :
    ∃ v' w', (Builtin.append_ #[26, 26] 26 #[v, .slice (some ⟨W.heap.size, 0, none⟩) 1 1]).run Try.prog (W.alloc (.cells #[x] 5)) = .ok v' w' ∧ GB w' N gi v' b i (j + 1) ∧ Below N W w' := by
  subst hx
  have hr : (W.alloc (.cells #[encB (fillB i j)] 5)).cell? ⟨W.heap.size, 0, none⟩ = some (encB (fillB i j)) := by simp
  have hb0 : Below W.heap.size W (W.alloc (.cells #[encB (fillB i j)] 5)) := (Below.refl _ _).alloc (Nat.le_refl _) _
  have hs0 : (W.alloc (.cells #[encB (fillB i j)] 5)).heap.size = W.heap.size + 1 := by simp
  have hx1 : (encB (fillB i j)).oneCell' = true := rfl
  have hl := rowL_length b i hb j
  have hnext : (rowL b i (j + 1)).map encB = (rowL b i j).map encB ++ [encB (fillB i j)] := by rw [rowL, List.map_append]; rfl
  rcases h with ⟨rfl, rfl⟩ | ⟨h0, g, cap, cur, rfl, hg, hL⟩
  · have hgl := Holds.lt hH (by omega)
    have hL := ListAt.of (Holds.below hH hb0 hgl) (by omega)
    obtain ⟨g', cap', cur', w', hap, hL2, hO, hg'⟩ := append_valB slice22 info5 rfl hL hr hx1 (by rw [List.length_map, Array.length_toList, hb]; omega)
    rw [List.length_map, Array.length_toList, hb] at hap hg'
    rcases hg' with ⟨h1, -⟩ | ⟨h1, h2⟩
    · omega
    · refine ⟨_, w', hap, Or.inr ⟨by omega, g', cap', cur', rfl, by omega, ?_⟩, (hb0.trans (h2.mono (by omega))).mono hN⟩
      rw [hnext]
      exact hL2
  · have hL1 := hL.below hb0
    obtain ⟨g', cap', cur', w', hap, hL2, hO, hg'⟩ := append_valB slice22 info5 rfl hL1 hr hx1 (by rw [List.length_map, hl]; omega)
    rw [List.length_map, hl] at hap hg'
    refine ⟨_, w', hap, Or.inr ⟨by omega, g', cap', cur', rfl, ?_, ?_⟩, (hb0.mono hN).trans (hO.below (by omega) hg)⟩
    · rcases hg' with ⟨-, h1⟩ | ⟨h1, -⟩ <;> omega
    · rw [hnext]
      exact hL2
theorem GB.done {W : World} {N gi i : Nat} {v : Value} {b : Bs} (h : GB W N gi v b i 80) : ∃ g cap, v = .slice (some ⟨g, 0, none⟩) 112 cap ∧ N ≤ g ∧ Holds encB W g 0 (rowL b i 80).toArray := by
  rcases h with ⟨h0, -⟩ | ⟨-, g, cap, cur, h1, h2, h3⟩
  · exact absurd h0 (by decide)
  · exact ⟨g, cap, h1, h2, h3.bytes⟩
theorem GB.drewN {W : World} {N gi i j : Nat} {v : Value} {b : Bs} (h : GB W N gi v b i j) (q : Nat) : GB (W.drewN q) N gi v b i j := by
  rcases h with h0 | ⟨h0, g, cap, cur, h1, h2, h3⟩
  · exact Or.inl h0
  · exact Or.inr ⟨h0, g, cap, cur, h1, h2, h3.below ⟨rfl, rfl, rfl, Nat.le_refl _, fun _ _ => rfl⟩⟩
theorem SL.at {W : World} {B k : Nat} {v : Value} {S : Nat → ByteArray} (h : SL W B k v S) (hk : 0 < k) : ∃ g cap, v = .slice (some ⟨g, 0, none⟩) k cap ∧ ∀ j, j < k → W.cell? ⟨g, j, none⟩ = some (.string (S j)) := by
  rcases h with ⟨h0, -⟩ | ⟨g, cap, vs, cur, h1, h2, h3, h4, h5, h6⟩
  · omega
  · exact ⟨g, cap, h1, fun j hj => by rw [← h6 j hj]; exact h5.cell (by omega)⟩
theorem GL.at {W : World} {B k : Nat} {v : Value} {T : Nat → Bs} (h : GL W B k v T) (hk : 0 < k) : ∃ g cap, v = .slice (some ⟨g, 0, none⟩) k cap ∧ ∀ j, j < k → ∃ gx c, W.cell? ⟨g, j, none⟩ = some (.slice (some ⟨gx, 0, none⟩) (T j).size c) ∧ Holds encB W gx 0 (T j) := by
  rcases h with ⟨h0, -⟩ | ⟨g, cap, vs, cur, h1, h2, h3, h4, h5, h6⟩
  · omega
  · refine ⟨g, cap, h1, fun j hj => ?_⟩
    obtain ⟨gx, c, e1, -, -, e4⟩ := h6 j hj
    exact ⟨gx, c, by rw [← e1]; exact h5.cell (by omega), e4⟩
end Go.Proofs.Ythbgppnhlpjngaa
namespace Go.Proofs.Ythbgppnhlpjngaa
open Go.RowKit Go.Sort Go.Deep
/-- The first k bytes of a row, each one more. -/
def incTo (b : Bs) : Nat → Bs
  | 0 => b
  | k + 1 => (incTo b k).setIfInBounds k (b[k]! + 1)
theorem incTo_size (b : Bs) : ∀ k, (incTo b k).size = b.size
  | 0 => rfl
  | k + 1 => by rw [incTo, Array.size_setIfInBounds, incTo_size b k]
theorem incTo_at (b : Bs) : ∀ k j, k ≤ b.size → (incTo b k)[j]! = if j < k then b[j]! + 1 else b[j]!
  | 0, j, _ => by simp [incTo]
  | k + 1, j, hk => by
    rw [incTo]
    by_cases e : j = k
    · subst e
      rw [getElem!_set_same _ _ _ (by rw [incTo_size]; omega), if_pos (by omega)]
    · rw [getElem!_set_other _ _ _ _ e, incTo_at b k j (by omega)]
      by_cases h : j < k
      · rw [if_pos h, if_pos (by omega)]
      · rw [if_neg h, if_neg (by omega)]
/-- The rows, where i of them are done, and k bytes of row i. -/
def T2 (T : Nat → Bs) (i k : Nat) : Nat → Bs := fun j => if j < i then incTo (T j) 32 else if j = i then incTo (T j) k else T j
theorem T2_zero (T : Nat → Bs) : T2 T 0 0 = T := by
  funext j
  unfold T2
  rw [if_neg (by omega)]
  by_cases h : j = 0
  · rw [if_pos h]; rfl
  · rw [if_neg h]
theorem T2_next (T : Nat → Bs) (i : Nat) : T2 T i 32 = T2 T (i + 1) 0 := by
  funext j
  unfold T2
  by_cases h : j < i
  · rw [if_pos h, if_pos (by omega)]
  · rw [if_neg h]
    by_cases h2 : j = i
    · rw [if_pos h2, if_pos (by omega)]
    · rw [if_neg h2, if_neg (by omega)]
      by_cases h3 : j = i + 1
      · rw [if_pos h3]; rfl
      · rw [if_neg h3]
theorem T2_own (T : Nat → Bs) (i k : Nat) : T2 T i k i = incTo (T i) k := by unfold T2; rw [if_neg (by omega), if_pos rfl]
theorem T2_step (T : Nat → Bs) (i k : Nat) : updX (T2 T i k) i ((T2 T i k i).setIfInBounds k ((T i)[k]! + 1)) = T2 T i (k + 1) := by
  funext j
  by_cases h : j = i
  · subst h
    rw [updX_same, T2_own, T2_own]
    rfl
  · rw [updX_other _ _ _ _ h]
    unfold T2
    rw [if_neg h, if_neg h]
/-- What has grown of row j. -/
def T3X (T : Nat → Bs) (j : Nat) : Bs := (rowL (incTo (T j) 32) j 80).toArray
theorem T3X_size (T : Nat → Bs) (j : Nat) (h : (T j).size = 32) : (T3X T j).size = 112 := by unfold T3X; rw [List.size_toArray, rowL_length _ _ (by rw [incTo_size, h])]
theorem T2_all (T : Nat → Bs) (n j : Nat) (h : j < n) : T2 T n 0 j = incTo (T j) 32 := by unfold T2; rw [if_pos h]
theorem ub_succ (x : UInt8) : IntKind.u8.wrap (ub x + 1) = ub (x + 1) := by
  have H : ∀ j : Fin 256, IntKind.u8.wrap ((j.val : Int) + 1) = (((UInt8.ofNat j.val + 1).toNat : Nat) : Int) := by decide +kernel
  have := H ⟨x.toNat, x.toNat_lt⟩
  unfold ub
  simp only [UInt8.ofNat_toNat] at this
  exact this
/-- All that stands behind the writing. -/
structure Stand (w W : World) (B kl n : Nat) (G : Nat → Nat) (T : Nat → Bs) (sv gv : Value) : Prop where
  bl : Below B w W
  r : Rack W kl n G (T2 T n 0)
  s : SL W w.heap.size n sv (fun j => ⟨T j⟩)
  g : GL W w.heap.size n gv (T3X T)
theorem Stand.drewN {w W : World} {B kl n : Nat} {G : Nat → Nat} {T : Nat → Bs} {sv gv : Value} (h : Stand w W B kl n G T sv gv) (q : Nat) : Stand w (W.drewN q) B kl n G T sv gv :=
  ⟨⟨h.bl.os, h.bl.tape, h.bl.output, h.bl.size, h.bl.block⟩, h.r.drewN q, h.s.drewN q, h.g.drewN q⟩
/-- Row p, as it is looked at. -/
structure Look (W : World) (kl gs gg p g gx cx : Nat) (s : ByteArray) (b b3 : Bs) : Prop where
  cl : W.cell? ⟨kl, p, none⟩ = some (.slice (some ⟨g, 0, none⟩) 32 32)
  cs : W.cell? ⟨gs, p, none⟩ = some (.string s)
  cg : W.cell? ⟨gg, p, none⟩ = some (.slice (some ⟨gx, 0, none⟩) 112 cx)
  hl : Holds encB W g 0 b
  hg : Holds encB W gx 0 b3
theorem Look.drewN {W : World} {kl gs gg p g gx cx : Nat} {s : ByteArray} {b b3 : Bs} (h : Look W kl gs gg p g gx cx s b b3) (q : Nat) : Look (W.drewN q) kl gs gg p g gx cx s b b3 := ⟨h.cl, h.cs, h.cg, h.hl, h.hg⟩
set_option maxHeartbeats 4000000 in
set_option maxRecDepth 100000 in
theorem Apart_any (kl n c B : Nat) (q : Option Addr) (G : Nat → Nat) (T : Nat → Bs) (w : World) (hn : n ≤ 256) (hq : 0 < n → q = some ⟨kl, 0, none⟩ ∧ kl < w.heap.size) (hR : Rack w kl n G T) (hB : ∀ j, j < n → B ≤ G j) (hBw : B ≤ w.heap.size) :
    Calls Try.prog 15 #[.slice q n c] w (Ret fun e w' => Below B w w' ∧ e = .bool true) := by
  have HR : Hid (Rack w kl n G T) := hR
  have HB : Hid (∀ j, j < n → B ≤ G j) := hB
  have HQ : Hid (0 < n → q = some ⟨kl, 0, none⟩ ∧ kl < w.heap.size) := hq
  have HGL : Hid (∀ j, j < n → G j < w.heap.size) := fun j hj => hR.lt hj
  clear hR hB hq
  go_enter Try.func15, Try.ntmps15
  go_wp2
  go_loopg [3, 4] n (fun gk s3 s4 wr => ∃ (i : Nat) (sv : Value), i + gk = n ∧ sv = s3 ∧ s4 = .int .i64 (i : Int) ∧ Below w.heap.size w wr ∧ Hid (SL wr w.heap.size i sv (fun j => ⟨T j⟩)))
  case atStart => exact ⟨0, _, Nat.zero_add _, rfl, rfl, Below.refl _ _, Or.inl ⟨rfl, rfl⟩⟩
  case round =>
    obtain ⟨i, sv, hi, rfl, rfl, hb, HS⟩ := hrel
    by_cases hlt : i < n
    · have hlt' : (i : Int) < (n : Int) := by omega
      obtain ⟨rfl, hkl⟩ := HQ.out (by omega)
      have hc : wr.cell? ⟨kl, i, none⟩ = some (.slice (some ⟨G i, 0, none⟩) 32 32) := by rw [hb.cell (p := ⟨kl, i, none⟩) hkl]; exact HR.out.cell i hlt
      have hcv := conv_str Try.prog 26 9 5 slice22 int5 str9 wr (G i) 0 32 32 _ (Holds.below (HR.out.hold i hlt) hb (HGL.out i hlt)) (HR.out.sz i hlt)
      obtain ⟨v', w3, hap, hL3, hb3⟩ := SL.push HS.out hb.size (by omega) (x := ⟨T i⟩) rfl
      have HL3 : Hid _ := hL3
      generalize G i = g at hc hcv
      generalize (⟨T i⟩ : ByteArray) = s at hcv hap
      clear hkl hL3
      go_wp2_with (at_builtin; refine Lib.wpList_append_run _ rfl _ _ 22 22 rfl _ _ rfl rfl _ _ hap ?_)
      go_roundg (gk - 1)
      case measure => omega
      case rel => exact ⟨i + 1, _, by omega, rfl, rfl, hb.trans hb3, HL3.out⟩
    · have hge : ¬ (i : Int) < (n : Int) := by omega
      have hin : i = n := by omega
      subst hin
      have HR1 : Hid (Rack wr kl i G (T2 T 0 0)) := by
        unfold Hid
        rw [T2_zero]
        by_cases h0 : 0 < i
        · exact HR.out.below hb (HQ.out h0).2 HGL.out
        · exact ⟨fun j hj => absurd hj (by omega), fun j hj => absurd hj (by omega), fun j hj => absurd hj (by omega), fun j hj => absurd hj (by omega), fun j j' hj => absurd hj (by omega)⟩
      have HS1 : Hid (SL wr w.heap.size i sv (fun j => ⟨T j⟩)) := HS
      have hbB : Below B w wr := hb.mono hBw
      have hsz := hb.size
      clear HR HS hb hi hlt
      go_wp2
      clear hge
      go_loopg [5] i (fun gk s5 wr => ∃ k : Nat, k + gk = i ∧ s5 = .int .i64 (k : Int) ∧ Below B w wr ∧ w.heap.size ≤ wr.heap.size ∧ Hid (Rack wr kl i G (T2 T k 0)) ∧ Hid (SL wr w.heap.size i sv (fun j => ⟨T j⟩)))
      case atStart => exact ⟨0, Nat.zero_add _, rfl, hbB, hsz, HR1, HS1⟩
      case round =>
        clear HR1 HS1 hbB hsz
        obtain ⟨k, hk, rfl, hbB, hsz, HR1, HS1⟩ := hrel
        by_cases hlt : k < i
        · have hlt' : (k : Int) < (i : Int) := by omega
          obtain ⟨rfl, hkl⟩ := HQ.out (by omega)
          go_wp2
          go_loopg [6] 32 (fun gj s6 wr => ∃ j : Nat, j + gj = 32 ∧ s6 = .int .i64 (j : Int) ∧ Below B w wr ∧ w.heap.size ≤ wr.heap.size ∧ Hid (Rack wr kl i G (T2 T k j)) ∧ Hid (SL wr w.heap.size i sv (fun j => ⟨T j⟩)))
          case atStart => exact ⟨0, Nat.zero_add _, rfl, hbB, hsz, HR1, HS1⟩
          case round =>
            clear HR1 HS1 hbB hsz
            obtain ⟨j, hj, rfl, hbB, hsz, HR1, HS1⟩ := hrel
            have hc : wr.cell? ⟨kl, k, none⟩ = some (.slice (some ⟨G k, 0, none⟩) 32 32) := HR1.out.cell k hlt
            by_cases hj2 : j < 32
            · have hj3 : (j : Int) < 32 := by omega
              obtain ⟨x, hx⟩ : ∃ x, (T k)[j]! = x := ⟨_, rfl⟩
              have hh := HR1.out.hold k hlt j (by rw [HR1.out.sz k hlt]; exact hj2)
              have hsk : (T k).size = 32 := by have := HR1.out.sz k hlt; rw [T2_own, incTo_size] at this; exact this
              rw [T2_own, incTo_at _ _ _ (by omega), if_neg (by omega), hx, Nat.zero_add] at hh
              obtain ⟨hb0, hf0⟩ := hh
              unfold encB at hb0
              have hw := ub_succ x
              have HR2 : Hid (Rack (wr.setCell ⟨G k, j, none⟩ (encB (x + 1))) kl i G (T2 T k (j + 1))) := by
                unfold Hid
                rw [← T2_step, hx]
                exact HR1.out.set hlt hj2 (x + 1)
              have HS2 : Hid (SL (wr.setCell ⟨G k, j, none⟩ (encB (x + 1))) w.heap.size i sv (fun j => ⟨T j⟩)) := by
                refine SL.only HS1.out ((Only.refl (G k) 0 32 wr).setCell (o := j) (by omega) (by omega) _) (fun s e => ?_)
                have h0 := (HR1.out.hold k hlt 0 (by rw [HR1.out.sz k hlt]; omega)).1
                rw [Nat.zero_add, e] at h0
                cases h0
              have HB2 : Hid (Below B w (wr.setCell ⟨G k, j, none⟩ (encB (x + 1)))) := hbB.trans (((Only.refl (G k) 0 32 wr).setCell (o := j) (by omega) (by omega) _).below (by omega) (HB.out k hlt))
              unfold encB at HR2 HS2 HB2
              generalize G k = g at hc hb0 hf0 HR2 HS2 HB2
              clear HR1 HS1 hbB hsk hx
              generalize ub x = u at hb0 hw
              go_wp2_with fail
              go_still_tail 14, mixed
              go_wp2
              go_roundg (gk - 1)
              case measure => omega
              case rel => exact ⟨j + 1, by omega, rfl, HB2.out.drew, by simp only [World.size_setCell, World.size_drew]; exact hsz, HR2.out.drew, HS2.out.drew⟩
            · have hj3 : ¬ (j : Int) < 32 := by omega
              have hj4 : j = 32 := by omega
              subst hj4
              go_wp2
              go_roundg (i - (k + 1))
              case measure => omega
              case rel => exact ⟨k + 1, by omega, rfl, hbB, hsz, by rw [← T2_next]; exact HR1, HS1⟩
        · have hge : ¬ (k : Int) < (i : Int) := by omega
          have hki : k = i := by omega
          subst hki
          clear hlt hk
          go_wp2
          clear hge
          go_loopg [7, 8] k (fun gk s7 s8 wr => ∃ (i : Nat) (gv : Value), i + gk = k ∧ gv = s7 ∧ s8 = .int .i64 (i : Int) ∧ Below B w wr ∧ w.heap.size ≤ wr.heap.size ∧ Hid (Rack wr kl k G (T2 T k 0)) ∧ Hid (SL wr w.heap.size k sv (fun j => ⟨T j⟩)) ∧ Hid (GL wr w.heap.size i gv (T3X T)))
          case atStart => exact ⟨0, _, Nat.zero_add _, rfl, rfl, hbB, hsz, HR1, HS1, Or.inl ⟨rfl, rfl⟩⟩
          case round =>
            clear HR1 HS1 hbB hsz
            obtain ⟨i, gv, hi, rfl, rfl, hbB, hsz, HR1, HS1, HG1⟩ := hrel
            by_cases hlt : i < k
            · have hlt' : (i : Int) < (k : Int) := by omega
              obtain ⟨rfl, hkl⟩ := HQ.out (by omega)
              have hc : wr.cell? ⟨kl, i, none⟩ = some (.slice (some ⟨G i, 0, none⟩) 32 32) := HR1.out.cell i hlt
              have HT : Hid ((T i).size = 32) := by have := HR1.out.sz i hlt; rw [T2_all _ _ _ hlt, incTo_size] at this; exact this
              have HH : Hid (Holds encB wr (G i) 0 (incTo (T i) 32)) := by have := HR1.out.hold i hlt; rw [T2_all _ _ _ hlt] at this; exact this
              go_wp2
              clear hc
              generalize wr = w5 at hbB hsz HR1 HS1 HG1 HH ⊢
              go_loopg [9, 10] 80 (fun gk s9 s10 wr => ∃ (j : Nat) (bv : Value), j + gk = 80 ∧ bv = s9 ∧ s10 = .int .i64 (j : Int) ∧ Below w5.heap.size w5 wr ∧ Hid (GB wr w5.heap.size (G i) bv (incTo (T i) 32) i j))
              case atStart => exact ⟨0, _, Nat.zero_add _, rfl, rfl, Below.refl _ _, Or.inl ⟨rfl, rfl⟩⟩
              case round =>
                obtain ⟨j, bv, hj, rfl, rfl, hb5, HGB⟩ := hrel
                by_cases hj2 : j < 80
                · have hj3 : (j : Int) < 80 := by omega
                  have hf := fillB_int i j
                  obtain ⟨v', w3, hap, hL3, hb3⟩ := GB.push HGB.out (Holds.below HH.out hb5 (Holds.lt HH.out (by rw [incTo_size, HT.out]; omega))) (by rw [incTo_size, HT.out]) hb5.size (by omega) (x := .int .u8 (ub (fillB i j))) rfl
                  have HL3 : Hid _ := hL3
                  clear hL3
                  generalize ub (fillB i j) = u at hf hap
                  go_wp2_with (at_builtin; refine Lib.wpList_append_run _ rfl _ _ 26 26 rfl _ _ rfl rfl _ _ hap ?_)
                  go_roundg (gk - 1)
                  case measure => omega
                  case rel => exact ⟨j + 1, _, by omega, rfl, rfl, hb5.trans hb3, HL3.out⟩
                · have hj3 : ¬ (j : Int) < 80 := by omega
                  have hj4 : j = 80 := by omega
                  subst hj4
                  obtain ⟨g, cap, rfl, hg, hH⟩ := HGB.out.done
                  have hs5 := hb5.size
                  have hTs := T3X_size T i HT.out
                  obtain ⟨v', w3, hap, hL3, hS3, hb3⟩ := GL.push (HG1.out.below hb5) (HS1.out.below hb5) (by omega) (by omega) (gx := g) (c := cap) (by omega) (by omega) hH (l := 112) hTs.symm
                  have HL3 : Hid _ := hL3
                  have HS3 : Hid _ := hS3
                  have hb6 : Below w.heap.size w5 w3 := (hb5.mono hsz).trans hb3
                  have HR3 : Hid (Rack w3 kl k G (T2 T k 0)) := HR1.out.below hb6 hkl HGL.out
                  have hs3 := hb6.size
                  clear hL3 hS3 hH HGB HH hTs
                  go_wp2_with (at_builtin; refine Lib.wpList_append_run _ rfl _ _ 24 24 rfl _ _ rfl rfl _ _ hap ?_)
                  go_roundg (k - (i + 1))
                  case measure => omega
                  case rel => exact ⟨i + 1, _, by omega, rfl, rfl, hbB.trans (hb6.mono hBw), by omega, HR3, HS3.out, HL3.out⟩
            · have hge : ¬ (i : Int) < (k : Int) := by omega
              have hki : i = k := by omega
              subst hki
              clear hlt hi
              go_wp2
              clear hge
              go_loopg [11] i (fun gk s11 wr => ∃ p : Nat, p + gk = i ∧ s11 = .int .i64 (p : Int) ∧ Hid (Stand w wr B kl i G T sv gv))
              case atStart => exact ⟨0, Nat.zero_add _, rfl, hbB, HR1, HS1, HG1⟩
              case round =>
                clear HR1 HS1 HG1 hbB hsz
                obtain ⟨p, hp, rfl, HST⟩ := hrel
                by_cases hlt : p < i
                · have hlt' : (p : Int) < (i : Int) := by omega
                  obtain ⟨rfl, hkl⟩ := HQ.out (by omega)
                  obtain ⟨gs, cs, rfl, hS⟩ := HST.out.s.at (by omega)
                  obtain ⟨gg, cg, rfl, hG⟩ := HST.out.g.at (by omega)
                  obtain ⟨gx, cx, hcg, hHg⟩ := hG p hlt
                  have hcs := hS p hlt
                  have hcl := HST.out.r.cell p hlt
                  have hHl := HST.out.r.hold p hlt
                  have hT : (T p).size = 32 := by have := HST.out.r.sz p hlt; rw [T2_all _ _ _ hlt, incTo_size] at this; exact this
                  rw [T2_all _ _ _ hlt] at hHl
                  rw [T3X_size T p hT] at hcg
                  have HLK : Hid (Look wr kl gs gg p (G p) gx cx ⟨T p⟩ (incTo (T p) 32) (T3X T p)) := ⟨hcl, hcs, hcg, hHl, hHg⟩
                  have HB1 : Hid (∀ j, j < 32 → (incTo (T p) 32)[j]! = (T p)[j]! + 1) := fun j hj => by rw [incTo_at _ _ _ (by omega), if_pos hj]
                  have HB2 : Hid (∀ j, j < 32 → (T3X T p)[j]! = (T p)[j]! + 1) := fun j hj => by
                    unfold T3X
                    rw [list_arr _ _ (by rw [rowL_length _ _ (by rw [incTo_size, hT])]; omega), rowL_low _ _ (by rw [incTo_size, hT]) _ hj, incTo_at _ _ _ (by omega), if_pos hj]
                  have HB3 : Hid (∀ j, j < 80 → (T3X T p)[32 + j]! = fillB p j) := fun j hj => by
                    unfold T3X
                    rw [list_arr _ _ (by rw [rowL_length _ _ (by rw [incTo_size, hT])]; omega), rowL_high _ _ (by rw [incTo_size, hT]) _ _ hj]
                  have HSS : Hid ((incTo (T p) 32).size = 32 ∧ (T3X T p).size = 112) := ⟨by rw [incTo_size, hT], T3X_size T p hT⟩
                  generalize incTo (T p) 32 = b at HLK HB1 HSS
                  generalize T3X T p = b3 at HLK HB2 HB3 HSS
                  generalize G p = g at HLK hcl
                  obtain ⟨s, hs⟩ : ∃ s : ByteArray, s = ⟨T p⟩ := ⟨_, rfl⟩
                  rw [← hs] at HLK hcs
                  have hsz : s.size = 32 := by rw [hs]; exact hT
                  have hsz' : (s.size : Int) = 32 := by omega
                  have HSX : Hid (∀ j (h : j < s.size), s[j] = (T p)[j]!) := fun j h => by
                    subst hs
                    have h' : j < (T p).size := h
                    rw [getElem!_pos (T p) j h']
                    rfl
                  clear hS hG hHg hHl hT hs
                  go_wp2_with fail
                  go_quiet (fail)
                  have HST1 : Hid _ := HST.out.drewN nq
                  have HLK1 : Hid _ := HLK.out.drewN nq
                  clear HST HLK hcs hcg hcl
                  generalize wr.drewN nq = w6 at HST1 HLK1 ⊢
                  go_wp2
                  go_loopg [12] 32 (fun gk s12 wr => ∃ j : Nat, j + gk = 32 ∧ s12 = .int .i64 (j : Int) ∧ Hid (Stand w wr B kl i G T (.slice (some ⟨gs, 0, none⟩) i cs) (.slice (some ⟨gg, 0, none⟩) i cg)) ∧ Hid (Look wr kl gs gg p g gx cx s b b3))
                  case atStart => exact ⟨0, Nat.zero_add _, rfl, HST1, HLK1⟩
                  case round =>
                    clear HST1 HLK1
                    obtain ⟨j, hj, rfl, HST, HLK⟩ := hrel
                    have hcs := HLK.out.cs
                    by_cases hj2 : j < 32
                    · have hj3 : (j : Int) < 32 := by omega
                      have hj4 : j < s.size := by omega
                      have hj5 : (j : Int) < (s.size : Int) := by omega
                      have hj6 : (j : Int) < 112 := by omega
                      have hcl := HLK.out.cl
                      have hcg := HLK.out.cg
                      obtain ⟨h1, -⟩ := HLK.out.hl j (by rw [HSS.out.1]; exact hj2)
                      obtain ⟨h2, -⟩ := HLK.out.hg j (by rw [HSS.out.2]; omega)
                      rw [HB1.out j hj2, Nat.zero_add] at h1
                      rw [HB2.out j hj2, Nat.zero_add] at h2
                      have hw : IntKind.u8.wrap ((s[j].toNat : Int) + 1) = ub ((T p)[j]! + 1) := by rw [HSX.out j hj4]; exact ub_succ _
                      unfold encB at h1 h2
                      generalize ub ((T p)[j]! + 1) = u at h1 h2 hw
                      go_wp2_with fail
                      go_quiet (fail)
                      have HST1 : Hid _ := HST.out.drewN nq
                      have HLK1 : Hid _ := HLK.out.drewN nq
                      clear HST HLK hcs hcg hcl h1 h2 hw
                      generalize wr.drewN nq = w7 at HST1 HLK1 ⊢
                      go_wp2
                      go_roundg (gk - 1)
                      case measure => omega
                      case rel => exact ⟨j + 1, by omega, rfl, HST1, HLK1⟩
                    · have hj3 : ¬ (j : Int) < 32 := by omega
                      go_wp2
                      clear hcs hj3
                      go_loopg [13] 80 (fun gk s13 wr => ∃ j : Nat, j + gk = 80 ∧ s13 = .int .i64 (j : Int) ∧ Hid (Stand w wr B kl i G T (.slice (some ⟨gs, 0, none⟩) i cs) (.slice (some ⟨gg, 0, none⟩) i cg)) ∧ Hid (Look wr kl gs gg p g gx cx s b b3))
                      case atStart => exact ⟨0, Nat.zero_add _, rfl, HST, HLK⟩
                      case round =>
                        clear HST HLK hj hj2
                        obtain ⟨j, hj, rfl, HST, HLK⟩ := hrel
                        by_cases hj2 : j < 80
                        · have hj3 : (j : Int) < 80 := by omega
                          have hcs := HLK.out.cs
                          have hcg := HLK.out.cg
                          obtain ⟨m, hm⟩ : ∃ m, 32 + j = m := ⟨_, rfl⟩
                          have i1 : (32 : Int) + (j : Int) = (m : Int) := by omega
                          have i2 : (m : Int) < 112 := by omega
                          obtain ⟨h2, -⟩ := HLK.out.hg m (by rw [HSS.out.2]; omega)
                          rw [← hm, HB3.out j hj2, hm, Nat.zero_add] at h2
                          have hf := fillB_int p j
                          unfold encB at h2
                          generalize ub (fillB p j) = u at h2 hf
                          go_wp2_with fail
                          go_quiet (fail)
                          have HST1 : Hid _ := HST.out.drewN nq
                          have HLK1 : Hid _ := HLK.out.drewN nq
                          clear HST HLK hcs hcg h2 hf
                          generalize wr.drewN nq = w7 at HST1 HLK1 ⊢
                          go_wp2
                          go_roundg (gk - 1)
                          case measure => omega
                          case rel => exact ⟨j + 1, by omega, rfl, HST1, HLK1⟩
                        · have hj3 : ¬ (j : Int) < 80 := by omega
                          go_wp2
                          go_roundg (i - (p + 1))
                          case measure => omega
                          case rel => exact ⟨p + 1, by omega, rfl, HST⟩
                · have hge : ¬ (p : Int) < (i : Int) := by omega
                  go_wp2
                  go_ret
                  exact ⟨_, rfl, HST.out.bl, by simp⟩
end Go.Proofs.Ythbgppnhlpjngaa
namespace Go.Proofs.Ythbgppnhlpjngaa
open Go.RowKit Go.Sort Go.Deep
theorem ListAt.more {g cap : Nat} : ∀ (us : List Value) {W : World} {vs : List Value} {cur : Array Value}, ListAt W g cap vs cur → vs.length + us.length ≤ cap → ∃ cur', ListAt (W.setCells g vs.length us) g cap (vs ++ us) cur'
  | [], W, vs, cur, h, _ => ⟨cur, by rw [List.append_nil]; exact h⟩
  | u :: us, W, vs, cur, h, hc => by
    rw [List.length_cons] at hc
    have hH := Holds.set h.holds (i := vs.length) (by rw [h.size]; omega) u
    rw [Nat.zero_add] at hH
    have h1 : ListAt (W.setCell ⟨g, vs.length, none⟩ u) g cap (vs ++ [u]) (cur.setIfInBounds vs.length u) := by
      refine ⟨by rw [World.size_setCell]; exact h.lt, by rw [Array.size_setIfInBounds, h.size], by rw [List.length_append]; show vs.length + 1 ≤ cap; omega, hH, fun j hj => ?_⟩
      rw [List.length_append, List.length_singleton] at hj
      by_cases hj1 : j = vs.length
      · rw [hj1, val_last, getElem!_set_same _ _ _ (by rw [h.size]; omega)]
      · rw [getElem!_set_other _ _ _ _ hj1, val_front _ _ _ (by omega), h.front j (by omega)]
    obtain ⟨cur', h2⟩ := ListAt.more us h1 (by rw [List.length_append, List.length_singleton]; omega)
    rw [List.append_assoc, List.length_append, List.length_singleton] at h2
    exact ⟨cur', h2⟩
theorem nth_left (L M : List Bs) (j : Nat) (h : j < L.length) : (L ++ M)[j]! = L[j]! := by
  rw [getElem!_pos (L ++ M) j (by rw [List.length_append]; omega), getElem!_pos L j h, List.getElem_append_left h]
theorem nth_right (L M : List Bs) (j : Nat) (h : ¬ j < L.length) (h2 : j < L.length + M.length) : (L ++ M)[j]! = M[j - L.length]! := by
  rw [getElem!_pos (L ++ M) j (by rw [List.length_append]; omega), getElem!_pos M (j - L.length) (by omega), List.getElem_append_right (by omega)]
theorem val_right (L M : List Value) (j : Nat) (h : ¬ j < L.length) (h2 : j < L.length + M.length) : (L ++ M)[j]! = M[j - L.length]! := by
  rw [getElem!_pos (L ++ M) j (by rw [List.length_append]; omega), getElem!_pos M (j - L.length) (by omega), List.getElem_append_right (by omega)]
theorem addl (g o j : Nat) : (⟨g, o, none⟩ : Addr).add j = ⟨g, o + j, none⟩ := by
  unfold Addr.add
  by_cases h0 : j = 0
  · subst h0; rw [if_pos rfl]; rfl
  · rw [if_neg h0]
set_option maxHeartbeats 2000000 in
/-- 'append(l1, l2...)' for lists of hashes; the first is not empty. -/
theorem HL.join {W : World} {B U V : Nat} {v1 v2 : Value} {L1 L2 : List Bs} (h1 : HL W B U v1 L1) (h2 : HL W U V v2 L2) (hBU : B ≤ U) (hUV : U ≤ V) (hBW : B ≤ W.heap.size) (hne : 0 < L1.length) (hl1 : L1.length ≤ 4096) (hl2 : L2.length ≤ 4096) :
    ∃ v' w', (Builtin.append_ #[24, 24] 24 #[v1, v2]).run Try.prog W = .ok v' w' ∧ HL w' B V v' (L1 ++ L2) ∧ Below B W w' ∧ ∀ g l cap, v1 = .slice (some ⟨g, 0, none⟩) l cap → Only g 0 cap W w' := by
  rcases h1 with ⟨rfl, -⟩ | ⟨g, cap, vs, cur, gs, rfl, a2, a3, a4, a5, a6, a7⟩
  · simp at hne
  obtain ⟨i, hi, hz, hsz, hby⟩ := info_parts info23
  have hc0 := a5.cell0 (j := 0) (by omega)
  rw [(a6 0 a3).1] at hc0
  rcases h2 with ⟨rfl, rfl⟩ | ⟨g2, cap2, vs2, cur2, gs2, rfl, b2, b3, b4, b5, b6, b7⟩
  · have hs : Src Try.prog i.size 24 (.slice none 0 0) 0 [] W := Src.ofNil (e' := 26) _ slice46 0
    have hap := run_append_room_src (P := Try.prog) W 24 24 24 26 i slice46 hi g 0 L1.length cap (.slice none 0 0) 0 [] hs (by rw [← a2]; exact a5.fits) (fun j hj => by cases hj) (fun j hj => by cases hj)
    refine ⟨_, _, hap, ?_, Below.refl _ _, fun g l cap _ => Only.refl _ _ _ _⟩
    rw [List.append_nil]
    exact Or.inr ⟨g, cap, vs, cur, gs, rfl, a2, a3, a4, a5, fun j hj => by
      obtain ⟨e1, e2, e3, e4, e5⟩ := a6 j hj
      exact ⟨e1, e2, by omega, e4, e5⟩, a7⟩
  · have hs : Src Try.prog i.size 24 (.slice (some ⟨g2, 0, none⟩) L2.length cap2) L2.length vs2 W := by
      refine Src.ofSlice (e' := 26) _ slice46 ⟨g2, 0, none⟩ L2.length cap2 vs2 (by rw [b2, hsz, Nat.mul_one]) (fun j u hj => ?_) (fun u hu => ?_)
      · obtain ⟨hj1, hj2⟩ := List.getElem?_eq_some_iff.1 hj
        rw [addl, Nat.zero_add, b5.cell0 hj1, getElem!_pos vs2 j hj1, hj2]
      · obtain ⟨j, hj, rfl⟩ := List.mem_iff_getElem.1 hu
        have := (b6 j (by omega)).1
        rw [getElem!_pos vs2 j hj] at this
        rw [this]
        rfl
    -- what the new list holds
    have key : ∀ (w' : World) (g' cap' : Nat) (cur' : Array Value), ListAt w' g' cap' (vs ++ vs2) cur' → B ≤ g' → (∀ (y : Nat) (X : Bs), Holds encB W y 0 X → 0 < X.size → Holds encB w' y 0 X) → HL w' B V (.slice (some ⟨g', 0, none⟩) (L1.length + L2.length) cap') (L1 ++ L2) := fun w' g' cap' cur' hLA hg' hkeep => by
      refine Or.inr ⟨g', cap', vs ++ vs2, cur', fun j => if j < L1.length then gs j else gs2 (j - L1.length), by rw [List.length_append], by rw [List.length_append, List.length_append, a2, b2], by rw [List.length_append]; omega, hg', hLA, fun j hj => ?_, fun i j hij hj => ?_⟩
      · rw [List.length_append] at hj
        dsimp only
        by_cases hj1 : j < L1.length
        · obtain ⟨e1, e2, e3, e4, e5⟩ := a6 j hj1
          rw [if_pos hj1, val_front _ _ _ (by omega), nth_left _ _ _ hj1]
          exact ⟨e1, e2, by omega, e4, hkeep _ _ e5 (by omega)⟩
        · obtain ⟨e1, e2, e3, e4, e5⟩ := b6 (j - L1.length) (by omega)
          rw [if_neg hj1, val_right _ _ _ (by omega) (by omega), nth_right _ _ _ hj1 (by omega), a2]
          exact ⟨e1, by omega, e3, e4, hkeep _ _ e5 (by omega)⟩
      · rw [List.length_append] at hj
        dsimp only
        by_cases hj1 : j < L1.length
        · rw [if_pos (show i < L1.length by omega), if_pos hj1]
          exact a7 i j hij hj1
        · by_cases hi1 : i < L1.length
          · rw [if_pos hi1, if_neg hj1]
            have q1 := (a6 i hi1).2.2.1
            have q2 := (b6 (j - L1.length) (by omega)).2.1
            omega
          · rw [if_neg hi1, if_neg hj1]
            exact b7 (i - L1.length) (j - L1.length) (by omega) (by omega)
    have hnb : ∀ (w' : World) (o m : Nat), Only g o m W w' → ∀ (y : Nat) (X : Bs), Holds encB W y 0 X → 0 < X.size → Holds encB w' y 0 X := fun w' o m hO y X hU hu =>
      Holds.other hU hO (Holds.ne_cell hU hu (fun i e => by rw [hc0] at e; cases e)) hu
    by_cases hroom : L1.length + L2.length ≤ cap
    · have hap := run_append_room_src (P := Try.prog) W 24 24 24 26 i slice46 hi g 0 L1.length cap (.slice (some ⟨g2, 0, none⟩) L2.length cap2) L2.length vs2 hs hroom
        (fun j hj => by
          rw [hsz, Nat.mul_one, Nat.zero_add]
          have := (a5.holds (L1.length + j) (by rw [a5.size]; omega)).1
          rw [Nat.zero_add] at this
          rw [this]; rfl)
        (fun j hj => by
          rw [hsz, Nat.mul_one, Nat.zero_add]
          have := (a5.holds (L1.length + j) (by rw [a5.size]; omega)).2
          rwa [Nat.zero_add] at this)
      rw [hsz, Nat.mul_one, Nat.zero_add, ← a2] at hap
      obtain ⟨cur', hLA⟩ := ListAt.more vs2 a5 (by omega)
      have hO : Only g 0 cap W (W.setCells g vs.length vs2) := (Only.refl _ _ _ _).setCells vs2 vs.length (Nat.zero_le _) (by omega)
      have hk := key _ g cap cur' hLA a4 (hnb _ _ _ hO)
      rw [← a2] at hk ⊢
      exact ⟨_, _, hap, hk, hO.below hBW a4, fun g' l' cap' e => by cases e; exact hO⟩
    · have hold : (Builtin.firstCells i.size L1.length (.slice (some ⟨g, 0, none⟩) L1.length cap)).run Try.prog W.drew = .ok vs.toArray W.drew := by
        rw [hsz]
        refine run_firstCells_some W.drew 1 L1.length ⟨g, 0, none⟩ L1.length cap vs (by rw [Nat.mul_one, a2]) (fun j u hj => ?_)
        obtain ⟨hj1, hj2⟩ := List.getElem?_eq_some_iff.1 hj
        rw [addl, Nat.zero_add, World.cell?_drew, a5.cell0 hj1, getElem!_pos vs j hj1, hj2]
      have hf := a5.fits
      have hnc : Builtin.nextslicecap (L1.length + L2.length) cap ≤ 2 * (L1.length + L2.length) + 768 := by
        unfold Builtin.nextslicecap
        split
        · omega
        · split
          · omega
          · simp only [Builtin.growBy]
            repeat' split
            all_goals omega
      have hap := run_append_grow_src (P := Try.prog) W 24 24 24 26 i _ slice46 hi hz (some ⟨g, 0, none⟩) L1.length cap vs hold _ L2.length vs2 hs (by omega) (by omega) (by rw [hby]; omega)
      generalize hG : grownCap W (L1.length + L2.length) cap 26 = G at hap
      have hGl : L1.length + L2.length ≤ G := by
        rw [← hG]
        unfold grownCap Question.cut
        exact Nat.le_add_right _ _
      have hcells : (vs ++ vs2).toArray ++ Builtin.zeroCells (Value.slice none 0 0).cells (G - (L1.length + L2.length)) = ((vs ++ vs2).toArray ++ Array.replicate (G - (L1.length + L2.length)) (Value.slice none 0 0)).map encV := by
        have e0 : ∀ a : Array Value, a.map encV = a := fun a => by
          have : encV = id := rfl
          rw [this, Array.map_id]
        rw [e0, zeros_one rfl]
      rw [hcells] at hap
      have hO : Only g 0 cap W (W.drew.alloc (.cells (((vs ++ vs2).toArray ++ Array.replicate (G - (L1.length + L2.length)) (Value.slice none 0 0)).map encV) 26)) := (Only.refl g 0 cap W).drew.alloc a5.lt _
      refine ⟨_, _, hap, key _ W.heap.size G ((vs ++ vs2).toArray ++ Array.replicate (G - (L1.length + L2.length)) (Value.slice none 0 0)) ⟨by simp, ?_, by rw [List.length_append, a2, b2]; exact hGl, Holds.new (enc := encV) W.drew 26 _, fun j hj => arr_list_at _ _ _ _ hj⟩ hBW (hnb _ _ _ hO), hO.below hBW a4, fun g' l' cap' e => by cases e; exact hO⟩
      simp; omega
theorem HL.keep {W w1 w' : World} {B U m : Nat} {v : Value} {L : List Bs} (h : HL W B U v L) (hb : Below W.heap.size W w1) (hO : Only W.heap.size 0 m w1 w') : HL w' B U v L := by
  rcases h with h | ⟨g, cap, vs, cur, gs, h1, h2, h3, h4, h5, h6, h7⟩
  · exact Or.inl h
  · have hg := h5.lt
    have h5' := h5.below hb
    refine Or.inr ⟨g, cap, vs, cur, gs, h1, h2, h3, h4, ⟨Nat.lt_of_lt_of_le h5'.lt hO.size, h5'.size, h5'.fits, Holds.other h5'.holds hO (by omega) (by rw [h5'.size]; have := h5'.fits; omega), h5'.front⟩, fun j hj => ?_, h7⟩
    obtain ⟨e1, e2, e3, e4, e5⟩ := h6 j hj
    have hl := Holds.lt e5 (by omega)
    exact ⟨e1, e2, e3, e4, Holds.other (Holds.below e5 hb hl) hO (by omega) (by omega)⟩
theorem hf_half {n k : Nat} (h : 2 ≤ n) (hn : n ≤ 2 ^ (k + 1)) : hf n ≤ 2 ^ k := by
  unfold hf
  refine Nat.pow_le_pow_right (by decide) ?_
  have : Nat.log2 (n - 1) < k + 1 := (Nat.log2_lt (by omega)).2 (by have := Nat.two_pow_pos (k + 1); omega)
  omega
theorem pathR_log (S : Nat → Bs) : ∀ (k n a i : Nat), n ≤ 2 ^ k → (pathR S a n i).length ≤ k
  | 0, n, a, i, h => by rw [pathR_1 _ _ _ _ (by omega)]; exact Nat.zero_le _
  | k + 1, n, a, i, h => by
    by_cases hn : n ≤ 1
    · rw [pathR_1 _ _ _ _ hn]; exact Nat.zero_le _
    · have hf3 := hf_lt (n := n) (by omega)
      have hh := hf_half (by omega) h
      by_cases hk : hf n ≤ i
      · rw [pathR_hi _ _ _ _ (by omega) hk, List.length_cons]
        have := pathR_log S k (n - hf n) (a + hf n) (i - hf n) (by omega)
        omega
      · rw [pathR_lo _ _ _ _ (by omega) hk, List.length_cons]
        have := pathR_log S k (hf n) a i hh
        omega
theorem growR_log (S : Nat → Bs) : ∀ (k n a m : Nat) (kn : Bool), n ≤ 2 ^ k → (growR S a n m kn).length ≤ k + 1
  | k, n, a, m, kn, h => by
    by_cases he : n ≤ 1 ∨ n ≤ m
    · rw [growR, dif_pos he]
      cases kn with
      | true => exact Nat.zero_le _
      | false => exact Nat.succ_le_succ (Nat.zero_le _)
    · have hf3 := hf_lt (n := n) (by omega)
      match k with
      | 0 => exact absurd h (by show ¬ n ≤ 1; omega)
      | k + 1 =>
        have hh := hf_half (by omega) h
        by_cases hk : hf n < m
        · rw [growR_hi _ _ _ _ _ (by omega) (by omega) hk, List.length_cons]
          have := growR_log S k (n - hf n) (a + hf n) (m - hf n) false (by omega)
          omega
        · rw [growR_lo _ _ _ _ _ (by omega) (by omega) hk, List.length_cons]
          have := growR_log S k (hf n) a m kn hh
          omega
/-- Rows of a list of hashes. -/
theorem HL.rack {W : World} {B U : Nat} {v : Value} {L : List Bs} (h : HL W B U v L) (hne : 0 < L.length) : ∃ g cap G, v = .slice (some ⟨g, 0, none⟩) L.length cap ∧ g < W.heap.size ∧ Rack W g L.length G (fun j => L[j]!) ∧ ∀ j, j < L.length → B ≤ G j := by
  rcases h with ⟨rfl, -⟩ | ⟨g, cap, vs, cur, gs, rfl, a2, a3, a4, a5, a6, a7⟩
  · simp at hne
  have hc0 := a5.cell0 (j := 0) (by omega)
  rw [(a6 0 a3).1] at hc0
  refine ⟨g, cap, gs, rfl, a5.lt, ⟨fun j hj => ?_, fun j hj => (a6 j hj).2.2.2.2, fun j hj => (a6 j hj).2.2.2.1, fun j hj => ?_, fun j j' hj hj' e => ?_⟩, fun j hj => (a6 j hj).2.1⟩
  · rw [a5.cell0 (by omega), (a6 j hj).1]
  · exact Holds.ne_cell (a6 j hj).2.2.2.2 (by have := (a6 j hj).2.2.2.1; omega) (fun i e => by rw [hc0] at e; cases e)
  · rcases Nat.lt_trichotomy j j' with h | h | h
    · have := a7 j j' h hj'; omega
    · exact h
    · have := a7 j' j h hj; omega
end Go.Proofs.Ythbgppnhlpjngaa
namespace Go.Proofs.Ythbgppnhlpjngaa
open Go.RowKit Go.Sort Go.Deep
set_option maxHeartbeats 1000000 in
theorem rsized_c (q : Option Addr) (m c : Nat) (S : Nat → ByteArray) (w : World) (hm : m ≤ 1048576) (hL : Texts w q m S) : Calls Try.prog 30 #[.slice q m c] w fun e w' => e = .returned (.bool (decide (∀ j, j < m → (S j).data.size = 32))) ∧ w' = w := by
  have HL : Hid (Texts w q m S) := hL
  clear hL
  go_enter Try.func30, Try.ntmps30
  go_wp2
  go_loopg [3] m (fun g s3 W => ∃ i : Nat, i + g = m ∧ s3 = .int .i64 (i : Int) ∧ W = w ∧ Hid (∀ j, j < i → (S j).data.size = 32))
  case atStart => exact ⟨0, by omega, rfl, rfl, fun j hj => by omega⟩
  case round =>
    obtain ⟨i, him, rfl, rfl, HA⟩ := hrel
    by_cases hi : i < m
    · have hi' : (i : Int) < (m : Int) := by omega
      obtain ⟨gg, oo, rfl, hgg, hc⟩ := HL.out (by omega)
      have hv := hc i hi
      have hix : ∀ w : World, (Instr.indexAt 22 (.slice (some ⟨gg, oo, none⟩) m c) (.int .i64 (i : Int))).run Try.prog w = .ok (.pointer (some ⟨gg, oo + i, none⟩)) w := fun w => by
        have h1 : ¬ (i : Int) < 0 := by omega
        have h2 : (i : Int) < (m : Int) := by omega
        go_simp
      clear hc hgg
      obtain ⟨s, hs⟩ : ∃ s, Hid (S i = s) := ⟨_, rfl⟩
      rw [hs.out] at hv
      by_cases h32 : s.size = 32
      · have g1 : (s.size : Int) = 32 := by omega
        go_wp2
        go_roundg (gk - 1)
        case measure => omega
        case rel => exact ⟨i + 1, by omega, rfl, rfl, fun j hj => by
          by_cases e : j = i
          · rw [e, hs.out]; exact h32
          · exact HA.out j (by omega)⟩
      · have g1 : ¬ (s.size : Int) = 32 := by omega
        have g0 : ((s.size : Int) == 32) = false := by simpa using g1
        have HF : Hid (decide (∀ j, j < m → (S j).data.size = 32) = false) := decide_eq_false fun h => h32 (by rw [← hs.out]; exact h i hi)
        go_wp2
        go_ret
        exact ⟨congrArg Ending.returned (congrArg Value.bool HF.out.symm), rfl⟩
    · have hi' : ¬ (i : Int) < (m : Int) := by omega
      obtain rfl : i = m := by omega
      have HF : Hid (decide (∀ j, j < i → (S j).data.size = 32) = true) := decide_eq_true HA.out
      go_wp2
      go_ret
      exact ⟨congrArg Ending.returned (congrArg Value.bool HF.out.symm), rfl⟩
end Go.Proofs.Ythbgppnhlpjngaa
namespace Go.Proofs.Ythbgppnhlpjngaa
open Go.RowKit Go.Sort Go.Deep
theorem ns (a b : Bs) : (nodeH a b).size ≤ 65536 := by rw [nodeH_size]; decide
theorem grw_size {old : Bs} (ho : old.size ≤ 65536) : ∀ (l : List Bs), (∀ e ∈ l, e.size ≤ 65536) → ∀ (kn : Bool) (m n : Nat), (grw old l kn m n).1.size ≤ 65536 ∧ (grw old l kn m n).2.1.size ≤ 65536
  | [], _, kn, m, n => by
    rw [grw]
    by_cases h : m = n
    · rw [if_pos h]
      cases kn
      · exact ⟨Nat.zero_le _, Nat.zero_le _⟩
      · exact ⟨ho, ho⟩
    · rw [if_neg h]
      exact ⟨Nat.zero_le _, Nat.zero_le _⟩
  | e :: r, hl, kn, m, n => by
    have he := hl e List.mem_cons_self
    by_cases h : m = n
    · rw [grw, if_pos h]
      cases kn
      · rw [if_neg (by decide)]
        by_cases h2 : r = []
        · rw [if_pos h2]; exact ⟨he, he⟩
        · rw [if_neg h2]; exact ⟨Nat.zero_le _, Nat.zero_le _⟩
      · exact ⟨ho, ho⟩
    · by_cases h2 : hf n < m
      · rw [grw_hi h h2]
        dsimp only
        exact ⟨ns _ _, ns _ _⟩
      · rw [grw_lo h h2]
        have h3 := (grw_size ho r (fun x hx => hl x (List.mem_cons_of_mem _ hx)) kn m (hf n)).1
        dsimp only
        exact ⟨h3, ns _ _⟩
theorem gw_idx {P : Program} {ops : Array Oper} {Q : Exit → Act → World → Prop} {a0 : Act} {G : RG.Gw} {k : Nat} {o : Oper} (T : TypeId) (s t : Tmp) (ho : o.op = .indexAddr T (.tmp s) (.tmp t))
    (h : ∀ (a : Act) (w : World), RG.PreG G ops a0 k o a w → ∃ v1 v2 v, a.eval (.tmp s) = v1 ∧ a.eval (.tmp t) = v2 ∧ (Instr.indexAt T v1 v2).run P w = .ok v w ∧ G.R k v w) : RG.CertF P Q G.flow ops a0 k o :=
  RG.cf_val fun a w hp => by
    obtain ⟨v1, v2, v, h1, h2, h3, hR⟩ := h a w (RG.pre_of hp)
    refine ⟨v, w, ?_, Below.refl _ _, hR⟩
    unfold execOp
    rw [ho]
    dsimp only
    rw [h1, h2, Sem.run_bind, h3]
    rfl
def G15 (gg oo j c : Nat) (s : ByteArray) (To Tn D1 D2 : Bs) (ok : Bool) (w0 : World) : RG.Gw where
  R i v _ := v = ([.slice (some ⟨gg, oo, none⟩) (j + 1) c, .int .i64 (j : Int), .pointer (some ⟨gg, oo + j, none⟩), .string s, .string ⟨To⟩, .string ⟨D1⟩, .slice (some ⟨gg, oo, none⟩) (j + 1) c, .int .i64 (j : Int), .pointer (some ⟨gg, oo + j, none⟩), .string s, .string ⟨Tn⟩, .string ⟨D2⟩, .bool ok, .string ⟨D1⟩, .string ⟨D2⟩, .bool ok]).getD i undef
  B w := (gg < w.heap.size ∧ Below w0.heap.size w0 w) ∧ w.cell? ⟨gg, oo + j, none⟩ = some (.string s)
  sR _ _ _ _ _ h := h
  sB w w' hb h := ⟨⟨Nat.lt_of_lt_of_le h.1.1 hb.size, h.1.2.trans (hb.mono h.1.2.size)⟩, by rw [hb.cell (p := ⟨gg, oo + j, none⟩) h.1.1]; exact h.2⟩
set_option maxHeartbeats 4000000 in
set_option maxRecDepth 100000 in
theorem rgrows_hi (old : ByteArray) (S : Nat → ByteArray) (kn : Bool) (m n k m2 n2 : Nat) (hmn : ¬ m = n) (hk : k < m) (hm2 : m - k = m2) (hn2 : n - k = n2) (hm : m ≤ n) (hn : n ≤ 1048576) (gg oo j c : Nat) (hj : j + 1 ≤ 1048576) (hc : j + 1 ≤ c) (To Tn D1 D2 : Bs) (ok : Bool) (w : World) (hgg : gg < w.heap.size) (hv : w.cell? ⟨gg, oo + j, none⟩ = some (.string (S j)))
    (hHf : ∀ w, Calls Try.prog 25 #[.int .i64 (n : Int)] w fun e w' => e = .returned (.int .i64 (k : Int)) ∧ w' = w)
    (hR : Calls Try.prog 31 #[.int .i64 (m2 : Int), .int .i64 (n2 : Int), .bool false, .string old, .slice (some ⟨gg, oo, none⟩) j c] w (Ret fun e w'' => Below w.heap.size w w'' ∧ e = .tuple #[.string ⟨To⟩, .string ⟨Tn⟩, .bool ok]))
    (hN1 : ∀ w, Calls Try.prog 26 #[.string (S j), .string ⟨To⟩] w (Ret fun e w' => Below w.heap.size w w' ∧ e = .string ⟨D1⟩))
    (hN2 : ∀ w, Calls Try.prog 26 #[.string (S j), .string ⟨Tn⟩] w (Ret fun e w' => Below w.heap.size w w' ∧ e = .string ⟨D2⟩)) :
    Calls Try.prog 31 #[.int .i64 (m : Int), .int .i64 (n : Int), .bool kn, .string old, .slice (some ⟨gg, oo, none⟩) (j + 1) c] w (Ret fun e w' => Below w.heap.size w w' ∧ e = .tuple #[.string ⟨D1⟩, .string ⟨D2⟩, .bool ok]) := by
  have hsl : ∀ w : World, (Instr.sliceAt 22 (.slice (some ⟨gg, oo, none⟩) (j + 1) c) none (some (.int .i64 (j : Int))) none).run Try.prog w = .ok (.slice (some ⟨gg, oo, none⟩) j c) w := fun w => by
    have h1 : (j : Int) ≤ c := by omega
    go_simp
  have hix : ∀ w : World, (Instr.indexAt 22 (.slice (some ⟨gg, oo, none⟩) (j + 1) c) (.int .i64 (j : Int))).run Try.prog w = .ok (.pointer (some ⟨gg, oo + j, none⟩)) w := fun w => by
    have h1 : ¬ (j : Int) < 0 := by omega
    have h2 : (j : Int) < ((j + 1 : Nat) : Int) := by omega
    have h3 : ¬ ((j : Int) + 1 ≤ j) := by omega
    go_simp
  have k1 : ((j + 1 : Nat) : Int) - 1 = (j : Int) := by omega
  have k2 : ¬ (j : Int) < 0 := by omega
  have g1 : ¬ (m : Int) = (n : Int) := by omega
  have g0 : ((m : Int) == (n : Int)) = false := by simpa using g1
  have e3 : ¬ (m : Int) ≤ (k : Int) := by omega
  have e1 : wrap64 ((m : Int) - (k : Int)) = (m2 : Int) := by unfold wrap64; omega
  have e2 : wrap64 ((n : Int) - (k : Int)) = (n2 : Int) := by unfold wrap64; omega
  have HS := Hid.mk2 (And.intro hHf (And.intro hR (And.intro hN1 hN2)))
  have HV := Hid.mk2 (And.intro hgg hv)
  clear hHf hR hN1 hN2 hmn hk hm2 hn2 hm hn g1 hgg hv
  go_enter Try.func31, Try.ntmps31
  go_wp2_with fail
  refine (HS.out.1 w).mono ?_
  rintro e' w' ⟨rfl, rfl⟩
  go_wp2_with fail
  refine HS.out.2.1.mono ?_
  rintro e' w3 ⟨v3, rfl, hb3, rfl⟩
  have HB : Hid (((gg < w3.drew.heap.size ∧ Below w'.heap.size w' w3.drew)) ∧ w3.drew.cell? ⟨gg, oo + j, none⟩ = some (.string (S j))) := ⟨⟨Nat.lt_of_lt_of_le HV.out.1 hb3.size, hb3.drew⟩, by show w3.cell? _ = _; rw [hb3.cell (p := ⟨gg, oo + j, none⟩) HV.out.1]; exact HV.out.2⟩
  clear hb3 HV e1 e2 e3
  go_wp2_with fail
  refine RG.Gw.draws (G15 gg oo j c (S j) To Tn D1 D2 ok w') (by kernel_rfl) (by kernel_rfl) ?_ HB.out ?_
  · exact ⟨RG.gw_val fun a W hp => ⟨[(4, .slice (some ⟨gg, oo, none⟩) (j + 1) c)], .slice (some ⟨gg, oo, none⟩) (j + 1) c, W, ⟨hp.o 4 (by kernel_rfl), trivial⟩, by kernel_rfl, Below.refl _ _, rfl⟩,
      RG.gw_val fun a W hp => ⟨[(13, .int .i64 (j : Int))], .int .i64 (j : Int), W, ⟨hp.o 13 (by kernel_rfl), trivial⟩, by kernel_rfl, Below.refl _ _, rfl⟩,
      gw_idx 22 82 83 rfl fun a W hp => ⟨_, _, _, hp.n 0 82 (by kernel_rfl) (by kernel_rfl), hp.n 1 83 (by kernel_rfl) (by kernel_rfl), hix W, rfl⟩,
      RG.cf_val fun a W hp => ⟨.string (S j), W, ld_two (T := 9) (t := 84) rfl (by kernel_rfl) ((RG.pre_of hp).n 2 84 (by kernel_rfl) (by kernel_rfl)) (RG.pre_of hp).b.2, Below.refl _ _, rfl⟩,
      RG.gw_val fun a W hp => ⟨[(18, .string ⟨To⟩)], .string ⟨To⟩, W, ⟨hp.o 18 (by kernel_rfl), trivial⟩, by kernel_rfl, Below.refl _ _, rfl⟩,
      RG.gw_call fun a W hp => ⟨[(85, .string (S j)), (86, .string ⟨To⟩)], 26, #[.string (S j), .string ⟨To⟩], ⟨hp.n 3 85 (by kernel_rfl) (by kernel_rfl), hp.n 4 86 (by kernel_rfl) (by kernel_rfl), trivial⟩, by kernel_rfl, (HS.out.2.2.1 W).mono (by
      rintro e' W' ⟨u, rfl, hb, rfl⟩
      exact ⟨_, rfl, hb, rfl⟩)⟩,
      RG.gw_val fun a W hp => ⟨[(4, .slice (some ⟨gg, oo, none⟩) (j + 1) c)], .slice (some ⟨gg, oo, none⟩) (j + 1) c, W, ⟨hp.o 4 (by kernel_rfl), trivial⟩, by kernel_rfl, Below.refl _ _, rfl⟩,
      RG.gw_val fun a W hp => ⟨[(13, .int .i64 (j : Int))], .int .i64 (j : Int), W, ⟨hp.o 13 (by kernel_rfl), trivial⟩, by kernel_rfl, Below.refl _ _, rfl⟩,
      gw_idx 22 88 89 rfl fun a W hp => ⟨_, _, _, hp.n 6 88 (by kernel_rfl) (by kernel_rfl), hp.n 7 89 (by kernel_rfl) (by kernel_rfl), hix W, rfl⟩,
      RG.cf_val fun a W hp => ⟨.string (S j), W, ld_two (T := 9) (t := 90) rfl (by kernel_rfl) ((RG.pre_of hp).n 8 90 (by kernel_rfl) (by kernel_rfl)) (RG.pre_of hp).b.2, Below.refl _ _, rfl⟩,
      RG.gw_val fun a W hp => ⟨[(19, .string ⟨Tn⟩)], .string ⟨Tn⟩, W, ⟨hp.o 19 (by kernel_rfl), trivial⟩, by kernel_rfl, Below.refl _ _, rfl⟩,
      RG.gw_call fun a W hp => ⟨[(91, .string (S j)), (92, .string ⟨Tn⟩)], 26, #[.string (S j), .string ⟨Tn⟩], ⟨hp.n 9 91 (by kernel_rfl) (by kernel_rfl), hp.n 10 92 (by kernel_rfl) (by kernel_rfl), trivial⟩, by kernel_rfl, (HS.out.2.2.2 W).mono (by
      rintro e' W' ⟨u, rfl, hb, rfl⟩
      exact ⟨_, rfl, hb, rfl⟩)⟩,
      RG.gw_val fun a W hp => ⟨[(20, .bool ok)], .bool ok, W, ⟨hp.o 20 (by kernel_rfl), trivial⟩, by kernel_rfl, Below.refl _ _, rfl⟩,
      RG.gw_val fun a W hp => ⟨[(87, .string ⟨D1⟩)], .string ⟨D1⟩, W, ⟨hp.n 5 87 (by kernel_rfl) (by kernel_rfl), trivial⟩, by kernel_rfl, Below.refl _ _, rfl⟩,
      RG.gw_val fun a W hp => ⟨[(93, .string ⟨D2⟩)], .string ⟨D2⟩, W, ⟨hp.n 11 93 (by kernel_rfl) (by kernel_rfl), trivial⟩, by kernel_rfl, Below.refl _ _, rfl⟩,
      RG.gw_val fun a W hp => ⟨[(94, .bool ok)], .bool ok, W, ⟨hp.n 12 94 (by kernel_rfl) (by kernel_rfl), trivial⟩, by kernel_rfl, Below.refl _ _, rfl⟩,
      trivial⟩
  · intro V w5 hV hB
    have h13 : V 13 = .string ⟨D1⟩ := hV 13 (Nat.lt_of_succ_le (Nat.le_of_ble_eq_true (by kernel_rfl)))
    have h14 : V 14 = .string ⟨D2⟩ := hV 14 (Nat.lt_of_succ_le (Nat.le_of_ble_eq_true (by kernel_rfl)))
    have h15 : V 15 = .bool ok := hV 15 (Nat.lt_of_succ_le (Nat.le_of_ble_eq_true (by kernel_rfl)))
    have K5 : Hid (Below w'.heap.size w' w5) := (show (gg < w5.heap.size ∧ Below w'.heap.size w' w5) ∧ _ from hB).1.2
    dsimp only [RG.putV, Nat.reduceAdd]
    simp only [Act.put, List.setIfInBounds_toArray, List.set_cons_succ, List.set_cons_zero]
    rw [h13, h14, h15]
    clear hV hB HB HS
    go_wp2
    refine bodyPost_ret (v := .tuple #[.string ⟨D1⟩, .string ⟨D2⟩, .bool ok]) (results_ttt2 (a := ⟨_, _⟩) 10 11 12 rfl _ _ _ rfl rfl rfl) rfl ?_
    exact ⟨_, rfl, K5.out, rfl⟩
set_option maxHeartbeats 4000000 in
set_option maxRecDepth 100000 in
theorem rgrows_lo (old : ByteArray) (S : Nat → ByteArray) (kn : Bool) (m n k : Nat) (hmn : ¬ m = n) (hk : ¬ k < m) (gg oo j c : Nat) (hj : j + 1 ≤ 1048576) (hc : j + 1 ≤ c) (To Tn D2 : Bs) (ok : Bool) (w : World) (hgg : gg < w.heap.size) (hv : w.cell? ⟨gg, oo + j, none⟩ = some (.string (S j)))
    (hHf : ∀ w, Calls Try.prog 25 #[.int .i64 (n : Int)] w fun e w' => e = .returned (.int .i64 (k : Int)) ∧ w' = w)
    (hR : Calls Try.prog 31 #[.int .i64 (m : Int), .int .i64 (k : Int), .bool kn, .string old, .slice (some ⟨gg, oo, none⟩) j c] w (Ret fun e w'' => Below w.heap.size w w'' ∧ e = .tuple #[.string ⟨To⟩, .string ⟨Tn⟩, .bool ok]))
    (hN2 : ∀ w, Calls Try.prog 26 #[.string ⟨Tn⟩, .string (S j)] w (Ret fun e w' => Below w.heap.size w w' ∧ e = .string ⟨D2⟩)) :
    Calls Try.prog 31 #[.int .i64 (m : Int), .int .i64 (n : Int), .bool kn, .string old, .slice (some ⟨gg, oo, none⟩) (j + 1) c] w (Ret fun e w' => Below w.heap.size w w' ∧ e = .tuple #[.string ⟨To⟩, .string ⟨D2⟩, .bool ok]) := by
  have hsl : ∀ w : World, (Instr.sliceAt 22 (.slice (some ⟨gg, oo, none⟩) (j + 1) c) none (some (.int .i64 (j : Int))) none).run Try.prog w = .ok (.slice (some ⟨gg, oo, none⟩) j c) w := fun w => by
    have h1 : (j : Int) ≤ c := by omega
    go_simp
  have hix : ∀ w : World, (Instr.indexAt 22 (.slice (some ⟨gg, oo, none⟩) (j + 1) c) (.int .i64 (j : Int))).run Try.prog w = .ok (.pointer (some ⟨gg, oo + j, none⟩)) w := fun w => by
    have h1 : ¬ (j : Int) < 0 := by omega
    have h2 : (j : Int) < ((j + 1 : Nat) : Int) := by omega
    have h3 : ¬ ((j : Int) + 1 ≤ j) := by omega
    go_simp
  have k1 : ((j + 1 : Nat) : Int) - 1 = (j : Int) := by omega
  have k2 : ¬ (j : Int) < 0 := by omega
  have g1 : ¬ (m : Int) = (n : Int) := by omega
  have g0 : ((m : Int) == (n : Int)) = false := by simpa using g1
  have e3 : (m : Int) ≤ (k : Int) := by omega
  have HS := Hid.mk2 (And.intro hHf (And.intro hR hN2))
  have HV := Hid.mk2 (And.intro hgg hv)
  clear hHf hR hN2 hmn hk g1 hgg hv
  go_enter Try.func31, Try.ntmps31
  go_wp2_with fail
  refine (HS.out.1 w).mono ?_
  rintro e' w' ⟨rfl, rfl⟩
  go_wp2_with fail
  refine HS.out.2.1.mono ?_
  rintro e' w3 ⟨v3, rfl, hb3, rfl⟩
  have K3 : Hid (Below w'.heap.size w' w3) := hb3
  have hcv : w3.cell? ⟨gg, oo + j, none⟩ = some (.string (S j)) := by rw [hb3.cell (p := ⟨gg, oo + j, none⟩) HV.out.1]; exact HV.out.2
  clear hb3 HV e3
  go_wp2_with fail
  refine (HS.out.2.2 w3).mono ?_
  rintro e w4 ⟨v4, rfl, hb4, rfl⟩
  have K4 : Hid (Below w'.heap.size w' w4) := K3.out.trans (hb4.mono K3.out.size)
  clear hb4 K3 hcv HS
  go_wp2
  refine bodyPost_ret (v := .tuple #[.string ⟨To⟩, .string ⟨D2⟩, .bool ok]) (results_ttt2 (a := ⟨_, _⟩) 10 11 12 rfl _ _ _ rfl rfl rfl) rfl ?_
  exact ⟨_, rfl, K4.out, rfl⟩
end Go.Proofs.Ythbgppnhlpjngaa
namespace Go.Proofs.Ythbgppnhlpjngaa
open Go.RowKit Go.Sort Go.Deep
/-- A list of texts that grows, in a block from B on. -/
def SLs (W : World) (B : Nat) (v : Value) (L : List ByteArray) : Prop :=
  (L = [] ∧ v = .slice none 0 0) ∨ ∃ g cap vs cur, v = .slice (some ⟨g, 0, none⟩) L.length cap ∧ vs.length = L.length ∧ 0 < L.length ∧ B ≤ g ∧ ListAt W g cap vs cur ∧ ∀ j, j < L.length → vs[j]! = .string L[j]!
theorem SLs.below {W w1 : World} {B : Nat} {v : Value} {L : List ByteArray} (h : SLs W B v L) (hb : Below W.heap.size W w1) : SLs w1 B v L := by
  rcases h with h | ⟨g, cap, vs, cur, h1, h2, h3, h4, h5, h6⟩
  · exact Or.inl h
  · exact Or.inr ⟨g, cap, vs, cur, h1, h2, h3, h4, h5.below hb, h6⟩
theorem SLs.less {W : World} {B B' : Nat} {v : Value} {L : List ByteArray} (h : SLs W B v L) (hb : B' ≤ B) : SLs W B' v L := by
  rcases h with h | ⟨g, cap, vs, cur, h1, h2, h3, h4, h5, h6⟩
  · exact Or.inl h
  · exact Or.inr ⟨g, cap, vs, cur, h1, h2, h3, by omega, h5, h6⟩
theorem tth_front (L : List ByteArray) (T : ByteArray) (j : Nat) (h : j < L.length) : (L ++ [T])[j]! = L[j]! := by
  rw [getElem!_pos (L ++ [T]) j (by rw [List.length_append]; omega), getElem!_pos L j h, List.getElem_append_left h]
theorem tth_last (L : List ByteArray) (T : ByteArray) : (L ++ [T])[L.length]! = T := by
  rw [getElem!_pos (L ++ [T]) L.length (by simp)]
  simp
/-- One text in a block. -/
def Bxs (B : Nat) (w : World) (v : Value) (T : ByteArray) : Prop := ∃ r, v = .slice (some ⟨r, 0, none⟩) 1 1 ∧ r < w.heap.size ∧ w.cell? ⟨r, 0, none⟩ = some (.string T)
theorem Bxs.below {B : Nat} {w w' : World} {v : Value} {T : ByteArray} (h : Bxs B w v T) (hb : Below w.heap.size w w') : Bxs B w' v T := by
  obtain ⟨r, h1, h2, h3⟩ := h
  exact ⟨r, h1, Nat.lt_of_lt_of_le h2 hb.size, by rw [hb.cell (p := ⟨r, 0, none⟩) h2]; exact h3⟩
theorem SLs.app {W : World} {B : Nat} {v u : Value} {L : List ByteArray} {T : ByteArray} (h : SLs W B v L) (hx : Bxs B W u T) (hB : B ≤ W.heap.size) (hk : L.length ≤ 1048576) :
    ∃ v' w', (Builtin.append_ #[22, 22] 22 #[v, u]).run Try.prog W = .ok v' w' ∧ SLs w' B v' (L ++ [T]) ∧ Below B W w' := by
  obtain ⟨r, rfl, hrl, hr⟩ := hx
  have hx1 : (Value.string T).oneCell' = true := rfl
  rcases h with ⟨rfl, rfl⟩ | ⟨g, cap, vs, cur, rfl, h2, h3, h4, h5, h6⟩
  · obtain ⟨cap', cur', w', hap, hL, hb2⟩ := append_firstS slice45 info9 rfl hr hx1
    refine ⟨_, w', hap, Or.inr ⟨_, cap', _, cur', rfl, rfl, by simp, hB, hL, fun j hj => ?_⟩, hb2.mono hB⟩
    have hj0 : j = 0 := by simpa using hj
    subst hj0
    rfl
  · rw [← h2] at h3 hk ⊢
    obtain ⟨g', cap', cur', w', hap, hL, hO, hg'⟩ := append_valS slice45 info9 rfl h5 hr hx1 hk
    have hlen : (L ++ [T]).length = vs.length + 1 := by rw [List.length_append, h2]; rfl
    refine ⟨_, w', hap, Or.inr ⟨g', cap', _, cur', by rw [hlen], by rw [List.length_append, hlen]; rfl, by omega, by omega, hL, fun j hj => ?_⟩, hO.below (by omega) h4⟩
    by_cases hj1 : j = vs.length
    · subst hj1
      rw [val_last, h2, tth_last]
    · rw [val_front _ _ _ (by omega), tth_front _ _ _ (by omega)]
      exact h6 j (by omega)
inductive Kd where
  | eq (x : Value)
  | lst (L : List ByteArray)
  | box (T : ByteArray)
def Kd.R (B : Nat) : Kd → Value → World → Prop
  | .eq x, v, _ => v = x
  | .lst L, v, w => SLs w B v L
  | .box T, v, w => Bxs B w v T
def Kd.kl (K i : Nat) : Kd → List Nat
  | .eq _ => []
  | _ => bif i.blt K then [K] else []
/-- A region that ends with an append and the storing of what it gives. -/
def FA (B K : Nat) (ks : List Kd) (w0 : World) : RG.Flow where
  R i v w := (ks.getD i (.eq undef)).R B v w
  B _ w := Below B w0 w ∧ B ≤ w.heap.size
  E i w w' := Below w.heap.size w w' ∨ (i = K ∧ Below B w w')
  kill i := (ks.getD i (.eq undef)).kl K i
  killB _ := []
theorem Kd.below {B : Nat} {k : Kd} {v : Value} {w w' : World} (h : k.R B v w) (hb : Below w.heap.size w w') : k.R B v w' := by
  cases k with
  | eq x => exact h
  | lst L => exact SLs.below h hb
  | box T => exact Bxs.below (B := B) h hb
theorem FA.stab {B K : Nat} {ks : List Kd} {w0 : World} {ops : Array Oper} (hsz : ops.size = K + 2) (hd : RG.depOn ops (K + 1) K = true) (i j : Nat) (hj : j < ops.size) (hij : i ≠ j) (hk : ((FA B K ks w0).kill j).contains i = false) (hdp : RG.depOn ops j i = false) (v : Value) (w w' : World) (hE : (FA B K ks w0).E i w w') (hR : (FA B K ks w0).R j v w) : (FA B K ks w0).R j v w' := by
  rcases hE with hb | ⟨rfl, hB⟩
  · exact Kd.below hR hb
  · have key : ∀ k : Kd, (k.kl i j).contains i = false → k.R B v w → k.R B v w' := fun k h1 h2 => by
      have hno : (bif j.blt i then [i] else []).contains i = false → False := fun h => by
        by_cases hlt : j < i
        · rw [show j.blt i = true from Nat.blt_eq ▸ hlt] at h
          simp at h
        · obtain rfl : j = i + 1 := by omega
          rw [hd] at hdp
          cases hdp
      cases k with
      | eq x => exact h2
      | lst L => exact (hno h1).elim
      | box T => exact (hno h1).elim
    exact key _ hk hR
theorem FA.stabB {B K : Nat} {ks : List Kd} {w0 : World} (i b : Nat) (w w' : World) (hE : (FA B K ks w0).E i w w') (hB : (FA B K ks w0).B b w) : (FA B K ks w0).B b w' := by
  obtain ⟨h1, h2⟩ := hB
  rcases hE with hb | ⟨-, hb⟩
  · exact ⟨h1.trans (hb.mono h2), Nat.le_trans h2 hb.size⟩
  · exact ⟨h1.trans hb, Nat.le_trans h2 hb.size⟩
section
variable {P : Program} {ops : Array Oper} {Q : Exit → Act → World → Prop} {a0 : Act} {F : RG.Flow} {k : Nat} {o : Oper}
theorem cf_shi (T : TypeId) (s t : Tmp) (ho : o.op = .slice T (.tmp s) none (some (.tmp t)) none)
    (h : ∀ (a : Act) (w : World), RG.PreF F ops a0 k o a w → ∃ v1 v2 v, a.eval (.tmp s) = v1 ∧ a.eval (.tmp t) = v2 ∧ (Instr.sliceAt T v1 none (some v2) none).run P w = .ok v w ∧ F.E k w w ∧ F.R k v w) : RG.CertF P Q F ops a0 k o :=
  RG.cf_val fun a w hp => by
    obtain ⟨v1, v2, v, h1, h2, h3, hE, hR⟩ := h a w hp
    refine ⟨v, w, ?_, hE, hR⟩
    unfold execOp
    rw [ho]
    dsimp only [Option.map]
    rw [h1, h2, Sem.run_bind, h3]
    rfl
theorem cf_slo (T : TypeId) (s t : Tmp) (ho : o.op = .slice T (.tmp s) (some (.tmp t)) none none)
    (h : ∀ (a : Act) (w : World), RG.PreF F ops a0 k o a w → ∃ v1 v2 v, a.eval (.tmp s) = v1 ∧ a.eval (.tmp t) = v2 ∧ (Instr.sliceAt T v1 (some v2) none none).run P w = .ok v w ∧ F.E k w w ∧ F.R k v w) : RG.CertF P Q F ops a0 k o :=
  RG.cf_val fun a w hp => by
    obtain ⟨v1, v2, v, h1, h2, h3, hE, hR⟩ := h a w hp
    refine ⟨v, w, ?_, hE, hR⟩
    unfold execOp
    rw [ho]
    dsimp only [Option.map]
    rw [h1, h2, Sem.run_bind, h3]
    rfl
theorem cf_sub (T T' : TypeId) (s t : Tmp) (ho : o.op = .binOp .sub T (.tmp s) (.tmp t) T')
    (h : ∀ (a : Act) (w : World), RG.PreF F ops a0 k o a w → ∃ v1 v2 v, a.eval (.tmp s) = v1 ∧ a.eval (.tmp t) = v2 ∧ (binOp .sub T v1 v2).run P w = .ok v w ∧ F.E k w w ∧ F.R k v w) : RG.CertF P Q F ops a0 k o :=
  RG.cf_val fun a w hp => by
    obtain ⟨v1, v2, v, h1, h2, h3, hE, hR⟩ := h a w hp
    refine ⟨v, w, ?_, hE, hR⟩
    unfold execOp
    rw [ho]
    dsimp only
    rw [h1, h2, Sem.run_bind, Sem.run_bind, show (eqGuard .sub T (.tmp s) (.tmp t) v1 v2).run P w = .ok () w from rfl]
    dsimp only [Result.andThen]
    rw [h3]
    rfl
end
theorem ssl_hi (gg oo n c k : Nat) (hk : k ≤ c) (w : World) : (Instr.sliceAt 22 (.slice (some ⟨gg, oo, none⟩) n c) none (some (.int .i64 (k : Int))) none).run Try.prog w = .ok (.slice (some ⟨gg, oo, none⟩) k c) w := by
  have h1 : (k : Int) ≤ c := by omega
  go_simp
theorem ssl_lo (gg oo n c k : Nat) (hk : k < n) (hc : n ≤ c) (w : World) : (Instr.sliceAt 22 (.slice (some ⟨gg, oo, none⟩) n c) (some (.int .i64 (k : Int))) none none).run Try.prog w = .ok (.slice (some ⟨gg, oo + k, none⟩) (n - k) (c - k)) w := by
  have h1 : (k : Int) ≤ n := by omega
  have h2 : (n : Int) ≤ c := by omega
  have h3 : ¬ c = k := by omega
  have h4 : ¬ c - k = 0 := by omega
  go_simp
theorem Texts.part {w : World} {gg oo n k : Nat} {S : Nat → ByteArray} {a : Nat} (h : Texts w (some ⟨gg, oo, none⟩) n (fun j => S (a + j))) (hk : k ≤ n) : Texts w (some ⟨gg, oo + k, none⟩) (n - k) (fun j => S (a + k + j)) := fun hn => by
  obtain ⟨gg', oo', e, h2, h3⟩ := h (by omega)
  cases e
  refine ⟨gg, oo + k, rfl, h2, fun j hj => ?_⟩
  have := h3 (k + j) (by omega)
  rw [← Nat.add_assoc] at this
  show _ = some (Value.string (S (a + k + j)))
  rw [Nat.add_assoc a k j]
  exact this
theorem Texts.first {w : World} {q : Option Addr} {n m : Nat} {S : Nat → ByteArray} (h : Texts w q n S) (hm : m ≤ n) : Texts w q m S := fun hn => by
  obtain ⟨gg, oo, h1, h2, h3⟩ := h (by omega)
  exact ⟨gg, oo, h1, h2, fun j hj => h3 j (by omega)⟩
end Go.Proofs.Ythbgppnhlpjngaa
namespace Go.Proofs.Ythbgppnhlpjngaa
open Go.RowKit Go.Sort Go.Deep
set_option maxHeartbeats 4000000 in
set_option maxRecDepth 100000 in
theorem rpath_lo (i : Nat) (gg oo n c k : Nat) (L : List ByteArray) (T : Bs) (hLn : L.length ≤ 1048576) (hkn : k < n) (hnc : n ≤ c) (hn : ¬ n = 1) (hki : i < k) (w : World)
    (hHf : ∀ w, Calls Try.prog 25 #[.int .i64 (n : Int)] w fun e w' => e = .returned (.int .i64 (k : Int)) ∧ w' = w)
    (H1 : ∀ w', Below w.heap.size w w' → Calls Try.prog 13 #[.slice (some ⟨gg, oo, none⟩) k c, .int .i64 (i : Int)] w' (Ret fun e w'' => Below w'.heap.size w' w'' ∧ SLs w'' w'.heap.size e L))
    (H2 : ∀ w', Below w.heap.size w w' → Calls Try.prog 12 #[.slice (some ⟨gg, oo + k, none⟩) (n - k) (c - k)] w' (Ret fun e w'' => Below w'.heap.size w' w'' ∧ e = .string ⟨T⟩)) :
    Calls Try.prog 13 #[.slice (some ⟨gg, oo, none⟩) n c, .int .i64 (i : Int)] w (Ret fun e w' => Below w.heap.size w w' ∧ SLs w' w.heap.size e (L ++ [⟨T⟩])) := by
  have hsh := fun w => ssl_hi gg oo n c k (by omega) w
  have hsl := fun w => ssl_lo gg oo n c k (by omega) hnc w
  have g1 : ¬ (n : Int) = 1 := by omega
  have g0 : ((n : Int) == 1) = false := by simpa using g1
  have g2 : (i : Int) < (k : Int) := by omega
  clear g1
  go_enter Try.func13, Try.ntmps13
  go_wp2_with fail
  refine (hHf w).mono ?_
  rintro e w' ⟨rfl, rfl⟩
  go_wp2_with fail
  refine RG.flow_draws (FA w'.heap.size 10 [.eq (.slice (some ⟨gg, oo, none⟩) n c), .eq (.int .i64 (k : Int)), .eq (.slice (some ⟨gg, oo, none⟩) k c), .eq (.int .i64 (i : Int)), .lst L, .eq (.slice (some ⟨gg, oo, none⟩) n c), .eq (.int .i64 (k : Int)), .eq (.slice (some ⟨gg, oo + k, none⟩) (n - k) (c - k)), .eq (.string ⟨T⟩), .box ⟨T⟩, .lst (L ++ [⟨T⟩]), .lst (L ++ [⟨T⟩])] w') (by kernel_rfl) ⟨by kernel_rfl, RG.certs_of ?_, fun i j _ hj hij hk hdp => FA.stab (by kernel_rfl) (by kernel_rfl) i j hj hij hk hdp, fun i b _ _ w1 w2 hE hB => FA.stabB i b w1 w2 hE hB⟩ (fun _ => ⟨(Below.refl _ _).drew, Nat.le_refl _⟩) ?_
  · exact ⟨RG.cf_many fun a W hp => ⟨[(0, .slice (some ⟨gg, oo, none⟩) n c)], .slice (some ⟨gg, oo, none⟩) n c, W, ⟨hp.o 0 (by kernel_rfl), trivial⟩, by kernel_rfl, Or.inl (Below.refl _ _), rfl⟩,
      RG.cf_many fun a W hp => ⟨[(5, .int .i64 (k : Int))], .int .i64 (k : Int), W, ⟨hp.o 5 (by kernel_rfl), trivial⟩, by kernel_rfl, Or.inl (Below.refl _ _), rfl⟩,
      cf_shi 22 15 16 rfl fun a W hp => ⟨_, _, _, hp.n 0 15 (by kernel_rfl) (by kernel_rfl) (by kernel_rfl), hp.n 1 16 (by kernel_rfl) (by kernel_rfl) (by kernel_rfl), hsh W, Or.inl (Below.refl _ _), rfl⟩,
      RG.cf_many fun a W hp => ⟨[(1, .int .i64 (i : Int))], .int .i64 (i : Int), W, ⟨hp.o 1 (by kernel_rfl), trivial⟩, by kernel_rfl, Or.inl (Below.refl _ _), rfl⟩,
      RG.cf_calls fun a W hp => ⟨[(17, .slice (some ⟨gg, oo, none⟩) k c), (18, .int .i64 (i : Int))], 13, #[.slice (some ⟨gg, oo, none⟩) k c, .int .i64 (i : Int)], ⟨hp.n 2 17 (by kernel_rfl) (by kernel_rfl) (by kernel_rfl), hp.n 3 18 (by kernel_rfl) (by kernel_rfl) (by kernel_rfl), trivial⟩, by kernel_rfl, (H1 W (hp.b 0 (by kernel_rfl)).1).mono (by
      rintro e' W' ⟨u, rfl, hb, hl⟩
      exact ⟨_, rfl, Or.inl hb, hl.less (hp.b 0 (by kernel_rfl)).2⟩)⟩,
      RG.cf_many fun a W hp => ⟨[(0, .slice (some ⟨gg, oo, none⟩) n c)], .slice (some ⟨gg, oo, none⟩) n c, W, ⟨hp.o 0 (by kernel_rfl), trivial⟩, by kernel_rfl, Or.inl (Below.refl _ _), rfl⟩,
      RG.cf_many fun a W hp => ⟨[(5, .int .i64 (k : Int))], .int .i64 (k : Int), W, ⟨hp.o 5 (by kernel_rfl), trivial⟩, by kernel_rfl, Or.inl (Below.refl _ _), rfl⟩,
      cf_slo 22 20 21 rfl fun a W hp => ⟨_, _, _, hp.n 5 20 (by kernel_rfl) (by kernel_rfl) (by kernel_rfl), hp.n 6 21 (by kernel_rfl) (by kernel_rfl) (by kernel_rfl), hsl W, Or.inl (Below.refl _ _), rfl⟩,
      RG.cf_calls fun a W hp => ⟨[(22, .slice (some ⟨gg, oo + k, none⟩) (n - k) (c - k))], 12, #[.slice (some ⟨gg, oo + k, none⟩) (n - k) (c - k)], ⟨hp.n 7 22 (by kernel_rfl) (by kernel_rfl) (by kernel_rfl), trivial⟩, by kernel_rfl, (H2 W (hp.b 0 (by kernel_rfl)).1).mono (by
      rintro e' W' ⟨u, rfl, hb, rfl⟩
      exact ⟨_, rfl, Or.inl hb, rfl⟩)⟩,
      RG.cf_many fun a W hp => ⟨[(23, .string ⟨T⟩)], .slice (some ⟨W.heap.size, 0, none⟩) 1 1, W.alloc (.cells #[.string ⟨T⟩] 9), ⟨hp.n 8 23 (by kernel_rfl) (by kernel_rfl) (by kernel_rfl), trivial⟩, by kernel_rfl, Or.inl ((Below.refl _ _).alloc (Nat.le_refl _) _), W.heap.size, rfl, by rw [World.size_alloc]; omega, by simp⟩,
      RG.cf_app 19 24 22 rfl fun a W hp => by
      obtain ⟨v', w', h1, h2, h3⟩ := SLs.app (show SLs W w'.heap.size (a.eval (.tmp 19)) L from hp.n 4 19 (by kernel_rfl) (by kernel_rfl) (by kernel_rfl)) (show Bxs w'.heap.size W (a.eval (.tmp 24)) ⟨T⟩ from hp.n 9 24 (by kernel_rfl) (by kernel_rfl) (by kernel_rfl)) (hp.b 0 (by kernel_rfl)).2 hLn
      exact ⟨v', w', h1, Or.inr ⟨rfl, h3⟩, h2⟩,
      RG.cf_one 25 fun a W hp => ⟨a.eval (.tmp 25), W, by kernel_rfl, by kernel_rfl, Or.inl (Below.refl _ _), hp.n 10 25 (by kernel_rfl) (by kernel_rfl) (by kernel_rfl)⟩, trivial⟩
  · intro V w5 hV hB
    have hL : SLs w5 w'.heap.size (V 11) (L ++ [⟨T⟩]) := hV 11 (Nat.lt_of_succ_le (Nat.le_of_ble_eq_true (by kernel_rfl))) rfl
    have K5 : Hid (Below w'.heap.size w' w5 ∧ SLs w5 w'.heap.size (V 11) (L ++ [⟨T⟩])) := ⟨(hB 0 rfl).1, hL⟩
    dsimp only [RG.putV, Nat.reduceAdd]
    simp only [Act.put, List.setIfInBounds_toArray, List.set_cons_succ, List.set_cons_zero]
    generalize V 11 = v at K5 ⊢
    clear hV hB hL H1 H2 hHf
    go_wp2
    go_ret
    exact ⟨_, rfl, K5.out.1, K5.out.2⟩
set_option maxHeartbeats 4000000 in
set_option maxRecDepth 100000 in
theorem rpath_hi (i i2 : Nat) (gg oo n c k : Nat) (L : List ByteArray) (T : Bs) (hLn : L.length ≤ 1048576) (hkn : k < n) (hnc : n ≤ c) (hn : ¬ n = 1) (hki : ¬ i < k) (hi : i ≤ 1048576) (hi2 : i - k = i2) (w : World)
    (hHf : ∀ w, Calls Try.prog 25 #[.int .i64 (n : Int)] w fun e w' => e = .returned (.int .i64 (k : Int)) ∧ w' = w)
    (H1 : ∀ w', Below w.heap.size w w' → Calls Try.prog 13 #[.slice (some ⟨gg, oo + k, none⟩) (n - k) (c - k), .int .i64 (i2 : Int)] w' (Ret fun e w'' => Below w'.heap.size w' w'' ∧ SLs w'' w'.heap.size e L))
    (H2 : ∀ w', Below w.heap.size w w' → Calls Try.prog 12 #[.slice (some ⟨gg, oo, none⟩) k c] w' (Ret fun e w'' => Below w'.heap.size w' w'' ∧ e = .string ⟨T⟩)) :
    Calls Try.prog 13 #[.slice (some ⟨gg, oo, none⟩) n c, .int .i64 (i : Int)] w (Ret fun e w' => Below w.heap.size w w' ∧ SLs w' w.heap.size e (L ++ [⟨T⟩])) := by
  have hsh := fun w => ssl_hi gg oo n c k (by omega) w
  have hsl := fun w => ssl_lo gg oo n c k (by omega) hnc w
  have hsub : ∀ w : World, (binOp .sub 3 (.int .i64 (i : Int)) (.int .i64 (k : Int))).run Try.prog w = .ok (.int .i64 (i2 : Int)) w := fun w => by
    have f1 : wrap64 ((i : Int) - (k : Int)) = (i2 : Int) := by unfold wrap64; omega
    go_simp
    rw [IntKind.wrap_i64]
    omega
  have g1 : ¬ (n : Int) = 1 := by omega
  have g0 : ((n : Int) == 1) = false := by simpa using g1
  have g2 : ¬ (i : Int) < (k : Int) := by omega
  clear g1
  go_enter Try.func13, Try.ntmps13
  go_wp2_with fail
  refine (hHf w).mono ?_
  rintro e w' ⟨rfl, rfl⟩
  go_wp2_with fail
  refine RG.flow_draws (FA w'.heap.size 12 [.eq (.slice (some ⟨gg, oo, none⟩) n c), .eq (.int .i64 (k : Int)), .eq (.slice (some ⟨gg, oo + k, none⟩) (n - k) (c - k)), .eq (.int .i64 (i : Int)), .eq (.int .i64 (k : Int)), .eq (.int .i64 (i2 : Int)), .lst L, .eq (.slice (some ⟨gg, oo, none⟩) n c), .eq (.int .i64 (k : Int)), .eq (.slice (some ⟨gg, oo, none⟩) k c), .eq (.string ⟨T⟩), .box ⟨T⟩, .lst (L ++ [⟨T⟩]), .lst (L ++ [⟨T⟩])] w') (by kernel_rfl) ⟨by kernel_rfl, RG.certs_of ?_, fun i j _ hj hij hk hdp => FA.stab (by kernel_rfl) (by kernel_rfl) i j hj hij hk hdp, fun i b _ _ w1 w2 hE hB => FA.stabB i b w1 w2 hE hB⟩ (fun _ => ⟨(Below.refl _ _).drew, Nat.le_refl _⟩) ?_
  · exact ⟨RG.cf_many fun a W hp => ⟨[(0, .slice (some ⟨gg, oo, none⟩) n c)], .slice (some ⟨gg, oo, none⟩) n c, W, ⟨hp.o 0 (by kernel_rfl), trivial⟩, by kernel_rfl, Or.inl (Below.refl _ _), rfl⟩,
      RG.cf_many fun a W hp => ⟨[(5, .int .i64 (k : Int))], .int .i64 (k : Int), W, ⟨hp.o 5 (by kernel_rfl), trivial⟩, by kernel_rfl, Or.inl (Below.refl _ _), rfl⟩,
      cf_slo 22 26 27 rfl fun a W hp => ⟨_, _, _, hp.n 0 26 (by kernel_rfl) (by kernel_rfl) (by kernel_rfl), hp.n 1 27 (by kernel_rfl) (by kernel_rfl) (by kernel_rfl), hsl W, Or.inl (Below.refl _ _), rfl⟩,
      RG.cf_many fun a W hp => ⟨[(1, .int .i64 (i : Int))], .int .i64 (i : Int), W, ⟨hp.o 1 (by kernel_rfl), trivial⟩, by kernel_rfl, Or.inl (Below.refl _ _), rfl⟩,
      RG.cf_many fun a W hp => ⟨[(5, .int .i64 (k : Int))], .int .i64 (k : Int), W, ⟨hp.o 5 (by kernel_rfl), trivial⟩, by kernel_rfl, Or.inl (Below.refl _ _), rfl⟩,
      cf_sub 3 3 29 30 rfl fun a W hp => ⟨_, _, _, hp.n 3 29 (by kernel_rfl) (by kernel_rfl) (by kernel_rfl), hp.n 4 30 (by kernel_rfl) (by kernel_rfl) (by kernel_rfl), hsub W, Or.inl (Below.refl _ _), rfl⟩,
      RG.cf_calls fun a W hp => ⟨[(28, .slice (some ⟨gg, oo + k, none⟩) (n - k) (c - k)), (31, .int .i64 (i2 : Int))], 13, #[.slice (some ⟨gg, oo + k, none⟩) (n - k) (c - k), .int .i64 (i2 : Int)], ⟨hp.n 2 28 (by kernel_rfl) (by kernel_rfl) (by kernel_rfl), hp.n 5 31 (by kernel_rfl) (by kernel_rfl) (by kernel_rfl), trivial⟩, by kernel_rfl, (H1 W (hp.b 0 (by kernel_rfl)).1).mono (by
      rintro e' W' ⟨u, rfl, hb, hl⟩
      exact ⟨_, rfl, Or.inl hb, hl.less (hp.b 0 (by kernel_rfl)).2⟩)⟩,
      RG.cf_many fun a W hp => ⟨[(0, .slice (some ⟨gg, oo, none⟩) n c)], .slice (some ⟨gg, oo, none⟩) n c, W, ⟨hp.o 0 (by kernel_rfl), trivial⟩, by kernel_rfl, Or.inl (Below.refl _ _), rfl⟩,
      RG.cf_many fun a W hp => ⟨[(5, .int .i64 (k : Int))], .int .i64 (k : Int), W, ⟨hp.o 5 (by kernel_rfl), trivial⟩, by kernel_rfl, Or.inl (Below.refl _ _), rfl⟩,
      cf_shi 22 33 34 rfl fun a W hp => ⟨_, _, _, hp.n 7 33 (by kernel_rfl) (by kernel_rfl) (by kernel_rfl), hp.n 8 34 (by kernel_rfl) (by kernel_rfl) (by kernel_rfl), hsh W, Or.inl (Below.refl _ _), rfl⟩,
      RG.cf_calls fun a W hp => ⟨[(35, .slice (some ⟨gg, oo, none⟩) k c)], 12, #[.slice (some ⟨gg, oo, none⟩) k c], ⟨hp.n 9 35 (by kernel_rfl) (by kernel_rfl) (by kernel_rfl), trivial⟩, by kernel_rfl, (H2 W (hp.b 0 (by kernel_rfl)).1).mono (by
      rintro e' W' ⟨u, rfl, hb, rfl⟩
      exact ⟨_, rfl, Or.inl hb, rfl⟩)⟩,
      RG.cf_many fun a W hp => ⟨[(36, .string ⟨T⟩)], .slice (some ⟨W.heap.size, 0, none⟩) 1 1, W.alloc (.cells #[.string ⟨T⟩] 9), ⟨hp.n 10 36 (by kernel_rfl) (by kernel_rfl) (by kernel_rfl), trivial⟩, by kernel_rfl, Or.inl ((Below.refl _ _).alloc (Nat.le_refl _) _), W.heap.size, rfl, by rw [World.size_alloc]; omega, by simp⟩,
      RG.cf_app 32 37 22 rfl fun a W hp => by
      obtain ⟨v', w', h1, h2, h3⟩ := SLs.app (show SLs W w'.heap.size (a.eval (.tmp 32)) L from hp.n 6 32 (by kernel_rfl) (by kernel_rfl) (by kernel_rfl)) (show Bxs w'.heap.size W (a.eval (.tmp 37)) ⟨T⟩ from hp.n 11 37 (by kernel_rfl) (by kernel_rfl) (by kernel_rfl)) (hp.b 0 (by kernel_rfl)).2 hLn
      exact ⟨v', w', h1, Or.inr ⟨rfl, h3⟩, h2⟩,
      RG.cf_one 38 fun a W hp => ⟨a.eval (.tmp 38), W, by kernel_rfl, by kernel_rfl, Or.inl (Below.refl _ _), hp.n 12 38 (by kernel_rfl) (by kernel_rfl) (by kernel_rfl)⟩, trivial⟩
  · intro V w5 hV hB
    have hL : SLs w5 w'.heap.size (V 13) (L ++ [⟨T⟩]) := hV 13 (Nat.lt_of_succ_le (Nat.le_of_ble_eq_true (by kernel_rfl))) rfl
    have K5 : Hid (Below w'.heap.size w' w5 ∧ SLs w5 w'.heap.size (V 13) (L ++ [⟨T⟩])) := ⟨(hB 0 rfl).1, hL⟩
    dsimp only [RG.putV, Nat.reduceAdd]
    simp only [Act.put, List.setIfInBounds_toArray, List.set_cons_succ, List.set_cons_zero]
    generalize V 13 = v at K5 ⊢
    clear hV hB hL H1 H2 hHf
    go_wp2
    go_ret
    exact ⟨_, rfl, K5.out.1, K5.out.2⟩
set_option maxHeartbeats 4000000 in
set_option maxRecDepth 100000 in
theorem rgrowth_lo (m : Nat) (kn : Bool) (gg oo n c k : Nat) (L : List ByteArray) (T : Bs) (hLn : L.length ≤ 1048576) (hkn : k < n) (hnc : n ≤ c) (hmn : ¬ m = n) (hki : m ≤ k) (w : World)
    (hHf : ∀ w, Calls Try.prog 25 #[.int .i64 (n : Int)] w fun e w' => e = .returned (.int .i64 (k : Int)) ∧ w' = w)
    (H1 : ∀ w', Below w.heap.size w w' → Calls Try.prog 14 #[.slice (some ⟨gg, oo, none⟩) k c, .int .i64 (m : Int), .bool kn] w' (Ret fun e w'' => Below w'.heap.size w' w'' ∧ SLs w'' w'.heap.size e L))
    (H2 : ∀ w', Below w.heap.size w w' → Calls Try.prog 12 #[.slice (some ⟨gg, oo + k, none⟩) (n - k) (c - k)] w' (Ret fun e w'' => Below w'.heap.size w' w'' ∧ e = .string ⟨T⟩)) :
    Calls Try.prog 14 #[.slice (some ⟨gg, oo, none⟩) n c, .int .i64 (m : Int), .bool kn] w (Ret fun e w' => Below w.heap.size w w' ∧ SLs w' w.heap.size e (L ++ [⟨T⟩])) := by
  have hsh := fun w => ssl_hi gg oo n c k (by omega) w
  have hsl := fun w => ssl_lo gg oo n c k (by omega) hnc w
  have g1 : ¬ (m : Int) = (n : Int) := by omega
  have g0 : ((m : Int) == (n : Int)) = false := by simpa using g1
  have g2 : (m : Int) ≤ (k : Int) := by omega
  clear g1
  go_enter Try.func14, Try.ntmps14
  go_wp2_with fail
  refine (hHf w).mono ?_
  rintro e w' ⟨rfl, rfl⟩
  go_wp2_with fail
  refine RG.flow_draws (FA w'.heap.size 11 [.eq (.slice (some ⟨gg, oo, none⟩) n c), .eq (.int .i64 (k : Int)), .eq (.slice (some ⟨gg, oo, none⟩) k c), .eq (.int .i64 (m : Int)), .eq (.bool kn), .lst L, .eq (.slice (some ⟨gg, oo, none⟩) n c), .eq (.int .i64 (k : Int)), .eq (.slice (some ⟨gg, oo + k, none⟩) (n - k) (c - k)), .eq (.string ⟨T⟩), .box ⟨T⟩, .lst (L ++ [⟨T⟩]), .lst (L ++ [⟨T⟩])] w') (by kernel_rfl) ⟨by kernel_rfl, RG.certs_of ?_, fun i j _ hj hij hk hdp => FA.stab (by kernel_rfl) (by kernel_rfl) i j hj hij hk hdp, fun i b _ _ w1 w2 hE hB => FA.stabB i b w1 w2 hE hB⟩ (fun _ => ⟨(Below.refl _ _).drew, Nat.le_refl _⟩) ?_
  · exact ⟨RG.cf_many fun a W hp => ⟨[(0, .slice (some ⟨gg, oo, none⟩) n c)], .slice (some ⟨gg, oo, none⟩) n c, W, ⟨hp.o 0 (by kernel_rfl), trivial⟩, by kernel_rfl, Or.inl (Below.refl _ _), rfl⟩,
      RG.cf_many fun a W hp => ⟨[(8, .int .i64 (k : Int))], .int .i64 (k : Int), W, ⟨hp.o 8 (by kernel_rfl), trivial⟩, by kernel_rfl, Or.inl (Below.refl _ _), rfl⟩,
      cf_shi 22 23 24 rfl fun a W hp => ⟨_, _, _, hp.n 0 23 (by kernel_rfl) (by kernel_rfl) (by kernel_rfl), hp.n 1 24 (by kernel_rfl) (by kernel_rfl) (by kernel_rfl), hsh W, Or.inl (Below.refl _ _), rfl⟩,
      RG.cf_many fun a W hp => ⟨[(1, .int .i64 (m : Int))], .int .i64 (m : Int), W, ⟨hp.o 1 (by kernel_rfl), trivial⟩, by kernel_rfl, Or.inl (Below.refl _ _), rfl⟩,
      RG.cf_many fun a W hp => ⟨[(2, .bool kn)], .bool kn, W, ⟨hp.o 2 (by kernel_rfl), trivial⟩, by kernel_rfl, Or.inl (Below.refl _ _), rfl⟩,
      RG.cf_calls fun a W hp => ⟨[(25, .slice (some ⟨gg, oo, none⟩) k c), (26, .int .i64 (m : Int)), (27, .bool kn)], 14, #[.slice (some ⟨gg, oo, none⟩) k c, .int .i64 (m : Int), .bool kn], ⟨hp.n 2 25 (by kernel_rfl) (by kernel_rfl) (by kernel_rfl), hp.n 3 26 (by kernel_rfl) (by kernel_rfl) (by kernel_rfl), hp.n 4 27 (by kernel_rfl) (by kernel_rfl) (by kernel_rfl), trivial⟩, by kernel_rfl, (H1 W (hp.b 0 (by kernel_rfl)).1).mono (by
      rintro e' W' ⟨u, rfl, hb, hl⟩
      exact ⟨_, rfl, Or.inl hb, hl.less (hp.b 0 (by kernel_rfl)).2⟩)⟩,
      RG.cf_many fun a W hp => ⟨[(0, .slice (some ⟨gg, oo, none⟩) n c)], .slice (some ⟨gg, oo, none⟩) n c, W, ⟨hp.o 0 (by kernel_rfl), trivial⟩, by kernel_rfl, Or.inl (Below.refl _ _), rfl⟩,
      RG.cf_many fun a W hp => ⟨[(8, .int .i64 (k : Int))], .int .i64 (k : Int), W, ⟨hp.o 8 (by kernel_rfl), trivial⟩, by kernel_rfl, Or.inl (Below.refl _ _), rfl⟩,
      cf_slo 22 29 30 rfl fun a W hp => ⟨_, _, _, hp.n 6 29 (by kernel_rfl) (by kernel_rfl) (by kernel_rfl), hp.n 7 30 (by kernel_rfl) (by kernel_rfl) (by kernel_rfl), hsl W, Or.inl (Below.refl _ _), rfl⟩,
      RG.cf_calls fun a W hp => ⟨[(31, .slice (some ⟨gg, oo + k, none⟩) (n - k) (c - k))], 12, #[.slice (some ⟨gg, oo + k, none⟩) (n - k) (c - k)], ⟨hp.n 8 31 (by kernel_rfl) (by kernel_rfl) (by kernel_rfl), trivial⟩, by kernel_rfl, (H2 W (hp.b 0 (by kernel_rfl)).1).mono (by
      rintro e' W' ⟨u, rfl, hb, rfl⟩
      exact ⟨_, rfl, Or.inl hb, rfl⟩)⟩,
      RG.cf_many fun a W hp => ⟨[(32, .string ⟨T⟩)], .slice (some ⟨W.heap.size, 0, none⟩) 1 1, W.alloc (.cells #[.string ⟨T⟩] 9), ⟨hp.n 9 32 (by kernel_rfl) (by kernel_rfl) (by kernel_rfl), trivial⟩, by kernel_rfl, Or.inl ((Below.refl _ _).alloc (Nat.le_refl _) _), W.heap.size, rfl, by rw [World.size_alloc]; omega, by simp⟩,
      RG.cf_app 28 33 22 rfl fun a W hp => by
      obtain ⟨v', w', h1, h2, h3⟩ := SLs.app (show SLs W w'.heap.size (a.eval (.tmp 28)) L from hp.n 5 28 (by kernel_rfl) (by kernel_rfl) (by kernel_rfl)) (show Bxs w'.heap.size W (a.eval (.tmp 33)) ⟨T⟩ from hp.n 10 33 (by kernel_rfl) (by kernel_rfl) (by kernel_rfl)) (hp.b 0 (by kernel_rfl)).2 hLn
      exact ⟨v', w', h1, Or.inr ⟨rfl, h3⟩, h2⟩,
      RG.cf_one 34 fun a W hp => ⟨a.eval (.tmp 34), W, by kernel_rfl, by kernel_rfl, Or.inl (Below.refl _ _), hp.n 11 34 (by kernel_rfl) (by kernel_rfl) (by kernel_rfl)⟩, trivial⟩
  · intro V w5 hV hB
    have hL : SLs w5 w'.heap.size (V 12) (L ++ [⟨T⟩]) := hV 12 (Nat.lt_of_succ_le (Nat.le_of_ble_eq_true (by kernel_rfl))) rfl
    have K5 : Hid (Below w'.heap.size w' w5 ∧ SLs w5 w'.heap.size (V 12) (L ++ [⟨T⟩])) := ⟨(hB 0 rfl).1, hL⟩
    dsimp only [RG.putV, Nat.reduceAdd]
    simp only [Act.put, List.setIfInBounds_toArray, List.set_cons_succ, List.set_cons_zero]
    generalize V 12 = v at K5 ⊢
    clear hV hB hL H1 H2 hHf
    go_wp2
    go_ret
    exact ⟨_, rfl, K5.out.1, K5.out.2⟩
set_option maxHeartbeats 4000000 in
set_option maxRecDepth 100000 in
theorem rgrowth_hi (m m2 : Nat) (kn : Bool) (gg oo n c k : Nat) (L : List ByteArray) (T : Bs) (hLn : L.length ≤ 1048576) (hkn : k < n) (hnc : n ≤ c) (hmn : ¬ m = n) (hki : ¬ m ≤ k) (hm : m ≤ 1048576) (hm2 : m - k = m2) (w : World)
    (hHf : ∀ w, Calls Try.prog 25 #[.int .i64 (n : Int)] w fun e w' => e = .returned (.int .i64 (k : Int)) ∧ w' = w)
    (H1 : ∀ w', Below w.heap.size w w' → Calls Try.prog 14 #[.slice (some ⟨gg, oo + k, none⟩) (n - k) (c - k), .int .i64 (m2 : Int), .bool false] w' (Ret fun e w'' => Below w'.heap.size w' w'' ∧ SLs w'' w'.heap.size e L))
    (H2 : ∀ w', Below w.heap.size w w' → Calls Try.prog 12 #[.slice (some ⟨gg, oo, none⟩) k c] w' (Ret fun e w'' => Below w'.heap.size w' w'' ∧ e = .string ⟨T⟩)) :
    Calls Try.prog 14 #[.slice (some ⟨gg, oo, none⟩) n c, .int .i64 (m : Int), .bool kn] w (Ret fun e w' => Below w.heap.size w w' ∧ SLs w' w.heap.size e (L ++ [⟨T⟩])) := by
  have hsh := fun w => ssl_hi gg oo n c k (by omega) w
  have hsl := fun w => ssl_lo gg oo n c k (by omega) hnc w
  have hsub : ∀ w : World, (binOp .sub 3 (.int .i64 (m : Int)) (.int .i64 (k : Int))).run Try.prog w = .ok (.int .i64 (m2 : Int)) w := fun w => by
    have f1 : wrap64 ((m : Int) - (k : Int)) = (m2 : Int) := by unfold wrap64; omega
    go_simp
    rw [IntKind.wrap_i64]
    omega
  have g1 : ¬ (m : Int) = (n : Int) := by omega
  have g0 : ((m : Int) == (n : Int)) = false := by simpa using g1
  have g2 : ¬ (m : Int) ≤ (k : Int) := by omega
  clear g1
  go_enter Try.func14, Try.ntmps14
  go_wp2_with fail
  refine (hHf w).mono ?_
  rintro e w' ⟨rfl, rfl⟩
  go_wp2_with fail
  refine RG.flow_draws (FA w'.heap.size 12 [.eq (.slice (some ⟨gg, oo, none⟩) n c), .eq (.int .i64 (k : Int)), .eq (.slice (some ⟨gg, oo + k, none⟩) (n - k) (c - k)), .eq (.int .i64 (m : Int)), .eq (.int .i64 (k : Int)), .eq (.int .i64 (m2 : Int)), .lst L, .eq (.slice (some ⟨gg, oo, none⟩) n c), .eq (.int .i64 (k : Int)), .eq (.slice (some ⟨gg, oo, none⟩) k c), .eq (.string ⟨T⟩), .box ⟨T⟩, .lst (L ++ [⟨T⟩]), .lst (L ++ [⟨T⟩])] w') (by kernel_rfl) ⟨by kernel_rfl, RG.certs_of ?_, fun i j _ hj hij hk hdp => FA.stab (by kernel_rfl) (by kernel_rfl) i j hj hij hk hdp, fun i b _ _ w1 w2 hE hB => FA.stabB i b w1 w2 hE hB⟩ (fun _ => ⟨(Below.refl _ _).drew, Nat.le_refl _⟩) ?_
  · exact ⟨RG.cf_many fun a W hp => ⟨[(0, .slice (some ⟨gg, oo, none⟩) n c)], .slice (some ⟨gg, oo, none⟩) n c, W, ⟨hp.o 0 (by kernel_rfl), trivial⟩, by kernel_rfl, Or.inl (Below.refl _ _), rfl⟩,
      RG.cf_many fun a W hp => ⟨[(8, .int .i64 (k : Int))], .int .i64 (k : Int), W, ⟨hp.o 8 (by kernel_rfl), trivial⟩, by kernel_rfl, Or.inl (Below.refl _ _), rfl⟩,
      cf_slo 22 35 36 rfl fun a W hp => ⟨_, _, _, hp.n 0 35 (by kernel_rfl) (by kernel_rfl) (by kernel_rfl), hp.n 1 36 (by kernel_rfl) (by kernel_rfl) (by kernel_rfl), hsl W, Or.inl (Below.refl _ _), rfl⟩,
      RG.cf_many fun a W hp => ⟨[(1, .int .i64 (m : Int))], .int .i64 (m : Int), W, ⟨hp.o 1 (by kernel_rfl), trivial⟩, by kernel_rfl, Or.inl (Below.refl _ _), rfl⟩,
      RG.cf_many fun a W hp => ⟨[(8, .int .i64 (k : Int))], .int .i64 (k : Int), W, ⟨hp.o 8 (by kernel_rfl), trivial⟩, by kernel_rfl, Or.inl (Below.refl _ _), rfl⟩,
      cf_sub 3 3 38 39 rfl fun a W hp => ⟨_, _, _, hp.n 3 38 (by kernel_rfl) (by kernel_rfl) (by kernel_rfl), hp.n 4 39 (by kernel_rfl) (by kernel_rfl) (by kernel_rfl), hsub W, Or.inl (Below.refl _ _), rfl⟩,
      RG.cf_calls fun a W hp => ⟨[(37, .slice (some ⟨gg, oo + k, none⟩) (n - k) (c - k)), (40, .int .i64 (m2 : Int))], 14, #[.slice (some ⟨gg, oo + k, none⟩) (n - k) (c - k), .int .i64 (m2 : Int), .bool false], ⟨hp.n 2 37 (by kernel_rfl) (by kernel_rfl) (by kernel_rfl), hp.n 5 40 (by kernel_rfl) (by kernel_rfl) (by kernel_rfl), trivial⟩, by kernel_rfl, (H1 W (hp.b 0 (by kernel_rfl)).1).mono (by
      rintro e' W' ⟨u, rfl, hb, hl⟩
      exact ⟨_, rfl, Or.inl hb, hl.less (hp.b 0 (by kernel_rfl)).2⟩)⟩,
      RG.cf_many fun a W hp => ⟨[(0, .slice (some ⟨gg, oo, none⟩) n c)], .slice (some ⟨gg, oo, none⟩) n c, W, ⟨hp.o 0 (by kernel_rfl), trivial⟩, by kernel_rfl, Or.inl (Below.refl _ _), rfl⟩,
      RG.cf_many fun a W hp => ⟨[(8, .int .i64 (k : Int))], .int .i64 (k : Int), W, ⟨hp.o 8 (by kernel_rfl), trivial⟩, by kernel_rfl, Or.inl (Below.refl _ _), rfl⟩,
      cf_shi 22 42 43 rfl fun a W hp => ⟨_, _, _, hp.n 7 42 (by kernel_rfl) (by kernel_rfl) (by kernel_rfl), hp.n 8 43 (by kernel_rfl) (by kernel_rfl) (by kernel_rfl), hsh W, Or.inl (Below.refl _ _), rfl⟩,
      RG.cf_calls fun a W hp => ⟨[(44, .slice (some ⟨gg, oo, none⟩) k c)], 12, #[.slice (some ⟨gg, oo, none⟩) k c], ⟨hp.n 9 44 (by kernel_rfl) (by kernel_rfl) (by kernel_rfl), trivial⟩, by kernel_rfl, (H2 W (hp.b 0 (by kernel_rfl)).1).mono (by
      rintro e' W' ⟨u, rfl, hb, rfl⟩
      exact ⟨_, rfl, Or.inl hb, rfl⟩)⟩,
      RG.cf_many fun a W hp => ⟨[(45, .string ⟨T⟩)], .slice (some ⟨W.heap.size, 0, none⟩) 1 1, W.alloc (.cells #[.string ⟨T⟩] 9), ⟨hp.n 10 45 (by kernel_rfl) (by kernel_rfl) (by kernel_rfl), trivial⟩, by kernel_rfl, Or.inl ((Below.refl _ _).alloc (Nat.le_refl _) _), W.heap.size, rfl, by rw [World.size_alloc]; omega, by simp⟩,
      RG.cf_app 41 46 22 rfl fun a W hp => by
      obtain ⟨v', w', h1, h2, h3⟩ := SLs.app (show SLs W w'.heap.size (a.eval (.tmp 41)) L from hp.n 6 41 (by kernel_rfl) (by kernel_rfl) (by kernel_rfl)) (show Bxs w'.heap.size W (a.eval (.tmp 46)) ⟨T⟩ from hp.n 11 46 (by kernel_rfl) (by kernel_rfl) (by kernel_rfl)) (hp.b 0 (by kernel_rfl)).2 hLn
      exact ⟨v', w', h1, Or.inr ⟨rfl, h3⟩, h2⟩,
      RG.cf_one 47 fun a W hp => ⟨a.eval (.tmp 47), W, by kernel_rfl, by kernel_rfl, Or.inl (Below.refl _ _), hp.n 12 47 (by kernel_rfl) (by kernel_rfl) (by kernel_rfl)⟩, trivial⟩
  · intro V w5 hV hB
    have hL : SLs w5 w'.heap.size (V 13) (L ++ [⟨T⟩]) := hV 13 (Nat.lt_of_succ_le (Nat.le_of_ble_eq_true (by kernel_rfl))) rfl
    have K5 : Hid (Below w'.heap.size w' w5 ∧ SLs w5 w'.heap.size (V 13) (L ++ [⟨T⟩])) := ⟨(hB 0 rfl).1, hL⟩
    dsimp only [RG.putV, Nat.reduceAdd]
    simp only [Act.put, List.setIfInBounds_toArray, List.set_cons_succ, List.set_cons_zero]
    generalize V 13 = v at K5 ⊢
    clear hV hB hL H1 H2 hHf
    go_wp2
    go_ret
    exact ⟨_, rfl, K5.out.1, K5.out.2⟩
end Go.Proofs.Ythbgppnhlpjngaa
namespace Go.Proofs.Ythbgppnhlpjngaa
open Go.RowKit Go.Sort Go.Deep
def G7 (gg oo n c k : Nat) (T1 T2 D : Bs) (w0 : World) : RG.Gw where
  R i v _ := v = ([.slice (some ⟨gg, oo, none⟩) n c, .int .i64 (k : Int), .slice (some ⟨gg, oo, none⟩) k c, .string ⟨T1⟩, .slice (some ⟨gg, oo, none⟩) n c, .int .i64 (k : Int), .slice (some ⟨gg, oo + k, none⟩) (n - k) (c - k), .string ⟨T2⟩, .string ⟨D⟩, .string ⟨D⟩]).getD i undef
  B w := Below w0.heap.size w0 w ∧ True
  sR _ _ _ _ _ h := h
  sB w w' hb h := ⟨h.1.trans (hb.mono h.1.size), trivial⟩
set_option maxHeartbeats 4000000 in
set_option maxRecDepth 100000 in
theorem rroot_2 (gg oo n c k : Nat) (T1 T2 D : Bs) (hkn : k < n) (hnc : n ≤ c) (h2 : 2 ≤ n) (w : World)
    (hHf : ∀ w, Calls Try.prog 25 #[.int .i64 (n : Int)] w fun e w' => e = .returned (.int .i64 (k : Int)) ∧ w' = w)
    (H1 : Hid (∀ w', Below w.heap.size w w' → Calls Try.prog 12 #[.slice (some ⟨gg, oo, none⟩) k c] w' (Ret fun e w'' => Below w'.heap.size w' w'' ∧ e = .string ⟨T1⟩)))
    (H2 : Hid (∀ w', Below w.heap.size w w' → Calls Try.prog 12 #[.slice (some ⟨gg, oo + k, none⟩) (n - k) (c - k)] w' (Ret fun e w'' => Below w'.heap.size w' w'' ∧ e = .string ⟨T2⟩)))
    (H3 : Hid (∀ w', Calls Try.prog 26 #[.string ⟨T1⟩, .string ⟨T2⟩] w' (Ret fun e w'' => Below w'.heap.size w' w'' ∧ e = .string ⟨D⟩))) :
    Calls Try.prog 12 #[.slice (some ⟨gg, oo, none⟩) n c] w (Ret fun e w' => Below w.heap.size w w' ∧ e = .string ⟨D⟩) := by
  have hsh := fun w => ssl_hi gg oo n c k (by omega) w
  have hsl := fun w => ssl_lo gg oo n c k (by omega) hnc w
  have g1 : ¬ (n : Int) = 1 := by omega
  have g0 : ((n : Int) == 1) = false := by simpa using g1
  have g2 : ¬ (n : Int) = 0 := by omega
  have g3 : ((n : Int) == 0) = false := by simpa using g2
  clear g1 g2
  go_enter Try.func12, Try.ntmps12
  go_wp2_with fail
  refine (hHf w).mono ?_
  rintro e w' ⟨rfl, rfl⟩
  go_wp2_with fail
  refine RG.Gw.draws (G7 gg oo n c k T1 T2 D w') (by kernel_rfl) (by kernel_rfl) ?_ ⟨(Below.refl _ _).drew, trivial⟩ ?_
  · exact ⟨RG.gw_val fun a W hp => ⟨[(0, .slice (some ⟨gg, oo, none⟩) n c)], .slice (some ⟨gg, oo, none⟩) n c, W, ⟨hp.o 0 (by kernel_rfl), trivial⟩, by kernel_rfl, Below.refl _ _, rfl⟩,
      RG.gw_val fun a W hp => ⟨[(3, .int .i64 (k : Int))], .int .i64 (k : Int), W, ⟨hp.o 3 (by kernel_rfl), trivial⟩, by kernel_rfl, Below.refl _ _, rfl⟩,
      cf_shi 22 18 19 rfl fun a W hp => ⟨_, _, _, (RG.pre_of hp).n 0 18 (by kernel_rfl) (by kernel_rfl), (RG.pre_of hp).n 1 19 (by kernel_rfl) (by kernel_rfl), hsh W, Below.refl _ _, rfl⟩,
      RG.gw_call fun a W hp => ⟨[(20, .slice (some ⟨gg, oo, none⟩) k c)], 12, #[.slice (some ⟨gg, oo, none⟩) k c], ⟨hp.n 2 20 (by kernel_rfl) (by kernel_rfl), trivial⟩, by kernel_rfl, (H1.out W hp.b.1).mono (by
      rintro e' W' ⟨u, rfl, hb, rfl⟩
      exact ⟨_, rfl, hb, rfl⟩)⟩,
      RG.gw_val fun a W hp => ⟨[(0, .slice (some ⟨gg, oo, none⟩) n c)], .slice (some ⟨gg, oo, none⟩) n c, W, ⟨hp.o 0 (by kernel_rfl), trivial⟩, by kernel_rfl, Below.refl _ _, rfl⟩,
      RG.gw_val fun a W hp => ⟨[(3, .int .i64 (k : Int))], .int .i64 (k : Int), W, ⟨hp.o 3 (by kernel_rfl), trivial⟩, by kernel_rfl, Below.refl _ _, rfl⟩,
      cf_slo 22 22 23 rfl fun a W hp => ⟨_, _, _, (RG.pre_of hp).n 4 22 (by kernel_rfl) (by kernel_rfl), (RG.pre_of hp).n 5 23 (by kernel_rfl) (by kernel_rfl), hsl W, Below.refl _ _, rfl⟩,
      RG.gw_call fun a W hp => ⟨[(24, .slice (some ⟨gg, oo + k, none⟩) (n - k) (c - k))], 12, #[.slice (some ⟨gg, oo + k, none⟩) (n - k) (c - k)], ⟨hp.n 6 24 (by kernel_rfl) (by kernel_rfl), trivial⟩, by kernel_rfl, (H2.out W hp.b.1).mono (by
      rintro e' W' ⟨u, rfl, hb, rfl⟩
      exact ⟨_, rfl, hb, rfl⟩)⟩,
      RG.gw_call fun a W hp => ⟨[(21, .string ⟨T1⟩), (25, .string ⟨T2⟩)], 26, #[.string ⟨T1⟩, .string ⟨T2⟩], ⟨hp.n 3 21 (by kernel_rfl) (by kernel_rfl), hp.n 7 25 (by kernel_rfl) (by kernel_rfl), trivial⟩, by kernel_rfl, (H3.out W).mono (by
      rintro e' W' ⟨u, rfl, hb, rfl⟩
      exact ⟨_, rfl, hb, rfl⟩)⟩,
      RG.gw_val fun a W hp => ⟨[(26, .string ⟨D⟩)], .string ⟨D⟩, W, ⟨hp.n 8 26 (by kernel_rfl) (by kernel_rfl), trivial⟩, by kernel_rfl, Below.refl _ _, rfl⟩,
      trivial⟩
  · intro V w5 hV hB
    have h9 : V 9 = .string ⟨D⟩ := hV 9 (Nat.lt_of_succ_le (Nat.le_of_ble_eq_true (by kernel_rfl)))
    have K5 : Hid (Below w'.heap.size w' w5) := (show Below w'.heap.size w' w5 ∧ True from hB).1
    dsimp only [RG.putV, Nat.reduceAdd]
    simp only [Act.put, List.setIfInBounds_toArray, List.set_cons_succ, List.set_cons_zero]
    rw [h9]
    clear hV hB H1 H2 H3 hHf
    go_wp2
    go_ret
    exact ⟨_, rfl, K5.out, rfl⟩
set_option maxHeartbeats 1000000 in
theorem rroot_0 (q : Option Addr) (c : Nat) (w : World) : Calls Try.prog 12 #[.slice q 0 c] w (Ret fun e w' => Below w.heap.size w w' ∧ e = .string ⟨noneH⟩) := by
  have hT := SP.refTag_any ⟨#[110, 111, 110, 101]⟩ none 0 [] w (by decide) (Nat.le_of_ble_eq_true rfl) (Or.inl rfl) (fun j hj => by cases hj) (by decide)
  go_enter Try.func12, Try.ntmps12
  go_wp2_with fail
  refine hT.mono ?_
  rintro e w2 ⟨rfl, hb2⟩
  have K : Hid (Below w.heap.size w w2) := hb2
  clear hb2 hT
  go_wp2
  go_ret
  exact ⟨_, rfl, K.out, rfl⟩
set_option maxHeartbeats 1000000 in
theorem rroot_1 (gg oo c : Nat) (s : ByteArray) (T : Bs) (w : World) (hv : w.cell? ⟨gg, oo, none⟩ = some (.string s)) (hl : Calls Try.prog 24 #[.string s] w (Ret fun e w' => Below w.heap.size w w' ∧ e = .string ⟨T⟩)) : Calls Try.prog 12 #[.slice (some ⟨gg, oo, none⟩) 1 c] w (Ret fun e w' => Below w.heap.size w w' ∧ e = .string ⟨T⟩) := by
  go_enter Try.func12, Try.ntmps12
  go_wp2_with fail
  refine hl.mono ?_
  rintro e w2 ⟨v, rfl, hb2, rfl⟩
  have K : Hid (Below w.heap.size w w2) := hb2
  clear hb2 hl
  go_wp2
  go_ret
  exact ⟨_, rfl, K.out, rfl⟩
theorem rRoot_c (S : Nat → ByteArray) (hS : ∀ j, (S j).size ≤ 65536) : ∀ (N n a : Nat) (q : Option Addr) (c : Nat) (w : World), n ≤ N → n ≤ 1048576 → n ≤ c → Texts w q n (fun j => S (a + j)) → Calls Try.prog 12 #[.slice q n c] w (Ret fun e w' => Below w.heap.size w w' ∧ e = .string ⟨rootR (fun j => (S j).data) a n⟩) := by
  intro N
  induction N with
  | zero =>
    intro n a q c w hN _ _ _
    obtain rfl : n = 0 := by omega
    rw [rootR_0]
    exact rroot_0 q c w
  | succ N ih =>
    intro n a q c w hN hn hc hL
    by_cases h0 : n = 0
    · exact ih n a q c w (by omega) hn hc hL
    obtain ⟨gg, oo, rfl, hgg, hcell⟩ := hL (by omega)
    by_cases h1 : n = 1
    · subst h1
      rw [rootR_1]
      exact rroot_1 gg oo c (S a) _ w (hcell 0 (by omega)) (rleaf_c (S a) (hS a) w)
    · rw [rootR_2 _ a n (by omega)]
      have hf3 := hf_lt (n := n) (by omega)
      have hs1 := rootR_size (fun j => (S j).data) a (hf n)
      have hs2 := rootR_size (fun j => (S j).data) (a + hf n) (n - hf n)
      exact rroot_2 gg oo n c (hf n) _ _ _ (by omega) hc (by omega) w (fun w => rhalf_c n (by omega) hn w)
        (fun w' hb => ih (hf n) a _ c w' (by omega) (by omega) (by omega) ((hL.first (by omega)).below hb))
        (fun w' hb => ih (n - hf n) (a + hf n) _ (c - hf n) w' (by omega) (by omega) (by omega) ((hL.part (by omega)).below hb))
        (fun w' => rnode_c ⟨rootR (fun j => (S j).data) a (hf n)⟩ ⟨rootR (fun j => (S j).data) (a + hf n) (n - hf n)⟩ (by show (rootR _ a (hf n)).size ≤ _; rw [hs1]; decide) (by show (rootR _ (a + hf n) _).size ≤ _; rw [hs2]; decide) w')
def asT (L : List Bs) : List ByteArray := L.map fun b => ⟨b⟩
theorem asT_snoc (L : List Bs) (T : Bs) : asT (T :: L).reverse = asT L.reverse ++ [⟨T⟩] := by unfold asT; rw [List.reverse_cons, List.map_append]; rfl
theorem asT_len (L : List Bs) : (asT L.reverse).length = L.length := by unfold asT; rw [List.length_map, List.length_reverse]
set_option maxHeartbeats 1000000 in
theorem rpath_1 (q : Option Addr) (c : Nat) (i : Int) (w : World) : Calls Try.prog 13 #[.slice q 1 c, .int .i64 i] w (Ret fun e w' => Below w.heap.size w w' ∧ SLs w' w.heap.size e []) := by
  go_enter Try.func13, Try.ntmps13
  go_wp2
  go_ret
  exact ⟨_, rfl, Below.refl _ _, Or.inl ⟨rfl, rfl⟩⟩
theorem rPath_c (S : Nat → ByteArray) (hS : ∀ j, (S j).size ≤ 65536) : ∀ (N n a : Nat) (q : Option Addr) (c i : Nat) (w : World), n ≤ N → n ≤ 1048576 → n ≤ c → 1 ≤ n → i < n → Texts w q n (fun j => S (a + j)) → Calls Try.prog 13 #[.slice q n c, .int .i64 (i : Int)] w (Ret fun e w' => Below w.heap.size w w' ∧ SLs w' w.heap.size e (asT (pathR (fun j => (S j).data) a n i).reverse)) := by
  intro N
  induction N with
  | zero => intro n a q c i w h0 _ _ h1; omega
  | succ N ih =>
    intro n a q c i w hN hn hc h1 hi hL
    by_cases he : n = 1
    · subst he
      rw [pathR_1 _ _ _ _ (Nat.le_refl _)]
      exact rpath_1 q c i w
    · obtain ⟨gg, oo, rfl, hgg, hcell⟩ := hL (by omega)
      have hf3 := hf_lt (n := n) (by omega)
      by_cases hk : hf n ≤ i
      · have hlen := pathR_len (fun j => (S j).data) n (n - hf n) (a + hf n) (i - hf n) (by omega)
        rw [pathR_hi _ _ _ _ (by omega) hk, asT_snoc]
        exact rpath_hi i (i - hf n) gg oo n c (hf n) _ _ (by rw [asT_len]; omega) (by omega) hc he (by omega) (by omega) rfl w (fun w => rhalf_c n (by omega) hn w)
          (fun w' hb => ih (n - hf n) (a + hf n) _ (c - hf n) (i - hf n) w' (by omega) (by omega) (by omega) (by omega) (by omega) ((hL.part (by omega)).below hb))
          (fun w' hb => rRoot_c S hS n (hf n) a _ c w' (by omega) (by omega) (by omega) ((hL.first (by omega)).below hb))
      · have hlen := pathR_len (fun j => (S j).data) n (hf n) a i (by omega)
        rw [pathR_lo _ _ _ _ (by omega) hk, asT_snoc]
        exact rpath_lo i gg oo n c (hf n) _ _ (by rw [asT_len]; omega) (by omega) hc he (by omega) w (fun w => rhalf_c n (by omega) hn w)
          (fun w' hb => ih (hf n) a _ c i w' (by omega) (by omega) (by omega) (by omega) (by omega) ((hL.first (by omega)).below hb))
          (fun w' hb => rRoot_c S hS n (n - hf n) (a + hf n) _ (c - hf n) w' (by omega) (by omega) (by omega) ((hL.part (by omega)).below hb))
set_option maxHeartbeats 1000000 in
theorem rgrowth_y (q : Option Addr) (n c : Nat) (w : World) : Calls Try.prog 14 #[.slice q n c, .int .i64 (n : Int), .bool true] w (Ret fun e w' => Below w.heap.size w w' ∧ SLs w' w.heap.size e []) := by
  go_enter Try.func14, Try.ntmps14
  go_wp2
  go_ret
  exact ⟨_, rfl, Below.refl _ _, Or.inl ⟨rfl, rfl⟩⟩
set_option maxHeartbeats 1000000 in
theorem rgrowth_n (q : Option Addr) (n c : Nat) (T : Bs) (w : World) (hR : Calls Try.prog 12 #[.slice q n c] w (Ret fun e w' => Below w.heap.size w w' ∧ e = .string ⟨T⟩)) : Calls Try.prog 14 #[.slice q n c, .int .i64 (n : Int), .bool false] w (Ret fun e w' => Below w.heap.size w w' ∧ SLs w' w.heap.size e [⟨T⟩]) := by
  go_enter Try.func14, Try.ntmps14
  go_wp2_with fail
  refine hR.mono ?_
  rintro e w2 ⟨v2, rfl, hb2, rfl⟩
  have K : Hid (Below w.heap.size w (w2.alloc (.cells #[.string ⟨T⟩] 9)) ∧ SLs (w2.alloc (.cells #[.string ⟨T⟩] 9)) w.heap.size (.slice (some ⟨w2.heap.size, 0, none⟩) 1 1) [⟨T⟩]) := by
    refine ⟨hb2.trans (((Below.refl _ _).alloc (Nat.le_refl _) _).mono hb2.size), Or.inr ⟨w2.heap.size, 1, [.string ⟨T⟩], #[.string ⟨T⟩], rfl, rfl, by simp, hb2.size, ⟨by rw [World.size_alloc]; omega, rfl, Nat.le_refl _, ?_, fun j hj => ?_⟩, fun j hj => ?_⟩⟩
    · have := Holds.new (enc := encV) w2 9 #[.string ⟨T⟩]
      rwa [show (#[Value.string ⟨T⟩]).map encV = #[Value.string ⟨T⟩] by simp [encV]] at this
    · obtain rfl : j = 0 := by simpa using hj
      rfl
    · obtain rfl : j = 0 := by simpa using hj
      rfl
  clear hb2 hR
  go_wp2
  go_ret
  exact ⟨_, rfl, K.out.1, K.out.2⟩
theorem rGrowth_c (S : Nat → ByteArray) (hS : ∀ j, (S j).size ≤ 65536) : ∀ (N n a : Nat) (q : Option Addr) (c m : Nat) (kn : Bool) (w : World), n ≤ N → n ≤ 1048576 → n ≤ c → 1 ≤ m → m ≤ n → Texts w q n (fun j => S (a + j)) → Calls Try.prog 14 #[.slice q n c, .int .i64 (m : Int), .bool kn] w (Ret fun e w' => Below w.heap.size w w' ∧ SLs w' w.heap.size e (asT (growR (fun j => (S j).data) a n m kn).reverse)) := by
  intro N
  induction N with
  | zero => intro n a q c m kn w h0 _ _ h1; omega
  | succ N ih =>
    intro n a q c m kn w hN hn hc h1 hm hL
    by_cases he : n ≤ m
    · obtain rfl : m = n := by omega
      cases kn with
      | true =>
        rw [growR_y _ _ _ _ he]
        exact rgrowth_y q m c w
      | false =>
        rw [growR_n _ _ _ _ he]
        exact rgrowth_n q m c _ w (rRoot_c S hS m m a q c w (Nat.le_refl _) hn hc hL)
    · obtain ⟨gg, oo, rfl, hgg, hcell⟩ := hL (by omega)
      have hf3 := hf_lt (n := n) (by omega)
      by_cases hk : hf n < m
      · have hlen := growR_len (fun j => (S j).data) n (n - hf n) (a + hf n) (m - hf n) false (by omega) (by omega) (by omega)
        rw [growR_hi _ _ _ _ _ (by omega) he hk, asT_snoc]
        exact rgrowth_hi m (m - hf n) kn gg oo n c (hf n) _ _ (by rw [asT_len]; omega) (by omega) hc (by omega) (by omega) (by omega) rfl w (fun w => rhalf_c n (by omega) hn w)
          (fun w' hb => ih (n - hf n) (a + hf n) _ (c - hf n) (m - hf n) false w' (by omega) (by omega) (by omega) (by omega) (by omega) ((hL.part (by omega)).below hb))
          (fun w' hb => rRoot_c S hS n (hf n) a _ c w' (by omega) (by omega) (by omega) ((hL.first (by omega)).below hb))
      · have hlen := growR_len (fun j => (S j).data) n (hf n) a m kn (by omega) h1 (by omega)
        rw [growR_lo _ _ _ _ _ (by omega) he hk, asT_snoc]
        exact rgrowth_lo m kn gg oo n c (hf n) _ _ (by rw [asT_len]; omega) (by omega) hc (by omega) (by omega) w (fun w => rhalf_c n (by omega) hn w)
          (fun w' hb => ih (hf n) a _ c m kn w' (by omega) (by omega) (by omega) h1 (by omega) ((hL.first (by omega)).below hb))
          (fun w' hb => rRoot_c S hS n (n - hf n) (a + hf n) _ (c - hf n) w' (by omega) (by omega) (by omega) ((hL.part (by omega)).below hb))
end Go.Proofs.Ythbgppnhlpjngaa
namespace Go.Proofs.Ythbgppnhlpjngaa
open Go.RowKit Go.Sort Go.Deep
def sumS (S : Nat → ByteArray) : Nat → Nat
  | 0 => 0
  | m + 1 => sumS S m + (S m).size
theorem sumS_le {S : Nat → ByteArray} {B : Nat} : ∀ m, (∀ j, j < m → (S j).size ≤ B) → sumS S m ≤ m * B
  | 0, _ => Nat.zero_le _
  | m + 1, h => by
    have := sumS_le m (fun j hj => h j (by omega))
    have h2 := h m (by omega)
    rw [sumS, Nat.add_mul]
    omega
theorem sumS_at {S : Nat → ByteArray} : ∀ m j, j < m → (S j).size ≤ sumS S m
  | m + 1, j, h => by
    rw [sumS]
    by_cases e : j = m
    · rw [e]; omega
    · have := sumS_at (S := S) m j (by omega)
      omega
set_option maxHeartbeats 1000000 in
theorem small_y (q : Option Addr) (m c : Nat) (S : Nat → ByteArray) (w : World) (hm : m ≤ 1100) (hS : ∀ j, j < m → (S j).size ≤ 140737488355328) (hL : Texts w q m S) : Calls Try.prog 6 #[.slice q m c] w fun e w' => e = .returned (.bool (decide (sumS S m ≤ 65536))) ∧ w' = w := by
  have HL : Hid (Texts w q m S ∧ ∀ j, j < m → (S j).size ≤ 140737488355328) := ⟨hL, hS⟩
  clear hL hS
  go_enter Try.func6, Try.ntmps6
  go_wp2
  go_loopg [3, 4] m (fun g s3 s4 W => ∃ i z : Nat, i + g = m ∧ s3 = .int .i64 (z : Int) ∧ s4 = .int .i64 (i : Int) ∧ W = w ∧ Hid (z = sumS S i) ∧ z ≤ i * 140737488355328)
  case atStart => exact ⟨0, 0, by omega, rfl, rfl, rfl, rfl, by omega⟩
  case round =>
    obtain ⟨i, z, him, rfl, rfl, rfl, HZ, hz⟩ := hrel
    have hz2 : z ≤ 154811237190860800 := by omega
    by_cases hi : i < m
    · have hi' : (i : Int) < (m : Int) := by omega
      obtain ⟨gg, oo, rfl, hgg, hc⟩ := HL.out.1 (by omega)
      have hv := hc i hi
      have hix : ∀ w : World, (Instr.indexAt 22 (.slice (some ⟨gg, oo, none⟩) m c) (.int .i64 (i : Int))).run Try.prog w = .ok (.pointer (some ⟨gg, oo + i, none⟩)) w := fun w => by
        have h1 : ¬ (i : Int) < 0 := by omega
        have h2 : (i : Int) < (m : Int) := by omega
        go_simp
      have hsz := HL.out.2 i hi
      obtain ⟨s, hs⟩ : ∃ s, Hid (S i = s) := ⟨_, rfl⟩
      rw [hs.out] at hv hsz
      obtain ⟨z2, hz3⟩ : ∃ z2, Hid (z + s.size = z2) := ⟨_, rfl⟩
      have hz4 := hz3.out
      have f1 : wrap64 ((z : Int) + (s.size : Int)) = (z2 : Int) := by unfold wrap64; omega
      have HK : Hid (z2 = sumS S (i + 1) ∧ z2 ≤ (i + 1) * 140737488355328) := ⟨by rw [sumS, ← HZ.out, hs.out]; omega, by omega⟩
      clear hc hgg hz4 hz hz2
      go_wp2
      go_roundg (gk - 1)
      case measure => omega
      case rel => exact ⟨i + 1, z2, by omega, by rw [f1], rfl, rfl, HK.out.1, HK.out.2⟩
    · have hi' : ¬ (i : Int) < (m : Int) := by omega
      obtain rfl : i = m := by omega
      have a2 : (i : Int) ≤ 1100 := by omega
      by_cases h : z ≤ 65536
      · have a1 : (z : Int) ≤ 65536 := by omega
        have HF : Hid (decide (sumS S i ≤ 65536) = true) := decide_eq_true (by rw [← HZ.out]; exact h)
        go_wp2
        go_ret
        exact ⟨congrArg Ending.returned (congrArg Value.bool HF.out.symm), rfl⟩
      · have a1 : ¬ (z : Int) ≤ 65536 := by omega
        have HF : Hid (decide (sumS S i ≤ 65536) = false) := decide_eq_false (by rw [← HZ.out]; exact h)
        go_wp2
        go_ret
        exact ⟨congrArg Ending.returned (congrArg Value.bool HF.out.symm), rfl⟩
set_option maxHeartbeats 1000000 in
theorem small_n (q : Option Addr) (m c : Nat) (S : Nat → ByteArray) (w : World) (hm : ¬ m ≤ 1100) (hm2 : m ≤ 140737488355328) (hL : Texts w q m S) : Calls Try.prog 6 #[.slice q m c] w fun e w' => e = .returned (.bool false) ∧ w' = w := by
  have HL : Hid (Texts w q m S) := hL
  clear hL
  go_enter Try.func6, Try.ntmps6
  go_wp2
  go_loopg [3, 4] m (fun g s3 s4 W => ∃ (i : Nat) (z : Int), i + g = m ∧ s3 = .int .i64 z ∧ s4 = .int .i64 (i : Int) ∧ W = w)
  case atStart => exact ⟨0, 0, by omega, rfl, rfl, rfl⟩
  case round =>
    obtain ⟨i, z, him, rfl, rfl, rfl⟩ := hrel
    by_cases hi : i < m
    · have hi' : (i : Int) < (m : Int) := by omega
      obtain ⟨gg, oo, rfl, hgg, hc⟩ := HL.out (by omega)
      have hv := hc i hi
      have hix : ∀ w : World, (Instr.indexAt 22 (.slice (some ⟨gg, oo, none⟩) m c) (.int .i64 (i : Int))).run Try.prog w = .ok (.pointer (some ⟨gg, oo + i, none⟩)) w := fun w => by
        have h1 : ¬ (i : Int) < 0 := by omega
        have h2 : (i : Int) < (m : Int) := by omega
        go_simp
      generalize S i = s at hv
      clear hc hgg
      go_wp2
      go_roundg (gk - 1)
      case measure => omega
      case rel => exact ⟨i + 1, _, by omega, rfl, rfl, rfl⟩
    · have hi' : ¬ (i : Int) < (m : Int) := by omega
      obtain rfl : i = m := by omega
      have a2 : ¬ (i : Int) ≤ 1100 := by omega
      by_cases h : z ≤ 65536
      · go_wp2
        go_ret
        exact ⟨rfl, rfl⟩
      · go_wp2
        go_ret
        exact ⟨rfl, rfl⟩
set_option maxHeartbeats 1000000 in
theorem lists8_c (q : Option Addr) (m c : Nat) (S : Nat → ByteArray) (w : World) (hm : m ≤ 1100) (hL : Texts w q m S) : Calls Try.prog 7 #[.slice q m c] w (Ret fun e w' => Below w.heap.size w w' ∧ AL w' w.heap.size m e S) := by
  have HL : Hid (Texts w q m S) := hL
  clear hL
  go_enter Try.func7, Try.ntmps7
  go_wp2
  go_loopg [3, 4] m (fun g s3 s4 W => ∃ (i : Nat) (v : Value), i + g = m ∧ v = s3 ∧ s4 = .int .i64 (i : Int) ∧ Below w.heap.size w W ∧ Hid (AL W w.heap.size i v S))
  case atStart => exact ⟨0, _, by omega, rfl, rfl, Below.refl _ _, Or.inl ⟨rfl, rfl⟩⟩
  case round =>
    obtain ⟨i, v, him, rfl, rfl, hb, HA⟩ := hrel
    by_cases hi : i < m
    · have hi' : (i : Int) < (m : Int) := by omega
      obtain ⟨gg, oo, rfl, hgg, hc⟩ := HL.out (by omega)
      have hv : wr.cell? ⟨gg, oo + i, none⟩ = some (.string (S i)) := by rw [hb.cell (p := ⟨gg, oo + i, none⟩) hgg]; exact hc i hi
      have hix : ∀ w : World, (Instr.indexAt 22 (.slice (some ⟨gg, oo, none⟩) m c) (.int .i64 (i : Int))).run Try.prog w = .ok (.pointer (some ⟨gg, oo + i, none⟩)) w := fun w => by
        have h1 : ¬ (i : Int) < 0 := by omega
        have h2 : (i : Int) < (m : Int) := by omega
        go_simp
      obtain ⟨cap, W1, hcv, hcap, hb1, hH1, hlt1⟩ := conv_of (S i) wr
      obtain ⟨v', w3, hap, hL3, hb3⟩ := AL.push HA.out hb.size (by omega) hb1 hlt1 hcap hH1 rfl
      have HL3 : Hid _ := hL3
      clear hc hgg hL3 hb1 hH1 hlt1 hcap
      generalize S i = s at hv hcv hap
      go_wp2_with (at_builtin; refine Lib.wpList_append_run _ rfl _ _ 24 24 rfl _ _ rfl rfl _ _ hap ?_)
      go_roundg (gk - 1)
      case measure => omega
      case rel => exact ⟨i + 1, _, by omega, rfl, rfl, hb.trans hb3, HL3.out⟩
    · have hi' : ¬ (i : Int) < (m : Int) := by omega
      obtain rfl : i = m := by omega
      go_wp2
      go_ret
      exact ⟨_, rfl, hb, HA.out⟩
theorem AL.lists {W : World} {B k : Nat} {v : Value} {S : Nat → ByteArray} (h : AL W B k v S) (hS : ∀ j, j < k → (S j).size ≤ 65536) : ∃ q c, v = .slice q k c ∧ k ≤ c ∧ Lists W q k (fun j => (S j).data) := by
  rcases h with ⟨rfl, rfl⟩ | ⟨g, cap, vs, cur, rfl, h2, h3, h4, h5, h6⟩
  · exact ⟨none, 0, rfl, Nat.le_refl _, fun h => by omega⟩
  · refine ⟨_, cap, rfl, by rw [← h2]; exact h5.fits, fun _ => ⟨g, 0, rfl, h5.lt, fun j hj => ?_⟩⟩
    obtain ⟨gx, c, e1, e2, e3, e4, e5⟩ := h6 j hj
    have hh := h5.holds j (by rw [h5.size]; have := h5.fits; omega)
    rw [h5.front j (by omega), e1] at hh
    exact ⟨_, hh.1, ⟨_, _, _, rfl⟩, _, gx, 0, c, (S j).data, rfl, rfl, e2, Nat.le_trans (hS j hj) (by decide), Or.inr ⟨rfl, e5⟩⟩
end Go.Proofs.Ythbgppnhlpjngaa
namespace Go.Proofs.Ythbgppnhlpjngaa
open Go.RowKit Go.Sort Go.Deep
set_option maxHeartbeats 2000000 in
theorem same_y (q q' : Option Addr) (n c c' : Nat) (S : Nat → Bs) (T : Nat → ByteArray) (w : World) (hn : n ≤ 1048576) (hL : Lists w q n S) (hT : Texts w q' n T) (he : ∀ j, j < n → (T j).data = S j) : Calls Try.prog 11 #[.slice q n c, .slice q' n c'] w fun e w' => e = .returned (.bool true) ∧ Below w.heap.size w w' := by
  have HL : Hid (Lists w q n S ∧ Texts w q' n T ∧ ∀ j, j < n → (T j).data = S j) := ⟨hL, hT, he⟩
  clear hL hT he
  go_enter Try.func11, Try.ntmps11
  go_wp2
  go_loopg [5] n (fun g s5 W => ∃ i : Nat, i + g = n ∧ s5 = .int .i64 (i : Int) ∧ Hid (Below w.heap.size w W))
  case atStart => exact ⟨0, by omega, rfl, Below.refl _ _⟩
  case round =>
    obtain ⟨i, him, rfl, HB⟩ := hrel
    by_cases hi : i < n
    · have hi' : (i : Int) < (n : Int) := by omega
      obtain ⟨gg, oo, rfl, hgg, hc⟩ := HL.out.1 (by omega)
      obtain ⟨v, hv0, ⟨vq, vn, vc, rfl⟩, hp⟩ := hc i hi
      obtain ⟨gh, oh, rfl, hgh, hd⟩ := HL.out.2.1 (by omega)
      have hb := HB.out
      have hv : wr.cell? ⟨gg, oo + i, none⟩ = some (.slice vq vn vc) := by rw [hb.cell (p := ⟨gg, oo + i, none⟩) hgg]; exact hv0
      have hu : wr.cell? ⟨gh, oh + i, none⟩ = some (.string (T i)) := by rw [hb.cell (p := ⟨gh, oh + i, none⟩) hgh]; exact hd i hi
      have hcv := part_conv (w := wr.drew) (hp.below (w1 := wr.drew) hb.drew)
      rw [show (⟨S i⟩ : ByteArray) = T i from congrArg ByteArray.mk (HL.out.2.2 i hi).symm] at hcv
      have hix : ∀ w : World, (Instr.indexAt 24 (.slice (some ⟨gg, oo, none⟩) n c) (.int .i64 (i : Int))).run Try.prog w = .ok (.pointer (some ⟨gg, oo + i, none⟩)) w := fun w => by
        have h1 : ¬ (i : Int) < 0 := by omega
        have h2 : (i : Int) < (n : Int) := by omega
        go_simp
      have hiy : ∀ w : World, (Instr.indexAt 22 (.slice (some ⟨gh, oh, none⟩) n c') (.int .i64 (i : Int))).run Try.prog w = .ok (.pointer (some ⟨gh, oh + i, none⟩)) w := fun w => by
        have h1 : ¬ (i : Int) < 0 := by omega
        have h2 : (i : Int) < (n : Int) := by omega
        go_simp
      generalize T i = s at hu hcv
      clear hc hd hp hgg hgh hv0 hb
      go_wp2_with fail
      go_region
      go_wp2
      go_roundg (gk - 1)
      case measure => omega
      case rel => exact ⟨i + 1, by omega, rfl, HB.out.drew⟩
    · have hi' : ¬ (i : Int) < (n : Int) := by omega
      have hb := HB.out
      go_wp2
      go_ret
      exact ⟨rfl, hb⟩
theorem Root_l (q : Option Addr) (n c : Nat) (w : World) (hn : (1024 : Int) < (n : Int)) : Calls Try.prog 8 #[.slice q n c] w fun e w' => e = .returned (.tuple #[.slice none 0 0, .int .i64 1]) ∧ w' = w := by
  go_enter Try.func8, Try.ntmps8
  go_wp2
  go_ret2
  exact ⟨rfl, rfl⟩
theorem Path_l (q : Option Addr) (n c : Nat) (i : Int) (w : World) (hn : (1024 : Int) < (n : Int)) : Calls Try.prog 9 #[.slice q n c, .int .i64 i] w fun e w' => e = .returned (.tuple #[.slice none 0 0, .int .i64 1]) ∧ w' = w := by
  go_enter Try.func9, Try.ntmps9
  go_wp2
  go_ret2
  exact ⟨rfl, rfl⟩
theorem Growth_l (q : Option Addr) (n c : Nat) (i : Int) (w : World) (hn : (1024 : Int) < (n : Int)) : Calls Try.prog 10 #[.slice q n c, .int .i64 i] w fun e w' => e = .returned (.tuple #[.slice none 0 0, .int .i64 1]) ∧ w' = w := by
  go_enter Try.func10, Try.ntmps10
  go_wp2
  go_ret2
  exact ⟨rfl, rfl⟩
theorem Path_r (q : Option Addr) (n c : Nat) (i : Int) (w : World) (hn : n ≤ 1024) (hi : ¬ (0 ≤ i ∧ i ≤ (n : Int) - 1)) : Calls Try.prog 9 #[.slice q n c, .int .i64 i] w fun e w' => e = .returned (.tuple #[.slice none 0 0, .int .i64 7]) ∧ w' = w := by
  have g : ¬ (1024 : Int) < (n : Int) := by omega
  have hw := within_c i 0 ((n : Int) - 1) w
  rw [decide_eq_false hi] at hw
  clear hi
  go_enter Try.func9, Try.ntmps9
  go_wp2_with fail
  refine hw.mono ?_
  rintro e w' ⟨rfl, rfl⟩
  go_wp2
  go_ret2
  exact ⟨rfl, rfl⟩
theorem Growth_r (q : Option Addr) (n c : Nat) (m : Int) (w : World) (hn : n ≤ 1024) (hi : ¬ (1 ≤ m ∧ m ≤ (n : Int))) : Calls Try.prog 10 #[.slice q n c, .int .i64 m] w fun e w' => e = .returned (.tuple #[.slice none 0 0, .int .i64 7]) ∧ w' = w := by
  have g : ¬ (1024 : Int) < (n : Int) := by omega
  have hw := within_c m 1 (n : Int) w
  rw [decide_eq_false hi] at hw
  clear hi
  go_enter Try.func10, Try.ntmps10
  go_wp2_with fail
  refine hw.mono ?_
  rintro e w' ⟨rfl, rfl⟩
  go_wp2
  go_ret2
  exact ⟨rfl, rfl⟩
end Go.Proofs.Ythbgppnhlpjngaa
namespace Go.Proofs.Ythbgppnhlpjngaa
open Go.RowKit Go.Sort Go.Deep
def G14 (q : Option Addr) (n c ra : Nat) (R : Bs) (w0 : World) : RG.Gw where
  R i v _ := v = ([.slice (some ⟨ra, 0, none⟩) 32 32, .string ⟨R⟩, .slice q n c, .string ⟨R⟩, .bool false, .bool false, .int .i64 0, .bool false, .bool false]).getD i undef
  B w := (Below w0.heap.size w0 w ∧ ra < w.heap.size) ∧ Holds encB w ra 0 R
  sR _ _ _ _ _ h := h
  sB w w' hb h := ⟨⟨h.1.1.trans (hb.mono h.1.1.size), Nat.lt_of_lt_of_le h.1.2 hb.size⟩, Holds.below h.2 hb h.1.2⟩
theorem cv_run {P : Program} {T T' : TypeId} {t : Tmp} {o : Oper} {a : Act} {w : World} {v u : Value} (ho : o.op = .convert T T' (.tmp t)) (he : a.eval (.tmp t) = v) (hc : (convert T T' v).run P w = .ok u w) : (execOp a.eval o).run P w = .ok (.value u) w := by
  unfold execOp
  rw [ho]
  dsimp only
  rw [he, Sem.run_bind, hc]
  rfl
theorem neq_str (s : ByteArray) (w : World) : (binOp .neq 9 (.string s) (.string s)).run Try.prog w = .ok (.bool false) w := by
  have h : (s.toList == s.toList) = true := by simp
  go_simp
theorem SLs.texts {W : World} {B : Nat} {v : Value} {L : List ByteArray} (h : SLs W B v L) : ∃ q c, v = .slice q L.length c ∧ Texts W q L.length (fun j => L[j]!) := by
  rcases h with ⟨rfl, rfl⟩ | ⟨g, cap, vs, cur, rfl, h2, h3, h4, h5, h6⟩
  · exact ⟨none, 0, rfl, fun h => by simp at h⟩
  · refine ⟨_, cap, rfl, fun _ => ⟨g, 0, rfl, h5.lt, fun j hj => ?_⟩⟩
    rw [Nat.zero_add, h5.cell0 (by omega), h6 j hj]
theorem asT_at (L : List Bs) (j : Nat) (h : j < L.length) : ((asT L)[j]!).data = L[j]! := by
  unfold asT
  rw [getElem!_pos _ j (by rw [List.length_map]; exact h), getElem!_pos L j h, List.getElem_map]
theorem asT_length (L : List Bs) : (asT L).length = L.length := by unfold asT; rw [List.length_map]
end Go.Proofs.Ythbgppnhlpjngaa
namespace Go.Proofs.Ythbgppnhlpjngaa
open Go.RowKit Go.Sort Go.Deep
/-- All that was answered, in one list, stands apart. -/
theorem ends8 {wp w3 w4 w5 w7 wb : World} {ra : Nat} {R : Bs} {Lb Lc : List Bs} {vb vc : Value} (hra : wp.heap.size ≤ ra) (hr3 : ra < w3.heap.size) (hH : Holds encB w7 ra 0 R) (hB : HL w7 w3.heap.size w4.heap.size vb Lb) (hC : HL w7 w4.heap.size w5.heap.size vc Lc) (h34 : w3.heap.size ≤ w4.heap.size) (h45 : w4.heap.size ≤ w5.heap.size) (h57 : w5.heap.size ≤ w7.heap.size) (h7b : Below w7.heap.size w7 wb) (hpb : Below wp.heap.size wp wb) (hR : R.size = 32) (hlb : Lb.length ≤ 100) (hlc : Lc.length ≤ 100) :
    ∃ v1 w1 v2 w2 g cap, (Builtin.append_ #[24, 24] 24 #[.slice (some ⟨wb.heap.size, 0, none⟩) 1 1, vb]).run Try.prog (wb.alloc (.cells #[.slice (some ⟨ra, 0, none⟩) 32 32] 26)) = .ok v1 w1 ∧ (Builtin.append_ #[24, 24] 24 #[v1, vc]).run Try.prog w1 = .ok v2 w2 ∧ v2 = .slice (some ⟨g, 0, none⟩) (1 + Lb.length + Lc.length) cap ∧ Below wp.heap.size wp w2 ∧
      Calls Try.prog 15 #[.slice (some ⟨g, 0, none⟩) (1 + Lb.length + Lc.length) cap] w2 (Ret fun e w' => Below wp.heap.size wp w' ∧ e = .bool true) := by
  have hsz := h7b.size
  have hpz := hpb.size
  have hHb := Holds.below hH h7b (by omega)
  have hB1 := hB.below h7b
  have hC1 := hC.below h7b
  have hal : Below wb.heap.size wb (wb.alloc (.cells #[.slice (some ⟨ra, 0, none⟩) 32 32] 26)) := (Below.refl _ _).alloc (Nat.le_refl _) _
  have hsa : (wb.alloc (.cells #[.slice (some ⟨ra, 0, none⟩) 32 32] 26)).heap.size = wb.heap.size + 1 := World.size_alloc _ _
  have h1 : HL (wb.alloc (.cells #[.slice (some ⟨ra, 0, none⟩) 32 32] 26)) wp.heap.size w3.heap.size (.slice (some ⟨wb.heap.size, 0, none⟩) 1 1) [R] := (HL.one hpz hra hR hHb).less (Nat.le_refl _) (by omega)
  obtain ⟨v1, w1, e1, j1, b1, o1⟩ := h1.join (hB1.below hal) (by omega) h34 (by omega) (by simp) (by simp) (by omega)
  have hC2 := hC1.keep hal (o1 _ _ _ rfl)
  have hz1 := b1.size
  obtain ⟨v2, w2, e2, j2, b2, -⟩ := j1.join hC2 (by omega) h45 (by omega) (by simp) (by simp; omega) (by omega)
  obtain ⟨g, cap, G, rfl, hg, hRk, hG⟩ := j2.rack (by simp)
  have hlen : ([R] ++ Lb ++ Lc).length = 1 + Lb.length + Lc.length := by simp; omega
  rw [hlen] at hRk hG e2
  have hbw : Below wp.heap.size wp w2 := (hpb.trans (hal.mono hpz)).trans (b1.trans b2)
  refine ⟨v1, w1, _, w2, g, cap, e1, e2, rfl, hbw, ?_⟩
  refine (Apart_any g (1 + Lb.length + Lc.length) cap wp.heap.size _ G _ w2 (by omega) (fun _ => ⟨rfl, hg⟩) hRk hG hbw.size).mono ?_
  rintro e w' ⟨v, rfl, hb, rfl⟩
  exact ⟨_, rfl, hbw.trans hb, rfl⟩
set_option maxRecDepth 100000 in
set_option maxHeartbeats 8000000 in
theorem rootsL_core (q : Option Addr) (n c : Nat) (S : Nat → ByteArray) (i m : Int) (w0 : World) (hn : n ≤ 1024) (hnc : n ≤ c) (hsm : Calls Try.prog 6 #[.slice q n c] w0 fun e w' => e = .returned (.bool true) ∧ w' = w0) (hS : ∀ j, (S j).size ≤ 65536) (hL : Texts w0 q n S)
    (Lb Lc : List Bs) (eb ec : Int) (hlb : Lb.length ≤ 100) (hlc : Lc.length ≤ 100)
    (HP : Hid (∀ q2 c2 w', n ≤ c2 → Lists w' q2 n (fun j => (S j).data) → Calls Try.prog 9 #[.slice q2 n c2, .int .i64 i] w' (Ret fun e w'' => ∃ v, e = .tuple #[v, .int .i64 eb] ∧ NewL w' Lb v w'')))
    (HG : Hid (∀ q2 c2 w', n ≤ c2 → Lists w' q2 n (fun j => (S j).data) → Calls Try.prog 10 #[.slice q2 n c2, .int .i64 m] w' (Ret fun e w'' => ∃ v, e = .tuple #[v, .int .i64 ec] ∧ NewL w' Lc v w'')))
    (HI : (0 ≤ i ∧ i < (n : Int) ∧ eb = 0 ∧ Hid (∀ w', Below w0.heap.size w0 w' → Calls Try.prog 13 #[.slice q n c, .int .i64 i] w' (Ret fun e w'' => Below w'.heap.size w' w'' ∧ SLs w'' w'.heap.size e (asT Lb)))) ∨ (i < 0 ∧ eb = 7 ∧ Lb = []) ∨ (¬ i < 0 ∧ ¬ i < (n : Int) ∧ eb = 7 ∧ Lb = []))
    (HM : (1 ≤ m ∧ m ≤ (n : Int) ∧ ec = 0 ∧ Hid (∀ w', Below w0.heap.size w0 w' → Calls Try.prog 14 #[.slice q n c, .int .i64 m, .bool true] w' (Ret fun e w'' => Below w'.heap.size w' w'' ∧ SLs w'' w'.heap.size e (asT Lc)))) ∨ (m < 1 ∧ ec = 7 ∧ Lc = []) ∨ (¬ m < 1 ∧ ¬ m ≤ (n : Int) ∧ ec = 7 ∧ Lc = [])) :
    Calls Try.prog 3 #[.slice q n c, .int .i64 i, .int .i64 m] w0 fun e w' => e = .returned (.bool true) ∧ Below w0.heap.size w0 w' := by
  have a1 : ¬ (1024 : Int) < (n : Int) := by omega
  have HB : Hid (Texts w0 q n S ∧ ∀ j, (S j).size ≤ 65536) := ⟨hL, hS⟩
  have HRt : Hid (∀ w', Below w0.heap.size w0 w' → Calls Try.prog 12 #[.slice q n c] w' (Ret fun e w'' => Below w'.heap.size w' w'' ∧ e = .string ⟨rootR (fun j => (S j).data) 0 n⟩)) := fun w' hb => rRoot_c S hS n n 0 q c w' (Nat.le_refl _) (by omega) hnc (by simpa using hL.below hb)
  have hR32 := rootR_size (fun j => (S j).data) 0 n
  have HRc : Hid (∀ q2 c2 w', n ≤ c2 → Lists w' q2 n (fun j => (S j).data) → Calls Try.prog 8 #[.slice q2 n c2] w' (Ret fun e w'' => ∃ v, e = .tuple #[v, .int .i64 0] ∧ NewH w' (rootR (fun j => (S j).data) 0 n) v w'')) := fun q2 c2 w' h1 h2 => Root_c (fun j => (S j).data) n q2 c2 w' hn h1 h2
  generalize rootR (fun j => (S j).data) 0 n = R at HRt hR32 HRc
  clear hL hS
  go_enter Try.func3, Try.ntmps3
  go_wp2_with fail
  refine hsm.mono ?_
  rintro e w' ⟨rfl, rfl⟩
  clear hsm
  go_wp2_with fail
  refine (lists8_c q n c S w' (by omega) HB.out.1).mono ?_
  rintro e w2 ⟨v2, rfl, hb2, hA2⟩
  obtain ⟨q2, c2, rfl, hc2, hL2⟩ := hA2.lists (fun j _ => HB.out.2 j)
  have K2 : Hid (Below w'.heap.size w' w2 ∧ n ≤ c2 ∧ Lists w2 q2 n (fun j => (S j).data)) := ⟨hb2, hc2, hL2⟩
  clear hb2 hA2 hc2 hL2
  go_wp2_with fail
  refine (HRc.out q2 c2 w2 K2.out.2.1 K2.out.2.2).mono ?_
  rintro e w3 ⟨v3, rfl, v3, rfl, hb3, ra, rfl, hra, hH3⟩
  have K3 : Hid (Below w'.heap.size w' w3 ∧ n ≤ c2 ∧ Lists w3 q2 n (fun j => (S j).data) ∧ w'.heap.size ≤ ra ∧ ra < w3.heap.size ∧ Holds encB w3 ra 0 R) := ⟨K2.out.1.trans (hb3.mono K2.out.1.size), K2.out.2.1, K2.out.2.2.below hb3, Nat.le_trans K2.out.1.size hra, Holds.lt hH3 (by omega), hH3⟩
  clear hb3 hra hH3 K2 HRc
  go_wp2_with fail
  refine (HP.out q2 c2 w3 K3.out.2.1 K3.out.2.2.1).mono ?_
  rintro e w4 ⟨v4, rfl, vb, rfl, hb4, hP4⟩
  have K4 : Hid (Below w'.heap.size w' w4 ∧ n ≤ c2 ∧ Lists w4 q2 n (fun j => (S j).data) ∧ w'.heap.size ≤ ra ∧ ra < w3.heap.size ∧ Holds encB w4 ra 0 R ∧ HL w4 w3.heap.size w4.heap.size vb Lb ∧ w3.heap.size ≤ w4.heap.size) := ⟨K3.out.1.trans (hb4.mono K3.out.1.size), K3.out.2.1, K3.out.2.2.1.below hb4, K3.out.2.2.2.1, K3.out.2.2.2.2.1, Holds.below K3.out.2.2.2.2.2 hb4 K3.out.2.2.2.2.1, hP4, hb4.size⟩
  clear hb4 hP4 K3 HP
  go_wp2_with fail
  refine (HG.out q2 c2 w4 K4.out.2.1 K4.out.2.2.1).mono ?_
  rintro e w5 ⟨v5, rfl, vc, rfl, hb5, hP5⟩
  have K5 : Hid ((Below w'.heap.size w' w5 ∧ Lists w5 q2 n (fun j => (S j).data)) ∧ w'.heap.size ≤ ra ∧ ra < w3.heap.size ∧ Holds encB w5 ra 0 R ∧ HL w5 w3.heap.size w4.heap.size vb Lb ∧ HL w5 w4.heap.size w5.heap.size vc Lc ∧ w3.heap.size ≤ w4.heap.size ∧ w4.heap.size ≤ w5.heap.size) := ⟨⟨K4.out.1.trans (hb5.mono K4.out.1.size), K4.out.2.2.1.below hb5⟩, K4.out.2.2.2.1, K4.out.2.2.2.2.1, Holds.below K4.out.2.2.2.2.2.1 hb5 (Nat.lt_of_lt_of_le K4.out.2.2.2.2.1 K4.out.2.2.2.2.2.2.2), K4.out.2.2.2.2.2.2.1.below hb5, hP5, K4.out.2.2.2.2.2.2.2, hb5.size⟩
  clear hb5 hP5 K4 HG
  obtain ⟨qb, cb', hvb, hcb, hLb⟩ := K5.out.2.2.2.2.1.lists
  obtain ⟨qc, cc', hvc, hcc, hLc⟩ := K5.out.2.2.2.2.2.1.lists
  have HLs : Hid (Lists w5 qb Lb.length (fun j => Lb[j]!) ∧ Lists w5 qc Lc.length (fun j => Lc[j]!)) := ⟨hLb, hLc⟩
  subst hvb hvc
  clear hLb hLc hcb hcc
  go_wp2_with fail
  refine (same_y q2 q n c2 c (fun j => (S j).data) S w5 (by omega) K5.out.1.2 (HB.out.1.below K5.out.1.1) (fun j _ => rfl)).mono ?_
  rintro e w6 ⟨rfl, hb6⟩
  have K6 : Hid (Below w'.heap.size w' w6 ∧ w'.heap.size ≤ ra ∧ ra < w3.heap.size ∧ Holds encB w6 ra 0 R ∧ HL w6 w3.heap.size w4.heap.size (.slice qb Lb.length cb') Lb ∧ HL w6 w4.heap.size w5.heap.size (.slice qc Lc.length cc') Lc ∧ w3.heap.size ≤ w4.heap.size ∧ w4.heap.size ≤ w5.heap.size ∧ w5.heap.size ≤ w6.heap.size ∧ Lists w6 qb Lb.length (fun j => Lb[j]!) ∧ Lists w6 qc Lc.length (fun j => Lc[j]!)) := ⟨K5.out.1.1.trans (hb6.mono K5.out.1.1.size), K5.out.2.1, K5.out.2.2.1, Holds.below K5.out.2.2.2.1 hb6 (Nat.lt_of_lt_of_le K5.out.2.2.1 (Nat.le_trans K5.out.2.2.2.2.2.2.1 K5.out.2.2.2.2.2.2.2)), K5.out.2.2.2.2.1.below hb6, K5.out.2.2.2.2.2.1.below hb6, K5.out.2.2.2.2.2.2.1, K5.out.2.2.2.2.2.2.2, hb6.size, HLs.out.1.below hb6, HLs.out.2.below hb6⟩
  clear hb6 K5 HLs
  go_wp2_with fail
  refine RG.Gw.draws (G14 q n c ra R w6) (by kernel_rfl) (by kernel_rfl) ?_ ⟨⟨(Below.refl _ _).drew, Nat.lt_of_lt_of_le K6.out.2.2.1 (Nat.le_trans K6.out.2.2.2.2.2.2.1 (Nat.le_trans K6.out.2.2.2.2.2.2.2.1 K6.out.2.2.2.2.2.2.2.2.1))⟩, K6.out.2.2.2.1⟩ ?_
  · exact ⟨RG.gw_val fun a W hp => ⟨[(9, .slice (some ⟨ra, 0, none⟩) 32 32)], .slice (some ⟨ra, 0, none⟩) 32 32, W, ⟨hp.o 9 (by kernel_rfl), trivial⟩, by kernel_rfl, Below.refl _ _, rfl⟩,
      RG.cf_val fun a W hp => ⟨.string ⟨R⟩, W, cv_run (T := 26) (T' := 9) rfl ((RG.pre_of hp).n 0 83 (by kernel_rfl) (by kernel_rfl)) (part_conv (part_h hR32 (RG.pre_of hp).b.2)), Below.refl _ _, rfl⟩,
      RG.gw_val fun a W hp => ⟨[(0, .slice q n c)], .slice q n c, W, ⟨hp.o 0 (by kernel_rfl), trivial⟩, by kernel_rfl, Below.refl _ _, rfl⟩,
      RG.gw_call fun a W hp => ⟨[(85, .slice q n c)], 12, #[.slice q n c], ⟨hp.n 2 85 (by kernel_rfl) (by kernel_rfl), trivial⟩, by kernel_rfl, (HRt.out W (K6.out.1.trans (hp.b.1.1.mono K6.out.1.size))).mono (by
      rintro e' W' ⟨u, rfl, hb, rfl⟩
      exact ⟨_, rfl, hb, rfl⟩)⟩,
      RG.gw_bin .neq 9 9 84 86 rfl fun a W hp => ⟨_, _, _, hp.n 1 84 (by kernel_rfl) (by kernel_rfl), hp.n 3 86 (by kernel_rfl) (by kernel_rfl), rfl, neq_str ⟨R⟩ W, rfl⟩,
      RG.gw_val fun a W hp => ⟨[(87, .bool false)], .bool false, W, ⟨hp.n 4 87 (by kernel_rfl) (by kernel_rfl), trivial⟩, by kernel_rfl, Below.refl _ _, rfl⟩,
      RG.gw_want (j := 5) (want := false) rfl (by kernel_rfl) (fun v w h => h) (RG.gw_val fun a W hp => ⟨[(10, .int .i64 0)], .int .i64 0, W, ⟨hp.o 10 (by kernel_rfl), trivial⟩, by kernel_rfl, Below.refl _ _, rfl⟩),
      RG.gw_want (j := 5) (want := false) rfl (by kernel_rfl) (fun v w h => h) (RG.gw_val fun a W hp => ⟨[(89, .int .i64 0)], .bool false, W, ⟨hp.n 6 89 (by kernel_rfl) (by kernel_rfl), trivial⟩, by kernel_rfl, Below.refl _ _, rfl⟩),
      RG.gw_val fun a W hp => ⟨[(88, .bool false), (90, .bool false)], .bool false, W, ⟨hp.n 5 88 (by kernel_rfl) (by kernel_rfl), hp.n 7 90 (by kernel_rfl) (by kernel_rfl), trivial⟩, by kernel_rfl, Below.refl _ _, rfl⟩,
      trivial⟩
  intro V w7 hV hB
  have h8 : V 8 = .bool false := hV 8 (Nat.lt_of_succ_le (Nat.le_of_ble_eq_true (by kernel_rfl)))
  have hb7 : Below w6.heap.size w6 w7 := (show (Below w6.heap.size w6 w7 ∧ ra < w7.heap.size) ∧ Holds encB w7 ra 0 R from hB).1.1
  have hlt6 : ra < w6.heap.size := Nat.lt_of_lt_of_le K6.out.2.2.1 (Nat.le_trans K6.out.2.2.2.2.2.2.1 (Nat.le_trans K6.out.2.2.2.2.2.2.2.1 K6.out.2.2.2.2.2.2.2.2.1))
  have K7 : Hid (Below w'.heap.size w' w7 ∧ w'.heap.size ≤ ra ∧ ra < w3.heap.size ∧ Holds encB w7 ra 0 R ∧ HL w7 w3.heap.size w4.heap.size (.slice qb Lb.length cb') Lb ∧ HL w7 w4.heap.size w5.heap.size (.slice qc Lc.length cc') Lc ∧ w3.heap.size ≤ w4.heap.size ∧ w4.heap.size ≤ w5.heap.size ∧ w5.heap.size ≤ w7.heap.size ∧ Lists w7 qb Lb.length (fun j => Lb[j]!) ∧ Lists w7 qc Lc.length (fun j => Lc[j]!)) := ⟨K6.out.1.trans (hb7.mono K6.out.1.size), K6.out.2.1, K6.out.2.2.1, Holds.below K6.out.2.2.2.1 hb7 hlt6, K6.out.2.2.2.2.1.below hb7, K6.out.2.2.2.2.2.1.below hb7, K6.out.2.2.2.2.2.2.1, K6.out.2.2.2.2.2.2.2.1, Nat.le_trans K6.out.2.2.2.2.2.2.2.2.1 hb7.size, K6.out.2.2.2.2.2.2.2.2.2.1.below hb7, K6.out.2.2.2.2.2.2.2.2.2.2.below hb7⟩
  dsimp only [RG.putV, Nat.reduceAdd]
  simp only [Act.put, List.setIfInBounds_toArray, List.set_cons_succ, List.set_cons_zero]
  rw [h8]
  clear hV hB hb7 hlt6 K6 HRt h8
  generalize V 0 = s0
  generalize V 1 = s1
  generalize V 2 = s2
  generalize V 3 = s3
  generalize V 4 = s4
  generalize V 5 = s5
  generalize V 6 = s6
  generalize V 7 = s7
  rcases HI with ⟨hI0, hI1, rfl, HI⟩ | ⟨hI0, rfl, rfl⟩ | ⟨hI0, hI1, rfl, rfl⟩
  · rcases HM with ⟨hM0, hM1, rfl, HM⟩ | ⟨hM0, rfl, rfl⟩ | ⟨hM0, hM1, rfl, rfl⟩
    · have HW : Hid (Below w7.heap.size w7 w7 ∧ Below w'.heap.size w' w7) := ⟨Below.refl _ _, K7.out.1⟩
      go_wp2_with fail
      refine (HI.out w7 HW.out.2).mono ?_
      rintro e w8 ⟨v8, rfl, hb8, hs8⟩
      obtain ⟨qp, cp, rfl, hT8⟩ := hs8.texts
      rw [asT_length] at hT8 ⊢
      have HTp := Hid.mk2 hT8
      replace HW : Hid (Below w7.heap.size w7 w8 ∧ Below w'.heap.size w' w8) := ⟨HW.out.1.trans (hb8.mono HW.out.1.size), HW.out.2.trans (hb8.mono HW.out.2.size)⟩
      clear hb8 hs8 hT8 HI
      go_wp2_with fail
      refine (HM.out w8 HW.out.2).mono ?_
      rintro e w9 ⟨v9, rfl, hb9, hs9⟩
      obtain ⟨qg, cg, rfl, hT9⟩ := hs9.texts
      rw [asT_length] at hT9 ⊢
      have HTg := Hid.mk2 hT9
      replace HTp := Hid.mk2 (HTp.out.below hb9)
      replace HW : Hid (Below w7.heap.size w7 w9 ∧ Below w'.heap.size w' w9) := ⟨HW.out.1.trans (hb9.mono HW.out.1.size), HW.out.2.trans (hb9.mono HW.out.2.size)⟩
      clear hb9 hs9 hT9 HM
      go_wp2_with fail
      refine (same_y qb qp Lb.length cb' cp (fun j => Lb[j]!) (fun j => (asT Lb)[j]!) w9 (by omega) (K7.out.2.2.2.2.2.2.2.2.2.1.below HW.out.1) HTp.out (fun j hj => asT_at Lb j hj)).mono ?_
      rintro e wa ⟨rfl, hba⟩
      replace HW : Hid (Below w7.heap.size w7 wa ∧ Below w'.heap.size w' wa) := ⟨HW.out.1.trans (hba.mono HW.out.1.size), HW.out.2.trans (hba.mono HW.out.2.size)⟩
      replace HTg := Hid.mk2 (HTg.out.below hba)
      clear hba
      go_wp2_with fail
      refine (same_y qc qg Lc.length cc' cg (fun j => Lc[j]!) (fun j => (asT Lc)[j]!) wa (by omega) (K7.out.2.2.2.2.2.2.2.2.2.2.below HW.out.1) HTg.out (fun j hj => asT_at Lc j hj)).mono ?_
      rintro e wb ⟨rfl, hbb⟩
      obtain ⟨v1, W1, v2, W2, g, cap, hap1, hap2, rfl, hbW, hA⟩ := ends8 K7.out.2.1 K7.out.2.2.1 K7.out.2.2.2.1 K7.out.2.2.2.2.1 K7.out.2.2.2.2.2.1 K7.out.2.2.2.2.2.2.1 K7.out.2.2.2.2.2.2.2.1 K7.out.2.2.2.2.2.2.2.2.1 (HW.out.1.trans (hbb.mono HW.out.1.size)) (HW.out.2.trans (hbb.mono HW.out.2.size)) hR32 hlb hlc
      have HA := Hid.mk2 hA
      clear hbb hbW hA HW K7 hR32
      go_wp2_with (at_builtin; first | (refine Lib.wpList_append_run _ rfl _ _ 24 24 rfl _ _ rfl rfl _ _ hap1 ?_) | (refine Lib.wpList_append_run _ rfl _ _ 24 24 rfl _ _ rfl rfl _ _ hap2 ?_))
      refine HA.out.mono ?_
      rintro e wz ⟨vz, rfl, hbz, rfl⟩
      have KZ := Hid.mk2 hbz
      clear hbz HA
      go_wp2
      go_ret
      exact ⟨rfl, KZ.out⟩
    · have HW : Hid (Below w7.heap.size w7 w7 ∧ Below w'.heap.size w' w7) := ⟨Below.refl _ _, K7.out.1⟩
      go_wp2_with fail
      refine (HI.out w7 HW.out.2).mono ?_
      rintro e w8 ⟨v8, rfl, hb8, hs8⟩
      obtain ⟨qp, cp, rfl, hT8⟩ := hs8.texts
      rw [asT_length] at hT8 ⊢
      have HTp := Hid.mk2 hT8
      replace HW : Hid (Below w7.heap.size w7 w8 ∧ Below w'.heap.size w' w8) := ⟨HW.out.1.trans (hb8.mono HW.out.1.size), HW.out.2.trans (hb8.mono HW.out.2.size)⟩
      clear hb8 hs8 hT8 HI
      go_wp2_with fail
      refine (same_y qb qp Lb.length cb' cp (fun j => Lb[j]!) (fun j => (asT Lb)[j]!) w8 (by omega) (K7.out.2.2.2.2.2.2.2.2.2.1.below HW.out.1) HTp.out (fun j hj => asT_at Lb j hj)).mono ?_
      rintro e wa ⟨rfl, hba⟩
      replace HW : Hid (Below w7.heap.size w7 wa ∧ Below w'.heap.size w' wa) := ⟨HW.out.1.trans (hba.mono HW.out.1.size), HW.out.2.trans (hba.mono HW.out.2.size)⟩
      clear hba
      go_wp2_with fail
      refine (same_y qc none 0 cc' 0 (fun _ => #[]) (fun _ => ByteArray.empty) wa (by decide) (fun h => absurd h (by decide)) (fun h => absurd h (by decide)) (fun j hj => absurd hj (by omega))).mono ?_
      rintro e wb ⟨rfl, hbb⟩
      obtain ⟨v1, W1, v2, W2, g, cap, hap1, hap2, rfl, hbW, hA⟩ := ends8 K7.out.2.1 K7.out.2.2.1 K7.out.2.2.2.1 K7.out.2.2.2.2.1 K7.out.2.2.2.2.2.1 K7.out.2.2.2.2.2.2.1 K7.out.2.2.2.2.2.2.2.1 K7.out.2.2.2.2.2.2.2.2.1 (HW.out.1.trans (hbb.mono HW.out.1.size)) (HW.out.2.trans (hbb.mono HW.out.2.size)) hR32 hlb hlc
      have HA := Hid.mk2 hA
      clear hbb hbW hA HW K7 hR32
      go_wp2_with (at_builtin; first | (refine Lib.wpList_append_run _ rfl _ _ 24 24 rfl _ _ rfl rfl _ _ hap1 ?_) | (refine Lib.wpList_append_run _ rfl _ _ 24 24 rfl _ _ rfl rfl _ _ hap2 ?_))
      refine HA.out.mono ?_
      rintro e wz ⟨vz, rfl, hbz, rfl⟩
      have KZ := Hid.mk2 hbz
      clear hbz HA
      go_wp2
      go_ret
      exact ⟨rfl, KZ.out⟩
    · have HW : Hid (Below w7.heap.size w7 w7 ∧ Below w'.heap.size w' w7) := ⟨Below.refl _ _, K7.out.1⟩
      go_wp2_with fail
      refine (HI.out w7 HW.out.2).mono ?_
      rintro e w8 ⟨v8, rfl, hb8, hs8⟩
      obtain ⟨qp, cp, rfl, hT8⟩ := hs8.texts
      rw [asT_length] at hT8 ⊢
      have HTp := Hid.mk2 hT8
      replace HW : Hid (Below w7.heap.size w7 w8 ∧ Below w'.heap.size w' w8) := ⟨HW.out.1.trans (hb8.mono HW.out.1.size), HW.out.2.trans (hb8.mono HW.out.2.size)⟩
      clear hb8 hs8 hT8 HI
      go_wp2_with fail
      refine (same_y qb qp Lb.length cb' cp (fun j => Lb[j]!) (fun j => (asT Lb)[j]!) w8 (by omega) (K7.out.2.2.2.2.2.2.2.2.2.1.below HW.out.1) HTp.out (fun j hj => asT_at Lb j hj)).mono ?_
      rintro e wa ⟨rfl, hba⟩
      replace HW : Hid (Below w7.heap.size w7 wa ∧ Below w'.heap.size w' wa) := ⟨HW.out.1.trans (hba.mono HW.out.1.size), HW.out.2.trans (hba.mono HW.out.2.size)⟩
      clear hba
      go_wp2_with fail
      refine (same_y qc none 0 cc' 0 (fun _ => #[]) (fun _ => ByteArray.empty) wa (by decide) (fun h => absurd h (by decide)) (fun h => absurd h (by decide)) (fun j hj => absurd hj (by omega))).mono ?_
      rintro e wb ⟨rfl, hbb⟩
      obtain ⟨v1, W1, v2, W2, g, cap, hap1, hap2, rfl, hbW, hA⟩ := ends8 K7.out.2.1 K7.out.2.2.1 K7.out.2.2.2.1 K7.out.2.2.2.2.1 K7.out.2.2.2.2.2.1 K7.out.2.2.2.2.2.2.1 K7.out.2.2.2.2.2.2.2.1 K7.out.2.2.2.2.2.2.2.2.1 (HW.out.1.trans (hbb.mono HW.out.1.size)) (HW.out.2.trans (hbb.mono HW.out.2.size)) hR32 hlb hlc
      have HA := Hid.mk2 hA
      clear hbb hbW hA HW K7 hR32
      go_wp2_with (at_builtin; first | (refine Lib.wpList_append_run _ rfl _ _ 24 24 rfl _ _ rfl rfl _ _ hap1 ?_) | (refine Lib.wpList_append_run _ rfl _ _ 24 24 rfl _ _ rfl rfl _ _ hap2 ?_))
      refine HA.out.mono ?_
      rintro e wz ⟨vz, rfl, hbz, rfl⟩
      have KZ := Hid.mk2 hbz
      clear hbz HA
      go_wp2
      go_ret
      exact ⟨rfl, KZ.out⟩
  · rcases HM with ⟨hM0, hM1, rfl, HM⟩ | ⟨hM0, rfl, rfl⟩ | ⟨hM0, hM1, rfl, rfl⟩
    · have HW : Hid (Below w7.heap.size w7 w7 ∧ Below w'.heap.size w' w7) := ⟨Below.refl _ _, K7.out.1⟩
      go_wp2_with fail
      refine (HM.out w7 HW.out.2).mono ?_
      rintro e w9 ⟨v9, rfl, hb9, hs9⟩
      obtain ⟨qg, cg, rfl, hT9⟩ := hs9.texts
      rw [asT_length] at hT9 ⊢
      have HTg := Hid.mk2 hT9
      replace HW : Hid (Below w7.heap.size w7 w9 ∧ Below w'.heap.size w' w9) := ⟨HW.out.1.trans (hb9.mono HW.out.1.size), HW.out.2.trans (hb9.mono HW.out.2.size)⟩
      clear hb9 hs9 hT9 HM
      go_wp2_with fail
      refine (same_y qb none 0 cb' 0 (fun _ => #[]) (fun _ => ByteArray.empty) w9 (by decide) (fun h => absurd h (by decide)) (fun h => absurd h (by decide)) (fun j hj => absurd hj (by omega))).mono ?_
      rintro e wa ⟨rfl, hba⟩
      replace HW : Hid (Below w7.heap.size w7 wa ∧ Below w'.heap.size w' wa) := ⟨HW.out.1.trans (hba.mono HW.out.1.size), HW.out.2.trans (hba.mono HW.out.2.size)⟩
      replace HTg := Hid.mk2 (HTg.out.below hba)
      clear hba
      go_wp2_with fail
      refine (same_y qc qg Lc.length cc' cg (fun j => Lc[j]!) (fun j => (asT Lc)[j]!) wa (by omega) (K7.out.2.2.2.2.2.2.2.2.2.2.below HW.out.1) HTg.out (fun j hj => asT_at Lc j hj)).mono ?_
      rintro e wb ⟨rfl, hbb⟩
      obtain ⟨v1, W1, v2, W2, g, cap, hap1, hap2, rfl, hbW, hA⟩ := ends8 K7.out.2.1 K7.out.2.2.1 K7.out.2.2.2.1 K7.out.2.2.2.2.1 K7.out.2.2.2.2.2.1 K7.out.2.2.2.2.2.2.1 K7.out.2.2.2.2.2.2.2.1 K7.out.2.2.2.2.2.2.2.2.1 (HW.out.1.trans (hbb.mono HW.out.1.size)) (HW.out.2.trans (hbb.mono HW.out.2.size)) hR32 hlb hlc
      have HA := Hid.mk2 hA
      clear hbb hbW hA HW K7 hR32
      go_wp2_with (at_builtin; first | (refine Lib.wpList_append_run _ rfl _ _ 24 24 rfl _ _ rfl rfl _ _ hap1 ?_) | (refine Lib.wpList_append_run _ rfl _ _ 24 24 rfl _ _ rfl rfl _ _ hap2 ?_))
      refine HA.out.mono ?_
      rintro e wz ⟨vz, rfl, hbz, rfl⟩
      have KZ := Hid.mk2 hbz
      clear hbz HA
      go_wp2
      go_ret
      exact ⟨rfl, KZ.out⟩
    · have HW : Hid (Below w7.heap.size w7 w7 ∧ Below w'.heap.size w' w7) := ⟨Below.refl _ _, K7.out.1⟩
      go_wp2_with fail
      refine (same_y qb none 0 cb' 0 (fun _ => #[]) (fun _ => ByteArray.empty) w7 (by decide) (fun h => absurd h (by decide)) (fun h => absurd h (by decide)) (fun j hj => absurd hj (by omega))).mono ?_
      rintro e wa ⟨rfl, hba⟩
      replace HW : Hid (Below w7.heap.size w7 wa ∧ Below w'.heap.size w' wa) := ⟨HW.out.1.trans (hba.mono HW.out.1.size), HW.out.2.trans (hba.mono HW.out.2.size)⟩
      clear hba
      go_wp2_with fail
      refine (same_y qc none 0 cc' 0 (fun _ => #[]) (fun _ => ByteArray.empty) wa (by decide) (fun h => absurd h (by decide)) (fun h => absurd h (by decide)) (fun j hj => absurd hj (by omega))).mono ?_
      rintro e wb ⟨rfl, hbb⟩
      obtain ⟨v1, W1, v2, W2, g, cap, hap1, hap2, rfl, hbW, hA⟩ := ends8 K7.out.2.1 K7.out.2.2.1 K7.out.2.2.2.1 K7.out.2.2.2.2.1 K7.out.2.2.2.2.2.1 K7.out.2.2.2.2.2.2.1 K7.out.2.2.2.2.2.2.2.1 K7.out.2.2.2.2.2.2.2.2.1 (HW.out.1.trans (hbb.mono HW.out.1.size)) (HW.out.2.trans (hbb.mono HW.out.2.size)) hR32 hlb hlc
      have HA := Hid.mk2 hA
      clear hbb hbW hA HW K7 hR32
      go_wp2_with (at_builtin; first | (refine Lib.wpList_append_run _ rfl _ _ 24 24 rfl _ _ rfl rfl _ _ hap1 ?_) | (refine Lib.wpList_append_run _ rfl _ _ 24 24 rfl _ _ rfl rfl _ _ hap2 ?_))
      refine HA.out.mono ?_
      rintro e wz ⟨vz, rfl, hbz, rfl⟩
      have KZ := Hid.mk2 hbz
      clear hbz HA
      go_wp2
      go_ret
      exact ⟨rfl, KZ.out⟩
    · have HW : Hid (Below w7.heap.size w7 w7 ∧ Below w'.heap.size w' w7) := ⟨Below.refl _ _, K7.out.1⟩
      go_wp2_with fail
      refine (same_y qb none 0 cb' 0 (fun _ => #[]) (fun _ => ByteArray.empty) w7 (by decide) (fun h => absurd h (by decide)) (fun h => absurd h (by decide)) (fun j hj => absurd hj (by omega))).mono ?_
      rintro e wa ⟨rfl, hba⟩
      replace HW : Hid (Below w7.heap.size w7 wa ∧ Below w'.heap.size w' wa) := ⟨HW.out.1.trans (hba.mono HW.out.1.size), HW.out.2.trans (hba.mono HW.out.2.size)⟩
      clear hba
      go_wp2_with fail
      refine (same_y qc none 0 cc' 0 (fun _ => #[]) (fun _ => ByteArray.empty) wa (by decide) (fun h => absurd h (by decide)) (fun h => absurd h (by decide)) (fun j hj => absurd hj (by omega))).mono ?_
      rintro e wb ⟨rfl, hbb⟩
      obtain ⟨v1, W1, v2, W2, g, cap, hap1, hap2, rfl, hbW, hA⟩ := ends8 K7.out.2.1 K7.out.2.2.1 K7.out.2.2.2.1 K7.out.2.2.2.2.1 K7.out.2.2.2.2.2.1 K7.out.2.2.2.2.2.2.1 K7.out.2.2.2.2.2.2.2.1 K7.out.2.2.2.2.2.2.2.2.1 (HW.out.1.trans (hbb.mono HW.out.1.size)) (HW.out.2.trans (hbb.mono HW.out.2.size)) hR32 hlb hlc
      have HA := Hid.mk2 hA
      clear hbb hbW hA HW K7 hR32
      go_wp2_with (at_builtin; first | (refine Lib.wpList_append_run _ rfl _ _ 24 24 rfl _ _ rfl rfl _ _ hap1 ?_) | (refine Lib.wpList_append_run _ rfl _ _ 24 24 rfl _ _ rfl rfl _ _ hap2 ?_))
      refine HA.out.mono ?_
      rintro e wz ⟨vz, rfl, hbz, rfl⟩
      have KZ := Hid.mk2 hbz
      clear hbz HA
      go_wp2
      go_ret
      exact ⟨rfl, KZ.out⟩
  · rcases HM with ⟨hM0, hM1, rfl, HM⟩ | ⟨hM0, rfl, rfl⟩ | ⟨hM0, hM1, rfl, rfl⟩
    · have HW : Hid (Below w7.heap.size w7 w7 ∧ Below w'.heap.size w' w7) := ⟨Below.refl _ _, K7.out.1⟩
      go_wp2_with fail
      refine (HM.out w7 HW.out.2).mono ?_
      rintro e w9 ⟨v9, rfl, hb9, hs9⟩
      obtain ⟨qg, cg, rfl, hT9⟩ := hs9.texts
      rw [asT_length] at hT9 ⊢
      have HTg := Hid.mk2 hT9
      replace HW : Hid (Below w7.heap.size w7 w9 ∧ Below w'.heap.size w' w9) := ⟨HW.out.1.trans (hb9.mono HW.out.1.size), HW.out.2.trans (hb9.mono HW.out.2.size)⟩
      clear hb9 hs9 hT9 HM
      go_wp2_with fail
      refine (same_y qb none 0 cb' 0 (fun _ => #[]) (fun _ => ByteArray.empty) w9 (by decide) (fun h => absurd h (by decide)) (fun h => absurd h (by decide)) (fun j hj => absurd hj (by omega))).mono ?_
      rintro e wa ⟨rfl, hba⟩
      replace HW : Hid (Below w7.heap.size w7 wa ∧ Below w'.heap.size w' wa) := ⟨HW.out.1.trans (hba.mono HW.out.1.size), HW.out.2.trans (hba.mono HW.out.2.size)⟩
      replace HTg := Hid.mk2 (HTg.out.below hba)
      clear hba
      go_wp2_with fail
      refine (same_y qc qg Lc.length cc' cg (fun j => Lc[j]!) (fun j => (asT Lc)[j]!) wa (by omega) (K7.out.2.2.2.2.2.2.2.2.2.2.below HW.out.1) HTg.out (fun j hj => asT_at Lc j hj)).mono ?_
      rintro e wb ⟨rfl, hbb⟩
      obtain ⟨v1, W1, v2, W2, g, cap, hap1, hap2, rfl, hbW, hA⟩ := ends8 K7.out.2.1 K7.out.2.2.1 K7.out.2.2.2.1 K7.out.2.2.2.2.1 K7.out.2.2.2.2.2.1 K7.out.2.2.2.2.2.2.1 K7.out.2.2.2.2.2.2.2.1 K7.out.2.2.2.2.2.2.2.2.1 (HW.out.1.trans (hbb.mono HW.out.1.size)) (HW.out.2.trans (hbb.mono HW.out.2.size)) hR32 hlb hlc
      have HA := Hid.mk2 hA
      clear hbb hbW hA HW K7 hR32
      go_wp2_with (at_builtin; first | (refine Lib.wpList_append_run _ rfl _ _ 24 24 rfl _ _ rfl rfl _ _ hap1 ?_) | (refine Lib.wpList_append_run _ rfl _ _ 24 24 rfl _ _ rfl rfl _ _ hap2 ?_))
      refine HA.out.mono ?_
      rintro e wz ⟨vz, rfl, hbz, rfl⟩
      have KZ := Hid.mk2 hbz
      clear hbz HA
      go_wp2
      go_ret
      exact ⟨rfl, KZ.out⟩
    · have HW : Hid (Below w7.heap.size w7 w7 ∧ Below w'.heap.size w' w7) := ⟨Below.refl _ _, K7.out.1⟩
      go_wp2_with fail
      refine (same_y qb none 0 cb' 0 (fun _ => #[]) (fun _ => ByteArray.empty) w7 (by decide) (fun h => absurd h (by decide)) (fun h => absurd h (by decide)) (fun j hj => absurd hj (by omega))).mono ?_
      rintro e wa ⟨rfl, hba⟩
      replace HW : Hid (Below w7.heap.size w7 wa ∧ Below w'.heap.size w' wa) := ⟨HW.out.1.trans (hba.mono HW.out.1.size), HW.out.2.trans (hba.mono HW.out.2.size)⟩
      clear hba
      go_wp2_with fail
      refine (same_y qc none 0 cc' 0 (fun _ => #[]) (fun _ => ByteArray.empty) wa (by decide) (fun h => absurd h (by decide)) (fun h => absurd h (by decide)) (fun j hj => absurd hj (by omega))).mono ?_
      rintro e wb ⟨rfl, hbb⟩
      obtain ⟨v1, W1, v2, W2, g, cap, hap1, hap2, rfl, hbW, hA⟩ := ends8 K7.out.2.1 K7.out.2.2.1 K7.out.2.2.2.1 K7.out.2.2.2.2.1 K7.out.2.2.2.2.2.1 K7.out.2.2.2.2.2.2.1 K7.out.2.2.2.2.2.2.2.1 K7.out.2.2.2.2.2.2.2.2.1 (HW.out.1.trans (hbb.mono HW.out.1.size)) (HW.out.2.trans (hbb.mono HW.out.2.size)) hR32 hlb hlc
      have HA := Hid.mk2 hA
      clear hbb hbW hA HW K7 hR32
      go_wp2_with (at_builtin; first | (refine Lib.wpList_append_run _ rfl _ _ 24 24 rfl _ _ rfl rfl _ _ hap1 ?_) | (refine Lib.wpList_append_run _ rfl _ _ 24 24 rfl _ _ rfl rfl _ _ hap2 ?_))
      refine HA.out.mono ?_
      rintro e wz ⟨vz, rfl, hbz, rfl⟩
      have KZ := Hid.mk2 hbz
      clear hbz HA
      go_wp2
      go_ret
      exact ⟨rfl, KZ.out⟩
    · have HW : Hid (Below w7.heap.size w7 w7 ∧ Below w'.heap.size w' w7) := ⟨Below.refl _ _, K7.out.1⟩
      go_wp2_with fail
      refine (same_y qb none 0 cb' 0 (fun _ => #[]) (fun _ => ByteArray.empty) w7 (by decide) (fun h => absurd h (by decide)) (fun h => absurd h (by decide)) (fun j hj => absurd hj (by omega))).mono ?_
      rintro e wa ⟨rfl, hba⟩
      replace HW : Hid (Below w7.heap.size w7 wa ∧ Below w'.heap.size w' wa) := ⟨HW.out.1.trans (hba.mono HW.out.1.size), HW.out.2.trans (hba.mono HW.out.2.size)⟩
      clear hba
      go_wp2_with fail
      refine (same_y qc none 0 cc' 0 (fun _ => #[]) (fun _ => ByteArray.empty) wa (by decide) (fun h => absurd h (by decide)) (fun h => absurd h (by decide)) (fun j hj => absurd hj (by omega))).mono ?_
      rintro e wb ⟨rfl, hbb⟩
      obtain ⟨v1, W1, v2, W2, g, cap, hap1, hap2, rfl, hbW, hA⟩ := ends8 K7.out.2.1 K7.out.2.2.1 K7.out.2.2.2.1 K7.out.2.2.2.2.1 K7.out.2.2.2.2.2.1 K7.out.2.2.2.2.2.2.1 K7.out.2.2.2.2.2.2.2.1 K7.out.2.2.2.2.2.2.2.2.1 (HW.out.1.trans (hbb.mono HW.out.1.size)) (HW.out.2.trans (hbb.mono HW.out.2.size)) hR32 hlb hlc
      have HA := Hid.mk2 hA
      clear hbb hbW hA HW K7 hR32
      go_wp2_with (at_builtin; first | (refine Lib.wpList_append_run _ rfl _ _ 24 24 rfl _ _ rfl rfl _ _ hap1 ?_) | (refine Lib.wpList_append_run _ rfl _ _ 24 24 rfl _ _ rfl rfl _ _ hap2 ?_))
      refine HA.out.mono ?_
      rintro e wz ⟨vz, rfl, hbz, rfl⟩
      have KZ := Hid.mk2 hbz
      clear hbz HA
      go_wp2
      go_ret
      exact ⟨rfl, KZ.out⟩
end Go.Proofs.Ythbgppnhlpjngaa
namespace Go.Proofs.Ythbgppnhlpjngaa
open Go.RowKit Go.Sort Go.Deep
set_option maxRecDepth 100000 in
set_option maxHeartbeats 4000000 in
theorem rootsL_long (q : Option Addr) (n c : Nat) (S : Nat → ByteArray) (i m : Int) (w0 : World) (hn : ¬ n ≤ 1024) (hn2 : n ≤ 1100) (hsm : Calls Try.prog 6 #[.slice q n c] w0 fun e w' => e = .returned (.bool true) ∧ w' = w0) (hS : ∀ j, (S j).size ≤ 65536) (hL : Texts w0 q n S) :
    Calls Try.prog 3 #[.slice q n c, .int .i64 i, .int .i64 m] w0 fun e w' => e = .returned (.bool true) ∧ Below w0.heap.size w0 w' := by
  have a1 : (1024 : Int) < (n : Int) := by omega
  have HB : Hid (Texts w0 q n S ∧ ∀ j, (S j).size ≤ 65536) := ⟨hL, hS⟩
  clear hL hS
  go_enter Try.func3, Try.ntmps3
  go_wp2_with fail
  refine hsm.mono ?_
  rintro e w' ⟨rfl, rfl⟩
  clear hsm
  go_wp2_with fail
  refine (lists8_c q n c S w' hn2 HB.out.1).mono ?_
  rintro e w2 ⟨v2, rfl, hb2, hA2⟩
  obtain ⟨q2, c2, rfl, hc2, hL2⟩ := hA2.lists (fun j _ => HB.out.2 j)
  have K2 : Hid (Below w'.heap.size w' w2 ∧ n ≤ c2 ∧ Lists w2 q2 n (fun j => (S j).data)) := ⟨hb2, hc2, hL2⟩
  clear hb2 hA2 hc2 hL2
  go_wp2_with fail
  refine (Root_l q2 n c2 w2 a1).mono ?_
  rintro e w3 ⟨rfl, rfl⟩
  go_wp2_with fail
  refine (Path_l q2 n c2 i w3 a1).mono ?_
  rintro e w3 ⟨rfl, rfl⟩
  go_wp2_with fail
  refine (Growth_l q2 n c2 m w3 a1).mono ?_
  rintro e w3 ⟨rfl, rfl⟩
  go_wp2_with fail
  refine (same_y q2 q n c2 c (fun j => (S j).data) S w3 (by omega) K2.out.2.2 (HB.out.1.below K2.out.1) (fun j _ => rfl)).mono ?_
  rintro e w6 ⟨rfl, hb6⟩
  have K6 := Hid.mk2 (K2.out.1.trans (hb6.mono K2.out.1.size))
  clear hb6 K2 HB
  go_wp2
  go_ret
  exact ⟨rfl, K6.out⟩
set_option maxHeartbeats 2000000 in
theorem rootsL_any (q : Option Addr) (m c : Nat) (S0 : Nat → ByteArray) (i0 m0 : Int) (w0 : World) (hmc : m ≤ c) (hm2 : m ≤ 140737488355328) (hS0 : ∀ j, j < m → (S0 j).size ≤ 140737488355328) (hL0 : Texts w0 q m S0) :
    Calls Try.prog 3 #[.slice q m c, .int .i64 i0, .int .i64 m0] w0 fun e w' => e = .returned (.bool true) ∧ Below w0.heap.size w0 w' := by
  by_cases hm : m ≤ 1100
  · obtain ⟨S, hS⟩ : ∃ S : Nat → ByteArray, S = fun j => if j < m then S0 j else ByteArray.empty := ⟨_, rfl⟩
    have hSe : ∀ j, j < m → S j = S0 j := fun j hj => by rw [hS]; exact if_pos hj
    have hSn : ∀ j, ¬ j < m → S j = ByteArray.empty := fun j hj => by rw [hS]; exact if_neg hj
    have hL : Texts w0 q m S := fun hn => by
      obtain ⟨gg, oo, h1, h2, h3⟩ := hL0 hn
      exact ⟨gg, oo, h1, h2, fun j hj => by rw [hSe j hj]; exact h3 j hj⟩
    have hSz : ∀ j, j < m → (S j).size ≤ 140737488355328 := fun j hj => by rw [hSe j hj]; exact hS0 j hj
    clear hS0 hL0 hSe hS
    have hsm := small_y q m c S w0 hm hSz hL
    by_cases h1 : sumS S m ≤ 65536
    · rw [decide_eq_true h1] at hsm
      have hS6 : ∀ j, (S j).size ≤ 65536 := fun j => by
        by_cases hj : j < m
        · exact Nat.le_trans (sumS_at m j hj) h1
        · rw [hSn j hj]; exact Nat.zero_le _
      by_cases h2 : m ≤ 1024
      · have hnil : ∀ w : World, NewL w [] (.slice none 0 0) w := fun w => ⟨Below.refl _ _, Or.inl ⟨rfl, rfl⟩⟩
        obtain ⟨Lb, eb, hlb, HP, HI⟩ : ∃ (Lb : List Bs) (eb : Int), Lb.length ≤ 100 ∧ Hid (∀ q2 c2 w', m ≤ c2 → Lists w' q2 m (fun j => (S j).data) → Calls Try.prog 9 #[.slice q2 m c2, .int .i64 i0] w' (Ret fun e w'' => ∃ v, e = .tuple #[v, .int .i64 eb] ∧ NewL w' Lb v w'')) ∧ ((0 ≤ i0 ∧ i0 < (m : Int) ∧ eb = 0 ∧ Hid (∀ w', Below w0.heap.size w0 w' → Calls Try.prog 13 #[.slice q m c, .int .i64 i0] w' (Ret fun e w'' => Below w'.heap.size w' w'' ∧ SLs w'' w'.heap.size e (asT Lb)))) ∨ (i0 < 0 ∧ eb = 7 ∧ Lb = []) ∨ (¬ i0 < 0 ∧ ¬ i0 < (m : Int) ∧ eb = 7 ∧ Lb = [])) := by
          by_cases hin : 0 ≤ i0 ∧ i0 < (m : Int)
          · obtain ⟨I, rfl⟩ : ∃ I : Nat, i0 = (I : Int) := ⟨i0.toNat, by omega⟩
            refine ⟨(pathR (fun j => (S j).data) 0 m I).reverse, 0, ?_, fun q2 c2 w' h3 h4 => Path_c _ m I q2 c2 w' h2 h3 (by omega) (by omega) h4, Or.inl ⟨hin.1, hin.2, rfl, fun w' hb => rPath_c S hS6 m m 0 q c I w' (Nat.le_refl _) (by omega) hmc (by omega) (by omega) (by simpa using hL.below hb)⟩⟩
            rw [List.length_reverse]
            exact Nat.le_trans (pathR_log _ 10 m 0 I h2) (by decide)
          · refine ⟨[], 7, by simp, fun q2 c2 w' h3 h4 => (Path_r q2 m c2 i0 w' h2 (by omega)).mono ?_, ?_⟩
            · rintro e w'' ⟨rfl, rfl⟩
              exact ⟨_, rfl, _, rfl, hnil _⟩
            · by_cases h : i0 < 0
              · exact Or.inr (Or.inl ⟨h, rfl, rfl⟩)
              · exact Or.inr (Or.inr ⟨h, by omega, rfl, rfl⟩)
        obtain ⟨Lc, ec, hlc, HG, HM⟩ : ∃ (Lc : List Bs) (ec : Int), Lc.length ≤ 100 ∧ Hid (∀ q2 c2 w', m ≤ c2 → Lists w' q2 m (fun j => (S j).data) → Calls Try.prog 10 #[.slice q2 m c2, .int .i64 m0] w' (Ret fun e w'' => ∃ v, e = .tuple #[v, .int .i64 ec] ∧ NewL w' Lc v w'')) ∧ ((1 ≤ m0 ∧ m0 ≤ (m : Int) ∧ ec = 0 ∧ Hid (∀ w', Below w0.heap.size w0 w' → Calls Try.prog 14 #[.slice q m c, .int .i64 m0, .bool true] w' (Ret fun e w'' => Below w'.heap.size w' w'' ∧ SLs w'' w'.heap.size e (asT Lc)))) ∨ (m0 < 1 ∧ ec = 7 ∧ Lc = []) ∨ (¬ m0 < 1 ∧ ¬ m0 ≤ (m : Int) ∧ ec = 7 ∧ Lc = [])) := by
          by_cases hin : 1 ≤ m0 ∧ m0 ≤ (m : Int)
          · obtain ⟨M, rfl⟩ : ∃ M : Nat, m0 = (M : Int) := ⟨m0.toNat, by omega⟩
            refine ⟨(growR (fun j => (S j).data) 0 m M true).reverse, 0, ?_, fun q2 c2 w' h3 h4 => Growth_c _ m M q2 c2 w' h2 h3 (by omega) (by omega) h4, Or.inl ⟨hin.1, hin.2, rfl, fun w' hb => rGrowth_c S hS6 m m 0 q c M true w' (Nat.le_refl _) (by omega) hmc (by omega) (by omega) (by simpa using hL.below hb)⟩⟩
            rw [List.length_reverse]
            exact Nat.le_trans (growR_log _ 10 m 0 M true h2) (by decide)
          · refine ⟨[], 7, by simp, fun q2 c2 w' h3 h4 => (Growth_r q2 m c2 m0 w' h2 (by omega)).mono ?_, ?_⟩
            · rintro e w'' ⟨rfl, rfl⟩
              exact ⟨_, rfl, _, rfl, hnil _⟩
            · by_cases h : m0 < 1
              · exact Or.inr (Or.inl ⟨h, rfl, rfl⟩)
              · exact Or.inr (Or.inr ⟨h, by omega, rfl, rfl⟩)
        exact rootsL_core q m c S i0 m0 w0 h2 hmc hsm hS6 hL Lb Lc eb ec hlb hlc HP HG HI HM
      · exact rootsL_long q m c S i0 m0 w0 h2 hm hsm hS6 hL
    · rw [decide_eq_false h1] at hsm
      clear hL hSz hSn h1
      go_enter Try.func3, Try.ntmps3
      go_wp2_with fail
      refine hsm.mono ?_
      rintro e w' ⟨rfl, rfl⟩
      go_wp2
      go_ret
      exact ⟨rfl, Below.refl _ _⟩
  · have hsm := small_n q m c S0 w0 hm hm2 hL0
    clear hL0 hS0
    go_enter Try.func3, Try.ntmps3
    go_wp2_with fail
    refine hsm.mono ?_
    rintro e w' ⟨rfl, rfl⟩
    go_wp2
    go_ret
    exact ⟨rfl, Below.refl _ _⟩
end Go.Proofs.Ythbgppnhlpjngaa
/-
  THE ROW OF 'TreeRoots' round its walk: a slice of texts, two numbers.
-/
namespace Go.Proofs.Ythbgppnhlpjngaa.treeRoots
open Go.ChangeShapes Go.WideShapes Go.ChangeAt Go.RowKit
open Go.ChangeMaps (open_string shut_string)
theorem own : ownKnob Try.prog.godebug = none := by kernel_rfl
theorem laidOut : laidOutB Try.prog = true := by kernel_rfl
theorem cells9 : Try.prog.cellsOf 9 = 1 := by kernel_rfl
theorem bytes9 : Try.prog.bytesOf 9 = 16 := by kernel_rfl
theorem strs_weigh {H : Type} {P : Program} {e : TypeId} {x : ByteArray} : ∀ {ss : List ByteArray}, x ∈ ss → x.size ∈ DataW.weightsAll (H := H) P e (strs ss)
  | s :: r, h => by
    show x.size ∈ DataW.weights P e (.lit (.string s.data.toList)) ++ DataW.weightsAll P e (strs r)
    rw [List.mem_append]
    rcases List.mem_cons.1 h with rfl | h
    · left
      simp [DataW.weights]
    · exact Or.inr (strs_weigh h)
theorem sized_strs {H : Type} {P : Program} {ts : List TypeId} {ds : List (DataW H)} (h : (DataW.weightsEach P ts ds).all (· ≤ reachBytes) = true) {j : Nat} {t e : TypeId} {a b : List ByteArray} (ht : ts[j]? = some t) (hd : ds[j]? = some (.slice (strs a) (strs b))) (hu : P.underlying t = some (.slice e))
    (x : ByteArray) (hx : x ∈ a) : x.size ≤ reachBytes := by
  have := List.all_eq_true.1 h _ (DataW.weights_mem_each ht hd x.size (by
    simp only [DataW.weights, hu]
    exact List.mem_cons_of_mem _ (List.mem_append_left _ (strs_weigh hx))))
  simpa using this
theorem sized_str {H : Type} {P : Program} {ts : List TypeId} {ds : List (DataW H)} (h : (DataW.weightsEach P ts ds).all (· ≤ reachBytes) = true) {j : Nat} {t : TypeId} {s : ByteArray} (ht : ts[j]? = some t) (hd : ds[j]? = some (.lit (.string s.data.toList))) : s.size ≤ reachBytes := by
  have := List.all_eq_true.1 h _ (DataW.weights_mem_each ht hd s.size (by simp [DataW.weights]))
  simpa using this
theorem range64 {n : Int} (h : (Lit.int .i64 n).wf = true) : -9223372036854775808 ≤ n ∧ n ≤ 9223372036854775807 := by
  simp only [Lit.wf, Bool.and_eq_true, decide_eq_true_eq] at h
  exact h
set_option maxRecDepth 100000 in
theorem lifted (os : Os) (started : os.Started) (H : Type) (enc : TypeId × Value → H) :
    ReturnsInHanded {} Try.checked os 3 .any (Rows.treeRootsSpec.pre6 enc Try.prog Try.f3 Rows.treeRootsRow.domain false) (Rows.treeRootsSpec.post enc Try.prog Try.f3 false true false false) := by
  refine returnsInHanded_of_change_sized (C := Try.checked) own started (by kernel_rfl) Try.func3
    (ChangeSpec.witness6 (enc := enc) (C := Try.checked) false ⟨#[], #[.slice none 0 0, .int .i64 0, .int .i64 0], []⟩ 8 (by kernel_rfl) (by kernel_rfl) (by kernel_rfl) (by kernel_rfl)) ?_
  intro W base args ds gs before hval0 hW _ hsz0 _
  have hsz : (DataW.weightsEach Try.prog (Try.f3.params.toList ++ Rows.treeRootsSpec.plain.varTypes Try.prog) (ds ++ gs)).all (· ≤ reachBytes) = true := hsz0
  clear hsz0
  have hval : ∀ (j : Nat) t v, Try.f3.params[j]? = some t → args[j]? = some v → Value.okWide Try.prog W .any base t v := hval0
  have hW' := hW
  obtain ⟨p, q, hA0, hV, rfl, hfz, hnd⟩ := hW
  have hA : DataW.TrodAll enc Try.prog W 0 (fun _ => true) true Try.f3.params.toList args.toList ds p := hA0
  rw [Try.params3] at hA hval hsz
  obtain ⟨v0, vs0, d0, ds0, p0, q0, hargs, rfl, rfl, h0, r0⟩ := trodAll_cons hA
  obtain ⟨v1, vs1, d1, ds1, p1, q1, rfl, rfl, rfl, h1, r1⟩ := trodAll_cons r0
  obtain ⟨v2, vs2, d2, ds2, p2, q2, rfl, rfl, rfl, h2, r2⟩ := trodAll_cons r1
  obtain ⟨rfl, rfl, rfl⟩ := trodAll_nil r2
  obtain rfl : args = #[v0, v1, v2] := by cases args; simp_all
  obtain ⟨rfl, rfl⟩ := trodVars_none hV
  obtain ⟨a1, rfl, rfl, rfl, w1⟩ := open_int Try.underlying3 (hval 1 3 v1 rfl rfl) h1
  obtain ⟨a2, rfl, rfl, rfl, w2⟩ := open_int Try.underlying3 (hval 2 3 v2 rfl rfl) h2
  obtain ⟨a3, len3, cap3, rfl⟩ := okWide_slice Try.underlying22 (hval 0 22 v0 rfl rfl)
  have k3 := h0
  have lt3 : ∀ x ∈ p0, x.block < W.heap.size := by obtain ⟨m, hm⟩ := k3; exact DataW.trod_lt m _ _ _ hm
  have hx3 : ∃ S : Nat → ByteArray, Texts W a3 len3 S ∧ (∀ j, j < len3 → (S j).size ≤ 140737488355328) ∧ len3 ≤ 140737488355328 ∧ len3 ≤ cap3 := by
    obtain ⟨fuel, hf⟩ := h0
    rcases open_strings Try.underlying22 Try.underlying9 cells9 hf with ⟨hcs, hx⟩ | ⟨a, l, c, ss, hcs, _, hl, hm, hz, hx, hcell, hws⟩
    · simp [Value.cells] at hcs
      obtain ⟨rfl, rfl, rfl⟩ := hcs
      exact ⟨fun _ => ByteArray.empty, fun h => absurd h (by omega), fun j hj => absurd hj (by omega), by omega, by omega⟩
    · simp [Value.cells] at hcs
      obtain ⟨rfl, rfl, rfl⟩ := hcs
      simp only [Prod.mk.injEq] at hx
      obtain ⟨rfl, rfl⟩ := hx
      simp only [if_true] at hz
      have hn : (ss.take len3).length = len3 := by rw [List.length_take]; omega
      have hat : ∀ j, j < len3 → (ss.take len3)[j]! = ss.getD j ByteArray.empty := fun j hj => by
        rw [getElem!_pos (ss.take len3) j (by omega), List.getElem_take, List.getD_eq_getElem?_getD, List.getElem?_eq_getElem (by omega)]
        rfl
      have hreach : len3 * 16 ≤ 140737488355328 := by
        have := sized_slice hsz (j := 0) (t := 22) (e := 9) rfl rfl Try.underlying22
        rw [bytes9] at this
        simp only [strs, List.length_map, List.length_take, List.length_drop, reachBytes] at this
        omega
      have hs : ∀ j, j < len3 → ((ss.take len3)[j]!).size ≤ 140737488355328 := fun j hj => by
        have := sized_strs hsz (j := 0) (t := 22) (e := 9) (a := ss.take len3) (b := ss.drop len3) rfl rfl Try.underlying22 (ss.take len3)[j]! (by rw [getElem!_pos (ss.take len3) j (by omega)]; exact List.getElem_mem _)
        unfold reachBytes at this
        omega
      refine ⟨fun j => (ss.take len3)[j]!, fun h00 => ?_, hs, by omega, by omega⟩
      obtain ⟨b, off, spot⟩ := a
      have hspot : spot = none := by simpa [Addr.add] using World.cell?_spot (hcell 0 (by omega))
      subst hspot
      have hP : ∀ j, j < len3 → W.cell? ⟨b, off + j, none⟩ = some (.string (ss.take len3)[j]!) := fun j hj => by
        rw [hat j hj, ← hcell j (by omega)]
        congr 1
        unfold Addr.add
        by_cases hj0 : j = 0
        · subst hj0; rfl
        · rw [if_neg hj0]
      exact ⟨b, off, rfl, World.block_lt_of_cell? _ _ (hP 0 h00), hP⟩
  obtain ⟨S, hS, hSs, hSl, hSc⟩ := hx3
  refine (rootsL_any a3 len3 cap3 S a1 a2 W hSc hSl hSs hS).mono fun e W' ⟨he, bel⟩ => ?_
  subst he
  exact ⟨_, rfl, _, _, _, [], _, [], hW', trodAll_mk1 (shut_bool Try.underlying4 _), (trodAll_cons_mk (Below.trod laidOut (by kernel_rfl) (of_decide_eq_true (by kernel_rfl)) k3 bel lt3) (trodAll_cons_mk (shut_int Try.underlying3 w1) (trodAll_cons_mk (shut_int Try.underlying3 w2) trodAll_mk0))), rfl, bel.frame _, fun h => by cases h⟩
theorem over : Rows.treeRootsRow.holds Try.pinned (OpenSpec.ofChange Rows.treeRootsSpec) :=
  OpenClaim.holds_of_wide 3 Try.f3 rfl rfl rfl rfl rfl rfl rfl ⟨rfl, rfl, rfl, rfl, rfl⟩ rfl rfl rfl rfl rfl (by kernel_rfl) Try.func3 (by kernel_rfl)
    (of_decide_eq_true (by kernel_rfl)) (by unfold Func.isWrapper; first | (rw [if_pos (by decide +kernel)]; kernel_rfl) | (rw [if_neg (by decide +kernel)]; exact ⟨rfl, rfl⟩))
    (fun os started H enc _ => lifted os started H enc)
theorem proved : Rows.TreeRootsSaid :=
  over
end Go.Proofs.Ythbgppnhlpjngaa.treeRoots
namespace Go.Proofs.Ythbgppnhlpjngaa
/-- THE STATEMENT. -/
theorem treeRoots_holds : Rows.TreeRootsSaid := treeRoots.proved
#print axioms treeRoots_holds
end Go.Proofs.Ythbgppnhlpjngaa
