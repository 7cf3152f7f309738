import Derived.Test.YtdeidgbknlmhjabJ5
import Derived.Test.YtdeidgbknlmhjabF4
import Derived.Laws.MakeOwn
namespace Go.Proofs.Ytdeidgbknlmhjab
open Go.RowKit Go.Sort Go.Deep

/-- Numbers of four words, one behind the other, in a block: the first i of n are f. -/
def Nums (W : World) (k n i : Nat) (f : Nat → Nat) : Prop := ∀ j, j < n → ∃ a b c d : Nat, (Blk.mk k (j * 4) a b c d).at W ∧ (j < i → Four (.agg #[.int .u64 (a : Int), .int .u64 (b : Int), .int .u64 (c : Int), .int .u64 (d : Int)]) (f j))

theorem Nums.call {W w1 : World} {k n i : Nat} {f : Nat → Nat} (h : Nums W k n i f) (hb : Below W.heap.size W w1) : Nums w1 k n i f := fun j hj => by
  obtain ⟨a, b, c, d, h1, h2⟩ := h j hj
  exact ⟨a, b, c, d, h1.call hb, h2⟩
theorem Nums.drew {W : World} {k n i : Nat} {f : Nat → Nat} (h : Nums W k n i f) : Nums W.drew k n i f := fun j hj => by
  obtain ⟨a, b, c, d, h1, h2⟩ := h j hj
  exact ⟨a, b, c, d, ⟨h1.c0, h1.c1, h1.c2, h1.c3, h1.f⟩, h2⟩
theorem Nums.put {W : World} {k n i x y z t : Nat} {f : Nat → Nat} (h : Nums W k n i f) (hi : i < n) (hF : Four (.agg #[.int .u64 (x : Int), .int .u64 (y : Int), .int .u64 (z : Int), .int .u64 (t : Int)]) (f i)) :
    Nums ((((W.setCell ⟨k, i * 4, none⟩ (.int .u64 (x : Int))).setCell ⟨k, i * 4 + 1, none⟩ (.int .u64 (y : Int))).setCell ⟨k, i * 4 + 2, none⟩ (.int .u64 (z : Int))).setCell ⟨k, i * 4 + 3, none⟩ (.int .u64 (t : Int))) k n (i + 1) f := fun j hj => by
  obtain ⟨a, b, c, d, h1, h2⟩ := h j hj
  by_cases hji : j = i
  · subst hji
    exact ⟨x, y, z, t, h1.put x y z t, fun _ => hF⟩
  · refine ⟨a, b, c, d, ?_, fun h3 => h2 (by omega)⟩
    exact (((h1.off (by simp only; omega) _).off (by simp only; omega) _).off (by simp only; omega) _).off (by simp only; omega) _

theorem made_at (N j : Nat) (hj : j < N) : (madeCells #[.int .u64 0, .int .u64 0, .int .u64 0, .int .u64 0] N)[j]? = some (.int .u64 0) := by
  unfold madeCells
  rw [Array.getElem?_map, Array.getElem?_range]
  have h : j % 4 = 0 ∨ j % 4 = 1 ∨ j % 4 = 2 ∨ j % 4 = 3 := by omega
  simp only [hj, if_true, Option.map_some, List.size_toArray, List.length_cons, List.length_nil, Nat.zero_add]
  rcases h with h | h | h | h <;> rw [h] <;> rfl

theorem Nums.new (w : World) (t : TypeId) (n : Nat) (f : Nat → Nat) : Nums (w.alloc (.cells (madeCells #[.int .u64 0, .int .u64 0, .int .u64 0, .int .u64 0] (n * 4)) t)) w.heap.size n 0 f := fun j hj =>
  ⟨0, 0, 0, 0, ⟨by rw [World.cell?_alloc_new]; exact made_at _ _ (by simp only; omega), by rw [World.cell?_alloc_new]; exact made_at _ _ (by simp only; omega), by rw [World.cell?_alloc_new]; exact made_at _ _ (by simp only; omega), by rw [World.cell?_alloc_new]; exact made_at _ _ (by simp only; omega), fun o => World.frozen?_alloc_new _ _ _ _⟩, fun h => by omega⟩

theorem infoN : (Try.prog.info? 85).map (fun i => (i.zero, i.size, i.bytes)) = some (some (.agg #[.int .u64 0, .int .u64 0, .int .u64 0, .int .u64 0]), 4, 32) := by kernel_rfl
theorem sliceN : Try.prog.underlying 82 = some (.slice 85) := by kernel_rfl

theorem mkNums (n : Nat) (hn : n ≤ 1048576) (w : World) : (Instr.makeSlice 82 (.int .i64 (n : Int)) (.int .i64 (n : Int))).run Try.prog w = .ok (.slice (some ⟨w.heap.size, 0, none⟩) n n) (w.alloc (.cells (madeCells #[.int .u64 0, .int .u64 0, .int .u64 0, .int .u64 0] (n * 4)) 85)) := by
  obtain ⟨i, hi, hzz⟩ := Option.map_eq_some_iff.1 infoN
  simp only [Prod.mk.injEq] at hzz
  obtain ⟨hz, hs, hb⟩ := hzz
  have h := run_make (P := Try.prog) w 82 85 i _ sliceN hi hz .i64 .i64 (n : Int) (n : Int) (by omega) (Int.le_refl _) (by rw [hb]; omega) (by omega)
  rw [hs] at h
  exact h

/-- Bytes as an argument: where there are 32, they lie there. -/
def Arg (w : World) (v : Value) (bs : Bs) : Prop := ∃ (p : Option Addr) (n cap : Nat), v = .slice p n cap ∧ bs.size = n ∧ (n = 32 → ∃ g o, p = some ⟨g, o, none⟩ ∧ 32 ≤ cap ∧ g < w.heap.size ∧ Holds encB w g o bs)
theorem Arg.below {w w1 : World} {v : Value} {bs : Bs} (h : Arg w v bs) (hb : Below w.heap.size w w1) : Arg w1 v bs := by
  obtain ⟨p, n, cap, rfl, hs, h1⟩ := h
  refine ⟨p, n, cap, rfl, hs, fun h2 => ?_⟩
  obtain ⟨g, o, h3, h4, h6, h7⟩ := h1 h2
  exact ⟨g, o, h3, h4, Nat.lt_of_lt_of_le h6 hb.size, Holds.below h7 hb h6⟩

/-- Bytes are a number of the prime. -/
def IsNum (P : Nat) (bs : Bs) : Prop := bs.size = 32 ∧ beV bs.toList < P

theorem Read_arg (g0 g1 g2 P : Nat) (v : Value) (bs : Bs) (hG : Gap g0 g1 g2 P) (w : World) (hv : Arg w v bs) :
    Calls Try.prog 89 #[.agg #[.int .u64 (g0 : Int), .int .u64 (g1 : Int), .int .u64 (g2 : Int), .int .u64 0], v] w
      (Ret fun e w' => Below w.heap.size w w' ∧ ∃ (a b c d : Nat) (ok : Bool), e = .tuple #[.agg #[.int .u64 (a : Int), .int .u64 (b : Int), .int .u64 (c : Int), .int .u64 (d : Int)], .bool ok] ∧ (ok = true → IsNum P bs ∧ Four (.agg #[.int .u64 (a : Int), .int .u64 (b : Int), .int .u64 (c : Int), .int .u64 (d : Int)]) (beV bs.toList)) ∧ (ok = false → ¬ IsNum P bs)) := by
  obtain ⟨p, n, cap, rfl, hs, h1⟩ := hv
  by_cases hn : n = 32
  · subst hn
    obtain ⟨g, o, rfl, h4, h6, h7⟩ := h1 rfl
    refine (Read_any g0 g1 g2 P g o cap bs hG w hs h4 h6 h7).mono ?_
    rintro e w' ⟨v, rfl, hb, ⟨hl, v', rfl, a, b, c, d, rfl, h8⟩ | ⟨hl, rfl⟩⟩
    · exact ⟨_, rfl, hb, a, b, c, d, true, rfl, fun _ => ⟨⟨hs, hl⟩, ⟨a, b, c, d, rfl, h8⟩⟩, fun h => Bool.noConfusion h⟩
    · exact ⟨_, rfl, hb, 0, 0, 0, 0, false, rfl, fun h => Bool.noConfusion h, fun _ h => Nat.not_le_of_lt h.2 hl⟩
  · refine (Read_len _ p n cap w g0 g1 g2 rfl hn).mono ?_
    rintro e w' ⟨v, rfl, hb, rfl⟩
    exact ⟨_, rfl, hb, 0, 0, 0, 0, false, rfl, fun h => Bool.noConfusion h, fun _ h => hn (hs.symm.trans h.1)⟩

/-- A list of arguments in a block. -/
def Args (w : World) (q : Option Addr) (n : Nat) (L : Nat → Bs) : Prop := 0 < n → ∃ gg, q = some ⟨gg, 0, none⟩ ∧ gg < w.heap.size ∧ ∀ j, j < n → ∃ v, w.cell? ⟨gg, j, none⟩ = some v ∧ Arg w v (L j)

/-- What numbers answers. -/
def NumsR (w : World) (P n : Nat) (L : Nat → Bs) (e : Value) (w' : World) : Prop :=
  ((∀ j, j < n → IsNum P (L j)) ∧ ∃ k, w.heap.size ≤ k ∧ e = .tuple #[.slice (some ⟨k, 0, none⟩) n n, .int .i64 0] ∧ Nums w' k n n (fun j => beV (L j).toList)) ∨
  ((∃ j, j < n ∧ ¬ IsNum P (L j)) ∧ e = .tuple #[.slice none 0 0, .int .i64 3])

set_option maxHeartbeats 4000000 in
set_option maxRecDepth 100000 in
theorem numbers_any (g0 g1 g2 P n cap : Nat) (q : Option Addr) (L : Nat → Bs) (hG : Gap g0 g1 g2 P) (w : World) (hn : n ≤ 1048576) (hA : Args w q n L) :
    Calls Try.prog 49 #[.agg #[.int .u64 (g0 : Int), .int .u64 (g1 : Int), .int .u64 (g2 : Int), .int .u64 0], .slice q n cap] w (Ret fun e w' => Below w.heap.size w w' ∧ NumsR w P n L e w') := by
  have HG : Hid (Gap g0 g1 g2 P) := hG
  have HA : Hid (Args w q n L) := hA
  have hmk := mkNums n hn
  clear hG hA
  go_enter Try.func49, Try.ntmps49
  go_wp2
  have KP := (Kept.mk1 (below2 w (.cells #[.int .u64 (g0 : Int), .int .u64 (g1 : Int), .int .u64 (g2 : Int), .int .u64 0] 79) (.cells (madeCells #[.int .u64 0, .int .u64 0, .int .u64 0, .int .u64 0] (n * 4)) 85)) (below2 w _ _).size).cons ((At4.made w 79 g0 g1 g2 0 rfl).alloc (.cells (madeCells #[.int .u64 0, .int .u64 0, .int .u64 0, .int .u64 0] (n * 4)) 85)).blk
  have NM := Nums.new (w.alloc (.cells #[.int .u64 (g0 : Int), .int .u64 (g1 : Int), .int .u64 (g2 : Int), .int .u64 0] 79)) 85 n (fun j => beV (L j).toList)
  rw [World.size_alloc] at NM
  clear hmk
  generalize World.alloc _ _ = W0 at KP NM ⊢
  generalize h1 : w.heap.size + 1 = k1 at NM ⊢
  have n10 : k1 ≠ w.heap.size := by omega
  have Q1 : Hid (w.heap.size ≤ k1) := by unfold Hid; omega
  clear h1
  go_loopg [16] n (fun gk s16 wr => ∃ i : Nat, i + gk = n ∧ s16 = .int .i64 (i : Int) ∧ Kept w w.heap.size [⟨w.heap.size, 0, g0, g1, g2, 0⟩] wr ∧ Nums wr k1 n i (fun j => beV (L j).toList) ∧ Hid (∀ j, j < i → IsNum P (L j)))
  case atStart => exact ⟨0, Nat.zero_add _, rfl, KP, NM, fun j hj => by omega⟩
  case round =>
    clear KP NM
    obtain ⟨i, hi, rfl, KP, NM, HI⟩ := hrel
    by_cases hlt : i < n
    · have hlt' : (i : Int) < (n : Int) := by omega
      obtain ⟨gg, rfl, hgg, hc⟩ := HA.out (by omega)
      obtain ⟨v, hv, ha⟩ := hc i hlt
      have HV : Hid (Arg w v (L i)) := ha
      have hv' : wr.cell? ⟨gg, i, none⟩ = some v := by rw [KP.bl.cell (p := ⟨gg, i, none⟩) hgg]; exact hv
      clear hv hc ha HA
      obtain ⟨p, len, cp, rfl, -⟩ := id HV.out
      obtain ⟨pc0, pc1, pc2, pc3, pf⟩ := KP.head.at4
      have z0 := KP.head.lt
      go_wp2_with fail
      refine (Read_arg g0 g1 g2 P _ (L i) HG.out _ (HV.out.below KP.bl)).mono ?_
      rintro e w1 ⟨v, rfl, hb1, a, b, c, d, ok, rfl, hok, hno⟩
      replace KP := KP.call hb1
      replace NM := NM.call hb1
      clear hb1 hv' pc0 pc1 pc2 pc3 pf z0
      cases ok with
      | false =>
        have HN : Hid (¬ IsNum P (L i)) := hno rfl
        clear hok hno
        go_wp2
        go_ret2
        exact ⟨_, rfl, (KP.alloc _).bl, Or.inr ⟨⟨i, hlt, HN.out⟩, rfl⟩⟩
      | true =>
        have HN : Hid _ := hok rfl
        clear hok hno
        obtain ⟨ya, yb, yc, yd, BI, hFI⟩ := NM i hlt
        clear hFI
        obtain ⟨tc0, tc1, tc2, tc3, tf⟩ := id BI
        have zt := BI.lt
        have n91 : k1 ≠ w1.heap.size := Nat.ne_of_lt zt
        go_wp2
        go_roundg (gk - 1)
        case measure => omega
        case rel =>
          refine ⟨i + 1, by omega, rfl, ?_, ?_, fun j hj => ?_⟩
          · refine Kept.alloc (Kept.set (Kept.set (Kept.set (Kept.set KP Q1.out ?_ _) Q1.out ?_ _) Q1.out ?_ _) Q1.out ?_ _) _
            all_goals (intro x hx; rw [List.mem_singleton.1 hx]; exact n10)
          · exact (NM.put hlt HN.out.2).call (below1 _ _)
          · by_cases hji : j = i
            · rw [hji]; exact HN.out.1
            · exact HI.out j (by omega)
    · have hge : ¬ (i : Int) < (n : Int) := by omega
      have hin : i = n := by omega
      have HIN : Hid (i = n) := hin
      clear hin
      go_wp2
      go_ret2
      refine ⟨_, rfl, KP.bl, Or.inl ⟨?_, k1, Q1.out, rfl, ?_⟩⟩
      · have := HI.out; rw [HIN.out] at this; exact this
      · rw [HIN.out] at NM; exact NM
end Go.Proofs.Ytdeidgbknlmhjab
