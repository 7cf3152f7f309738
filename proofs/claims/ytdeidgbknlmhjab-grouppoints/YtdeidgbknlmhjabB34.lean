import Derived.Test.YtdeidgbknlmhjabAQ
import Derived.Test.YtdeidgbknlmhjabCS
import Derived.Test.YtdeidgbknlmhjabR2
import Derived.Test.YtdeidgbknlmhjabRG9
import Derived.Deep.RegionHeld3
set_option linter.unusedVariables false
set_option linter.unusedSimpArgs false
namespace Go.Proofs.Ytdeidgbknlmhjab
open Go.RowKit Go.Sort Go.Deep
variable {P : Nat} [NeZero P]
/-- 33 zeros. -/
def zs33 : Bs := Array.replicate 33 0
def z12 : Array Value := #[.int .u64 0, .int .u64 0, .int .u64 0, .int .u64 0, .int .u64 0, .int .u64 0, .int .u64 0, .int .u64 0, .int .u64 0, .int .u64 0, .int .u64 0, .int .u64 0]
def W5 (w : World) : World := (w.alloc (.cells z12 56)).alloc (.cells (madeCells #[.int .u8 0] 33) 5)
theorem W5_st (w : World) : RG.St w w.heap.size [] [z12.toList] [w.heap.size] (W5 w) := (RG.St.new w z12.toList 56).more (below1 _ _)
theorem conv33 (w : World) : (convert 23 9 (.slice (some ⟨w.heap.size + 1, 0, none⟩) 33 33)).run Try.prog (W5 w) = .ok (.string ⟨zs33⟩) (W5 w) :=
  conv_str Try.prog 23 9 5 slice22 int5 str9 _ _ 0 33 33 _ (made33 w _) (by decide)
theorem str_eq (a : Bs) : ((⟨a⟩ : ByteArray).toList == (⟨a⟩ : ByteArray).toList) = true := by simp
theorem str_ne3 {a b : Bs} (h : ¬ a = b) : ((⟨a⟩ : ByteArray).toList == (⟨b⟩ : ByteArray).toList) = false := by
  rw [ByteArray.toList_eq, ByteArray.toList_eq]
  simp only [beq_eq_false_iff_ne, ne_eq]
  exact fun e => h (Array.toList_inj.1 e)
theorem slS (bs : Bs) (hs : bs.size = 33) (w : World) : (Instr.sliceAt 9 (.string ⟨bs⟩) (some (.int .i64 1)) none none).run Try.prog w = .ok (.string ⟨tl33 bs⟩) w := by
  have h : (⟨bs⟩ : ByteArray).size = 33 := hs
  go_simp
  have h2 : ((⟨bs⟩ : ByteArray).extract 1 33).data = tl33 bs := by rw [ByteArray.data_extract]; rfl
  rw [← h2]
theorem mark_of {bs : Bs} (hs : bs.size = 33) (hp : 0 < (⟨bs⟩ : ByteArray).size) : (((⟨bs⟩ : ByteArray)[0]'hp).toNat : Int) = ub bs[0]! := by
  rw [getElem!_pos bs 0 (by omega)]
  rfl
theorem ixS (bs : Bs) (hs : bs.size = 33) (m : Int) (hm : ub bs[0]! = m) (w : World) : (Instr.index 9 (.string ⟨bs⟩) (.int .i64 0)).run Try.prog w = .ok (.int .u8 m) w := by
  have h : (⟨bs⟩ : ByteArray).size = 33 := hs
  have h2 : ∀ hp, (((⟨bs⟩ : ByteArray)[0]'hp).toNat : Int) = m := fun hp => by rw [mark_of hs, hm]
  go_simp
theorem rNumber_y (C : Fl3 P) (bs : Bs) (hs : bs.size = 32) {x : Fin P} (hx : beV bs.toList = x.val) : Gives 17 #[rv0, .string ⟨bs⟩] (.tuple #[fv x, .bool true]) := fun w =>
  (rNumber_any _ _ _ _ _ _ _ _ P ⟨bs⟩ C.ref w).mono (by
    rintro e w' ⟨v, rfl, hb, a, b, c, d, ok, rfl, h1, h2, h3, -⟩
    cases ok with
    | false => exact absurd ⟨hs, by rw [hx]; exact x.isLt⟩ (h2 rfl)
    | true =>
      have h4 := (h1 rfl).2
      rw [hx] at h4
      refine ⟨_, rfl, hb, ?_⟩
      rw [C.toFld.four x |>.inj h4])
theorem rNumber_n (C : Fl3 P) (bs : Bs) (hs : bs.size = 32) (hx : ¬ beV bs.toList < P) : Gives 17 #[rv0, .string ⟨bs⟩] (.tuple #[nv (beV bs.toList), .bool false]) := fun w =>
  (rNumber_any _ _ _ _ _ _ _ _ P ⟨bs⟩ C.ref w).mono (by
    rintro e w' ⟨v, rfl, hb, a, b, c, d, ok, rfl, h1, h2, h3, -⟩
    cases ok with
    | true => exact absurd (h1 rfl).1.2 hx
    | false =>
      have h4 := h3 hs
      refine ⟨_, rfl, hb, ?_⟩
      rw [h4.nv])
def n12 (P : Nat) [NeZero P] : List Value := ws (0 : Fin P) ++ (ws (1 : Fin P) ++ ws (0 : Fin P))
set_option maxHeartbeats 2000000 in
set_option maxRecDepth 100000 in
theorem rr_zero (C : Fl3 P) (w : World) : Calls Try.prog 31 #[.string ⟨zs33⟩] w (Ret fun e w' => Below w.heap.size w w' ∧ e = .tuple #[rv (0 : Fin P) 1 0, .bool true]) := by
  have hmk := mk33
  have hcv := conv33 w
  have hse := str_eq zs33
  unfold W5 z12 at hcv
  have hN := None_c C
  have hrv : rv (0 : Fin P) 1 0 = .agg (n12 P).toArray := rfl
  rw [hrv] at hN ⊢
  have hln : (n12 P).length = 12 := rfl
  have hone : (n12 P).all (·.oneCell') = true := rfl
  generalize n12 P = N at hN hln hone ⊢
  go_enter Try.func31, Try.ntmps31
  go_wp2_with fail
  refine (hN _).mono ?_
  rintro e w1 ⟨v, rfl, hb, rfl⟩
  obtain ⟨w2, s0, s1, s2, hS⟩ := (RG.St.more (W5_st w) hb).store1 (P := Try.prog) 56 (D := N) hln (by rw [hln]; exact i56) hone
  clear hcv hmk hN hse
  go_wp2
  refine bodyPost_ret (v := .tuple #[.agg N.toArray, .bool true]) (RG.results_rt hS 2 3 56 rfl 0 _ rfl rfl _ rfl u56 (by rw [hln]; exact i56)) rfl ?_
  exact ⟨_, rfl, hS.bel.below, rfl⟩
set_option maxHeartbeats 2000000 in
set_option maxRecDepth 100000 in
theorem rr_len (C : Fl3 P) (bs : Bs) (hs : ¬ bs.size = 33) (w : World) : Calls Try.prog 31 #[.string ⟨bs⟩] w (Ret fun e w' => Below w.heap.size w w' ∧ e = .tuple #[rv (0 : Fin P) 0 0, .bool false]) := by
  have hmk := mk33
  have hcv := conv33 w
  have hse := str_ne3 (a := bs) (b := zs33) (fun h => hs (by rw [h]; rfl))
  unfold W5 z12 at hcv
  have hs2 : ¬ (⟨bs⟩ : ByteArray).size = 33 := hs
  rw [← zero_rv]
  go_enter Try.func31, Try.ntmps31
  go_wp2
  refine bodyPost_ret (v := .tuple #[.agg z12, .bool false]) (RG.results_rt (W5_st w) 2 3 56 rfl 0 _ rfl rfl _ rfl u56 i56) rfl ?_
  exact ⟨_, rfl, (W5_st w).bel.below, rfl⟩
set_option maxHeartbeats 2000000 in
set_option maxRecDepth 100000 in
theorem rr_mark (C : Fl3 P) (bs : Bs) (hs : bs.size = 33) (hz : ¬ bs = zs33) (m : Int) (hm : ub bs[0]! = m) (hm2 : ¬ m = 2) (hm3 : ¬ m = 3) (w : World) : Calls Try.prog 31 #[.string ⟨bs⟩] w (Ret fun e w' => Below w.heap.size w w' ∧ e = .tuple #[rv (0 : Fin P) 0 0, .bool false]) := by
  have hmk := mk33
  have hcv := conv33 w
  have hse := str_ne3 hz
  unfold W5 z12 at hcv
  have hs2 : (⟨bs⟩ : ByteArray).size = 33 := hs
  have hix := ixS bs hs m hm
  have e2 : (m != 2) = true := by simpa using hm2
  have e3 : (m != 3) = true := by simpa using hm3
  rw [← zero_rv]
  go_enter Try.func31, Try.ntmps31
  go_wp2
  refine bodyPost_ret (v := .tuple #[.agg z12, .bool false]) (RG.results_rt (W5_st w) 2 3 56 rfl 0 _ rfl rfl _ rfl u56 i56) rfl ?_
  exact ⟨_, rfl, (W5_st w).bel.below, rfl⟩
end Go.Proofs.Ytdeidgbknlmhjab
