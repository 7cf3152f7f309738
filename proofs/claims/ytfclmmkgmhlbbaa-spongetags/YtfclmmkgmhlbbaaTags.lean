/-
  THE ROW OF 'SpongeTags' round its walk: a string and a slice of strings; the reach pays the sum.
-/
import Derived.Test.YtfclmmkgmhlbbaaT3
import Derived.ChangeOld
import Derived.Below
import Derived.WalkKit
import Derived.ProofKit
import Derived.OpenShut
import Derived.ShutString
import Derived.SliceStrings
import Derived.SizedLaws
namespace Go.Proofs.Ytfclmmkgmhlbbaa.spongeTags
open Go.ChangeShapes Go.WideShapes Go.ChangeAt Go.RowKit
open Go.ChangeMaps (open_string shut_string)

theorem own : ownKnob Try.prog.godebug = none := by kernel_rfl
theorem laidOut : laidOutB Try.prog = true := by kernel_rfl
theorem cells9 : Try.prog.cellsOf 9 = 1 := by kernel_rfl
theorem bytes9 : Try.prog.bytesOf 9 = 16 := by kernel_rfl

theorem strs_weigh {H : Type} {P : Program} {e : TypeId} {x : ByteArray} : ∀ {ss : List ByteArray}, x ∈ ss → x.size ∈ DataW.weightsAll (H := H) P e (strs ss)
  | s :: r, h => by
    show x.size ∈ DataW.weights P e (.lit (.string s.data.toList)) ++ DataW.weightsAll P e (strs r)
    rw [List.mem_append]
    rcases List.mem_cons.1 h with rfl | h
    · left
      simp [DataW.weights]
    · exact Or.inr (strs_weigh h)

theorem sized_strs {H : Type} {P : Program} {ts : List TypeId} {ds : List (DataW H)} (h : (DataW.weightsEach P ts ds).all (· ≤ reachBytes) = true) {j : Nat} {t e : TypeId} {a b : List ByteArray} (ht : ts[j]? = some t) (hd : ds[j]? = some (.slice (strs a) (strs b))) (hu : P.underlying t = some (.slice e))
    (x : ByteArray) (hx : x ∈ a) : x.size ≤ reachBytes := by
  have := List.all_eq_true.1 h _ (DataW.weights_mem_each ht hd x.size (by
    simp only [DataW.weights, hu]
    exact List.mem_cons_of_mem _ (List.mem_append_left _ (strs_weigh hx))))
  simpa using this

set_option maxRecDepth 100000 in
theorem lifted (os : Os) (started : os.Started) (H : Type) (enc : TypeId × Value → H) :
    ReturnsInHanded {} Try.checked os 5 .any (Rows.spongeTagsSpec.pre6 enc Try.prog Try.f5 Rows.spongeTagsRow.domain false) (Rows.spongeTagsSpec.post enc Try.prog Try.f5 false true false false) := by
  refine returnsInHanded_of_change_sized (C := Try.checked) own started (by kernel_rfl) Try.func5
    (ChangeSpec.witness6 (enc := enc) (C := Try.checked) false ⟨#[], #[.string ByteArray.empty, .slice none 0 0], []⟩ 8 (by kernel_rfl) (by kernel_rfl) (by kernel_rfl) (by kernel_rfl)) ?_
  intro W base args ds gs before hval0 hW _ hsz0 _
  have hsz : (DataW.weightsEach Try.prog (Try.f5.params.toList ++ Rows.spongeTagsSpec.plain.varTypes Try.prog) (ds ++ gs)).all (· ≤ reachBytes) = true := hsz0
  clear hsz0
  have hval : ∀ (j : Nat) t v, Try.f5.params[j]? = some t → args[j]? = some v → Value.okWide Try.prog W .any base t v := hval0
  have hW' := hW
  obtain ⟨p, q, hA0, hV, rfl, hfz, hnd⟩ := hW
  have hA : DataW.TrodAll enc Try.prog W 0 (fun _ => true) true Try.f5.params.toList args.toList ds p := hA0
  rw [Try.params5] at hA hval hsz
  obtain ⟨v0, vs0, d0, ds0, p0, q0, hargs, rfl, rfl, h0, r0⟩ := trodAll_cons hA
  obtain ⟨v1, vs1, d1, ds1, p1, q1, rfl, rfl, rfl, h1, r1⟩ := trodAll_cons r0
  obtain ⟨rfl, rfl, rfl⟩ := trodAll_nil r1
  obtain rfl : args = #[v0, v1] := by cases args; simp_all
  obtain ⟨rfl, rfl⟩ := trodVars_none hV
  obtain ⟨a0, rfl, rfl, rfl, w0⟩ := open_string Try.underlying9 (hval 0 9 v0 rfl rfl) h0
  obtain ⟨a1, len1, cap1, rfl⟩ := okWide_slice Try.underlying34 (hval 1 34 v1 rfl rfl)
  have k1 := h1
  have lt1 : ∀ x ∈ p1, x.block < W.heap.size := by obtain ⟨m, hm⟩ := k1; exact DataW.trod_lt m _ _ _ hm
  have hl0 : a0.size ≤ 140737488355328 := by
    have := sized_string hsz (j := 0) (t := 9) (bytes := a0.data.toList) rfl rfl
    have e : a0.data.toList.length = a0.size := Array.length_toList
    rw [e] at this
    unfold reachBytes at this
    omega
  have walk : Calls Try.prog 5 #[.string a0, .slice a1 len1 cap1] W fun e w' => e = .returned (.bool true) ∧ Below W.heap.size W w' := by
    obtain ⟨fuel, hf⟩ := h1
    rcases open_strings Try.underlying34 Try.underlying9 cells9 hf with ⟨hcs, hx⟩ | ⟨a, l, c, ss, hcs, _, hl, hm, hz, hx, hcell, hws⟩
    · simp [Value.cells] at hcs
      obtain ⟨rfl, rfl, rfl⟩ := hcs
      exact tags_few a0 none 0 0 [] W rfl (by omega) (Or.inl rfl) hl0 (fun j hj => by omega)
    · simp [Value.cells] at hcs
      obtain ⟨rfl, rfl, rfl⟩ := hcs
      simp only [Prod.mk.injEq] at hx
      obtain ⟨rfl, rfl⟩ := hx
      simp only [if_true] at hz
      have hn : (ss.take len1).length = len1 := by rw [List.length_take]; omega
      have hat : ∀ j, j < len1 → (ss.take len1)[j]! = ss.getD j ByteArray.empty := fun j hj => by
        rw [getElem!_pos (ss.take len1) j (by omega), List.getElem_take, List.getD_eq_getElem?_getD, List.getElem?_eq_getElem (by omega)]
        rfl
      have hreach : len1 * 16 ≤ 140737488355328 := by
        have := sized_slice hsz (j := 1) (t := 34) (e := 9) rfl rfl Try.underlying34
        rw [bytes9] at this
        simp only [strs, List.length_map, List.length_take, List.length_drop, reachBytes] at this
        omega
      have hs : ∀ j, j < len1 → ((ss.take len1)[j]!).size ≤ 140737488355328 := fun j hj => by
        have := sized_strs hsz (j := 1) (t := 34) (e := 9) (a := ss.take len1) (b := ss.drop len1) rfl rfl Try.underlying34 (ss.take len1)[j]! (by rw [getElem!_pos (ss.take len1) j (by omega)]; exact List.getElem_mem _)
        unfold reachBytes at this
        omega
      by_cases h00 : len1 = 0
      · subst h00
        exact tags_few a0 _ 0 _ (ss.take 0) W hn (by omega) (Or.inl rfl) hl0 hs
      · obtain ⟨b, off, spot⟩ := a
        have hspot : spot = none := by simpa [Addr.add] using World.cell?_spot (hcell 0 (by omega))
        subst hspot
        have hP : ∀ j, j < len1 → W.cell? ⟨b, off + j, none⟩ = some (.string (ss.take len1)[j]!) := fun j hj => by
          rw [hat j hj, ← hcell j (by omega)]
          congr 1
          unfold Addr.add
          by_cases hj0 : j = 0
          · subst hj0; rfl
          · rw [if_neg hj0]
        by_cases h64 : len1 ≤ 64
        · exact tags_few a0 _ len1 _ (ss.take len1) W hn h64 (Or.inr ⟨b, off, rfl, hP⟩) hl0 hs
        · exact tags_many a0 b off len1 _ (ss.take len1) W (by omega) (by omega) hP hs
  clear hA0 hval0
  refine walk.mono fun e W' ⟨he, bel⟩ => ?_
  subst he
  exact ⟨_, rfl, _, _, _, [], _, [], hW', trodAll_mk1 (shut_bool Try.underlying4 _), (trodAll_cons_mk (shut_string Try.underlying9 w0) (trodAll_cons_mk (Below.trod laidOut (by kernel_rfl) (of_decide_eq_true (by kernel_rfl)) k1 bel lt1) trodAll_mk0)), rfl, bel.frame _, fun h => by cases h⟩

theorem over : Rows.spongeTagsRow.holds Try.pinned (OpenSpec.ofChange Rows.spongeTagsSpec) :=
  OpenClaim.holds_of_wide 5 Try.f5 rfl rfl rfl rfl rfl rfl rfl ⟨rfl, rfl, rfl, rfl, rfl⟩ rfl rfl rfl rfl rfl (by kernel_rfl) Try.func5 (by kernel_rfl)
    (of_decide_eq_true (by kernel_rfl)) (by unfold Func.isWrapper; first | (rw [if_pos (by decide +kernel)]; kernel_rfl) | (rw [if_neg (by decide +kernel)]; exact ⟨rfl, rfl⟩))
    (fun os started H enc _ => lifted os started H enc)

theorem proved : Rows.SpongeTagsSaid :=
  over
end Go.Proofs.Ytfclmmkgmhlbbaa.spongeTags

namespace Go.Proofs.Ytfclmmkgmhlbbaa
/-- THE STATEMENT. -/
theorem spongeTags_holds : Rows.SpongeTagsSaid := spongeTags.proved
#print axioms spongeTags_holds
end Go.Proofs.Ytfclmmkgmhlbbaa
