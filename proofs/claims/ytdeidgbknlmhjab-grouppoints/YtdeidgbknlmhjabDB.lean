import Derived.Test.YtdeidgbknlmhjabDA
namespace Go.Proofs.Ytdeidgbknlmhjab
open Go.RowKit Go.Sort
variable {P : Nat} [NeZero P]
/-- A point's bytes. -/
def wr : EC.Pt P → Bs
  | none => zs33
  | some (x, y) => #[mark y.val] ++ bx x.val
theorem by33_wr (C : Fld P) {x y : Fin P} {p : EC.Pt P} (h : EC.Pair x y p) (ho : EC.On p) : by33 x y = wr p := by
  unfold by33
  match p, h, ho with
  | none, h, _ => rw [if_pos (show x = 0 ∧ y = 0 from h)]; rfl
  | some (a, b), h, ho =>
    obtain ⟨rfl, rfl⟩ := h
    rw [if_neg (fun e => C.cur.y_ne ho e.2)]
    rfl
theorem rWritten_c (C : Fl3 P) {t : T3 P} {p : EC.Pt P} (h : FracT t p) : Gives 38 #[tv t] (.string ⟨wr p⟩) := by
  obtain ⟨x, y, z⟩ := t
  match p, h with
  | none, h => exact rWr_z C x y z h.1
  | some (a, b), h =>
    obtain ⟨⟨hz, hx, hy⟩, ho⟩ := h
    have hi := EC.inv_mul C.toFld.cur.pr hz
    have e1 : x * EC.inv z = a := by
      have hx : x = a * z := hx
      rw [hx]
      grobner
    have e2 : y * EC.inv z = b := by
      have hy : y = b * z := hy
      rw [hy]
      grobner
    show Gives _ #[rv x y z] (.string ⟨#[mark b.val] ++ bx a.val⟩)
    rw [← e1, ← e2]
    unfold mark
    by_cases hp : (y * EC.inv z).val % 2 = 1
    · rw [if_pos hp]
      exact rWr_1_c C x y z hz hp
    · rw [if_neg hp]
      exact rWr_0_c C x y z hz (by omega)
end Go.Proofs.Ytdeidgbknlmhjab
