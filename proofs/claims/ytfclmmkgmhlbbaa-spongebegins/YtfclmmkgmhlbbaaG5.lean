import Derived.Test.YtfclmmkgmhlbbaaG4
namespace Go.Proofs.Ytfclmmkgmhlbbaa
open Go.RowKit Go.Sort Go.Deep
set_option maxRecDepth 100000 in
theorem hash_none : (hashL [])[0]! = 167 ∧ (hashL [])[1]! = 255 := by decide +kernel

theorem hash_none0 {w : World} {r : Nat} (h : Holds encB w r 0 (hashL [])) : w.cell? ⟨r, 0, none⟩ = some (.int .u8 167) ∧ w.cell? ⟨r, 1, none⟩ = some (.int .u8 255) := by
  have h0 := (h 0 (by rw [hashL_size]; omega)).1
  have h1 := (h 1 (by rw [hashL_size]; omega)).1
  rw [hash_none.1] at h0
  rw [hash_none.2] at h1
  exact ⟨h0, h1⟩

/-- What is streamed to fewer bytes is the beginning of what is streamed to more. -/
theorem strm_front (l : List UInt8) (n m : Nat) (h : n ≤ m) (j : Nat) (hj : j < n) : (strmL l n)[j]! = (strmL l m)[j]! := by
  unfold strmL
  rw [streamL_at _ _ _ hj, streamL_at _ _ _ (by omega)]
theorem strm_holds {w : World} {r : Nat} {l : List UInt8} {n m : Nat} (h : n ≤ m) (H : Holds encB w r 0 (strmL l m)) : Holds encB w r 0 (strmL l n) :=
  Holds.prefix H (by rw [strmL_size, strmL_size]; exact h) (fun j hj => strm_front l n m h j (by rw [strmL_size] at hj; exact hj))
end Go.Proofs.Ytfclmmkgmhlbbaa
