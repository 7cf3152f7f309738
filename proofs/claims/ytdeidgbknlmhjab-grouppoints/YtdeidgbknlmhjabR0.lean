import Derived.Test.YtdeidgbknlmhjabG1
namespace Go.Proofs.Ytdeidgbknlmhjab
open Go.RowKit Go.Sort

/-- A prime as the reference has it: itself, and what is missing to 2^256. -/
structure RefP (p0 p1 p2 p3 c0 c1 c2 c3 P : Nat) : Prop where
  hp0 : p0 < 18446744073709551616
  hp1 : p1 < 18446744073709551616
  hp2 : p2 < 18446744073709551616
  hp3 : p3 < 18446744073709551616
  hc0 : c0 < 18446744073709551616
  hc1 : c1 < 18446744073709551616
  hc2 : c2 < 18446744073709551616
  hc3 : c3 < 18446744073709551616
  eP : P = val p0 p1 p2 p3
  hP : P + val c0 c1 c2 c3 = top
  hP2 : top < 2 * P

theorem refP0 : RefP 18446744069414583343 18446744073709551615 18446744073709551615 18446744073709551615 4294968273 0 0 0 Go.Proofs.Ytdeidgbknlmhjab.p0 :=
  ⟨by decide, by decide, by decide, by decide, by decide, by decide, by decide, by decide, by decide +kernel, by decide +kernel, by decide +kernel⟩
theorem refP1 : RefP 13822214165235122497 13451932020343611451 18446744073709551614 18446744073709551615 4624529908474429119 4994812053365940164 1 0 Go.Proofs.Ytdeidgbknlmhjab.p1 :=
  ⟨by decide, by decide, by decide, by decide, by decide, by decide, by decide, by decide, by decide +kernel, by decide +kernel, by decide +kernel⟩


theorem low0 : 2 ≤ Go.Proofs.Ytdeidgbknlmhjab.p0 % 18446744073709551616 := by decide +kernel
theorem low1 : 2 ≤ Go.Proofs.Ytdeidgbknlmhjab.p1 % 18446744073709551616 := by decide +kernel
end Go.Proofs.Ytdeidgbknlmhjab
