import Derived.Test.YtfclmmkgmhlbbaaRows
import Derived.Test.YtfclmmkgmhlbbaaN
import Derived.Deep.LoopGhost
import Derived.Deep.QuietTactic
import Derived.StillTailTactics
import Derived.BigRegion
import Derived.BigQuiet
import Derived.WalkKit
import Derived.WalkSpells
import Derived.WalkLawsBesides
namespace Go.Proofs.Ytfclmmkgmhlbbaa
open Go.RowKit Go.Sort

theorem mixed : Try.prog.follows .mixedOrders = true := by kernel_rfl

theorem at_word {w : World} {b off : Nat} {d : St} (h : Holds enc w b off d) (i : Nat) (hi : i < d.size) {x : BitVec 64} (hx : d[i]! = x) :
    w.cell? ⟨b, off + i, none⟩ = some (.int .u64 (u x)) ∧ w.frozen? ⟨b, off + i, none⟩ = false := by
  rw [← hx]; exact h i hi

theorem ret_int {k : IntKind} {a b : Int} (h : a = b) : Ending.returned (.int k a) = .returned (.int k b) := by rw [h]

set_option maxHeartbeats 400000 in
theorem rotl_any (x : BitVec 64) (k : Nat) (w : World) (hk : k < 64) :
    Calls Try.prog 47 #[.int .u64 (u x), .int .i64 (k : Int)] w fun e w' => e = .returned (.int .u64 (u (rol x k))) ∧ w' = w := by
  have h63 := and63 k hk
  have h1 : (0 : Int) ≤ 64 - (k : Int) := by omega
  go_enter Try.func47, Try.ntmps47
  go_wp2
  go_ret
  refine ⟨ret_int ?_, rfl⟩
  rw [shl64, shr64, bits_or64]
  rfl
end Go.Proofs.Ytfclmmkgmhlbbaa
