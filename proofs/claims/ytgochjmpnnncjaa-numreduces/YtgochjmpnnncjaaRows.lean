/-
  No cell of these rows narrows 'for every input' (looked for: loops, veiled, ifaces, maps, wideKeys, modest, calm, conditions, laid).
  DERIVED. THE GIVEN ROWS OF THIS SEAT. 6 by the template 'for every input the law returns true; each argument reads behind the call as it read before'; 0 by the template 'total and deterministic' (their statements: YtgochjmpnnncjaaTotals.lean).
  GIVEN WITH THE SEED: the statements are not yours to turn. If you find one false, say at which input.
  Laid BY PROGRAM, IN A SANDBOX (cutbox-rows.mjs): the forced cells as the released guide's own fill.sh prints them over the translation 4a5ec22a0cfbaa95… (all of the seat's roots in one cut). By AI agents, Wed Nov 11 2026. No macro, syntax, notation, axiom, sorry.
-/
import Derived.Test.YtgochjmpnnncjaaChecked
import GoSem.Claim
import GoSem.ClaimJoined
import GoSem.ClaimMapViews
import Derived.JoinedTies
import Derived.KernelRfl
namespace Go.Proofs.Ytgochjmpnnncjaa
/- THE CELL 'sum', in the pinned program and in every row, IS THE sha256 OF THE DUMP (.gsa) THAT YtgochjmpnnncjaaProg.lean LOADS. Nothing in Lean hashes anything: it is a label: what it is worth is what the hold of that sum in a sandbox is worth. -/
noncomputable def Try.pinned : Pinned := { name := "ytgochjmpnnncjaa", sum := "4a5ec22a0cfbaa956088eaaec8824f1a06d6deb174e26443042be258701a6815", checked := Try.checked }
namespace Rows
def none {H : Type} : Left H := { results := [], args := [] }

/-- 'mintvaultlaw1.SpongeTurns': WHATEVER THE INPUT: true; the input reads as it did. -/
def spongeTurnsSpec : ChangeSpec := { name := "spongeTurns", fn := fun _ => fun
  | [d] => { results := [.lit (.bool true)], args := [d] }
  | _ => none }
def spongeTurnsRow : OpenClaim := { program := "ytgochjmpnnncjaa", sum := "4a5ec22a0cfbaa956088eaaec8824f1a06d6deb174e26443042be258701a6815", func := "mintvault/mintvaultlaw1.SpongeTurns", spec := "spongeTurns", apart := false }
def SpongeTurnsSaid : Prop := spongeTurnsRow.holds Try.pinned (OpenSpec.ofChange spongeTurnsSpec)

/-- ITS FALSE NEIGHBOUR: 'it returns false'. Refute it at one input. -/
def spongeTurnsWrong : ChangeSpec := { name := "spongeTurns", fn := fun _ => fun
  | [d] => { results := [.lit (.bool false)], args := [d] }
  | _ => none }
def SpongeTurnsWrongFalsely : Prop := spongeTurnsRow.holds Try.pinned (OpenSpec.ofChange spongeTurnsWrong)

/-- 'mintvaultlaw1.SpongeHashes': WHATEVER THE INPUT: true; the input reads as it did. -/
def spongeHashesSpec : ChangeSpec := { name := "spongeHashes", fn := fun _ => fun
  | [d1, d2] => { results := [.lit (.bool true)], args := [d1, d2] }
  | _ => none }
def spongeHashesRow : OpenClaim := { program := "ytgochjmpnnncjaa", sum := "4a5ec22a0cfbaa956088eaaec8824f1a06d6deb174e26443042be258701a6815", func := "mintvault/mintvaultlaw1.SpongeHashes", spec := "spongeHashes", apart := false }
def SpongeHashesSaid : Prop := spongeHashesRow.holds Try.pinned (OpenSpec.ofChange spongeHashesSpec)

/-- ITS FALSE NEIGHBOUR: 'it returns false'. Refute it at one input. -/
def spongeHashesWrong : ChangeSpec := { name := "spongeHashes", fn := fun _ => fun
  | [d1, d2] => { results := [.lit (.bool false)], args := [d1, d2] }
  | _ => none }
def SpongeHashesWrongFalsely : Prop := spongeHashesRow.holds Try.pinned (OpenSpec.ofChange spongeHashesWrong)

/-- 'mintvaultlaw1.SpongeTags': WHATEVER THE INPUT: true; the input reads as it did. -/
def spongeTagsSpec : ChangeSpec := { name := "spongeTags", fn := fun _ => fun
  | [d1, d2] => { results := [.lit (.bool true)], args := [d1, d2] }
  | _ => none }
def spongeTagsRow : OpenClaim := { program := "ytgochjmpnnncjaa", sum := "4a5ec22a0cfbaa956088eaaec8824f1a06d6deb174e26443042be258701a6815", func := "mintvault/mintvaultlaw1.SpongeTags", spec := "spongeTags", apart := false }
def SpongeTagsSaid : Prop := spongeTagsRow.holds Try.pinned (OpenSpec.ofChange spongeTagsSpec)

/-- ITS FALSE NEIGHBOUR: 'it returns false'. Refute it at one input. -/
def spongeTagsWrong : ChangeSpec := { name := "spongeTags", fn := fun _ => fun
  | [d1, d2] => { results := [.lit (.bool false)], args := [d1, d2] }
  | _ => none }
def SpongeTagsWrongFalsely : Prop := spongeTagsRow.holds Try.pinned (OpenSpec.ofChange spongeTagsWrong)

/-- 'mintvaultlaw1.SpongeLogs': WHATEVER THE INPUT: true; the input reads as it did. -/
def spongeLogsSpec : ChangeSpec := { name := "spongeLogs", fn := fun _ => fun
  | [d1, d2] => { results := [.lit (.bool true)], args := [d1, d2] }
  | _ => none }
def spongeLogsRow : OpenClaim := { program := "ytgochjmpnnncjaa", sum := "4a5ec22a0cfbaa956088eaaec8824f1a06d6deb174e26443042be258701a6815", func := "mintvault/mintvaultlaw1.SpongeLogs", spec := "spongeLogs", apart := false }
def SpongeLogsSaid : Prop := spongeLogsRow.holds Try.pinned (OpenSpec.ofChange spongeLogsSpec)

/-- ITS FALSE NEIGHBOUR: 'it returns false'. Refute it at one input. -/
def spongeLogsWrong : ChangeSpec := { name := "spongeLogs", fn := fun _ => fun
  | [d1, d2] => { results := [.lit (.bool false)], args := [d1, d2] }
  | _ => none }
def SpongeLogsWrongFalsely : Prop := spongeLogsRow.holds Try.pinned (OpenSpec.ofChange spongeLogsWrong)

/-- 'mintvaultlaw1.SpongeBegins': WHATEVER THE INPUT: true; the input reads as it did. -/
def spongeBeginsSpec : ChangeSpec := { name := "spongeBegins", fn := fun _ => fun
  | [d1, d2, d3, d4, d5] => { results := [.lit (.bool true)], args := [d1, d2, d3, d4, d5] }
  | _ => none }
def spongeBeginsRow : OpenClaim := { program := "ytgochjmpnnncjaa", sum := "4a5ec22a0cfbaa956088eaaec8824f1a06d6deb174e26443042be258701a6815", func := "mintvault/mintvaultlaw1.SpongeBegins", spec := "spongeBegins", apart := false }
def SpongeBeginsSaid : Prop := spongeBeginsRow.holds Try.pinned (OpenSpec.ofChange spongeBeginsSpec)

/-- ITS FALSE NEIGHBOUR: 'it returns false'. Refute it at one input. -/
def spongeBeginsWrong : ChangeSpec := { name := "spongeBegins", fn := fun _ => fun
  | [d1, d2, d3, d4, d5] => { results := [.lit (.bool false)], args := [d1, d2, d3, d4, d5] }
  | _ => none }
def SpongeBeginsWrongFalsely : Prop := spongeBeginsRow.holds Try.pinned (OpenSpec.ofChange spongeBeginsWrong)

/-- 'mintvaultlaw2.NumReduces': WHATEVER THE INPUT: true; the input reads as it did. -/
def numReducesSpec : ChangeSpec := { name := "numReduces", fn := fun _ => fun
  | [d1, d2] => { results := [.lit (.bool true)], args := [d1, d2] }
  | _ => none }
def numReducesRow : OpenClaim := { program := "ytgochjmpnnncjaa", sum := "4a5ec22a0cfbaa956088eaaec8824f1a06d6deb174e26443042be258701a6815", func := "mintvault/mintvaultlaw2.NumReduces", spec := "numReduces", inPlace := ["math/bits.Sub64", "math/bits.Add64"], apart := false }
def NumReducesSaid : Prop := numReducesRow.holds Try.pinned (OpenSpec.ofChange numReducesSpec)

/-- ITS FALSE NEIGHBOUR: 'it returns false'. Refute it at one input. -/
def numReducesWrong : ChangeSpec := { name := "numReduces", fn := fun _ => fun
  | [d1, d2] => { results := [.lit (.bool false)], args := [d1, d2] }
  | _ => none }
def NumReducesWrongFalsely : Prop := numReducesRow.holds Try.pinned (OpenSpec.ofChange numReducesWrong)

/- THE SECOND FORM. 'bulk': how many values and letters a reading holds, each counted each time it is reached (what is shared counts as often as it is met; a slice's spare places count too). A statement '..UptoSaid' is the law's where the arguments, and the package variables that the reading takes, are together of bulk at most 1048576: NARROWER than '..Said'. Prove '..Said' where nothing that the law and all that it calls make is longer than what came in: it says more and counts as full. Else prove '..UptoSaid'. A law counts once. -/
mutual
def uptoBulk {H : Type} : DataW H → Nat
  | .lit (.string bytes) => bytes.length + 1
  | .lit _ => 1
  | .nil => 1
  | .ptr d => uptoBulk d + 1
  | .slice elems spare => uptoBulkAll elems + uptoBulkAll spare + 1
  | .agg parts => uptoBulkAll parts + 1
  | .iface _ d => uptoBulk d + 1
  | .map entries => uptoBulkEntries entries + 1
  | .held _ => 1
def uptoBulkAll {H : Type} : List (DataW H) → Nat
  | [] => 0
  | d :: r => uptoBulk d + uptoBulkAll r
def uptoBulkEntries {H : Type} : List (Lit × DataW H) → Nat
  | [] => 0
  | x :: r => uptoBulkEntry x + uptoBulkEntries r
def uptoBulkEntry {H : Type} : Lit × DataW H → Nat
  | (.string bytes, d) => bytes.length + uptoBulk d + 1
  | (_, d) => uptoBulk d + 1
 end
def uptoSmall : (H : Type) → List (DataW H) → Bool := fun _ ds => decide (uptoBulkAll ds ≤ 1048576)
def OpenSpec.upto (s : _root_.Go.ChangeSpec) : _root_.Go.OpenSpec := { _root_.Go.OpenSpec.ofChange s with cond := some uptoSmall }

/-- 'mintvaultlaw1.SpongeTurns', WHERE WHAT IT READS IS OF BULK AT MOST 1048576: true; the input reads as it did. -/
def spongeTurnsUptoRow : OpenClaim := { program := "ytgochjmpnnncjaa", sum := "4a5ec22a0cfbaa956088eaaec8824f1a06d6deb174e26443042be258701a6815", func := "mintvault/mintvaultlaw1.SpongeTurns", spec := "spongeTurns", apart := false, narrowed := true }
def SpongeTurnsUptoSaid : Prop := spongeTurnsUptoRow.holds Try.pinned (OpenSpec.upto spongeTurnsSpec)

/-- 'mintvaultlaw1.SpongeHashes', WHERE WHAT IT READS IS OF BULK AT MOST 1048576: true; the input reads as it did. -/
def spongeHashesUptoRow : OpenClaim := { program := "ytgochjmpnnncjaa", sum := "4a5ec22a0cfbaa956088eaaec8824f1a06d6deb174e26443042be258701a6815", func := "mintvault/mintvaultlaw1.SpongeHashes", spec := "spongeHashes", apart := false, narrowed := true }
def SpongeHashesUptoSaid : Prop := spongeHashesUptoRow.holds Try.pinned (OpenSpec.upto spongeHashesSpec)

/-- 'mintvaultlaw1.SpongeTags', WHERE WHAT IT READS IS OF BULK AT MOST 1048576: true; the input reads as it did. -/
def spongeTagsUptoRow : OpenClaim := { program := "ytgochjmpnnncjaa", sum := "4a5ec22a0cfbaa956088eaaec8824f1a06d6deb174e26443042be258701a6815", func := "mintvault/mintvaultlaw1.SpongeTags", spec := "spongeTags", apart := false, narrowed := true }
def SpongeTagsUptoSaid : Prop := spongeTagsUptoRow.holds Try.pinned (OpenSpec.upto spongeTagsSpec)

/-- 'mintvaultlaw1.SpongeLogs', WHERE WHAT IT READS IS OF BULK AT MOST 1048576: true; the input reads as it did. -/
def spongeLogsUptoRow : OpenClaim := { program := "ytgochjmpnnncjaa", sum := "4a5ec22a0cfbaa956088eaaec8824f1a06d6deb174e26443042be258701a6815", func := "mintvault/mintvaultlaw1.SpongeLogs", spec := "spongeLogs", apart := false, narrowed := true }
def SpongeLogsUptoSaid : Prop := spongeLogsUptoRow.holds Try.pinned (OpenSpec.upto spongeLogsSpec)

/-- 'mintvaultlaw1.SpongeBegins', WHERE WHAT IT READS IS OF BULK AT MOST 1048576: true; the input reads as it did. -/
def spongeBeginsUptoRow : OpenClaim := { program := "ytgochjmpnnncjaa", sum := "4a5ec22a0cfbaa956088eaaec8824f1a06d6deb174e26443042be258701a6815", func := "mintvault/mintvaultlaw1.SpongeBegins", spec := "spongeBegins", apart := false, narrowed := true }
def SpongeBeginsUptoSaid : Prop := spongeBeginsUptoRow.holds Try.pinned (OpenSpec.upto spongeBeginsSpec)

/-- 'mintvaultlaw2.NumReduces', WHERE WHAT IT READS IS OF BULK AT MOST 1048576: true; the input reads as it did. -/
def numReducesUptoRow : OpenClaim := { program := "ytgochjmpnnncjaa", sum := "4a5ec22a0cfbaa956088eaaec8824f1a06d6deb174e26443042be258701a6815", func := "mintvault/mintvaultlaw2.NumReduces", spec := "numReduces", inPlace := ["math/bits.Sub64", "math/bits.Add64"], apart := false, narrowed := true }
def NumReducesUptoSaid : Prop := numReducesUptoRow.holds Try.pinned (OpenSpec.upto numReducesSpec)

end Rows
end Go.Proofs.Ytgochjmpnnncjaa
