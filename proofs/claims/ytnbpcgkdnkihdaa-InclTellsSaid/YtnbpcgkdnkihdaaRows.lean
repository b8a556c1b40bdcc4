/-
  No cell of these rows narrows 'for every input' (looked for: loops, veiled, ifaces, maps, wideKeys, modest, calm, conditions, laid).
  DERIVED. THE GIVEN ROWS OF THIS SEAT. 6 by the template 'for every input the law returns true; each argument reads behind the call as it read before'; 0 by the template 'total and deterministic' (their statements: YtnbpcgkdnkihdaaTotals.lean).
  GIVEN WITH THE SEED: the statements are not yours to turn. If you find one false, say at which input.
  Laid BY PROGRAM, IN A SANDBOX (cutbox-rows.mjs): the forced cells as the released guide's own fill.sh prints them over the translation 252fbb79a4f8bf3f… (all of the seat's roots in one cut). By AI agents, Wed Nov 11 2026. No macro, syntax, notation, axiom, sorry.
-/
import Derived.Test.YtnbpcgkdnkihdaaChecked
import GoSem.Claim
import GoSem.ClaimJoined
import GoSem.ClaimMapViews
import Derived.JoinedTies
import Derived.KernelRfl
namespace Go.Proofs.Ytnbpcgkdnkihdaa
/- THE CELL 'sum', in the pinned program and in every row, IS THE sha256 OF THE DUMP (.gsa) THAT YtnbpcgkdnkihdaaProg.lean LOADS. Nothing in Lean hashes anything: it is a label: what it is worth is what the hold of that sum in a sandbox is worth. -/
noncomputable def Try.pinned : Pinned := { name := "ytnbpcgkdnkihdaa", sum := "252fbb79a4f8bf3f976d221779a0c59297c0af44a43f12a666623f2dd69c86a9", checked := Try.checked }
namespace Rows
def none {H : Type} : Left H := { results := [], args := [] }

/-- 'rallentandolaw06.InclNames': WHATEVER THE INPUT: true; the input reads as it did. -/
def inclNamesSpec : ChangeSpec := { name := "inclNames", fn := fun _ => fun
  | [] => { results := [.lit (.bool true)], args := [] }
  | _ => none }
def inclNamesRow : OpenClaim := { program := "ytnbpcgkdnkihdaa", sum := "252fbb79a4f8bf3f976d221779a0c59297c0af44a43f12a666623f2dd69c86a9", func := "rallentando/rallentandolaw06.InclNames", spec := "inclNames", inPlace := ["math/bits.Add64"], unfollowed := true, recurses := true, named := ["math/bits.divideError", "math/bits.overflowError"], apart := false }
def InclNamesSaid : Prop := inclNamesRow.holds Try.pinned (OpenSpec.ofChange inclNamesSpec)

/-- ITS FALSE NEIGHBOUR: 'it returns false'. Refute it at one input. -/
def inclNamesWrong : ChangeSpec := { name := "inclNames", fn := fun _ => fun
  | [] => { results := [.lit (.bool false)], args := [] }
  | _ => none }
def InclNamesWrongFalsely : Prop := inclNamesRow.holds Try.pinned (OpenSpec.ofChange inclNamesWrong)

/-- 'rallentandolaw06.InclTells': WHATEVER THE INPUT: true; the input reads as it did. -/
def inclTellsSpec : ChangeSpec := { name := "inclTells", fn := fun _ => fun
  | [d1, d2] => { results := [.lit (.bool true)], args := [d1, d2] }
  | _ => none }
def inclTellsRow : OpenClaim := { program := "ytnbpcgkdnkihdaa", sum := "252fbb79a4f8bf3f976d221779a0c59297c0af44a43f12a666623f2dd69c86a9", func := "rallentando/rallentandolaw06.InclTells", spec := "inclTells", inPlace := ["math/bits.Add64"], unfollowed := true, recurses := true, named := ["math/bits.divideError", "math/bits.overflowError"], apart := false }
def InclTellsSaid : Prop := inclTellsRow.holds Try.pinned (OpenSpec.ofChange inclTellsSpec)

/-- ITS FALSE NEIGHBOUR: 'it returns false'. Refute it at one input. -/
def inclTellsWrong : ChangeSpec := { name := "inclTells", fn := fun _ => fun
  | [d1, d2] => { results := [.lit (.bool false)], args := [d1, d2] }
  | _ => none }
def InclTellsWrongFalsely : Prop := inclTellsRow.holds Try.pinned (OpenSpec.ofChange inclTellsWrong)

/-- 'rallentandolaw06.InclPicks': WHATEVER THE INPUT: true; the input reads as it did. -/
def inclPicksSpec : ChangeSpec := { name := "inclPicks", fn := fun _ => fun
  | [d] => { results := [.lit (.bool true)], args := [d] }
  | _ => none }
def inclPicksRow : OpenClaim := { program := "ytnbpcgkdnkihdaa", sum := "252fbb79a4f8bf3f976d221779a0c59297c0af44a43f12a666623f2dd69c86a9", func := "rallentando/rallentandolaw06.InclPicks", spec := "inclPicks", inPlace := ["math/bits.Add64", "math/bits.Sub64"], unfollowed := true, recurses := true, named := ["math/bits.divideError", "math/bits.overflowError"], apart := false }
def InclPicksSaid : Prop := inclPicksRow.holds Try.pinned (OpenSpec.ofChange inclPicksSpec)

/-- ITS FALSE NEIGHBOUR: 'it returns false'. Refute it at one input. -/
def inclPicksWrong : ChangeSpec := { name := "inclPicks", fn := fun _ => fun
  | [d] => { results := [.lit (.bool false)], args := [d] }
  | _ => none }
def InclPicksWrongFalsely : Prop := inclPicksRow.holds Try.pinned (OpenSpec.ofChange inclPicksWrong)

/-- 'rallentandolaw06.InclKept': WHATEVER THE INPUT: true; the input reads as it did. -/
def inclKeptSpec : ChangeSpec := { name := "inclKept", fn := fun _ => fun
  | [d1, d2, d3] => { results := [.lit (.bool true)], args := [d1, d2, d3] }
  | _ => none }
def inclKeptRow : OpenClaim := { program := "ytnbpcgkdnkihdaa", sum := "252fbb79a4f8bf3f976d221779a0c59297c0af44a43f12a666623f2dd69c86a9", func := "rallentando/rallentandolaw06.InclKept", spec := "inclKept", inPlace := ["math/bits.Add64", "math/bits.Sub64"], unfollowed := true, recurses := true, named := ["math/bits.divideError", "math/bits.overflowError"], apart := false }
def InclKeptSaid : Prop := inclKeptRow.holds Try.pinned (OpenSpec.ofChange inclKeptSpec)

/-- ITS FALSE NEIGHBOUR: 'it returns false'. Refute it at one input. -/
def inclKeptWrong : ChangeSpec := { name := "inclKept", fn := fun _ => fun
  | [d1, d2, d3] => { results := [.lit (.bool false)], args := [d1, d2, d3] }
  | _ => none }
def InclKeptWrongFalsely : Prop := inclKeptRow.holds Try.pinned (OpenSpec.ofChange inclKeptWrong)

/-- 'rallentandolaw06.InclCommon': WHATEVER THE INPUT: true; the input reads as it did. -/
def inclCommonSpec : ChangeSpec := { name := "inclCommon", fn := fun _ => fun
  | [d1, d2, d3] => { results := [.lit (.bool true)], args := [d1, d2, d3] }
  | _ => none }
def inclCommonRow : OpenClaim := { program := "ytnbpcgkdnkihdaa", sum := "252fbb79a4f8bf3f976d221779a0c59297c0af44a43f12a666623f2dd69c86a9", func := "rallentando/rallentandolaw06.InclCommon", spec := "inclCommon", inPlace := ["math/bits.Add64"], unfollowed := true, recurses := true, named := ["math/bits.divideError", "math/bits.overflowError"], apart := false }
def InclCommonSaid : Prop := inclCommonRow.holds Try.pinned (OpenSpec.ofChange inclCommonSpec)

/-- ITS FALSE NEIGHBOUR: 'it returns false'. Refute it at one input. -/
def inclCommonWrong : ChangeSpec := { name := "inclCommon", fn := fun _ => fun
  | [d1, d2, d3] => { results := [.lit (.bool false)], args := [d1, d2, d3] }
  | _ => none }
def InclCommonWrongFalsely : Prop := inclCommonRow.holds Try.pinned (OpenSpec.ofChange inclCommonWrong)

/-- 'rallentandolaw06.InclChain': WHATEVER THE INPUT: true; the input reads as it did. -/
def inclChainSpec : ChangeSpec := { name := "inclChain", fn := fun _ => fun
  | [d1, d2, d3] => { results := [.lit (.bool true)], args := [d1, d2, d3] }
  | _ => none }
def inclChainRow : OpenClaim := { program := "ytnbpcgkdnkihdaa", sum := "252fbb79a4f8bf3f976d221779a0c59297c0af44a43f12a666623f2dd69c86a9", func := "rallentando/rallentandolaw06.InclChain", spec := "inclChain", inPlace := ["math/bits.Add64"], unfollowed := true, recurses := true, named := ["math/bits.divideError", "math/bits.overflowError"], apart := false }
def InclChainSaid : Prop := inclChainRow.holds Try.pinned (OpenSpec.ofChange inclChainSpec)

/-- ITS FALSE NEIGHBOUR: 'it returns false'. Refute it at one input. -/
def inclChainWrong : ChangeSpec := { name := "inclChain", fn := fun _ => fun
  | [d1, d2, d3] => { results := [.lit (.bool false)], args := [d1, d2, d3] }
  | _ => none }
def InclChainWrongFalsely : Prop := inclChainRow.holds Try.pinned (OpenSpec.ofChange inclChainWrong)

/- THE SECOND FORM. 'bulk': how many values and letters a reading holds, each counted each time it is reached (what is shared counts as often as it is met; a slice's spare places count too). A statement '..UptoSaid' is the law's where the arguments, and the package variables that the reading takes, are together of bulk at most 1048576: NARROWER than '..Said'. Prove '..Said' where nothing that the law and all that it calls make is longer than what came in: it says more and counts as full. Else prove '..UptoSaid'. A law counts once. -/
mutual
def uptoBulk {H : Type} : DataW H → Nat
  | .lit (.string bytes) => bytes.length + 1
  | .lit _ => 1
  | .nil => 1
  | .ptr d => uptoBulk d + 1
  | .slice elems spare => uptoBulkAll elems + uptoBulkAll spare + 1
  | .agg parts => uptoBulkAll parts + 1
  | .iface _ d => uptoBulk d + 1
  | .map entries => uptoBulkEntries entries + 1
  | .held _ => 1
def uptoBulkAll {H : Type} : List (DataW H) → Nat
  | [] => 0
  | d :: r => uptoBulk d + uptoBulkAll r
def uptoBulkEntries {H : Type} : List (Lit × DataW H) → Nat
  | [] => 0
  | x :: r => uptoBulkEntry x + uptoBulkEntries r
def uptoBulkEntry {H : Type} : Lit × DataW H → Nat
  | (.string bytes, d) => bytes.length + uptoBulk d + 1
  | (_, d) => uptoBulk d + 1
 end
def uptoSmall : (H : Type) → List (DataW H) → Bool := fun _ ds => decide (uptoBulkAll ds ≤ 1048576)
def OpenSpec.upto (s : _root_.Go.ChangeSpec) : _root_.Go.OpenSpec := { _root_.Go.OpenSpec.ofChange s with cond := some uptoSmall }

/-- 'rallentandolaw06.InclNames', WHERE WHAT IT READS IS OF BULK AT MOST 1048576: true; the input reads as it did. -/
def inclNamesUptoRow : OpenClaim := { program := "ytnbpcgkdnkihdaa", sum := "252fbb79a4f8bf3f976d221779a0c59297c0af44a43f12a666623f2dd69c86a9", func := "rallentando/rallentandolaw06.InclNames", spec := "inclNames", inPlace := ["math/bits.Add64"], unfollowed := true, recurses := true, named := ["math/bits.divideError", "math/bits.overflowError"], apart := false, narrowed := true }
def InclNamesUptoSaid : Prop := inclNamesUptoRow.holds Try.pinned (OpenSpec.upto inclNamesSpec)

/-- 'rallentandolaw06.InclTells', WHERE WHAT IT READS IS OF BULK AT MOST 1048576: true; the input reads as it did. -/
def inclTellsUptoRow : OpenClaim := { program := "ytnbpcgkdnkihdaa", sum := "252fbb79a4f8bf3f976d221779a0c59297c0af44a43f12a666623f2dd69c86a9", func := "rallentando/rallentandolaw06.InclTells", spec := "inclTells", inPlace := ["math/bits.Add64"], unfollowed := true, recurses := true, named := ["math/bits.divideError", "math/bits.overflowError"], apart := false, narrowed := true }
def InclTellsUptoSaid : Prop := inclTellsUptoRow.holds Try.pinned (OpenSpec.upto inclTellsSpec)

/-- 'rallentandolaw06.InclPicks', WHERE WHAT IT READS IS OF BULK AT MOST 1048576: true; the input reads as it did. -/
def inclPicksUptoRow : OpenClaim := { program := "ytnbpcgkdnkihdaa", sum := "252fbb79a4f8bf3f976d221779a0c59297c0af44a43f12a666623f2dd69c86a9", func := "rallentando/rallentandolaw06.InclPicks", spec := "inclPicks", inPlace := ["math/bits.Add64", "math/bits.Sub64"], unfollowed := true, recurses := true, named := ["math/bits.divideError", "math/bits.overflowError"], apart := false, narrowed := true }
def InclPicksUptoSaid : Prop := inclPicksUptoRow.holds Try.pinned (OpenSpec.upto inclPicksSpec)

/-- 'rallentandolaw06.InclKept', WHERE WHAT IT READS IS OF BULK AT MOST 1048576: true; the input reads as it did. -/
def inclKeptUptoRow : OpenClaim := { program := "ytnbpcgkdnkihdaa", sum := "252fbb79a4f8bf3f976d221779a0c59297c0af44a43f12a666623f2dd69c86a9", func := "rallentando/rallentandolaw06.InclKept", spec := "inclKept", inPlace := ["math/bits.Add64", "math/bits.Sub64"], unfollowed := true, recurses := true, named := ["math/bits.divideError", "math/bits.overflowError"], apart := false, narrowed := true }
def InclKeptUptoSaid : Prop := inclKeptUptoRow.holds Try.pinned (OpenSpec.upto inclKeptSpec)

/-- 'rallentandolaw06.InclCommon', WHERE WHAT IT READS IS OF BULK AT MOST 1048576: true; the input reads as it did. -/
def inclCommonUptoRow : OpenClaim := { program := "ytnbpcgkdnkihdaa", sum := "252fbb79a4f8bf3f976d221779a0c59297c0af44a43f12a666623f2dd69c86a9", func := "rallentando/rallentandolaw06.InclCommon", spec := "inclCommon", inPlace := ["math/bits.Add64"], unfollowed := true, recurses := true, named := ["math/bits.divideError", "math/bits.overflowError"], apart := false, narrowed := true }
def InclCommonUptoSaid : Prop := inclCommonUptoRow.holds Try.pinned (OpenSpec.upto inclCommonSpec)

/-- 'rallentandolaw06.InclChain', WHERE WHAT IT READS IS OF BULK AT MOST 1048576: true; the input reads as it did. -/
def inclChainUptoRow : OpenClaim := { program := "ytnbpcgkdnkihdaa", sum := "252fbb79a4f8bf3f976d221779a0c59297c0af44a43f12a666623f2dd69c86a9", func := "rallentando/rallentandolaw06.InclChain", spec := "inclChain", inPlace := ["math/bits.Add64"], unfollowed := true, recurses := true, named := ["math/bits.divideError", "math/bits.overflowError"], apart := false, narrowed := true }
def InclChainUptoSaid : Prop := inclChainUptoRow.holds Try.pinned (OpenSpec.upto inclChainSpec)

end Rows
end Go.Proofs.Ytnbpcgkdnkihdaa
