/-
  No cell of these rows narrows 'for every input' (looked for: loops, veiled, ifaces, maps, wideKeys, modest, calm, conditions, laid).
  DERIVED. THE GIVEN ROWS OF THIS SEAT. 6 by the template 'for every input the law returns true; each argument reads behind the call as it read before'; 0 by the template 'total and deterministic' (their statements: YtlagnbbbokgdfaaTotals.lean).
  GIVEN WITH THE SEED: the statements are not yours to turn. If you find one false, say at which input.
  Laid BY PROGRAM, IN A SANDBOX (cutbox-rows.mjs): the forced cells as the released guide's own fill.sh prints them over the translation ec606e4f71eabb32… (all of the seat's roots in one cut). By AI agents, Wed Nov 11 2026. No macro, syntax, notation, axiom, sorry.
-/
import Derived.Test.YtlagnbbbokgdfaaChecked
import GoSem.Claim
import GoSem.ClaimJoined
import GoSem.ClaimMapViews
import Derived.JoinedTies
import Derived.KernelRfl
namespace Go.Proofs.Ytlagnbbbokgdfaa
/- THE CELL 'sum', in the pinned program and in every row, IS THE sha256 OF THE DUMP (.gsa) THAT YtlagnbbbokgdfaaProg.lean LOADS. Nothing in Lean hashes anything: it is a label: what it is worth is what the hold of that sum in a sandbox is worth. -/
noncomputable def Try.pinned : Pinned := { name := "ytlagnbbbokgdfaa", sum := "ec606e4f71eabb32b7f6488e0d1ec82d3e4ac03ad76b66ae82153ae7dee6142c", checked := Try.checked }
namespace Rows
def none {H : Type} : Left H := { results := [], args := [] }

/-- 'rallentandolaw04.DbmNames': WHATEVER THE INPUT: true; the input reads as it did. -/
def dbmNamesSpec : ChangeSpec := { name := "dbmNames", fn := fun _ => fun
  | [] => { results := [.lit (.bool true)], args := [] }
  | _ => none }
def dbmNamesRow : OpenClaim := { program := "ytlagnbbbokgdfaa", sum := "ec606e4f71eabb32b7f6488e0d1ec82d3e4ac03ad76b66ae82153ae7dee6142c", func := "rallentando/rallentandolaw04.DbmNames", spec := "dbmNames", inPlace := ["math/bits.Sub64"], unfollowed := true, recurses := true, apart := false }
def DbmNamesSaid : Prop := dbmNamesRow.holds Try.pinned (OpenSpec.ofChange dbmNamesSpec)

/-- ITS FALSE NEIGHBOUR: 'it returns false'. Refute it at one input. -/
def dbmNamesWrong : ChangeSpec := { name := "dbmNames", fn := fun _ => fun
  | [] => { results := [.lit (.bool false)], args := [] }
  | _ => none }
def DbmNamesWrongFalsely : Prop := dbmNamesRow.holds Try.pinned (OpenSpec.ofChange dbmNamesWrong)

/-- 'rallentandolaw04.DbmTells': WHATEVER THE INPUT: true; the input reads as it did. -/
def dbmTellsSpec : ChangeSpec := { name := "dbmTells", fn := fun _ => fun
  | [d1, d2] => { results := [.lit (.bool true)], args := [d1, d2] }
  | _ => none }
def dbmTellsRow : OpenClaim := { program := "ytlagnbbbokgdfaa", sum := "ec606e4f71eabb32b7f6488e0d1ec82d3e4ac03ad76b66ae82153ae7dee6142c", func := "rallentando/rallentandolaw04.DbmTells", spec := "dbmTells", inPlace := ["math/bits.Sub64"], unfollowed := true, recurses := true, apart := false }
def DbmTellsSaid : Prop := dbmTellsRow.holds Try.pinned (OpenSpec.ofChange dbmTellsSpec)

/-- ITS FALSE NEIGHBOUR: 'it returns false'. Refute it at one input. -/
def dbmTellsWrong : ChangeSpec := { name := "dbmTells", fn := fun _ => fun
  | [d1, d2] => { results := [.lit (.bool false)], args := [d1, d2] }
  | _ => none }
def DbmTellsWrongFalsely : Prop := dbmTellsRow.holds Try.pinned (OpenSpec.ofChange dbmTellsWrong)

/-- 'rallentandolaw04.DbmTop': WHATEVER THE INPUT: true; the input reads as it did. -/
def dbmTopSpec : ChangeSpec := { name := "dbmTop", fn := fun _ => fun
  | [d] => { results := [.lit (.bool true)], args := [d] }
  | _ => none }
def dbmTopRow : OpenClaim := { program := "ytlagnbbbokgdfaa", sum := "ec606e4f71eabb32b7f6488e0d1ec82d3e4ac03ad76b66ae82153ae7dee6142c", func := "rallentando/rallentandolaw04.DbmTop", spec := "dbmTop", unfollowed := true, recurses := true, apart := false }
def DbmTopSaid : Prop := dbmTopRow.holds Try.pinned (OpenSpec.ofChange dbmTopSpec)

/-- ITS FALSE NEIGHBOUR: 'it returns false'. Refute it at one input. -/
def dbmTopWrong : ChangeSpec := { name := "dbmTop", fn := fun _ => fun
  | [d] => { results := [.lit (.bool false)], args := [d] }
  | _ => none }
def DbmTopWrongFalsely : Prop := dbmTopRow.holds Try.pinned (OpenSpec.ofChange dbmTopWrong)

/-- 'rallentandolaw04.DbmKept': WHATEVER THE INPUT: true; the input reads as it did. -/
def dbmKeptSpec : ChangeSpec := { name := "dbmKept", fn := fun _ => fun
  | [d1, d2] => { results := [.lit (.bool true)], args := [d1, d2] }
  | _ => none }
def dbmKeptRow : OpenClaim := { program := "ytlagnbbbokgdfaa", sum := "ec606e4f71eabb32b7f6488e0d1ec82d3e4ac03ad76b66ae82153ae7dee6142c", func := "rallentando/rallentandolaw04.DbmKept", spec := "dbmKept", inPlace := ["math/bits.Sub64"], unfollowed := true, recurses := true, apart := false }
def DbmKeptSaid : Prop := dbmKeptRow.holds Try.pinned (OpenSpec.ofChange dbmKeptSpec)

/-- ITS FALSE NEIGHBOUR: 'it returns false'. Refute it at one input. -/
def dbmKeptWrong : ChangeSpec := { name := "dbmKept", fn := fun _ => fun
  | [d1, d2] => { results := [.lit (.bool false)], args := [d1, d2] }
  | _ => none }
def DbmKeptWrongFalsely : Prop := dbmKeptRow.holds Try.pinned (OpenSpec.ofChange dbmKeptWrong)

/-- 'rallentandolaw04.DbmClosed': WHATEVER THE INPUT: true; the input reads as it did. -/
def dbmClosedSpec : ChangeSpec := { name := "dbmClosed", fn := fun _ => fun
  | [d] => { results := [.lit (.bool true)], args := [d] }
  | _ => none }
def dbmClosedRow : OpenClaim := { program := "ytlagnbbbokgdfaa", sum := "ec606e4f71eabb32b7f6488e0d1ec82d3e4ac03ad76b66ae82153ae7dee6142c", func := "rallentando/rallentandolaw04.DbmClosed", spec := "dbmClosed", unfollowed := true, recurses := true, apart := false }
def DbmClosedSaid : Prop := dbmClosedRow.holds Try.pinned (OpenSpec.ofChange dbmClosedSpec)

/-- ITS FALSE NEIGHBOUR: 'it returns false'. Refute it at one input. -/
def dbmClosedWrong : ChangeSpec := { name := "dbmClosed", fn := fun _ => fun
  | [d] => { results := [.lit (.bool false)], args := [d] }
  | _ => none }
def DbmClosedWrongFalsely : Prop := dbmClosedRow.holds Try.pinned (OpenSpec.ofChange dbmClosedWrong)

/-- 'rallentandolaw04.DbmLess': WHATEVER THE INPUT: true; the input reads as it did. -/
def dbmLessSpec : ChangeSpec := { name := "dbmLess", fn := fun _ => fun
  | [d1, d2, d3] => { results := [.lit (.bool true)], args := [d1, d2, d3] }
  | _ => none }
def dbmLessRow : OpenClaim := { program := "ytlagnbbbokgdfaa", sum := "ec606e4f71eabb32b7f6488e0d1ec82d3e4ac03ad76b66ae82153ae7dee6142c", func := "rallentando/rallentandolaw04.DbmLess", spec := "dbmLess", unfollowed := true, recurses := true, apart := false }
def DbmLessSaid : Prop := dbmLessRow.holds Try.pinned (OpenSpec.ofChange dbmLessSpec)

/-- ITS FALSE NEIGHBOUR: 'it returns false'. Refute it at one input. -/
def dbmLessWrong : ChangeSpec := { name := "dbmLess", fn := fun _ => fun
  | [d1, d2, d3] => { results := [.lit (.bool false)], args := [d1, d2, d3] }
  | _ => none }
def DbmLessWrongFalsely : Prop := dbmLessRow.holds Try.pinned (OpenSpec.ofChange dbmLessWrong)

/- THE SECOND FORM. 'bulk': how many values and letters a reading holds, each counted each time it is reached (what is shared counts as often as it is met; a slice's spare places count too). A statement '..UptoSaid' is the law's where the arguments, and the package variables that the reading takes, are together of bulk at most 1048576: NARROWER than '..Said'. Prove '..Said' where nothing that the law and all that it calls make is longer than what came in: it says more and counts as full. Else prove '..UptoSaid'. A law counts once. -/
mutual
def uptoBulk {H : Type} : DataW H → Nat
  | .lit (.string bytes) => bytes.length + 1
  | .lit _ => 1
  | .nil => 1
  | .ptr d => uptoBulk d + 1
  | .slice elems spare => uptoBulkAll elems + uptoBulkAll spare + 1
  | .agg parts => uptoBulkAll parts + 1
  | .iface _ d => uptoBulk d + 1
  | .map entries => uptoBulkEntries entries + 1
  | .held _ => 1
def uptoBulkAll {H : Type} : List (DataW H) → Nat
  | [] => 0
  | d :: r => uptoBulk d + uptoBulkAll r
def uptoBulkEntries {H : Type} : List (Lit × DataW H) → Nat
  | [] => 0
  | x :: r => uptoBulkEntry x + uptoBulkEntries r
def uptoBulkEntry {H : Type} : Lit × DataW H → Nat
  | (.string bytes, d) => bytes.length + uptoBulk d + 1
  | (_, d) => uptoBulk d + 1
 end
def uptoSmall : (H : Type) → List (DataW H) → Bool := fun _ ds => decide (uptoBulkAll ds ≤ 1048576)
def OpenSpec.upto (s : _root_.Go.ChangeSpec) : _root_.Go.OpenSpec := { _root_.Go.OpenSpec.ofChange s with cond := some uptoSmall }

/-- 'rallentandolaw04.DbmNames', WHERE WHAT IT READS IS OF BULK AT MOST 1048576: true; the input reads as it did. -/
def dbmNamesUptoRow : OpenClaim := { program := "ytlagnbbbokgdfaa", sum := "ec606e4f71eabb32b7f6488e0d1ec82d3e4ac03ad76b66ae82153ae7dee6142c", func := "rallentando/rallentandolaw04.DbmNames", spec := "dbmNames", inPlace := ["math/bits.Sub64"], unfollowed := true, recurses := true, apart := false, narrowed := true }
def DbmNamesUptoSaid : Prop := dbmNamesUptoRow.holds Try.pinned (OpenSpec.upto dbmNamesSpec)

/-- 'rallentandolaw04.DbmTells', WHERE WHAT IT READS IS OF BULK AT MOST 1048576: true; the input reads as it did. -/
def dbmTellsUptoRow : OpenClaim := { program := "ytlagnbbbokgdfaa", sum := "ec606e4f71eabb32b7f6488e0d1ec82d3e4ac03ad76b66ae82153ae7dee6142c", func := "rallentando/rallentandolaw04.DbmTells", spec := "dbmTells", inPlace := ["math/bits.Sub64"], unfollowed := true, recurses := true, apart := false, narrowed := true }
def DbmTellsUptoSaid : Prop := dbmTellsUptoRow.holds Try.pinned (OpenSpec.upto dbmTellsSpec)

/-- 'rallentandolaw04.DbmTop', WHERE WHAT IT READS IS OF BULK AT MOST 1048576: true; the input reads as it did. -/
def dbmTopUptoRow : OpenClaim := { program := "ytlagnbbbokgdfaa", sum := "ec606e4f71eabb32b7f6488e0d1ec82d3e4ac03ad76b66ae82153ae7dee6142c", func := "rallentando/rallentandolaw04.DbmTop", spec := "dbmTop", unfollowed := true, recurses := true, apart := false, narrowed := true }
def DbmTopUptoSaid : Prop := dbmTopUptoRow.holds Try.pinned (OpenSpec.upto dbmTopSpec)

/-- 'rallentandolaw04.DbmKept', WHERE WHAT IT READS IS OF BULK AT MOST 1048576: true; the input reads as it did. -/
def dbmKeptUptoRow : OpenClaim := { program := "ytlagnbbbokgdfaa", sum := "ec606e4f71eabb32b7f6488e0d1ec82d3e4ac03ad76b66ae82153ae7dee6142c", func := "rallentando/rallentandolaw04.DbmKept", spec := "dbmKept", inPlace := ["math/bits.Sub64"], unfollowed := true, recurses := true, apart := false, narrowed := true }
def DbmKeptUptoSaid : Prop := dbmKeptUptoRow.holds Try.pinned (OpenSpec.upto dbmKeptSpec)

/-- 'rallentandolaw04.DbmClosed', WHERE WHAT IT READS IS OF BULK AT MOST 1048576: true; the input reads as it did. -/
def dbmClosedUptoRow : OpenClaim := { program := "ytlagnbbbokgdfaa", sum := "ec606e4f71eabb32b7f6488e0d1ec82d3e4ac03ad76b66ae82153ae7dee6142c", func := "rallentando/rallentandolaw04.DbmClosed", spec := "dbmClosed", unfollowed := true, recurses := true, apart := false, narrowed := true }
def DbmClosedUptoSaid : Prop := dbmClosedUptoRow.holds Try.pinned (OpenSpec.upto dbmClosedSpec)

/-- 'rallentandolaw04.DbmLess', WHERE WHAT IT READS IS OF BULK AT MOST 1048576: true; the input reads as it did. -/
def dbmLessUptoRow : OpenClaim := { program := "ytlagnbbbokgdfaa", sum := "ec606e4f71eabb32b7f6488e0d1ec82d3e4ac03ad76b66ae82153ae7dee6142c", func := "rallentando/rallentandolaw04.DbmLess", spec := "dbmLess", unfollowed := true, recurses := true, apart := false, narrowed := true }
def DbmLessUptoSaid : Prop := dbmLessUptoRow.holds Try.pinned (OpenSpec.upto dbmLessSpec)

end Rows
end Go.Proofs.Ytlagnbbbokgdfaa
