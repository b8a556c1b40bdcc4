/-
  No cell of these rows narrows 'for every input' (looked for: loops, veiled, ifaces, maps, wideKeys, modest, calm, conditions, laid).
  DERIVED. THE GIVEN ROWS OF THIS SEAT. 5 by the template 'for every input the law returns true; each argument reads behind the call as it read before'; 0 by the template 'total and deterministic' (their statements: YtallgbpijndmeaaTotals.lean).
  GIVEN WITH THE SEED: the statements are not yours to turn. If you find one false, say at which input.
  Laid BY PROGRAM, IN A SANDBOX (cutbox-rows.mjs): the forced cells as the released guide's own fill.sh prints them over the translation 73eb46e4ce8678a7… (all of the seat's roots in one cut). By AI agents, Wed Nov 11 2026. No macro, syntax, notation, axiom, sorry.
-/
import Derived.Test.YtallgbpijndmeaaChecked
import GoSem.Claim
import GoSem.ClaimJoined
import GoSem.ClaimMapViews
import Derived.JoinedTies
import Derived.KernelRfl
namespace Go.Proofs.Ytallgbpijndmeaa
/- THE CELL 'sum', in the pinned program and in every row, IS THE sha256 OF THE DUMP (.gsa) THAT YtallgbpijndmeaaProg.lean LOADS. Nothing in Lean hashes anything: it is a label: what it is worth is what the hold of that sum in a sandbox is worth. -/
noncomputable def Try.pinned : Pinned := { name := "ytallgbpijndmeaa", sum := "73eb46e4ce8678a7165c6eead7893409a1fc64c833a19c0417baa906f0deddb6", checked := Try.checked }
namespace Rows
def none {H : Type} : Left H := { results := [], args := [] }

/-- 'rallentandolaw05.TightNames': WHATEVER THE INPUT: true; the input reads as it did. -/
def tightNamesSpec : ChangeSpec := { name := "tightNames", fn := fun _ => fun
  | [] => { results := [.lit (.bool true)], args := [] }
  | _ => none }
def tightNamesRow : OpenClaim := { program := "ytallgbpijndmeaa", sum := "73eb46e4ce8678a7165c6eead7893409a1fc64c833a19c0417baa906f0deddb6", func := "rallentando/rallentandolaw05.TightNames", spec := "tightNames", unfollowed := true, recurses := true, apart := false }
def TightNamesSaid : Prop := tightNamesRow.holds Try.pinned (OpenSpec.ofChange tightNamesSpec)

/-- ITS FALSE NEIGHBOUR: 'it returns false'. Refute it at one input. -/
def tightNamesWrong : ChangeSpec := { name := "tightNames", fn := fun _ => fun
  | [] => { results := [.lit (.bool false)], args := [] }
  | _ => none }
def TightNamesWrongFalsely : Prop := tightNamesRow.holds Try.pinned (OpenSpec.ofChange tightNamesWrong)

/-- 'rallentandolaw05.TightTells': WHATEVER THE INPUT: true; the input reads as it did. -/
def tightTellsSpec : ChangeSpec := { name := "tightTells", fn := fun _ => fun
  | [d1, d2, d3, d4, d5, d6] => { results := [.lit (.bool true)], args := [d1, d2, d3, d4, d5, d6] }
  | _ => none }
def tightTellsRow : OpenClaim := { program := "ytallgbpijndmeaa", sum := "73eb46e4ce8678a7165c6eead7893409a1fc64c833a19c0417baa906f0deddb6", func := "rallentando/rallentandolaw05.TightTells", spec := "tightTells", unfollowed := true, recurses := true, apart := false }
def TightTellsSaid : Prop := tightTellsRow.holds Try.pinned (OpenSpec.ofChange tightTellsSpec)

/-- ITS FALSE NEIGHBOUR: 'it returns false'. Refute it at one input. -/
def tightTellsWrong : ChangeSpec := { name := "tightTells", fn := fun _ => fun
  | [d1, d2, d3, d4, d5, d6] => { results := [.lit (.bool false)], args := [d1, d2, d3, d4, d5, d6] }
  | _ => none }
def TightTellsWrongFalsely : Prop := tightTellsRow.holds Try.pinned (OpenSpec.ofChange tightTellsWrong)

/-- 'rallentandolaw05.TightKept': WHATEVER THE INPUT: true; the input reads as it did. -/
def tightKeptSpec : ChangeSpec := { name := "tightKept", fn := fun _ => fun
  | [d1, d2, d3, d4, d5, d6] => { results := [.lit (.bool true)], args := [d1, d2, d3, d4, d5, d6] }
  | _ => none }
def tightKeptRow : OpenClaim := { program := "ytallgbpijndmeaa", sum := "73eb46e4ce8678a7165c6eead7893409a1fc64c833a19c0417baa906f0deddb6", func := "rallentando/rallentandolaw05.TightKept", spec := "tightKept", inPlace := ["math/bits.Sub64"], unfollowed := true, recurses := true, apart := false }
def TightKeptSaid : Prop := tightKeptRow.holds Try.pinned (OpenSpec.ofChange tightKeptSpec)

/-- ITS FALSE NEIGHBOUR: 'it returns false'. Refute it at one input. -/
def tightKeptWrong : ChangeSpec := { name := "tightKept", fn := fun _ => fun
  | [d1, d2, d3, d4, d5, d6] => { results := [.lit (.bool false)], args := [d1, d2, d3, d4, d5, d6] }
  | _ => none }
def TightKeptWrongFalsely : Prop := tightKeptRow.holds Try.pinned (OpenSpec.ofChange tightKeptWrong)

/-- 'rallentandolaw05.TightOrder': WHATEVER THE INPUT: true; the input reads as it did. -/
def tightOrderSpec : ChangeSpec := { name := "tightOrder", fn := fun _ => fun
  | [d1, d2, d3, d4, d5, d6, d7] => { results := [.lit (.bool true)], args := [d1, d2, d3, d4, d5, d6, d7] }
  | _ => none }
def tightOrderRow : OpenClaim := { program := "ytallgbpijndmeaa", sum := "73eb46e4ce8678a7165c6eead7893409a1fc64c833a19c0417baa906f0deddb6", func := "rallentando/rallentandolaw05.TightOrder", spec := "tightOrder", unfollowed := true, recurses := true, apart := false }
def TightOrderSaid : Prop := tightOrderRow.holds Try.pinned (OpenSpec.ofChange tightOrderSpec)

/-- ITS FALSE NEIGHBOUR: 'it returns false'. Refute it at one input. -/
def tightOrderWrong : ChangeSpec := { name := "tightOrder", fn := fun _ => fun
  | [d1, d2, d3, d4, d5, d6, d7] => { results := [.lit (.bool false)], args := [d1, d2, d3, d4, d5, d6, d7] }
  | _ => none }
def TightOrderWrongFalsely : Prop := tightOrderRow.holds Try.pinned (OpenSpec.ofChange tightOrderWrong)

/-- 'rallentandolaw05.TightSpans': WHATEVER THE INPUT: true; the input reads as it did. -/
def tightSpansSpec : ChangeSpec := { name := "tightSpans", fn := fun _ => fun
  | [d1, d2, d3, d4] => { results := [.lit (.bool true)], args := [d1, d2, d3, d4] }
  | _ => none }
def tightSpansRow : OpenClaim := { program := "ytallgbpijndmeaa", sum := "73eb46e4ce8678a7165c6eead7893409a1fc64c833a19c0417baa906f0deddb6", func := "rallentando/rallentandolaw05.TightSpans", spec := "tightSpans", inPlace := ["math/bits.Sub64"], unfollowed := true, recurses := true, named := ["math/bits.divideError", "math/bits.overflowError"], apart := false }
def TightSpansSaid : Prop := tightSpansRow.holds Try.pinned (OpenSpec.ofChange tightSpansSpec)

/-- ITS FALSE NEIGHBOUR: 'it returns false'. Refute it at one input. -/
def tightSpansWrong : ChangeSpec := { name := "tightSpans", fn := fun _ => fun
  | [d1, d2, d3, d4] => { results := [.lit (.bool false)], args := [d1, d2, d3, d4] }
  | _ => none }
def TightSpansWrongFalsely : Prop := tightSpansRow.holds Try.pinned (OpenSpec.ofChange tightSpansWrong)

/- THE SECOND FORM. 'bulk': how many values and letters a reading holds, each counted each time it is reached (what is shared counts as often as it is met; a slice's spare places count too). A statement '..UptoSaid' is the law's where the arguments, and the package variables that the reading takes, are together of bulk at most 1048576: NARROWER than '..Said'. Prove '..Said' where nothing that the law and all that it calls make is longer than what came in: it says more and counts as full. Else prove '..UptoSaid'. A law counts once. -/
mutual
def uptoBulk {H : Type} : DataW H → Nat
  | .lit (.string bytes) => bytes.length + 1
  | .lit _ => 1
  | .nil => 1
  | .ptr d => uptoBulk d + 1
  | .slice elems spare => uptoBulkAll elems + uptoBulkAll spare + 1
  | .agg parts => uptoBulkAll parts + 1
  | .iface _ d => uptoBulk d + 1
  | .map entries => uptoBulkEntries entries + 1
  | .held _ => 1
def uptoBulkAll {H : Type} : List (DataW H) → Nat
  | [] => 0
  | d :: r => uptoBulk d + uptoBulkAll r
def uptoBulkEntries {H : Type} : List (Lit × DataW H) → Nat
  | [] => 0
  | x :: r => uptoBulkEntry x + uptoBulkEntries r
def uptoBulkEntry {H : Type} : Lit × DataW H → Nat
  | (.string bytes, d) => bytes.length + uptoBulk d + 1
  | (_, d) => uptoBulk d + 1
 end
def uptoSmall : (H : Type) → List (DataW H) → Bool := fun _ ds => decide (uptoBulkAll ds ≤ 1048576)
def OpenSpec.upto (s : _root_.Go.ChangeSpec) : _root_.Go.OpenSpec := { _root_.Go.OpenSpec.ofChange s with cond := some uptoSmall }

/-- 'rallentandolaw05.TightNames', WHERE WHAT IT READS IS OF BULK AT MOST 1048576: true; the input reads as it did. -/
def tightNamesUptoRow : OpenClaim := { program := "ytallgbpijndmeaa", sum := "73eb46e4ce8678a7165c6eead7893409a1fc64c833a19c0417baa906f0deddb6", func := "rallentando/rallentandolaw05.TightNames", spec := "tightNames", unfollowed := true, recurses := true, apart := false, narrowed := true }
def TightNamesUptoSaid : Prop := tightNamesUptoRow.holds Try.pinned (OpenSpec.upto tightNamesSpec)

/-- 'rallentandolaw05.TightTells', WHERE WHAT IT READS IS OF BULK AT MOST 1048576: true; the input reads as it did. -/
def tightTellsUptoRow : OpenClaim := { program := "ytallgbpijndmeaa", sum := "73eb46e4ce8678a7165c6eead7893409a1fc64c833a19c0417baa906f0deddb6", func := "rallentando/rallentandolaw05.TightTells", spec := "tightTells", unfollowed := true, recurses := true, apart := false, narrowed := true }
def TightTellsUptoSaid : Prop := tightTellsUptoRow.holds Try.pinned (OpenSpec.upto tightTellsSpec)

/-- 'rallentandolaw05.TightKept', WHERE WHAT IT READS IS OF BULK AT MOST 1048576: true; the input reads as it did. -/
def tightKeptUptoRow : OpenClaim := { program := "ytallgbpijndmeaa", sum := "73eb46e4ce8678a7165c6eead7893409a1fc64c833a19c0417baa906f0deddb6", func := "rallentando/rallentandolaw05.TightKept", spec := "tightKept", inPlace := ["math/bits.Sub64"], unfollowed := true, recurses := true, apart := false, narrowed := true }
def TightKeptUptoSaid : Prop := tightKeptUptoRow.holds Try.pinned (OpenSpec.upto tightKeptSpec)

/-- 'rallentandolaw05.TightOrder', WHERE WHAT IT READS IS OF BULK AT MOST 1048576: true; the input reads as it did. -/
def tightOrderUptoRow : OpenClaim := { program := "ytallgbpijndmeaa", sum := "73eb46e4ce8678a7165c6eead7893409a1fc64c833a19c0417baa906f0deddb6", func := "rallentando/rallentandolaw05.TightOrder", spec := "tightOrder", unfollowed := true, recurses := true, apart := false, narrowed := true }
def TightOrderUptoSaid : Prop := tightOrderUptoRow.holds Try.pinned (OpenSpec.upto tightOrderSpec)

/-- 'rallentandolaw05.TightSpans', WHERE WHAT IT READS IS OF BULK AT MOST 1048576: true; the input reads as it did. -/
def tightSpansUptoRow : OpenClaim := { program := "ytallgbpijndmeaa", sum := "73eb46e4ce8678a7165c6eead7893409a1fc64c833a19c0417baa906f0deddb6", func := "rallentando/rallentandolaw05.TightSpans", spec := "tightSpans", inPlace := ["math/bits.Sub64"], unfollowed := true, recurses := true, named := ["math/bits.divideError", "math/bits.overflowError"], apart := false, narrowed := true }
def TightSpansUptoSaid : Prop := tightSpansUptoRow.holds Try.pinned (OpenSpec.upto tightSpansSpec)

end Rows
end Go.Proofs.Ytallgbpijndmeaa
