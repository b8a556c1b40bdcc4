/-
  NARROWER THAN 'FOR EVERY INPUT', by the rows' own cells (each row's printed sentence says how): CoverOrder: laid · CoverWitness: laid.
  DERIVED. THE GIVEN ROWS OF THIS SEAT. 2 by the template 'for every input the law returns true; each argument reads behind the call as it read before'; 0 by the template 'total and deterministic' (their statements: YthljhijcmdnonaaDoorTotals.lean).
  GIVEN WITH THE SEED: the statements are not yours to turn. If you find one false, say at which input.
  Laid BY PROGRAM, IN A SANDBOX (cutbox-rows.mjs): the forced cells as the released guide's own fill.sh prints them over the translation 75398e53078a433e… (all of the seat's roots in one cut). By AI agents, Wed Nov 11 2026. No macro, syntax, notation, axiom, sorry.
-/
import Derived.Test.YthljhijcmdnonaaDoorChecked
import GoSem.Claim
import GoSem.ClaimJoined
import GoSem.ClaimMapViews
import Derived.JoinedTies
import Derived.KernelRfl
namespace Go.Proofs.YthljhijcmdnonaaDoor
/- THE CELL 'sum', in the pinned program and in every row, IS THE sha256 OF THE DUMP (.gsa) THAT YthljhijcmdnonaaDoorProg.lean LOADS. Nothing in Lean hashes anything: it is a label: what it is worth is what the hold of that sum in a sandbox is worth. -/
noncomputable def Tryd.pinned : Pinned := { name := "ythljhijcmdnonaadoor", sum := "75398e53078a433ef4c2a7c58a0be735e681a35e61d1f89e8dafc2bb83452c55", checked := Tryd.checked }
namespace Rows
def none {H : Type} : Left H := { results := [], args := [] }

/- WHAT THE LISTED PACKAGE-LEVEL VARIABLES READ AS WHEN THE CALL BEGINS. Each datum BY PROGRAM (the guide's laid-datum.mjs) off the statement by which the dump's own 'gosem.cut.vars' lays the variable. In a bare row this is a premise. The card (YthljhijcmdnonaaDoorCards.lean) ties it to the program's text. -/
def laid_rallentando_zone_places {H : Type} : DataW H := .agg [.lit (.int .i64 3), .lit (.int .i64 1), .lit (.int .i64 6), .lit (.int .i64 2), .lit (.int .i64 7), .lit (.int .i64 5)]

/-- 'rallentandolaw12.CoverOrder': WHATEVER THE INPUT: true; the input reads as it did. -/
def coverOrderSpec : ChangeSpec := { name := "coverOrder", fn := fun _ => fun
  | [d1, d2] => { results := [.lit (.bool true)], args := [d1, d2] }
  | _ => none }
def coverOrderRow : OpenClaim := { program := "ythljhijcmdnonaadoor", sum := "75398e53078a433ef4c2a7c58a0be735e681a35e61d1f89e8dafc2bb83452c55", func := "rallentando/rallentandolaw12.CoverOrder", spec := "coverOrder", unfollowed := true, recurses := true, named := ["rallentando/zone.places"], apart := false, laid := [("rallentando/zone.places", laid_rallentando_zone_places)] }
def CoverOrderSaid : Prop := coverOrderRow.holds Tryd.pinned (OpenSpec.ofChange coverOrderSpec)

/-- ITS FALSE NEIGHBOUR: 'it returns false'. Refute it at one input. -/
def coverOrderWrong : ChangeSpec := { name := "coverOrder", fn := fun _ => fun
  | [d1, d2] => { results := [.lit (.bool false)], args := [d1, d2] }
  | _ => none }
def CoverOrderWrongFalsely : Prop := coverOrderRow.holds Tryd.pinned (OpenSpec.ofChange coverOrderWrong)

/-- 'rallentandolaw12.CoverWitness': WHATEVER THE INPUT: true; the input reads as it did. -/
def coverWitnessSpec : ChangeSpec := { name := "coverWitness", fn := fun _ => fun
  | [d1, d2, d3] => { results := [.lit (.bool true)], args := [d1, d2, d3] }
  | _ => none }
def coverWitnessRow : OpenClaim := { program := "ythljhijcmdnonaadoor", sum := "75398e53078a433ef4c2a7c58a0be735e681a35e61d1f89e8dafc2bb83452c55", func := "rallentando/rallentandolaw12.CoverWitness", spec := "coverWitness", inPlace := ["math/bits.Add64", "math/bits.Sub64"], unfollowed := true, recurses := true, named := ["rallentando/zone.places", "math/bits.divideError", "math/bits.overflowError"], apart := false, laid := [("rallentando/zone.places", laid_rallentando_zone_places)] }
def CoverWitnessSaid : Prop := coverWitnessRow.holds Tryd.pinned (OpenSpec.ofChange coverWitnessSpec)

/-- ITS FALSE NEIGHBOUR: 'it returns false'. Refute it at one input. -/
def coverWitnessWrong : ChangeSpec := { name := "coverWitness", fn := fun _ => fun
  | [d1, d2, d3] => { results := [.lit (.bool false)], args := [d1, d2, d3] }
  | _ => none }
def CoverWitnessWrongFalsely : Prop := coverWitnessRow.holds Tryd.pinned (OpenSpec.ofChange coverWitnessWrong)

/- THE SECOND FORM. 'bulk': how many values and letters a reading holds, each counted each time it is reached (what is shared counts as often as it is met; a slice's spare places count too). A statement '..UptoSaid' is the law's where the arguments, and the package variables that the reading takes, are together of bulk at most 1048576: NARROWER than '..Said'. Prove '..Said' where nothing that the law and all that it calls make is longer than what came in: it says more and counts as full. Else prove '..UptoSaid'. A law counts once. -/
mutual
def uptoBulk {H : Type} : DataW H → Nat
  | .lit (.string bytes) => bytes.length + 1
  | .lit _ => 1
  | .nil => 1
  | .ptr d => uptoBulk d + 1
  | .slice elems spare => uptoBulkAll elems + uptoBulkAll spare + 1
  | .agg parts => uptoBulkAll parts + 1
  | .iface _ d => uptoBulk d + 1
  | .map entries => uptoBulkEntries entries + 1
  | .held _ => 1
def uptoBulkAll {H : Type} : List (DataW H) → Nat
  | [] => 0
  | d :: r => uptoBulk d + uptoBulkAll r
def uptoBulkEntries {H : Type} : List (Lit × DataW H) → Nat
  | [] => 0
  | x :: r => uptoBulkEntry x + uptoBulkEntries r
def uptoBulkEntry {H : Type} : Lit × DataW H → Nat
  | (.string bytes, d) => bytes.length + uptoBulk d + 1
  | (_, d) => uptoBulk d + 1
 end
def uptoSmall : (H : Type) → List (DataW H) → Bool := fun _ ds => decide (uptoBulkAll ds ≤ 1048576)
def OpenSpec.upto (s : _root_.Go.ChangeSpec) : _root_.Go.OpenSpec := { _root_.Go.OpenSpec.ofChange s with cond := some uptoSmall }

/-- 'rallentandolaw12.CoverOrder', WHERE WHAT IT READS IS OF BULK AT MOST 1048576: true; the input reads as it did. -/
def coverOrderUptoRow : OpenClaim := { program := "ythljhijcmdnonaadoor", sum := "75398e53078a433ef4c2a7c58a0be735e681a35e61d1f89e8dafc2bb83452c55", func := "rallentando/rallentandolaw12.CoverOrder", spec := "coverOrder", unfollowed := true, recurses := true, named := ["rallentando/zone.places"], apart := false, laid := [("rallentando/zone.places", laid_rallentando_zone_places)], narrowed := true }
def CoverOrderUptoSaid : Prop := coverOrderUptoRow.holds Tryd.pinned (OpenSpec.upto coverOrderSpec)

/-- 'rallentandolaw12.CoverWitness', WHERE WHAT IT READS IS OF BULK AT MOST 1048576: true; the input reads as it did. -/
def coverWitnessUptoRow : OpenClaim := { program := "ythljhijcmdnonaadoor", sum := "75398e53078a433ef4c2a7c58a0be735e681a35e61d1f89e8dafc2bb83452c55", func := "rallentando/rallentandolaw12.CoverWitness", spec := "coverWitness", inPlace := ["math/bits.Add64", "math/bits.Sub64"], unfollowed := true, recurses := true, named := ["rallentando/zone.places", "math/bits.divideError", "math/bits.overflowError"], apart := false, laid := [("rallentando/zone.places", laid_rallentando_zone_places)], narrowed := true }
def CoverWitnessUptoSaid : Prop := coverWitnessUptoRow.holds Tryd.pinned (OpenSpec.upto coverWitnessSpec)

end Rows
end Go.Proofs.YthljhijcmdnonaaDoor
