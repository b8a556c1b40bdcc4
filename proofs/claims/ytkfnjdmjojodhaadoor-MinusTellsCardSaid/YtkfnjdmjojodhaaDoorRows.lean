/-
  NARROWER THAN 'FOR EVERY INPUT', by the rows' own cells (each row's printed sentence says how): MinusNames: laid · MinusTells: laid · MinusPoints: laid · MinusNone: laid · MinusOrder: laid.
  DERIVED. THE GIVEN ROWS OF THIS SEAT. 5 by the template 'for every input the law returns true; each argument reads behind the call as it read before'; 0 by the template 'total and deterministic' (their statements: YtkfnjdmjojodhaaDoorTotals.lean).
  GIVEN WITH THE SEED: the statements are not yours to turn. If you find one false, say at which input.
  Laid BY PROGRAM, IN A SANDBOX (cutbox-rows.mjs): the forced cells as the released guide's own fill.sh prints them over the translation 2a4fa35afd1974e9… (all of the seat's roots in one cut). By AI agents, Wed Nov 11 2026. No macro, syntax, notation, axiom, sorry.
-/
import Derived.Test.YtkfnjdmjojodhaaDoorChecked
import GoSem.Claim
import GoSem.ClaimJoined
import GoSem.ClaimMapViews
import Derived.JoinedTies
import Derived.KernelRfl
namespace Go.Proofs.YtkfnjdmjojodhaaDoor
/- THE CELL 'sum', in the pinned program and in every row, IS THE sha256 OF THE DUMP (.gsa) THAT YtkfnjdmjojodhaaDoorProg.lean LOADS. Nothing in Lean hashes anything: it is a label: what it is worth is what the hold of that sum in a sandbox is worth. -/
noncomputable def Tryd.pinned : Pinned := { name := "ytkfnjdmjojodhaadoor", sum := "2a4fa35afd1974e910482f712d39bc1fc40c12d40398c54afc7d8c476f028493", checked := Tryd.checked }
namespace Rows
def none {H : Type} : Left H := { results := [], args := [] }

/- WHAT THE LISTED PACKAGE-LEVEL VARIABLES READ AS WHEN THE CALL BEGINS. Each datum BY PROGRAM (the guide's laid-datum.mjs) off the statement by which the dump's own 'gosem.cut.vars' lays the variable. In a bare row this is a premise. The card (YtkfnjdmjojodhaaDoorCards.lean) ties it to the program's text. -/
def laid_rallentando_zone_places {H : Type} : DataW H := .agg [.lit (.int .i64 3), .lit (.int .i64 1), .lit (.int .i64 6), .lit (.int .i64 2), .lit (.int .i64 7), .lit (.int .i64 5)]

/-- 'rallentandolaw11.MinusNames': WHATEVER THE INPUT: true; the input reads as it did. -/
def minusNamesSpec : ChangeSpec := { name := "minusNames", fn := fun _ => fun
  | [] => { results := [.lit (.bool true)], args := [] }
  | _ => none }
def minusNamesRow : OpenClaim := { program := "ytkfnjdmjojodhaadoor", sum := "2a4fa35afd1974e910482f712d39bc1fc40c12d40398c54afc7d8c476f028493", func := "rallentando/rallentandolaw11.MinusNames", spec := "minusNames", unfollowed := true, recurses := true, named := ["rallentando/zone.places"], apart := false, laid := [("rallentando/zone.places", laid_rallentando_zone_places)] }
def MinusNamesSaid : Prop := minusNamesRow.holds Tryd.pinned (OpenSpec.ofChange minusNamesSpec)

/-- ITS FALSE NEIGHBOUR: 'it returns false'. Refute it at one input. -/
def minusNamesWrong : ChangeSpec := { name := "minusNames", fn := fun _ => fun
  | [] => { results := [.lit (.bool false)], args := [] }
  | _ => none }
def MinusNamesWrongFalsely : Prop := minusNamesRow.holds Tryd.pinned (OpenSpec.ofChange minusNamesWrong)

/-- 'rallentandolaw11.MinusTells': WHATEVER THE INPUT: true; the input reads as it did. -/
def minusTellsSpec : ChangeSpec := { name := "minusTells", fn := fun _ => fun
  | [d1, d2, d3] => { results := [.lit (.bool true)], args := [d1, d2, d3] }
  | _ => none }
def minusTellsRow : OpenClaim := { program := "ytkfnjdmjojodhaadoor", sum := "2a4fa35afd1974e910482f712d39bc1fc40c12d40398c54afc7d8c476f028493", func := "rallentando/rallentandolaw11.MinusTells", spec := "minusTells", unfollowed := true, recurses := true, named := ["rallentando/zone.places"], apart := false, laid := [("rallentando/zone.places", laid_rallentando_zone_places)] }
def MinusTellsSaid : Prop := minusTellsRow.holds Tryd.pinned (OpenSpec.ofChange minusTellsSpec)

/-- ITS FALSE NEIGHBOUR: 'it returns false'. Refute it at one input. -/
def minusTellsWrong : ChangeSpec := { name := "minusTells", fn := fun _ => fun
  | [d1, d2, d3] => { results := [.lit (.bool false)], args := [d1, d2, d3] }
  | _ => none }
def MinusTellsWrongFalsely : Prop := minusTellsRow.holds Tryd.pinned (OpenSpec.ofChange minusTellsWrong)

/-- 'rallentandolaw11.MinusPoints': WHATEVER THE INPUT: true; the input reads as it did. -/
def minusPointsSpec : ChangeSpec := { name := "minusPoints", fn := fun _ => fun
  | [d1, d2, d3] => { results := [.lit (.bool true)], args := [d1, d2, d3] }
  | _ => none }
def minusPointsRow : OpenClaim := { program := "ytkfnjdmjojodhaadoor", sum := "2a4fa35afd1974e910482f712d39bc1fc40c12d40398c54afc7d8c476f028493", func := "rallentando/rallentandolaw11.MinusPoints", spec := "minusPoints", inPlace := ["math/bits.Sub64"], unfollowed := true, recurses := true, named := ["rallentando/zone.places"], apart := false, laid := [("rallentando/zone.places", laid_rallentando_zone_places)] }
def MinusPointsSaid : Prop := minusPointsRow.holds Tryd.pinned (OpenSpec.ofChange minusPointsSpec)

/-- ITS FALSE NEIGHBOUR: 'it returns false'. Refute it at one input. -/
def minusPointsWrong : ChangeSpec := { name := "minusPoints", fn := fun _ => fun
  | [d1, d2, d3] => { results := [.lit (.bool false)], args := [d1, d2, d3] }
  | _ => none }
def MinusPointsWrongFalsely : Prop := minusPointsRow.holds Tryd.pinned (OpenSpec.ofChange minusPointsWrong)

/-- 'rallentandolaw11.MinusNone': WHATEVER THE INPUT: true; the input reads as it did. -/
def minusNoneSpec : ChangeSpec := { name := "minusNone", fn := fun _ => fun
  | [d1, d2] => { results := [.lit (.bool true)], args := [d1, d2] }
  | _ => none }
def minusNoneRow : OpenClaim := { program := "ytkfnjdmjojodhaadoor", sum := "2a4fa35afd1974e910482f712d39bc1fc40c12d40398c54afc7d8c476f028493", func := "rallentando/rallentandolaw11.MinusNone", spec := "minusNone", unfollowed := true, recurses := true, named := ["rallentando/zone.places"], apart := false, laid := [("rallentando/zone.places", laid_rallentando_zone_places)] }
def MinusNoneSaid : Prop := minusNoneRow.holds Tryd.pinned (OpenSpec.ofChange minusNoneSpec)

/-- ITS FALSE NEIGHBOUR: 'it returns false'. Refute it at one input. -/
def minusNoneWrong : ChangeSpec := { name := "minusNone", fn := fun _ => fun
  | [d1, d2] => { results := [.lit (.bool false)], args := [d1, d2] }
  | _ => none }
def MinusNoneWrongFalsely : Prop := minusNoneRow.holds Tryd.pinned (OpenSpec.ofChange minusNoneWrong)

/-- 'rallentandolaw11.MinusOrder': WHATEVER THE INPUT: true; the input reads as it did. -/
def minusOrderSpec : ChangeSpec := { name := "minusOrder", fn := fun _ => fun
  | [d1, d2, d3] => { results := [.lit (.bool true)], args := [d1, d2, d3] }
  | _ => none }
def minusOrderRow : OpenClaim := { program := "ytkfnjdmjojodhaadoor", sum := "2a4fa35afd1974e910482f712d39bc1fc40c12d40398c54afc7d8c476f028493", func := "rallentando/rallentandolaw11.MinusOrder", spec := "minusOrder", unfollowed := true, recurses := true, named := ["rallentando/zone.places"], apart := false, laid := [("rallentando/zone.places", laid_rallentando_zone_places)] }
def MinusOrderSaid : Prop := minusOrderRow.holds Tryd.pinned (OpenSpec.ofChange minusOrderSpec)

/-- ITS FALSE NEIGHBOUR: 'it returns false'. Refute it at one input. -/
def minusOrderWrong : ChangeSpec := { name := "minusOrder", fn := fun _ => fun
  | [d1, d2, d3] => { results := [.lit (.bool false)], args := [d1, d2, d3] }
  | _ => none }
def MinusOrderWrongFalsely : Prop := minusOrderRow.holds Tryd.pinned (OpenSpec.ofChange minusOrderWrong)

/- THE SECOND FORM. 'bulk': how many values and letters a reading holds, each counted each time it is reached (what is shared counts as often as it is met; a slice's spare places count too). A statement '..UptoSaid' is the law's where the arguments, and the package variables that the reading takes, are together of bulk at most 1048576: NARROWER than '..Said'. Prove '..Said' where nothing that the law and all that it calls make is longer than what came in: it says more and counts as full. Else prove '..UptoSaid'. A law counts once. -/
mutual
def uptoBulk {H : Type} : DataW H → Nat
  | .lit (.string bytes) => bytes.length + 1
  | .lit _ => 1
  | .nil => 1
  | .ptr d => uptoBulk d + 1
  | .slice elems spare => uptoBulkAll elems + uptoBulkAll spare + 1
  | .agg parts => uptoBulkAll parts + 1
  | .iface _ d => uptoBulk d + 1
  | .map entries => uptoBulkEntries entries + 1
  | .held _ => 1
def uptoBulkAll {H : Type} : List (DataW H) → Nat
  | [] => 0
  | d :: r => uptoBulk d + uptoBulkAll r
def uptoBulkEntries {H : Type} : List (Lit × DataW H) → Nat
  | [] => 0
  | x :: r => uptoBulkEntry x + uptoBulkEntries r
def uptoBulkEntry {H : Type} : Lit × DataW H → Nat
  | (.string bytes, d) => bytes.length + uptoBulk d + 1
  | (_, d) => uptoBulk d + 1
 end
def uptoSmall : (H : Type) → List (DataW H) → Bool := fun _ ds => decide (uptoBulkAll ds ≤ 1048576)
def OpenSpec.upto (s : _root_.Go.ChangeSpec) : _root_.Go.OpenSpec := { _root_.Go.OpenSpec.ofChange s with cond := some uptoSmall }

/-- 'rallentandolaw11.MinusNames', WHERE WHAT IT READS IS OF BULK AT MOST 1048576: true; the input reads as it did. -/
def minusNamesUptoRow : OpenClaim := { program := "ytkfnjdmjojodhaadoor", sum := "2a4fa35afd1974e910482f712d39bc1fc40c12d40398c54afc7d8c476f028493", func := "rallentando/rallentandolaw11.MinusNames", spec := "minusNames", unfollowed := true, recurses := true, named := ["rallentando/zone.places"], apart := false, laid := [("rallentando/zone.places", laid_rallentando_zone_places)], narrowed := true }
def MinusNamesUptoSaid : Prop := minusNamesUptoRow.holds Tryd.pinned (OpenSpec.upto minusNamesSpec)

/-- 'rallentandolaw11.MinusTells', WHERE WHAT IT READS IS OF BULK AT MOST 1048576: true; the input reads as it did. -/
def minusTellsUptoRow : OpenClaim := { program := "ytkfnjdmjojodhaadoor", sum := "2a4fa35afd1974e910482f712d39bc1fc40c12d40398c54afc7d8c476f028493", func := "rallentando/rallentandolaw11.MinusTells", spec := "minusTells", unfollowed := true, recurses := true, named := ["rallentando/zone.places"], apart := false, laid := [("rallentando/zone.places", laid_rallentando_zone_places)], narrowed := true }
def MinusTellsUptoSaid : Prop := minusTellsUptoRow.holds Tryd.pinned (OpenSpec.upto minusTellsSpec)

/-- 'rallentandolaw11.MinusPoints', WHERE WHAT IT READS IS OF BULK AT MOST 1048576: true; the input reads as it did. -/
def minusPointsUptoRow : OpenClaim := { program := "ytkfnjdmjojodhaadoor", sum := "2a4fa35afd1974e910482f712d39bc1fc40c12d40398c54afc7d8c476f028493", func := "rallentando/rallentandolaw11.MinusPoints", spec := "minusPoints", inPlace := ["math/bits.Sub64"], unfollowed := true, recurses := true, named := ["rallentando/zone.places"], apart := false, laid := [("rallentando/zone.places", laid_rallentando_zone_places)], narrowed := true }
def MinusPointsUptoSaid : Prop := minusPointsUptoRow.holds Tryd.pinned (OpenSpec.upto minusPointsSpec)

/-- 'rallentandolaw11.MinusNone', WHERE WHAT IT READS IS OF BULK AT MOST 1048576: true; the input reads as it did. -/
def minusNoneUptoRow : OpenClaim := { program := "ytkfnjdmjojodhaadoor", sum := "2a4fa35afd1974e910482f712d39bc1fc40c12d40398c54afc7d8c476f028493", func := "rallentando/rallentandolaw11.MinusNone", spec := "minusNone", unfollowed := true, recurses := true, named := ["rallentando/zone.places"], apart := false, laid := [("rallentando/zone.places", laid_rallentando_zone_places)], narrowed := true }
def MinusNoneUptoSaid : Prop := minusNoneUptoRow.holds Tryd.pinned (OpenSpec.upto minusNoneSpec)

/-- 'rallentandolaw11.MinusOrder', WHERE WHAT IT READS IS OF BULK AT MOST 1048576: true; the input reads as it did. -/
def minusOrderUptoRow : OpenClaim := { program := "ytkfnjdmjojodhaadoor", sum := "2a4fa35afd1974e910482f712d39bc1fc40c12d40398c54afc7d8c476f028493", func := "rallentando/rallentandolaw11.MinusOrder", spec := "minusOrder", unfollowed := true, recurses := true, named := ["rallentando/zone.places"], apart := false, laid := [("rallentando/zone.places", laid_rallentando_zone_places)], narrowed := true }
def MinusOrderUptoSaid : Prop := minusOrderUptoRow.holds Tryd.pinned (OpenSpec.upto minusOrderSpec)

end Rows
end Go.Proofs.YtkfnjdmjojodhaaDoor
