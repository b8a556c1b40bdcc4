/-
  NARROWER THAN 'FOR EVERY INPUT', by the rows' own cells (each row's printed sentence says how): WinNames: laid · WinTells: laid · WinPoints: laid · WinOrder: laid · WinShifts: laid · WinLess: laid.
  DERIVED. THE GIVEN ROWS OF THIS SEAT. 6 by the template 'for every input the law returns true; each argument reads behind the call as it read before'; 0 by the template 'total and deterministic' (their statements: YtcaoooddmmhieaaDoorTotals.lean).
  GIVEN WITH THE SEED: the statements are not yours to turn. If you find one false, say at which input.
  Laid BY PROGRAM, IN A SANDBOX (cutbox-rows.mjs): the forced cells as the released guide's own fill.sh prints them over the translation b3be628575cc2c45… (all of the seat's roots in one cut). By AI agents, Wed Nov 11 2026. No macro, syntax, notation, axiom, sorry.
-/
import Derived.Test.YtcaoooddmmhieaaDoorChecked
import GoSem.Claim
import GoSem.ClaimJoined
import GoSem.ClaimMapViews
import Derived.JoinedTies
import Derived.KernelRfl
namespace Go.Proofs.YtcaoooddmmhieaaDoor
/- THE CELL 'sum', in the pinned program and in every row, IS THE sha256 OF THE DUMP (.gsa) THAT YtcaoooddmmhieaaDoorProg.lean LOADS. Nothing in Lean hashes anything: it is a label: what it is worth is what the hold of that sum in a sandbox is worth. -/
noncomputable def Tryd.pinned : Pinned := { name := "ytcaoooddmmhieaadoor", sum := "b3be628575cc2c45aa3ae9294380a11adcbbaf93828c41a03d955f5ba5c8fccb", checked := Tryd.checked }
namespace Rows
def none {H : Type} : Left H := { results := [], args := [] }

/- WHAT THE LISTED PACKAGE-LEVEL VARIABLES READ AS WHEN THE CALL BEGINS. Each datum BY PROGRAM (the guide's laid-datum.mjs) off the statement by which the dump's own 'gosem.cut.vars' lays the variable. In a bare row this is a premise. The card (YtcaoooddmmhieaaDoorCards.lean) ties it to the program's text. -/
def laid_rallentando_zone_places {H : Type} : DataW H := .agg [.lit (.int .i64 3), .lit (.int .i64 1), .lit (.int .i64 6), .lit (.int .i64 2), .lit (.int .i64 7), .lit (.int .i64 5)]

/-- 'rallentandolaw10.WinNames': WHATEVER THE INPUT: true; the input reads as it did. -/
def winNamesSpec : ChangeSpec := { name := "winNames", fn := fun _ => fun
  | [] => { results := [.lit (.bool true)], args := [] }
  | _ => none }
def winNamesRow : OpenClaim := { program := "ytcaoooddmmhieaadoor", sum := "b3be628575cc2c45aa3ae9294380a11adcbbaf93828c41a03d955f5ba5c8fccb", func := "rallentando/rallentandolaw10.WinNames", spec := "winNames", unfollowed := true, recurses := true, named := ["rallentando/zone.places"], apart := false, laid := [("rallentando/zone.places", laid_rallentando_zone_places)] }
def WinNamesSaid : Prop := winNamesRow.holds Tryd.pinned (OpenSpec.ofChange winNamesSpec)

/-- ITS FALSE NEIGHBOUR: 'it returns false'. Refute it at one input. -/
def winNamesWrong : ChangeSpec := { name := "winNames", fn := fun _ => fun
  | [] => { results := [.lit (.bool false)], args := [] }
  | _ => none }
def WinNamesWrongFalsely : Prop := winNamesRow.holds Tryd.pinned (OpenSpec.ofChange winNamesWrong)

/-- 'rallentandolaw10.WinTells': WHATEVER THE INPUT: true; the input reads as it did. -/
def winTellsSpec : ChangeSpec := { name := "winTells", fn := fun _ => fun
  | [d1, d2, d3, d4] => { results := [.lit (.bool true)], args := [d1, d2, d3, d4] }
  | _ => none }
def winTellsRow : OpenClaim := { program := "ytcaoooddmmhieaadoor", sum := "b3be628575cc2c45aa3ae9294380a11adcbbaf93828c41a03d955f5ba5c8fccb", func := "rallentando/rallentandolaw10.WinTells", spec := "winTells", unfollowed := true, recurses := true, named := ["rallentando/zone.places"], apart := false, laid := [("rallentando/zone.places", laid_rallentando_zone_places)] }
def WinTellsSaid : Prop := winTellsRow.holds Tryd.pinned (OpenSpec.ofChange winTellsSpec)

/-- ITS FALSE NEIGHBOUR: 'it returns false'. Refute it at one input. -/
def winTellsWrong : ChangeSpec := { name := "winTells", fn := fun _ => fun
  | [d1, d2, d3, d4] => { results := [.lit (.bool false)], args := [d1, d2, d3, d4] }
  | _ => none }
def WinTellsWrongFalsely : Prop := winTellsRow.holds Tryd.pinned (OpenSpec.ofChange winTellsWrong)

/-- 'rallentandolaw10.WinPoints': WHATEVER THE INPUT: true; the input reads as it did. -/
def winPointsSpec : ChangeSpec := { name := "winPoints", fn := fun _ => fun
  | [d1, d2, d3, d4, d5] => { results := [.lit (.bool true)], args := [d1, d2, d3, d4, d5] }
  | _ => none }
def winPointsRow : OpenClaim := { program := "ytcaoooddmmhieaadoor", sum := "b3be628575cc2c45aa3ae9294380a11adcbbaf93828c41a03d955f5ba5c8fccb", func := "rallentando/rallentandolaw10.WinPoints", spec := "winPoints", inPlace := ["math/bits.Sub64", "math/bits.Add64"], unfollowed := true, recurses := true, named := ["rallentando/zone.places", "math/bits.divideError", "math/bits.overflowError"], apart := false, laid := [("rallentando/zone.places", laid_rallentando_zone_places)] }
def WinPointsSaid : Prop := winPointsRow.holds Tryd.pinned (OpenSpec.ofChange winPointsSpec)

/-- ITS FALSE NEIGHBOUR: 'it returns false'. Refute it at one input. -/
def winPointsWrong : ChangeSpec := { name := "winPoints", fn := fun _ => fun
  | [d1, d2, d3, d4, d5] => { results := [.lit (.bool false)], args := [d1, d2, d3, d4, d5] }
  | _ => none }
def WinPointsWrongFalsely : Prop := winPointsRow.holds Tryd.pinned (OpenSpec.ofChange winPointsWrong)

/-- 'rallentandolaw10.WinOrder': WHATEVER THE INPUT: true; the input reads as it did. -/
def winOrderSpec : ChangeSpec := { name := "winOrder", fn := fun _ => fun
  | [d1, d2, d3, d4, d5] => { results := [.lit (.bool true)], args := [d1, d2, d3, d4, d5] }
  | _ => none }
def winOrderRow : OpenClaim := { program := "ytcaoooddmmhieaadoor", sum := "b3be628575cc2c45aa3ae9294380a11adcbbaf93828c41a03d955f5ba5c8fccb", func := "rallentando/rallentandolaw10.WinOrder", spec := "winOrder", unfollowed := true, recurses := true, named := ["rallentando/zone.places"], apart := false, laid := [("rallentando/zone.places", laid_rallentando_zone_places)] }
def WinOrderSaid : Prop := winOrderRow.holds Tryd.pinned (OpenSpec.ofChange winOrderSpec)

/-- ITS FALSE NEIGHBOUR: 'it returns false'. Refute it at one input. -/
def winOrderWrong : ChangeSpec := { name := "winOrder", fn := fun _ => fun
  | [d1, d2, d3, d4, d5] => { results := [.lit (.bool false)], args := [d1, d2, d3, d4, d5] }
  | _ => none }
def WinOrderWrongFalsely : Prop := winOrderRow.holds Tryd.pinned (OpenSpec.ofChange winOrderWrong)

/-- 'rallentandolaw10.WinShifts': WHATEVER THE INPUT: true; the input reads as it did. -/
def winShiftsSpec : ChangeSpec := { name := "winShifts", fn := fun _ => fun
  | [d1, d2, d3] => { results := [.lit (.bool true)], args := [d1, d2, d3] }
  | _ => none }
def winShiftsRow : OpenClaim := { program := "ytcaoooddmmhieaadoor", sum := "b3be628575cc2c45aa3ae9294380a11adcbbaf93828c41a03d955f5ba5c8fccb", func := "rallentando/rallentandolaw10.WinShifts", spec := "winShifts", inPlace := ["math/bits.Add64", "math/bits.Sub64"], unfollowed := true, recurses := true, named := ["rallentando/zone.places", "math/bits.divideError", "math/bits.overflowError"], apart := false, laid := [("rallentando/zone.places", laid_rallentando_zone_places)] }
def WinShiftsSaid : Prop := winShiftsRow.holds Tryd.pinned (OpenSpec.ofChange winShiftsSpec)

/-- ITS FALSE NEIGHBOUR: 'it returns false'. Refute it at one input. -/
def winShiftsWrong : ChangeSpec := { name := "winShifts", fn := fun _ => fun
  | [d1, d2, d3] => { results := [.lit (.bool false)], args := [d1, d2, d3] }
  | _ => none }
def WinShiftsWrongFalsely : Prop := winShiftsRow.holds Tryd.pinned (OpenSpec.ofChange winShiftsWrong)

/-- 'rallentandolaw10.WinLess': WHATEVER THE INPUT: true; the input reads as it did. -/
def winLessSpec : ChangeSpec := { name := "winLess", fn := fun _ => fun
  | [d1, d2, d3, d4, d5, d6] => { results := [.lit (.bool true)], args := [d1, d2, d3, d4, d5, d6] }
  | _ => none }
def winLessRow : OpenClaim := { program := "ytcaoooddmmhieaadoor", sum := "b3be628575cc2c45aa3ae9294380a11adcbbaf93828c41a03d955f5ba5c8fccb", func := "rallentando/rallentandolaw10.WinLess", spec := "winLess", unfollowed := true, recurses := true, named := ["rallentando/zone.places"], apart := false, laid := [("rallentando/zone.places", laid_rallentando_zone_places)] }
def WinLessSaid : Prop := winLessRow.holds Tryd.pinned (OpenSpec.ofChange winLessSpec)

/-- ITS FALSE NEIGHBOUR: 'it returns false'. Refute it at one input. -/
def winLessWrong : ChangeSpec := { name := "winLess", fn := fun _ => fun
  | [d1, d2, d3, d4, d5, d6] => { results := [.lit (.bool false)], args := [d1, d2, d3, d4, d5, d6] }
  | _ => none }
def WinLessWrongFalsely : Prop := winLessRow.holds Tryd.pinned (OpenSpec.ofChange winLessWrong)

/- THE SECOND FORM. 'bulk': how many values and letters a reading holds, each counted each time it is reached (what is shared counts as often as it is met; a slice's spare places count too). A statement '..UptoSaid' is the law's where the arguments, and the package variables that the reading takes, are together of bulk at most 1048576: NARROWER than '..Said'. Prove '..Said' where nothing that the law and all that it calls make is longer than what came in: it says more and counts as full. Else prove '..UptoSaid'. A law counts once. -/
mutual
def uptoBulk {H : Type} : DataW H → Nat
  | .lit (.string bytes) => bytes.length + 1
  | .lit _ => 1
  | .nil => 1
  | .ptr d => uptoBulk d + 1
  | .slice elems spare => uptoBulkAll elems + uptoBulkAll spare + 1
  | .agg parts => uptoBulkAll parts + 1
  | .iface _ d => uptoBulk d + 1
  | .map entries => uptoBulkEntries entries + 1
  | .held _ => 1
def uptoBulkAll {H : Type} : List (DataW H) → Nat
  | [] => 0
  | d :: r => uptoBulk d + uptoBulkAll r
def uptoBulkEntries {H : Type} : List (Lit × DataW H) → Nat
  | [] => 0
  | x :: r => uptoBulkEntry x + uptoBulkEntries r
def uptoBulkEntry {H : Type} : Lit × DataW H → Nat
  | (.string bytes, d) => bytes.length + uptoBulk d + 1
  | (_, d) => uptoBulk d + 1
 end
def uptoSmall : (H : Type) → List (DataW H) → Bool := fun _ ds => decide (uptoBulkAll ds ≤ 1048576)
def OpenSpec.upto (s : _root_.Go.ChangeSpec) : _root_.Go.OpenSpec := { _root_.Go.OpenSpec.ofChange s with cond := some uptoSmall }

/-- 'rallentandolaw10.WinNames', WHERE WHAT IT READS IS OF BULK AT MOST 1048576: true; the input reads as it did. -/
def winNamesUptoRow : OpenClaim := { program := "ytcaoooddmmhieaadoor", sum := "b3be628575cc2c45aa3ae9294380a11adcbbaf93828c41a03d955f5ba5c8fccb", func := "rallentando/rallentandolaw10.WinNames", spec := "winNames", unfollowed := true, recurses := true, named := ["rallentando/zone.places"], apart := false, laid := [("rallentando/zone.places", laid_rallentando_zone_places)], narrowed := true }
def WinNamesUptoSaid : Prop := winNamesUptoRow.holds Tryd.pinned (OpenSpec.upto winNamesSpec)

/-- 'rallentandolaw10.WinTells', WHERE WHAT IT READS IS OF BULK AT MOST 1048576: true; the input reads as it did. -/
def winTellsUptoRow : OpenClaim := { program := "ytcaoooddmmhieaadoor", sum := "b3be628575cc2c45aa3ae9294380a11adcbbaf93828c41a03d955f5ba5c8fccb", func := "rallentando/rallentandolaw10.WinTells", spec := "winTells", unfollowed := true, recurses := true, named := ["rallentando/zone.places"], apart := false, laid := [("rallentando/zone.places", laid_rallentando_zone_places)], narrowed := true }
def WinTellsUptoSaid : Prop := winTellsUptoRow.holds Tryd.pinned (OpenSpec.upto winTellsSpec)

/-- 'rallentandolaw10.WinPoints', WHERE WHAT IT READS IS OF BULK AT MOST 1048576: true; the input reads as it did. -/
def winPointsUptoRow : OpenClaim := { program := "ytcaoooddmmhieaadoor", sum := "b3be628575cc2c45aa3ae9294380a11adcbbaf93828c41a03d955f5ba5c8fccb", func := "rallentando/rallentandolaw10.WinPoints", spec := "winPoints", inPlace := ["math/bits.Sub64", "math/bits.Add64"], unfollowed := true, recurses := true, named := ["rallentando/zone.places", "math/bits.divideError", "math/bits.overflowError"], apart := false, laid := [("rallentando/zone.places", laid_rallentando_zone_places)], narrowed := true }
def WinPointsUptoSaid : Prop := winPointsUptoRow.holds Tryd.pinned (OpenSpec.upto winPointsSpec)

/-- 'rallentandolaw10.WinOrder', WHERE WHAT IT READS IS OF BULK AT MOST 1048576: true; the input reads as it did. -/
def winOrderUptoRow : OpenClaim := { program := "ytcaoooddmmhieaadoor", sum := "b3be628575cc2c45aa3ae9294380a11adcbbaf93828c41a03d955f5ba5c8fccb", func := "rallentando/rallentandolaw10.WinOrder", spec := "winOrder", unfollowed := true, recurses := true, named := ["rallentando/zone.places"], apart := false, laid := [("rallentando/zone.places", laid_rallentando_zone_places)], narrowed := true }
def WinOrderUptoSaid : Prop := winOrderUptoRow.holds Tryd.pinned (OpenSpec.upto winOrderSpec)

/-- 'rallentandolaw10.WinShifts', WHERE WHAT IT READS IS OF BULK AT MOST 1048576: true; the input reads as it did. -/
def winShiftsUptoRow : OpenClaim := { program := "ytcaoooddmmhieaadoor", sum := "b3be628575cc2c45aa3ae9294380a11adcbbaf93828c41a03d955f5ba5c8fccb", func := "rallentando/rallentandolaw10.WinShifts", spec := "winShifts", inPlace := ["math/bits.Add64", "math/bits.Sub64"], unfollowed := true, recurses := true, named := ["rallentando/zone.places", "math/bits.divideError", "math/bits.overflowError"], apart := false, laid := [("rallentando/zone.places", laid_rallentando_zone_places)], narrowed := true }
def WinShiftsUptoSaid : Prop := winShiftsUptoRow.holds Tryd.pinned (OpenSpec.upto winShiftsSpec)

/-- 'rallentandolaw10.WinLess', WHERE WHAT IT READS IS OF BULK AT MOST 1048576: true; the input reads as it did. -/
def winLessUptoRow : OpenClaim := { program := "ytcaoooddmmhieaadoor", sum := "b3be628575cc2c45aa3ae9294380a11adcbbaf93828c41a03d955f5ba5c8fccb", func := "rallentando/rallentandolaw10.WinLess", spec := "winLess", unfollowed := true, recurses := true, named := ["rallentando/zone.places"], apart := false, laid := [("rallentando/zone.places", laid_rallentando_zone_places)], narrowed := true }
def WinLessUptoSaid : Prop := winLessUptoRow.holds Tryd.pinned (OpenSpec.upto winLessSpec)

end Rows
end Go.Proofs.YtcaoooddmmhieaaDoor
