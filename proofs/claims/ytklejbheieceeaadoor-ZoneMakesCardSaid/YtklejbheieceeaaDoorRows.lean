/-
  NARROWER THAN 'FOR EVERY INPUT', by the rows' own cells (each row's printed sentence says how): ZoneNames: laid · ZoneMakes: laid · ZoneMeets: laid · ZonePicks: laid · ZoneSpans: laid · ZoneOrder: laid.
  DERIVED. THE GIVEN ROWS OF THIS SEAT. 6 by the template 'for every input the law returns true; each argument reads behind the call as it read before'; 0 by the template 'total and deterministic' (their statements: YtklejbheieceeaaDoorTotals.lean).
  GIVEN WITH THE SEED: the statements are not yours to turn. If you find one false, say at which input.
  Laid BY PROGRAM, IN A SANDBOX (cutbox-rows.mjs): the forced cells as the released guide's own fill.sh prints them over the translation 42b72903c1b3a823… (all of the seat's roots in one cut). By AI agents, Wed Nov 11 2026. No macro, syntax, notation, axiom, sorry.
-/
import Derived.Test.YtklejbheieceeaaDoorChecked
import GoSem.Claim
import GoSem.ClaimJoined
import GoSem.ClaimMapViews
import Derived.JoinedTies
import Derived.KernelRfl
namespace Go.Proofs.YtklejbheieceeaaDoor
/- THE CELL 'sum', in the pinned program and in every row, IS THE sha256 OF THE DUMP (.gsa) THAT YtklejbheieceeaaDoorProg.lean LOADS. Nothing in Lean hashes anything: it is a label: what it is worth is what the hold of that sum in a sandbox is worth. -/
noncomputable def Tryd.pinned : Pinned := { name := "ytklejbheieceeaadoor", sum := "42b72903c1b3a8238649a41fe50fca366fb1eacf95dd7f92caa3e1f2be2bdf30", checked := Tryd.checked }
namespace Rows
def none {H : Type} : Left H := { results := [], args := [] }

/- WHAT THE LISTED PACKAGE-LEVEL VARIABLES READ AS WHEN THE CALL BEGINS. Each datum BY PROGRAM (the guide's laid-datum.mjs) off the statement by which the dump's own 'gosem.cut.vars' lays the variable. In a bare row this is a premise. The card (YtklejbheieceeaaDoorCards.lean) ties it to the program's text. -/
def laid_rallentando_zone_places {H : Type} : DataW H := .agg [.lit (.int .i64 3), .lit (.int .i64 1), .lit (.int .i64 6), .lit (.int .i64 2), .lit (.int .i64 7), .lit (.int .i64 5)]

/-- 'rallentandolaw08.ZoneNames': WHATEVER THE INPUT: true; the input reads as it did. -/
def zoneNamesSpec : ChangeSpec := { name := "zoneNames", fn := fun _ => fun
  | [] => { results := [.lit (.bool true)], args := [] }
  | _ => none }
def zoneNamesRow : OpenClaim := { program := "ytklejbheieceeaadoor", sum := "42b72903c1b3a8238649a41fe50fca366fb1eacf95dd7f92caa3e1f2be2bdf30", func := "rallentando/rallentandolaw08.ZoneNames", spec := "zoneNames", inPlace := ["math/bits.Add64", "math/bits.Sub64"], unfollowed := true, recurses := true, named := ["rallentando/zone.places", "math/bits.divideError", "math/bits.overflowError"], apart := false, laid := [("rallentando/zone.places", laid_rallentando_zone_places)] }
def ZoneNamesSaid : Prop := zoneNamesRow.holds Tryd.pinned (OpenSpec.ofChange zoneNamesSpec)

/-- ITS FALSE NEIGHBOUR: 'it returns false'. Refute it at one input. -/
def zoneNamesWrong : ChangeSpec := { name := "zoneNames", fn := fun _ => fun
  | [] => { results := [.lit (.bool false)], args := [] }
  | _ => none }
def ZoneNamesWrongFalsely : Prop := zoneNamesRow.holds Tryd.pinned (OpenSpec.ofChange zoneNamesWrong)

/-- 'rallentandolaw08.ZoneMakes': WHATEVER THE INPUT: true; the input reads as it did. -/
def zoneMakesSpec : ChangeSpec := { name := "zoneMakes", fn := fun _ => fun
  | [d1, d2, d3] => { results := [.lit (.bool true)], args := [d1, d2, d3] }
  | _ => none }
def zoneMakesRow : OpenClaim := { program := "ytklejbheieceeaadoor", sum := "42b72903c1b3a8238649a41fe50fca366fb1eacf95dd7f92caa3e1f2be2bdf30", func := "rallentando/rallentandolaw08.ZoneMakes", spec := "zoneMakes", unfollowed := true, recurses := true, named := ["rallentando/zone.places"], apart := false, laid := [("rallentando/zone.places", laid_rallentando_zone_places)] }
def ZoneMakesSaid : Prop := zoneMakesRow.holds Tryd.pinned (OpenSpec.ofChange zoneMakesSpec)

/-- ITS FALSE NEIGHBOUR: 'it returns false'. Refute it at one input. -/
def zoneMakesWrong : ChangeSpec := { name := "zoneMakes", fn := fun _ => fun
  | [d1, d2, d3] => { results := [.lit (.bool false)], args := [d1, d2, d3] }
  | _ => none }
def ZoneMakesWrongFalsely : Prop := zoneMakesRow.holds Tryd.pinned (OpenSpec.ofChange zoneMakesWrong)

/-- 'rallentandolaw08.ZoneMeets': WHATEVER THE INPUT: true; the input reads as it did. -/
def zoneMeetsSpec : ChangeSpec := { name := "zoneMeets", fn := fun _ => fun
  | [d1, d2, d3] => { results := [.lit (.bool true)], args := [d1, d2, d3] }
  | _ => none }
def zoneMeetsRow : OpenClaim := { program := "ytklejbheieceeaadoor", sum := "42b72903c1b3a8238649a41fe50fca366fb1eacf95dd7f92caa3e1f2be2bdf30", func := "rallentando/rallentandolaw08.ZoneMeets", spec := "zoneMeets", inPlace := ["math/bits.Sub64"], unfollowed := true, recurses := true, named := ["rallentando/zone.places", "math/bits.divideError", "math/bits.overflowError"], apart := false, laid := [("rallentando/zone.places", laid_rallentando_zone_places)] }
def ZoneMeetsSaid : Prop := zoneMeetsRow.holds Tryd.pinned (OpenSpec.ofChange zoneMeetsSpec)

/-- ITS FALSE NEIGHBOUR: 'it returns false'. Refute it at one input. -/
def zoneMeetsWrong : ChangeSpec := { name := "zoneMeets", fn := fun _ => fun
  | [d1, d2, d3] => { results := [.lit (.bool false)], args := [d1, d2, d3] }
  | _ => none }
def ZoneMeetsWrongFalsely : Prop := zoneMeetsRow.holds Tryd.pinned (OpenSpec.ofChange zoneMeetsWrong)

/-- 'rallentandolaw08.ZonePicks': WHATEVER THE INPUT: true; the input reads as it did. -/
def zonePicksSpec : ChangeSpec := { name := "zonePicks", fn := fun _ => fun
  | [d1, d2] => { results := [.lit (.bool true)], args := [d1, d2] }
  | _ => none }
def zonePicksRow : OpenClaim := { program := "ytklejbheieceeaadoor", sum := "42b72903c1b3a8238649a41fe50fca366fb1eacf95dd7f92caa3e1f2be2bdf30", func := "rallentando/rallentandolaw08.ZonePicks", spec := "zonePicks", inPlace := ["math/bits.Sub64", "math/bits.Add64"], unfollowed := true, recurses := true, named := ["rallentando/zone.places", "math/bits.divideError", "math/bits.overflowError"], apart := false, laid := [("rallentando/zone.places", laid_rallentando_zone_places)] }
def ZonePicksSaid : Prop := zonePicksRow.holds Tryd.pinned (OpenSpec.ofChange zonePicksSpec)

/-- ITS FALSE NEIGHBOUR: 'it returns false'. Refute it at one input. -/
def zonePicksWrong : ChangeSpec := { name := "zonePicks", fn := fun _ => fun
  | [d1, d2] => { results := [.lit (.bool false)], args := [d1, d2] }
  | _ => none }
def ZonePicksWrongFalsely : Prop := zonePicksRow.holds Tryd.pinned (OpenSpec.ofChange zonePicksWrong)

/-- 'rallentandolaw08.ZoneSpans': WHATEVER THE INPUT: true; the input reads as it did. -/
def zoneSpansSpec : ChangeSpec := { name := "zoneSpans", fn := fun _ => fun
  | [d1, d2, d3, d4] => { results := [.lit (.bool true)], args := [d1, d2, d3, d4] }
  | _ => none }
def zoneSpansRow : OpenClaim := { program := "ytklejbheieceeaadoor", sum := "42b72903c1b3a8238649a41fe50fca366fb1eacf95dd7f92caa3e1f2be2bdf30", func := "rallentando/rallentandolaw08.ZoneSpans", spec := "zoneSpans", inPlace := ["math/bits.Sub64", "math/bits.Add64"], unfollowed := true, recurses := true, named := ["rallentando/zone.places", "math/bits.divideError", "math/bits.overflowError"], apart := false, laid := [("rallentando/zone.places", laid_rallentando_zone_places)] }
def ZoneSpansSaid : Prop := zoneSpansRow.holds Tryd.pinned (OpenSpec.ofChange zoneSpansSpec)

/-- ITS FALSE NEIGHBOUR: 'it returns false'. Refute it at one input. -/
def zoneSpansWrong : ChangeSpec := { name := "zoneSpans", fn := fun _ => fun
  | [d1, d2, d3, d4] => { results := [.lit (.bool false)], args := [d1, d2, d3, d4] }
  | _ => none }
def ZoneSpansWrongFalsely : Prop := zoneSpansRow.holds Tryd.pinned (OpenSpec.ofChange zoneSpansWrong)

/-- 'rallentandolaw08.ZoneOrder': WHATEVER THE INPUT: true; the input reads as it did. -/
def zoneOrderSpec : ChangeSpec := { name := "zoneOrder", fn := fun _ => fun
  | [d1, d2, d3] => { results := [.lit (.bool true)], args := [d1, d2, d3] }
  | _ => none }
def zoneOrderRow : OpenClaim := { program := "ytklejbheieceeaadoor", sum := "42b72903c1b3a8238649a41fe50fca366fb1eacf95dd7f92caa3e1f2be2bdf30", func := "rallentando/rallentandolaw08.ZoneOrder", spec := "zoneOrder", inPlace := ["math/bits.Sub64"], unfollowed := true, recurses := true, named := ["rallentando/zone.places", "math/bits.divideError", "math/bits.overflowError"], apart := false, laid := [("rallentando/zone.places", laid_rallentando_zone_places)] }
def ZoneOrderSaid : Prop := zoneOrderRow.holds Tryd.pinned (OpenSpec.ofChange zoneOrderSpec)

/-- ITS FALSE NEIGHBOUR: 'it returns false'. Refute it at one input. -/
def zoneOrderWrong : ChangeSpec := { name := "zoneOrder", fn := fun _ => fun
  | [d1, d2, d3] => { results := [.lit (.bool false)], args := [d1, d2, d3] }
  | _ => none }
def ZoneOrderWrongFalsely : Prop := zoneOrderRow.holds Tryd.pinned (OpenSpec.ofChange zoneOrderWrong)

/- THE SECOND FORM. 'bulk': how many values and letters a reading holds, each counted each time it is reached (what is shared counts as often as it is met; a slice's spare places count too). A statement '..UptoSaid' is the law's where the arguments, and the package variables that the reading takes, are together of bulk at most 1048576: NARROWER than '..Said'. Prove '..Said' where nothing that the law and all that it calls make is longer than what came in: it says more and counts as full. Else prove '..UptoSaid'. A law counts once. -/
mutual
def uptoBulk {H : Type} : DataW H → Nat
  | .lit (.string bytes) => bytes.length + 1
  | .lit _ => 1
  | .nil => 1
  | .ptr d => uptoBulk d + 1
  | .slice elems spare => uptoBulkAll elems + uptoBulkAll spare + 1
  | .agg parts => uptoBulkAll parts + 1
  | .iface _ d => uptoBulk d + 1
  | .map entries => uptoBulkEntries entries + 1
  | .held _ => 1
def uptoBulkAll {H : Type} : List (DataW H) → Nat
  | [] => 0
  | d :: r => uptoBulk d + uptoBulkAll r
def uptoBulkEntries {H : Type} : List (Lit × DataW H) → Nat
  | [] => 0
  | x :: r => uptoBulkEntry x + uptoBulkEntries r
def uptoBulkEntry {H : Type} : Lit × DataW H → Nat
  | (.string bytes, d) => bytes.length + uptoBulk d + 1
  | (_, d) => uptoBulk d + 1
 end
def uptoSmall : (H : Type) → List (DataW H) → Bool := fun _ ds => decide (uptoBulkAll ds ≤ 1048576)
def OpenSpec.upto (s : _root_.Go.ChangeSpec) : _root_.Go.OpenSpec := { _root_.Go.OpenSpec.ofChange s with cond := some uptoSmall }

/-- 'rallentandolaw08.ZoneNames', WHERE WHAT IT READS IS OF BULK AT MOST 1048576: true; the input reads as it did. -/
def zoneNamesUptoRow : OpenClaim := { program := "ytklejbheieceeaadoor", sum := "42b72903c1b3a8238649a41fe50fca366fb1eacf95dd7f92caa3e1f2be2bdf30", func := "rallentando/rallentandolaw08.ZoneNames", spec := "zoneNames", inPlace := ["math/bits.Add64", "math/bits.Sub64"], unfollowed := true, recurses := true, named := ["rallentando/zone.places", "math/bits.divideError", "math/bits.overflowError"], apart := false, laid := [("rallentando/zone.places", laid_rallentando_zone_places)], narrowed := true }
def ZoneNamesUptoSaid : Prop := zoneNamesUptoRow.holds Tryd.pinned (OpenSpec.upto zoneNamesSpec)

/-- 'rallentandolaw08.ZoneMakes', WHERE WHAT IT READS IS OF BULK AT MOST 1048576: true; the input reads as it did. -/
def zoneMakesUptoRow : OpenClaim := { program := "ytklejbheieceeaadoor", sum := "42b72903c1b3a8238649a41fe50fca366fb1eacf95dd7f92caa3e1f2be2bdf30", func := "rallentando/rallentandolaw08.ZoneMakes", spec := "zoneMakes", unfollowed := true, recurses := true, named := ["rallentando/zone.places"], apart := false, laid := [("rallentando/zone.places", laid_rallentando_zone_places)], narrowed := true }
def ZoneMakesUptoSaid : Prop := zoneMakesUptoRow.holds Tryd.pinned (OpenSpec.upto zoneMakesSpec)

/-- 'rallentandolaw08.ZoneMeets', WHERE WHAT IT READS IS OF BULK AT MOST 1048576: true; the input reads as it did. -/
def zoneMeetsUptoRow : OpenClaim := { program := "ytklejbheieceeaadoor", sum := "42b72903c1b3a8238649a41fe50fca366fb1eacf95dd7f92caa3e1f2be2bdf30", func := "rallentando/rallentandolaw08.ZoneMeets", spec := "zoneMeets", inPlace := ["math/bits.Sub64"], unfollowed := true, recurses := true, named := ["rallentando/zone.places", "math/bits.divideError", "math/bits.overflowError"], apart := false, laid := [("rallentando/zone.places", laid_rallentando_zone_places)], narrowed := true }
def ZoneMeetsUptoSaid : Prop := zoneMeetsUptoRow.holds Tryd.pinned (OpenSpec.upto zoneMeetsSpec)

/-- 'rallentandolaw08.ZonePicks', WHERE WHAT IT READS IS OF BULK AT MOST 1048576: true; the input reads as it did. -/
def zonePicksUptoRow : OpenClaim := { program := "ytklejbheieceeaadoor", sum := "42b72903c1b3a8238649a41fe50fca366fb1eacf95dd7f92caa3e1f2be2bdf30", func := "rallentando/rallentandolaw08.ZonePicks", spec := "zonePicks", inPlace := ["math/bits.Sub64", "math/bits.Add64"], unfollowed := true, recurses := true, named := ["rallentando/zone.places", "math/bits.divideError", "math/bits.overflowError"], apart := false, laid := [("rallentando/zone.places", laid_rallentando_zone_places)], narrowed := true }
def ZonePicksUptoSaid : Prop := zonePicksUptoRow.holds Tryd.pinned (OpenSpec.upto zonePicksSpec)

/-- 'rallentandolaw08.ZoneSpans', WHERE WHAT IT READS IS OF BULK AT MOST 1048576: true; the input reads as it did. -/
def zoneSpansUptoRow : OpenClaim := { program := "ytklejbheieceeaadoor", sum := "42b72903c1b3a8238649a41fe50fca366fb1eacf95dd7f92caa3e1f2be2bdf30", func := "rallentando/rallentandolaw08.ZoneSpans", spec := "zoneSpans", inPlace := ["math/bits.Sub64", "math/bits.Add64"], unfollowed := true, recurses := true, named := ["rallentando/zone.places", "math/bits.divideError", "math/bits.overflowError"], apart := false, laid := [("rallentando/zone.places", laid_rallentando_zone_places)], narrowed := true }
def ZoneSpansUptoSaid : Prop := zoneSpansUptoRow.holds Tryd.pinned (OpenSpec.upto zoneSpansSpec)

/-- 'rallentandolaw08.ZoneOrder', WHERE WHAT IT READS IS OF BULK AT MOST 1048576: true; the input reads as it did. -/
def zoneOrderUptoRow : OpenClaim := { program := "ytklejbheieceeaadoor", sum := "42b72903c1b3a8238649a41fe50fca366fb1eacf95dd7f92caa3e1f2be2bdf30", func := "rallentando/rallentandolaw08.ZoneOrder", spec := "zoneOrder", inPlace := ["math/bits.Sub64"], unfollowed := true, recurses := true, named := ["rallentando/zone.places", "math/bits.divideError", "math/bits.overflowError"], apart := false, laid := [("rallentando/zone.places", laid_rallentando_zone_places)], narrowed := true }
def ZoneOrderUptoSaid : Prop := zoneOrderUptoRow.holds Tryd.pinned (OpenSpec.upto zoneOrderSpec)

end Rows
end Go.Proofs.YtklejbheieceeaaDoor
