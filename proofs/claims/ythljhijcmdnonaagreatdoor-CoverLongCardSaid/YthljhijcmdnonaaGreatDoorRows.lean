/-
  NARROWER THAN 'FOR EVERY INPUT', by the rows' own cells (each row's printed sentence says how): CoverNames: laid · CoverTells: laid · CoverLong: laid · CoverPrunes: laid.
  DERIVED. THE GIVEN ROWS OF THIS SEAT. 4 by the template 'for every input the law returns true; each argument reads behind the call as it read before'; 0 by the template 'total and deterministic' (their statements: YthljhijcmdnonaaGreatDoorTotals.lean).
  GIVEN WITH THE SEED: the statements are not yours to turn. If you find one false, say at which input.
  Laid BY PROGRAM, IN A SANDBOX (cutbox-rows.mjs): the forced cells as the released guide's own fill.sh prints them over the translation adb54948dc583f06… (all of the seat's roots in one cut). By AI agents, Wed Nov 11 2026. No macro, syntax, notation, axiom, sorry.
-/
import Derived.Test.YthljhijcmdnonaaGreatDoorChecked
import GoSem.Claim
import GoSem.ClaimJoined
import GoSem.ClaimMapViews
import Derived.JoinedTies
import Derived.KernelRfl
namespace Go.Proofs.YthljhijcmdnonaaGreatDoor
/- THE CELL 'sum', in the pinned program and in every row, IS THE sha256 OF THE DUMP (.gsa) THAT YthljhijcmdnonaaGreatDoorProg.lean LOADS. Nothing in Lean hashes anything: it is a label: what it is worth is what the hold of that sum in a sandbox is worth. -/
noncomputable def Tryz.pinned : Pinned := { name := "ythljhijcmdnonaagreatdoor", sum := "adb54948dc583f0617bdc0fc5a786769f0fc994c908e6701db772f6118602860", checked := Tryz.checked }
namespace Rows
def none {H : Type} : Left H := { results := [], args := [] }

/- WHAT THE LISTED PACKAGE-LEVEL VARIABLES READ AS WHEN THE CALL BEGINS. Each datum BY PROGRAM (the guide's laid-datum.mjs) off the statement by which the dump's own 'gosem.cut.vars' lays the variable. In a bare row this is a premise. The card (YthljhijcmdnonaaGreatDoorCards.lean) ties it to the program's text. -/
def laid_rallentando_zone_places {H : Type} : DataW H := .agg [.lit (.int .i64 3), .lit (.int .i64 1), .lit (.int .i64 6), .lit (.int .i64 2), .lit (.int .i64 7), .lit (.int .i64 5)]

/-- 'rallentandolaw12.CoverNames': WHATEVER THE INPUT: true; the input reads as it did. -/
def coverNamesSpec : ChangeSpec := { name := "coverNames", fn := fun _ => fun
  | [] => { results := [.lit (.bool true)], args := [] }
  | _ => none }
def coverNamesRow : OpenClaim := { program := "ythljhijcmdnonaagreatdoor", sum := "adb54948dc583f0617bdc0fc5a786769f0fc994c908e6701db772f6118602860", func := "rallentando/rallentandolaw12.CoverNames", spec := "coverNames", inPlace := ["math/bits.Add64"], unfollowed := true, recurses := true, named := ["rallentando/zone.places", "math/bits.divideError", "math/bits.overflowError"], apart := false, laid := [("rallentando/zone.places", laid_rallentando_zone_places)] }
def CoverNamesSaid : Prop := coverNamesRow.holds Tryz.pinned (OpenSpec.ofChange coverNamesSpec)

/-- ITS FALSE NEIGHBOUR: 'it returns false'. Refute it at one input. -/
def coverNamesWrong : ChangeSpec := { name := "coverNames", fn := fun _ => fun
  | [] => { results := [.lit (.bool false)], args := [] }
  | _ => none }
def CoverNamesWrongFalsely : Prop := coverNamesRow.holds Tryz.pinned (OpenSpec.ofChange coverNamesWrong)

/-- 'rallentandolaw12.CoverTells': WHATEVER THE INPUT: true; the input reads as it did. -/
def coverTellsSpec : ChangeSpec := { name := "coverTells", fn := fun _ => fun
  | [d1, d2, d3] => { results := [.lit (.bool true)], args := [d1, d2, d3] }
  | _ => none }
def coverTellsRow : OpenClaim := { program := "ythljhijcmdnonaagreatdoor", sum := "adb54948dc583f0617bdc0fc5a786769f0fc994c908e6701db772f6118602860", func := "rallentando/rallentandolaw12.CoverTells", spec := "coverTells", inPlace := ["math/bits.Add64"], unfollowed := true, recurses := true, named := ["rallentando/zone.places", "math/bits.divideError", "math/bits.overflowError"], apart := false, laid := [("rallentando/zone.places", laid_rallentando_zone_places)] }
def CoverTellsSaid : Prop := coverTellsRow.holds Tryz.pinned (OpenSpec.ofChange coverTellsSpec)

/-- ITS FALSE NEIGHBOUR: 'it returns false'. Refute it at one input. -/
def coverTellsWrong : ChangeSpec := { name := "coverTells", fn := fun _ => fun
  | [d1, d2, d3] => { results := [.lit (.bool false)], args := [d1, d2, d3] }
  | _ => none }
def CoverTellsWrongFalsely : Prop := coverTellsRow.holds Tryz.pinned (OpenSpec.ofChange coverTellsWrong)

/-- 'rallentandolaw12.CoverLong': WHATEVER THE INPUT: true; the input reads as it did. -/
def coverLongSpec : ChangeSpec := { name := "coverLong", fn := fun _ => fun
  | [d1, d2] => { results := [.lit (.bool true)], args := [d1, d2] }
  | _ => none }
def coverLongRow : OpenClaim := { program := "ythljhijcmdnonaagreatdoor", sum := "adb54948dc583f0617bdc0fc5a786769f0fc994c908e6701db772f6118602860", func := "rallentando/rallentandolaw12.CoverLong", spec := "coverLong", inPlace := ["math/bits.Add64"], unfollowed := true, recurses := true, named := ["rallentando/zone.places", "math/bits.divideError", "math/bits.overflowError"], apart := false, laid := [("rallentando/zone.places", laid_rallentando_zone_places)] }
def CoverLongSaid : Prop := coverLongRow.holds Tryz.pinned (OpenSpec.ofChange coverLongSpec)

/-- ITS FALSE NEIGHBOUR: 'it returns false'. Refute it at one input. -/
def coverLongWrong : ChangeSpec := { name := "coverLong", fn := fun _ => fun
  | [d1, d2] => { results := [.lit (.bool false)], args := [d1, d2] }
  | _ => none }
def CoverLongWrongFalsely : Prop := coverLongRow.holds Tryz.pinned (OpenSpec.ofChange coverLongWrong)

/-- 'rallentandolaw12.CoverPrunes': WHATEVER THE INPUT: true; the input reads as it did. -/
def coverPrunesSpec : ChangeSpec := { name := "coverPrunes", fn := fun _ => fun
  | [d1, d2] => { results := [.lit (.bool true)], args := [d1, d2] }
  | _ => none }
def coverPrunesRow : OpenClaim := { program := "ythljhijcmdnonaagreatdoor", sum := "adb54948dc583f0617bdc0fc5a786769f0fc994c908e6701db772f6118602860", func := "rallentando/rallentandolaw12.CoverPrunes", spec := "coverPrunes", inPlace := ["math/bits.Sub64"], unfollowed := true, recurses := true, named := ["rallentando/zone.places"], apart := false, laid := [("rallentando/zone.places", laid_rallentando_zone_places)] }
def CoverPrunesSaid : Prop := coverPrunesRow.holds Tryz.pinned (OpenSpec.ofChange coverPrunesSpec)

/-- ITS FALSE NEIGHBOUR: 'it returns false'. Refute it at one input. -/
def coverPrunesWrong : ChangeSpec := { name := "coverPrunes", fn := fun _ => fun
  | [d1, d2] => { results := [.lit (.bool false)], args := [d1, d2] }
  | _ => none }
def CoverPrunesWrongFalsely : Prop := coverPrunesRow.holds Tryz.pinned (OpenSpec.ofChange coverPrunesWrong)

/- THE SECOND FORM. 'bulk': how many values and letters a reading holds, each counted each time it is reached (what is shared counts as often as it is met; a slice's spare places count too). A statement '..UptoSaid' is the law's where the arguments, and the package variables that the reading takes, are together of bulk at most 1048576: NARROWER than '..Said'. Prove '..Said' where nothing that the law and all that it calls make is longer than what came in: it says more and counts as full. Else prove '..UptoSaid'. A law counts once. -/
mutual
def uptoBulk {H : Type} : DataW H → Nat
  | .lit (.string bytes) => bytes.length + 1
  | .lit _ => 1
  | .nil => 1
  | .ptr d => uptoBulk d + 1
  | .slice elems spare => uptoBulkAll elems + uptoBulkAll spare + 1
  | .agg parts => uptoBulkAll parts + 1
  | .iface _ d => uptoBulk d + 1
  | .map entries => uptoBulkEntries entries + 1
  | .held _ => 1
def uptoBulkAll {H : Type} : List (DataW H) → Nat
  | [] => 0
  | d :: r => uptoBulk d + uptoBulkAll r
def uptoBulkEntries {H : Type} : List (Lit × DataW H) → Nat
  | [] => 0
  | x :: r => uptoBulkEntry x + uptoBulkEntries r
def uptoBulkEntry {H : Type} : Lit × DataW H → Nat
  | (.string bytes, d) => bytes.length + uptoBulk d + 1
  | (_, d) => uptoBulk d + 1
 end
def uptoSmall : (H : Type) → List (DataW H) → Bool := fun _ ds => decide (uptoBulkAll ds ≤ 1048576)
def OpenSpec.upto (s : _root_.Go.ChangeSpec) : _root_.Go.OpenSpec := { _root_.Go.OpenSpec.ofChange s with cond := some uptoSmall }

/-- 'rallentandolaw12.CoverNames', WHERE WHAT IT READS IS OF BULK AT MOST 1048576: true; the input reads as it did. -/
def coverNamesUptoRow : OpenClaim := { program := "ythljhijcmdnonaagreatdoor", sum := "adb54948dc583f0617bdc0fc5a786769f0fc994c908e6701db772f6118602860", func := "rallentando/rallentandolaw12.CoverNames", spec := "coverNames", inPlace := ["math/bits.Add64"], unfollowed := true, recurses := true, named := ["rallentando/zone.places", "math/bits.divideError", "math/bits.overflowError"], apart := false, laid := [("rallentando/zone.places", laid_rallentando_zone_places)], narrowed := true }
def CoverNamesUptoSaid : Prop := coverNamesUptoRow.holds Tryz.pinned (OpenSpec.upto coverNamesSpec)

/-- 'rallentandolaw12.CoverTells', WHERE WHAT IT READS IS OF BULK AT MOST 1048576: true; the input reads as it did. -/
def coverTellsUptoRow : OpenClaim := { program := "ythljhijcmdnonaagreatdoor", sum := "adb54948dc583f0617bdc0fc5a786769f0fc994c908e6701db772f6118602860", func := "rallentando/rallentandolaw12.CoverTells", spec := "coverTells", inPlace := ["math/bits.Add64"], unfollowed := true, recurses := true, named := ["rallentando/zone.places", "math/bits.divideError", "math/bits.overflowError"], apart := false, laid := [("rallentando/zone.places", laid_rallentando_zone_places)], narrowed := true }
def CoverTellsUptoSaid : Prop := coverTellsUptoRow.holds Tryz.pinned (OpenSpec.upto coverTellsSpec)

/-- 'rallentandolaw12.CoverLong', WHERE WHAT IT READS IS OF BULK AT MOST 1048576: true; the input reads as it did. -/
def coverLongUptoRow : OpenClaim := { program := "ythljhijcmdnonaagreatdoor", sum := "adb54948dc583f0617bdc0fc5a786769f0fc994c908e6701db772f6118602860", func := "rallentando/rallentandolaw12.CoverLong", spec := "coverLong", inPlace := ["math/bits.Add64"], unfollowed := true, recurses := true, named := ["rallentando/zone.places", "math/bits.divideError", "math/bits.overflowError"], apart := false, laid := [("rallentando/zone.places", laid_rallentando_zone_places)], narrowed := true }
def CoverLongUptoSaid : Prop := coverLongUptoRow.holds Tryz.pinned (OpenSpec.upto coverLongSpec)

/-- 'rallentandolaw12.CoverPrunes', WHERE WHAT IT READS IS OF BULK AT MOST 1048576: true; the input reads as it did. -/
def coverPrunesUptoRow : OpenClaim := { program := "ythljhijcmdnonaagreatdoor", sum := "adb54948dc583f0617bdc0fc5a786769f0fc994c908e6701db772f6118602860", func := "rallentando/rallentandolaw12.CoverPrunes", spec := "coverPrunes", inPlace := ["math/bits.Sub64"], unfollowed := true, recurses := true, named := ["rallentando/zone.places"], apart := false, laid := [("rallentando/zone.places", laid_rallentando_zone_places)], narrowed := true }
def CoverPrunesUptoSaid : Prop := coverPrunesUptoRow.holds Tryz.pinned (OpenSpec.upto coverPrunesSpec)

end Rows
end Go.Proofs.YthljhijcmdnonaaGreatDoor
