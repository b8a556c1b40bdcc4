/-
  NARROWER THAN 'FOR EVERY INPUT', by the rows' own cells (each row's printed sentence says how): ZsetNames: laid · ZsetTells: laid · ZsetAsks: laid · ZsetLong: laid · ZsetPoints: laid · ZsetOrder: laid · ZsetComp: laid · ZsetWindows: laid · CoverTells: laid · CoverLong: laid · CoverPrunes: laid.
  DERIVED. THE GIVEN ROWS OF THIS SEAT. 11 by the template 'for every input the law returns true; each argument reads behind the call as it read before'; 0 by the template 'total and deterministic' (their statements: YthmljpccbjolgaaGreatDoorTotals.lean).
  GIVEN WITH THE SEED: the statements are not yours to turn. If you find one false, say at which input.
  Laid BY PROGRAM, IN A SANDBOX (cutbox-rows.mjs): the forced cells as the released guide's own fill.sh prints them over the translation 1a452a1c47ab4d0d… (all of the seat's roots in one cut). By AI agents, Wed Nov 11 2026. No macro, syntax, notation, axiom, sorry.
-/
import Derived.Test.YthmljpccbjolgaaGreatDoorChecked
import GoSem.Claim
import GoSem.ClaimJoined
import GoSem.ClaimMapViews
import Derived.JoinedTies
import Derived.KernelRfl
namespace Go.Proofs.YthmljpccbjolgaaGreatDoor
/- THE CELL 'sum', in the pinned program and in every row, IS THE sha256 OF THE DUMP (.gsa) THAT YthmljpccbjolgaaGreatDoorProg.lean LOADS. Nothing in Lean hashes anything: it is a label: what it is worth is what the hold of that sum in a sandbox is worth. -/
noncomputable def Tryz.pinned : Pinned := { name := "ythmljpccbjolgaagreatdoor", sum := "1a452a1c47ab4d0d55ad0fd1c3f94f061e4e3c799fa09589df933408d887050e", checked := Tryz.checked }
namespace Rows
def none {H : Type} : Left H := { results := [], args := [] }

/- WHAT THE LISTED PACKAGE-LEVEL VARIABLES READ AS WHEN THE CALL BEGINS. Each datum BY PROGRAM (the guide's laid-datum.mjs) off the statement by which the dump's own 'gosem.cut.vars' lays the variable. In a bare row this is a premise. The card (YthmljpccbjolgaaGreatDoorCards.lean) ties it to the program's text. -/
def laid_rallentando_zone_places {H : Type} : DataW H := .agg [.lit (.int .i64 3), .lit (.int .i64 1), .lit (.int .i64 6), .lit (.int .i64 2), .lit (.int .i64 7), .lit (.int .i64 5)]
def laid_rallentando_zset_all {H : Type} : DataW H := .agg [.lit (.int .i64 9223372036854775807), .lit (.int .i64 9223372036854775807), .lit (.int .i64 9223372036854775807), .lit (.int .i64 9223372036854775807), .lit (.int .i64 9223372036854775807), .lit (.int .i64 9223372036854775807)]

/-- 'rallentandolaw13.ZsetNames': WHATEVER THE INPUT: true; the input reads as it did. -/
def zsetNamesSpec : ChangeSpec := { name := "zsetNames", fn := fun _ => fun
  | [] => { results := [.lit (.bool true)], args := [] }
  | _ => none }
def zsetNamesRow : OpenClaim := { program := "ythmljpccbjolgaagreatdoor", sum := "1a452a1c47ab4d0d55ad0fd1c3f94f061e4e3c799fa09589df933408d887050e", func := "rallentando/rallentandolaw13.ZsetNames", spec := "zsetNames", unfollowed := true, recurses := true, named := ["rallentando/zone.places"], apart := false, laid := [("rallentando/zone.places", laid_rallentando_zone_places)] }
def ZsetNamesSaid : Prop := zsetNamesRow.holds Tryz.pinned (OpenSpec.ofChange zsetNamesSpec)

/-- ITS FALSE NEIGHBOUR: 'it returns false'. Refute it at one input. -/
def zsetNamesWrong : ChangeSpec := { name := "zsetNames", fn := fun _ => fun
  | [] => { results := [.lit (.bool false)], args := [] }
  | _ => none }
def ZsetNamesWrongFalsely : Prop := zsetNamesRow.holds Tryz.pinned (OpenSpec.ofChange zsetNamesWrong)

/-- 'rallentandolaw13.ZsetTells': WHATEVER THE INPUT: true; the input reads as it did. -/
def zsetTellsSpec : ChangeSpec := { name := "zsetTells", fn := fun _ => fun
  | [d1, d2] => { results := [.lit (.bool true)], args := [d1, d2] }
  | _ => none }
def zsetTellsRow : OpenClaim := { program := "ythmljpccbjolgaagreatdoor", sum := "1a452a1c47ab4d0d55ad0fd1c3f94f061e4e3c799fa09589df933408d887050e", func := "rallentando/rallentandolaw13.ZsetTells", spec := "zsetTells", unfollowed := true, recurses := true, named := ["rallentando/zone.places"], apart := false, laid := [("rallentando/zone.places", laid_rallentando_zone_places)] }
def ZsetTellsSaid : Prop := zsetTellsRow.holds Tryz.pinned (OpenSpec.ofChange zsetTellsSpec)

/-- ITS FALSE NEIGHBOUR: 'it returns false'. Refute it at one input. -/
def zsetTellsWrong : ChangeSpec := { name := "zsetTells", fn := fun _ => fun
  | [d1, d2] => { results := [.lit (.bool false)], args := [d1, d2] }
  | _ => none }
def ZsetTellsWrongFalsely : Prop := zsetTellsRow.holds Tryz.pinned (OpenSpec.ofChange zsetTellsWrong)

/-- 'rallentandolaw13.ZsetAsks': WHATEVER THE INPUT: true; the input reads as it did. -/
def zsetAsksSpec : ChangeSpec := { name := "zsetAsks", fn := fun _ => fun
  | [d1, d2, d3, d4, d5, d6] => { results := [.lit (.bool true)], args := [d1, d2, d3, d4, d5, d6] }
  | _ => none }
def zsetAsksRow : OpenClaim := { program := "ythmljpccbjolgaagreatdoor", sum := "1a452a1c47ab4d0d55ad0fd1c3f94f061e4e3c799fa09589df933408d887050e", func := "rallentando/rallentandolaw13.ZsetAsks", spec := "zsetAsks", inPlace := ["math/bits.Sub64"], unfollowed := true, recurses := true, named := ["rallentando/zone.places", "rallentando/zset.all"], apart := false, laid := [("rallentando/zone.places", laid_rallentando_zone_places), ("rallentando/zset.all", laid_rallentando_zset_all)] }
def ZsetAsksSaid : Prop := zsetAsksRow.holds Tryz.pinned (OpenSpec.ofChange zsetAsksSpec)

/-- ITS FALSE NEIGHBOUR: 'it returns false'. Refute it at one input. -/
def zsetAsksWrong : ChangeSpec := { name := "zsetAsks", fn := fun _ => fun
  | [d1, d2, d3, d4, d5, d6] => { results := [.lit (.bool false)], args := [d1, d2, d3, d4, d5, d6] }
  | _ => none }
def ZsetAsksWrongFalsely : Prop := zsetAsksRow.holds Tryz.pinned (OpenSpec.ofChange zsetAsksWrong)

/-- 'rallentandolaw13.ZsetLong': WHATEVER THE INPUT: true; the input reads as it did. -/
def zsetLongSpec : ChangeSpec := { name := "zsetLong", fn := fun _ => fun
  | [d] => { results := [.lit (.bool true)], args := [d] }
  | _ => none }
def zsetLongRow : OpenClaim := { program := "ythmljpccbjolgaagreatdoor", sum := "1a452a1c47ab4d0d55ad0fd1c3f94f061e4e3c799fa09589df933408d887050e", func := "rallentando/rallentandolaw13.ZsetLong", spec := "zsetLong", inPlace := ["math/bits.Sub64"], unfollowed := true, recurses := true, named := ["rallentando/zone.places", "rallentando/zset.all"], apart := false, laid := [("rallentando/zone.places", laid_rallentando_zone_places), ("rallentando/zset.all", laid_rallentando_zset_all)] }
def ZsetLongSaid : Prop := zsetLongRow.holds Tryz.pinned (OpenSpec.ofChange zsetLongSpec)

/-- ITS FALSE NEIGHBOUR: 'it returns false'. Refute it at one input. -/
def zsetLongWrong : ChangeSpec := { name := "zsetLong", fn := fun _ => fun
  | [d] => { results := [.lit (.bool false)], args := [d] }
  | _ => none }
def ZsetLongWrongFalsely : Prop := zsetLongRow.holds Tryz.pinned (OpenSpec.ofChange zsetLongWrong)

/-- 'rallentandolaw13.ZsetPoints': WHATEVER THE INPUT: true; the input reads as it did. -/
def zsetPointsSpec : ChangeSpec := { name := "zsetPoints", fn := fun _ => fun
  | [d1, d2, d3] => { results := [.lit (.bool true)], args := [d1, d2, d3] }
  | _ => none }
def zsetPointsRow : OpenClaim := { program := "ythmljpccbjolgaagreatdoor", sum := "1a452a1c47ab4d0d55ad0fd1c3f94f061e4e3c799fa09589df933408d887050e", func := "rallentando/rallentandolaw13.ZsetPoints", spec := "zsetPoints", inPlace := ["math/bits.Sub64"], unfollowed := true, recurses := true, named := ["rallentando/zone.places", "rallentando/zset.all"], apart := false, laid := [("rallentando/zone.places", laid_rallentando_zone_places), ("rallentando/zset.all", laid_rallentando_zset_all)] }
def ZsetPointsSaid : Prop := zsetPointsRow.holds Tryz.pinned (OpenSpec.ofChange zsetPointsSpec)

/-- ITS FALSE NEIGHBOUR: 'it returns false'. Refute it at one input. -/
def zsetPointsWrong : ChangeSpec := { name := "zsetPoints", fn := fun _ => fun
  | [d1, d2, d3] => { results := [.lit (.bool false)], args := [d1, d2, d3] }
  | _ => none }
def ZsetPointsWrongFalsely : Prop := zsetPointsRow.holds Tryz.pinned (OpenSpec.ofChange zsetPointsWrong)

/-- 'rallentandolaw13.ZsetOrder': WHATEVER THE INPUT: true; the input reads as it did. -/
def zsetOrderSpec : ChangeSpec := { name := "zsetOrder", fn := fun _ => fun
  | [d1, d2] => { results := [.lit (.bool true)], args := [d1, d2] }
  | _ => none }
def zsetOrderRow : OpenClaim := { program := "ythmljpccbjolgaagreatdoor", sum := "1a452a1c47ab4d0d55ad0fd1c3f94f061e4e3c799fa09589df933408d887050e", func := "rallentando/rallentandolaw13.ZsetOrder", spec := "zsetOrder", unfollowed := true, recurses := true, named := ["rallentando/zone.places"], apart := false, laid := [("rallentando/zone.places", laid_rallentando_zone_places)] }
def ZsetOrderSaid : Prop := zsetOrderRow.holds Tryz.pinned (OpenSpec.ofChange zsetOrderSpec)

/-- ITS FALSE NEIGHBOUR: 'it returns false'. Refute it at one input. -/
def zsetOrderWrong : ChangeSpec := { name := "zsetOrder", fn := fun _ => fun
  | [d1, d2] => { results := [.lit (.bool false)], args := [d1, d2] }
  | _ => none }
def ZsetOrderWrongFalsely : Prop := zsetOrderRow.holds Tryz.pinned (OpenSpec.ofChange zsetOrderWrong)

/-- 'rallentandolaw13.ZsetComp': WHATEVER THE INPUT: true; the input reads as it did. -/
def zsetCompSpec : ChangeSpec := { name := "zsetComp", fn := fun _ => fun
  | [d1, d2, d3] => { results := [.lit (.bool true)], args := [d1, d2, d3] }
  | _ => none }
def zsetCompRow : OpenClaim := { program := "ythmljpccbjolgaagreatdoor", sum := "1a452a1c47ab4d0d55ad0fd1c3f94f061e4e3c799fa09589df933408d887050e", func := "rallentando/rallentandolaw13.ZsetComp", spec := "zsetComp", unfollowed := true, recurses := true, named := ["rallentando/zone.places"], apart := false, laid := [("rallentando/zone.places", laid_rallentando_zone_places)] }
def ZsetCompSaid : Prop := zsetCompRow.holds Tryz.pinned (OpenSpec.ofChange zsetCompSpec)

/-- ITS FALSE NEIGHBOUR: 'it returns false'. Refute it at one input. -/
def zsetCompWrong : ChangeSpec := { name := "zsetComp", fn := fun _ => fun
  | [d1, d2, d3] => { results := [.lit (.bool false)], args := [d1, d2, d3] }
  | _ => none }
def ZsetCompWrongFalsely : Prop := zsetCompRow.holds Tryz.pinned (OpenSpec.ofChange zsetCompWrong)

/-- 'rallentandolaw13.ZsetWindows': WHATEVER THE INPUT: true; the input reads as it did. -/
def zsetWindowsSpec : ChangeSpec := { name := "zsetWindows", fn := fun _ => fun
  | [d1, d2, d3, d4, d5] => { results := [.lit (.bool true)], args := [d1, d2, d3, d4, d5] }
  | _ => none }
def zsetWindowsRow : OpenClaim := { program := "ythmljpccbjolgaagreatdoor", sum := "1a452a1c47ab4d0d55ad0fd1c3f94f061e4e3c799fa09589df933408d887050e", func := "rallentando/rallentandolaw13.ZsetWindows", spec := "zsetWindows", unfollowed := true, recurses := true, named := ["rallentando/zone.places", "rallentando/zset.all"], apart := false, laid := [("rallentando/zone.places", laid_rallentando_zone_places), ("rallentando/zset.all", laid_rallentando_zset_all)] }
def ZsetWindowsSaid : Prop := zsetWindowsRow.holds Tryz.pinned (OpenSpec.ofChange zsetWindowsSpec)

/-- ITS FALSE NEIGHBOUR: 'it returns false'. Refute it at one input. -/
def zsetWindowsWrong : ChangeSpec := { name := "zsetWindows", fn := fun _ => fun
  | [d1, d2, d3, d4, d5] => { results := [.lit (.bool false)], args := [d1, d2, d3, d4, d5] }
  | _ => none }
def ZsetWindowsWrongFalsely : Prop := zsetWindowsRow.holds Tryz.pinned (OpenSpec.ofChange zsetWindowsWrong)

/-- 'rallentandolaw12.CoverTells': WHATEVER THE INPUT: true; the input reads as it did. -/
def coverTellsSpec : ChangeSpec := { name := "coverTells", fn := fun _ => fun
  | [d1, d2, d3] => { results := [.lit (.bool true)], args := [d1, d2, d3] }
  | _ => none }
def coverTellsRow : OpenClaim := { program := "ythmljpccbjolgaagreatdoor", sum := "1a452a1c47ab4d0d55ad0fd1c3f94f061e4e3c799fa09589df933408d887050e", func := "rallentando/rallentandolaw12.CoverTells", spec := "coverTells", inPlace := ["math/bits.Add64"], unfollowed := true, recurses := true, named := ["rallentando/zone.places", "math/bits.divideError", "math/bits.overflowError"], apart := false, laid := [("rallentando/zone.places", laid_rallentando_zone_places)] }
def CoverTellsSaid : Prop := coverTellsRow.holds Tryz.pinned (OpenSpec.ofChange coverTellsSpec)

/-- ITS FALSE NEIGHBOUR: 'it returns false'. Refute it at one input. -/
def coverTellsWrong : ChangeSpec := { name := "coverTells", fn := fun _ => fun
  | [d1, d2, d3] => { results := [.lit (.bool false)], args := [d1, d2, d3] }
  | _ => none }
def CoverTellsWrongFalsely : Prop := coverTellsRow.holds Tryz.pinned (OpenSpec.ofChange coverTellsWrong)

/-- 'rallentandolaw12.CoverLong': WHATEVER THE INPUT: true; the input reads as it did. -/
def coverLongSpec : ChangeSpec := { name := "coverLong", fn := fun _ => fun
  | [d1, d2] => { results := [.lit (.bool true)], args := [d1, d2] }
  | _ => none }
def coverLongRow : OpenClaim := { program := "ythmljpccbjolgaagreatdoor", sum := "1a452a1c47ab4d0d55ad0fd1c3f94f061e4e3c799fa09589df933408d887050e", func := "rallentando/rallentandolaw12.CoverLong", spec := "coverLong", inPlace := ["math/bits.Add64"], unfollowed := true, recurses := true, named := ["rallentando/zone.places", "math/bits.divideError", "math/bits.overflowError"], apart := false, laid := [("rallentando/zone.places", laid_rallentando_zone_places)] }
def CoverLongSaid : Prop := coverLongRow.holds Tryz.pinned (OpenSpec.ofChange coverLongSpec)

/-- ITS FALSE NEIGHBOUR: 'it returns false'. Refute it at one input. -/
def coverLongWrong : ChangeSpec := { name := "coverLong", fn := fun _ => fun
  | [d1, d2] => { results := [.lit (.bool false)], args := [d1, d2] }
  | _ => none }
def CoverLongWrongFalsely : Prop := coverLongRow.holds Tryz.pinned (OpenSpec.ofChange coverLongWrong)

/-- 'rallentandolaw12.CoverPrunes': WHATEVER THE INPUT: true; the input reads as it did. -/
def coverPrunesSpec : ChangeSpec := { name := "coverPrunes", fn := fun _ => fun
  | [d1, d2] => { results := [.lit (.bool true)], args := [d1, d2] }
  | _ => none }
def coverPrunesRow : OpenClaim := { program := "ythmljpccbjolgaagreatdoor", sum := "1a452a1c47ab4d0d55ad0fd1c3f94f061e4e3c799fa09589df933408d887050e", func := "rallentando/rallentandolaw12.CoverPrunes", spec := "coverPrunes", inPlace := ["math/bits.Sub64"], unfollowed := true, recurses := true, named := ["rallentando/zone.places"], apart := false, laid := [("rallentando/zone.places", laid_rallentando_zone_places)] }
def CoverPrunesSaid : Prop := coverPrunesRow.holds Tryz.pinned (OpenSpec.ofChange coverPrunesSpec)

/-- ITS FALSE NEIGHBOUR: 'it returns false'. Refute it at one input. -/
def coverPrunesWrong : ChangeSpec := { name := "coverPrunes", fn := fun _ => fun
  | [d1, d2] => { results := [.lit (.bool false)], args := [d1, d2] }
  | _ => none }
def CoverPrunesWrongFalsely : Prop := coverPrunesRow.holds Tryz.pinned (OpenSpec.ofChange coverPrunesWrong)

/- THE SECOND FORM. 'bulk': how many values and letters a reading holds, each counted each time it is reached (what is shared counts as often as it is met; a slice's spare places count too). A statement '..UptoSaid' is the law's where the arguments, and the package variables that the reading takes, are together of bulk at most 1048576: NARROWER than '..Said'. Prove '..Said' where nothing that the law and all that it calls make is longer than what came in: it says more and counts as full. Else prove '..UptoSaid'. A law counts once. -/
mutual
def uptoBulk {H : Type} : DataW H → Nat
  | .lit (.string bytes) => bytes.length + 1
  | .lit _ => 1
  | .nil => 1
  | .ptr d => uptoBulk d + 1
  | .slice elems spare => uptoBulkAll elems + uptoBulkAll spare + 1
  | .agg parts => uptoBulkAll parts + 1
  | .iface _ d => uptoBulk d + 1
  | .map entries => uptoBulkEntries entries + 1
  | .held _ => 1
def uptoBulkAll {H : Type} : List (DataW H) → Nat
  | [] => 0
  | d :: r => uptoBulk d + uptoBulkAll r
def uptoBulkEntries {H : Type} : List (Lit × DataW H) → Nat
  | [] => 0
  | x :: r => uptoBulkEntry x + uptoBulkEntries r
def uptoBulkEntry {H : Type} : Lit × DataW H → Nat
  | (.string bytes, d) => bytes.length + uptoBulk d + 1
  | (_, d) => uptoBulk d + 1
 end
def uptoSmall : (H : Type) → List (DataW H) → Bool := fun _ ds => decide (uptoBulkAll ds ≤ 1048576)
def OpenSpec.upto (s : _root_.Go.ChangeSpec) : _root_.Go.OpenSpec := { _root_.Go.OpenSpec.ofChange s with cond := some uptoSmall }

/-- 'rallentandolaw13.ZsetNames', WHERE WHAT IT READS IS OF BULK AT MOST 1048576: true; the input reads as it did. -/
def zsetNamesUptoRow : OpenClaim := { program := "ythmljpccbjolgaagreatdoor", sum := "1a452a1c47ab4d0d55ad0fd1c3f94f061e4e3c799fa09589df933408d887050e", func := "rallentando/rallentandolaw13.ZsetNames", spec := "zsetNames", unfollowed := true, recurses := true, named := ["rallentando/zone.places"], apart := false, laid := [("rallentando/zone.places", laid_rallentando_zone_places)], narrowed := true }
def ZsetNamesUptoSaid : Prop := zsetNamesUptoRow.holds Tryz.pinned (OpenSpec.upto zsetNamesSpec)

/-- 'rallentandolaw13.ZsetTells', WHERE WHAT IT READS IS OF BULK AT MOST 1048576: true; the input reads as it did. -/
def zsetTellsUptoRow : OpenClaim := { program := "ythmljpccbjolgaagreatdoor", sum := "1a452a1c47ab4d0d55ad0fd1c3f94f061e4e3c799fa09589df933408d887050e", func := "rallentando/rallentandolaw13.ZsetTells", spec := "zsetTells", unfollowed := true, recurses := true, named := ["rallentando/zone.places"], apart := false, laid := [("rallentando/zone.places", laid_rallentando_zone_places)], narrowed := true }
def ZsetTellsUptoSaid : Prop := zsetTellsUptoRow.holds Tryz.pinned (OpenSpec.upto zsetTellsSpec)

/-- 'rallentandolaw13.ZsetAsks', WHERE WHAT IT READS IS OF BULK AT MOST 1048576: true; the input reads as it did. -/
def zsetAsksUptoRow : OpenClaim := { program := "ythmljpccbjolgaagreatdoor", sum := "1a452a1c47ab4d0d55ad0fd1c3f94f061e4e3c799fa09589df933408d887050e", func := "rallentando/rallentandolaw13.ZsetAsks", spec := "zsetAsks", inPlace := ["math/bits.Sub64"], unfollowed := true, recurses := true, named := ["rallentando/zone.places", "rallentando/zset.all"], apart := false, laid := [("rallentando/zone.places", laid_rallentando_zone_places), ("rallentando/zset.all", laid_rallentando_zset_all)], narrowed := true }
def ZsetAsksUptoSaid : Prop := zsetAsksUptoRow.holds Tryz.pinned (OpenSpec.upto zsetAsksSpec)

/-- 'rallentandolaw13.ZsetLong', WHERE WHAT IT READS IS OF BULK AT MOST 1048576: true; the input reads as it did. -/
def zsetLongUptoRow : OpenClaim := { program := "ythmljpccbjolgaagreatdoor", sum := "1a452a1c47ab4d0d55ad0fd1c3f94f061e4e3c799fa09589df933408d887050e", func := "rallentando/rallentandolaw13.ZsetLong", spec := "zsetLong", inPlace := ["math/bits.Sub64"], unfollowed := true, recurses := true, named := ["rallentando/zone.places", "rallentando/zset.all"], apart := false, laid := [("rallentando/zone.places", laid_rallentando_zone_places), ("rallentando/zset.all", laid_rallentando_zset_all)], narrowed := true }
def ZsetLongUptoSaid : Prop := zsetLongUptoRow.holds Tryz.pinned (OpenSpec.upto zsetLongSpec)

/-- 'rallentandolaw13.ZsetPoints', WHERE WHAT IT READS IS OF BULK AT MOST 1048576: true; the input reads as it did. -/
def zsetPointsUptoRow : OpenClaim := { program := "ythmljpccbjolgaagreatdoor", sum := "1a452a1c47ab4d0d55ad0fd1c3f94f061e4e3c799fa09589df933408d887050e", func := "rallentando/rallentandolaw13.ZsetPoints", spec := "zsetPoints", inPlace := ["math/bits.Sub64"], unfollowed := true, recurses := true, named := ["rallentando/zone.places", "rallentando/zset.all"], apart := false, laid := [("rallentando/zone.places", laid_rallentando_zone_places), ("rallentando/zset.all", laid_rallentando_zset_all)], narrowed := true }
def ZsetPointsUptoSaid : Prop := zsetPointsUptoRow.holds Tryz.pinned (OpenSpec.upto zsetPointsSpec)

/-- 'rallentandolaw13.ZsetOrder', WHERE WHAT IT READS IS OF BULK AT MOST 1048576: true; the input reads as it did. -/
def zsetOrderUptoRow : OpenClaim := { program := "ythmljpccbjolgaagreatdoor", sum := "1a452a1c47ab4d0d55ad0fd1c3f94f061e4e3c799fa09589df933408d887050e", func := "rallentando/rallentandolaw13.ZsetOrder", spec := "zsetOrder", unfollowed := true, recurses := true, named := ["rallentando/zone.places"], apart := false, laid := [("rallentando/zone.places", laid_rallentando_zone_places)], narrowed := true }
def ZsetOrderUptoSaid : Prop := zsetOrderUptoRow.holds Tryz.pinned (OpenSpec.upto zsetOrderSpec)

/-- 'rallentandolaw13.ZsetComp', WHERE WHAT IT READS IS OF BULK AT MOST 1048576: true; the input reads as it did. -/
def zsetCompUptoRow : OpenClaim := { program := "ythmljpccbjolgaagreatdoor", sum := "1a452a1c47ab4d0d55ad0fd1c3f94f061e4e3c799fa09589df933408d887050e", func := "rallentando/rallentandolaw13.ZsetComp", spec := "zsetComp", unfollowed := true, recurses := true, named := ["rallentando/zone.places"], apart := false, laid := [("rallentando/zone.places", laid_rallentando_zone_places)], narrowed := true }
def ZsetCompUptoSaid : Prop := zsetCompUptoRow.holds Tryz.pinned (OpenSpec.upto zsetCompSpec)

/-- 'rallentandolaw13.ZsetWindows', WHERE WHAT IT READS IS OF BULK AT MOST 1048576: true; the input reads as it did. -/
def zsetWindowsUptoRow : OpenClaim := { program := "ythmljpccbjolgaagreatdoor", sum := "1a452a1c47ab4d0d55ad0fd1c3f94f061e4e3c799fa09589df933408d887050e", func := "rallentando/rallentandolaw13.ZsetWindows", spec := "zsetWindows", unfollowed := true, recurses := true, named := ["rallentando/zone.places", "rallentando/zset.all"], apart := false, laid := [("rallentando/zone.places", laid_rallentando_zone_places), ("rallentando/zset.all", laid_rallentando_zset_all)], narrowed := true }
def ZsetWindowsUptoSaid : Prop := zsetWindowsUptoRow.holds Tryz.pinned (OpenSpec.upto zsetWindowsSpec)

/-- 'rallentandolaw12.CoverTells', WHERE WHAT IT READS IS OF BULK AT MOST 1048576: true; the input reads as it did. -/
def coverTellsUptoRow : OpenClaim := { program := "ythmljpccbjolgaagreatdoor", sum := "1a452a1c47ab4d0d55ad0fd1c3f94f061e4e3c799fa09589df933408d887050e", func := "rallentando/rallentandolaw12.CoverTells", spec := "coverTells", inPlace := ["math/bits.Add64"], unfollowed := true, recurses := true, named := ["rallentando/zone.places", "math/bits.divideError", "math/bits.overflowError"], apart := false, laid := [("rallentando/zone.places", laid_rallentando_zone_places)], narrowed := true }
def CoverTellsUptoSaid : Prop := coverTellsUptoRow.holds Tryz.pinned (OpenSpec.upto coverTellsSpec)

/-- 'rallentandolaw12.CoverLong', WHERE WHAT IT READS IS OF BULK AT MOST 1048576: true; the input reads as it did. -/
def coverLongUptoRow : OpenClaim := { program := "ythmljpccbjolgaagreatdoor", sum := "1a452a1c47ab4d0d55ad0fd1c3f94f061e4e3c799fa09589df933408d887050e", func := "rallentando/rallentandolaw12.CoverLong", spec := "coverLong", inPlace := ["math/bits.Add64"], unfollowed := true, recurses := true, named := ["rallentando/zone.places", "math/bits.divideError", "math/bits.overflowError"], apart := false, laid := [("rallentando/zone.places", laid_rallentando_zone_places)], narrowed := true }
def CoverLongUptoSaid : Prop := coverLongUptoRow.holds Tryz.pinned (OpenSpec.upto coverLongSpec)

/-- 'rallentandolaw12.CoverPrunes', WHERE WHAT IT READS IS OF BULK AT MOST 1048576: true; the input reads as it did. -/
def coverPrunesUptoRow : OpenClaim := { program := "ythmljpccbjolgaagreatdoor", sum := "1a452a1c47ab4d0d55ad0fd1c3f94f061e4e3c799fa09589df933408d887050e", func := "rallentando/rallentandolaw12.CoverPrunes", spec := "coverPrunes", inPlace := ["math/bits.Sub64"], unfollowed := true, recurses := true, named := ["rallentando/zone.places"], apart := false, laid := [("rallentando/zone.places", laid_rallentando_zone_places)], narrowed := true }
def CoverPrunesUptoSaid : Prop := coverPrunesUptoRow.holds Tryz.pinned (OpenSpec.upto coverPrunesSpec)

end Rows
end Go.Proofs.YthmljpccbjolgaaGreatDoor
