/-
  NARROWER THAN 'FOR EVERY INPUT', by the rows' own cells (each row's printed sentence says how): CompNames: laid · CompTells: laid · CompPoints: laid · CompOrder: laid · CompFirsts: laid.
  DERIVED. THE GIVEN ROWS OF THIS SEAT. 5 by the template 'for every input the law returns true; each argument reads behind the call as it read before'; 0 by the template 'total and deterministic' (their statements: YtngjkebmilpemaaDoorTotals.lean).
  GIVEN WITH THE SEED: the statements are not yours to turn. If you find one false, say at which input.
  Laid BY PROGRAM, IN A SANDBOX (cutbox-rows.mjs): the forced cells as the released guide's own fill.sh prints them over the translation 2107e91de076e3ed… (all of the seat's roots in one cut). By AI agents, Wed Nov 11 2026. No macro, syntax, notation, axiom, sorry.
-/
import Derived.Test.YtngjkebmilpemaaDoorChecked
import GoSem.Claim
import GoSem.ClaimJoined
import GoSem.ClaimMapViews
import Derived.JoinedTies
import Derived.KernelRfl
namespace Go.Proofs.YtngjkebmilpemaaDoor
/- THE CELL 'sum', in the pinned program and in every row, IS THE sha256 OF THE DUMP (.gsa) THAT YtngjkebmilpemaaDoorProg.lean LOADS. Nothing in Lean hashes anything: it is a label: what it is worth is what the hold of that sum in a sandbox is worth. -/
noncomputable def Tryd.pinned : Pinned := { name := "ytngjkebmilpemaadoor", sum := "2107e91de076e3ed49bcca136a76285f5af1998693796f79e9083db7c53e6d02", checked := Tryd.checked }
namespace Rows
def none {H : Type} : Left H := { results := [], args := [] }

/- WHAT THE LISTED PACKAGE-LEVEL VARIABLES READ AS WHEN THE CALL BEGINS. Each datum BY PROGRAM (the guide's laid-datum.mjs) off the statement by which the dump's own 'gosem.cut.vars' lays the variable. In a bare row this is a premise. The card (YtngjkebmilpemaaDoorCards.lean) ties it to the program's text. -/
def laid_rallentando_zone_places {H : Type} : DataW H := .agg [.lit (.int .i64 3), .lit (.int .i64 1), .lit (.int .i64 6), .lit (.int .i64 2), .lit (.int .i64 7), .lit (.int .i64 5)]

/-- 'rallentandolaw09.CompNames': WHATEVER THE INPUT: true; the input reads as it did. -/
def compNamesSpec : ChangeSpec := { name := "compNames", fn := fun _ => fun
  | [] => { results := [.lit (.bool true)], args := [] }
  | _ => none }
def compNamesRow : OpenClaim := { program := "ytngjkebmilpemaadoor", sum := "2107e91de076e3ed49bcca136a76285f5af1998693796f79e9083db7c53e6d02", func := "rallentando/rallentandolaw09.CompNames", spec := "compNames", unfollowed := true, recurses := true, named := ["rallentando/zone.places"], apart := false, laid := [("rallentando/zone.places", laid_rallentando_zone_places)] }
def CompNamesSaid : Prop := compNamesRow.holds Tryd.pinned (OpenSpec.ofChange compNamesSpec)

/-- ITS FALSE NEIGHBOUR: 'it returns false'. Refute it at one input. -/
def compNamesWrong : ChangeSpec := { name := "compNames", fn := fun _ => fun
  | [] => { results := [.lit (.bool false)], args := [] }
  | _ => none }
def CompNamesWrongFalsely : Prop := compNamesRow.holds Tryd.pinned (OpenSpec.ofChange compNamesWrong)

/-- 'rallentandolaw09.CompTells': WHATEVER THE INPUT: true; the input reads as it did. -/
def compTellsSpec : ChangeSpec := { name := "compTells", fn := fun _ => fun
  | [d1, d2] => { results := [.lit (.bool true)], args := [d1, d2] }
  | _ => none }
def compTellsRow : OpenClaim := { program := "ytngjkebmilpemaadoor", sum := "2107e91de076e3ed49bcca136a76285f5af1998693796f79e9083db7c53e6d02", func := "rallentando/rallentandolaw09.CompTells", spec := "compTells", unfollowed := true, recurses := true, named := ["rallentando/zone.places"], apart := false, laid := [("rallentando/zone.places", laid_rallentando_zone_places)] }
def CompTellsSaid : Prop := compTellsRow.holds Tryd.pinned (OpenSpec.ofChange compTellsSpec)

/-- ITS FALSE NEIGHBOUR: 'it returns false'. Refute it at one input. -/
def compTellsWrong : ChangeSpec := { name := "compTells", fn := fun _ => fun
  | [d1, d2] => { results := [.lit (.bool false)], args := [d1, d2] }
  | _ => none }
def CompTellsWrongFalsely : Prop := compTellsRow.holds Tryd.pinned (OpenSpec.ofChange compTellsWrong)

/-- 'rallentandolaw09.CompPoints': WHATEVER THE INPUT: true; the input reads as it did. -/
def compPointsSpec : ChangeSpec := { name := "compPoints", fn := fun _ => fun
  | [d1, d2, d3] => { results := [.lit (.bool true)], args := [d1, d2, d3] }
  | _ => none }
def compPointsRow : OpenClaim := { program := "ytngjkebmilpemaadoor", sum := "2107e91de076e3ed49bcca136a76285f5af1998693796f79e9083db7c53e6d02", func := "rallentando/rallentandolaw09.CompPoints", spec := "compPoints", inPlace := ["math/bits.Add64", "math/bits.Sub64"], unfollowed := true, recurses := true, named := ["rallentando/zone.places", "math/bits.divideError", "math/bits.overflowError"], apart := false, laid := [("rallentando/zone.places", laid_rallentando_zone_places)] }
def CompPointsSaid : Prop := compPointsRow.holds Tryd.pinned (OpenSpec.ofChange compPointsSpec)

/-- ITS FALSE NEIGHBOUR: 'it returns false'. Refute it at one input. -/
def compPointsWrong : ChangeSpec := { name := "compPoints", fn := fun _ => fun
  | [d1, d2, d3] => { results := [.lit (.bool false)], args := [d1, d2, d3] }
  | _ => none }
def CompPointsWrongFalsely : Prop := compPointsRow.holds Tryd.pinned (OpenSpec.ofChange compPointsWrong)

/-- 'rallentandolaw09.CompOrder': WHATEVER THE INPUT: true; the input reads as it did. -/
def compOrderSpec : ChangeSpec := { name := "compOrder", fn := fun _ => fun
  | [d1, d2, d3] => { results := [.lit (.bool true)], args := [d1, d2, d3] }
  | _ => none }
def compOrderRow : OpenClaim := { program := "ytngjkebmilpemaadoor", sum := "2107e91de076e3ed49bcca136a76285f5af1998693796f79e9083db7c53e6d02", func := "rallentando/rallentandolaw09.CompOrder", spec := "compOrder", unfollowed := true, recurses := true, named := ["rallentando/zone.places"], apart := false, laid := [("rallentando/zone.places", laid_rallentando_zone_places)] }
def CompOrderSaid : Prop := compOrderRow.holds Tryd.pinned (OpenSpec.ofChange compOrderSpec)

/-- ITS FALSE NEIGHBOUR: 'it returns false'. Refute it at one input. -/
def compOrderWrong : ChangeSpec := { name := "compOrder", fn := fun _ => fun
  | [d1, d2, d3] => { results := [.lit (.bool false)], args := [d1, d2, d3] }
  | _ => none }
def CompOrderWrongFalsely : Prop := compOrderRow.holds Tryd.pinned (OpenSpec.ofChange compOrderWrong)

/-- 'rallentandolaw09.CompFirsts': WHATEVER THE INPUT: true; the input reads as it did. -/
def compFirstsSpec : ChangeSpec := { name := "compFirsts", fn := fun _ => fun
  | [d1, d2] => { results := [.lit (.bool true)], args := [d1, d2] }
  | _ => none }
def compFirstsRow : OpenClaim := { program := "ytngjkebmilpemaadoor", sum := "2107e91de076e3ed49bcca136a76285f5af1998693796f79e9083db7c53e6d02", func := "rallentando/rallentandolaw09.CompFirsts", spec := "compFirsts", inPlace := ["math/bits.Add64", "math/bits.Sub64"], unfollowed := true, recurses := true, named := ["rallentando/zone.places", "math/bits.divideError", "math/bits.overflowError"], apart := false, laid := [("rallentando/zone.places", laid_rallentando_zone_places)] }
def CompFirstsSaid : Prop := compFirstsRow.holds Tryd.pinned (OpenSpec.ofChange compFirstsSpec)

/-- ITS FALSE NEIGHBOUR: 'it returns false'. Refute it at one input. -/
def compFirstsWrong : ChangeSpec := { name := "compFirsts", fn := fun _ => fun
  | [d1, d2] => { results := [.lit (.bool false)], args := [d1, d2] }
  | _ => none }
def CompFirstsWrongFalsely : Prop := compFirstsRow.holds Tryd.pinned (OpenSpec.ofChange compFirstsWrong)

/- THE SECOND FORM. 'bulk': how many values and letters a reading holds, each counted each time it is reached (what is shared counts as often as it is met; a slice's spare places count too). A statement '..UptoSaid' is the law's where the arguments, and the package variables that the reading takes, are together of bulk at most 1048576: NARROWER than '..Said'. Prove '..Said' where nothing that the law and all that it calls make is longer than what came in: it says more and counts as full. Else prove '..UptoSaid'. A law counts once. -/
mutual
def uptoBulk {H : Type} : DataW H → Nat
  | .lit (.string bytes) => bytes.length + 1
  | .lit _ => 1
  | .nil => 1
  | .ptr d => uptoBulk d + 1
  | .slice elems spare => uptoBulkAll elems + uptoBulkAll spare + 1
  | .agg parts => uptoBulkAll parts + 1
  | .iface _ d => uptoBulk d + 1
  | .map entries => uptoBulkEntries entries + 1
  | .held _ => 1
def uptoBulkAll {H : Type} : List (DataW H) → Nat
  | [] => 0
  | d :: r => uptoBulk d + uptoBulkAll r
def uptoBulkEntries {H : Type} : List (Lit × DataW H) → Nat
  | [] => 0
  | x :: r => uptoBulkEntry x + uptoBulkEntries r
def uptoBulkEntry {H : Type} : Lit × DataW H → Nat
  | (.string bytes, d) => bytes.length + uptoBulk d + 1
  | (_, d) => uptoBulk d + 1
 end
def uptoSmall : (H : Type) → List (DataW H) → Bool := fun _ ds => decide (uptoBulkAll ds ≤ 1048576)
def OpenSpec.upto (s : _root_.Go.ChangeSpec) : _root_.Go.OpenSpec := { _root_.Go.OpenSpec.ofChange s with cond := some uptoSmall }

/-- 'rallentandolaw09.CompNames', WHERE WHAT IT READS IS OF BULK AT MOST 1048576: true; the input reads as it did. -/
def compNamesUptoRow : OpenClaim := { program := "ytngjkebmilpemaadoor", sum := "2107e91de076e3ed49bcca136a76285f5af1998693796f79e9083db7c53e6d02", func := "rallentando/rallentandolaw09.CompNames", spec := "compNames", unfollowed := true, recurses := true, named := ["rallentando/zone.places"], apart := false, laid := [("rallentando/zone.places", laid_rallentando_zone_places)], narrowed := true }
def CompNamesUptoSaid : Prop := compNamesUptoRow.holds Tryd.pinned (OpenSpec.upto compNamesSpec)

/-- 'rallentandolaw09.CompTells', WHERE WHAT IT READS IS OF BULK AT MOST 1048576: true; the input reads as it did. -/
def compTellsUptoRow : OpenClaim := { program := "ytngjkebmilpemaadoor", sum := "2107e91de076e3ed49bcca136a76285f5af1998693796f79e9083db7c53e6d02", func := "rallentando/rallentandolaw09.CompTells", spec := "compTells", unfollowed := true, recurses := true, named := ["rallentando/zone.places"], apart := false, laid := [("rallentando/zone.places", laid_rallentando_zone_places)], narrowed := true }
def CompTellsUptoSaid : Prop := compTellsUptoRow.holds Tryd.pinned (OpenSpec.upto compTellsSpec)

/-- 'rallentandolaw09.CompPoints', WHERE WHAT IT READS IS OF BULK AT MOST 1048576: true; the input reads as it did. -/
def compPointsUptoRow : OpenClaim := { program := "ytngjkebmilpemaadoor", sum := "2107e91de076e3ed49bcca136a76285f5af1998693796f79e9083db7c53e6d02", func := "rallentando/rallentandolaw09.CompPoints", spec := "compPoints", inPlace := ["math/bits.Add64", "math/bits.Sub64"], unfollowed := true, recurses := true, named := ["rallentando/zone.places", "math/bits.divideError", "math/bits.overflowError"], apart := false, laid := [("rallentando/zone.places", laid_rallentando_zone_places)], narrowed := true }
def CompPointsUptoSaid : Prop := compPointsUptoRow.holds Tryd.pinned (OpenSpec.upto compPointsSpec)

/-- 'rallentandolaw09.CompOrder', WHERE WHAT IT READS IS OF BULK AT MOST 1048576: true; the input reads as it did. -/
def compOrderUptoRow : OpenClaim := { program := "ytngjkebmilpemaadoor", sum := "2107e91de076e3ed49bcca136a76285f5af1998693796f79e9083db7c53e6d02", func := "rallentando/rallentandolaw09.CompOrder", spec := "compOrder", unfollowed := true, recurses := true, named := ["rallentando/zone.places"], apart := false, laid := [("rallentando/zone.places", laid_rallentando_zone_places)], narrowed := true }
def CompOrderUptoSaid : Prop := compOrderUptoRow.holds Tryd.pinned (OpenSpec.upto compOrderSpec)

/-- 'rallentandolaw09.CompFirsts', WHERE WHAT IT READS IS OF BULK AT MOST 1048576: true; the input reads as it did. -/
def compFirstsUptoRow : OpenClaim := { program := "ytngjkebmilpemaadoor", sum := "2107e91de076e3ed49bcca136a76285f5af1998693796f79e9083db7c53e6d02", func := "rallentando/rallentandolaw09.CompFirsts", spec := "compFirsts", inPlace := ["math/bits.Add64", "math/bits.Sub64"], unfollowed := true, recurses := true, named := ["rallentando/zone.places", "math/bits.divideError", "math/bits.overflowError"], apart := false, laid := [("rallentando/zone.places", laid_rallentando_zone_places)], narrowed := true }
def CompFirstsUptoSaid : Prop := compFirstsUptoRow.holds Tryd.pinned (OpenSpec.upto compFirstsSpec)

end Rows
end Go.Proofs.YtngjkebmilpemaaDoor
