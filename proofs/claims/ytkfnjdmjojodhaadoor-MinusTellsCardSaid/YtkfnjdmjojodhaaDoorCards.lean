/-
  DERIVED. GIVEN WITH THE SEED: THE CARDS: each row of YtkfnjdmjojodhaaDoorRows.lean that lists a variable, with what it lists TIED to the program's text (the seventh form; the later family's looks); each row that meets fmt, with fmt's text TOLD by the authors' own Lean function (tested against real Go, not proved from fmt's source: count such statements apart). THE CARD IS WHAT COUNTS. Prove the row's statement (the work); the ties are given (YtkfnjdmjojodhaaDoorTie.lean); close each card by the builder's one call (the guide's Derived/Test/ToyasCard.lean, 'card_holds'). Laid BY PROGRAM, IN A SANDBOX (cutbox-door.mjs). By AI agents, Wed Nov 11 2026. No macro, syntax, notation, axiom, sorry.
-/
import Derived.Test.YtkfnjdmjojodhaaDoorRows
import GoSem.ClaimSeven
namespace Go.Proofs.YtkfnjdmjojodhaaDoor
namespace Rows

/-- THE TIED CARD OF 'rallentandolaw11.MinusNames'. -/
def minusNamesCard : Claim7 := { stood := { row := minusNamesRow, standIns := [], harness := (true, "63052b61decf7e22cc573bd623194e0d9c99a30bfaeca1484cbb133092540983"), looks := false }, kinds := [], alts := [], laidByText := true, laidKinds := [.data], laidTests := true, laidLooks := .later }
def MinusNamesCardSaid : Prop := Claim7.holds Tryd.pinned (.plain (OpenSpec.ofChange minusNamesSpec)) minusNamesCard

/-- THE TIED CARD OF 'rallentandolaw11.MinusTells'. -/
def minusTellsCard : Claim7 := { stood := { row := minusTellsRow, standIns := [], harness := (true, "63052b61decf7e22cc573bd623194e0d9c99a30bfaeca1484cbb133092540983"), looks := false }, kinds := [], alts := [], laidByText := true, laidKinds := [.data], laidTests := true, laidLooks := .later }
def MinusTellsCardSaid : Prop := Claim7.holds Tryd.pinned (.plain (OpenSpec.ofChange minusTellsSpec)) minusTellsCard

/-- THE TIED CARD OF 'rallentandolaw11.MinusPoints'. -/
def minusPointsCard : Claim7 := { stood := { row := minusPointsRow, standIns := [], harness := (true, "63052b61decf7e22cc573bd623194e0d9c99a30bfaeca1484cbb133092540983"), looks := false }, kinds := [], alts := [], laidByText := true, laidKinds := [.data], laidTests := true, laidLooks := .later }
def MinusPointsCardSaid : Prop := Claim7.holds Tryd.pinned (.plain (OpenSpec.ofChange minusPointsSpec)) minusPointsCard

/-- THE TIED CARD OF 'rallentandolaw11.MinusNone'. -/
def minusNoneCard : Claim7 := { stood := { row := minusNoneRow, standIns := [], harness := (true, "63052b61decf7e22cc573bd623194e0d9c99a30bfaeca1484cbb133092540983"), looks := false }, kinds := [], alts := [], laidByText := true, laidKinds := [.data], laidTests := true, laidLooks := .later }
def MinusNoneCardSaid : Prop := Claim7.holds Tryd.pinned (.plain (OpenSpec.ofChange minusNoneSpec)) minusNoneCard

/-- THE TIED CARD OF 'rallentandolaw11.MinusOrder'. -/
def minusOrderCard : Claim7 := { stood := { row := minusOrderRow, standIns := [], harness := (true, "63052b61decf7e22cc573bd623194e0d9c99a30bfaeca1484cbb133092540983"), looks := false }, kinds := [], alts := [], laidByText := true, laidKinds := [.data], laidTests := true, laidLooks := .later }
def MinusOrderCardSaid : Prop := Claim7.holds Tryd.pinned (.plain (OpenSpec.ofChange minusOrderSpec)) minusOrderCard

/-- THE SECOND FORM's CARD OF 'rallentandolaw11.MinusNames'. -/
def minusNamesUptoCard : Claim7 := { stood := { row := minusNamesUptoRow, standIns := [], harness := (true, "63052b61decf7e22cc573bd623194e0d9c99a30bfaeca1484cbb133092540983"), looks := false }, kinds := [], alts := [], laidByText := true, laidKinds := [.data], laidTests := true, laidLooks := .later }
def MinusNamesUptoCardSaid : Prop := Claim7.holds Tryd.pinned (.plain (OpenSpec.upto minusNamesSpec)) minusNamesUptoCard

/-- THE SECOND FORM's CARD OF 'rallentandolaw11.MinusTells'. -/
def minusTellsUptoCard : Claim7 := { stood := { row := minusTellsUptoRow, standIns := [], harness := (true, "63052b61decf7e22cc573bd623194e0d9c99a30bfaeca1484cbb133092540983"), looks := false }, kinds := [], alts := [], laidByText := true, laidKinds := [.data], laidTests := true, laidLooks := .later }
def MinusTellsUptoCardSaid : Prop := Claim7.holds Tryd.pinned (.plain (OpenSpec.upto minusTellsSpec)) minusTellsUptoCard

/-- THE SECOND FORM's CARD OF 'rallentandolaw11.MinusPoints'. -/
def minusPointsUptoCard : Claim7 := { stood := { row := minusPointsUptoRow, standIns := [], harness := (true, "63052b61decf7e22cc573bd623194e0d9c99a30bfaeca1484cbb133092540983"), looks := false }, kinds := [], alts := [], laidByText := true, laidKinds := [.data], laidTests := true, laidLooks := .later }
def MinusPointsUptoCardSaid : Prop := Claim7.holds Tryd.pinned (.plain (OpenSpec.upto minusPointsSpec)) minusPointsUptoCard

/-- THE SECOND FORM's CARD OF 'rallentandolaw11.MinusNone'. -/
def minusNoneUptoCard : Claim7 := { stood := { row := minusNoneUptoRow, standIns := [], harness := (true, "63052b61decf7e22cc573bd623194e0d9c99a30bfaeca1484cbb133092540983"), looks := false }, kinds := [], alts := [], laidByText := true, laidKinds := [.data], laidTests := true, laidLooks := .later }
def MinusNoneUptoCardSaid : Prop := Claim7.holds Tryd.pinned (.plain (OpenSpec.upto minusNoneSpec)) minusNoneUptoCard

/-- THE SECOND FORM's CARD OF 'rallentandolaw11.MinusOrder'. -/
def minusOrderUptoCard : Claim7 := { stood := { row := minusOrderUptoRow, standIns := [], harness := (true, "63052b61decf7e22cc573bd623194e0d9c99a30bfaeca1484cbb133092540983"), looks := false }, kinds := [], alts := [], laidByText := true, laidKinds := [.data], laidTests := true, laidLooks := .later }
def MinusOrderUptoCardSaid : Prop := Claim7.holds Tryd.pinned (.plain (OpenSpec.upto minusOrderSpec)) minusOrderUptoCard
end Rows
end Go.Proofs.YtkfnjdmjojodhaaDoor
