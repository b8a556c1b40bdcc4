/-
  DERIVED. GIVEN WITH THE SEED: THE CARDS: each row of YtklejbheieceeaaDoorRows.lean that lists a variable, with what it lists TIED to the program's text (the seventh form; the later family's looks); each row that meets fmt, with fmt's text TOLD by the authors' own Lean function (tested against real Go, not proved from fmt's source: count such statements apart). THE CARD IS WHAT COUNTS. Prove the row's statement (the work); the ties are given (YtklejbheieceeaaDoorTie.lean); close each card by the builder's one call (the guide's Derived/Test/ToyasCard.lean, 'card_holds'). Laid BY PROGRAM, IN A SANDBOX (cutbox-door.mjs). By AI agents, Wed Nov 11 2026. No macro, syntax, notation, axiom, sorry.
-/
import Derived.Test.YtklejbheieceeaaDoorRows
import GoSem.ClaimSeven
namespace Go.Proofs.YtklejbheieceeaaDoor
namespace Rows

/-- THE TIED CARD OF 'rallentandolaw08.ZoneNames'. -/
def zoneNamesCard : Claim7 := { stood := { row := zoneNamesRow, standIns := [], harness := (true, "4be1debb0f09659e5460b97b458758f1449b4fc9791f7bbbc4af352f36ab9380"), looks := false }, kinds := [], alts := [], laidByText := true, laidKinds := [.data], laidTests := true, laidLooks := .later }
def ZoneNamesCardSaid : Prop := Claim7.holds Tryd.pinned (.plain (OpenSpec.ofChange zoneNamesSpec)) zoneNamesCard

/-- THE TIED CARD OF 'rallentandolaw08.ZoneMakes'. -/
def zoneMakesCard : Claim7 := { stood := { row := zoneMakesRow, standIns := [], harness := (true, "4be1debb0f09659e5460b97b458758f1449b4fc9791f7bbbc4af352f36ab9380"), looks := false }, kinds := [], alts := [], laidByText := true, laidKinds := [.data], laidTests := true, laidLooks := .later }
def ZoneMakesCardSaid : Prop := Claim7.holds Tryd.pinned (.plain (OpenSpec.ofChange zoneMakesSpec)) zoneMakesCard

/-- THE TIED CARD OF 'rallentandolaw08.ZoneMeets'. -/
def zoneMeetsCard : Claim7 := { stood := { row := zoneMeetsRow, standIns := [], harness := (true, "4be1debb0f09659e5460b97b458758f1449b4fc9791f7bbbc4af352f36ab9380"), looks := false }, kinds := [], alts := [], laidByText := true, laidKinds := [.data], laidTests := true, laidLooks := .later }
def ZoneMeetsCardSaid : Prop := Claim7.holds Tryd.pinned (.plain (OpenSpec.ofChange zoneMeetsSpec)) zoneMeetsCard

/-- THE TIED CARD OF 'rallentandolaw08.ZonePicks'. -/
def zonePicksCard : Claim7 := { stood := { row := zonePicksRow, standIns := [], harness := (true, "4be1debb0f09659e5460b97b458758f1449b4fc9791f7bbbc4af352f36ab9380"), looks := false }, kinds := [], alts := [], laidByText := true, laidKinds := [.data], laidTests := true, laidLooks := .later }
def ZonePicksCardSaid : Prop := Claim7.holds Tryd.pinned (.plain (OpenSpec.ofChange zonePicksSpec)) zonePicksCard

/-- THE TIED CARD OF 'rallentandolaw08.ZoneSpans'. -/
def zoneSpansCard : Claim7 := { stood := { row := zoneSpansRow, standIns := [], harness := (true, "4be1debb0f09659e5460b97b458758f1449b4fc9791f7bbbc4af352f36ab9380"), looks := false }, kinds := [], alts := [], laidByText := true, laidKinds := [.data], laidTests := true, laidLooks := .later }
def ZoneSpansCardSaid : Prop := Claim7.holds Tryd.pinned (.plain (OpenSpec.ofChange zoneSpansSpec)) zoneSpansCard

/-- THE TIED CARD OF 'rallentandolaw08.ZoneOrder'. -/
def zoneOrderCard : Claim7 := { stood := { row := zoneOrderRow, standIns := [], harness := (true, "4be1debb0f09659e5460b97b458758f1449b4fc9791f7bbbc4af352f36ab9380"), looks := false }, kinds := [], alts := [], laidByText := true, laidKinds := [.data], laidTests := true, laidLooks := .later }
def ZoneOrderCardSaid : Prop := Claim7.holds Tryd.pinned (.plain (OpenSpec.ofChange zoneOrderSpec)) zoneOrderCard

/-- THE SECOND FORM's CARD OF 'rallentandolaw08.ZoneNames'. -/
def zoneNamesUptoCard : Claim7 := { stood := { row := zoneNamesUptoRow, standIns := [], harness := (true, "4be1debb0f09659e5460b97b458758f1449b4fc9791f7bbbc4af352f36ab9380"), looks := false }, kinds := [], alts := [], laidByText := true, laidKinds := [.data], laidTests := true, laidLooks := .later }
def ZoneNamesUptoCardSaid : Prop := Claim7.holds Tryd.pinned (.plain (OpenSpec.upto zoneNamesSpec)) zoneNamesUptoCard

/-- THE SECOND FORM's CARD OF 'rallentandolaw08.ZoneMakes'. -/
def zoneMakesUptoCard : Claim7 := { stood := { row := zoneMakesUptoRow, standIns := [], harness := (true, "4be1debb0f09659e5460b97b458758f1449b4fc9791f7bbbc4af352f36ab9380"), looks := false }, kinds := [], alts := [], laidByText := true, laidKinds := [.data], laidTests := true, laidLooks := .later }
def ZoneMakesUptoCardSaid : Prop := Claim7.holds Tryd.pinned (.plain (OpenSpec.upto zoneMakesSpec)) zoneMakesUptoCard

/-- THE SECOND FORM's CARD OF 'rallentandolaw08.ZoneMeets'. -/
def zoneMeetsUptoCard : Claim7 := { stood := { row := zoneMeetsUptoRow, standIns := [], harness := (true, "4be1debb0f09659e5460b97b458758f1449b4fc9791f7bbbc4af352f36ab9380"), looks := false }, kinds := [], alts := [], laidByText := true, laidKinds := [.data], laidTests := true, laidLooks := .later }
def ZoneMeetsUptoCardSaid : Prop := Claim7.holds Tryd.pinned (.plain (OpenSpec.upto zoneMeetsSpec)) zoneMeetsUptoCard

/-- THE SECOND FORM's CARD OF 'rallentandolaw08.ZonePicks'. -/
def zonePicksUptoCard : Claim7 := { stood := { row := zonePicksUptoRow, standIns := [], harness := (true, "4be1debb0f09659e5460b97b458758f1449b4fc9791f7bbbc4af352f36ab9380"), looks := false }, kinds := [], alts := [], laidByText := true, laidKinds := [.data], laidTests := true, laidLooks := .later }
def ZonePicksUptoCardSaid : Prop := Claim7.holds Tryd.pinned (.plain (OpenSpec.upto zonePicksSpec)) zonePicksUptoCard

/-- THE SECOND FORM's CARD OF 'rallentandolaw08.ZoneSpans'. -/
def zoneSpansUptoCard : Claim7 := { stood := { row := zoneSpansUptoRow, standIns := [], harness := (true, "4be1debb0f09659e5460b97b458758f1449b4fc9791f7bbbc4af352f36ab9380"), looks := false }, kinds := [], alts := [], laidByText := true, laidKinds := [.data], laidTests := true, laidLooks := .later }
def ZoneSpansUptoCardSaid : Prop := Claim7.holds Tryd.pinned (.plain (OpenSpec.upto zoneSpansSpec)) zoneSpansUptoCard

/-- THE SECOND FORM's CARD OF 'rallentandolaw08.ZoneOrder'. -/
def zoneOrderUptoCard : Claim7 := { stood := { row := zoneOrderUptoRow, standIns := [], harness := (true, "4be1debb0f09659e5460b97b458758f1449b4fc9791f7bbbc4af352f36ab9380"), looks := false }, kinds := [], alts := [], laidByText := true, laidKinds := [.data], laidTests := true, laidLooks := .later }
def ZoneOrderUptoCardSaid : Prop := Claim7.holds Tryd.pinned (.plain (OpenSpec.upto zoneOrderSpec)) zoneOrderUptoCard
end Rows
end Go.Proofs.YtklejbheieceeaaDoor
