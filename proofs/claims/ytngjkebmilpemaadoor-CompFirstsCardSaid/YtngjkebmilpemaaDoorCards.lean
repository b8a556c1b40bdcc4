/-
  DERIVED. GIVEN WITH THE SEED: THE CARDS: each row of YtngjkebmilpemaaDoorRows.lean that lists a variable, with what it lists TIED to the program's text (the seventh form; the later family's looks); each row that meets fmt, with fmt's text TOLD by the authors' own Lean function (tested against real Go, not proved from fmt's source: count such statements apart). THE CARD IS WHAT COUNTS. Prove the row's statement (the work); the ties are given (YtngjkebmilpemaaDoorTie.lean); close each card by the builder's one call (the guide's Derived/Test/ToyasCard.lean, 'card_holds'). Laid BY PROGRAM, IN A SANDBOX (cutbox-door.mjs). By AI agents, Wed Nov 11 2026. No macro, syntax, notation, axiom, sorry.
-/
import Derived.Test.YtngjkebmilpemaaDoorRows
import GoSem.ClaimSeven
namespace Go.Proofs.YtngjkebmilpemaaDoor
namespace Rows

/-- THE TIED CARD OF 'rallentandolaw09.CompNames'. -/
def compNamesCard : Claim7 := { stood := { row := compNamesRow, standIns := [], harness := (true, "e4e3719b7de1e4314314497030072501f33c4ef491c7e24e35a0e0bb01ea1702"), looks := false }, kinds := [], alts := [], laidByText := true, laidKinds := [.data], laidTests := true, laidLooks := .later }
def CompNamesCardSaid : Prop := Claim7.holds Tryd.pinned (.plain (OpenSpec.ofChange compNamesSpec)) compNamesCard

/-- THE TIED CARD OF 'rallentandolaw09.CompTells'. -/
def compTellsCard : Claim7 := { stood := { row := compTellsRow, standIns := [], harness := (true, "e4e3719b7de1e4314314497030072501f33c4ef491c7e24e35a0e0bb01ea1702"), looks := false }, kinds := [], alts := [], laidByText := true, laidKinds := [.data], laidTests := true, laidLooks := .later }
def CompTellsCardSaid : Prop := Claim7.holds Tryd.pinned (.plain (OpenSpec.ofChange compTellsSpec)) compTellsCard

/-- THE TIED CARD OF 'rallentandolaw09.CompPoints'. -/
def compPointsCard : Claim7 := { stood := { row := compPointsRow, standIns := [], harness := (true, "e4e3719b7de1e4314314497030072501f33c4ef491c7e24e35a0e0bb01ea1702"), looks := false }, kinds := [], alts := [], laidByText := true, laidKinds := [.data], laidTests := true, laidLooks := .later }
def CompPointsCardSaid : Prop := Claim7.holds Tryd.pinned (.plain (OpenSpec.ofChange compPointsSpec)) compPointsCard

/-- THE TIED CARD OF 'rallentandolaw09.CompOrder'. -/
def compOrderCard : Claim7 := { stood := { row := compOrderRow, standIns := [], harness := (true, "e4e3719b7de1e4314314497030072501f33c4ef491c7e24e35a0e0bb01ea1702"), looks := false }, kinds := [], alts := [], laidByText := true, laidKinds := [.data], laidTests := true, laidLooks := .later }
def CompOrderCardSaid : Prop := Claim7.holds Tryd.pinned (.plain (OpenSpec.ofChange compOrderSpec)) compOrderCard

/-- THE TIED CARD OF 'rallentandolaw09.CompFirsts'. -/
def compFirstsCard : Claim7 := { stood := { row := compFirstsRow, standIns := [], harness := (true, "e4e3719b7de1e4314314497030072501f33c4ef491c7e24e35a0e0bb01ea1702"), looks := false }, kinds := [], alts := [], laidByText := true, laidKinds := [.data], laidTests := true, laidLooks := .later }
def CompFirstsCardSaid : Prop := Claim7.holds Tryd.pinned (.plain (OpenSpec.ofChange compFirstsSpec)) compFirstsCard

/-- THE SECOND FORM's CARD OF 'rallentandolaw09.CompNames'. -/
def compNamesUptoCard : Claim7 := { stood := { row := compNamesUptoRow, standIns := [], harness := (true, "e4e3719b7de1e4314314497030072501f33c4ef491c7e24e35a0e0bb01ea1702"), looks := false }, kinds := [], alts := [], laidByText := true, laidKinds := [.data], laidTests := true, laidLooks := .later }
def CompNamesUptoCardSaid : Prop := Claim7.holds Tryd.pinned (.plain (OpenSpec.upto compNamesSpec)) compNamesUptoCard

/-- THE SECOND FORM's CARD OF 'rallentandolaw09.CompTells'. -/
def compTellsUptoCard : Claim7 := { stood := { row := compTellsUptoRow, standIns := [], harness := (true, "e4e3719b7de1e4314314497030072501f33c4ef491c7e24e35a0e0bb01ea1702"), looks := false }, kinds := [], alts := [], laidByText := true, laidKinds := [.data], laidTests := true, laidLooks := .later }
def CompTellsUptoCardSaid : Prop := Claim7.holds Tryd.pinned (.plain (OpenSpec.upto compTellsSpec)) compTellsUptoCard

/-- THE SECOND FORM's CARD OF 'rallentandolaw09.CompPoints'. -/
def compPointsUptoCard : Claim7 := { stood := { row := compPointsUptoRow, standIns := [], harness := (true, "e4e3719b7de1e4314314497030072501f33c4ef491c7e24e35a0e0bb01ea1702"), looks := false }, kinds := [], alts := [], laidByText := true, laidKinds := [.data], laidTests := true, laidLooks := .later }
def CompPointsUptoCardSaid : Prop := Claim7.holds Tryd.pinned (.plain (OpenSpec.upto compPointsSpec)) compPointsUptoCard

/-- THE SECOND FORM's CARD OF 'rallentandolaw09.CompOrder'. -/
def compOrderUptoCard : Claim7 := { stood := { row := compOrderUptoRow, standIns := [], harness := (true, "e4e3719b7de1e4314314497030072501f33c4ef491c7e24e35a0e0bb01ea1702"), looks := false }, kinds := [], alts := [], laidByText := true, laidKinds := [.data], laidTests := true, laidLooks := .later }
def CompOrderUptoCardSaid : Prop := Claim7.holds Tryd.pinned (.plain (OpenSpec.upto compOrderSpec)) compOrderUptoCard

/-- THE SECOND FORM's CARD OF 'rallentandolaw09.CompFirsts'. -/
def compFirstsUptoCard : Claim7 := { stood := { row := compFirstsUptoRow, standIns := [], harness := (true, "e4e3719b7de1e4314314497030072501f33c4ef491c7e24e35a0e0bb01ea1702"), looks := false }, kinds := [], alts := [], laidByText := true, laidKinds := [.data], laidTests := true, laidLooks := .later }
def CompFirstsUptoCardSaid : Prop := Claim7.holds Tryd.pinned (.plain (OpenSpec.upto compFirstsSpec)) compFirstsUptoCard
end Rows
end Go.Proofs.YtngjkebmilpemaaDoor
