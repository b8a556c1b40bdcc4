/-
  DERIVED. GIVEN WITH THE SEED: THE CARDS: each row of YthljhijcmdnonaaGreatDoorRows.lean that lists a variable, with what it lists TIED to the program's text (the seventh form; the later family's looks); each row that meets fmt, with fmt's text TOLD by the authors' own Lean function (tested against real Go, not proved from fmt's source: count such statements apart). THE CARD IS WHAT COUNTS. Prove the row's statement (the work); the ties are given (YthljhijcmdnonaaGreatDoorTie.lean); close each card by the builder's one call (the guide's Derived/Test/ToyasCard.lean, 'card_holds'). Laid BY PROGRAM, IN A SANDBOX (cutbox-door.mjs). By AI agents, Wed Nov 11 2026. No macro, syntax, notation, axiom, sorry.
-/
import Derived.Test.YthljhijcmdnonaaGreatDoorRows
import GoSem.ClaimSeven
namespace Go.Proofs.YthljhijcmdnonaaGreatDoor
namespace Rows

/-- THE TIED CARD OF 'rallentandolaw12.CoverNames'. -/
def coverNamesCard : Claim7 := { stood := { row := coverNamesRow, standIns := [], harness := (true, "14f844009dc27b5cd5b058a6c83267eb1160fb1e72c2b548f020a9a3be281fff"), looks := false }, kinds := [], alts := [], laidByText := true, laidKinds := [.data], laidTests := true, laidLooks := .later }
def CoverNamesCardSaid : Prop := Claim7.holds Tryz.pinned (.plain (OpenSpec.ofChange coverNamesSpec)) coverNamesCard

/-- THE TIED CARD OF 'rallentandolaw12.CoverTells'. -/
def coverTellsCard : Claim7 := { stood := { row := coverTellsRow, standIns := [], harness := (true, "14f844009dc27b5cd5b058a6c83267eb1160fb1e72c2b548f020a9a3be281fff"), looks := false }, kinds := [], alts := [], laidByText := true, laidKinds := [.data], laidTests := true, laidLooks := .later }
def CoverTellsCardSaid : Prop := Claim7.holds Tryz.pinned (.plain (OpenSpec.ofChange coverTellsSpec)) coverTellsCard

/-- THE TIED CARD OF 'rallentandolaw12.CoverLong'. -/
def coverLongCard : Claim7 := { stood := { row := coverLongRow, standIns := [], harness := (true, "14f844009dc27b5cd5b058a6c83267eb1160fb1e72c2b548f020a9a3be281fff"), looks := false }, kinds := [], alts := [], laidByText := true, laidKinds := [.data], laidTests := true, laidLooks := .later }
def CoverLongCardSaid : Prop := Claim7.holds Tryz.pinned (.plain (OpenSpec.ofChange coverLongSpec)) coverLongCard

/-- THE TIED CARD OF 'rallentandolaw12.CoverPrunes'. -/
def coverPrunesCard : Claim7 := { stood := { row := coverPrunesRow, standIns := [], harness := (true, "14f844009dc27b5cd5b058a6c83267eb1160fb1e72c2b548f020a9a3be281fff"), looks := false }, kinds := [], alts := [], laidByText := true, laidKinds := [.data], laidTests := true, laidLooks := .later }
def CoverPrunesCardSaid : Prop := Claim7.holds Tryz.pinned (.plain (OpenSpec.ofChange coverPrunesSpec)) coverPrunesCard

/-- THE SECOND FORM's CARD OF 'rallentandolaw12.CoverNames'. -/
def coverNamesUptoCard : Claim7 := { stood := { row := coverNamesUptoRow, standIns := [], harness := (true, "14f844009dc27b5cd5b058a6c83267eb1160fb1e72c2b548f020a9a3be281fff"), looks := false }, kinds := [], alts := [], laidByText := true, laidKinds := [.data], laidTests := true, laidLooks := .later }
def CoverNamesUptoCardSaid : Prop := Claim7.holds Tryz.pinned (.plain (OpenSpec.upto coverNamesSpec)) coverNamesUptoCard

/-- THE SECOND FORM's CARD OF 'rallentandolaw12.CoverTells'. -/
def coverTellsUptoCard : Claim7 := { stood := { row := coverTellsUptoRow, standIns := [], harness := (true, "14f844009dc27b5cd5b058a6c83267eb1160fb1e72c2b548f020a9a3be281fff"), looks := false }, kinds := [], alts := [], laidByText := true, laidKinds := [.data], laidTests := true, laidLooks := .later }
def CoverTellsUptoCardSaid : Prop := Claim7.holds Tryz.pinned (.plain (OpenSpec.upto coverTellsSpec)) coverTellsUptoCard

/-- THE SECOND FORM's CARD OF 'rallentandolaw12.CoverLong'. -/
def coverLongUptoCard : Claim7 := { stood := { row := coverLongUptoRow, standIns := [], harness := (true, "14f844009dc27b5cd5b058a6c83267eb1160fb1e72c2b548f020a9a3be281fff"), looks := false }, kinds := [], alts := [], laidByText := true, laidKinds := [.data], laidTests := true, laidLooks := .later }
def CoverLongUptoCardSaid : Prop := Claim7.holds Tryz.pinned (.plain (OpenSpec.upto coverLongSpec)) coverLongUptoCard

/-- THE SECOND FORM's CARD OF 'rallentandolaw12.CoverPrunes'. -/
def coverPrunesUptoCard : Claim7 := { stood := { row := coverPrunesUptoRow, standIns := [], harness := (true, "14f844009dc27b5cd5b058a6c83267eb1160fb1e72c2b548f020a9a3be281fff"), looks := false }, kinds := [], alts := [], laidByText := true, laidKinds := [.data], laidTests := true, laidLooks := .later }
def CoverPrunesUptoCardSaid : Prop := Claim7.holds Tryz.pinned (.plain (OpenSpec.upto coverPrunesSpec)) coverPrunesUptoCard
end Rows
end Go.Proofs.YthljhijcmdnonaaGreatDoor
