/-
  DERIVED. GIVEN WITH THE SEED: THE CARDS: each row of YthmljpccbjolgaaGreatDoorRows.lean that lists a variable, with what it lists TIED to the program's text (the seventh form; the later family's looks); each row that meets fmt, with fmt's text TOLD by the authors' own Lean function (tested against real Go, not proved from fmt's source: count such statements apart). THE CARD IS WHAT COUNTS. Prove the row's statement (the work); the ties are given (YthmljpccbjolgaaGreatDoorTie.lean); close each card by the builder's one call (the guide's Derived/Test/ToyasCard.lean, 'card_holds'). Laid BY PROGRAM, IN A SANDBOX (cutbox-door.mjs). By AI agents, Wed Nov 11 2026. No macro, syntax, notation, axiom, sorry.
-/
import Derived.Test.YthmljpccbjolgaaGreatDoorRows
import GoSem.ClaimSeven
namespace Go.Proofs.YthmljpccbjolgaaGreatDoor
namespace Rows

/-- THE TIED CARD OF 'rallentandolaw13.ZsetNames'. -/
def zsetNamesCard : Claim7 := { stood := { row := zsetNamesRow, standIns := [], harness := (true, "dedfc36a848b7b0b3590d744953335447f29621c2f89cc141b977538f7b15672"), looks := false }, kinds := [], alts := [], laidByText := true, laidKinds := [.data], laidTests := true, laidLooks := .later }
def ZsetNamesCardSaid : Prop := Claim7.holds Tryz.pinned (.plain (OpenSpec.ofChange zsetNamesSpec)) zsetNamesCard

/-- THE TIED CARD OF 'rallentandolaw13.ZsetTells'. -/
def zsetTellsCard : Claim7 := { stood := { row := zsetTellsRow, standIns := [], harness := (true, "dedfc36a848b7b0b3590d744953335447f29621c2f89cc141b977538f7b15672"), looks := false }, kinds := [], alts := [], laidByText := true, laidKinds := [.data], laidTests := true, laidLooks := .later }
def ZsetTellsCardSaid : Prop := Claim7.holds Tryz.pinned (.plain (OpenSpec.ofChange zsetTellsSpec)) zsetTellsCard

/-- THE TIED CARD OF 'rallentandolaw13.ZsetAsks'. -/
def zsetAsksCard : Claim7 := { stood := { row := zsetAsksRow, standIns := [], harness := (true, "dedfc36a848b7b0b3590d744953335447f29621c2f89cc141b977538f7b15672"), looks := false }, kinds := [], alts := [], laidByText := true, laidKinds := [.data, .data], laidTests := true, laidLooks := .later }
def ZsetAsksCardSaid : Prop := Claim7.holds Tryz.pinned (.plain (OpenSpec.ofChange zsetAsksSpec)) zsetAsksCard

/-- THE TIED CARD OF 'rallentandolaw13.ZsetLong'. -/
def zsetLongCard : Claim7 := { stood := { row := zsetLongRow, standIns := [], harness := (true, "dedfc36a848b7b0b3590d744953335447f29621c2f89cc141b977538f7b15672"), looks := false }, kinds := [], alts := [], laidByText := true, laidKinds := [.data, .data], laidTests := true, laidLooks := .later }
def ZsetLongCardSaid : Prop := Claim7.holds Tryz.pinned (.plain (OpenSpec.ofChange zsetLongSpec)) zsetLongCard

/-- THE TIED CARD OF 'rallentandolaw13.ZsetPoints'. -/
def zsetPointsCard : Claim7 := { stood := { row := zsetPointsRow, standIns := [], harness := (true, "dedfc36a848b7b0b3590d744953335447f29621c2f89cc141b977538f7b15672"), looks := false }, kinds := [], alts := [], laidByText := true, laidKinds := [.data, .data], laidTests := true, laidLooks := .later }
def ZsetPointsCardSaid : Prop := Claim7.holds Tryz.pinned (.plain (OpenSpec.ofChange zsetPointsSpec)) zsetPointsCard

/-- THE TIED CARD OF 'rallentandolaw13.ZsetOrder'. -/
def zsetOrderCard : Claim7 := { stood := { row := zsetOrderRow, standIns := [], harness := (true, "dedfc36a848b7b0b3590d744953335447f29621c2f89cc141b977538f7b15672"), looks := false }, kinds := [], alts := [], laidByText := true, laidKinds := [.data], laidTests := true, laidLooks := .later }
def ZsetOrderCardSaid : Prop := Claim7.holds Tryz.pinned (.plain (OpenSpec.ofChange zsetOrderSpec)) zsetOrderCard

/-- THE TIED CARD OF 'rallentandolaw13.ZsetComp'. -/
def zsetCompCard : Claim7 := { stood := { row := zsetCompRow, standIns := [], harness := (true, "dedfc36a848b7b0b3590d744953335447f29621c2f89cc141b977538f7b15672"), looks := false }, kinds := [], alts := [], laidByText := true, laidKinds := [.data], laidTests := true, laidLooks := .later }
def ZsetCompCardSaid : Prop := Claim7.holds Tryz.pinned (.plain (OpenSpec.ofChange zsetCompSpec)) zsetCompCard

/-- THE TIED CARD OF 'rallentandolaw13.ZsetWindows'. -/
def zsetWindowsCard : Claim7 := { stood := { row := zsetWindowsRow, standIns := [], harness := (true, "dedfc36a848b7b0b3590d744953335447f29621c2f89cc141b977538f7b15672"), looks := false }, kinds := [], alts := [], laidByText := true, laidKinds := [.data, .data], laidTests := true, laidLooks := .later }
def ZsetWindowsCardSaid : Prop := Claim7.holds Tryz.pinned (.plain (OpenSpec.ofChange zsetWindowsSpec)) zsetWindowsCard

/-- THE TIED CARD OF 'rallentandolaw12.CoverTells'. -/
def coverTellsCard : Claim7 := { stood := { row := coverTellsRow, standIns := [], harness := (true, "dedfc36a848b7b0b3590d744953335447f29621c2f89cc141b977538f7b15672"), looks := false }, kinds := [], alts := [], laidByText := true, laidKinds := [.data], laidTests := true, laidLooks := .later }
def CoverTellsCardSaid : Prop := Claim7.holds Tryz.pinned (.plain (OpenSpec.ofChange coverTellsSpec)) coverTellsCard

/-- THE TIED CARD OF 'rallentandolaw12.CoverLong'. -/
def coverLongCard : Claim7 := { stood := { row := coverLongRow, standIns := [], harness := (true, "dedfc36a848b7b0b3590d744953335447f29621c2f89cc141b977538f7b15672"), looks := false }, kinds := [], alts := [], laidByText := true, laidKinds := [.data], laidTests := true, laidLooks := .later }
def CoverLongCardSaid : Prop := Claim7.holds Tryz.pinned (.plain (OpenSpec.ofChange coverLongSpec)) coverLongCard

/-- THE TIED CARD OF 'rallentandolaw12.CoverPrunes'. -/
def coverPrunesCard : Claim7 := { stood := { row := coverPrunesRow, standIns := [], harness := (true, "dedfc36a848b7b0b3590d744953335447f29621c2f89cc141b977538f7b15672"), looks := false }, kinds := [], alts := [], laidByText := true, laidKinds := [.data], laidTests := true, laidLooks := .later }
def CoverPrunesCardSaid : Prop := Claim7.holds Tryz.pinned (.plain (OpenSpec.ofChange coverPrunesSpec)) coverPrunesCard

/-- THE SECOND FORM's CARD OF 'rallentandolaw13.ZsetNames'. -/
def zsetNamesUptoCard : Claim7 := { stood := { row := zsetNamesUptoRow, standIns := [], harness := (true, "dedfc36a848b7b0b3590d744953335447f29621c2f89cc141b977538f7b15672"), looks := false }, kinds := [], alts := [], laidByText := true, laidKinds := [.data], laidTests := true, laidLooks := .later }
def ZsetNamesUptoCardSaid : Prop := Claim7.holds Tryz.pinned (.plain (OpenSpec.upto zsetNamesSpec)) zsetNamesUptoCard

/-- THE SECOND FORM's CARD OF 'rallentandolaw13.ZsetTells'. -/
def zsetTellsUptoCard : Claim7 := { stood := { row := zsetTellsUptoRow, standIns := [], harness := (true, "dedfc36a848b7b0b3590d744953335447f29621c2f89cc141b977538f7b15672"), looks := false }, kinds := [], alts := [], laidByText := true, laidKinds := [.data], laidTests := true, laidLooks := .later }
def ZsetTellsUptoCardSaid : Prop := Claim7.holds Tryz.pinned (.plain (OpenSpec.upto zsetTellsSpec)) zsetTellsUptoCard

/-- THE SECOND FORM's CARD OF 'rallentandolaw13.ZsetAsks'. -/
def zsetAsksUptoCard : Claim7 := { stood := { row := zsetAsksUptoRow, standIns := [], harness := (true, "dedfc36a848b7b0b3590d744953335447f29621c2f89cc141b977538f7b15672"), looks := false }, kinds := [], alts := [], laidByText := true, laidKinds := [.data, .data], laidTests := true, laidLooks := .later }
def ZsetAsksUptoCardSaid : Prop := Claim7.holds Tryz.pinned (.plain (OpenSpec.upto zsetAsksSpec)) zsetAsksUptoCard

/-- THE SECOND FORM's CARD OF 'rallentandolaw13.ZsetLong'. -/
def zsetLongUptoCard : Claim7 := { stood := { row := zsetLongUptoRow, standIns := [], harness := (true, "dedfc36a848b7b0b3590d744953335447f29621c2f89cc141b977538f7b15672"), looks := false }, kinds := [], alts := [], laidByText := true, laidKinds := [.data, .data], laidTests := true, laidLooks := .later }
def ZsetLongUptoCardSaid : Prop := Claim7.holds Tryz.pinned (.plain (OpenSpec.upto zsetLongSpec)) zsetLongUptoCard

/-- THE SECOND FORM's CARD OF 'rallentandolaw13.ZsetPoints'. -/
def zsetPointsUptoCard : Claim7 := { stood := { row := zsetPointsUptoRow, standIns := [], harness := (true, "dedfc36a848b7b0b3590d744953335447f29621c2f89cc141b977538f7b15672"), looks := false }, kinds := [], alts := [], laidByText := true, laidKinds := [.data, .data], laidTests := true, laidLooks := .later }
def ZsetPointsUptoCardSaid : Prop := Claim7.holds Tryz.pinned (.plain (OpenSpec.upto zsetPointsSpec)) zsetPointsUptoCard

/-- THE SECOND FORM's CARD OF 'rallentandolaw13.ZsetOrder'. -/
def zsetOrderUptoCard : Claim7 := { stood := { row := zsetOrderUptoRow, standIns := [], harness := (true, "dedfc36a848b7b0b3590d744953335447f29621c2f89cc141b977538f7b15672"), looks := false }, kinds := [], alts := [], laidByText := true, laidKinds := [.data], laidTests := true, laidLooks := .later }
def ZsetOrderUptoCardSaid : Prop := Claim7.holds Tryz.pinned (.plain (OpenSpec.upto zsetOrderSpec)) zsetOrderUptoCard

/-- THE SECOND FORM's CARD OF 'rallentandolaw13.ZsetComp'. -/
def zsetCompUptoCard : Claim7 := { stood := { row := zsetCompUptoRow, standIns := [], harness := (true, "dedfc36a848b7b0b3590d744953335447f29621c2f89cc141b977538f7b15672"), looks := false }, kinds := [], alts := [], laidByText := true, laidKinds := [.data], laidTests := true, laidLooks := .later }
def ZsetCompUptoCardSaid : Prop := Claim7.holds Tryz.pinned (.plain (OpenSpec.upto zsetCompSpec)) zsetCompUptoCard

/-- THE SECOND FORM's CARD OF 'rallentandolaw13.ZsetWindows'. -/
def zsetWindowsUptoCard : Claim7 := { stood := { row := zsetWindowsUptoRow, standIns := [], harness := (true, "dedfc36a848b7b0b3590d744953335447f29621c2f89cc141b977538f7b15672"), looks := false }, kinds := [], alts := [], laidByText := true, laidKinds := [.data, .data], laidTests := true, laidLooks := .later }
def ZsetWindowsUptoCardSaid : Prop := Claim7.holds Tryz.pinned (.plain (OpenSpec.upto zsetWindowsSpec)) zsetWindowsUptoCard

/-- THE SECOND FORM's CARD OF 'rallentandolaw12.CoverTells'. -/
def coverTellsUptoCard : Claim7 := { stood := { row := coverTellsUptoRow, standIns := [], harness := (true, "dedfc36a848b7b0b3590d744953335447f29621c2f89cc141b977538f7b15672"), looks := false }, kinds := [], alts := [], laidByText := true, laidKinds := [.data], laidTests := true, laidLooks := .later }
def CoverTellsUptoCardSaid : Prop := Claim7.holds Tryz.pinned (.plain (OpenSpec.upto coverTellsSpec)) coverTellsUptoCard

/-- THE SECOND FORM's CARD OF 'rallentandolaw12.CoverLong'. -/
def coverLongUptoCard : Claim7 := { stood := { row := coverLongUptoRow, standIns := [], harness := (true, "dedfc36a848b7b0b3590d744953335447f29621c2f89cc141b977538f7b15672"), looks := false }, kinds := [], alts := [], laidByText := true, laidKinds := [.data], laidTests := true, laidLooks := .later }
def CoverLongUptoCardSaid : Prop := Claim7.holds Tryz.pinned (.plain (OpenSpec.upto coverLongSpec)) coverLongUptoCard

/-- THE SECOND FORM's CARD OF 'rallentandolaw12.CoverPrunes'. -/
def coverPrunesUptoCard : Claim7 := { stood := { row := coverPrunesUptoRow, standIns := [], harness := (true, "dedfc36a848b7b0b3590d744953335447f29621c2f89cc141b977538f7b15672"), looks := false }, kinds := [], alts := [], laidByText := true, laidKinds := [.data], laidTests := true, laidLooks := .later }
def CoverPrunesUptoCardSaid : Prop := Claim7.holds Tryz.pinned (.plain (OpenSpec.upto coverPrunesSpec)) coverPrunesUptoCard
end Rows
end Go.Proofs.YthmljpccbjolgaaGreatDoor
