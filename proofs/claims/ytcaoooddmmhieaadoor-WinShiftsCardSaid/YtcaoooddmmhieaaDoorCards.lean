/-
  DERIVED. GIVEN WITH THE SEED: THE CARDS: each row of YtcaoooddmmhieaaDoorRows.lean that lists a variable, with what it lists TIED to the program's text (the seventh form; the later family's looks); each row that meets fmt, with fmt's text TOLD by the authors' own Lean function (tested against real Go, not proved from fmt's source: count such statements apart). THE CARD IS WHAT COUNTS. Prove the row's statement (the work); the ties are given (YtcaoooddmmhieaaDoorTie.lean); close each card by the builder's one call (the guide's Derived/Test/ToyasCard.lean, 'card_holds'). Laid BY PROGRAM, IN A SANDBOX (cutbox-door.mjs). By AI agents, Wed Nov 11 2026. No macro, syntax, notation, axiom, sorry.
-/
import Derived.Test.YtcaoooddmmhieaaDoorRows
import GoSem.ClaimSeven
namespace Go.Proofs.YtcaoooddmmhieaaDoor
namespace Rows

/-- THE TIED CARD OF 'rallentandolaw10.WinNames'. -/
def winNamesCard : Claim7 := { stood := { row := winNamesRow, standIns := [], harness := (true, "0e35938ca2f85e4d4a747e9ff2f0a86df4808d42b014bcedf4017d6c199ae299"), looks := false }, kinds := [], alts := [], laidByText := true, laidKinds := [.data], laidTests := true, laidLooks := .later }
def WinNamesCardSaid : Prop := Claim7.holds Tryd.pinned (.plain (OpenSpec.ofChange winNamesSpec)) winNamesCard

/-- THE TIED CARD OF 'rallentandolaw10.WinTells'. -/
def winTellsCard : Claim7 := { stood := { row := winTellsRow, standIns := [], harness := (true, "0e35938ca2f85e4d4a747e9ff2f0a86df4808d42b014bcedf4017d6c199ae299"), looks := false }, kinds := [], alts := [], laidByText := true, laidKinds := [.data], laidTests := true, laidLooks := .later }
def WinTellsCardSaid : Prop := Claim7.holds Tryd.pinned (.plain (OpenSpec.ofChange winTellsSpec)) winTellsCard

/-- THE TIED CARD OF 'rallentandolaw10.WinPoints'. -/
def winPointsCard : Claim7 := { stood := { row := winPointsRow, standIns := [], harness := (true, "0e35938ca2f85e4d4a747e9ff2f0a86df4808d42b014bcedf4017d6c199ae299"), looks := false }, kinds := [], alts := [], laidByText := true, laidKinds := [.data], laidTests := true, laidLooks := .later }
def WinPointsCardSaid : Prop := Claim7.holds Tryd.pinned (.plain (OpenSpec.ofChange winPointsSpec)) winPointsCard

/-- THE TIED CARD OF 'rallentandolaw10.WinOrder'. -/
def winOrderCard : Claim7 := { stood := { row := winOrderRow, standIns := [], harness := (true, "0e35938ca2f85e4d4a747e9ff2f0a86df4808d42b014bcedf4017d6c199ae299"), looks := false }, kinds := [], alts := [], laidByText := true, laidKinds := [.data], laidTests := true, laidLooks := .later }
def WinOrderCardSaid : Prop := Claim7.holds Tryd.pinned (.plain (OpenSpec.ofChange winOrderSpec)) winOrderCard

/-- THE TIED CARD OF 'rallentandolaw10.WinShifts'. -/
def winShiftsCard : Claim7 := { stood := { row := winShiftsRow, standIns := [], harness := (true, "0e35938ca2f85e4d4a747e9ff2f0a86df4808d42b014bcedf4017d6c199ae299"), looks := false }, kinds := [], alts := [], laidByText := true, laidKinds := [.data], laidTests := true, laidLooks := .later }
def WinShiftsCardSaid : Prop := Claim7.holds Tryd.pinned (.plain (OpenSpec.ofChange winShiftsSpec)) winShiftsCard

/-- THE TIED CARD OF 'rallentandolaw10.WinLess'. -/
def winLessCard : Claim7 := { stood := { row := winLessRow, standIns := [], harness := (true, "0e35938ca2f85e4d4a747e9ff2f0a86df4808d42b014bcedf4017d6c199ae299"), looks := false }, kinds := [], alts := [], laidByText := true, laidKinds := [.data], laidTests := true, laidLooks := .later }
def WinLessCardSaid : Prop := Claim7.holds Tryd.pinned (.plain (OpenSpec.ofChange winLessSpec)) winLessCard

/-- THE SECOND FORM's CARD OF 'rallentandolaw10.WinNames'. -/
def winNamesUptoCard : Claim7 := { stood := { row := winNamesUptoRow, standIns := [], harness := (true, "0e35938ca2f85e4d4a747e9ff2f0a86df4808d42b014bcedf4017d6c199ae299"), looks := false }, kinds := [], alts := [], laidByText := true, laidKinds := [.data], laidTests := true, laidLooks := .later }
def WinNamesUptoCardSaid : Prop := Claim7.holds Tryd.pinned (.plain (OpenSpec.upto winNamesSpec)) winNamesUptoCard

/-- THE SECOND FORM's CARD OF 'rallentandolaw10.WinTells'. -/
def winTellsUptoCard : Claim7 := { stood := { row := winTellsUptoRow, standIns := [], harness := (true, "0e35938ca2f85e4d4a747e9ff2f0a86df4808d42b014bcedf4017d6c199ae299"), looks := false }, kinds := [], alts := [], laidByText := true, laidKinds := [.data], laidTests := true, laidLooks := .later }
def WinTellsUptoCardSaid : Prop := Claim7.holds Tryd.pinned (.plain (OpenSpec.upto winTellsSpec)) winTellsUptoCard

/-- THE SECOND FORM's CARD OF 'rallentandolaw10.WinPoints'. -/
def winPointsUptoCard : Claim7 := { stood := { row := winPointsUptoRow, standIns := [], harness := (true, "0e35938ca2f85e4d4a747e9ff2f0a86df4808d42b014bcedf4017d6c199ae299"), looks := false }, kinds := [], alts := [], laidByText := true, laidKinds := [.data], laidTests := true, laidLooks := .later }
def WinPointsUptoCardSaid : Prop := Claim7.holds Tryd.pinned (.plain (OpenSpec.upto winPointsSpec)) winPointsUptoCard

/-- THE SECOND FORM's CARD OF 'rallentandolaw10.WinOrder'. -/
def winOrderUptoCard : Claim7 := { stood := { row := winOrderUptoRow, standIns := [], harness := (true, "0e35938ca2f85e4d4a747e9ff2f0a86df4808d42b014bcedf4017d6c199ae299"), looks := false }, kinds := [], alts := [], laidByText := true, laidKinds := [.data], laidTests := true, laidLooks := .later }
def WinOrderUptoCardSaid : Prop := Claim7.holds Tryd.pinned (.plain (OpenSpec.upto winOrderSpec)) winOrderUptoCard

/-- THE SECOND FORM's CARD OF 'rallentandolaw10.WinShifts'. -/
def winShiftsUptoCard : Claim7 := { stood := { row := winShiftsUptoRow, standIns := [], harness := (true, "0e35938ca2f85e4d4a747e9ff2f0a86df4808d42b014bcedf4017d6c199ae299"), looks := false }, kinds := [], alts := [], laidByText := true, laidKinds := [.data], laidTests := true, laidLooks := .later }
def WinShiftsUptoCardSaid : Prop := Claim7.holds Tryd.pinned (.plain (OpenSpec.upto winShiftsSpec)) winShiftsUptoCard

/-- THE SECOND FORM's CARD OF 'rallentandolaw10.WinLess'. -/
def winLessUptoCard : Claim7 := { stood := { row := winLessUptoRow, standIns := [], harness := (true, "0e35938ca2f85e4d4a747e9ff2f0a86df4808d42b014bcedf4017d6c199ae299"), looks := false }, kinds := [], alts := [], laidByText := true, laidKinds := [.data], laidTests := true, laidLooks := .later }
def WinLessUptoCardSaid : Prop := Claim7.holds Tryd.pinned (.plain (OpenSpec.upto winLessSpec)) winLessUptoCard
end Rows
end Go.Proofs.YtcaoooddmmhieaaDoor
