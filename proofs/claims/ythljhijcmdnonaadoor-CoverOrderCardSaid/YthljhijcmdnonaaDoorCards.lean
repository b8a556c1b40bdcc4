/-
  DERIVED. GIVEN WITH THE SEED: THE CARDS: each row of YthljhijcmdnonaaDoorRows.lean that lists a variable, with what it lists TIED to the program's text (the seventh form; the later family's looks); each row that meets fmt, with fmt's text TOLD by the authors' own Lean function (tested against real Go, not proved from fmt's source: count such statements apart). THE CARD IS WHAT COUNTS. Prove the row's statement (the work); the ties are given (YthljhijcmdnonaaDoorTie.lean); close each card by the builder's one call (the guide's Derived/Test/ToyasCard.lean, 'card_holds'). Laid BY PROGRAM, IN A SANDBOX (cutbox-door.mjs). By AI agents, Wed Nov 11 2026. No macro, syntax, notation, axiom, sorry.
-/
import Derived.Test.YthljhijcmdnonaaDoorRows
import GoSem.ClaimSeven
namespace Go.Proofs.YthljhijcmdnonaaDoor
namespace Rows

/-- THE TIED CARD OF 'rallentandolaw12.CoverOrder'. -/
def coverOrderCard : Claim7 := { stood := { row := coverOrderRow, standIns := [], harness := (true, "2a653a2495a718f6f3da16277af760e3a8a3a7580c5191817e652a07864c08ce"), looks := false }, kinds := [], alts := [], laidByText := true, laidKinds := [.data], laidTests := true, laidLooks := .later }
def CoverOrderCardSaid : Prop := Claim7.holds Tryd.pinned (.plain (OpenSpec.ofChange coverOrderSpec)) coverOrderCard

/-- THE TIED CARD OF 'rallentandolaw12.CoverWitness'. -/
def coverWitnessCard : Claim7 := { stood := { row := coverWitnessRow, standIns := [], harness := (true, "2a653a2495a718f6f3da16277af760e3a8a3a7580c5191817e652a07864c08ce"), looks := false }, kinds := [], alts := [], laidByText := true, laidKinds := [.data], laidTests := true, laidLooks := .later }
def CoverWitnessCardSaid : Prop := Claim7.holds Tryd.pinned (.plain (OpenSpec.ofChange coverWitnessSpec)) coverWitnessCard

/-- THE SECOND FORM's CARD OF 'rallentandolaw12.CoverOrder'. -/
def coverOrderUptoCard : Claim7 := { stood := { row := coverOrderUptoRow, standIns := [], harness := (true, "2a653a2495a718f6f3da16277af760e3a8a3a7580c5191817e652a07864c08ce"), looks := false }, kinds := [], alts := [], laidByText := true, laidKinds := [.data], laidTests := true, laidLooks := .later }
def CoverOrderUptoCardSaid : Prop := Claim7.holds Tryd.pinned (.plain (OpenSpec.upto coverOrderSpec)) coverOrderUptoCard

/-- THE SECOND FORM's CARD OF 'rallentandolaw12.CoverWitness'. -/
def coverWitnessUptoCard : Claim7 := { stood := { row := coverWitnessUptoRow, standIns := [], harness := (true, "2a653a2495a718f6f3da16277af760e3a8a3a7580c5191817e652a07864c08ce"), looks := false }, kinds := [], alts := [], laidByText := true, laidKinds := [.data], laidTests := true, laidLooks := .later }
def CoverWitnessUptoCardSaid : Prop := Claim7.holds Tryd.pinned (.plain (OpenSpec.upto coverWitnessSpec)) coverWitnessUptoCard
end Rows
end Go.Proofs.YthljhijcmdnonaaDoor
