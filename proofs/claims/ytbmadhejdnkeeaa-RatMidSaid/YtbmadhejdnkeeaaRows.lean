/-
  No cell of these rows narrows 'for every input' (looked for: loops, veiled, ifaces, maps, wideKeys, modest, calm, conditions, laid).
  DERIVED. THE GIVEN ROWS OF THIS SEAT. 7 by the template 'for every input the law returns true; each argument reads behind the call as it read before'; 0 by the template 'total and deterministic' (their statements: YtbmadhejdnkeeaaTotals.lean).
  GIVEN WITH THE SEED: the statements are not yours to turn. If you find one false, say at which input.
  Laid BY PROGRAM, IN A SANDBOX (cutbox-rows.mjs): the forced cells as the released guide's own fill.sh prints them over the translation fc71b578b7807022… (all of the seat's roots in one cut). By AI agents, Wed Nov 11 2026. No macro, syntax, notation, axiom, sorry.
-/
import Derived.Test.YtbmadhejdnkeeaaChecked
import GoSem.Claim
import GoSem.ClaimJoined
import GoSem.ClaimMapViews
import Derived.JoinedTies
import Derived.KernelRfl
namespace Go.Proofs.Ytbmadhejdnkeeaa
/- THE CELL 'sum', in the pinned program and in every row, IS THE sha256 OF THE DUMP (.gsa) THAT YtbmadhejdnkeeaaProg.lean LOADS. Nothing in Lean hashes anything: it is a label: what it is worth is what the hold of that sum in a sandbox is worth. -/
noncomputable def Try.pinned : Pinned := { name := "ytbmadhejdnkeeaa", sum := "fc71b578b780702232b997f3109cd80dbd7095e527c74d36615f36bdf231bdec", checked := Try.checked }
namespace Rows
def none {H : Type} : Left H := { results := [], args := [] }

/-- 'rallentandolaw03.RatNames': WHATEVER THE INPUT: true; the input reads as it did. -/
def ratNamesSpec : ChangeSpec := { name := "ratNames", fn := fun _ => fun
  | [] => { results := [.lit (.bool true)], args := [] }
  | _ => none }
def ratNamesRow : OpenClaim := { program := "ytbmadhejdnkeeaa", sum := "fc71b578b780702232b997f3109cd80dbd7095e527c74d36615f36bdf231bdec", func := "rallentando/rallentandolaw03.RatNames", spec := "ratNames", inPlace := ["math/bits.Add64", "math/bits.Sub64"], unfollowed := true, recurses := true, named := ["math/bits.divideError", "math/bits.overflowError"], apart := false }
def RatNamesSaid : Prop := ratNamesRow.holds Try.pinned (OpenSpec.ofChange ratNamesSpec)

/-- ITS FALSE NEIGHBOUR: 'it returns false'. Refute it at one input. -/
def ratNamesWrong : ChangeSpec := { name := "ratNames", fn := fun _ => fun
  | [] => { results := [.lit (.bool false)], args := [] }
  | _ => none }
def RatNamesWrongFalsely : Prop := ratNamesRow.holds Try.pinned (OpenSpec.ofChange ratNamesWrong)

/-- 'rallentandolaw03.RatTells': WHATEVER THE INPUT: true; the input reads as it did. -/
def ratTellsSpec : ChangeSpec := { name := "ratTells", fn := fun _ => fun
  | [d1, d2, d3] => { results := [.lit (.bool true)], args := [d1, d2, d3] }
  | _ => none }
def ratTellsRow : OpenClaim := { program := "ytbmadhejdnkeeaa", sum := "fc71b578b780702232b997f3109cd80dbd7095e527c74d36615f36bdf231bdec", func := "rallentando/rallentandolaw03.RatTells", spec := "ratTells", inPlace := ["math/bits.Add64", "math/bits.Sub64"], unfollowed := true, recurses := true, named := ["math/bits.divideError", "math/bits.overflowError"], apart := false }
def RatTellsSaid : Prop := ratTellsRow.holds Try.pinned (OpenSpec.ofChange ratTellsSpec)

/-- ITS FALSE NEIGHBOUR: 'it returns false'. Refute it at one input. -/
def ratTellsWrong : ChangeSpec := { name := "ratTells", fn := fun _ => fun
  | [d1, d2, d3] => { results := [.lit (.bool false)], args := [d1, d2, d3] }
  | _ => none }
def RatTellsWrongFalsely : Prop := ratTellsRow.holds Try.pinned (OpenSpec.ofChange ratTellsWrong)

/-- 'rallentandolaw03.RatOf': WHATEVER THE INPUT: true; the input reads as it did. -/
def ratOfSpec : ChangeSpec := { name := "ratOf", fn := fun _ => fun
  | [d1, d2] => { results := [.lit (.bool true)], args := [d1, d2] }
  | _ => none }
def ratOfRow : OpenClaim := { program := "ytbmadhejdnkeeaa", sum := "fc71b578b780702232b997f3109cd80dbd7095e527c74d36615f36bdf231bdec", func := "rallentando/rallentandolaw03.RatOf", spec := "ratOf", named := ["math/bits.divideError", "math/bits.overflowError"], apart := false }
def RatOfSaid : Prop := ratOfRow.holds Try.pinned (OpenSpec.ofChange ratOfSpec)

/-- ITS FALSE NEIGHBOUR: 'it returns false'. Refute it at one input. -/
def ratOfWrong : ChangeSpec := { name := "ratOf", fn := fun _ => fun
  | [d1, d2] => { results := [.lit (.bool false)], args := [d1, d2] }
  | _ => none }
def RatOfWrongFalsely : Prop := ratOfRow.holds Try.pinned (OpenSpec.ofChange ratOfWrong)

/-- 'rallentandolaw03.RatOrder': WHATEVER THE INPUT: true; the input reads as it did. -/
def ratOrderSpec : ChangeSpec := { name := "ratOrder", fn := fun _ => fun
  | [d1, d2, d3] => { results := [.lit (.bool true)], args := [d1, d2, d3] }
  | _ => none }
def ratOrderRow : OpenClaim := { program := "ytbmadhejdnkeeaa", sum := "fc71b578b780702232b997f3109cd80dbd7095e527c74d36615f36bdf231bdec", func := "rallentando/rallentandolaw03.RatOrder", spec := "ratOrder", inPlace := ["math/bits.Add64"], unfollowed := true, recurses := true, named := ["math/bits.divideError", "math/bits.overflowError"], apart := false }
def RatOrderSaid : Prop := ratOrderRow.holds Try.pinned (OpenSpec.ofChange ratOrderSpec)

/-- ITS FALSE NEIGHBOUR: 'it returns false'. Refute it at one input. -/
def ratOrderWrong : ChangeSpec := { name := "ratOrder", fn := fun _ => fun
  | [d1, d2, d3] => { results := [.lit (.bool false)], args := [d1, d2, d3] }
  | _ => none }
def RatOrderWrongFalsely : Prop := ratOrderRow.holds Try.pinned (OpenSpec.ofChange ratOrderWrong)

/-- 'rallentandolaw03.RatMid': WHATEVER THE INPUT: true; the input reads as it did. -/
def ratMidSpec : ChangeSpec := { name := "ratMid", fn := fun _ => fun
  | [d1, d2] => { results := [.lit (.bool true)], args := [d1, d2] }
  | _ => none }
def ratMidRow : OpenClaim := { program := "ytbmadhejdnkeeaa", sum := "fc71b578b780702232b997f3109cd80dbd7095e527c74d36615f36bdf231bdec", func := "rallentando/rallentandolaw03.RatMid", spec := "ratMid", inPlace := ["math/bits.Add64"], unfollowed := true, recurses := true, named := ["math/bits.divideError", "math/bits.overflowError"], apart := false }
def RatMidSaid : Prop := ratMidRow.holds Try.pinned (OpenSpec.ofChange ratMidSpec)

/-- ITS FALSE NEIGHBOUR: 'it returns false'. Refute it at one input. -/
def ratMidWrong : ChangeSpec := { name := "ratMid", fn := fun _ => fun
  | [d1, d2] => { results := [.lit (.bool false)], args := [d1, d2] }
  | _ => none }
def RatMidWrongFalsely : Prop := ratMidRow.holds Try.pinned (OpenSpec.ofChange ratMidWrong)

/-- 'rallentandolaw03.RatSides': WHATEVER THE INPUT: true; the input reads as it did. -/
def ratSidesSpec : ChangeSpec := { name := "ratSides", fn := fun _ => fun
  | [d1, d2, d3] => { results := [.lit (.bool true)], args := [d1, d2, d3] }
  | _ => none }
def ratSidesRow : OpenClaim := { program := "ytbmadhejdnkeeaa", sum := "fc71b578b780702232b997f3109cd80dbd7095e527c74d36615f36bdf231bdec", func := "rallentando/rallentandolaw03.RatSides", spec := "ratSides", inPlace := ["math/bits.Add64", "math/bits.Sub64"], unfollowed := true, recurses := true, named := ["math/bits.divideError", "math/bits.overflowError"], apart := false }
def RatSidesSaid : Prop := ratSidesRow.holds Try.pinned (OpenSpec.ofChange ratSidesSpec)

/-- ITS FALSE NEIGHBOUR: 'it returns false'. Refute it at one input. -/
def ratSidesWrong : ChangeSpec := { name := "ratSides", fn := fun _ => fun
  | [d1, d2, d3] => { results := [.lit (.bool false)], args := [d1, d2, d3] }
  | _ => none }
def RatSidesWrongFalsely : Prop := ratSidesRow.holds Try.pinned (OpenSpec.ofChange ratSidesWrong)

/-- 'rallentandolaw03.RatFloor': WHATEVER THE INPUT: true; the input reads as it did. -/
def ratFloorSpec : ChangeSpec := { name := "ratFloor", fn := fun _ => fun
  | [d1, d2, d3] => { results := [.lit (.bool true)], args := [d1, d2, d3] }
  | _ => none }
def ratFloorRow : OpenClaim := { program := "ytbmadhejdnkeeaa", sum := "fc71b578b780702232b997f3109cd80dbd7095e527c74d36615f36bdf231bdec", func := "rallentando/rallentandolaw03.RatFloor", spec := "ratFloor", inPlace := ["math/bits.Add64"], unfollowed := true, recurses := true, named := ["math/bits.divideError", "math/bits.overflowError"], apart := false }
def RatFloorSaid : Prop := ratFloorRow.holds Try.pinned (OpenSpec.ofChange ratFloorSpec)

/-- ITS FALSE NEIGHBOUR: 'it returns false'. Refute it at one input. -/
def ratFloorWrong : ChangeSpec := { name := "ratFloor", fn := fun _ => fun
  | [d1, d2, d3] => { results := [.lit (.bool false)], args := [d1, d2, d3] }
  | _ => none }
def RatFloorWrongFalsely : Prop := ratFloorRow.holds Try.pinned (OpenSpec.ofChange ratFloorWrong)

/- THE SECOND FORM. 'bulk': how many values and letters a reading holds, each counted each time it is reached (what is shared counts as often as it is met; a slice's spare places count too). A statement '..UptoSaid' is the law's where the arguments, and the package variables that the reading takes, are together of bulk at most 1048576: NARROWER than '..Said'. Prove '..Said' where nothing that the law and all that it calls make is longer than what came in: it says more and counts as full. Else prove '..UptoSaid'. A law counts once. -/
mutual
def uptoBulk {H : Type} : DataW H → Nat
  | .lit (.string bytes) => bytes.length + 1
  | .lit _ => 1
  | .nil => 1
  | .ptr d => uptoBulk d + 1
  | .slice elems spare => uptoBulkAll elems + uptoBulkAll spare + 1
  | .agg parts => uptoBulkAll parts + 1
  | .iface _ d => uptoBulk d + 1
  | .map entries => uptoBulkEntries entries + 1
  | .held _ => 1
def uptoBulkAll {H : Type} : List (DataW H) → Nat
  | [] => 0
  | d :: r => uptoBulk d + uptoBulkAll r
def uptoBulkEntries {H : Type} : List (Lit × DataW H) → Nat
  | [] => 0
  | x :: r => uptoBulkEntry x + uptoBulkEntries r
def uptoBulkEntry {H : Type} : Lit × DataW H → Nat
  | (.string bytes, d) => bytes.length + uptoBulk d + 1
  | (_, d) => uptoBulk d + 1
 end
def uptoSmall : (H : Type) → List (DataW H) → Bool := fun _ ds => decide (uptoBulkAll ds ≤ 1048576)
def OpenSpec.upto (s : _root_.Go.ChangeSpec) : _root_.Go.OpenSpec := { _root_.Go.OpenSpec.ofChange s with cond := some uptoSmall }

/-- 'rallentandolaw03.RatNames', WHERE WHAT IT READS IS OF BULK AT MOST 1048576: true; the input reads as it did. -/
def ratNamesUptoRow : OpenClaim := { program := "ytbmadhejdnkeeaa", sum := "fc71b578b780702232b997f3109cd80dbd7095e527c74d36615f36bdf231bdec", func := "rallentando/rallentandolaw03.RatNames", spec := "ratNames", inPlace := ["math/bits.Add64", "math/bits.Sub64"], unfollowed := true, recurses := true, named := ["math/bits.divideError", "math/bits.overflowError"], apart := false, narrowed := true }
def RatNamesUptoSaid : Prop := ratNamesUptoRow.holds Try.pinned (OpenSpec.upto ratNamesSpec)

/-- 'rallentandolaw03.RatTells', WHERE WHAT IT READS IS OF BULK AT MOST 1048576: true; the input reads as it did. -/
def ratTellsUptoRow : OpenClaim := { program := "ytbmadhejdnkeeaa", sum := "fc71b578b780702232b997f3109cd80dbd7095e527c74d36615f36bdf231bdec", func := "rallentando/rallentandolaw03.RatTells", spec := "ratTells", inPlace := ["math/bits.Add64", "math/bits.Sub64"], unfollowed := true, recurses := true, named := ["math/bits.divideError", "math/bits.overflowError"], apart := false, narrowed := true }
def RatTellsUptoSaid : Prop := ratTellsUptoRow.holds Try.pinned (OpenSpec.upto ratTellsSpec)

/-- 'rallentandolaw03.RatOf', WHERE WHAT IT READS IS OF BULK AT MOST 1048576: true; the input reads as it did. -/
def ratOfUptoRow : OpenClaim := { program := "ytbmadhejdnkeeaa", sum := "fc71b578b780702232b997f3109cd80dbd7095e527c74d36615f36bdf231bdec", func := "rallentando/rallentandolaw03.RatOf", spec := "ratOf", named := ["math/bits.divideError", "math/bits.overflowError"], apart := false, narrowed := true }
def RatOfUptoSaid : Prop := ratOfUptoRow.holds Try.pinned (OpenSpec.upto ratOfSpec)

/-- 'rallentandolaw03.RatOrder', WHERE WHAT IT READS IS OF BULK AT MOST 1048576: true; the input reads as it did. -/
def ratOrderUptoRow : OpenClaim := { program := "ytbmadhejdnkeeaa", sum := "fc71b578b780702232b997f3109cd80dbd7095e527c74d36615f36bdf231bdec", func := "rallentando/rallentandolaw03.RatOrder", spec := "ratOrder", inPlace := ["math/bits.Add64"], unfollowed := true, recurses := true, named := ["math/bits.divideError", "math/bits.overflowError"], apart := false, narrowed := true }
def RatOrderUptoSaid : Prop := ratOrderUptoRow.holds Try.pinned (OpenSpec.upto ratOrderSpec)

/-- 'rallentandolaw03.RatMid', WHERE WHAT IT READS IS OF BULK AT MOST 1048576: true; the input reads as it did. -/
def ratMidUptoRow : OpenClaim := { program := "ytbmadhejdnkeeaa", sum := "fc71b578b780702232b997f3109cd80dbd7095e527c74d36615f36bdf231bdec", func := "rallentando/rallentandolaw03.RatMid", spec := "ratMid", inPlace := ["math/bits.Add64"], unfollowed := true, recurses := true, named := ["math/bits.divideError", "math/bits.overflowError"], apart := false, narrowed := true }
def RatMidUptoSaid : Prop := ratMidUptoRow.holds Try.pinned (OpenSpec.upto ratMidSpec)

/-- 'rallentandolaw03.RatSides', WHERE WHAT IT READS IS OF BULK AT MOST 1048576: true; the input reads as it did. -/
def ratSidesUptoRow : OpenClaim := { program := "ytbmadhejdnkeeaa", sum := "fc71b578b780702232b997f3109cd80dbd7095e527c74d36615f36bdf231bdec", func := "rallentando/rallentandolaw03.RatSides", spec := "ratSides", inPlace := ["math/bits.Add64", "math/bits.Sub64"], unfollowed := true, recurses := true, named := ["math/bits.divideError", "math/bits.overflowError"], apart := false, narrowed := true }
def RatSidesUptoSaid : Prop := ratSidesUptoRow.holds Try.pinned (OpenSpec.upto ratSidesSpec)

/-- 'rallentandolaw03.RatFloor', WHERE WHAT IT READS IS OF BULK AT MOST 1048576: true; the input reads as it did. -/
def ratFloorUptoRow : OpenClaim := { program := "ytbmadhejdnkeeaa", sum := "fc71b578b780702232b997f3109cd80dbd7095e527c74d36615f36bdf231bdec", func := "rallentando/rallentandolaw03.RatFloor", spec := "ratFloor", inPlace := ["math/bits.Add64"], unfollowed := true, recurses := true, named := ["math/bits.divideError", "math/bits.overflowError"], apart := false, narrowed := true }
def RatFloorUptoSaid : Prop := ratFloorUptoRow.holds Try.pinned (OpenSpec.upto ratFloorSpec)

end Rows
end Go.Proofs.Ytbmadhejdnkeeaa
