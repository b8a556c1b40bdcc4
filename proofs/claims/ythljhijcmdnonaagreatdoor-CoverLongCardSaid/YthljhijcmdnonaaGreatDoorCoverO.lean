
/-
  What cover.All answers of a list that is too long; each theorem names its conditions.
-/
import Derived.Test.YthljhijcmdnonaaGreatDoorCoverP
namespace Go.Proofs.YthljhijcmdnonaaGreatDoor.cover
open Go.Joins Go.ChangeShapes Go.WideShapes Go.ChangeAt Go.RowKit num rat dbm Go.Proofs.YthljhijcmdnonaaGreatDoor.tight Go.Proofs.YthljhijcmdnonaaGreatDoor.incl Go.Proofs.YthljhijcmdnonaaGreatDoor.plaw Go.Proofs.YthljhijcmdnonaaGreatDoor.zopen Go.Proofs.YthljhijcmdnonaaGreatDoor.zone Go.Proofs.YthljhijcmdnonaaGreatDoor.win Go.Proofs.YthljhijcmdnonaaGreatDoor.minus Go.Proofs.YthljhijcmdnonaaGreatDoor.mz Go.Proofs.YthljhijcmdnonaaGreatDoor.mlaw
open bound hiding up
set_option linter.unusedVariables false
set_option linter.unusedSimpArgs false
set_option linter.unusedSectionVars false

set_option maxRecDepth 100000 in
set_option maxHeartbeats 8000000 in
theorem all_long (ao : Option Addr) (len cap : Nat) (bo : Option Addr) (lenb capb : Nat) (w : World) (h : 4096 < len ∨ 4096 < lenb) : Calls Tryz.prog 14 #[.slice ao len cap, .slice bo lenb capb] w fun e w' => Below w.heap.size w w' ∧ e = .returned (.tuple #[.bool false, .int .i64 4]) := by
  obtain ⟨w0, hX⟩ : ∃ w0, w0 = (w.alloc (.cells #[.slice bo lenb capb] 26)).alloc (.cells #[.slice ao len cap, .slice bo lenb capb] 26) := ⟨_, rfl⟩
  have DB : Below w.heap.size w w0 := by rw [hX]; exact bound.up2 _ _ _
  have D1 : lies.Lies w0 (w.heap.size + 1) 26 #[.slice ao len cap, .slice bo lenb capb] := by rw [hX]; exact lies.made_at _ _ _ _ (by simp)
  have H := Lib.hid h
  clear h
  go_enter Tryz.func14, Tryz.ntmps14
  go_wp2_with fail
  rw [← hX]
  clear hX
  refine (check_two _ ao len cap bo lenb capb (List.replicate len []) (List.replicate lenb []) w0 D1 (fun h1 h2 => by rcases H.out with k | k <;> omega) List.length_replicate List.length_replicate).mono ?_
  rintro e w1 ⟨hB, f, rfl, hR⟩
  obtain rfl := chk_long hR (by rw [List.length_replicate, List.length_replicate]; exact H.out)
  replace DB := later DB hB
  clear hB D1 hR
  go_wp2_with fail
  exact bodyPost_ret (v := .tuple #[.bool false, .int .i64 4]) (by simp [results, Tryz.results14, go_sem]) rfl ⟨DB, rfl⟩
end Go.Proofs.YthljhijcmdnonaaGreatDoor.cover
