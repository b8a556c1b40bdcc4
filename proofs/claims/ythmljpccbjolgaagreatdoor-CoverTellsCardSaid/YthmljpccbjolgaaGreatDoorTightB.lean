
/-
  What Meet and Between of package tight answer, at any arguments; each theorem names its conditions.
-/
import Derived.Test.YthmljpccbjolgaaGreatDoorTightA
namespace Go.Proofs.YthmljpccbjolgaaGreatDoor.tight
open Go.ChangeShapes Go.WideShapes Go.ChangeAt Go.RowKit num dbm
open bound hiding up
set_option linter.unusedVariables false
set_option linter.unusedSimpArgs false
theorem box3 (n m:Int) (sv tv:Value) (w:World):Below w.heap.size w (((w.alloc (.cells #[.int .i64 n,sv] 81)).alloc (.cells #[.int .i64 m,tv] 81)).alloc (.cells #[.int .i64 0,.slice none 0 0] 81))∧lies.Lies (((w.alloc (.cells #[.int .i64 n,sv] 81)).alloc (.cells #[.int .i64 m,tv] 81)).alloc (.cells #[.int .i64 0,.slice none 0 0] 81)) w.heap.size 81 #[.int .i64 n,sv]∧lies.Lies (((w.alloc (.cells #[.int .i64 n,sv] 81)).alloc (.cells #[.int .i64 m,tv] 81)).alloc (.cells #[.int .i64 0,.slice none 0 0] 81)) (w.heap.size+1) 81 #[.int .i64 m,tv]∧lies.Lies (((w.alloc (.cells #[.int .i64 n,sv] 81)).alloc (.cells #[.int .i64 m,tv] 81)).alloc (.cells #[.int .i64 0,.slice none 0 0] 81)) (w.heap.size+1+1) 81 #[.int .i64 0,.slice none 0 0]:=
 ⟨bound.up3 _ _ _ _,lies.on_alloc (lies.on_alloc (lies.made w _ _) _) _,lies.on_alloc (lies.made_at _ _ _ _ (World.size_alloc _ _)) _,lies.made_at _ _ _ _ (by simp)⟩
theorem ret3 {B:Nat} {w W:World} (h:Below B w W) (hB:B≤w.heap.size+1+1) (u v:Value):Below B w ((W.setCell ⟨w.heap.size+1+1,0,none⟩ u).setCell ⟨w.heap.size+1+1,1,none⟩ v):=
 (h.setCell (p:=⟨w.heap.size+1+1,0,none⟩) hB _).setCell (p:=⟨w.heap.size+1+1,1,none⟩) hB _
end Go.Proofs.YthmljpccbjolgaaGreatDoor.tight
namespace Go.Proofs.YthmljpccbjolgaaGreatDoor.tight
open Go.ChangeShapes Go.WideShapes Go.ChangeAt Go.RowKit num dbm
open bound hiding up
set_option linter.unusedVariables false
set_option linter.unusedSimpArgs false
end Go.Proofs.YthmljpccbjolgaaGreatDoor.tight
