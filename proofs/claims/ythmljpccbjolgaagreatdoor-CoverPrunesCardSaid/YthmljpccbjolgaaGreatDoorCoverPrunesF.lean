/-
  What the row of CoverPrunes says of its function's text, reckoned.
-/
import Derived.Test.YthmljpccbjolgaaGreatDoorRows
import Derived.JoinedOf
import Derived.SevenTiedAt
namespace Go.Proofs.YthmljpccbjolgaaGreatDoor.closedCoverPrunes
open Go
set_option maxRecDepth 100000

theorem and_t {a b : Bool} (h : a = true) (k : b = true) : (a && b) = true := by rw [h, k]; rfl
theorem and_l {a b : Bool} (h : (a && b) = true) : a = true := by cases a; exact h; rfl
theorem and_r {a b : Bool} (h : (a && b) = true) : b = true := by cases a; cases h; exact h
theorem g0 : ((Rows.coverPrunesRow.wf (OpenSpec.ofChange Rows.coverPrunesSpec)) && (laidOutB Tryz.prog) && (mapsRowed Tryz.prog) && (Tryz.f13.params.all (Tryz.prog.readableRec ·)) && (namedTie Tryz.prog Rows.coverPrunesRow.named Rows.coverPrunesSpec.vars) && (Rows.coverPrunesRow.stops == []) && (Tryz.prog.stops == []) && (Rows.coverPrunesRow.knobs == []) && (Tryz.prog.stopKnobs == [])) = true := by kernel_rfl
theorem g1 : ((Rows.coverPrunesRow.inPlace == Tryz.prog.inPlace 13) && (Rows.coverPrunesRow.unfollowed == Tryz.prog.unfollowed 13) && (Rows.coverPrunesRow.recurses == Tryz.prog.recurses 13)) = true := by kernel_rfl
theorem g2 : ((Rows.coverPrunesRow.named == Tryz.prog.varsNamed 13) && (Rows.coverPrunesRow.maps == (Tryz.f13.params.toList ++ Rows.coverPrunesSpec.plain.varTypes Tryz.prog).any (Tryz.prog.mapsRec ·)) && (Rows.coverPrunesRow.ifaces == (Tryz.f13.params.toList ++ Rows.coverPrunesSpec.plain.varTypes Tryz.prog).any (Tryz.prog.ifacesRec ·)) && (Rows.coverPrunesRow.mapsOut == Tryz.prog.mapsAmong Tryz.f13.resultTypes.toList) && (Rows.coverPrunesRow.loops == (Tryz.f13.params.toList ++ Rows.coverPrunesSpec.plain.varTypes Tryz.prog).any (Tryz.prog.loopsFrom ·)) && (Rows.coverPrunesRow.wideKeys == (Tryz.f13.params.toList ++ Rows.coverPrunesSpec.plain.varTypes Tryz.prog ++ Tryz.f13.resultTypes.toList).any (Tryz.prog.wideKeysFrom ·))) = true := by kernel_rfl
theorem g3 : ((Rows.coverPrunesSpec.vars.all (Tryz.prog.varReadable ·)) && (Tryz.f13.resultTypes.all (fun t => Tryz.prog.readableRec t && decide (t < Tryz.prog.types.size))) && (Rows.coverPrunesRow.ifacesOut == Tryz.f13.resultTypes.toList.any (Tryz.prog.ifacesRec ·)) && (Rows.coverPrunesRow.loopsOut == Tryz.f13.resultTypes.toList.any (Tryz.prog.loopsFrom ·))) = true := by kernel_rfl
theorem g4 : ((Rows.coverPrunesRow.plainKeys == Tryz.prog.plainKeys) && (Rows.coverPrunesRow.shortTexts.isNone)) = true := by kernel_rfl
theorem g5 : ((Tryz.prog.stopsHeard) && (Tryz.prog.mayEnter)) = true := by kernel_rfl
theorem g6 : ((Rows.coverPrunesRow.lifted == Tryz.prog.liftsFinal) && (Tryz.prog.make == some Rows.coverPrunesRow.make) && (Rows.coverPrunesRow.kinds == (if Rows.coverPrunesRow.domain.isEmpty then [] else Tryz.f13.params.toList.map fun t => match Tryz.prog.underlying t with | some (.int k) => some k | _ => none)) && (Rows.coverPrunesRow.pinned == Rows.coverPrunesRow.pinnedBy) && (Rows.coverPrunesRow.veiled == (Tryz.f13.params.toList ++ Rows.coverPrunesSpec.plain.varTypes Tryz.prog ++ Tryz.f13.resultTypes.toList).any (Tryz.prog.veiledRec ·)) && (Rows.coverPrunesRow.veiledFits Tryz.prog Tryz.f13.params.toList (Tryz.f13.params.toList ++ Rows.coverPrunesSpec.plain.varTypes Tryz.prog ++ Tryz.f13.resultTypes.toList))) = true := by kernel_rfl
theorem closed : joinedFacts Tryz.prog 13 Tryz.f13 Rows.coverPrunesSpec Rows.coverPrunesRow = true := and_t (and_t (and_t (and_t (and_t (and_t (and_t (and_t (and_t (and_t (and_t (and_t (and_t (and_t (and_t (and_t (and_t (and_t (and_t (and_t (and_t (and_t (and_t (and_t (and_t (and_t (and_t (and_t (and_t (and_t (and_t ((and_l (and_l (and_l (and_l (and_l (and_l (and_l (and_l g0))))))))) (and_r (and_l (and_l (and_l (and_l (and_l (and_l (and_l g0))))))))) (and_r (and_l (and_l (and_l (and_l (and_l (and_l g0)))))))) (and_r (and_l (and_l (and_l (and_l (and_l g0))))))) (and_r (and_l (and_l (and_l (and_l g0)))))) (and_r (and_l (and_l (and_l g0))))) (and_r (and_l (and_l g0)))) (and_r (and_l g0))) (and_r g0)) (and_l (and_l g1))) (and_r (and_l g1))) (and_r g1)) (and_l (and_l (and_l (and_l (and_l g2)))))) (and_r (and_l (and_l (and_l (and_l g2)))))) (and_r (and_l (and_l (and_l g2))))) (and_r (and_l (and_l g2)))) (and_r (and_l g2))) (and_r g2)) (and_l (and_l (and_l g3)))) (and_r (and_l (and_l g3)))) (and_r (and_l g3))) (and_r g3)) (and_l g4)) (and_r g4)) (and_l g5)) (and_r g5)) (and_l (and_l (and_l (and_l (and_l g6)))))) (and_r (and_l (and_l (and_l (and_l g6)))))) (and_r (and_l (and_l (and_l g6))))) (and_r (and_l (and_l g6)))) (and_r (and_l g6))) (and_r g6)
theorem wfText : Rows.coverPrunesRow.wfByText (OpenSpec.ofChange Rows.coverPrunesSpec) = true := by kernel_rfl
theorem isMain : Tryz.prog.mainIs = some (true, "dedfc36a848b7b0b3590d744953335447f29621c2f89cc141b977538f7b15672".toList) := by kernel_rfl
theorem isNamed : Tryz.prog.funcNamed "rallentando/rallentandolaw12.CoverPrunes" = some 13 := by kernel_rfl
theorem noLooks : false = Tryz.prog.looks [] := by kernel_rfl
theorem noStands : (Tryz.f13.params.toList.all fun u => !Tryz.prog.wantsStandIn u) = true := by kernel_rfl
theorem goes : false = Rows.coverPrunesRow.goesBy Tryz.prog := by kernel_rfl
end Go.Proofs.YthmljpccbjolgaaGreatDoor.closedCoverPrunes
