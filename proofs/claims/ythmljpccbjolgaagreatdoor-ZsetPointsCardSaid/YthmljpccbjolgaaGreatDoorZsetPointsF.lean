/-
  What the row of ZsetPoints says of its function's text, reckoned.
-/
import Derived.Test.YthmljpccbjolgaaGreatDoorRows
import Derived.JoinedOf
import Derived.SevenTiedAt
namespace Go.Proofs.YthmljpccbjolgaaGreatDoor.closedZsetPoints
open Go
set_option maxRecDepth 100000

theorem and_t {a b : Bool} (h : a = true) (k : b = true) : (a && b) = true := by rw [h, k]; rfl
theorem and_l {a b : Bool} (h : (a && b) = true) : a = true := by cases a; exact h; rfl
theorem and_r {a b : Bool} (h : (a && b) = true) : b = true := by cases a; cases h; exact h
theorem g0 : ((Rows.zsetPointsRow.wf (OpenSpec.ofChange Rows.zsetPointsSpec)) && (laidOutB Tryz.prog) && (mapsRowed Tryz.prog) && (Tryz.f7.params.all (Tryz.prog.readableRec ·)) && (namedTie Tryz.prog Rows.zsetPointsRow.named Rows.zsetPointsSpec.vars) && (Rows.zsetPointsRow.stops == []) && (Tryz.prog.stops == []) && (Rows.zsetPointsRow.knobs == []) && (Tryz.prog.stopKnobs == [])) = true := by kernel_rfl
theorem g1 : ((Rows.zsetPointsRow.inPlace == Tryz.prog.inPlace 7) && (Rows.zsetPointsRow.unfollowed == Tryz.prog.unfollowed 7) && (Rows.zsetPointsRow.recurses == Tryz.prog.recurses 7)) = true := by kernel_rfl
theorem g2 : ((Rows.zsetPointsRow.named == Tryz.prog.varsNamed 7) && (Rows.zsetPointsRow.maps == (Tryz.f7.params.toList ++ Rows.zsetPointsSpec.plain.varTypes Tryz.prog).any (Tryz.prog.mapsRec ·)) && (Rows.zsetPointsRow.ifaces == (Tryz.f7.params.toList ++ Rows.zsetPointsSpec.plain.varTypes Tryz.prog).any (Tryz.prog.ifacesRec ·)) && (Rows.zsetPointsRow.mapsOut == Tryz.prog.mapsAmong Tryz.f7.resultTypes.toList) && (Rows.zsetPointsRow.loops == (Tryz.f7.params.toList ++ Rows.zsetPointsSpec.plain.varTypes Tryz.prog).any (Tryz.prog.loopsFrom ·)) && (Rows.zsetPointsRow.wideKeys == (Tryz.f7.params.toList ++ Rows.zsetPointsSpec.plain.varTypes Tryz.prog ++ Tryz.f7.resultTypes.toList).any (Tryz.prog.wideKeysFrom ·))) = true := by kernel_rfl
theorem g3 : ((Rows.zsetPointsSpec.vars.all (Tryz.prog.varReadable ·)) && (Tryz.f7.resultTypes.all (fun t => Tryz.prog.readableRec t && decide (t < Tryz.prog.types.size))) && (Rows.zsetPointsRow.ifacesOut == Tryz.f7.resultTypes.toList.any (Tryz.prog.ifacesRec ·)) && (Rows.zsetPointsRow.loopsOut == Tryz.f7.resultTypes.toList.any (Tryz.prog.loopsFrom ·))) = true := by kernel_rfl
theorem g4 : ((Rows.zsetPointsRow.plainKeys == Tryz.prog.plainKeys) && (Rows.zsetPointsRow.shortTexts.isNone)) = true := by kernel_rfl
theorem g5 : ((Tryz.prog.stopsHeard) && (Tryz.prog.mayEnter)) = true := by kernel_rfl
theorem g6 : ((Rows.zsetPointsRow.lifted == Tryz.prog.liftsFinal) && (Tryz.prog.make == some Rows.zsetPointsRow.make) && (Rows.zsetPointsRow.kinds == (if Rows.zsetPointsRow.domain.isEmpty then [] else Tryz.f7.params.toList.map fun t => match Tryz.prog.underlying t with | some (.int k) => some k | _ => none)) && (Rows.zsetPointsRow.pinned == Rows.zsetPointsRow.pinnedBy) && (Rows.zsetPointsRow.veiled == (Tryz.f7.params.toList ++ Rows.zsetPointsSpec.plain.varTypes Tryz.prog ++ Tryz.f7.resultTypes.toList).any (Tryz.prog.veiledRec ·)) && (Rows.zsetPointsRow.veiledFits Tryz.prog Tryz.f7.params.toList (Tryz.f7.params.toList ++ Rows.zsetPointsSpec.plain.varTypes Tryz.prog ++ Tryz.f7.resultTypes.toList))) = true := by kernel_rfl
theorem closed : joinedFacts Tryz.prog 7 Tryz.f7 Rows.zsetPointsSpec Rows.zsetPointsRow = true := and_t (and_t (and_t (and_t (and_t (and_t (and_t (and_t (and_t (and_t (and_t (and_t (and_t (and_t (and_t (and_t (and_t (and_t (and_t (and_t (and_t (and_t (and_t (and_t (and_t (and_t (and_t (and_t (and_t (and_t (and_t ((and_l (and_l (and_l (and_l (and_l (and_l (and_l (and_l g0))))))))) (and_r (and_l (and_l (and_l (and_l (and_l (and_l (and_l g0))))))))) (and_r (and_l (and_l (and_l (and_l (and_l (and_l g0)))))))) (and_r (and_l (and_l (and_l (and_l (and_l g0))))))) (and_r (and_l (and_l (and_l (and_l g0)))))) (and_r (and_l (and_l (and_l g0))))) (and_r (and_l (and_l g0)))) (and_r (and_l g0))) (and_r g0)) (and_l (and_l g1))) (and_r (and_l g1))) (and_r g1)) (and_l (and_l (and_l (and_l (and_l g2)))))) (and_r (and_l (and_l (and_l (and_l g2)))))) (and_r (and_l (and_l (and_l g2))))) (and_r (and_l (and_l g2)))) (and_r (and_l g2))) (and_r g2)) (and_l (and_l (and_l g3)))) (and_r (and_l (and_l g3)))) (and_r (and_l g3))) (and_r g3)) (and_l g4)) (and_r g4)) (and_l g5)) (and_r g5)) (and_l (and_l (and_l (and_l (and_l g6)))))) (and_r (and_l (and_l (and_l (and_l g6)))))) (and_r (and_l (and_l (and_l g6))))) (and_r (and_l (and_l g6)))) (and_r (and_l g6))) (and_r g6)
theorem wfText : Rows.zsetPointsRow.wfByText (OpenSpec.ofChange Rows.zsetPointsSpec) = true := by kernel_rfl
theorem isMain : Tryz.prog.mainIs = some (true, "dedfc36a848b7b0b3590d744953335447f29621c2f89cc141b977538f7b15672".toList) := by kernel_rfl
theorem isNamed : Tryz.prog.funcNamed "rallentando/rallentandolaw13.ZsetPoints" = some 7 := by kernel_rfl
theorem noLooks : false = Tryz.prog.looks [] := by kernel_rfl
theorem noStands : (Tryz.f7.params.toList.all fun u => !Tryz.prog.wantsStandIn u) = true := by kernel_rfl
theorem goes : false = Rows.zsetPointsRow.goesBy Tryz.prog := by kernel_rfl
end Go.Proofs.YthmljpccbjolgaaGreatDoor.closedZsetPoints
