/-
  What the row of CoverLong says of its function's text, reckoned.
-/
import Derived.Test.YthmljpccbjolgaaGreatDoorRows
import Derived.JoinedOf
import Derived.SevenTiedAt
namespace Go.Proofs.YthmljpccbjolgaaGreatDoor.closedCoverLong
open Go
set_option maxRecDepth 100000

theorem and_t {a b : Bool} (h : a = true) (k : b = true) : (a && b) = true := by rw [h, k]; rfl
theorem and_l {a b : Bool} (h : (a && b) = true) : a = true := by cases a; exact h; rfl
theorem and_r {a b : Bool} (h : (a && b) = true) : b = true := by cases a; cases h; exact h
theorem g0 : ((Rows.coverLongRow.wf (OpenSpec.ofChange Rows.coverLongSpec)) && (laidOutB Tryz.prog) && (mapsRowed Tryz.prog) && (Tryz.f12.params.all (Tryz.prog.readableRec ·)) && (namedTie Tryz.prog Rows.coverLongRow.named Rows.coverLongSpec.vars) && (Rows.coverLongRow.stops == []) && (Tryz.prog.stops == []) && (Rows.coverLongRow.knobs == []) && (Tryz.prog.stopKnobs == [])) = true := by kernel_rfl
theorem g1 : ((Rows.coverLongRow.inPlace == Tryz.prog.inPlace 12) && (Rows.coverLongRow.unfollowed == Tryz.prog.unfollowed 12) && (Rows.coverLongRow.recurses == Tryz.prog.recurses 12)) = true := by kernel_rfl
theorem g2 : ((Rows.coverLongRow.named == Tryz.prog.varsNamed 12) && (Rows.coverLongRow.maps == (Tryz.f12.params.toList ++ Rows.coverLongSpec.plain.varTypes Tryz.prog).any (Tryz.prog.mapsRec ·)) && (Rows.coverLongRow.ifaces == (Tryz.f12.params.toList ++ Rows.coverLongSpec.plain.varTypes Tryz.prog).any (Tryz.prog.ifacesRec ·)) && (Rows.coverLongRow.mapsOut == Tryz.prog.mapsAmong Tryz.f12.resultTypes.toList) && (Rows.coverLongRow.loops == (Tryz.f12.params.toList ++ Rows.coverLongSpec.plain.varTypes Tryz.prog).any (Tryz.prog.loopsFrom ·)) && (Rows.coverLongRow.wideKeys == (Tryz.f12.params.toList ++ Rows.coverLongSpec.plain.varTypes Tryz.prog ++ Tryz.f12.resultTypes.toList).any (Tryz.prog.wideKeysFrom ·))) = true := by kernel_rfl
theorem g3 : ((Rows.coverLongSpec.vars.all (Tryz.prog.varReadable ·)) && (Tryz.f12.resultTypes.all (fun t => Tryz.prog.readableRec t && decide (t < Tryz.prog.types.size))) && (Rows.coverLongRow.ifacesOut == Tryz.f12.resultTypes.toList.any (Tryz.prog.ifacesRec ·)) && (Rows.coverLongRow.loopsOut == Tryz.f12.resultTypes.toList.any (Tryz.prog.loopsFrom ·))) = true := by kernel_rfl
theorem g4 : ((Rows.coverLongRow.plainKeys == Tryz.prog.plainKeys) && (Rows.coverLongRow.shortTexts.isNone)) = true := by kernel_rfl
theorem g5 : ((Tryz.prog.stopsHeard) && (Tryz.prog.mayEnter)) = true := by kernel_rfl
theorem g6 : ((Rows.coverLongRow.lifted == Tryz.prog.liftsFinal) && (Tryz.prog.make == some Rows.coverLongRow.make) && (Rows.coverLongRow.kinds == (if Rows.coverLongRow.domain.isEmpty then [] else Tryz.f12.params.toList.map fun t => match Tryz.prog.underlying t with | some (.int k) => some k | _ => none)) && (Rows.coverLongRow.pinned == Rows.coverLongRow.pinnedBy) && (Rows.coverLongRow.veiled == (Tryz.f12.params.toList ++ Rows.coverLongSpec.plain.varTypes Tryz.prog ++ Tryz.f12.resultTypes.toList).any (Tryz.prog.veiledRec ·)) && (Rows.coverLongRow.veiledFits Tryz.prog Tryz.f12.params.toList (Tryz.f12.params.toList ++ Rows.coverLongSpec.plain.varTypes Tryz.prog ++ Tryz.f12.resultTypes.toList))) = true := by kernel_rfl
theorem closed : joinedFacts Tryz.prog 12 Tryz.f12 Rows.coverLongSpec Rows.coverLongRow = true := and_t (and_t (and_t (and_t (and_t (and_t (and_t (and_t (and_t (and_t (and_t (and_t (and_t (and_t (and_t (and_t (and_t (and_t (and_t (and_t (and_t (and_t (and_t (and_t (and_t (and_t (and_t (and_t (and_t (and_t (and_t ((and_l (and_l (and_l (and_l (and_l (and_l (and_l (and_l g0))))))))) (and_r (and_l (and_l (and_l (and_l (and_l (and_l (and_l g0))))))))) (and_r (and_l (and_l (and_l (and_l (and_l (and_l g0)))))))) (and_r (and_l (and_l (and_l (and_l (and_l g0))))))) (and_r (and_l (and_l (and_l (and_l g0)))))) (and_r (and_l (and_l (and_l g0))))) (and_r (and_l (and_l g0)))) (and_r (and_l g0))) (and_r g0)) (and_l (and_l g1))) (and_r (and_l g1))) (and_r g1)) (and_l (and_l (and_l (and_l (and_l g2)))))) (and_r (and_l (and_l (and_l (and_l g2)))))) (and_r (and_l (and_l (and_l g2))))) (and_r (and_l (and_l g2)))) (and_r (and_l g2))) (and_r g2)) (and_l (and_l (and_l g3)))) (and_r (and_l (and_l g3)))) (and_r (and_l g3))) (and_r g3)) (and_l g4)) (and_r g4)) (and_l g5)) (and_r g5)) (and_l (and_l (and_l (and_l (and_l g6)))))) (and_r (and_l (and_l (and_l (and_l g6)))))) (and_r (and_l (and_l (and_l g6))))) (and_r (and_l (and_l g6)))) (and_r (and_l g6))) (and_r g6)
theorem wfText : Rows.coverLongRow.wfByText (OpenSpec.ofChange Rows.coverLongSpec) = true := by kernel_rfl
theorem isMain : Tryz.prog.mainIs = some (true, "dedfc36a848b7b0b3590d744953335447f29621c2f89cc141b977538f7b15672".toList) := by kernel_rfl
theorem isNamed : Tryz.prog.funcNamed "rallentando/rallentandolaw12.CoverLong" = some 12 := by kernel_rfl
theorem noLooks : false = Tryz.prog.looks [] := by kernel_rfl
theorem noStands : (Tryz.f12.params.toList.all fun u => !Tryz.prog.wantsStandIn u) = true := by kernel_rfl
theorem goes : false = Rows.coverLongRow.goesBy Tryz.prog := by kernel_rfl
end Go.Proofs.YthmljpccbjolgaaGreatDoor.closedCoverLong
