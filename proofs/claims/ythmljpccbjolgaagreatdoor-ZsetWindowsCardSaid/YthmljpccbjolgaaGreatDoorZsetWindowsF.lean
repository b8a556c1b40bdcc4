/-
  What the row of ZsetWindows says of its function's text, reckoned.
-/
import Derived.Test.YthmljpccbjolgaaGreatDoorRows
import Derived.JoinedOf
import Derived.SevenTiedAt
namespace Go.Proofs.YthmljpccbjolgaaGreatDoor.closedZsetWindows
open Go
set_option maxRecDepth 100000

theorem and_t {a b : Bool} (h : a = true) (k : b = true) : (a && b) = true := by rw [h, k]; rfl
theorem and_l {a b : Bool} (h : (a && b) = true) : a = true := by cases a; exact h; rfl
theorem and_r {a b : Bool} (h : (a && b) = true) : b = true := by cases a; cases h; exact h
theorem g0 : ((Rows.zsetWindowsRow.wf (OpenSpec.ofChange Rows.zsetWindowsSpec)) && (laidOutB Tryz.prog) && (mapsRowed Tryz.prog) && (Tryz.f10.params.all (Tryz.prog.readableRec ·)) && (namedTie Tryz.prog Rows.zsetWindowsRow.named Rows.zsetWindowsSpec.vars) && (Rows.zsetWindowsRow.stops == []) && (Tryz.prog.stops == []) && (Rows.zsetWindowsRow.knobs == []) && (Tryz.prog.stopKnobs == [])) = true := by kernel_rfl
theorem g1 : ((Rows.zsetWindowsRow.inPlace == Tryz.prog.inPlace 10) && (Rows.zsetWindowsRow.unfollowed == Tryz.prog.unfollowed 10) && (Rows.zsetWindowsRow.recurses == Tryz.prog.recurses 10)) = true := by kernel_rfl
theorem g2 : ((Rows.zsetWindowsRow.named == Tryz.prog.varsNamed 10) && (Rows.zsetWindowsRow.maps == (Tryz.f10.params.toList ++ Rows.zsetWindowsSpec.plain.varTypes Tryz.prog).any (Tryz.prog.mapsRec ·)) && (Rows.zsetWindowsRow.ifaces == (Tryz.f10.params.toList ++ Rows.zsetWindowsSpec.plain.varTypes Tryz.prog).any (Tryz.prog.ifacesRec ·)) && (Rows.zsetWindowsRow.mapsOut == Tryz.prog.mapsAmong Tryz.f10.resultTypes.toList) && (Rows.zsetWindowsRow.loops == (Tryz.f10.params.toList ++ Rows.zsetWindowsSpec.plain.varTypes Tryz.prog).any (Tryz.prog.loopsFrom ·)) && (Rows.zsetWindowsRow.wideKeys == (Tryz.f10.params.toList ++ Rows.zsetWindowsSpec.plain.varTypes Tryz.prog ++ Tryz.f10.resultTypes.toList).any (Tryz.prog.wideKeysFrom ·))) = true := by kernel_rfl
theorem g3 : ((Rows.zsetWindowsSpec.vars.all (Tryz.prog.varReadable ·)) && (Tryz.f10.resultTypes.all (fun t => Tryz.prog.readableRec t && decide (t < Tryz.prog.types.size))) && (Rows.zsetWindowsRow.ifacesOut == Tryz.f10.resultTypes.toList.any (Tryz.prog.ifacesRec ·)) && (Rows.zsetWindowsRow.loopsOut == Tryz.f10.resultTypes.toList.any (Tryz.prog.loopsFrom ·))) = true := by kernel_rfl
theorem g4 : ((Rows.zsetWindowsRow.plainKeys == Tryz.prog.plainKeys) && (Rows.zsetWindowsRow.shortTexts.isNone)) = true := by kernel_rfl
theorem g5 : ((Tryz.prog.stopsHeard) && (Tryz.prog.mayEnter)) = true := by kernel_rfl
theorem g6 : ((Rows.zsetWindowsRow.lifted == Tryz.prog.liftsFinal) && (Tryz.prog.make == some Rows.zsetWindowsRow.make) && (Rows.zsetWindowsRow.kinds == (if Rows.zsetWindowsRow.domain.isEmpty then [] else Tryz.f10.params.toList.map fun t => match Tryz.prog.underlying t with | some (.int k) => some k | _ => none)) && (Rows.zsetWindowsRow.pinned == Rows.zsetWindowsRow.pinnedBy) && (Rows.zsetWindowsRow.veiled == (Tryz.f10.params.toList ++ Rows.zsetWindowsSpec.plain.varTypes Tryz.prog ++ Tryz.f10.resultTypes.toList).any (Tryz.prog.veiledRec ·)) && (Rows.zsetWindowsRow.veiledFits Tryz.prog Tryz.f10.params.toList (Tryz.f10.params.toList ++ Rows.zsetWindowsSpec.plain.varTypes Tryz.prog ++ Tryz.f10.resultTypes.toList))) = true := by kernel_rfl
theorem closed : joinedFacts Tryz.prog 10 Tryz.f10 Rows.zsetWindowsSpec Rows.zsetWindowsRow = true := and_t (and_t (and_t (and_t (and_t (and_t (and_t (and_t (and_t (and_t (and_t (and_t (and_t (and_t (and_t (and_t (and_t (and_t (and_t (and_t (and_t (and_t (and_t (and_t (and_t (and_t (and_t (and_t (and_t (and_t (and_t ((and_l (and_l (and_l (and_l (and_l (and_l (and_l (and_l g0))))))))) (and_r (and_l (and_l (and_l (and_l (and_l (and_l (and_l g0))))))))) (and_r (and_l (and_l (and_l (and_l (and_l (and_l g0)))))))) (and_r (and_l (and_l (and_l (and_l (and_l g0))))))) (and_r (and_l (and_l (and_l (and_l g0)))))) (and_r (and_l (and_l (and_l g0))))) (and_r (and_l (and_l g0)))) (and_r (and_l g0))) (and_r g0)) (and_l (and_l g1))) (and_r (and_l g1))) (and_r g1)) (and_l (and_l (and_l (and_l (and_l g2)))))) (and_r (and_l (and_l (and_l (and_l g2)))))) (and_r (and_l (and_l (and_l g2))))) (and_r (and_l (and_l g2)))) (and_r (and_l g2))) (and_r g2)) (and_l (and_l (and_l g3)))) (and_r (and_l (and_l g3)))) (and_r (and_l g3))) (and_r g3)) (and_l g4)) (and_r g4)) (and_l g5)) (and_r g5)) (and_l (and_l (and_l (and_l (and_l g6)))))) (and_r (and_l (and_l (and_l (and_l g6)))))) (and_r (and_l (and_l (and_l g6))))) (and_r (and_l (and_l g6)))) (and_r (and_l g6))) (and_r g6)
theorem wfText : Rows.zsetWindowsRow.wfByText (OpenSpec.ofChange Rows.zsetWindowsSpec) = true := by kernel_rfl
theorem isMain : Tryz.prog.mainIs = some (true, "dedfc36a848b7b0b3590d744953335447f29621c2f89cc141b977538f7b15672".toList) := by kernel_rfl
theorem isNamed : Tryz.prog.funcNamed "rallentando/rallentandolaw13.ZsetWindows" = some 10 := by kernel_rfl
theorem noLooks : false = Tryz.prog.looks [] := by kernel_rfl
theorem noStands : (Tryz.f10.params.toList.all fun u => !Tryz.prog.wantsStandIn u) = true := by kernel_rfl
theorem goes : false = Rows.zsetWindowsRow.goesBy Tryz.prog := by kernel_rfl
end Go.Proofs.YthmljpccbjolgaaGreatDoor.closedZsetWindows
