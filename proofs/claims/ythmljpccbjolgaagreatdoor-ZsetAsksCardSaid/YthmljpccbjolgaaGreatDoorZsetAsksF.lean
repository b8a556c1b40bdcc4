/-
  What the row of ZsetAsks says of its function's text, reckoned.
-/
import Derived.Test.YthmljpccbjolgaaGreatDoorRows
import Derived.JoinedOf
import Derived.SevenTiedAt
namespace Go.Proofs.YthmljpccbjolgaaGreatDoor.closedZsetAsks
open Go
set_option maxRecDepth 100000

theorem and_t {a b : Bool} (h : a = true) (k : b = true) : (a && b) = true := by rw [h, k]; rfl
theorem and_l {a b : Bool} (h : (a && b) = true) : a = true := by cases a; exact h; rfl
theorem and_r {a b : Bool} (h : (a && b) = true) : b = true := by cases a; cases h; exact h
theorem g0 : ((Rows.zsetAsksRow.wf (OpenSpec.ofChange Rows.zsetAsksSpec)) && (laidOutB Tryz.prog) && (mapsRowed Tryz.prog) && (Tryz.f5.params.all (Tryz.prog.readableRec ·)) && (namedTie Tryz.prog Rows.zsetAsksRow.named Rows.zsetAsksSpec.vars) && (Rows.zsetAsksRow.stops == []) && (Tryz.prog.stops == []) && (Rows.zsetAsksRow.knobs == []) && (Tryz.prog.stopKnobs == [])) = true := by kernel_rfl
theorem g1 : ((Rows.zsetAsksRow.inPlace == Tryz.prog.inPlace 5) && (Rows.zsetAsksRow.unfollowed == Tryz.prog.unfollowed 5) && (Rows.zsetAsksRow.recurses == Tryz.prog.recurses 5)) = true := by kernel_rfl
theorem g2 : ((Rows.zsetAsksRow.named == Tryz.prog.varsNamed 5) && (Rows.zsetAsksRow.maps == (Tryz.f5.params.toList ++ Rows.zsetAsksSpec.plain.varTypes Tryz.prog).any (Tryz.prog.mapsRec ·)) && (Rows.zsetAsksRow.ifaces == (Tryz.f5.params.toList ++ Rows.zsetAsksSpec.plain.varTypes Tryz.prog).any (Tryz.prog.ifacesRec ·)) && (Rows.zsetAsksRow.mapsOut == Tryz.prog.mapsAmong Tryz.f5.resultTypes.toList) && (Rows.zsetAsksRow.loops == (Tryz.f5.params.toList ++ Rows.zsetAsksSpec.plain.varTypes Tryz.prog).any (Tryz.prog.loopsFrom ·)) && (Rows.zsetAsksRow.wideKeys == (Tryz.f5.params.toList ++ Rows.zsetAsksSpec.plain.varTypes Tryz.prog ++ Tryz.f5.resultTypes.toList).any (Tryz.prog.wideKeysFrom ·))) = true := by kernel_rfl
theorem g3 : ((Rows.zsetAsksSpec.vars.all (Tryz.prog.varReadable ·)) && (Tryz.f5.resultTypes.all (fun t => Tryz.prog.readableRec t && decide (t < Tryz.prog.types.size))) && (Rows.zsetAsksRow.ifacesOut == Tryz.f5.resultTypes.toList.any (Tryz.prog.ifacesRec ·)) && (Rows.zsetAsksRow.loopsOut == Tryz.f5.resultTypes.toList.any (Tryz.prog.loopsFrom ·))) = true := by kernel_rfl
theorem g4 : ((Rows.zsetAsksRow.plainKeys == Tryz.prog.plainKeys) && (Rows.zsetAsksRow.shortTexts.isNone)) = true := by kernel_rfl
theorem g5 : ((Tryz.prog.stopsHeard) && (Tryz.prog.mayEnter)) = true := by kernel_rfl
theorem g6 : ((Rows.zsetAsksRow.lifted == Tryz.prog.liftsFinal) && (Tryz.prog.make == some Rows.zsetAsksRow.make) && (Rows.zsetAsksRow.kinds == (if Rows.zsetAsksRow.domain.isEmpty then [] else Tryz.f5.params.toList.map fun t => match Tryz.prog.underlying t with | some (.int k) => some k | _ => none)) && (Rows.zsetAsksRow.pinned == Rows.zsetAsksRow.pinnedBy) && (Rows.zsetAsksRow.veiled == (Tryz.f5.params.toList ++ Rows.zsetAsksSpec.plain.varTypes Tryz.prog ++ Tryz.f5.resultTypes.toList).any (Tryz.prog.veiledRec ·)) && (Rows.zsetAsksRow.veiledFits Tryz.prog Tryz.f5.params.toList (Tryz.f5.params.toList ++ Rows.zsetAsksSpec.plain.varTypes Tryz.prog ++ Tryz.f5.resultTypes.toList))) = true := by kernel_rfl
theorem closed : joinedFacts Tryz.prog 5 Tryz.f5 Rows.zsetAsksSpec Rows.zsetAsksRow = true := and_t (and_t (and_t (and_t (and_t (and_t (and_t (and_t (and_t (and_t (and_t (and_t (and_t (and_t (and_t (and_t (and_t (and_t (and_t (and_t (and_t (and_t (and_t (and_t (and_t (and_t (and_t (and_t (and_t (and_t (and_t ((and_l (and_l (and_l (and_l (and_l (and_l (and_l (and_l g0))))))))) (and_r (and_l (and_l (and_l (and_l (and_l (and_l (and_l g0))))))))) (and_r (and_l (and_l (and_l (and_l (and_l (and_l g0)))))))) (and_r (and_l (and_l (and_l (and_l (and_l g0))))))) (and_r (and_l (and_l (and_l (and_l g0)))))) (and_r (and_l (and_l (and_l g0))))) (and_r (and_l (and_l g0)))) (and_r (and_l g0))) (and_r g0)) (and_l (and_l g1))) (and_r (and_l g1))) (and_r g1)) (and_l (and_l (and_l (and_l (and_l g2)))))) (and_r (and_l (and_l (and_l (and_l g2)))))) (and_r (and_l (and_l (and_l g2))))) (and_r (and_l (and_l g2)))) (and_r (and_l g2))) (and_r g2)) (and_l (and_l (and_l g3)))) (and_r (and_l (and_l g3)))) (and_r (and_l g3))) (and_r g3)) (and_l g4)) (and_r g4)) (and_l g5)) (and_r g5)) (and_l (and_l (and_l (and_l (and_l g6)))))) (and_r (and_l (and_l (and_l (and_l g6)))))) (and_r (and_l (and_l (and_l g6))))) (and_r (and_l (and_l g6)))) (and_r (and_l g6))) (and_r g6)
theorem wfText : Rows.zsetAsksRow.wfByText (OpenSpec.ofChange Rows.zsetAsksSpec) = true := by kernel_rfl
theorem isMain : Tryz.prog.mainIs = some (true, "dedfc36a848b7b0b3590d744953335447f29621c2f89cc141b977538f7b15672".toList) := by kernel_rfl
theorem isNamed : Tryz.prog.funcNamed "rallentando/rallentandolaw13.ZsetAsks" = some 5 := by kernel_rfl
theorem noLooks : false = Tryz.prog.looks [] := by kernel_rfl
theorem noStands : (Tryz.f5.params.toList.all fun u => !Tryz.prog.wantsStandIn u) = true := by kernel_rfl
theorem goes : false = Rows.zsetAsksRow.goesBy Tryz.prog := by kernel_rfl
end Go.Proofs.YthmljpccbjolgaaGreatDoor.closedZsetAsks
