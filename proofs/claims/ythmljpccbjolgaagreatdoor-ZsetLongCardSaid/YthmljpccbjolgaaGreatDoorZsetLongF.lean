/-
  What the row of ZsetLong says of its function's text, reckoned.
-/
import Derived.Test.YthmljpccbjolgaaGreatDoorRows
import Derived.JoinedOf
import Derived.SevenTiedAt
namespace Go.Proofs.YthmljpccbjolgaaGreatDoor.closedZsetLong
open Go
set_option maxRecDepth 100000

theorem and_t {a b : Bool} (h : a = true) (k : b = true) : (a && b) = true := by rw [h, k]; rfl
theorem and_l {a b : Bool} (h : (a && b) = true) : a = true := by cases a; exact h; rfl
theorem and_r {a b : Bool} (h : (a && b) = true) : b = true := by cases a; cases h; exact h
theorem g0 : ((Rows.zsetLongRow.wf (OpenSpec.ofChange Rows.zsetLongSpec)) && (laidOutB Tryz.prog) && (mapsRowed Tryz.prog) && (Tryz.f6.params.all (Tryz.prog.readableRec ·)) && (namedTie Tryz.prog Rows.zsetLongRow.named Rows.zsetLongSpec.vars) && (Rows.zsetLongRow.stops == []) && (Tryz.prog.stops == []) && (Rows.zsetLongRow.knobs == []) && (Tryz.prog.stopKnobs == [])) = true := by kernel_rfl
theorem g1 : ((Rows.zsetLongRow.inPlace == Tryz.prog.inPlace 6) && (Rows.zsetLongRow.unfollowed == Tryz.prog.unfollowed 6) && (Rows.zsetLongRow.recurses == Tryz.prog.recurses 6)) = true := by kernel_rfl
theorem g2 : ((Rows.zsetLongRow.named == Tryz.prog.varsNamed 6) && (Rows.zsetLongRow.maps == (Tryz.f6.params.toList ++ Rows.zsetLongSpec.plain.varTypes Tryz.prog).any (Tryz.prog.mapsRec ·)) && (Rows.zsetLongRow.ifaces == (Tryz.f6.params.toList ++ Rows.zsetLongSpec.plain.varTypes Tryz.prog).any (Tryz.prog.ifacesRec ·)) && (Rows.zsetLongRow.mapsOut == Tryz.prog.mapsAmong Tryz.f6.resultTypes.toList) && (Rows.zsetLongRow.loops == (Tryz.f6.params.toList ++ Rows.zsetLongSpec.plain.varTypes Tryz.prog).any (Tryz.prog.loopsFrom ·)) && (Rows.zsetLongRow.wideKeys == (Tryz.f6.params.toList ++ Rows.zsetLongSpec.plain.varTypes Tryz.prog ++ Tryz.f6.resultTypes.toList).any (Tryz.prog.wideKeysFrom ·))) = true := by kernel_rfl
theorem g3 : ((Rows.zsetLongSpec.vars.all (Tryz.prog.varReadable ·)) && (Tryz.f6.resultTypes.all (fun t => Tryz.prog.readableRec t && decide (t < Tryz.prog.types.size))) && (Rows.zsetLongRow.ifacesOut == Tryz.f6.resultTypes.toList.any (Tryz.prog.ifacesRec ·)) && (Rows.zsetLongRow.loopsOut == Tryz.f6.resultTypes.toList.any (Tryz.prog.loopsFrom ·))) = true := by kernel_rfl
theorem g4 : ((Rows.zsetLongRow.plainKeys == Tryz.prog.plainKeys) && (Rows.zsetLongRow.shortTexts.isNone)) = true := by kernel_rfl
theorem g5 : ((Tryz.prog.stopsHeard) && (Tryz.prog.mayEnter)) = true := by kernel_rfl
theorem g6 : ((Rows.zsetLongRow.lifted == Tryz.prog.liftsFinal) && (Tryz.prog.make == some Rows.zsetLongRow.make) && (Rows.zsetLongRow.kinds == (if Rows.zsetLongRow.domain.isEmpty then [] else Tryz.f6.params.toList.map fun t => match Tryz.prog.underlying t with | some (.int k) => some k | _ => none)) && (Rows.zsetLongRow.pinned == Rows.zsetLongRow.pinnedBy) && (Rows.zsetLongRow.veiled == (Tryz.f6.params.toList ++ Rows.zsetLongSpec.plain.varTypes Tryz.prog ++ Tryz.f6.resultTypes.toList).any (Tryz.prog.veiledRec ·)) && (Rows.zsetLongRow.veiledFits Tryz.prog Tryz.f6.params.toList (Tryz.f6.params.toList ++ Rows.zsetLongSpec.plain.varTypes Tryz.prog ++ Tryz.f6.resultTypes.toList))) = true := by kernel_rfl
theorem closed : joinedFacts Tryz.prog 6 Tryz.f6 Rows.zsetLongSpec Rows.zsetLongRow = true := and_t (and_t (and_t (and_t (and_t (and_t (and_t (and_t (and_t (and_t (and_t (and_t (and_t (and_t (and_t (and_t (and_t (and_t (and_t (and_t (and_t (and_t (and_t (and_t (and_t (and_t (and_t (and_t (and_t (and_t (and_t ((and_l (and_l (and_l (and_l (and_l (and_l (and_l (and_l g0))))))))) (and_r (and_l (and_l (and_l (and_l (and_l (and_l (and_l g0))))))))) (and_r (and_l (and_l (and_l (and_l (and_l (and_l g0)))))))) (and_r (and_l (and_l (and_l (and_l (and_l g0))))))) (and_r (and_l (and_l (and_l (and_l g0)))))) (and_r (and_l (and_l (and_l g0))))) (and_r (and_l (and_l g0)))) (and_r (and_l g0))) (and_r g0)) (and_l (and_l g1))) (and_r (and_l g1))) (and_r g1)) (and_l (and_l (and_l (and_l (and_l g2)))))) (and_r (and_l (and_l (and_l (and_l g2)))))) (and_r (and_l (and_l (and_l g2))))) (and_r (and_l (and_l g2)))) (and_r (and_l g2))) (and_r g2)) (and_l (and_l (and_l g3)))) (and_r (and_l (and_l g3)))) (and_r (and_l g3))) (and_r g3)) (and_l g4)) (and_r g4)) (and_l g5)) (and_r g5)) (and_l (and_l (and_l (and_l (and_l g6)))))) (and_r (and_l (and_l (and_l (and_l g6)))))) (and_r (and_l (and_l (and_l g6))))) (and_r (and_l (and_l g6)))) (and_r (and_l g6))) (and_r g6)
theorem wfText : Rows.zsetLongRow.wfByText (OpenSpec.ofChange Rows.zsetLongSpec) = true := by kernel_rfl
theorem isMain : Tryz.prog.mainIs = some (true, "dedfc36a848b7b0b3590d744953335447f29621c2f89cc141b977538f7b15672".toList) := by kernel_rfl
theorem isNamed : Tryz.prog.funcNamed "rallentando/rallentandolaw13.ZsetLong" = some 6 := by kernel_rfl
theorem noLooks : false = Tryz.prog.looks [] := by kernel_rfl
theorem noStands : (Tryz.f6.params.toList.all fun u => !Tryz.prog.wantsStandIn u) = true := by kernel_rfl
theorem goes : false = Rows.zsetLongRow.goesBy Tryz.prog := by kernel_rfl
end Go.Proofs.YthmljpccbjolgaaGreatDoor.closedZsetLong
