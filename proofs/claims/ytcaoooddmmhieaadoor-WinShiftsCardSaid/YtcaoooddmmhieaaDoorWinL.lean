/-
  What the laws of win share: the chapter's zone and first example, spans, differences, what lies in what; each theorem names its conditions.
-/
import Derived.Test.YtcaoooddmmhieaaDoorWinS
namespace Go.Proofs.YtcaoooddmmhieaaDoor.wlaw
open Go.Joins Go.ChangeShapes Go.WideShapes Go.ChangeAt Go.RowKit num rat dbm Go.Proofs.YtcaoooddmmhieaaDoor.tight Go.Proofs.YtcaoooddmmhieaaDoor.incl Go.Proofs.YtcaoooddmmhieaaDoor.plaw Go.Proofs.YtcaoooddmmhieaaDoor.zopen Go.Proofs.YtcaoooddmmhieaaDoor.zone Go.Proofs.YtcaoooddmmhieaaDoor.zlaw Go.Proofs.YtcaoooddmmhieaaDoor.win
open bound hiding up
open Go.Proofs.YtcaoooddmmhieaaDoor.comp (five_cells)
set_option linter.unusedVariables false
set_option linter.unusedSimpArgs false

theorem cut_one {z w a b : List Int} {f g : Int} (h : CutR z w a f) (k : CutR z w b g) : b = a ∧ g = f := by
  rcases h with ⟨n, rfl, rfl⟩ | ⟨o, m, rfl, rfl⟩ | ⟨o, m, e, rfl⟩ <;> rcases k with ⟨n', rfl, rfl⟩ | ⟨o', m', rfl, rfl⟩ | ⟨o', m', e', rfl⟩
  all_goals first | exact ⟨rfl, rfl⟩ | exact ⟨e'.trans e.symm, rfl⟩ | exact (n o').elim | exact (n' o).elim | exact (m m').elim | exact (m' m).elim
theorem within_cut {z a : List Int} {s : Sp} {f : Int} (hz : MayZ z) (hs : MayP s) (k : WithinR z s a f) : CutR z (diffZ s) a f := by
  rcases k with ⟨n, _⟩ | ⟨_, n, _⟩ | ⟨_, _, h⟩
  · exact (n hz).elim
  · exact (n hs).elim
  · exact h
theorem window_cut {z a : List Int} {s t : Int} {f : Int} (hz : MayZ z) (hs : MayW s t) (k : WindowR z s t a f) : CutR z (lateZ (winS s t)) a f := by
  rcases k with ⟨n, _⟩ | ⟨_, n, _⟩ | ⟨_, _, h⟩
  · exact (n hz).elim
  · exact (n hs).elim
  · exact h
theorem make_z0 : MakeR (0, false, 4, false, false) (0, false, 4, false, false) (0, true, 0, false, true) [8, 1, 9, 0, 9, 0] 0 := by
  have h0 : MayP (0, false, 4, false, false) := ⟨⟨by decide, by decide⟩, .inr ⟨rfl, ⟨by decide, by decide⟩, by decide⟩⟩
  have h1 : MayP (0, false, 4, false, false) := ⟨⟨by decide, by decide⟩, .inr ⟨rfl, ⟨by decide, by decide⟩, by decide⟩⟩
  have h2 : MayP (0, true, 0, false, true) := ⟨⟨by decide, by decide⟩, .inl ⟨rfl, rfl, rfl⟩⟩
  have e : fullT (spanZ (0, false, 4, false, false) (0, false, 4, false, false) (0, true, 0, false, true)) = [1, 1, 1, 9, 1, 0, 9, 9223372036854775807, 1] := by decide +kernel
  obtain ⟨k1, k2⟩ := tlaw.ok_cl (m := 3) (by decide) (ts := [1, 1, 1, 9, 1, 0, 9, 9223372036854775807, 1]) (us := [1, 1, 0, 8, 1, 0, 9, 9, 1]) (by decide +kernel) (by decide +kernel)
  have k1 : OkD 3 [1, 1, 1, 9, 1, 0, 9, 9223372036854775807, 1] := k1
  have k2 : clT 3 [1, 1, 1, 9, 1, 0, 9, 9223372036854775807, 1] = [1, 1, 0, 8, 1, 0, 9, 9, 1] := k2
  unfold MakeR
  rw [e, k2]
  exact .inr (.inr (.inr ⟨h0, h1, h2, k1, by decide, rfl, rfl⟩))
theorem make_z2 : MakeR (2, false, 6, false, false) (2, false, 6, false, false) (0, true, 0, false, true) [12, -3, 13, -4, 9, 0] 0 := by
  have h0 : MayP (2, false, 6, false, false) := ⟨⟨by decide, by decide⟩, .inr ⟨rfl, ⟨by decide, by decide⟩, by decide⟩⟩
  have h1 : MayP (2, false, 6, false, false) := ⟨⟨by decide, by decide⟩, .inr ⟨rfl, ⟨by decide, by decide⟩, by decide⟩⟩
  have h2 : MayP (0, true, 0, false, true) := ⟨⟨by decide, by decide⟩, .inl ⟨rfl, rfl, rfl⟩⟩
  have e : fullT (spanZ (2, false, 6, false, false) (2, false, 6, false, false) (0, true, 0, false, true)) = [1, -3, -3, 13, 1, 0, 13, 9223372036854775807, 1] := by decide +kernel
  obtain ⟨k1, k2⟩ := tlaw.ok_cl (m := 3) (by decide) (ts := [1, -3, -3, 13, 1, 0, 13, 9223372036854775807, 1]) (us := [1, -3, -4, 12, 1, 0, 13, 9, 1]) (by decide +kernel) (by decide +kernel)
  have k1 : OkD 3 [1, -3, -3, 13, 1, 0, 13, 9223372036854775807, 1] := k1
  have k2 : clT 3 [1, -3, -3, 13, 1, 0, 13, 9223372036854775807, 1] = [1, -3, -4, 12, 1, 0, 13, 9, 1] := k2
  unfold MakeR
  rw [e, k2]
  exact .inr (.inr (.inr ⟨h0, h1, h2, k1, by decide, rfl, rfl⟩))
theorem make_b : MakeR (0, false, 3, false, false) (1, false, 4, false, false) (1, false, 2, false, false) [7, 1, 9, -1, 5, -1] 0 := by
  have h0 : MayP (0, false, 3, false, false) := ⟨⟨by decide, by decide⟩, .inr ⟨rfl, ⟨by decide, by decide⟩, by decide⟩⟩
  have h1 : MayP (1, false, 4, false, false) := ⟨⟨by decide, by decide⟩, .inr ⟨rfl, ⟨by decide, by decide⟩, by decide⟩⟩
  have h2 : MayP (1, false, 2, false, false) := ⟨⟨by decide, by decide⟩, .inr ⟨rfl, ⟨by decide, by decide⟩, by decide⟩⟩
  have e : fullT (spanZ (0, false, 3, false, false) (1, false, 4, false, false) (1, false, 2, false, false)) = [1, 1, -1, 7, 1, -1, 9, 5, 1] := by decide +kernel
  obtain ⟨k1, k2⟩ := tlaw.ok_cl (m := 3) (by decide) (ts := [1, 1, -1, 7, 1, -1, 9, 5, 1]) (us := [1, 1, -1, 7, 1, -1, 9, 5, 1]) (by decide +kernel) (by decide +kernel)
  have k1 : OkD 3 [1, 1, -1, 7, 1, -1, 9, 5, 1] := k1
  have k2 : clT 3 [1, 1, -1, 7, 1, -1, 9, 5, 1] = [1, 1, -1, 7, 1, -1, 9, 5, 1] := k2
  unfold MakeR
  rw [e, k2]
  exact .inr (.inr (.inr ⟨h0, h1, h2, k1, by decide, rfl, rfl⟩))
theorem may_z0 : MayZ [8, 1, 9, 0, 9, 0] := by
  obtain ⟨k1, k2⟩ := tlaw.ok_cl (m := 3) (by decide) (ts := [1, 1, 0, 8, 1, 0, 9, 9, 1]) (us := [1, 1, 0, 8, 1, 0, 9, 9, 1]) (by decide +kernel) (by decide +kernel)
  have k1 : OkD 3 [1, 1, 0, 8, 1, 0, 9, 9, 1] := k1
  have k2 : clT 3 [1, 1, 0, 8, 1, 0, 9, 9, 1] = [1, 1, 0, 8, 1, 0, 9, 9, 1] := k2
  exact ⟨k1, k2⟩
theorem may_z0_tops : Tops [8, 1, 9, 0, 9, 0] := by unfold Tops; decide
theorem may_z2 : MayZ [12, -3, 13, -4, 9, 0] := by
  obtain ⟨k1, k2⟩ := tlaw.ok_cl (m := 3) (by decide) (ts := [1, -3, -4, 12, 1, 0, 13, 9, 1]) (us := [1, -3, -4, 12, 1, 0, 13, 9, 1]) (by decide +kernel) (by decide +kernel)
  have k1 : OkD 3 [1, -3, -4, 12, 1, 0, 13, 9, 1] := k1
  have k2 : clT 3 [1, -3, -4, 12, 1, 0, 13, 9, 1] = [1, -3, -4, 12, 1, 0, 13, 9, 1] := k2
  exact ⟨k1, k2⟩
theorem may_z2_tops : Tops [12, -3, 13, -4, 9, 0] := by unfold Tops; decide
theorem may_a : MayZ [7, 1, 9, -1, 5, -1] := by
  obtain ⟨k1, k2⟩ := tlaw.ok_cl (m := 3) (by decide) (ts := [1, 1, -1, 7, 1, -1, 9, 5, 1]) (us := [1, 1, -1, 7, 1, -1, 9, 5, 1]) (by decide +kernel) (by decide +kernel)
  have k1 : OkD 3 [1, 1, -1, 7, 1, -1, 9, 5, 1] := k1
  have k2 : clT 3 [1, 1, -1, 7, 1, -1, 9, 5, 1] = [1, 1, -1, 7, 1, -1, 9, 5, 1] := k2
  exact ⟨k1, k2⟩
theorem may_a_tops : Tops [7, 1, 9, -1, 5, -1] := by unfold Tops; decide
theorem cut_a : CutR [8, 1, 9, 0, 9, 0] (diffZ (1, false, 2, false, false)) [7, 1, 9, -1, 5, -1] 0 := by
  have e : lesT (fullT [8, 1, 9, 0, 9, 0]) (fullT (diffZ (1, false, 2, false, false))) = [1, 1, 0, 8, 1, -1, 9, 5, 1] := by decide +kernel
  obtain ⟨k1, k2⟩ := tlaw.ok_cl (m := 3) (by decide) (ts := [1, 1, 0, 8, 1, -1, 9, 5, 1]) (us := [1, 1, -1, 7, 1, -1, 9, 5, 1]) (by decide +kernel) (by decide +kernel)
  have k1 : OkD 3 [1, 1, 0, 8, 1, -1, 9, 5, 1] := k1
  have k2 : clT 3 [1, 1, 0, 8, 1, -1, 9, 5, 1] = [1, 1, -1, 7, 1, -1, 9, 5, 1] := k2
  unfold CutR
  rw [e, k2]
  exact .inr (.inr ⟨k1, by decide, rfl, rfl⟩)
theorem to_is (n m : Int) (w : World) : Calls Tryd.prog 12 #[.int .i64 n, .int .i64 m] w fun e w' => e = .returned (.agg #[.int .i64 n, .bool false, .int .i64 m, .bool false, .bool false]) ∧ Below w.heap.size w w' := by
  go_enter Tryd.func12, Tryd.ntmps12
  go_wp2_with fail
  exact bodyPost_ret (v := .agg #[.int .i64 n, .bool false, .int .i64 m, .bool false, .bool false]) (by simp [results, Tryd.results12, go_sem]) rfl ⟨rfl, bound.up1 _ _⟩
theorem made_z0 (w : World) (hP : Pl w) : Calls Tryd.prog 11 #[.agg #[.int .i64 0, .bool false, .int .i64 4, .bool false, .bool false], .agg #[.int .i64 0, .bool false, .int .i64 4, .bool false, .bool false], .agg #[.int .i64 0, .bool true, .int .i64 0, .bool false, .bool true]] w fun e w' => e = .returned (.tuple #[.agg #[.int .i64 8, .int .i64 1, .int .i64 9, .int .i64 0, .int .i64 9, .int .i64 0], .int .i64 0]) ∧ Below w.heap.size w w' := by
  refine (make_any 0 false 4 false false 0 false 4 false false 0 true 0 false true w hP).mono fun e w' h => ?_
  obtain ⟨hB, z0, z1, z2, z3, z4, z5, f, rfl, hR⟩ := h
  obtain ⟨e1, rfl⟩ := make_one make_z0 hR
  obtain ⟨rfl, rfl, rfl, rfl, rfl, rfl⟩ : z0 = 8 ∧ z1 = 1 ∧ z2 = 9 ∧ z3 = 0 ∧ z4 = 9 ∧ z5 = 0 := by simpa using e1
  exact ⟨rfl, hB⟩
theorem made_z2 (w : World) (hP : Pl w) : Calls Tryd.prog 11 #[.agg #[.int .i64 2, .bool false, .int .i64 6, .bool false, .bool false], .agg #[.int .i64 2, .bool false, .int .i64 6, .bool false, .bool false], .agg #[.int .i64 0, .bool true, .int .i64 0, .bool false, .bool true]] w fun e w' => e = .returned (.tuple #[.agg #[.int .i64 12, .int .i64 (-3), .int .i64 13, .int .i64 (-4), .int .i64 9, .int .i64 0], .int .i64 0]) ∧ Below w.heap.size w w' := by
  refine (make_any 2 false 6 false false 2 false 6 false false 0 true 0 false true w hP).mono fun e w' h => ?_
  obtain ⟨hB, z0, z1, z2, z3, z4, z5, f, rfl, hR⟩ := h
  obtain ⟨e1, rfl⟩ := make_one make_z2 hR
  obtain ⟨rfl, rfl, rfl, rfl, rfl, rfl⟩ : z0 = 12 ∧ z1 = -3 ∧ z2 = 13 ∧ z3 = -4 ∧ z4 = 9 ∧ z5 = 0 := by simpa using e1
  exact ⟨rfl, hB⟩
theorem made_b (w : World) (hP : Pl w) : Calls Tryd.prog 11 #[.agg #[.int .i64 0, .bool false, .int .i64 3, .bool false, .bool false], .agg #[.int .i64 1, .bool false, .int .i64 4, .bool false, .bool false], .agg #[.int .i64 1, .bool false, .int .i64 2, .bool false, .bool false]] w fun e w' => e = .returned (.tuple #[.agg #[.int .i64 7, .int .i64 1, .int .i64 9, .int .i64 (-1), .int .i64 5, .int .i64 (-1)], .int .i64 0]) ∧ Below w.heap.size w w' := by
  refine (make_any 0 false 3 false false 1 false 4 false false 1 false 2 false false w hP).mono fun e w' h => ?_
  obtain ⟨hB, z0, z1, z2, z3, z4, z5, f, rfl, hR⟩ := h
  obtain ⟨e1, rfl⟩ := make_one make_b hR
  obtain ⟨rfl, rfl, rfl, rfl, rfl, rfl⟩ : z0 = 7 ∧ z1 = 1 ∧ z2 = 9 ∧ z3 = -1 ∧ z4 = 5 ∧ z5 = -1 := by simpa using e1
  exact ⟨rfl, hB⟩

set_option maxRecDepth 100000 in
theorem some_z0 (w : World) (hP : Pl w) : Calls Tryd.prog 10 #[.int .i64 0] w fun e w' => e = .returned (.agg #[.int .i64 8, .int .i64 1, .int .i64 9, .int .i64 0, .int .i64 9, .int .i64 0]) ∧ Below w.heap.size w w' := by
  have DB := bound.up1 w (.cells #[.int .i64 0, .int .i64 0, .int .i64 0, .int .i64 0, .int .i64 0, .int .i64 0] 24)
  have D0 := lies.made w 24 #[.int .i64 0, .int .i64 0, .int .i64 0, .int .i64 0, .int .i64 0, .int .i64 0]
  have P0 := hP.on DB
  have HP := Lib.hid hP
  clear hP
  go_enter Tryd.func10, Tryd.ntmps10
  go_wp2_with fail
  generalize w.alloc (.cells #[.int .i64 0, .int .i64 0, .int .i64 0, .int .i64 0, .int .i64 0, .int .i64 0] 24) = w0 at DB D0 P0 ⊢
  refine (to_is 0 4 w0).mono ?_
  rintro e w1 ⟨rfl, hB⟩
  replace D0 := lies.on_call D0 hB
  replace P0 := P0.on hB
  replace DB := later DB hB
  clear hB
  go_wp2_with fail
  refine (to_is 0 4 w1).mono ?_
  rintro e w2 ⟨rfl, hB⟩
  replace D0 := lies.on_call D0 hB
  replace P0 := P0.on hB
  replace DB := later DB hB
  clear hB
  go_wp2_with fail
  refine (made_z0 w2 P0).mono ?_
  rintro e w3 ⟨rfl, hB⟩
  replace D0 := lies.on_call D0 hB
  replace DB := later DB hB
  clear hB P0
  obtain ⟨⟨x0, x1, x2, x3, x4, x5⟩, ⟨y0, y1, y2, y3, y4, y5⟩, xl⟩ := six_cells D0
  clear D0
  go_wp2_with fail
  exact bodyPost_ret (v := .agg #[.int .i64 8, .int .i64 1, .int .i64 9, .int .i64 0, .int .i64 9, .int .i64 0]) (by simp [results, Tryd.results10, go_sem, x0, x1, x2, x3, x4, x5, xl]) rfl ⟨rfl, lies.frame_up (put_six DB (Nat.le_refl _) _ _ _ _ _ _) _⟩

set_option maxRecDepth 100000 in
theorem some_z2 (w : World) (hP : Pl w) : Calls Tryd.prog 10 #[.int .i64 2] w fun e w' => e = .returned (.agg #[.int .i64 12, .int .i64 (-3), .int .i64 13, .int .i64 (-4), .int .i64 9, .int .i64 0]) ∧ Below w.heap.size w w' := by
  have DB := bound.up1 w (.cells #[.int .i64 0, .int .i64 0, .int .i64 0, .int .i64 0, .int .i64 0, .int .i64 0] 24)
  have D0 := lies.made w 24 #[.int .i64 0, .int .i64 0, .int .i64 0, .int .i64 0, .int .i64 0, .int .i64 0]
  have P0 := hP.on DB
  have HP := Lib.hid hP
  clear hP
  go_enter Tryd.func10, Tryd.ntmps10
  go_wp2_with fail
  generalize w.alloc (.cells #[.int .i64 0, .int .i64 0, .int .i64 0, .int .i64 0, .int .i64 0, .int .i64 0] 24) = w0 at DB D0 P0 ⊢
  refine (to_is 2 6 w0).mono ?_
  rintro e w1 ⟨rfl, hB⟩
  replace D0 := lies.on_call D0 hB
  replace P0 := P0.on hB
  replace DB := later DB hB
  clear hB
  go_wp2_with fail
  refine (to_is 2 6 w1).mono ?_
  rintro e w2 ⟨rfl, hB⟩
  replace D0 := lies.on_call D0 hB
  replace P0 := P0.on hB
  replace DB := later DB hB
  clear hB
  go_wp2_with fail
  refine (made_z2 w2 P0).mono ?_
  rintro e w3 ⟨rfl, hB⟩
  replace D0 := lies.on_call D0 hB
  replace DB := later DB hB
  clear hB P0
  obtain ⟨⟨x0, x1, x2, x3, x4, x5⟩, ⟨y0, y1, y2, y3, y4, y5⟩, xl⟩ := six_cells D0
  clear D0
  go_wp2_with fail
  exact bodyPost_ret (v := .agg #[.int .i64 12, .int .i64 (-3), .int .i64 13, .int .i64 (-4), .int .i64 9, .int .i64 0]) (by simp [results, Tryd.results10, go_sem, x0, x1, x2, x3, x4, x5, xl]) rfl ⟨rfl, lies.frame_up (put_six DB (Nat.le_refl _) _ _ _ _ _ _) _⟩
theorem within_z0 (w : World) (hP : Pl w) : Calls Tryd.prog 15 #[.agg #[.int .i64 8, .int .i64 1, .int .i64 9, .int .i64 0, .int .i64 9, .int .i64 0], .agg #[.int .i64 1, .bool false, .int .i64 2, .bool false, .bool false]] w fun e w' => e = .returned (.tuple #[.agg #[.int .i64 7, .int .i64 1, .int .i64 9, .int .i64 (-1), .int .i64 5, .int .i64 (-1)], .int .i64 0]) ∧ Below w.heap.size w w' := by
  refine (within_any 8 1 9 0 9 0 1 false 2 false false w hP may_z0_tops).mono fun e w' h => ?_
  obtain ⟨hB, z0, z1, z2, z3, z4, z5, f, rfl, hR⟩ := h
  obtain ⟨e1, rfl⟩ := cut_one cut_a (within_cut may_z0 ⟨⟨by decide, by decide⟩, .inr ⟨rfl, ⟨by decide, by decide⟩, by decide⟩⟩ hR)
  obtain ⟨rfl, rfl, rfl, rfl, rfl, rfl⟩ : z0 = 7 ∧ z1 = 1 ∧ z2 = 9 ∧ z3 = -1 ∧ z4 = 5 ∧ z5 = -1 := by simpa [zero6] using e1
  exact ⟨rfl, hB⟩
theorem check_a (w : World) (hP : Pl w) : Calls Tryd.prog 27 #[.agg #[.int .i64 7, .int .i64 1, .int .i64 9, .int .i64 (-1), .int .i64 5, .int .i64 (-1)]] w fun e w' => e = .returned (.int .i64 0) ∧ Below w.heap.size w w' := by
  refine (zone.check_any 7 1 9 (-1) 5 (-1) w hP may_a_tops).mono fun e w' h => ?_
  obtain ⟨hB, f, rfl, hR⟩ := h
  rcases hR with ⟨_, rfl⟩ | ⟨n, _⟩
  · exact ⟨rfl, hB⟩
  · exact (n may_a).elim

set_option maxRecDepth 100000 in
set_option maxHeartbeats 8000000 in
theorem alive_yes (w : World) (hP : Pl w) : Calls Tryd.prog 14 #[] w fun e w' => e = .returned (.bool true) ∧ Below w.heap.size w w' := by
  have P0 := hP
  have DB := Below.refl w.heap.size w
  clear hP
  go_enter Tryd.func14, Tryd.ntmps14
  go_wp2_with fail
  refine (some_z0 w P0).mono ?_
  rintro e w1 ⟨rfl, hB⟩
  replace P0 := P0.on hB
  replace DB := later DB hB
  clear hB
  go_wp2_with fail
  refine (to_is 1 2 w1).mono ?_
  rintro e w2 ⟨rfl, hB⟩
  replace P0 := P0.on hB
  replace DB := later DB hB
  clear hB
  go_wp2_with fail
  refine (within_z0 w2 P0).mono ?_
  rintro e w3 ⟨rfl, hB⟩
  replace P0 := P0.on hB
  replace DB := later DB hB
  clear hB
  go_wp2_with fail
  have hA := bound.up1 w3 (.cells #[.int .i64 7, .int .i64 1, .int .i64 9, .int .i64 (-1), .int .i64 5, .int .i64 (-1)] 24)
  have D0 := lies.made w3 24 #[.int .i64 7, .int .i64 1, .int .i64 9, .int .i64 (-1), .int .i64 5, .int .i64 (-1)]
  replace P0 := P0.on hA
  replace DB := later DB hA
  clear hA
  generalize w3.heap.size = XD0 at D0 ⊢
  generalize w3.alloc (.cells #[.int .i64 7, .int .i64 1, .int .i64 9, .int .i64 (-1), .int .i64 5, .int .i64 (-1)] 24) = v4 at D0 P0 DB ⊢
  refine (to_is 0 3 v4).mono ?_
  rintro e w5 ⟨rfl, hB⟩
  replace D0 := lies.on_call D0 hB
  replace P0 := P0.on hB
  replace DB := later DB hB
  clear hB
  go_wp2_with fail
  refine (to_is 1 4 w5).mono ?_
  rintro e w6 ⟨rfl, hB⟩
  replace D0 := lies.on_call D0 hB
  replace P0 := P0.on hB
  replace DB := later DB hB
  clear hB
  go_wp2_with fail
  refine (to_is 1 2 w6).mono ?_
  rintro e w7 ⟨rfl, hB⟩
  replace D0 := lies.on_call D0 hB
  replace P0 := P0.on hB
  replace DB := later DB hB
  clear hB
  go_wp2_with fail
  refine (made_b w7 P0).mono ?_
  rintro e w8 ⟨rfl, hB⟩
  replace D0 := lies.on_call D0 hB
  replace P0 := P0.on hB
  replace DB := later DB hB
  clear hB
  have hq1 : ∀ W, (Op.equalIn 10000 24 (.agg #[.int .i64 7, .int .i64 1, .int .i64 9, .int .i64 (-1), .int .i64 5, .int .i64 (-1)]) (.agg #[.int .i64 7, .int .i64 1, .int .i64 9, .int .i64 (-1), .int .i64 5, .int .i64 (-1)])).run Tryd.prog W = .ok true W := fun W => by rw [eq_zone]; simp
  have hq2 : ∀ W, (Op.equalIn 10000 24 (.agg #[.int .i64 7, .int .i64 1, .int .i64 9, .int .i64 (-1), .int .i64 5, .int .i64 (-1)]) (.agg #[.int .i64 0, .int .i64 0, .int .i64 0, .int .i64 0, .int .i64 0, .int .i64 0])).run Tryd.prog W = .ok false W := fun W => by rw [eq_zone]; simp
  obtain ⟨⟨kD0_0, kD0_1, kD0_2, kD0_3, kD0_4, kD0_5⟩, -⟩ := six_cells D0
  have kD0_l := lies.lt D0
  go_wp2_with fail
  clear kD0_0 kD0_1 kD0_2 kD0_3 kD0_4 kD0_5 kD0_l
  have hA := bound.up1 w8 (.cells #[.int .i64 7, .int .i64 1, .int .i64 9, .int .i64 (-1), .int .i64 5, .int .i64 (-1)] 24)
  have D1 := lies.made w8 24 #[.int .i64 7, .int .i64 1, .int .i64 9, .int .i64 (-1), .int .i64 5, .int .i64 (-1)]
  replace D0 := lies.on_call D0 hA
  replace P0 := P0.on hA
  replace DB := later DB hA
  clear hA
  generalize w8.heap.size = XD1 at D1 ⊢
  generalize w8.alloc (.cells #[.int .i64 7, .int .i64 1, .int .i64 9, .int .i64 (-1), .int .i64 5, .int .i64 (-1)] 24) = v9 at D0 D1 P0 DB ⊢
  clear hq1 hq2
  refine (check_a v9 P0).mono ?_
  rintro e w10 ⟨rfl, hB⟩
  replace D0 := lies.on_call D0 hB
  replace D1 := lies.on_call D1 hB
  replace P0 := P0.on hB
  replace DB := later DB hB
  clear hB
  clear D0 D1
  go_wp2_with fail
  go_ret
  exact ⟨rfl, DB⟩

set_option maxRecDepth 100000 in
set_option maxHeartbeats 8000000 in
theorem lies_is (a0 a1 a2 a3 a4 a5 b0 b1 b2 b3 b4 b5 : Int) (w : World) (hP : Pl w) (ta : Tops [a0, a1, a2, a3, a4, a5]) (tb : Tops [b0, b1, b2, b3, b4, b5]) : Calls Tryd.prog 26 #[.agg #[.int .i64 a0, .int .i64 a1, .int .i64 a2, .int .i64 a3, .int .i64 a4, .int .i64 a5], .agg #[.int .i64 b0, .int .i64 b1, .int .i64 b2, .int .i64 b3, .int .i64 b4, .int .i64 b5]] w fun e w' => Below w.heap.size w w' ∧ ∃ r : Bool, e = .returned (.bool r) ∧ (r = true → MayZ [a0, a1, a2, a3, a4, a5] ∧ MayZ [b0, b1, b2, b3, b4, b5] ∧ inV 3 (fullT [a0, a1, a2, a3, a4, a5]) (fullT [b0, b1, b2, b3, b4, b5])) ∧ (MayZ [a0, a1, a2, a3, a4, a5] ∧ MayZ [b0, b1, b2, b3, b4, b5] ∧ inV 3 (fullT [a0, a1, a2, a3, a4, a5]) (fullT [b0, b1, b2, b3, b4, b5]) → r = true) := by
  have X : ∃ w0, w0 = (w.alloc (.cells #[.int .i64 a0, .int .i64 a1, .int .i64 a2, .int .i64 a3, .int .i64 a4, .int .i64 a5] 24)).alloc (.cells #[.int .i64 b0, .int .i64 b1, .int .i64 b2, .int .i64 b3, .int .i64 b4, .int .i64 b5] 24) := ⟨_, rfl⟩
  obtain ⟨w0, hX⟩ := X
  have DB : Below w.heap.size w w0 := by rw [hX]; exact bound.up2 _ _ _
  have D0 : lies.Lies w0 w.heap.size 24 #[.int .i64 a0, .int .i64 a1, .int .i64 a2, .int .i64 a3, .int .i64 a4, .int .i64 a5] := by rw [hX]; exact lies.on_alloc (lies.made _ _ _) _
  have D1 : lies.Lies w0 (w.heap.size + 1) 24 #[.int .i64 b0, .int .i64 b1, .int .i64 b2, .int .i64 b3, .int .i64 b4, .int .i64 b5] := by rw [hX]; exact lies.made_at _ _ _ _ (by simp)
  have P0 := hP.on DB
  have TA := Lib.hid ta
  have TB := Lib.hid tb
  clear hP ta tb
  go_enter Tryd.func26, Tryd.ntmps26
  obtain ⟨⟨kD0_0, kD0_1, kD0_2, kD0_3, kD0_4, kD0_5⟩, -⟩ := six_cells D0
  have kD0_l := lies.lt D0
  obtain ⟨⟨kD1_0, kD1_1, kD1_2, kD1_3, kD1_4, kD1_5⟩, -⟩ := six_cells D1
  have kD1_l := lies.lt D1
  go_wp2_with fail
  clear kD0_0 kD0_1 kD0_2 kD0_3 kD0_4 kD0_5 kD0_l kD1_0 kD1_1 kD1_2 kD1_3 kD1_4 kD1_5 kD1_l
  rw [← hX]
  clear hX
  refine (zin_any a0 a1 a2 a3 a4 a5 b0 b1 b2 b3 b4 b5 w0 P0 TA.out TB.out).mono ?_
  rintro e w1 ⟨hB, r, f, rfl, hI⟩
  replace D0 := lies.on_call D0 hB
  replace D1 := lies.on_call D1 hB
  replace P0 := P0.on hB
  replace DB := later DB hB
  clear hB
  clear D0 D1
  rcases hI with ⟨n, rfl, rfl⟩ | ⟨ma, mb, rfl, hr⟩
  · have HN := Lib.hid n
    clear n
    go_wp2_with fail
    go_ret
    exact ⟨DB, false, rfl, fun h => absurd h (by decide), fun h => (HN.out ⟨h.1, h.2.1⟩).elim⟩
  · cases r with
    | true =>
      have HR := Lib.hid (And.intro ma (And.intro mb (hr.1 rfl)))
      clear ma mb hr
      go_wp2_with fail
      go_ret
      exact ⟨DB, true, rfl, fun _ => HR.out, fun _ => rfl⟩
    | false =>
      have HR := Lib.hid (show ¬ inV 3 (fullT [a0, a1, a2, a3, a4, a5]) (fullT [b0, b1, b2, b3, b4, b5]) from fun q => absurd (hr.2 q) (by decide))
      clear ma mb hr
      go_wp2_with fail
      go_ret
      exact ⟨DB, false, rfl, fun h => absurd h (by decide), fun h => (HR.out h.2.2).elim⟩

/-- the difference of a point's times. -/
def DifR (a b c d x y : Int) (r : Bool) : Prop := r = true → MayR x y ∧ x * (d * b) = (c * b - a * d) * y ∧ (-9223372036854775808 ≤ x ∧ x ≤ 9223372036854775807)
theorem dif_good {a b c d : Int} (h : partE 1 c d (-a) b = 0) : MayR (partN 1 c d (-a) b) (partD 1 c d (-a) b) ∧ partN 1 c d (-a) b * (d * b) = (c * b - a * d) * partD 1 c d (-a) b ∧ (-9223372036854775808 ≤ partN 1 c d (-a) b ∧ partN 1 c d (-a) b ≤ 9223372036854775807) := by
  obtain ⟨_, h2, h3, h4, h5⟩ := part_good (by decide) h
  rw [Int.mul_one, Int.neg_mul, ← Int.sub_eq_add_neg] at h3
  exact ⟨h2, h3, h4, h5⟩
set_option maxRecDepth 100000 in
set_option maxHeartbeats 4000000 in
theorem difference_is (a b c d : Int) (w : World) (hF : zone.Fit [a, b, c, d]) : Calls Tryd.prog 20 #[.agg #[.int .i64 a, .int .i64 b, .int .i64 c, .int .i64 d]] w fun e w' => Below w.heap.size w w' ∧ ∃ x y r, e = .returned (.tuple #[.agg #[.int .i64 x, .int .i64 y], .bool r]) ∧ DifR a b c d x y r := by
  have X : ∃ w0, w0 = (w.alloc (.cells #[.int .i64 a, .int .i64 b, .int .i64 c, .int .i64 d] 44)).alloc (.cells #[.int .i64 0, .int .i64 0] 42) := ⟨_, rfl⟩
  obtain ⟨w0, hX⟩ := X
  have DB : Below w.heap.size w w0 := by rw [hX]; exact bound.up2 _ _ _
  have D0 : lies.Lies w0 w.heap.size 44 #[.int .i64 a, .int .i64 b, .int .i64 c, .int .i64 d] := by rw [hX]; exact lies.on_alloc (lies.made _ _ _) _
  have D1 : lies.Lies w0 (w.heap.size + 1) 42 #[.int .i64 0, .int .i64 0] := by rw [hX]; exact lies.made_at _ _ _ _ (by simp)
  have hR : w.heap.size ≤ w.heap.size + 1 := by omega
  have fa := hF a (by simp)
  have HC := Lib.hid (hF c (by simp))
  clear hF
  by_cases h : a = -9223372036854775808
  · subst h
    clear fa HC
    go_enter Tryd.func20, Tryd.ntmps20
    go_wp2_with fail
    rw [← hX]
    clear hX D0
    obtain ⟨x0, x1, x2, x3, x4⟩ := lies.two D1
    clear D1
    go_wp2_with fail
    exact bodyPost_ret (v := .tuple #[.agg #[.int .i64 0, .int .i64 0], .bool false]) (by simp [results, Tryd.results20, go_sem, x0, x1, x4]) rfl ⟨DB, 0, 0, false, rfl, fun h => by cases h⟩
  · have hn : (a == -9223372036854775808) = false := by simpa using h
    have q1 : wrap64 (-a) = -a := IntWalk.wrap64_in _ ⟨by omega, by omega⟩
    have q2 : IntKind.i64.wrap (-a) = -a := (IntWalk.i64_left _).trans q1
    have HG := Lib.hid (fun h => dif_good (a := a) (b := b) (c := c) (d := d) h)
    have HNA := Lib.hid (show -9223372036854775808 ≤ -a ∧ -a ≤ 9223372036854775807 from by omega)
    have CA := Lib.hid (fun W => rat.add3_any c d (-a) b W HC.out.1 HC.out.2 HNA.out.1 HNA.out.2)
    generalize partN 1 c d (-a) b = x at HG CA
    generalize partD 1 c d (-a) b = y at HG CA
    generalize partE 1 c d (-a) b = f at HG CA
    clear h fa HC HNA
    go_enter Tryd.func20, Tryd.ntmps20
    obtain ⟨⟨c0, c1, c2, c3⟩, _⟩ := four_cells D0
    have cl := lies.lt D0
    go_wp2_with fail
    clear c0 c1 c2 c3 cl
    rw [← hX]
    clear hX hn q1 q2 D0
    refine (CA.out w0).mono ?_
    rintro e w1 ⟨rfl, hB⟩
    replace D1 := lies.on_call D1 hB
    replace DB := later DB hB
    clear hB CA
    obtain ⟨x0, x1, x2, x3, x4⟩ := lies.two D1
    by_cases hf : f = 0
    · subst hf
      have HH := Lib.hid (HG.out rfl)
      clear HG
      have EB := lies.frame_up ((DB.setCell (p := ⟨w.heap.size + 1, 0, none⟩) hR (.int .i64 x)).setCell (p := ⟨w.heap.size + 1, 1, none⟩) hR (.int .i64 y)) (.cells #[.int .i64 x, .int .i64 y] 42)
      clear DB D1
      go_wp2_with fail
      exact bodyPost_ret (v := .tuple #[.agg #[.int .i64 x, .int .i64 y], .bool true]) (by simp [results, Tryd.results20, go_sem, x0, x1, x4]) rfl ⟨EB, x, y, true, rfl, fun _ => HH.out⟩
    · have hn : (f == 0) = false := by simpa using hf
      have EB := lies.frame_up ((DB.setCell (p := ⟨w.heap.size + 1, 0, none⟩) hR (.int .i64 x)).setCell (p := ⟨w.heap.size + 1, 1, none⟩) hR (.int .i64 y)) (.cells #[.int .i64 x, .int .i64 y] 42)
      clear DB D1 hf
      go_wp2_with fail
      exact bodyPost_ret (v := .tuple #[.agg #[.int .i64 x, .int .i64 y], .bool false]) (by simp [results, Tryd.results20, go_sem, x0, x1, x4]) rfl ⟨EB, x, y, false, rfl, fun h => by cases h⟩

set_option maxRecDepth 100000 in
set_option maxHeartbeats 8000000 in
theorem within_k (p q lo hi n m : Int) (ls hs op i r : Bool) (w : World)
    (OL : RowKit.Hid (∀ W, Calls Tryd.prog 24 #[.int .i64 lo, .int .i64 1] W fun e w' => e = .returned (.tuple #[.agg #[.int .i64 lo, .int .i64 1], .int .i64 0]) ∧ Below W.heap.size W w'))
    (CL : RowKit.Hid (∀ W, Calls Tryd.prog 45 #[.agg #[.int .i64 lo, .int .i64 1], .agg #[.int .i64 p, .int .i64 q]] W fun e w' => e = .returned (.tuple #[.int .i64 n, .int .i64 0]) ∧ Below W.heap.size W w'))
    (OH : RowKit.Hid (op = false → ∀ W, Calls Tryd.prog 24 #[.int .i64 hi, .int .i64 1] W fun e w' => e = .returned (.tuple #[.agg #[.int .i64 hi, .int .i64 1], .int .i64 0]) ∧ Below W.heap.size W w'))
    (CH : RowKit.Hid (op = false → ∀ W, Calls Tryd.prog 45 #[.agg #[.int .i64 p, .int .i64 q], .agg #[.int .i64 hi, .int .i64 1]] W fun e w' => e = .returned (.tuple #[.int .i64 m, .int .i64 0]) ∧ Below W.heap.size W w'))
    (h1 : (n = -1 ∧ i = true) ∨ (n = 0 ∧ ls = false ∧ i = true) ∨ (n = 0 ∧ ls = true ∧ i = false) ∨ (n = 1 ∧ i = false))
    (h2 : (op = true ∧ r = i) ∨ (op = false ∧ i = false ∧ r = false) ∨ (op = false ∧ i = true ∧ m = -1 ∧ r = true) ∨ (op = false ∧ i = true ∧ m = 0 ∧ hs = false ∧ r = true) ∨ (op = false ∧ i = true ∧ m = 0 ∧ hs = true ∧ r = false) ∨ (op = false ∧ i = true ∧ m = 1 ∧ r = false)) :
    Calls Tryd.prog 21 #[.agg #[.int .i64 p, .int .i64 q], .agg #[.int .i64 lo, .bool ls, .int .i64 hi, .bool hs, .bool op]] w fun e w' => e = .returned (.bool r) ∧ Below w.heap.size w w' := by
  have X : ∃ w0, w0 = (w.alloc (.cells #[.int .i64 p, .int .i64 q] 42)).alloc (.cells #[.int .i64 lo, .bool ls, .int .i64 hi, .bool hs, .bool op] 31) := ⟨_, rfl⟩
  obtain ⟨w0, hX⟩ := X
  have DB : Below w.heap.size w w0 := by rw [hX]; exact bound.up2 _ _ _
  have D0 : lies.Lies w0 w.heap.size 42 #[.int .i64 p, .int .i64 q] := by rw [hX]; exact lies.on_alloc (lies.made _ _ _) _
  have D1 : lies.Lies w0 (w.heap.size + 1) 31 #[.int .i64 lo, .bool ls, .int .i64 hi, .bool hs, .bool op] := by rw [hX]; exact lies.made_at _ _ _ _ (by simp)
  go_enter Tryd.func21, Tryd.ntmps21
  obtain ⟨⟨c0, c1, c2, c3, c4⟩, _⟩ := five_cells D1
  have cl := lies.lt D1
  go_wp2_with fail
  clear c0 c1 c2 c3 c4 cl
  rw [← hX]
  clear hX
  refine (OL.out w0).mono ?_
  rintro e w1 ⟨rfl, hB⟩
  replace D0 := lies.on_call D0 hB
  replace D1 := lies.on_call D1 hB
  replace DB := later DB hB
  clear hB OL
  obtain ⟨c0, c1, _, _, cl⟩ := lies.two D0
  go_wp2_with fail
  clear c0 c1 cl
  have hA := bound.up1 w1 (.cells #[.int .i64 lo, .int .i64 1] 42)
  replace D0 := lies.on_call D0 hA
  replace D1 := lies.on_call D1 hA
  replace DB := later DB hA
  clear hA
  generalize w1.alloc (.cells #[.int .i64 lo, .int .i64 1] 42) = w2 at D0 D1 DB ⊢
  refine (CL.out w2).mono ?_
  rintro e w3 ⟨rfl, hB⟩
  replace D0 := lies.on_call D0 hB
  replace D1 := lies.on_call D1 hB
  replace DB := later DB hB
  clear hB CL
  have H2 := Lib.hid h2
  clear h2
  rcases h1 with ⟨rfl, rfl⟩ | ⟨rfl, rfl, rfl⟩ | ⟨rfl, rfl, rfl⟩ | ⟨rfl, rfl⟩
  all_goals
    rcases H2.out with ⟨rfl, rfl⟩ | ⟨rfl, e1, rfl⟩ | ⟨rfl, e1, rfl, rfl⟩ | ⟨rfl, e1, rfl, rfl, rfl⟩ | ⟨rfl, e1, rfl, rfl, rfl⟩ | ⟨rfl, e1, rfl, rfl⟩
  all_goals first
    | cases e1; done
    | (have H3 := OH.out
       clear H2 H3 OH CH
       obtain ⟨⟨c0, c1, c2, c3, c4⟩, _⟩ := five_cells D1
       have cl := lies.lt D1
       clear D0 D1
       go_wp2_with fail
       go_ret
       exact ⟨rfl, DB⟩)
    | (clear H2
       try clear e1
       have O2 := Lib.hid (OH.out rfl)
       have C2 := Lib.hid (CH.out rfl)
       clear OH CH
       obtain ⟨⟨c0, c1, c2, c3, c4⟩, _⟩ := five_cells D1
       have cl := lies.lt D1
       go_wp2_with fail
       clear c0 c1 c2 c3 c4 cl
       refine (O2.out w3).mono ?_
       rintro e w4 ⟨rfl, hB⟩
       replace D0 := lies.on_call D0 hB
       replace D1 := lies.on_call D1 hB
       replace DB := later DB hB
       clear hB O2
       obtain ⟨c0, c1, _, _, cl⟩ := lies.two D0
       go_wp2_with fail
       clear c0 c1 cl
       have hA := bound.up1 w4 (.cells #[.int .i64 hi, .int .i64 1] 42)
       replace D1 := lies.on_call D1 hA
       replace DB := later DB hA
       clear hA D0
       generalize w4.alloc (.cells #[.int .i64 hi, .int .i64 1] 42) = w5 at D1 DB ⊢
       refine (C2.out w5).mono ?_
       rintro e w6 ⟨rfl, hB⟩
       replace D1 := lies.on_call D1 hB
       replace DB := later DB hB
       clear hB C2
       obtain ⟨⟨c0, c1, c2, c3, c4⟩, _⟩ := five_cells D1
       have cl := lies.lt D1
       clear D1
       go_wp2_with fail
       go_ret
       exact ⟨rfl, DB⟩)
end Go.Proofs.YtcaoooddmmhieaaDoor.wlaw
