/-
  WinNames answers true; the listed variable reads as the program lays it.
-/
import Derived.Test.YtcaoooddmmhieaaDoorWinL
import Derived.Test.YtcaoooddmmhieaaDoorCards
import Derived.Test.YtcaoooddmmhieaaDoorTie
import Derived.BigQuiet
namespace Go.Proofs.YtcaoooddmmhieaaDoor.winNames
open Go.Joins Go.ChangeShapes Go.WideShapes Go.ChangeAt Go.RowKit num rat dbm Go.Proofs.YtcaoooddmmhieaaDoor.tight Go.Proofs.YtcaoooddmmhieaaDoor.incl Go.Proofs.YtcaoooddmmhieaaDoor.plaw Go.Proofs.YtcaoooddmmhieaaDoor.zopen Go.Proofs.YtcaoooddmmhieaaDoor.zone Go.Proofs.YtcaoooddmmhieaaDoor.zlaw Go.Proofs.YtcaoooddmmhieaaDoor.win Go.Proofs.YtcaoooddmmhieaaDoor.wlaw
open bound hiding up
open Go.Proofs.YtcaoooddmmhieaaDoor.comp (five_cells)
set_option linter.unusedVariables false
set_option linter.unusedSimpArgs false

theorem cut_w : CutR [8, 1, 9, 0, 9, 0] (lateZ (winS 2 3)) [6, 1, 7, -4, 7, 0] 0 := by
  have e : lesT (fullT [8, 1, 9, 0, 9, 0]) (fullT (lateZ (winS 2 3))) = [1, 1, -4, 8, 1, 0, 7, 9, 1] := by decide +kernel
  obtain ⟨k1, k2⟩ := tlaw.ok_cl (m := 3) (by decide) (ts := [1, 1, -4, 8, 1, 0, 7, 9, 1]) (us := [1, 1, -4, 6, 1, 0, 7, 7, 1]) (by decide +kernel) (by decide +kernel)
  have k1 : OkD 3 [1, 1, -4, 8, 1, 0, 7, 9, 1] := k1
  have k2 : clT 3 [1, 1, -4, 8, 1, 0, 7, 9, 1] = [1, 1, -4, 6, 1, 0, 7, 7, 1] := k2
  unfold CutR
  rw [e, k2]
  exact .inr (.inr ⟨k1, by decide, rfl, rfl⟩)
theorem make_u : MakeR (0, false, 4, false, false) (2, true, 3, false, false) (0, true, 0, false, true) [6, 1, 7, -4, 7, 0] 0 := by
  have h0 : MayP (0, false, 4, false, false) := ⟨⟨by decide, by decide⟩, .inr ⟨rfl, ⟨by decide, by decide⟩, by decide⟩⟩
  have h1 : MayP (2, true, 3, false, false) := ⟨⟨by decide, by decide⟩, .inr ⟨rfl, ⟨by decide, by decide⟩, by decide⟩⟩
  have h2 : MayP (0, true, 0, false, true) := ⟨⟨by decide, by decide⟩, .inl ⟨rfl, rfl, rfl⟩⟩
  have e : fullT (spanZ (0, false, 4, false, false) (2, true, 3, false, false) (0, true, 0, false, true)) = [1, 1, -4, 9, 1, 0, 7, 9223372036854775807, 1] := by decide +kernel
  obtain ⟨k1, k2⟩ := tlaw.ok_cl (m := 3) (by decide) (ts := [1, 1, -4, 9, 1, 0, 7, 9223372036854775807, 1]) (us := [1, 1, -4, 6, 1, 0, 7, 7, 1]) (by decide +kernel) (by decide +kernel)
  have k1 : OkD 3 [1, 1, -4, 9, 1, 0, 7, 9223372036854775807, 1] := k1
  have k2 : clT 3 [1, 1, -4, 9, 1, 0, 7, 9223372036854775807, 1] = [1, 1, -4, 6, 1, 0, 7, 7, 1] := k2
  unfold MakeR
  rw [e, k2]
  exact .inr (.inr (.inr ⟨h0, h1, h2, k1, by decide, rfl, rfl⟩))
theorem cut_no : CutR [8, 1, 9, 0, 9, 0] (lateZ (winS 4 5)) zero6 6 := by
  refine .inl ⟨fun h => ?_, rfl, rfl⟩
  have e : lesT (fullT [8, 1, 9, 0, 9, 0]) (fullT (lateZ (winS 4 5))) = [1, 1, -8, 8, 1, 0, 9, 9, 1] := by decide +kernel
  rw [e] at h
  have k : tlaw.okB 3 (by decide) [1, 1, -8, 8, 1, 0, 9, 9, 1] = false := by decide +kernel
  have := (tlaw.okB_iff (m := 3) (by decide) _).2 h
  rw [k] at this
  cases this
theorem made_u (w : World) (hP : Pl w) : Calls Tryd.prog 11 #[.agg #[.int .i64 0, .bool false, .int .i64 4, .bool false, .bool false], .agg #[.int .i64 2, .bool true, .int .i64 3, .bool false, .bool false], .agg #[.int .i64 0, .bool true, .int .i64 0, .bool false, .bool true]] w fun e w' => e = .returned (.tuple #[.agg #[.int .i64 6, .int .i64 1, .int .i64 7, .int .i64 (-4), .int .i64 7, .int .i64 0], .int .i64 0]) ∧ Below w.heap.size w w' := by
  refine (make_any 0 false 4 false false 2 true 3 false false 0 true 0 false true w hP).mono fun e w' h => ?_
  obtain ⟨hB, z0, z1, z2, z3, z4, z5, f, rfl, hR⟩ := h
  obtain ⟨e1, rfl⟩ := make_one make_u hR
  obtain ⟨rfl, rfl, rfl, rfl, rfl, rfl⟩ : z0 = 6 ∧ z1 = 1 ∧ z2 = 7 ∧ z3 = -4 ∧ z4 = 7 ∧ z5 = 0 := by simpa using e1
  exact ⟨rfl, hB⟩
theorem window_a (w : World) (hP : Pl w) : Calls Tryd.prog 9 #[.agg #[.int .i64 8, .int .i64 1, .int .i64 9, .int .i64 0, .int .i64 9, .int .i64 0], .int .i64 2, .int .i64 3] w fun e w' => e = .returned (.tuple #[.agg #[.int .i64 6, .int .i64 1, .int .i64 7, .int .i64 (-4), .int .i64 7, .int .i64 0], .int .i64 0]) ∧ Below w.heap.size w w' := by
  refine (window_any 8 1 9 0 9 0 2 3 w hP may_z0_tops).mono fun e w' h => ?_
  obtain ⟨hB, z0, z1, z2, z3, z4, z5, f, rfl, hR⟩ := h
  obtain ⟨e1, rfl⟩ := cut_one cut_w (window_cut may_z0 ⟨⟨by decide, by decide⟩, ⟨by decide, by decide⟩, by decide⟩ hR)
  obtain ⟨rfl, rfl, rfl, rfl, rfl, rfl⟩ : z0 = 6 ∧ z1 = 1 ∧ z2 = 7 ∧ z3 = -4 ∧ z4 = 7 ∧ z5 = 0 := by simpa [zero6] using e1
  exact ⟨rfl, hB⟩
theorem window_n (w : World) (hP : Pl w) : Calls Tryd.prog 9 #[.agg #[.int .i64 8, .int .i64 1, .int .i64 9, .int .i64 0, .int .i64 9, .int .i64 0], .int .i64 4, .int .i64 5] w fun e w' => e = .returned (.tuple #[.agg #[.int .i64 0, .int .i64 0, .int .i64 0, .int .i64 0, .int .i64 0, .int .i64 0], .int .i64 6]) ∧ Below w.heap.size w w' := by
  refine (window_any 8 1 9 0 9 0 4 5 w hP may_z0_tops).mono fun e w' h => ?_
  obtain ⟨hB, z0, z1, z2, z3, z4, z5, f, rfl, hR⟩ := h
  obtain ⟨e1, rfl⟩ := cut_one cut_no (window_cut may_z0 ⟨⟨by decide, by decide⟩, ⟨by decide, by decide⟩, by decide⟩ hR)
  obtain ⟨rfl, rfl, rfl, rfl, rfl, rfl⟩ : z0 = 0 ∧ z1 = 0 ∧ z2 = 0 ∧ z3 = 0 ∧ z4 = 0 ∧ z5 = 0 := by simpa [zero6] using e1
  exact ⟨rfl, hB⟩
theorem window_e (w : World) (hP : Pl w) : Calls Tryd.prog 9 #[.agg #[.int .i64 8, .int .i64 1, .int .i64 9, .int .i64 0, .int .i64 9, .int .i64 0], .int .i64 3, .int .i64 3] w fun e w' => e = .returned (.tuple #[.agg #[.int .i64 0, .int .i64 0, .int .i64 0, .int .i64 0, .int .i64 0, .int .i64 0], .int .i64 2]) ∧ Below w.heap.size w w' := by
  refine (window_any 8 1 9 0 9 0 3 3 w hP may_z0_tops).mono fun e w' h => ?_
  obtain ⟨hB, z0, z1, z2, z3, z4, z5, f, rfl, hR⟩ := h
  rcases hR with ⟨n, _⟩ | ⟨_, _, e1, rfl⟩ | ⟨_, n, _⟩
  · exact (n may_z0).elim
  · obtain ⟨rfl, rfl, rfl, rfl, rfl, rfl⟩ : z0 = 0 ∧ z1 = 0 ∧ z2 = 0 ∧ z3 = 0 ∧ z4 = 0 ∧ z5 = 0 := by simpa [zero6] using e1
    exact ⟨rfl, hB⟩
  · exact absurd n.2.2 (by decide)
theorem shift_z (w : World) (hP : Pl w) : Calls Tryd.prog 13 #[.agg #[.int .i64 8, .int .i64 1, .int .i64 9, .int .i64 0, .int .i64 9, .int .i64 0], .int .i64 2] w fun e w' => e = .returned (.tuple #[.agg #[.int .i64 12, .int .i64 (-3), .int .i64 13, .int .i64 (-4), .int .i64 9, .int .i64 0], .int .i64 0]) ∧ Below w.heap.size w w' := by
  refine (shift_any 8 1 9 0 9 0 2 w hP may_z0_tops).mono fun e w' h => ?_
  obtain ⟨hB, z0, z1, z2, z3, z4, z5, f, rfl, hR⟩ := h
  have e0 : laterT [8, 1, 9, 0, 9, 0] 2 = [12, -3, 13, -4, 9, 0] := by decide +kernel
  unfold ShiftR at hR
  rw [e0] at hR
  rcases hR with ⟨n, _⟩ | ⟨_, n, _⟩ | ⟨_, _, n, _⟩ | ⟨_, _, _, e1, rfl⟩
  · exact (n may_z0).elim
  · exact (n ⟨by decide, by decide⟩).elim
  · exact (n may_z2).elim
  · obtain ⟨rfl, rfl, rfl, rfl, rfl, rfl⟩ : z0 = 12 ∧ z1 = -3 ∧ z2 = 13 ∧ z3 = -4 ∧ z4 = 9 ∧ z5 = 0 := by simpa using e1
    exact ⟨rfl, hB⟩

set_option maxRecDepth 100000 in
set_option maxHeartbeats 8000000 in
theorem walk (w : World) (hP : Pl w) : Calls Tryd.prog 3 #[] w fun e w' => e = .returned (.bool true) ∧ Below w.heap.size w w' := by
  have P0 := hP
  have DB := Below.refl w.heap.size w
  clear hP
  go_enter Tryd.func3, Tryd.ntmps3
  go_wp2_with fail
  refine (some_z0 w P0).mono ?_
  rintro e w1 ⟨rfl, hB⟩
  replace P0 := P0.on hB
  replace DB := later DB hB
  clear hB
  go_wp2_with fail
  refine (window_a w1 P0).mono ?_
  rintro e w2 ⟨rfl, hB⟩
  replace P0 := P0.on hB
  replace DB := later DB hB
  clear hB
  go_wp2_with fail
  have hA := bound.up1 w2 (.cells #[.int .i64 6, .int .i64 1, .int .i64 7, .int .i64 (-4), .int .i64 7, .int .i64 0] 24)
  have D0 := lies.made w2 24 #[.int .i64 6, .int .i64 1, .int .i64 7, .int .i64 (-4), .int .i64 7, .int .i64 0]
  replace P0 := P0.on hA
  replace DB := later DB hA
  clear hA
  generalize w2.heap.size = XD0 at D0 ⊢
  generalize w2.alloc (.cells #[.int .i64 6, .int .i64 1, .int .i64 7, .int .i64 (-4), .int .i64 7, .int .i64 0] 24) = v3 at D0 P0 DB ⊢
  refine (to_is 0 4 v3).mono ?_
  rintro e w4 ⟨rfl, hB⟩
  replace D0 := lies.on_call D0 hB
  replace P0 := P0.on hB
  replace DB := later DB hB
  clear hB
  go_wp2_with fail
  refine (made_u w4 P0).mono ?_
  rintro e w5 ⟨rfl, hB⟩
  replace D0 := lies.on_call D0 hB
  replace P0 := P0.on hB
  replace DB := later DB hB
  clear hB
  go_wp2_with fail
  have hA := bound.up1 w5 (.cells #[.int .i64 6, .int .i64 1, .int .i64 7, .int .i64 (-4), .int .i64 7, .int .i64 0] 24)
  have D1 := lies.made w5 24 #[.int .i64 6, .int .i64 1, .int .i64 7, .int .i64 (-4), .int .i64 7, .int .i64 0]
  replace D0 := lies.on_call D0 hA
  replace P0 := P0.on hA
  replace DB := later DB hA
  clear hA
  generalize w5.heap.size = XD1 at D1 ⊢
  generalize w5.alloc (.cells #[.int .i64 6, .int .i64 1, .int .i64 7, .int .i64 (-4), .int .i64 7, .int .i64 0] 24) = v6 at D0 D1 P0 DB ⊢
  refine (some_z0 v6 P0).mono ?_
  rintro e w7 ⟨rfl, hB⟩
  replace D0 := lies.on_call D0 hB
  replace D1 := lies.on_call D1 hB
  replace P0 := P0.on hB
  replace DB := later DB hB
  clear hB
  go_wp2_with fail
  refine (window_n w7 P0).mono ?_
  rintro e w8 ⟨rfl, hB⟩
  replace D0 := lies.on_call D0 hB
  replace D1 := lies.on_call D1 hB
  replace P0 := P0.on hB
  replace DB := later DB hB
  clear hB
  go_wp2_with fail
  have hA := bound.up1 w8 (.cells #[.int .i64 0, .int .i64 0, .int .i64 0, .int .i64 0, .int .i64 0, .int .i64 0] 24)
  have D2 := lies.made w8 24 #[.int .i64 0, .int .i64 0, .int .i64 0, .int .i64 0, .int .i64 0, .int .i64 0]
  replace D0 := lies.on_call D0 hA
  replace D1 := lies.on_call D1 hA
  replace P0 := P0.on hA
  replace DB := later DB hA
  clear hA
  generalize w8.heap.size = XD2 at D2 ⊢
  generalize w8.alloc (.cells #[.int .i64 0, .int .i64 0, .int .i64 0, .int .i64 0, .int .i64 0, .int .i64 0] 24) = v9 at D0 D1 D2 P0 DB ⊢
  refine (some_z0 v9 P0).mono ?_
  rintro e w10 ⟨rfl, hB⟩
  replace D0 := lies.on_call D0 hB
  replace D1 := lies.on_call D1 hB
  replace D2 := lies.on_call D2 hB
  replace P0 := P0.on hB
  replace DB := later DB hB
  clear hB
  go_wp2_with fail
  refine (window_e w10 P0).mono ?_
  rintro e w11 ⟨rfl, hB⟩
  replace D0 := lies.on_call D0 hB
  replace D1 := lies.on_call D1 hB
  replace D2 := lies.on_call D2 hB
  replace P0 := P0.on hB
  replace DB := later DB hB
  clear hB
  go_wp2_with fail
  have hA := bound.up1 w11 (.cells #[.int .i64 0, .int .i64 0, .int .i64 0, .int .i64 0, .int .i64 0, .int .i64 0] 24)
  have D3 := lies.made w11 24 #[.int .i64 0, .int .i64 0, .int .i64 0, .int .i64 0, .int .i64 0, .int .i64 0]
  replace D0 := lies.on_call D0 hA
  replace D1 := lies.on_call D1 hA
  replace D2 := lies.on_call D2 hA
  replace P0 := P0.on hA
  replace DB := later DB hA
  clear hA
  generalize w11.heap.size = XD3 at D3 ⊢
  generalize w11.alloc (.cells #[.int .i64 0, .int .i64 0, .int .i64 0, .int .i64 0, .int .i64 0, .int .i64 0] 24) = v12 at D0 D1 D2 D3 P0 DB ⊢
  refine (some_z0 v12 P0).mono ?_
  rintro e w13 ⟨rfl, hB⟩
  replace D0 := lies.on_call D0 hB
  replace D1 := lies.on_call D1 hB
  replace D2 := lies.on_call D2 hB
  replace D3 := lies.on_call D3 hB
  replace P0 := P0.on hB
  replace DB := later DB hB
  clear hB
  go_wp2_with fail
  refine (shift_z w13 P0).mono ?_
  rintro e w14 ⟨rfl, hB⟩
  replace D0 := lies.on_call D0 hB
  replace D1 := lies.on_call D1 hB
  replace D2 := lies.on_call D2 hB
  replace D3 := lies.on_call D3 hB
  replace P0 := P0.on hB
  replace DB := later DB hB
  clear hB
  go_wp2_with fail
  have hA := bound.up1 w14 (.cells #[.int .i64 12, .int .i64 (-3), .int .i64 13, .int .i64 (-4), .int .i64 9, .int .i64 0] 24)
  have D4 := lies.made w14 24 #[.int .i64 12, .int .i64 (-3), .int .i64 13, .int .i64 (-4), .int .i64 9, .int .i64 0]
  replace D0 := lies.on_call D0 hA
  replace D1 := lies.on_call D1 hA
  replace D2 := lies.on_call D2 hA
  replace D3 := lies.on_call D3 hA
  replace P0 := P0.on hA
  replace DB := later DB hA
  clear hA
  generalize w14.heap.size = XD4 at D4 ⊢
  generalize w14.alloc (.cells #[.int .i64 12, .int .i64 (-3), .int .i64 13, .int .i64 (-4), .int .i64 9, .int .i64 0] 24) = v15 at D0 D1 D2 D3 D4 P0 DB ⊢
  have HQ : RowKit.Hid ((∀ W, (Op.equalIn 10000 24 (.agg #[.int .i64 6, .int .i64 1, .int .i64 7, .int .i64 (-4), .int .i64 7, .int .i64 0]) (.agg #[.int .i64 6, .int .i64 1, .int .i64 7, .int .i64 (-4), .int .i64 7, .int .i64 0])).run Tryd.prog W = .ok true W) ∧ ∀ W, (Op.equalIn 10000 24 (.agg #[.int .i64 12, .int .i64 (-3), .int .i64 13, .int .i64 (-4), .int .i64 9, .int .i64 0]) (.agg #[.int .i64 12, .int .i64 (-3), .int .i64 13, .int .i64 (-4), .int .i64 9, .int .i64 0])).run Tryd.prog W = .ok true W) := Lib.hid ⟨fun W => by rw [eq_zone]; simp, fun W => by rw [eq_zone]; simp⟩
  refine wp_region_held_drew (S := Below v15.heap.size v15) (by kernel_rfl) (dbm.drawn1 (Below.refl _ _)) (fun hHeld => ?_)
  generalize v15.drew = wE at hHeld ⊢
  refine wpAnyH_ready (rs := [0]) (by kernel_rfl) (by simp) (AllReadyH.cons rfl (fun K hK => ?_) AllReadyH.nil)
  go_simp
  refine (alive_yes _ (P0.on hHeld)).mono ?_
  rintro e y0 ⟨rfl, hB⟩
  refine hK.out _ _ (hHeld.trans (hB.mono hHeld.size)) (fun hNew => ?_)
  clear hB
  clear hHeld hK K
  have hHeld := hNew
  clear hNew
  try simp only [Act.put, List.getElem_toArray, List.getElem_cons_zero, List.getElem_cons_succ, List.setIfInBounds_toArray, List.set_cons_zero, List.set_cons_succ]
  refine wpAnyH_take (i := 1) (v := ?_) rfl (by kernel_rfl) (by kernel_rfl) (by kernel_rfl) (fun _ _ _ h => h) (Or.inl ⟨by rfl, ?_⟩) hHeld ?_
  rotate_left
  · intro w hSw; obtain ⟨⟨x0, x1, x2, x3, x4, x5⟩, _⟩ := six_cells (lies.on_call D0 hSw); obtain ⟨⟨y0, y1, y2, y3, y4, y5⟩, _⟩ := six_cells (lies.on_call D1 hSw); obtain ⟨⟨z0, z1, z2, z3, z4, z5⟩, _⟩ := six_cells (lies.on_call D4 hSw); have q1 := HQ.out.1 w; have q2 := HQ.out.2 w; go_simp; try with_reducible rfl
  try simp only [Act.put, List.getElem_toArray, List.getElem_cons_zero, List.getElem_cons_succ, List.setIfInBounds_toArray, List.set_cons_zero, List.set_cons_succ]
  refine wpAnyH_take (i := 2) (v := ?_) rfl (by kernel_rfl) (by kernel_rfl) (by kernel_rfl) (fun _ _ _ h => h) (Or.inl ⟨by rfl, ?_⟩) hHeld ?_
  rotate_left
  · intro w hSw; obtain ⟨⟨x0, x1, x2, x3, x4, x5⟩, _⟩ := six_cells (lies.on_call D0 hSw); obtain ⟨⟨y0, y1, y2, y3, y4, y5⟩, _⟩ := six_cells (lies.on_call D1 hSw); obtain ⟨⟨z0, z1, z2, z3, z4, z5⟩, _⟩ := six_cells (lies.on_call D4 hSw); have q1 := HQ.out.1 w; have q2 := HQ.out.2 w; go_simp; try with_reducible rfl
  try simp only [Act.put, List.getElem_toArray, List.getElem_cons_zero, List.getElem_cons_succ, List.setIfInBounds_toArray, List.set_cons_zero, List.set_cons_succ]
  refine wpAnyH_take (i := 3) (v := ?_) rfl (by kernel_rfl) (by kernel_rfl) (by kernel_rfl) (fun _ _ _ h => h) (Or.inl ⟨by rfl, ?_⟩) hHeld ?_
  rotate_left
  · intro w hSw; obtain ⟨⟨x0, x1, x2, x3, x4, x5⟩, _⟩ := six_cells (lies.on_call D0 hSw); obtain ⟨⟨y0, y1, y2, y3, y4, y5⟩, _⟩ := six_cells (lies.on_call D1 hSw); obtain ⟨⟨z0, z1, z2, z3, z4, z5⟩, _⟩ := six_cells (lies.on_call D4 hSw); have q1 := HQ.out.1 w; have q2 := HQ.out.2 w; go_simp; try with_reducible rfl
  try simp only [Act.put, List.getElem_toArray, List.getElem_cons_zero, List.getElem_cons_succ, List.setIfInBounds_toArray, List.set_cons_zero, List.set_cons_succ]
  refine wpAnyH_take (i := 4) (v := ?_) rfl (by kernel_rfl) (by kernel_rfl) (by kernel_rfl) (fun _ _ _ h => h) (Or.inl ⟨by rfl, ?_⟩) hHeld ?_
  rotate_left
  · intro w hSw; obtain ⟨⟨x0, x1, x2, x3, x4, x5⟩, _⟩ := six_cells (lies.on_call D0 hSw); obtain ⟨⟨y0, y1, y2, y3, y4, y5⟩, _⟩ := six_cells (lies.on_call D1 hSw); obtain ⟨⟨z0, z1, z2, z3, z4, z5⟩, _⟩ := six_cells (lies.on_call D4 hSw); have q1 := HQ.out.1 w; have q2 := HQ.out.2 w; go_simp; try with_reducible rfl
  try simp only [Act.put, List.getElem_toArray, List.getElem_cons_zero, List.getElem_cons_succ, List.setIfInBounds_toArray, List.set_cons_zero, List.set_cons_succ]
  refine wpAnyH_take (i := 5) (v := ?_) rfl (by kernel_rfl) (by kernel_rfl) (by kernel_rfl) (fun _ _ _ h => h) (Or.inl ⟨by rfl, ?_⟩) hHeld ?_
  rotate_left
  · intro w hSw; obtain ⟨⟨x0, x1, x2, x3, x4, x5⟩, _⟩ := six_cells (lies.on_call D0 hSw); obtain ⟨⟨y0, y1, y2, y3, y4, y5⟩, _⟩ := six_cells (lies.on_call D1 hSw); obtain ⟨⟨z0, z1, z2, z3, z4, z5⟩, _⟩ := six_cells (lies.on_call D4 hSw); have q1 := HQ.out.1 w; have q2 := HQ.out.2 w; go_simp; try with_reducible rfl
  try simp only [Act.put, List.getElem_toArray, List.getElem_cons_zero, List.getElem_cons_succ, List.setIfInBounds_toArray, List.set_cons_zero, List.set_cons_succ]
  refine wpAnyH_take (i := 6) (v := ?_) rfl (by kernel_rfl) (by kernel_rfl) (by kernel_rfl) (fun _ _ _ h => h) (Or.inl ⟨by rfl, ?_⟩) hHeld ?_
  rotate_left
  · intro w hSw; obtain ⟨⟨x0, x1, x2, x3, x4, x5⟩, _⟩ := six_cells (lies.on_call D0 hSw); obtain ⟨⟨y0, y1, y2, y3, y4, y5⟩, _⟩ := six_cells (lies.on_call D1 hSw); obtain ⟨⟨z0, z1, z2, z3, z4, z5⟩, _⟩ := six_cells (lies.on_call D4 hSw); have q1 := HQ.out.1 w; have q2 := HQ.out.2 w; go_simp; try with_reducible rfl
  try simp only [Act.put, List.getElem_toArray, List.getElem_cons_zero, List.getElem_cons_succ, List.setIfInBounds_toArray, List.set_cons_zero, List.set_cons_succ]
  refine wpAnyH_take (i := 7) (v := ?_) rfl (by kernel_rfl) (by kernel_rfl) (by kernel_rfl) (fun _ _ _ h => h) (Or.inl ⟨by rfl, ?_⟩) hHeld ?_
  rotate_left
  · intro w hSw; obtain ⟨⟨x0, x1, x2, x3, x4, x5⟩, _⟩ := six_cells (lies.on_call D0 hSw); obtain ⟨⟨y0, y1, y2, y3, y4, y5⟩, _⟩ := six_cells (lies.on_call D1 hSw); obtain ⟨⟨z0, z1, z2, z3, z4, z5⟩, _⟩ := six_cells (lies.on_call D4 hSw); have q1 := HQ.out.1 w; have q2 := HQ.out.2 w; go_simp; try with_reducible rfl
  try simp only [Act.put, List.getElem_toArray, List.getElem_cons_zero, List.getElem_cons_succ, List.setIfInBounds_toArray, List.set_cons_zero, List.set_cons_succ]
  refine wpAnyH_take (i := 8) (v := ?_) rfl (by kernel_rfl) (by kernel_rfl) (by kernel_rfl) (fun _ _ _ h => h) (Or.inl ⟨by rfl, ?_⟩) hHeld ?_
  rotate_left
  · intro w hSw; obtain ⟨⟨x0, x1, x2, x3, x4, x5⟩, _⟩ := six_cells (lies.on_call D0 hSw); obtain ⟨⟨y0, y1, y2, y3, y4, y5⟩, _⟩ := six_cells (lies.on_call D1 hSw); obtain ⟨⟨z0, z1, z2, z3, z4, z5⟩, _⟩ := six_cells (lies.on_call D4 hSw); have q1 := HQ.out.1 w; have q2 := HQ.out.2 w; go_simp; try with_reducible rfl
  try simp only [Act.put, List.getElem_toArray, List.getElem_cons_zero, List.getElem_cons_succ, List.setIfInBounds_toArray, List.set_cons_zero, List.set_cons_succ]
  refine wpAnyH_take (i := 9) (v := ?_) rfl (by kernel_rfl) (by kernel_rfl) (by kernel_rfl) (fun _ _ _ h => h) (Or.inl ⟨by rfl, ?_⟩) hHeld ?_
  rotate_left
  · intro w hSw; obtain ⟨⟨x0, x1, x2, x3, x4, x5⟩, _⟩ := six_cells (lies.on_call D0 hSw); obtain ⟨⟨y0, y1, y2, y3, y4, y5⟩, _⟩ := six_cells (lies.on_call D1 hSw); obtain ⟨⟨z0, z1, z2, z3, z4, z5⟩, _⟩ := six_cells (lies.on_call D4 hSw); have q1 := HQ.out.1 w; have q2 := HQ.out.2 w; go_simp; try with_reducible rfl
  try simp only [Act.put, List.getElem_toArray, List.getElem_cons_zero, List.getElem_cons_succ, List.setIfInBounds_toArray, List.set_cons_zero, List.set_cons_succ]
  refine wpAnyH_take (i := 10) (v := ?_) rfl (by kernel_rfl) (by kernel_rfl) (by kernel_rfl) (fun _ _ _ h => h) (Or.inl ⟨by rfl, ?_⟩) hHeld ?_
  rotate_left
  · intro w hSw; obtain ⟨⟨x0, x1, x2, x3, x4, x5⟩, _⟩ := six_cells (lies.on_call D0 hSw); obtain ⟨⟨y0, y1, y2, y3, y4, y5⟩, _⟩ := six_cells (lies.on_call D1 hSw); obtain ⟨⟨z0, z1, z2, z3, z4, z5⟩, _⟩ := six_cells (lies.on_call D4 hSw); have q1 := HQ.out.1 w; have q2 := HQ.out.2 w; go_simp; try with_reducible rfl
  try simp only [Act.put, List.getElem_toArray, List.getElem_cons_zero, List.getElem_cons_succ, List.setIfInBounds_toArray, List.set_cons_zero, List.set_cons_succ]
  refine wpAnyH_take (i := 11) (v := ?_) rfl (by kernel_rfl) (by kernel_rfl) (by kernel_rfl) (fun _ _ _ h => h) (Or.inl ⟨by rfl, ?_⟩) hHeld ?_
  rotate_left
  · intro w hSw; obtain ⟨⟨x0, x1, x2, x3, x4, x5⟩, _⟩ := six_cells (lies.on_call D0 hSw); obtain ⟨⟨y0, y1, y2, y3, y4, y5⟩, _⟩ := six_cells (lies.on_call D1 hSw); obtain ⟨⟨z0, z1, z2, z3, z4, z5⟩, _⟩ := six_cells (lies.on_call D4 hSw); have q1 := HQ.out.1 w; have q2 := HQ.out.2 w; go_simp; try with_reducible rfl
  try simp only [Act.put, List.getElem_toArray, List.getElem_cons_zero, List.getElem_cons_succ, List.setIfInBounds_toArray, List.set_cons_zero, List.set_cons_succ]
  refine wpAnyH_take (i := 12) (v := ?_) rfl (by kernel_rfl) (by kernel_rfl) (by kernel_rfl) (fun _ _ _ h => h) (Or.inl ⟨by rfl, ?_⟩) hHeld ?_
  rotate_left
  · intro w hSw; obtain ⟨⟨x0, x1, x2, x3, x4, x5⟩, _⟩ := six_cells (lies.on_call D0 hSw); obtain ⟨⟨y0, y1, y2, y3, y4, y5⟩, _⟩ := six_cells (lies.on_call D1 hSw); obtain ⟨⟨z0, z1, z2, z3, z4, z5⟩, _⟩ := six_cells (lies.on_call D4 hSw); have q1 := HQ.out.1 w; have q2 := HQ.out.2 w; go_simp; try with_reducible rfl
  try simp only [Act.put, List.getElem_toArray, List.getElem_cons_zero, List.getElem_cons_succ, List.setIfInBounds_toArray, List.set_cons_zero, List.set_cons_succ]
  refine wpAnyH_take (i := 13) (v := ?_) rfl (by kernel_rfl) (by kernel_rfl) (by kernel_rfl) (fun _ _ _ h => h) (Or.inl ⟨by rfl, ?_⟩) hHeld ?_
  rotate_left
  · intro w hSw; obtain ⟨⟨x0, x1, x2, x3, x4, x5⟩, _⟩ := six_cells (lies.on_call D0 hSw); obtain ⟨⟨y0, y1, y2, y3, y4, y5⟩, _⟩ := six_cells (lies.on_call D1 hSw); obtain ⟨⟨z0, z1, z2, z3, z4, z5⟩, _⟩ := six_cells (lies.on_call D4 hSw); have q1 := HQ.out.1 w; have q2 := HQ.out.2 w; go_simp; try with_reducible rfl
  try simp only [Act.put, List.getElem_toArray, List.getElem_cons_zero, List.getElem_cons_succ, List.setIfInBounds_toArray, List.set_cons_zero, List.set_cons_succ]
  refine wpAnyH_take (i := 14) (v := ?_) rfl (by kernel_rfl) (by kernel_rfl) (by kernel_rfl) (fun _ _ _ h => h) (Or.inl ⟨by rfl, ?_⟩) hHeld ?_
  rotate_left
  · intro w hSw; obtain ⟨⟨x0, x1, x2, x3, x4, x5⟩, _⟩ := six_cells (lies.on_call D0 hSw); obtain ⟨⟨y0, y1, y2, y3, y4, y5⟩, _⟩ := six_cells (lies.on_call D1 hSw); obtain ⟨⟨z0, z1, z2, z3, z4, z5⟩, _⟩ := six_cells (lies.on_call D4 hSw); have q1 := HQ.out.1 w; have q2 := HQ.out.2 w; go_simp; try with_reducible rfl
  try simp only [Act.put, List.getElem_toArray, List.getElem_cons_zero, List.getElem_cons_succ, List.setIfInBounds_toArray, List.set_cons_zero, List.set_cons_succ]
  refine wpAnyH_take (i := 15) (v := ?_) rfl (by kernel_rfl) (by kernel_rfl) (by kernel_rfl) (fun _ _ _ h => h) (Or.inl ⟨by rfl, ?_⟩) hHeld ?_
  rotate_left
  · intro w hSw; obtain ⟨⟨x0, x1, x2, x3, x4, x5⟩, _⟩ := six_cells (lies.on_call D0 hSw); obtain ⟨⟨y0, y1, y2, y3, y4, y5⟩, _⟩ := six_cells (lies.on_call D1 hSw); obtain ⟨⟨z0, z1, z2, z3, z4, z5⟩, _⟩ := six_cells (lies.on_call D4 hSw); have q1 := HQ.out.1 w; have q2 := HQ.out.2 w; go_simp; try with_reducible rfl
  try simp only [Act.put, List.getElem_toArray, List.getElem_cons_zero, List.getElem_cons_succ, List.setIfInBounds_toArray, List.set_cons_zero, List.set_cons_succ]
  refine wpAnyH_take (i := 16) (v := ?_) rfl (by kernel_rfl) (by kernel_rfl) (by kernel_rfl) (fun _ _ _ h => h) (Or.inl ⟨by rfl, ?_⟩) hHeld ?_
  rotate_left
  · intro w hSw; obtain ⟨⟨x0, x1, x2, x3, x4, x5⟩, _⟩ := six_cells (lies.on_call D0 hSw); obtain ⟨⟨y0, y1, y2, y3, y4, y5⟩, _⟩ := six_cells (lies.on_call D1 hSw); obtain ⟨⟨z0, z1, z2, z3, z4, z5⟩, _⟩ := six_cells (lies.on_call D4 hSw); have q1 := HQ.out.1 w; have q2 := HQ.out.2 w; go_simp; try with_reducible rfl
  try simp only [Act.put, List.getElem_toArray, List.getElem_cons_zero, List.getElem_cons_succ, List.setIfInBounds_toArray, List.set_cons_zero, List.set_cons_succ]
  refine wpAnyH_take (i := 17) (v := ?_) rfl (by kernel_rfl) (by kernel_rfl) (by kernel_rfl) (fun _ _ _ h => h) (Or.inl ⟨by rfl, ?_⟩) hHeld ?_
  rotate_left
  · intro w hSw; obtain ⟨⟨x0, x1, x2, x3, x4, x5⟩, _⟩ := six_cells (lies.on_call D0 hSw); obtain ⟨⟨y0, y1, y2, y3, y4, y5⟩, _⟩ := six_cells (lies.on_call D1 hSw); obtain ⟨⟨z0, z1, z2, z3, z4, z5⟩, _⟩ := six_cells (lies.on_call D4 hSw); have q1 := HQ.out.1 w; have q2 := HQ.out.2 w; go_simp; try with_reducible rfl
  try simp only [Act.put, List.getElem_toArray, List.getElem_cons_zero, List.getElem_cons_succ, List.setIfInBounds_toArray, List.set_cons_zero, List.set_cons_succ]
  refine wpAnyH_take (i := 18) (v := ?_) rfl (by kernel_rfl) (by kernel_rfl) (by kernel_rfl) (fun _ _ _ h => h) (Or.inl ⟨by rfl, ?_⟩) hHeld ?_
  rotate_left
  · intro w hSw; obtain ⟨⟨x0, x1, x2, x3, x4, x5⟩, _⟩ := six_cells (lies.on_call D0 hSw); obtain ⟨⟨y0, y1, y2, y3, y4, y5⟩, _⟩ := six_cells (lies.on_call D1 hSw); obtain ⟨⟨z0, z1, z2, z3, z4, z5⟩, _⟩ := six_cells (lies.on_call D4 hSw); have q1 := HQ.out.1 w; have q2 := HQ.out.2 w; go_simp; try with_reducible rfl
  try simp only [Act.put, List.getElem_toArray, List.getElem_cons_zero, List.getElem_cons_succ, List.setIfInBounds_toArray, List.set_cons_zero, List.set_cons_succ]
  refine wpAnyH_take (i := 19) (v := ?_) rfl (by kernel_rfl) (by kernel_rfl) (by kernel_rfl) (fun _ _ _ h => h) (Or.inl ⟨by rfl, ?_⟩) hHeld ?_
  rotate_left
  · intro w hSw; obtain ⟨⟨x0, x1, x2, x3, x4, x5⟩, _⟩ := six_cells (lies.on_call D0 hSw); obtain ⟨⟨y0, y1, y2, y3, y4, y5⟩, _⟩ := six_cells (lies.on_call D1 hSw); obtain ⟨⟨z0, z1, z2, z3, z4, z5⟩, _⟩ := six_cells (lies.on_call D4 hSw); have q1 := HQ.out.1 w; have q2 := HQ.out.2 w; go_simp; try with_reducible rfl
  try simp only [Act.put, List.getElem_toArray, List.getElem_cons_zero, List.getElem_cons_succ, List.setIfInBounds_toArray, List.set_cons_zero, List.set_cons_succ]
  refine wpAnyH_take (i := 20) (v := ?_) rfl (by kernel_rfl) (by kernel_rfl) (by kernel_rfl) (fun _ _ _ h => h) (Or.inl ⟨by rfl, ?_⟩) hHeld ?_
  rotate_left
  · intro w hSw; obtain ⟨⟨x0, x1, x2, x3, x4, x5⟩, _⟩ := six_cells (lies.on_call D0 hSw); obtain ⟨⟨y0, y1, y2, y3, y4, y5⟩, _⟩ := six_cells (lies.on_call D1 hSw); obtain ⟨⟨z0, z1, z2, z3, z4, z5⟩, _⟩ := six_cells (lies.on_call D4 hSw); have q1 := HQ.out.1 w; have q2 := HQ.out.2 w; go_simp; try with_reducible rfl
  try simp only [Act.put, List.getElem_toArray, List.getElem_cons_zero, List.getElem_cons_succ, List.setIfInBounds_toArray, List.set_cons_zero, List.set_cons_succ]
  refine wpAnyH_take (i := 21) (v := ?_) rfl (by kernel_rfl) (by kernel_rfl) (by kernel_rfl) (fun _ _ _ h => h) (Or.inl ⟨by rfl, ?_⟩) hHeld ?_
  rotate_left
  · intro w hSw; obtain ⟨⟨x0, x1, x2, x3, x4, x5⟩, _⟩ := six_cells (lies.on_call D0 hSw); obtain ⟨⟨y0, y1, y2, y3, y4, y5⟩, _⟩ := six_cells (lies.on_call D1 hSw); obtain ⟨⟨z0, z1, z2, z3, z4, z5⟩, _⟩ := six_cells (lies.on_call D4 hSw); have q1 := HQ.out.1 w; have q2 := HQ.out.2 w; go_simp; try with_reducible rfl
  try simp only [Act.put, List.getElem_toArray, List.getElem_cons_zero, List.getElem_cons_succ, List.setIfInBounds_toArray, List.set_cons_zero, List.set_cons_succ]
  refine wpAnyH_take (i := 22) (v := ?_) rfl (by kernel_rfl) (by kernel_rfl) (by kernel_rfl) (fun _ _ _ h => h) (Or.inl ⟨by rfl, ?_⟩) hHeld ?_
  rotate_left
  · intro w hSw; obtain ⟨⟨x0, x1, x2, x3, x4, x5⟩, _⟩ := six_cells (lies.on_call D0 hSw); obtain ⟨⟨y0, y1, y2, y3, y4, y5⟩, _⟩ := six_cells (lies.on_call D1 hSw); obtain ⟨⟨z0, z1, z2, z3, z4, z5⟩, _⟩ := six_cells (lies.on_call D4 hSw); have q1 := HQ.out.1 w; have q2 := HQ.out.2 w; go_simp; try with_reducible rfl
  try simp only [Act.put, List.getElem_toArray, List.getElem_cons_zero, List.getElem_cons_succ, List.setIfInBounds_toArray, List.set_cons_zero, List.set_cons_succ]
  refine wpAnyH_take (i := 23) (v := ?_) rfl (by kernel_rfl) (by kernel_rfl) (by kernel_rfl) (fun _ _ _ h => h) (Or.inl ⟨by rfl, ?_⟩) hHeld ?_
  rotate_left
  · intro w hSw; obtain ⟨⟨x0, x1, x2, x3, x4, x5⟩, _⟩ := six_cells (lies.on_call D0 hSw); obtain ⟨⟨y0, y1, y2, y3, y4, y5⟩, _⟩ := six_cells (lies.on_call D1 hSw); obtain ⟨⟨z0, z1, z2, z3, z4, z5⟩, _⟩ := six_cells (lies.on_call D4 hSw); have q1 := HQ.out.1 w; have q2 := HQ.out.2 w; go_simp; try with_reducible rfl
  try simp only [Act.put, List.getElem_toArray, List.getElem_cons_zero, List.getElem_cons_succ, List.setIfInBounds_toArray, List.set_cons_zero, List.set_cons_succ]
  refine wpAnyH_take (i := 24) (v := ?_) rfl (by kernel_rfl) (by kernel_rfl) (by kernel_rfl) (fun _ _ _ h => h) (Or.inl ⟨by rfl, ?_⟩) hHeld ?_
  rotate_left
  · intro w hSw; obtain ⟨⟨x0, x1, x2, x3, x4, x5⟩, _⟩ := six_cells (lies.on_call D0 hSw); obtain ⟨⟨y0, y1, y2, y3, y4, y5⟩, _⟩ := six_cells (lies.on_call D1 hSw); obtain ⟨⟨z0, z1, z2, z3, z4, z5⟩, _⟩ := six_cells (lies.on_call D4 hSw); have q1 := HQ.out.1 w; have q2 := HQ.out.2 w; go_simp; try with_reducible rfl
  try simp only [Act.put, List.getElem_toArray, List.getElem_cons_zero, List.getElem_cons_succ, List.setIfInBounds_toArray, List.set_cons_zero, List.set_cons_succ]
  refine wpAnyH_take (i := 25) (v := ?_) rfl (by kernel_rfl) (by kernel_rfl) (by kernel_rfl) (fun _ _ _ h => h) (Or.inl ⟨by rfl, ?_⟩) hHeld ?_
  rotate_left
  · intro w hSw; obtain ⟨⟨x0, x1, x2, x3, x4, x5⟩, _⟩ := six_cells (lies.on_call D0 hSw); obtain ⟨⟨y0, y1, y2, y3, y4, y5⟩, _⟩ := six_cells (lies.on_call D1 hSw); obtain ⟨⟨z0, z1, z2, z3, z4, z5⟩, _⟩ := six_cells (lies.on_call D4 hSw); have q1 := HQ.out.1 w; have q2 := HQ.out.2 w; go_simp; try with_reducible rfl
  try simp only [Act.put, List.getElem_toArray, List.getElem_cons_zero, List.getElem_cons_succ, List.setIfInBounds_toArray, List.set_cons_zero, List.set_cons_succ]
  refine wpAnyH_take (i := 26) (v := ?_) rfl (by kernel_rfl) (by kernel_rfl) (by kernel_rfl) (fun _ _ _ h => h) (Or.inl ⟨by rfl, ?_⟩) hHeld ?_
  rotate_left
  · intro w hSw; obtain ⟨⟨x0, x1, x2, x3, x4, x5⟩, _⟩ := six_cells (lies.on_call D0 hSw); obtain ⟨⟨y0, y1, y2, y3, y4, y5⟩, _⟩ := six_cells (lies.on_call D1 hSw); obtain ⟨⟨z0, z1, z2, z3, z4, z5⟩, _⟩ := six_cells (lies.on_call D4 hSw); have q1 := HQ.out.1 w; have q2 := HQ.out.2 w; go_simp; try with_reducible rfl
  try simp only [Act.put, List.getElem_toArray, List.getElem_cons_zero, List.getElem_cons_succ, List.setIfInBounds_toArray, List.set_cons_zero, List.set_cons_succ]
  refine wpAnyH_take (i := 27) (v := ?_) rfl (by kernel_rfl) (by kernel_rfl) (by kernel_rfl) (fun _ _ _ h => h) (Or.inl ⟨by rfl, ?_⟩) hHeld ?_
  rotate_left
  · intro w hSw; obtain ⟨⟨x0, x1, x2, x3, x4, x5⟩, _⟩ := six_cells (lies.on_call D0 hSw); obtain ⟨⟨y0, y1, y2, y3, y4, y5⟩, _⟩ := six_cells (lies.on_call D1 hSw); obtain ⟨⟨z0, z1, z2, z3, z4, z5⟩, _⟩ := six_cells (lies.on_call D4 hSw); have q1 := HQ.out.1 w; have q2 := HQ.out.2 w; go_simp; try with_reducible rfl
  try simp only [Act.put, List.getElem_toArray, List.getElem_cons_zero, List.getElem_cons_succ, List.setIfInBounds_toArray, List.set_cons_zero, List.set_cons_succ]
  refine wpAnyH_ready (rs := [28]) (by kernel_rfl) (by simp) (AllReadyH.cons rfl (fun K hK => ?_) AllReadyH.nil)
  go_simp
  refine (some_z2 _ (P0.on hHeld)).mono ?_
  rintro e y1 ⟨rfl, hB⟩
  refine hK.out _ _ (hHeld.trans (hB.mono hHeld.size)) (fun hNew => ?_)
  clear hB
  clear hHeld hK K
  have hHeld := hNew
  clear hNew
  try simp only [Act.put, List.getElem_toArray, List.getElem_cons_zero, List.getElem_cons_succ, List.setIfInBounds_toArray, List.set_cons_zero, List.set_cons_succ]
  refine wpAnyH_take (i := 29) (v := ?_) rfl (by kernel_rfl) (by kernel_rfl) (by kernel_rfl) (fun _ _ _ h => h) (Or.inl ⟨by rfl, ?_⟩) hHeld ?_
  rotate_left
  · intro w hSw; obtain ⟨⟨x0, x1, x2, x3, x4, x5⟩, _⟩ := six_cells (lies.on_call D0 hSw); obtain ⟨⟨y0, y1, y2, y3, y4, y5⟩, _⟩ := six_cells (lies.on_call D1 hSw); obtain ⟨⟨z0, z1, z2, z3, z4, z5⟩, _⟩ := six_cells (lies.on_call D4 hSw); have q1 := HQ.out.1 w; have q2 := HQ.out.2 w; go_simp; try with_reducible rfl
  try simp only [Act.put, List.getElem_toArray, List.getElem_cons_zero, List.getElem_cons_succ, List.setIfInBounds_toArray, List.set_cons_zero, List.set_cons_succ]
  refine wpAnyH_take (i := 30) (v := ?_) rfl (by kernel_rfl) (by kernel_rfl) (by kernel_rfl) (fun _ _ _ h => h) (Or.inl ⟨by rfl, ?_⟩) hHeld ?_
  rotate_left
  · intro w hSw; obtain ⟨⟨x0, x1, x2, x3, x4, x5⟩, _⟩ := six_cells (lies.on_call D0 hSw); obtain ⟨⟨y0, y1, y2, y3, y4, y5⟩, _⟩ := six_cells (lies.on_call D1 hSw); obtain ⟨⟨z0, z1, z2, z3, z4, z5⟩, _⟩ := six_cells (lies.on_call D4 hSw); have q1 := HQ.out.1 w; have q2 := HQ.out.2 w; go_simp; try with_reducible rfl
  try simp only [Act.put, List.getElem_toArray, List.getElem_cons_zero, List.getElem_cons_succ, List.setIfInBounds_toArray, List.set_cons_zero, List.set_cons_succ]
  refine wpAnyH_take (i := 31) (v := ?_) rfl (by kernel_rfl) (by kernel_rfl) (by kernel_rfl) (fun _ _ _ h => h) (Or.inl ⟨by rfl, ?_⟩) hHeld ?_
  rotate_left
  · intro w hSw; obtain ⟨⟨x0, x1, x2, x3, x4, x5⟩, _⟩ := six_cells (lies.on_call D0 hSw); obtain ⟨⟨y0, y1, y2, y3, y4, y5⟩, _⟩ := six_cells (lies.on_call D1 hSw); obtain ⟨⟨z0, z1, z2, z3, z4, z5⟩, _⟩ := six_cells (lies.on_call D4 hSw); have q1 := HQ.out.1 w; have q2 := HQ.out.2 w; go_simp; try with_reducible rfl
  try simp only [Act.put, List.getElem_toArray, List.getElem_cons_zero, List.getElem_cons_succ, List.setIfInBounds_toArray, List.set_cons_zero, List.set_cons_succ]
  refine wpAnyH_done (by kernel_rfl) ?_ _
  have KZ := later DB hHeld
  clear hHeld D0 D1 D2 D3 D4 DB
  go_wp2_with fail
  go_ret
  exact ⟨rfl, KZ⟩

set_option maxRecDepth 100000 in
theorem lifted (os : Os) (started : os.Started) (H : Type) (enc : TypeId × Value → H) :
    ReturnsInHanded {} Tryd.checked os 3 .any (fun w args => (Rows.winNamesSpec.pre enc Tryd.prog Tryd.f3 [] false w args ∧ laidMetH Tryd.prog zopen.places w) ∧ sizedMet enc Tryd.prog Tryd.f3 (OpenSpec.ofChange Rows.winNamesSpec) false w args) (Rows.winNamesSpec.post enc Tryd.prog Tryd.f3 false true false false) := by
  refine returnsInHanded_of_change_and (C := Tryd.checked) (X := fun w _ => laidMetH Tryd.prog zopen.places w) (fun _ _ _ hh h => h.of_heap hh) law.own started (by kernel_rfl) Tryd.func3
    (ChangeSpec.witness_shaped (enc := enc) (C := Tryd.checked) (os := os) (X := fun w _ => laidMetH Tryd.prog zopen.places w) false (World.doorLaid Tryd.prog 400 os) #[] 8 rfl (World.shaped_of_RefB (by kernel_rfl) (by kernel_rfl)) (by kernel_rfl) (by kernel_rfl) (by kernel_rfl) (zopen.door_met os _)) ?_
  intro W base args ds gs before hval0 hW _ _ hL _
  have hW' := hW
  obtain ⟨p, q, hA0, hV, rfl, _, _⟩ := hW
  have hA : DataW.TrodAll enc Tryd.prog W 0 (fun _ => true) true Tryd.f3.params.toList args.toList ds p := hA0
  rw [Tryd.params3] at hA
  obtain ⟨rfl, rfl, rfl⟩ := trodAll_none hA
  refine (walk  W  (zopen.laid_pl hL)).mono fun e W' ⟨he, hB⟩ => ?_
  subst he
  exact ⟨_, rfl, law.post_true law.laidOut (by kernel_rfl) rfl Tryd.underlying4 rfl hW' (fun h => by subst h; rfl) hB⟩

theorem proved : Rows.WinNamesSaid :=
  OpenClaim.holds_of_wide 3 Tryd.f3 rfl rfl rfl rfl rfl rfl rfl ⟨rfl, rfl, rfl, rfl, rfl⟩ rfl rfl rfl rfl rfl (by kernel_rfl) Tryd.func3 (by kernel_rfl)
    (of_decide_eq_true (by kernel_rfl)) (by unfold Func.isWrapper; first | (rw [if_pos (by decide +kernel)]; kernel_rfl) | (rw [if_neg (by decide +kernel)]; exact ⟨rfl, rfl⟩))
    (fun os started H enc _ => lifted os started H enc)
theorem card : Rows.WinNamesCardSaid :=
  Claim7.holds_tied_plain_at .later [] [.data] true (true, "0e35938ca2f85e4d4a747e9ff2f0a86df4808d42b014bcedf4017d6c199ae299") false
    proved (fun _ h => by cases h) (by kernel_rfl) (fun _ h => by cases h) winNames_row_tie rfl ⟨rfl, rfl⟩ (by kernel_rfl) rfl
    (fun f fn hf hfn => by
      obtain rfl : f = 3 := Option.some.inj ((show Tryd.prog.funcNamed "rallentando/rallentandolaw10.WinNames" = some 3 by kernel_rfl).symm.trans hf) |>.symm
      obtain rfl : fn = Tryd.f3 := (Option.some.inj (Tryd.func3.symm.trans hfn)).symm
      exact ⟨by kernel_rfl, fun j t ht => by
        rw [Tryd.params3] at ht
        simp at ht⟩)
    (by kernel_rfl)
#print axioms card
end Go.Proofs.YtcaoooddmmhieaaDoor.winNames
