/-
  ZoneNames answers true; the listed variable reads as the program lays it.
-/
import Derived.Test.YtklejbheieceeaaDoorZoneL
import Derived.Test.YtklejbheieceeaaDoorCards
import Derived.Test.YtklejbheieceeaaDoorTie
import Derived.BigQuiet
namespace Go.Proofs.YtklejbheieceeaaDoor.zoneNames
open Go.Joins Go.ChangeShapes Go.WideShapes Go.ChangeAt Go.RowKit num rat dbm Go.Proofs.YtklejbheieceeaaDoor.tight Go.Proofs.YtklejbheieceeaaDoor.incl Go.Proofs.YtklejbheieceeaaDoor.plaw Go.Proofs.YtklejbheieceeaaDoor.zopen Go.Proofs.YtklejbheieceeaaDoor.zone Go.Proofs.YtklejbheieceeaaDoor.zlaw
open bound hiding up
set_option linter.unusedVariables false
set_option linter.unusedSimpArgs false

theorem pick_is (w : World) (hP : Pl w) : Calls Tryd.prog 10 #[.agg #[.int .i64 4, .int .i64 1, .int .i64 7, .int .i64 (-1), .int .i64 7, .int .i64 0]] w fun e w' => e = .returned (.tuple #[.agg #[.int .i64 0, .int .i64 1, .int .i64 1, .int .i64 1], .int .i64 0]) ∧ Below w.heap.size w w' := by
  refine (zpick_any 4 1 7 (-1) 7 0 w hP some_tops).mono fun e w' h => ?_
  obtain ⟨hB, a, b, c, d, f, rfl, hR⟩ := h
  rcases hR with ⟨n, _⟩ | ⟨_, hps, rfl⟩
  · exact (n some_may).elim
  · have e1 : pks 3 (fullT [4, 1, 7, -1, 7, 0]) = [(0, 1), (1, 1)] := by decide +kernel
    rw [e1] at hps
    injection hps with h1 h2
    injection h1 with h3 h4
    injection h2 with h5 _
    injection h5 with h6 h7
    subst h3 h4 h6 h7
    exact ⟨rfl, hB⟩
theorem meet_is (w : World) (hP : Pl w) : Calls Tryd.prog 11 #[.agg #[.int .i64 4, .int .i64 1, .int .i64 7, .int .i64 (-1), .int .i64 7, .int .i64 0], .agg #[.int .i64 4, .int .i64 1, .int .i64 7, .int .i64 (-1), .int .i64 7, .int .i64 0]] w fun e w' => e = .returned (.tuple #[.agg #[.int .i64 4, .int .i64 1, .int .i64 7, .int .i64 (-1), .int .i64 7, .int .i64 0], .int .i64 0]) ∧ Below w.heap.size w w' := by
  refine (zmeet_any 4 1 7 (-1) 7 0 4 1 7 (-1) 7 0 w hP some_tops some_tops).mono fun e w' h => ?_
  obtain ⟨hB, m0, m1, m2, m3, m4, m5, f, rfl, hR⟩ := h
  have k2 := some_may.2
  have e0 : fullT [4, 1, 7, -1, 7, 0] = [1, 1, -1, 4, 1, 0, 7, 7, 1] := rfl
  have k1 := some_may.1
  have km := some_may.may
  unfold MeetR at hR
  rw [lesT_self, k2] at hR
  rcases hR with ⟨n, _⟩ | ⟨_, _, n, _⟩ | ⟨_, _, _, n, _⟩ | ⟨_, _, _, _, h, rfl⟩
  · exact (n ⟨some_may, some_may⟩).elim
  · exact (n k1).elim
  · exact (n km).elim
  · have e1 : shortT (fullT [4, 1, 7, -1, 7, 0]) = [4, 1, 7, -1, 7, 0] := rfl
    rw [e1] at h
    injection h with h0 h
    injection h with h1 h
    injection h with h2 h
    injection h with h3 h
    injection h with h4 h
    injection h with h5 _
    subst h0 h1 h2 h3 h4 h5
    exact ⟨rfl, hB⟩
theorem make_no : MakeR (5, false, 0, false, true) (0, false, 5, false, false) (0, true, 0, false, true) zero6 6 := by
  have h0 : MayP (5, false, 0, false, true) := ⟨⟨by decide, by decide⟩, .inl ⟨rfl, rfl, rfl⟩⟩
  have h1 : MayP (0, false, 5, false, false) := ⟨⟨by decide, by decide⟩, .inr ⟨rfl, ⟨by decide, by decide⟩, by decide⟩⟩
  have h2 : MayP (0, true, 0, false, true) := ⟨⟨by decide, by decide⟩, .inl ⟨rfl, rfl, rfl⟩⟩
  refine .inr (.inl ⟨h0, h1, h2, fun h => ?_, rfl, rfl⟩)
  have e : tlaw.okB 3 (by decide) (fullT (spanZ (5, false, 0, false, true) (0, false, 5, false, false) (0, true, 0, false, true))) = false := by decide +kernel
  have := (tlaw.okB_iff (m := 3) (by decide) _).2 h
  rw [e] at this
  cases this
theorem made_is (w : World) (hP : Pl w) : Calls Tryd.prog 12 #[.agg #[.int .i64 5, .bool false, .int .i64 0, .bool false, .bool true], .agg #[.int .i64 0, .bool false, .int .i64 5, .bool false, .bool false], .agg #[.int .i64 0, .bool true, .int .i64 0, .bool false, .bool true]] w fun e w' => e = .returned (.tuple #[.agg #[.int .i64 0, .int .i64 0, .int .i64 0, .int .i64 0, .int .i64 0, .int .i64 0], .int .i64 6]) ∧ Below w.heap.size w w' := by
  refine (make_any 5 false 0 false true 0 false 5 false false 0 true 0 false true w hP).mono fun e w' h => ?_
  obtain ⟨hB, m0, m1, m2, m3, m4, m5, f, rfl, hR⟩ := h
  obtain ⟨h, rfl⟩ := make_one make_no hR
  unfold zero6 at h
  injection h with h0 h
  injection h with h1 h
  injection h with h2 h
  injection h with h3 h
  injection h with h4 h
  injection h with h5 _
  subst h0 h1 h2 h3 h4 h5
  exact ⟨rfl, hB⟩
theorem of1_is (g : Nat) (w : World) (hP : Pl w) (hg : lies.Lies w g 22 #[.int .i64 1]) : Calls Tryd.prog 15 #[.agg #[.int .i64 1, .slice (some ⟨g, 0, none⟩) 1 1]] w fun e w' => e = .returned (.tuple #[.agg #[.int .i64 0, .int .i64 0, .int .i64 0, .int .i64 0, .int .i64 0, .int .i64 0], .int .i64 40]) ∧ Below w.heap.size w w' := by
  refine (of_any 1 _ [1] w hP (one_ints hg) (by decide) (one_top (by decide))).mono fun e w' h => ?_
  obtain ⟨hB, m0, m1, m2, m3, m4, m5, f, rfl, hR⟩ := h
  rcases hR with ⟨n, _⟩ | ⟨_, _, h, rfl⟩ | ⟨_, n, _⟩ | ⟨n, _⟩ | ⟨n, _⟩
  · exact (n (by decide)).elim
  · unfold zero6 at h
    injection h with h0 h
    injection h with h1 h
    injection h with h2 h
    injection h with h3 h
    injection h with h4 h
    injection h with h5 _
    subst h0 h1 h2 h3 h4 h5
    exact ⟨rfl, hB⟩
  · exact absurd n (by decide)
  · exact absurd n (by decide)
  · exact absurd n (by decide)
theorem zero_not : ¬ MayZ [0, 0, 0, 0, 0, 0] := fun h => by
  have e : tlaw.okB 3 (by decide) (fullT [0, 0, 0, 0, 0, 0]) = false := by decide +kernel
  have := (tlaw.okB_iff (m := 3) (by decide) _).2 h.1
  rw [e] at this
  cases this
theorem check0_is (w : World) (hP : Pl w) : Calls Tryd.prog 18 #[.agg #[.int .i64 0, .int .i64 0, .int .i64 0, .int .i64 0, .int .i64 0, .int .i64 0]] w fun e w' => e = .returned (.int .i64 8) ∧ Below w.heap.size w w' := by
  refine (check_any 0 0 0 0 0 0 w hP (by unfold Tops; decide)).mono fun e w' h => ?_
  obtain ⟨hB, f, rfl, hR⟩ := h
  rcases hR with ⟨h, _⟩ | ⟨_, rfl⟩
  · exact (zero_not h).elim
  · exact ⟨rfl, hB⟩

set_option maxRecDepth 100000 in
set_option maxHeartbeats 8000000 in
theorem walk (w : World) (hP : Pl w) : Calls Tryd.prog 3 #[] w fun e w' => e = .returned (.bool true) ∧ Below w.heap.size w w' := by
  have P0 := hP
  have DB := Below.refl w.heap.size w
  clear hP
  go_enter Tryd.func3, Tryd.ntmps3
  go_wp2_with fail
  refine (some_is w P0).mono ?_
  rintro e w1 ⟨rfl, hB⟩
  replace P0 := P0.on hB
  replace DB := later DB hB
  clear hB
  go_wp2_with fail
  have hA := bound.up1 w1 (.cells #[.int .i64 4, .int .i64 1, .int .i64 7, .int .i64 (-1), .int .i64 7, .int .i64 0] 24)
  have D0 := lies.made w1 24 #[.int .i64 4, .int .i64 1, .int .i64 7, .int .i64 (-1), .int .i64 7, .int .i64 0]
  replace P0 := P0.on hA
  replace DB := later DB hA
  clear hA
  generalize w1.heap.size = XD0 at D0 ⊢
  generalize w1.alloc (.cells #[.int .i64 4, .int .i64 1, .int .i64 7, .int .i64 (-1), .int .i64 7, .int .i64 0] 24) = w2 at D0 P0 DB ⊢
  refine (pick_is w2 P0).mono ?_
  rintro e w3 ⟨rfl, hB⟩
  replace D0 := lies.on_call D0 hB
  replace P0 := P0.on hB
  replace DB := later DB hB
  clear hB
  obtain ⟨⟨d0_0, d0_1, d0_2, d0_3, d0_4, d0_5⟩, _⟩ := six_cells D0
  have d0_l := lies.lt D0
  go_wp2_with fail
  clear d0_0 d0_1 d0_2 d0_3 d0_4 d0_5 d0_l
  have hA := bound.up1 w3 (.cells #[.int .i64 0, .int .i64 1, .int .i64 1, .int .i64 1] 31)
  have D1 := lies.made w3 31 #[.int .i64 0, .int .i64 1, .int .i64 1, .int .i64 1]
  replace D0 := lies.on_call D0 hA
  replace P0 := P0.on hA
  replace DB := later DB hA
  clear hA
  generalize w3.heap.size = XD1 at D1 ⊢
  generalize w3.alloc (.cells #[.int .i64 0, .int .i64 1, .int .i64 1, .int .i64 1] 31) = w4 at D0 D1 P0 DB ⊢
  refine (meet_is w4 P0).mono ?_
  rintro e w5 ⟨rfl, hB⟩
  replace D0 := lies.on_call D0 hB
  replace D1 := lies.on_call D1 hB
  replace P0 := P0.on hB
  replace DB := later DB hB
  clear hB
  go_wp2_with fail
  have hA := bound.up1 w5 (.cells #[.int .i64 4, .int .i64 1, .int .i64 7, .int .i64 (-1), .int .i64 7, .int .i64 0] 24)
  have D2 := lies.made w5 24 #[.int .i64 4, .int .i64 1, .int .i64 7, .int .i64 (-1), .int .i64 7, .int .i64 0]
  replace D0 := lies.on_call D0 hA
  replace D1 := lies.on_call D1 hA
  replace P0 := P0.on hA
  replace DB := later DB hA
  clear hA
  generalize w5.heap.size = XD2 at D2 ⊢
  generalize w5.alloc (.cells #[.int .i64 4, .int .i64 1, .int .i64 7, .int .i64 (-1), .int .i64 7, .int .i64 0] 24) = w6 at D0 D1 D2 P0 DB ⊢
  refine (from_is 5 false _).mono ?_
  rintro e w7 ⟨rfl, hB⟩
  replace D0 := lies.on_call D0 hB
  replace D1 := lies.on_call D1 hB
  replace D2 := lies.on_call D2 hB
  replace P0 := P0.on hB
  replace DB := later DB hB
  clear hB
  go_wp2_with fail
  refine (up_is 0 5 false _).mono ?_
  rintro e w8 ⟨rfl, hB⟩
  replace D0 := lies.on_call D0 hB
  replace D1 := lies.on_call D1 hB
  replace D2 := lies.on_call D2 hB
  replace P0 := P0.on hB
  replace DB := later DB hB
  clear hB
  go_wp2_with fail
  refine (from_is 0 true _).mono ?_
  rintro e w9 ⟨rfl, hB⟩
  replace D0 := lies.on_call D0 hB
  replace D1 := lies.on_call D1 hB
  replace D2 := lies.on_call D2 hB
  replace P0 := P0.on hB
  replace DB := later DB hB
  clear hB
  go_wp2_with fail
  refine (made_is w9 P0).mono ?_
  rintro e w10 ⟨rfl, hB⟩
  replace D0 := lies.on_call D0 hB
  replace D1 := lies.on_call D1 hB
  replace D2 := lies.on_call D2 hB
  replace P0 := P0.on hB
  replace DB := later DB hB
  clear hB
  go_wp2_with fail
  have X : ∃ w11, w11 = (w10.alloc (.cells #[.int .i64 0, .int .i64 0, .int .i64 0, .int .i64 0, .int .i64 0, .int .i64 0] 24)).alloc (.cells #[.int .i64 1] 22) := ⟨_, rfl⟩
  obtain ⟨w11, hX⟩ := X
  have hB : Below w10.heap.size w10 w11 := by rw [hX]; exact bound.up2 _ _ _
  have G : lies.Lies w11 (w10.heap.size + 1) 22 #[.int .i64 1] := by rw [hX]; exact lies.made_at _ _ _ _ (by simp)
  replace D0 := lies.on_call D0 hB
  replace D1 := lies.on_call D1 hB
  replace D2 := lies.on_call D2 hB
  replace P0 := P0.on hB
  replace DB := later DB hB
  clear hB
  rw [← hX]
  clear hX
  refine (of1_is _ w11 P0 G).mono ?_
  rintro e w12 ⟨rfl, hB⟩
  replace D0 := lies.on_call D0 hB
  replace D1 := lies.on_call D1 hB
  replace D2 := lies.on_call D2 hB
  replace P0 := P0.on hB
  replace DB := later DB hB
  clear hB
  clear G
  go_wp2_with fail
  have hA := bound.up1 w12 (.cells #[.int .i64 0, .int .i64 0, .int .i64 0, .int .i64 0, .int .i64 0, .int .i64 0] 24)
  have D4 := lies.made w12 24 #[.int .i64 0, .int .i64 0, .int .i64 0, .int .i64 0, .int .i64 0, .int .i64 0]
  replace D0 := lies.on_call D0 hA
  replace D1 := lies.on_call D1 hA
  replace D2 := lies.on_call D2 hA
  replace P0 := P0.on hA
  replace DB := later DB hA
  clear hA
  generalize w12.heap.size = XD4 at D4 ⊢
  generalize w12.alloc (.cells #[.int .i64 0, .int .i64 0, .int .i64 0, .int .i64 0, .int .i64 0, .int .i64 0] 24) = w13 at D0 D1 D2 D4 P0 DB ⊢
  have q1 : ∀ W, (Op.equalIn 10000 24 (.agg #[.int .i64 4, .int .i64 1, .int .i64 7, .int .i64 (-1), .int .i64 7, .int .i64 0]) (.agg #[.int .i64 4, .int .i64 1, .int .i64 7, .int .i64 (-1), .int .i64 7, .int .i64 0])).run Tryd.prog W = .ok true W := fun W => by rw [eq_zone]; simp
  have q2 : ∀ W, (Op.equalIn 10000 31 (.agg #[.int .i64 0, .int .i64 1, .int .i64 1, .int .i64 1]) (.agg #[.int .i64 0, .int .i64 1, .int .i64 1, .int .i64 1])).run Tryd.prog W = .ok true W := fun W => by kernel_rfl
  have HQ1 := Lib.hid q1
  have HQ2 := Lib.hid q2
  clear q1 q2
  refine wp_region_held_drew (S := Below w13.heap.size w13) (by kernel_rfl) (dbm.drawn1 (Below.refl _ _)) (fun hHeld => ?_)
  refine wpAnyH_ready (rs := [0]) (by kernel_rfl) (by simp) (AllReadyH.cons rfl (fun K hK => ?_) AllReadyH.nil)
  go_simp
  refine (alive_yes _ (P0.on hHeld)).mono ?_
  rintro e u1 ⟨rfl, hB⟩
  refine hK.out _ _ (hHeld.trans (hB.mono hHeld.size)) (fun hNew => ?_)
  clear hB
  clear hHeld hK K
  have hHeld := hNew
  clear hNew
  try simp only [Act.put, List.getElem_toArray, List.getElem_cons_zero, List.getElem_cons_succ, List.setIfInBounds_toArray, List.set_cons_zero, List.set_cons_succ]
  refine wpAnyH_take (i := 1) (v := ?_) rfl (by kernel_rfl) (by kernel_rfl) (by kernel_rfl) (fun _ _ _ h => h) (Or.inl ⟨by rfl, ?_⟩) hHeld ?_
  rotate_left
  · intro w hSw; have q1 := HQ1.out w; have q2 := HQ2.out w; obtain ⟨⟨x0, x1, x2, x3, x4, x5⟩, _⟩ := six_cells (lies.on_call D0 hSw); obtain ⟨⟨y0, y1, y2, y3⟩, _⟩ := four_cells (lies.on_call D1 hSw); obtain ⟨⟨z0, z1, z2, z3, z4, z5⟩, _⟩ := six_cells (lies.on_call D2 hSw); go_simp; try with_reducible rfl
  try simp only [Act.put, List.getElem_toArray, List.getElem_cons_zero, List.getElem_cons_succ, List.setIfInBounds_toArray, List.set_cons_zero, List.set_cons_succ]
  refine wpAnyH_take (i := 2) (v := ?_) rfl (by kernel_rfl) (by kernel_rfl) (by kernel_rfl) (fun _ _ _ h => h) (Or.inl ⟨by rfl, ?_⟩) hHeld ?_
  rotate_left
  · intro w hSw; have q1 := HQ1.out w; have q2 := HQ2.out w; obtain ⟨⟨x0, x1, x2, x3, x4, x5⟩, _⟩ := six_cells (lies.on_call D0 hSw); obtain ⟨⟨y0, y1, y2, y3⟩, _⟩ := four_cells (lies.on_call D1 hSw); obtain ⟨⟨z0, z1, z2, z3, z4, z5⟩, _⟩ := six_cells (lies.on_call D2 hSw); go_simp; try with_reducible rfl
  try simp only [Act.put, List.getElem_toArray, List.getElem_cons_zero, List.getElem_cons_succ, List.setIfInBounds_toArray, List.set_cons_zero, List.set_cons_succ]
  refine wpAnyH_take (i := 3) (v := ?_) rfl (by kernel_rfl) (by kernel_rfl) (by kernel_rfl) (fun _ _ _ h => h) (Or.inl ⟨by rfl, ?_⟩) hHeld ?_
  rotate_left
  · intro w hSw; have q1 := HQ1.out w; have q2 := HQ2.out w; obtain ⟨⟨x0, x1, x2, x3, x4, x5⟩, _⟩ := six_cells (lies.on_call D0 hSw); obtain ⟨⟨y0, y1, y2, y3⟩, _⟩ := four_cells (lies.on_call D1 hSw); obtain ⟨⟨z0, z1, z2, z3, z4, z5⟩, _⟩ := six_cells (lies.on_call D2 hSw); go_simp; try with_reducible rfl
  try simp only [Act.put, List.getElem_toArray, List.getElem_cons_zero, List.getElem_cons_succ, List.setIfInBounds_toArray, List.set_cons_zero, List.set_cons_succ]
  refine wpAnyH_take (i := 4) (v := ?_) rfl (by kernel_rfl) (by kernel_rfl) (by kernel_rfl) (fun _ _ _ h => h) (Or.inl ⟨by rfl, ?_⟩) hHeld ?_
  rotate_left
  · intro w hSw; have q1 := HQ1.out w; have q2 := HQ2.out w; obtain ⟨⟨x0, x1, x2, x3, x4, x5⟩, _⟩ := six_cells (lies.on_call D0 hSw); obtain ⟨⟨y0, y1, y2, y3⟩, _⟩ := four_cells (lies.on_call D1 hSw); obtain ⟨⟨z0, z1, z2, z3, z4, z5⟩, _⟩ := six_cells (lies.on_call D2 hSw); go_simp; try with_reducible rfl
  try simp only [Act.put, List.getElem_toArray, List.getElem_cons_zero, List.getElem_cons_succ, List.setIfInBounds_toArray, List.set_cons_zero, List.set_cons_succ]
  refine wpAnyH_take (i := 5) (v := ?_) rfl (by kernel_rfl) (by kernel_rfl) (by kernel_rfl) (fun _ _ _ h => h) (Or.inl ⟨by rfl, ?_⟩) hHeld ?_
  rotate_left
  · intro w hSw; have q1 := HQ1.out w; have q2 := HQ2.out w; obtain ⟨⟨x0, x1, x2, x3, x4, x5⟩, _⟩ := six_cells (lies.on_call D0 hSw); obtain ⟨⟨y0, y1, y2, y3⟩, _⟩ := four_cells (lies.on_call D1 hSw); obtain ⟨⟨z0, z1, z2, z3, z4, z5⟩, _⟩ := six_cells (lies.on_call D2 hSw); go_simp; try with_reducible rfl
  try simp only [Act.put, List.getElem_toArray, List.getElem_cons_zero, List.getElem_cons_succ, List.setIfInBounds_toArray, List.set_cons_zero, List.set_cons_succ]
  refine wpAnyH_take (i := 6) (v := ?_) rfl (by kernel_rfl) (by kernel_rfl) (by kernel_rfl) (fun _ _ _ h => h) (Or.inl ⟨by rfl, ?_⟩) hHeld ?_
  rotate_left
  · intro w hSw; have q1 := HQ1.out w; have q2 := HQ2.out w; obtain ⟨⟨x0, x1, x2, x3, x4, x5⟩, _⟩ := six_cells (lies.on_call D0 hSw); obtain ⟨⟨y0, y1, y2, y3⟩, _⟩ := four_cells (lies.on_call D1 hSw); obtain ⟨⟨z0, z1, z2, z3, z4, z5⟩, _⟩ := six_cells (lies.on_call D2 hSw); go_simp; try with_reducible rfl
  try simp only [Act.put, List.getElem_toArray, List.getElem_cons_zero, List.getElem_cons_succ, List.setIfInBounds_toArray, List.set_cons_zero, List.set_cons_succ]
  refine wpAnyH_ready (rs := [7]) (by kernel_rfl) (by simp) (AllReadyH.cons rfl (fun K hK => ?_) AllReadyH.nil)
  go_simp
  refine (at_is 0 2 0 1 1 1 _ (by decide) (by decide) (by decide) (by decide) (by decide +kernel) (by decide +kernel)).mono ?_
  rintro e u2 ⟨rfl, hB⟩
  refine hK.out _ _ (hHeld.trans (hB.mono hHeld.size)) (fun hNew => ?_)
  clear hB
  clear hHeld hK K
  have hHeld := hNew
  clear hNew
  try simp only [Act.put, List.getElem_toArray, List.getElem_cons_zero, List.getElem_cons_succ, List.setIfInBounds_toArray, List.set_cons_zero, List.set_cons_succ]
  refine wpAnyH_take (i := 8) (v := ?_) rfl (by kernel_rfl) (by kernel_rfl) (by kernel_rfl) (fun _ _ _ h => h) (Or.inl ⟨by rfl, ?_⟩) hHeld ?_
  rotate_left
  · intro w hSw; have q1 := HQ1.out w; have q2 := HQ2.out w; obtain ⟨⟨x0, x1, x2, x3, x4, x5⟩, _⟩ := six_cells (lies.on_call D0 hSw); obtain ⟨⟨y0, y1, y2, y3⟩, _⟩ := four_cells (lies.on_call D1 hSw); obtain ⟨⟨z0, z1, z2, z3, z4, z5⟩, _⟩ := six_cells (lies.on_call D2 hSw); go_simp; try with_reducible rfl
  try simp only [Act.put, List.getElem_toArray, List.getElem_cons_zero, List.getElem_cons_succ, List.setIfInBounds_toArray, List.set_cons_zero, List.set_cons_succ]
  refine wpAnyH_take (i := 9) (v := ?_) rfl (by kernel_rfl) (by kernel_rfl) (by kernel_rfl) (fun _ _ _ h => h) (Or.inl ⟨by rfl, ?_⟩) hHeld ?_
  rotate_left
  · intro w hSw; have q1 := HQ1.out w; have q2 := HQ2.out w; obtain ⟨⟨x0, x1, x2, x3, x4, x5⟩, _⟩ := six_cells (lies.on_call D0 hSw); obtain ⟨⟨y0, y1, y2, y3⟩, _⟩ := four_cells (lies.on_call D1 hSw); obtain ⟨⟨z0, z1, z2, z3, z4, z5⟩, _⟩ := six_cells (lies.on_call D2 hSw); go_simp; try with_reducible rfl
  try simp only [Act.put, List.getElem_toArray, List.getElem_cons_zero, List.getElem_cons_succ, List.setIfInBounds_toArray, List.set_cons_zero, List.set_cons_succ]
  refine wpAnyH_take (i := 10) (v := ?_) rfl (by kernel_rfl) (by kernel_rfl) (by kernel_rfl) (fun _ _ _ h => h) (Or.inl ⟨by rfl, ?_⟩) hHeld ?_
  rotate_left
  · intro w hSw; have q1 := HQ1.out w; have q2 := HQ2.out w; obtain ⟨⟨x0, x1, x2, x3, x4, x5⟩, _⟩ := six_cells (lies.on_call D0 hSw); obtain ⟨⟨y0, y1, y2, y3⟩, _⟩ := four_cells (lies.on_call D1 hSw); obtain ⟨⟨z0, z1, z2, z3, z4, z5⟩, _⟩ := six_cells (lies.on_call D2 hSw); go_simp; try with_reducible rfl
  try simp only [Act.put, List.getElem_toArray, List.getElem_cons_zero, List.getElem_cons_succ, List.setIfInBounds_toArray, List.set_cons_zero, List.set_cons_succ]
  refine wpAnyH_take (i := 11) (v := ?_) rfl (by kernel_rfl) (by kernel_rfl) (by kernel_rfl) (fun _ _ _ h => h) (Or.inl ⟨by rfl, ?_⟩) hHeld ?_
  rotate_left
  · intro w hSw; have q1 := HQ1.out w; have q2 := HQ2.out w; obtain ⟨⟨x0, x1, x2, x3, x4, x5⟩, _⟩ := six_cells (lies.on_call D0 hSw); obtain ⟨⟨y0, y1, y2, y3⟩, _⟩ := four_cells (lies.on_call D1 hSw); obtain ⟨⟨z0, z1, z2, z3, z4, z5⟩, _⟩ := six_cells (lies.on_call D2 hSw); go_simp; try with_reducible rfl
  try simp only [Act.put, List.getElem_toArray, List.getElem_cons_zero, List.getElem_cons_succ, List.setIfInBounds_toArray, List.set_cons_zero, List.set_cons_succ]
  refine wpAnyH_take (i := 12) (v := ?_) rfl (by kernel_rfl) (by kernel_rfl) (by kernel_rfl) (fun _ _ _ h => h) (Or.inl ⟨by rfl, ?_⟩) hHeld ?_
  rotate_left
  · intro w hSw; have q1 := HQ1.out w; have q2 := HQ2.out w; obtain ⟨⟨x0, x1, x2, x3, x4, x5⟩, _⟩ := six_cells (lies.on_call D0 hSw); obtain ⟨⟨y0, y1, y2, y3⟩, _⟩ := four_cells (lies.on_call D1 hSw); obtain ⟨⟨z0, z1, z2, z3, z4, z5⟩, _⟩ := six_cells (lies.on_call D2 hSw); go_simp; try with_reducible rfl
  try simp only [Act.put, List.getElem_toArray, List.getElem_cons_zero, List.getElem_cons_succ, List.setIfInBounds_toArray, List.set_cons_zero, List.set_cons_succ]
  refine wpAnyH_take (i := 13) (v := ?_) rfl (by kernel_rfl) (by kernel_rfl) (by kernel_rfl) (fun _ _ _ h => h) (Or.inl ⟨by rfl, ?_⟩) hHeld ?_
  rotate_left
  · intro w hSw; have q1 := HQ1.out w; have q2 := HQ2.out w; obtain ⟨⟨x0, x1, x2, x3, x4, x5⟩, _⟩ := six_cells (lies.on_call D0 hSw); obtain ⟨⟨y0, y1, y2, y3⟩, _⟩ := four_cells (lies.on_call D1 hSw); obtain ⟨⟨z0, z1, z2, z3, z4, z5⟩, _⟩ := six_cells (lies.on_call D2 hSw); go_simp; try with_reducible rfl
  try simp only [Act.put, List.getElem_toArray, List.getElem_cons_zero, List.getElem_cons_succ, List.setIfInBounds_toArray, List.set_cons_zero, List.set_cons_succ]
  refine wpAnyH_take (i := 14) (v := ?_) rfl (by kernel_rfl) (by kernel_rfl) (by kernel_rfl) (fun _ _ _ h => h) (Or.inl ⟨by rfl, ?_⟩) hHeld ?_
  rotate_left
  · intro w hSw; have q1 := HQ1.out w; have q2 := HQ2.out w; obtain ⟨⟨x0, x1, x2, x3, x4, x5⟩, _⟩ := six_cells (lies.on_call D0 hSw); obtain ⟨⟨y0, y1, y2, y3⟩, _⟩ := four_cells (lies.on_call D1 hSw); obtain ⟨⟨z0, z1, z2, z3, z4, z5⟩, _⟩ := six_cells (lies.on_call D2 hSw); go_simp; try with_reducible rfl
  try simp only [Act.put, List.getElem_toArray, List.getElem_cons_zero, List.getElem_cons_succ, List.setIfInBounds_toArray, List.set_cons_zero, List.set_cons_succ]
  refine wpAnyH_take (i := 15) (v := ?_) rfl (by kernel_rfl) (by kernel_rfl) (by kernel_rfl) (fun _ _ _ h => h) (Or.inl ⟨by rfl, ?_⟩) hHeld ?_
  rotate_left
  · intro w hSw; have q1 := HQ1.out w; have q2 := HQ2.out w; obtain ⟨⟨x0, x1, x2, x3, x4, x5⟩, _⟩ := six_cells (lies.on_call D0 hSw); obtain ⟨⟨y0, y1, y2, y3⟩, _⟩ := four_cells (lies.on_call D1 hSw); obtain ⟨⟨z0, z1, z2, z3, z4, z5⟩, _⟩ := six_cells (lies.on_call D2 hSw); go_simp; try with_reducible rfl
  try simp only [Act.put, List.getElem_toArray, List.getElem_cons_zero, List.getElem_cons_succ, List.setIfInBounds_toArray, List.set_cons_zero, List.set_cons_succ]
  refine wpAnyH_take (i := 16) (v := ?_) rfl (by kernel_rfl) (by kernel_rfl) (by kernel_rfl) (fun _ _ _ h => h) (Or.inl ⟨by rfl, ?_⟩) hHeld ?_
  rotate_left
  · intro w hSw; have q1 := HQ1.out w; have q2 := HQ2.out w; obtain ⟨⟨x0, x1, x2, x3, x4, x5⟩, _⟩ := six_cells (lies.on_call D0 hSw); obtain ⟨⟨y0, y1, y2, y3⟩, _⟩ := four_cells (lies.on_call D1 hSw); obtain ⟨⟨z0, z1, z2, z3, z4, z5⟩, _⟩ := six_cells (lies.on_call D2 hSw); go_simp; try with_reducible rfl
  try simp only [Act.put, List.getElem_toArray, List.getElem_cons_zero, List.getElem_cons_succ, List.setIfInBounds_toArray, List.set_cons_zero, List.set_cons_succ]
  refine wpAnyH_take (i := 17) (v := ?_) rfl (by kernel_rfl) (by kernel_rfl) (by kernel_rfl) (fun _ _ _ h => h) (Or.inl ⟨by rfl, ?_⟩) hHeld ?_
  rotate_left
  · intro w hSw; have q1 := HQ1.out w; have q2 := HQ2.out w; obtain ⟨⟨x0, x1, x2, x3, x4, x5⟩, _⟩ := six_cells (lies.on_call D0 hSw); obtain ⟨⟨y0, y1, y2, y3⟩, _⟩ := four_cells (lies.on_call D1 hSw); obtain ⟨⟨z0, z1, z2, z3, z4, z5⟩, _⟩ := six_cells (lies.on_call D2 hSw); go_simp; try with_reducible rfl
  try simp only [Act.put, List.getElem_toArray, List.getElem_cons_zero, List.getElem_cons_succ, List.setIfInBounds_toArray, List.set_cons_zero, List.set_cons_succ]
  refine wpAnyH_take (i := 18) (v := ?_) rfl (by kernel_rfl) (by kernel_rfl) (by kernel_rfl) (fun _ _ _ h => h) (Or.inl ⟨by rfl, ?_⟩) hHeld ?_
  rotate_left
  · intro w hSw; have q1 := HQ1.out w; have q2 := HQ2.out w; obtain ⟨⟨x0, x1, x2, x3, x4, x5⟩, _⟩ := six_cells (lies.on_call D0 hSw); obtain ⟨⟨y0, y1, y2, y3⟩, _⟩ := four_cells (lies.on_call D1 hSw); obtain ⟨⟨z0, z1, z2, z3, z4, z5⟩, _⟩ := six_cells (lies.on_call D2 hSw); go_simp; try with_reducible rfl
  try simp only [Act.put, List.getElem_toArray, List.getElem_cons_zero, List.getElem_cons_succ, List.setIfInBounds_toArray, List.set_cons_zero, List.set_cons_succ]
  refine wpAnyH_take (i := 19) (v := ?_) rfl (by kernel_rfl) (by kernel_rfl) (by kernel_rfl) (fun _ _ _ h => h) (Or.inl ⟨by rfl, ?_⟩) hHeld ?_
  rotate_left
  · intro w hSw; have q1 := HQ1.out w; have q2 := HQ2.out w; obtain ⟨⟨x0, x1, x2, x3, x4, x5⟩, _⟩ := six_cells (lies.on_call D0 hSw); obtain ⟨⟨y0, y1, y2, y3⟩, _⟩ := four_cells (lies.on_call D1 hSw); obtain ⟨⟨z0, z1, z2, z3, z4, z5⟩, _⟩ := six_cells (lies.on_call D2 hSw); go_simp; try with_reducible rfl
  try simp only [Act.put, List.getElem_toArray, List.getElem_cons_zero, List.getElem_cons_succ, List.setIfInBounds_toArray, List.set_cons_zero, List.set_cons_succ]
  refine wpAnyH_take (i := 20) (v := ?_) rfl (by kernel_rfl) (by kernel_rfl) (by kernel_rfl) (fun _ _ _ h => h) (Or.inl ⟨by rfl, ?_⟩) hHeld ?_
  rotate_left
  · intro w hSw; have q1 := HQ1.out w; have q2 := HQ2.out w; obtain ⟨⟨x0, x1, x2, x3, x4, x5⟩, _⟩ := six_cells (lies.on_call D0 hSw); obtain ⟨⟨y0, y1, y2, y3⟩, _⟩ := four_cells (lies.on_call D1 hSw); obtain ⟨⟨z0, z1, z2, z3, z4, z5⟩, _⟩ := six_cells (lies.on_call D2 hSw); go_simp; try with_reducible rfl
  try simp only [Act.put, List.getElem_toArray, List.getElem_cons_zero, List.getElem_cons_succ, List.setIfInBounds_toArray, List.set_cons_zero, List.set_cons_succ]
  refine wpAnyH_take (i := 21) (v := ?_) rfl (by kernel_rfl) (by kernel_rfl) (by kernel_rfl) (fun _ _ _ h => h) (Or.inl ⟨by rfl, ?_⟩) hHeld ?_
  rotate_left
  · intro w hSw; have q1 := HQ1.out w; have q2 := HQ2.out w; obtain ⟨⟨x0, x1, x2, x3, x4, x5⟩, _⟩ := six_cells (lies.on_call D0 hSw); obtain ⟨⟨y0, y1, y2, y3⟩, _⟩ := four_cells (lies.on_call D1 hSw); obtain ⟨⟨z0, z1, z2, z3, z4, z5⟩, _⟩ := six_cells (lies.on_call D2 hSw); go_simp; try with_reducible rfl
  try simp only [Act.put, List.getElem_toArray, List.getElem_cons_zero, List.getElem_cons_succ, List.setIfInBounds_toArray, List.set_cons_zero, List.set_cons_succ]
  refine wpAnyH_take (i := 22) (v := ?_) rfl (by kernel_rfl) (by kernel_rfl) (by kernel_rfl) (fun _ _ _ h => h) (Or.inl ⟨by rfl, ?_⟩) hHeld ?_
  rotate_left
  · intro w hSw; have q1 := HQ1.out w; have q2 := HQ2.out w; obtain ⟨⟨x0, x1, x2, x3, x4, x5⟩, _⟩ := six_cells (lies.on_call D0 hSw); obtain ⟨⟨y0, y1, y2, y3⟩, _⟩ := four_cells (lies.on_call D1 hSw); obtain ⟨⟨z0, z1, z2, z3, z4, z5⟩, _⟩ := six_cells (lies.on_call D2 hSw); go_simp; try with_reducible rfl
  try simp only [Act.put, List.getElem_toArray, List.getElem_cons_zero, List.getElem_cons_succ, List.setIfInBounds_toArray, List.set_cons_zero, List.set_cons_succ]
  refine wpAnyH_take (i := 23) (v := ?_) rfl (by kernel_rfl) (by kernel_rfl) (by kernel_rfl) (fun _ _ _ h => h) (Or.inl ⟨by rfl, ?_⟩) hHeld ?_
  rotate_left
  · intro w hSw; have q1 := HQ1.out w; have q2 := HQ2.out w; obtain ⟨⟨x0, x1, x2, x3, x4, x5⟩, _⟩ := six_cells (lies.on_call D0 hSw); obtain ⟨⟨y0, y1, y2, y3⟩, _⟩ := four_cells (lies.on_call D1 hSw); obtain ⟨⟨z0, z1, z2, z3, z4, z5⟩, _⟩ := six_cells (lies.on_call D2 hSw); go_simp; try with_reducible rfl
  try simp only [Act.put, List.getElem_toArray, List.getElem_cons_zero, List.getElem_cons_succ, List.setIfInBounds_toArray, List.set_cons_zero, List.set_cons_succ]
  refine wpAnyH_take (i := 24) (v := ?_) rfl (by kernel_rfl) (by kernel_rfl) (by kernel_rfl) (fun _ _ _ h => h) (Or.inl ⟨by rfl, ?_⟩) hHeld ?_
  rotate_left
  · intro w hSw; have q1 := HQ1.out w; have q2 := HQ2.out w; obtain ⟨⟨x0, x1, x2, x3, x4, x5⟩, _⟩ := six_cells (lies.on_call D0 hSw); obtain ⟨⟨y0, y1, y2, y3⟩, _⟩ := four_cells (lies.on_call D1 hSw); obtain ⟨⟨z0, z1, z2, z3, z4, z5⟩, _⟩ := six_cells (lies.on_call D2 hSw); go_simp; try with_reducible rfl
  try simp only [Act.put, List.getElem_toArray, List.getElem_cons_zero, List.getElem_cons_succ, List.setIfInBounds_toArray, List.set_cons_zero, List.set_cons_succ]
  refine wpAnyH_take (i := 25) (v := ?_) rfl (by kernel_rfl) (by kernel_rfl) (by kernel_rfl) (fun _ _ _ h => h) (Or.inl ⟨by rfl, ?_⟩) hHeld ?_
  rotate_left
  · intro w hSw; have q1 := HQ1.out w; have q2 := HQ2.out w; obtain ⟨⟨x0, x1, x2, x3, x4, x5⟩, _⟩ := six_cells (lies.on_call D0 hSw); obtain ⟨⟨y0, y1, y2, y3⟩, _⟩ := four_cells (lies.on_call D1 hSw); obtain ⟨⟨z0, z1, z2, z3, z4, z5⟩, _⟩ := six_cells (lies.on_call D2 hSw); go_simp; try with_reducible rfl
  try simp only [Act.put, List.getElem_toArray, List.getElem_cons_zero, List.getElem_cons_succ, List.setIfInBounds_toArray, List.set_cons_zero, List.set_cons_succ]
  refine wpAnyH_take (i := 26) (v := ?_) rfl (by kernel_rfl) (by kernel_rfl) (by kernel_rfl) (fun _ _ _ h => h) (Or.inl ⟨by rfl, ?_⟩) hHeld ?_
  rotate_left
  · intro w hSw; have q1 := HQ1.out w; have q2 := HQ2.out w; obtain ⟨⟨x0, x1, x2, x3, x4, x5⟩, _⟩ := six_cells (lies.on_call D0 hSw); obtain ⟨⟨y0, y1, y2, y3⟩, _⟩ := four_cells (lies.on_call D1 hSw); obtain ⟨⟨z0, z1, z2, z3, z4, z5⟩, _⟩ := six_cells (lies.on_call D2 hSw); go_simp; try with_reducible rfl
  try simp only [Act.put, List.getElem_toArray, List.getElem_cons_zero, List.getElem_cons_succ, List.setIfInBounds_toArray, List.set_cons_zero, List.set_cons_succ]
  refine wpAnyH_take (i := 27) (v := ?_) rfl (by kernel_rfl) (by kernel_rfl) (by kernel_rfl) (fun _ _ _ h => h) (Or.inl ⟨by rfl, ?_⟩) hHeld ?_
  rotate_left
  · intro w hSw; have q1 := HQ1.out w; have q2 := HQ2.out w; obtain ⟨⟨x0, x1, x2, x3, x4, x5⟩, _⟩ := six_cells (lies.on_call D0 hSw); obtain ⟨⟨y0, y1, y2, y3⟩, _⟩ := four_cells (lies.on_call D1 hSw); obtain ⟨⟨z0, z1, z2, z3, z4, z5⟩, _⟩ := six_cells (lies.on_call D2 hSw); go_simp; try with_reducible rfl
  try simp only [Act.put, List.getElem_toArray, List.getElem_cons_zero, List.getElem_cons_succ, List.setIfInBounds_toArray, List.set_cons_zero, List.set_cons_succ]
  refine wpAnyH_take (i := 28) (v := ?_) rfl (by kernel_rfl) (by kernel_rfl) (by kernel_rfl) (fun _ _ _ h => h) (Or.inl ⟨by rfl, ?_⟩) hHeld ?_
  rotate_left
  · intro w hSw; have q1 := HQ1.out w; have q2 := HQ2.out w; obtain ⟨⟨x0, x1, x2, x3, x4, x5⟩, _⟩ := six_cells (lies.on_call D0 hSw); obtain ⟨⟨y0, y1, y2, y3⟩, _⟩ := four_cells (lies.on_call D1 hSw); obtain ⟨⟨z0, z1, z2, z3, z4, z5⟩, _⟩ := six_cells (lies.on_call D2 hSw); go_simp; try with_reducible rfl
  try simp only [Act.put, List.getElem_toArray, List.getElem_cons_zero, List.getElem_cons_succ, List.setIfInBounds_toArray, List.set_cons_zero, List.set_cons_succ]
  refine wpAnyH_ready (rs := [29]) (by kernel_rfl) (by simp) (AllReadyH.cons rfl (fun K hK => ?_) AllReadyH.nil)
  go_simp
  refine (check0_is _ (P0.on hHeld)).mono ?_
  rintro e u3 ⟨rfl, hB⟩
  refine hK.out _ _ (hHeld.trans (hB.mono hHeld.size)) (fun hNew => ?_)
  clear hB
  clear hHeld hK K
  have hHeld := hNew
  clear hNew
  try simp only [Act.put, List.getElem_toArray, List.getElem_cons_zero, List.getElem_cons_succ, List.setIfInBounds_toArray, List.set_cons_zero, List.set_cons_succ]
  refine wpAnyH_take (i := 30) (v := ?_) rfl (by kernel_rfl) (by kernel_rfl) (by kernel_rfl) (fun _ _ _ h => h) (Or.inl ⟨by rfl, ?_⟩) hHeld ?_
  rotate_left
  · intro w hSw; skip; go_simp; try with_reducible rfl
  try simp only [Act.put, List.getElem_toArray, List.getElem_cons_zero, List.getElem_cons_succ, List.setIfInBounds_toArray, List.set_cons_zero, List.set_cons_succ]
  refine wpAnyH_take (i := 31) (v := ?_) rfl (by kernel_rfl) (by kernel_rfl) (by kernel_rfl) (fun _ _ _ h => h) (Or.inl ⟨by rfl, ?_⟩) hHeld ?_
  rotate_left
  · intro w hSw; skip; go_simp; try with_reducible rfl
  try simp only [Act.put, List.getElem_toArray, List.getElem_cons_zero, List.getElem_cons_succ, List.setIfInBounds_toArray, List.set_cons_zero, List.set_cons_succ]
  refine wpAnyH_take (i := 32) (v := ?_) rfl (by kernel_rfl) (by kernel_rfl) (by kernel_rfl) (fun _ _ _ h => h) (Or.inl ⟨by rfl, ?_⟩) hHeld ?_
  rotate_left
  · intro w hSw; skip; go_simp; try with_reducible rfl
  try simp only [Act.put, List.getElem_toArray, List.getElem_cons_zero, List.getElem_cons_succ, List.setIfInBounds_toArray, List.set_cons_zero, List.set_cons_succ]
  refine wpAnyH_done (by kernel_rfl) ?_ _
  have KZ := later DB hHeld
  clear hHeld D0 D1 D2 D4 DB
  go_wp2_with fail
  go_ret
  exact ⟨rfl, KZ⟩

set_option maxRecDepth 100000 in
theorem lifted (os : Os) (started : os.Started) (H : Type) (enc : TypeId × Value → H) :
    ReturnsInHanded {} Tryd.checked os 3 .any (fun w args => (Rows.zoneNamesSpec.pre enc Tryd.prog Tryd.f3 [] false w args ∧ laidMetH Tryd.prog zopen.places w) ∧ sizedMet enc Tryd.prog Tryd.f3 (OpenSpec.ofChange Rows.zoneNamesSpec) false w args) (Rows.zoneNamesSpec.post enc Tryd.prog Tryd.f3 false true false false) := by
  refine returnsInHanded_of_change_and (C := Tryd.checked) (X := fun w _ => laidMetH Tryd.prog zopen.places w) (fun _ _ _ hh h => h.of_heap hh) law.own started (by kernel_rfl) Tryd.func3
    (ChangeSpec.witness_shaped (enc := enc) (C := Tryd.checked) (os := os) (X := fun w _ => laidMetH Tryd.prog zopen.places w) false (World.doorLaid Tryd.prog 400 os) #[] 8 rfl (World.shaped_of_RefB (by kernel_rfl) (by kernel_rfl)) (by kernel_rfl) (by kernel_rfl) (by kernel_rfl) (zopen.door_met os _)) ?_
  intro W base args ds gs before hval0 hW _ _ hL _
  have hW' := hW
  obtain ⟨p, q, hA0, hV, rfl, _, _⟩ := hW
  have hA : DataW.TrodAll enc Tryd.prog W 0 (fun _ => true) true Tryd.f3.params.toList args.toList ds p := hA0
  rw [Tryd.params3] at hA
  obtain ⟨rfl, rfl, rfl⟩ := trodAll_none hA
  refine (walk  W  (zopen.laid_pl hL)).mono fun e W' ⟨he, hB⟩ => ?_
  subst he
  exact ⟨_, rfl, law.post_true law.laidOut (by kernel_rfl) rfl Tryd.underlying4 rfl hW' (fun h => by subst h; rfl) hB⟩

theorem proved : Rows.ZoneNamesSaid :=
  OpenClaim.holds_of_wide 3 Tryd.f3 rfl rfl rfl rfl rfl rfl rfl ⟨rfl, rfl, rfl, rfl, rfl⟩ rfl rfl rfl rfl rfl (by kernel_rfl) Tryd.func3 (by kernel_rfl)
    (of_decide_eq_true (by kernel_rfl)) (by unfold Func.isWrapper; first | (rw [if_pos (by decide +kernel)]; kernel_rfl) | (rw [if_neg (by decide +kernel)]; exact ⟨rfl, rfl⟩))
    (fun os started H enc _ => lifted os started H enc)
theorem card : Rows.ZoneNamesCardSaid :=
  Claim7.holds_tied_plain_at .later [] [.data] true (true, "4be1debb0f09659e5460b97b458758f1449b4fc9791f7bbbc4af352f36ab9380") false
    proved (fun _ h => by cases h) (by kernel_rfl) (fun _ h => by cases h) zoneNames_row_tie rfl ⟨rfl, rfl⟩ (by kernel_rfl) rfl
    (fun f fn hf hfn => by
      obtain rfl : f = 3 := Option.some.inj ((show Tryd.prog.funcNamed "rallentando/rallentandolaw08.ZoneNames" = some 3 by kernel_rfl).symm.trans hf) |>.symm
      obtain rfl : fn = Tryd.f3 := (Option.some.inj (Tryd.func3.symm.trans hfn)).symm
      exact ⟨by kernel_rfl, fun j t ht => by
        rw [Tryd.params3] at ht
        simp at ht⟩)
    (by kernel_rfl)
#print axioms card
end Go.Proofs.YtklejbheieceeaaDoor.zoneNames
