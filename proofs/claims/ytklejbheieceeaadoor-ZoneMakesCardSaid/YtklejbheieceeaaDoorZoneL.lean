/-
  What the laws of layer 8 share: the chapter's zone, points in halves, and its first examples; each theorem names its conditions.
-/
import Derived.Test.YtklejbheieceeaaDoorZoneI
import Derived.Test.YtklejbheieceeaaDoorZoneG
import Derived.Test.YtklejbheieceeaaDoorZoneC
import Derived.Test.YtklejbheieceeaaDoorRatC
import Derived.Test.YtklejbheieceeaaDoorZoneQ
namespace Go.Proofs.YtklejbheieceeaaDoor.zlaw
open Go.Joins Go.ChangeShapes Go.WideShapes Go.ChangeAt Go.RowKit num rat dbm Go.Proofs.YtklejbheieceeaaDoor.tight Go.Proofs.YtklejbheieceeaaDoor.incl Go.Proofs.YtklejbheieceeaaDoor.plaw Go.Proofs.YtklejbheieceeaaDoor.zopen Go.Proofs.YtklejbheieceeaaDoor.zone
open bound hiding up
set_option linter.unusedVariables false
set_option linter.unusedSimpArgs false

theorem from_is (n : Int) (s : Bool) (w : World) : Calls Tryd.prog 13 #[.int .i64 n, .bool s] w fun e w' => e = .returned (.agg #[.int .i64 n, .bool s, .int .i64 0, .bool false, .bool true]) ∧ Below w.heap.size w w' := by
  go_enter Tryd.func13, Tryd.ntmps13
  go_wp2_with fail
  exact bodyPost_ret (v := .agg #[.int .i64 n, .bool s, .int .i64 0, .bool false, .bool true]) (by simp [results, Tryd.results13, go_sem]) rfl ⟨rfl, bound.up1 _ _⟩
theorem up_is (n m : Int) (s : Bool) (w : World) : Calls Tryd.prog 14 #[.int .i64 n, .int .i64 m, .bool s] w fun e w' => e = .returned (.agg #[.int .i64 n, .bool false, .int .i64 m, .bool s, .bool false]) ∧ Below w.heap.size w w' := by
  go_enter Tryd.func14, Tryd.ntmps14
  go_wp2_with fail
  exact bodyPost_ret (v := .agg #[.int .i64 n, .bool false, .int .i64 m, .bool s, .bool false]) (by simp [results, Tryd.results14, go_sem]) rfl ⟨rfl, bound.up1 _ _⟩
theorem of_told (n d P Q E : Int) (w : World) (n1 : -9223372036854775808 ≤ n) (n2 : n ≤ 9223372036854775807) (d2 : d ≤ 9223372036854775807) (h : ofN n d = P ∧ ofD n d = Q ∧ ofE n d = E) : Calls Tryd.prog 33 #[.int .i64 n, .int .i64 d] w fun e w' => e = .returned (.tuple #[.agg #[.int .i64 (P), .int .i64 (Q)], .int .i64 E]) ∧ Below w.heap.size w w' := by
  obtain ⟨rfl, rfl, rfl⟩ := h
  exact of3_any n d w n1 n2 d2
set_option maxRecDepth 100000 in
theorem at_is (t u a b c d : Int) (w : World) (t1 : -9223372036854775808 ≤ t) (t2 : t ≤ 9223372036854775807) (u1 : -9223372036854775808 ≤ u) (u2 : u ≤ 9223372036854775807) (h : ofN t 2 = a ∧ ofD t 2 = b ∧ ofE t 2 = 0) (k : ofN u 2 = c ∧ ofD u 2 = d ∧ ofE u 2 = 0) :
    Calls Tryd.prog 17 #[.int .i64 t, .int .i64 u] w fun e w' => e = .returned (.agg #[.int .i64 a, .int .i64 b, .int .i64 c, .int .i64 d]) ∧ Below w.heap.size w w' := by
  have C1 := Lib.hid (fun w => of_told t 2 a b 0 w t1 t2 (by omega) h)
  have C2 := Lib.hid (fun w => of_told u 2 c d 0 w u1 u2 (by omega) k)
  have D0 := lies.made w 31 #[.int .i64 0, .int .i64 0, .int .i64 0, .int .i64 0]
  have DB := bound.up1 w (.cells #[.int .i64 0, .int .i64 0, .int .i64 0, .int .i64 0] 31)
  clear h k
  go_enter Tryd.func17, Tryd.ntmps17
  go_wp2_with fail
  refine (C1.out _).mono ?_
  rintro e w1 ⟨rfl, hB⟩
  have E0 := lies.on_call D0 hB
  have EB := later DB hB
  clear hB D0 DB
  go_wp2_with fail
  have E1 := lies.made w1 29 #[.int .i64 a, .int .i64 b]
  have F0 := lies.on_alloc E0 (.cells #[.int .i64 a, .int .i64 b] 29)
  have FB := lies.frame_up EB (.cells #[.int .i64 a, .int .i64 b] 29)
  clear E0 EB
  generalize w1.heap.size = A at E1 ⊢
  generalize w1.alloc (.cells #[.int .i64 a, .int .i64 b] 29) = w2 at E1 F0 FB ⊢
  refine (C2.out _).mono ?_
  rintro e w3 ⟨rfl, hB⟩
  have G0 := lies.on_call F0 hB
  have G1 := lies.on_call E1 hB
  have GB := later FB hB
  clear hB F0 E1 FB
  obtain ⟨⟨x0, x1, x2, x3⟩, ⟨y0, y1, y2, y3⟩, xl⟩ := four_cells G0
  obtain ⟨z0, z1, z2, z3, z4⟩ := lies.two G1
  go_wp2_with fail
  exact bodyPost_ret (v := .agg #[.int .i64 a, .int .i64 b, .int .i64 c, .int .i64 d]) (by simp [results, Tryd.results17, go_sem, x0, x1, x2, x3, xl]) rfl ⟨rfl, lies.frame_up (put_four GB (Nat.le_refl _) _ _ _ _) _⟩

theorem make_some : MakeR (0, false, 2, true, false) (1, false, 3, false, false) (0, true, 0, false, true) [4, 1, 7, -1, 7, 0] 0 := by
  have h0 : MayP (0, false, 2, true, false) := ⟨⟨by decide, by decide⟩, .inr ⟨rfl, ⟨by decide, by decide⟩, by decide⟩⟩
  have h1 : MayP (1, false, 3, false, false) := ⟨⟨by decide, by decide⟩, .inr ⟨rfl, ⟨by decide, by decide⟩, by decide⟩⟩
  have h2 : MayP (0, true, 0, false, true) := ⟨⟨by decide, by decide⟩, .inl ⟨rfl, rfl, rfl⟩⟩
  have e : fullT (spanZ (0, false, 2, true, false) (1, false, 3, false, false) (0, true, 0, false, true)) = [1, 1, -1, 4, 1, 0, 7, 9223372036854775807, 1] := by decide +kernel
  have := tlaw.ok_cl (m := 3) (by decide) (ts := [1, 1, -1, 4, 1, 0, 7, 9223372036854775807, 1]) (us := [1, 1, -1, 4, 1, 0, 7, 7, 1]) (by decide +kernel) (by decide +kernel)
  obtain ⟨k1, k2⟩ := this
  have k1 : OkD 3 [1, 1, -1, 4, 1, 0, 7, 9223372036854775807, 1] := k1
  have k2 : clT 3 [1, 1, -1, 4, 1, 0, 7, 9223372036854775807, 1] = [1, 1, -1, 4, 1, 0, 7, 7, 1] := k2
  unfold MakeR
  rw [e, k2]
  exact .inr (.inr (.inr ⟨h0, h1, h2, k1, by decide, rfl, rfl⟩))
theorem make_one {s t d : Sp} {z z' : List Int} {f f' : Int} (h : MakeR s t d z f) (k : MakeR s t d z' f') : z' = z ∧ f' = f := by
  rcases h with ⟨a, rfl, rfl⟩ | ⟨a, b, c, g, rfl, rfl⟩ | ⟨a, b, c, g, m, rfl, rfl⟩ | ⟨a, b, c, g, m, hz, rfl⟩ <;> rcases k with ⟨a', rfl, rfl⟩ | ⟨a', b', c', g', rfl, rfl⟩ | ⟨a', b', c', g', m', rfl, rfl⟩ | ⟨a', b', c', g', m', hz', rfl⟩
  all_goals first | exact ⟨rfl, rfl⟩ | exact (a ⟨a', b', c'⟩).elim | exact (a' ⟨a, b, c⟩).elim | exact (g g').elim | exact (g' g).elim | exact (m m').elim | exact (m' m).elim | exact ⟨hz'.trans hz.symm, rfl⟩
set_option maxRecDepth 100000 in
set_option maxHeartbeats 2000000 in
theorem some_is (w : World) (hP : Pl w) : Calls Tryd.prog 9 #[] w fun e w' => e = .returned (.tuple #[.agg #[.int .i64 4, .int .i64 1, .int .i64 7, .int .i64 (-1), .int .i64 7, .int .i64 0], .int .i64 0]) ∧ Below w.heap.size w w' := by
  have D0 := lies.made w 24 #[.int .i64 0, .int .i64 0, .int .i64 0, .int .i64 0, .int .i64 0, .int .i64 0]
  have DB := bound.up1 w (.cells #[.int .i64 0, .int .i64 0, .int .i64 0, .int .i64 0, .int .i64 0, .int .i64 0] 24)
  have HP := Lib.hid hP
  clear hP
  go_enter Tryd.func9, Tryd.ntmps9
  go_wp2_with fail
  refine (up_is 0 2 true _).mono ?_
  rintro e w1 ⟨rfl, hB⟩
  replace D0 := lies.on_call D0 hB
  replace DB := later DB hB
  clear hB
  go_wp2_with fail
  refine (up_is 1 3 false _).mono ?_
  rintro e w2 ⟨rfl, hB⟩
  replace D0 := lies.on_call D0 hB
  replace DB := later DB hB
  clear hB
  go_wp2_with fail
  refine (from_is 0 true _).mono ?_
  rintro e w3 ⟨rfl, hB⟩
  replace D0 := lies.on_call D0 hB
  replace DB := later DB hB
  clear hB
  go_wp2_with fail
  refine (make_any 0 false 2 true false 1 false 3 false false 0 true 0 false true _ (HP.out.on DB)).mono ?_
  rintro e w4 ⟨hB, z0, z1, z2, z3, z4, z5, f, rfl, hM⟩
  obtain ⟨e1, rfl⟩ := make_one make_some hM
  injection e1 with e0 e1
  injection e1 with e1 e2
  injection e2 with e2 e3
  injection e3 with e3 e4
  injection e4 with e4 e5
  injection e5 with e5 _
  subst e0 e1 e2 e3 e4 e5
  replace D0 := lies.on_call D0 hB
  replace DB := later DB hB
  clear hB hM
  obtain ⟨⟨x0, x1, x2, x3, x4, x5⟩, ⟨y0, y1, y2, y3, y4, y5⟩, xl⟩ := six_cells D0
  go_wp2_with fail
  exact bodyPost_ret (v := .tuple #[.agg #[.int .i64 4, .int .i64 1, .int .i64 7, .int .i64 (-1), .int .i64 7, .int .i64 0], .int .i64 0]) (by simp [results, Tryd.results9, go_sem, x0, x1, x2, x3, x4, x5, xl]) rfl ⟨rfl, put_six DB (Nat.le_refl _) _ _ _ _ _ _⟩

/-- the chapter's zone. -/
theorem some_may : MayZ [4, 1, 7, -1, 7, 0] := by
  obtain ⟨k1, k2⟩ := tlaw.ok_cl (m := 3) (by decide) (ts := [1, 1, -1, 4, 1, 0, 7, 7, 1]) (us := [1, 1, -1, 4, 1, 0, 7, 7, 1]) (by decide +kernel) (by decide +kernel)
  exact ⟨k1, k2⟩
theorem some_tops : Tops [4, 1, 7, -1, 7, 0] := by unfold Tops; decide
theorem kept_dec {z : List Int} {a b c d : Int} {r : Bool} (h : MayR a b) (k : MayR c d) (he : (kpV a b 0 1 (z[0]?.getD 0) && kpV 0 1 a b (z[1]?.getD 0) && kpV c d 0 1 (z[2]?.getD 0) && kpV 0 1 c d (z[3]?.getD 0) && kpV c d a b (z[4]?.getD 0) && kpV a b c d (z[5]?.getD 0)) = r) {q : Bool} (hq : q = true ↔ keptAll 3 (fullT z) [(0, 1), (a, b), (c, d)]) : q = r := by
  rw [kept_six h k] at hq
  rw [← he, Bool.eq_iff_iff, hq]
  simp only [Bool.and_eq_true, and_assoc]
theorem has_told {z0 z1 z2 z3 z4 z5 a b c d : Int} {r : Bool} (w : World) (hP : Pl w) (htop : Tops [z0, z1, z2, z3, z4, z5]) (hz : MayZ [z0, z1, z2, z3, z4, z5]) (hF : Fit [a, b, c, d]) (h : MayR a b) (k : MayR c d) (he : (kpV a b 0 1 z0 && kpV 0 1 a b z1 && kpV c d 0 1 z2 && kpV 0 1 c d z3 && kpV c d a b z4 && kpV a b c d z5) = r) :
    Calls Tryd.prog 21 #[.agg #[.int .i64 z0, .int .i64 z1, .int .i64 z2, .int .i64 z3, .int .i64 z4, .int .i64 z5], .agg #[.int .i64 a, .int .i64 b, .int .i64 c, .int .i64 d]] w fun e w' => e = .returned (.tuple #[.bool r, .int .i64 0]) ∧ Below w.heap.size w w' := by
  refine (has_any z0 z1 z2 z3 z4 z5 a b c d w hP htop hF).mono fun e w' hh => ?_
  obtain ⟨hB, q, f, rfl, hR⟩ := hh
  rcases hR with ⟨n, _⟩ | ⟨_, _, _, rfl, hq⟩
  · exact (n ⟨hz, h, k⟩).elim
  · obtain rfl := kept_dec (z := [z0, z1, z2, z3, z4, z5]) h k he hq
    exact ⟨rfl, hB⟩
theorem m12 : MayR 1 2 := by decide +kernel
theorem m11 : MayR 1 1 := by decide +kernel
theorem m01 : MayR 0 1 := by decide +kernel

set_option maxRecDepth 100000 in
set_option maxHeartbeats 4000000 in
theorem alive_yes (w : World) (hP : Pl w) : Calls Tryd.prog 16 #[] w fun e w' => e = .returned (.bool true) ∧ Below w.heap.size w w' := by
  have HP := Lib.hid hP
  clear hP
  go_enter Tryd.func16, Tryd.ntmps16
  go_wp2_with fail
  refine (some_is w HP.out).mono ?_
  rintro e w1 ⟨rfl, hB⟩
  go_wp2_with fail
  have D0 := lies.made w1 24 #[.int .i64 4, .int .i64 1, .int .i64 7, .int .i64 (-1), .int .i64 7, .int .i64 0]
  have DB := lies.frame_up hB (.cells #[.int .i64 4, .int .i64 1, .int .i64 7, .int .i64 (-1), .int .i64 7, .int .i64 0] 24)
  clear hB
  generalize w1.heap.size = Z at D0 ⊢
  generalize w1.alloc (.cells #[.int .i64 4, .int .i64 1, .int .i64 7, .int .i64 (-1), .int .i64 7, .int .i64 0] 24) = w2 at D0 DB ⊢
  refine wp_region_held_drew (S := Below w2.heap.size w2) (by kernel_rfl) (dbm.drawn1 (Below.refl _ _)) (fun hHeld => ?_)
  refine wpAnyH_take (i := 0) (v := ?_) rfl (by kernel_rfl) (by kernel_rfl) (by kernel_rfl) (fun _ _ _ h => h) (Or.inl ⟨by rfl, ?_⟩) hHeld ?_
  rotate_left
  · intro w hSw; obtain ⟨⟨x0, x1, x2, x3, x4, x5⟩, _⟩ := six_cells (lies.on_call D0 hSw); go_simp; try with_reducible rfl
  try simp only [Act.put, List.getElem_toArray, List.getElem_cons_zero, List.getElem_cons_succ, List.setIfInBounds_toArray, List.set_cons_zero, List.set_cons_succ]
  refine wpAnyH_ready (rs := [1]) (by kernel_rfl) (by simp) (AllReadyH.cons rfl (fun K hK => ?_) AllReadyH.nil)
  go_simp
  refine (at_is 1 2 1 2 1 1 _ (by decide) (by decide) (by decide) (by decide) (by decide +kernel) (by decide +kernel)).mono ?_
  rintro e u1 ⟨rfl, hB⟩
  refine hK.out _ _ (hHeld.trans (hB.mono hHeld.size)) (fun hNew => ?_)
  clear hB
  clear hHeld hK K
  have hHeld := hNew
  clear hNew
  try simp only [Act.put, List.getElem_toArray, List.getElem_cons_zero, List.getElem_cons_succ, List.setIfInBounds_toArray, List.set_cons_zero, List.set_cons_succ]
  refine wpAnyH_ready (rs := [2]) (by kernel_rfl) (by simp) (AllReadyH.cons rfl (fun K hK => ?_) AllReadyH.nil)
  go_simp
  refine (has_told (r := true) _ (HP.out.on (later DB hHeld)) some_tops some_may (by unfold zone.Fit; decide) m12 m11 (by decide +kernel)).mono ?_
  rintro e u2 ⟨rfl, hB⟩
  refine hK.out _ _ (hHeld.trans (hB.mono hHeld.size)) (fun hNew => ?_)
  clear hB
  clear hHeld hK K
  have hHeld := hNew
  clear hNew
  try simp only [Act.put, List.getElem_toArray, List.getElem_cons_zero, List.getElem_cons_succ, List.setIfInBounds_toArray, List.set_cons_zero, List.set_cons_succ]
  refine wpAnyH_take (i := 3) (v := ?_) rfl (by kernel_rfl) (by kernel_rfl) (by kernel_rfl) (fun _ _ _ h => h) (Or.inl ⟨by rfl, ?_⟩) hHeld ?_
  rotate_left
  · intro w hSw; skip; go_simp; try with_reducible rfl
  try simp only [Act.put, List.getElem_toArray, List.getElem_cons_zero, List.getElem_cons_succ, List.setIfInBounds_toArray, List.set_cons_zero, List.set_cons_succ]
  refine wpAnyH_take (i := 4) (v := ?_) rfl (by kernel_rfl) (by kernel_rfl) (by kernel_rfl) (fun _ _ _ h => h) (Or.inl ⟨by rfl, ?_⟩) hHeld ?_
  rotate_left
  · intro w hSw; skip; go_simp; try with_reducible rfl
  try simp only [Act.put, List.getElem_toArray, List.getElem_cons_zero, List.getElem_cons_succ, List.setIfInBounds_toArray, List.set_cons_zero, List.set_cons_succ]
  refine wpAnyH_take (i := 5) (v := ?_) rfl (by kernel_rfl) (by kernel_rfl) (by kernel_rfl) (fun _ _ _ h => h) (Or.inl ⟨by rfl, ?_⟩) hHeld ?_
  rotate_left
  · intro w hSw; skip; go_simp; try with_reducible rfl
  try simp only [Act.put, List.getElem_toArray, List.getElem_cons_zero, List.getElem_cons_succ, List.setIfInBounds_toArray, List.set_cons_zero, List.set_cons_succ]
  refine wpAnyH_take (i := 6) (v := ?_) rfl (by kernel_rfl) (by kernel_rfl) (by kernel_rfl) (fun _ _ _ h => h) (Or.inl ⟨by rfl, ?_⟩) hHeld ?_
  rotate_left
  · intro w hSw; skip; go_simp; try with_reducible rfl
  try simp only [Act.put, List.getElem_toArray, List.getElem_cons_zero, List.getElem_cons_succ, List.setIfInBounds_toArray, List.set_cons_zero, List.set_cons_succ]
  refine wpAnyH_take (i := 7) (v := ?_) rfl (by kernel_rfl) (by kernel_rfl) (by kernel_rfl) (fun _ _ _ h => h) (Or.inl ⟨by rfl, ?_⟩) hHeld ?_
  rotate_left
  · intro w hSw; skip; go_simp; try with_reducible rfl
  try simp only [Act.put, List.getElem_toArray, List.getElem_cons_zero, List.getElem_cons_succ, List.setIfInBounds_toArray, List.set_cons_zero, List.set_cons_succ]
  refine wpAnyH_done (by kernel_rfl) ?_ _
  replace D0 := lies.on_call D0 hHeld
  replace DB := later DB hHeld
  clear hHeld
  generalize u2 = w2 at D0 DB ⊢
  go_wp2_with fail
  refine wp_region_held_drew (S := Below w2.heap.size w2) (by kernel_rfl) (dbm.drawn1 (Below.refl _ _)) (fun hHeld => ?_)
  refine wpAnyH_take (i := 0) (v := ?_) rfl (by kernel_rfl) (by kernel_rfl) (by kernel_rfl) (fun _ _ _ h => h) (Or.inl ⟨by rfl, ?_⟩) hHeld ?_
  rotate_left
  · intro w hSw; obtain ⟨⟨x0, x1, x2, x3, x4, x5⟩, _⟩ := six_cells (lies.on_call D0 hSw); go_simp; try with_reducible rfl
  try simp only [Act.put, List.getElem_toArray, List.getElem_cons_zero, List.getElem_cons_succ, List.setIfInBounds_toArray, List.set_cons_zero, List.set_cons_succ]
  refine wpAnyH_ready (rs := [1]) (by kernel_rfl) (by simp) (AllReadyH.cons rfl (fun K hK => ?_) AllReadyH.nil)
  go_simp
  refine (at_is 2 2 1 1 1 1 _ (by decide) (by decide) (by decide) (by decide) (by decide +kernel) (by decide +kernel)).mono ?_
  rintro e u1 ⟨rfl, hB⟩
  refine hK.out _ _ (hHeld.trans (hB.mono hHeld.size)) (fun hNew => ?_)
  clear hB
  clear hHeld hK K
  have hHeld := hNew
  clear hNew
  try simp only [Act.put, List.getElem_toArray, List.getElem_cons_zero, List.getElem_cons_succ, List.setIfInBounds_toArray, List.set_cons_zero, List.set_cons_succ]
  refine wpAnyH_ready (rs := [2]) (by kernel_rfl) (by simp) (AllReadyH.cons rfl (fun K hK => ?_) AllReadyH.nil)
  go_simp
  refine (has_told (r := false) _ (HP.out.on (later DB hHeld)) some_tops some_may (by unfold zone.Fit; decide) m11 m11 (by decide +kernel)).mono ?_
  rintro e u3 ⟨rfl, hB⟩
  refine hK.out _ _ (hHeld.trans (hB.mono hHeld.size)) (fun hNew => ?_)
  clear hB
  clear hHeld hK K
  have hHeld := hNew
  clear hNew
  try simp only [Act.put, List.getElem_toArray, List.getElem_cons_zero, List.getElem_cons_succ, List.setIfInBounds_toArray, List.set_cons_zero, List.set_cons_succ]
  refine wpAnyH_take (i := 3) (v := ?_) rfl (by kernel_rfl) (by kernel_rfl) (by kernel_rfl) (fun _ _ _ h => h) (Or.inl ⟨by rfl, ?_⟩) hHeld ?_
  rotate_left
  · intro w hSw; skip; go_simp; try with_reducible rfl
  try simp only [Act.put, List.getElem_toArray, List.getElem_cons_zero, List.getElem_cons_succ, List.setIfInBounds_toArray, List.set_cons_zero, List.set_cons_succ]
  refine wpAnyH_take (i := 4) (v := ?_) rfl (by kernel_rfl) (by kernel_rfl) (by kernel_rfl) (fun _ _ _ h => h) (Or.inl ⟨by rfl, ?_⟩) hHeld ?_
  rotate_left
  · intro w hSw; skip; go_simp; try with_reducible rfl
  try simp only [Act.put, List.getElem_toArray, List.getElem_cons_zero, List.getElem_cons_succ, List.setIfInBounds_toArray, List.set_cons_zero, List.set_cons_succ]
  refine wpAnyH_take (i := 5) (v := ?_) rfl (by kernel_rfl) (by kernel_rfl) (by kernel_rfl) (fun _ _ _ h => h) (Or.inl ⟨by rfl, ?_⟩) hHeld ?_
  rotate_left
  · intro w hSw; skip; go_simp; try with_reducible rfl
  try simp only [Act.put, List.getElem_toArray, List.getElem_cons_zero, List.getElem_cons_succ, List.setIfInBounds_toArray, List.set_cons_zero, List.set_cons_succ]
  refine wpAnyH_take (i := 6) (v := ?_) rfl (by kernel_rfl) (by kernel_rfl) (by kernel_rfl) (fun _ _ _ h => h) (Or.inl ⟨by rfl, ?_⟩) hHeld ?_
  rotate_left
  · intro w hSw; skip; go_simp; try with_reducible rfl
  try simp only [Act.put, List.getElem_toArray, List.getElem_cons_zero, List.getElem_cons_succ, List.setIfInBounds_toArray, List.set_cons_zero, List.set_cons_succ]
  refine wpAnyH_take (i := 7) (v := ?_) rfl (by kernel_rfl) (by kernel_rfl) (by kernel_rfl) (fun _ _ _ h => h) (Or.inl ⟨by rfl, ?_⟩) hHeld ?_
  rotate_left
  · intro w hSw; skip; go_simp; try with_reducible rfl
  try simp only [Act.put, List.getElem_toArray, List.getElem_cons_zero, List.getElem_cons_succ, List.setIfInBounds_toArray, List.set_cons_zero, List.set_cons_succ]
  refine wpAnyH_done (by kernel_rfl) ?_ _
  replace D0 := lies.on_call D0 hHeld
  replace DB := later DB hHeld
  clear hHeld
  obtain ⟨⟨x0, x1, x2, x3, x4, x5⟩, ⟨y0, y1, y2, y3, y4, y5⟩, xl⟩ := six_cells D0
  have hq : ∀ W, (Op.equalIn 10000 24 (.agg #[.int .i64 4, .int .i64 1, .int .i64 7, .int .i64 (-1), .int .i64 7, .int .i64 0]) (.agg #[.int .i64 4, .int .i64 1, .int .i64 7, .int .i64 (-1), .int .i64 7, .int .i64 0])).run Tryd.prog W = .ok true W := fun W => by rw [eq_zone]; simp
  go_wp2_with fail
  go_ret
  exact ⟨rfl, DB⟩
end Go.Proofs.YtklejbheieceeaaDoor.zlaw
