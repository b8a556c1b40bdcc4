/-
  MinusNames answers true; the listed variable reads as the program lays it.
-/
import Derived.Test.YtkfnjdmjojodhaaDoorMinusG
import Derived.Test.YtkfnjdmjojodhaaDoorCards
import Derived.Test.YtkfnjdmjojodhaaDoorTie
import Derived.BigQuiet
namespace Go.Proofs.YtkfnjdmjojodhaaDoor.minusNames
open Go.Joins Go.ChangeShapes Go.WideShapes Go.ChangeAt Go.RowKit num rat dbm Go.Proofs.YtkfnjdmjojodhaaDoor.tight Go.Proofs.YtkfnjdmjojodhaaDoor.incl Go.Proofs.YtkfnjdmjojodhaaDoor.plaw Go.Proofs.YtkfnjdmjojodhaaDoor.zopen Go.Proofs.YtkfnjdmjojodhaaDoor.zone Go.Proofs.YtkfnjdmjojodhaaDoor.zlaw Go.Proofs.YtkfnjdmjojodhaaDoor.win Go.Proofs.YtkfnjdmjojodhaaDoor.minus Go.Proofs.YtkfnjdmjojodhaaDoor.mz Go.Proofs.YtkfnjdmjojodhaaDoor.mlaw
open bound hiding up
set_option linter.unusedVariables false
set_option linter.unusedSimpArgs false


set_option maxRecDepth 100000 in
set_option maxHeartbeats 16000000 in
theorem walk (w : World) (hP : Pl w) : Calls Tryd.prog 3 #[] w fun e w' => e = .returned (.bool true) ∧ Below w.heap.size w w' := by
  have P0 := hP
  have DB := Below.refl w.heap.size w
  clear hP
  go_enter Tryd.func3, Tryd.ntmps3
  go_wp2_with fail
  refine (of_is 0 false 4 false false 8 1 9 0 9 0 w P0 make_a).mono ?_
  rintro e w1 ⟨rfl, hB⟩
  replace P0 := P0.on hB
  replace DB := later DB hB
  clear hB
  go_wp2_with fail
  have hA := bound.up1 w1 (.cells #[.int .i64 8, .int .i64 1, .int .i64 9, .int .i64 0, .int .i64 9, .int .i64 0] 24)
  have D0 := lies.made w1 24 #[.int .i64 8, .int .i64 1, .int .i64 9, .int .i64 0, .int .i64 9, .int .i64 0]
  replace P0 := P0.on hA
  replace DB := later DB hA
  clear hA
  generalize w1.heap.size = XD0 at D0 ⊢
  generalize w1.alloc (.cells #[.int .i64 8, .int .i64 1, .int .i64 9, .int .i64 0, .int .i64 9, .int .i64 0] 24) = v2 at D0 P0 DB ⊢
  obtain ⟨⟨kD0_0, kD0_1, kD0_2, kD0_3, kD0_4, kD0_5⟩, -⟩ := six_cells D0
  have kD0_l := lies.lt D0
  go_wp2_with fail
  clear kD0_0 kD0_1 kD0_2 kD0_3 kD0_4 kD0_5 kD0_l
  refine (minus.minus_any 8 1 9 0 9 0 8 1 9 0 9 0 v2 P0 zo_a.2.1 zo_a.2.1).mono ?_
  rintro e w3 ⟨hB, v1, r1, f1, rfl, hR, hO⟩
  have hO := zs_own hO
  obtain ⟨o1, e1, rfl⟩ := zs_len hO
  clear hO
  replace D0 := lies.on_call D0 hB
  replace P0 := P0.on hB
  replace DB := later DB hB
  clear hB
  obtain ⟨rfl, rfl⟩ : r1 = [] ∧ f1 = 0 := by
    rcases hR with ⟨n, _⟩ | ⟨_, _, q⟩
    · exact (n ⟨zo_a.1, zo_a.1⟩).elim
    · exact less_in zo_a.2.1 zo_a.1 6 (Nat.le_refl _) zo_a (fun i _ _ => Int.le_refl _) (min_less zo_a zo_a q)
  clear hR
  have e0 : (([] : List (List Int)).length) = 0 := rfl
  rw [e0]
  clear e0
  obtain ⟨⟨kD0_0, kD0_1, kD0_2, kD0_3, kD0_4, kD0_5⟩, -⟩ := six_cells D0
  have kD0_l := lies.lt D0
  go_wp2_with fail
  clear kD0_0 kD0_1 kD0_2 kD0_3 kD0_4 kD0_5 kD0_l
  refine (left_any 8 1 9 0 9 0 none 0 0 [] w3 P0 zo_a.2.1 (.inl ⟨⟨none, 0, rfl, fun _ => rfl⟩, rfl⟩) (fun z hz => by cases hz) rfl (by decide)).mono ?_
  rintro e w4 ⟨hB, v2, r2, f2, rfl, hR, hO⟩
  replace D0 := lies.on_call D0 hB
  replace P0 := P0.on hB
  replace DB := later DB hB
  clear hB
  obtain ⟨rfl, rfl⟩ : r2 = [[8, 1, 9, 0, 9, 0]] ∧ f2 = 0 := by
    rcases hR with ⟨n, _⟩ | ⟨_, _, q⟩
    · exact (n ⟨zo_a.1, fun z hz => by cases hz⟩).elim
    · exact q
  have hV : w4.ownsRow _ 24 6 v2 1 (flatZ [[8, 1, 9, 0, 9, 0]]) := hO
  obtain ⟨g, cap, rfl, hg, -⟩ := own1 hV
  clear hR hO
  have HV := Lib.hid (show Zs w4.heap.size w4 (.slice (some ⟨g, 0, none⟩) 1 cap) [[8, 1, 9, 0, 9, 0]] from zs_own hV)
  clear hV
  obtain ⟨⟨kD0_0, kD0_1, kD0_2, kD0_3, kD0_4, kD0_5⟩, -⟩ := six_cells D0
  have kD0_l := lies.lt D0
  go_wp2_with fail
  clear kD0_0 kD0_1 kD0_2 kD0_3 kD0_4 kD0_5 kD0_l
  refine (minus.minus_any 8 1 9 0 9 0 0 0 0 0 0 0 w4 P0 zo_a.2.1 (by unfold Tops; decide)).mono ?_
  rintro e w5 ⟨hB, v3, r3, f3, rfl, hR, hO⟩
  clear hO
  replace D0 := lies.on_call D0 hB
  replace HV := Lib.hid ((HV.out.below hB).mono hB.size)
  replace P0 := P0.on hB
  replace DB := later DB hB
  clear hB
  obtain ⟨rfl, rfl⟩ : r3 = [] ∧ f3 = 8 := by
    rcases hR with ⟨_, e, q⟩ | ⟨_, m, _⟩
    · exact ⟨e, q⟩
    · exact absurd (zo_pair (x := [0, 0, 0, 0, 0, 0]) ⟨m, by unfold Tops; decide, rfl⟩ (i := 0) (by decide)) (by decide)
  clear hR
  have hgw : g < w5.heap.size := by rcases HV.out with ⟨⟨_, _, e, _⟩, _⟩ | ⟨b, off, c, e, hb, _⟩ <;> cases e; exact hb
  have hC : ∀ W, Below w5.heap.size w5 W → W.cell? ⟨g, 0, none⟩ = some (.int .i64 8) ∧ W.cell? ⟨g, 1, none⟩ = some (.int .i64 1) ∧ W.cell? ⟨g, 2, none⟩ = some (.int .i64 9) ∧ W.cell? ⟨g, 3, none⟩ = some (.int .i64 0) ∧ W.cell? ⟨g, 4, none⟩ = some (.int .i64 9) ∧ W.cell? ⟨g, 5, none⟩ = some (.int .i64 0) := fun W k => by
    obtain ⟨b, off, e, _, _, c0, c1, c2, c3, c4, c5⟩ := zs_at (HV.out.below k) (k := 0) (by decide)
    cases e
    rw [Nat.zero_mul, Nat.zero_add] at c0 c1 c2 c3 c4 c5
    exact ⟨c0, c1, c2, c3, c4, c5⟩
  have HC := Lib.hid hC
  clear hC HV
  have hq1 : ∀ W, (Op.equalIn 10000 24 (.agg #[.int .i64 8, .int .i64 1, .int .i64 9, .int .i64 0, .int .i64 9, .int .i64 0]) (.agg #[.int .i64 8, .int .i64 1, .int .i64 9, .int .i64 0, .int .i64 9, .int .i64 0])).run Tryd.prog W = .ok true W := fun W => by rw [eq_zone]; simp
  go_wp2_with fail
  refine wp_region_held_drew (S := Below w5.heap.size w5) (by kernel_rfl) (dbm.drawn1 (Below.refl _ _)) (fun hHeld => ?_)
  refine wpAnyH_take (i := 0) (v := ?_) rfl (by kernel_rfl) (by kernel_rfl) (by kernel_rfl) (fun _ _ _ h => h) (Or.inl ⟨by rfl, ?_⟩) hHeld ?_
  rotate_left
  · intro w hSw; skip; go_simp; try with_reducible rfl
  try simp only [Act.put, List.getElem_toArray, List.getElem_cons_zero, List.getElem_cons_succ, List.setIfInBounds_toArray, List.set_cons_zero, List.set_cons_succ]
  refine wpAnyH_ready (rs := [1]) (by kernel_rfl) (by simp) (AllReadyH.cons rfl (fun K hK => ?_) AllReadyH.nil)
  go_simp
  refine (alive_yes _ (P0.on hHeld)).mono ?_
  rintro e u1 ⟨rfl, hB⟩
  refine hK.out _ _ (hHeld.trans (hB.mono hHeld.size)) (fun hNew => ?_)
  clear hB
  clear hHeld hK K
  have hHeld := hNew
  clear hNew
  try simp only [Act.put, List.getElem_toArray, List.getElem_cons_zero, List.getElem_cons_succ, List.setIfInBounds_toArray, List.set_cons_zero, List.set_cons_succ]
  refine wpAnyH_take (i := 2) (v := ?_) rfl (by kernel_rfl) (by kernel_rfl) (by kernel_rfl) (fun _ _ _ h => h) (Or.inl ⟨by rfl, ?_⟩) hHeld ?_
  rotate_left
  · intro w hSw; obtain ⟨c0, c1, c2, c3, c4, c5⟩ := HC.out _ hSw; obtain ⟨⟨x0, x1, x2, x3, x4, x5⟩, _⟩ := six_cells (lies.on_call D0 hSw); go_simp; try with_reducible rfl
  try simp only [Act.put, List.getElem_toArray, List.getElem_cons_zero, List.getElem_cons_succ, List.setIfInBounds_toArray, List.set_cons_zero, List.set_cons_succ]
  refine wpAnyH_take (i := 3) (v := ?_) rfl (by kernel_rfl) (by kernel_rfl) (by kernel_rfl) (fun _ _ _ h => h) (Or.inl ⟨by rfl, ?_⟩) hHeld ?_
  rotate_left
  · intro w hSw; obtain ⟨c0, c1, c2, c3, c4, c5⟩ := HC.out _ hSw; obtain ⟨⟨x0, x1, x2, x3, x4, x5⟩, _⟩ := six_cells (lies.on_call D0 hSw); go_simp; try with_reducible rfl
  try simp only [Act.put, List.getElem_toArray, List.getElem_cons_zero, List.getElem_cons_succ, List.setIfInBounds_toArray, List.set_cons_zero, List.set_cons_succ]
  refine wpAnyH_take (i := 4) (v := ?_) rfl (by kernel_rfl) (by kernel_rfl) (by kernel_rfl) (fun _ _ _ h => h) (Or.inl ⟨by rfl, ?_⟩) hHeld ?_
  rotate_left
  · intro w hSw; obtain ⟨c0, c1, c2, c3, c4, c5⟩ := HC.out _ hSw; obtain ⟨⟨x0, x1, x2, x3, x4, x5⟩, _⟩ := six_cells (lies.on_call D0 hSw); go_simp; try with_reducible rfl
  try simp only [Act.put, List.getElem_toArray, List.getElem_cons_zero, List.getElem_cons_succ, List.setIfInBounds_toArray, List.set_cons_zero, List.set_cons_succ]
  refine wpAnyH_take (i := 5) (v := ?_) rfl (by kernel_rfl) (by kernel_rfl) (by kernel_rfl) (fun _ _ _ h => h) (Or.inl ⟨by rfl, ?_⟩) hHeld ?_
  rotate_left
  · intro w hSw; obtain ⟨c0, c1, c2, c3, c4, c5⟩ := HC.out _ hSw; obtain ⟨⟨x0, x1, x2, x3, x4, x5⟩, _⟩ := six_cells (lies.on_call D0 hSw); go_simp; try with_reducible rfl
  try simp only [Act.put, List.getElem_toArray, List.getElem_cons_zero, List.getElem_cons_succ, List.setIfInBounds_toArray, List.set_cons_zero, List.set_cons_succ]
  refine wpAnyH_take (i := 6) (v := ?_) rfl (by kernel_rfl) (by kernel_rfl) (by kernel_rfl) (fun _ _ _ h => h) (Or.inl ⟨by rfl, ?_⟩) hHeld ?_
  rotate_left
  · intro w hSw; obtain ⟨c0, c1, c2, c3, c4, c5⟩ := HC.out _ hSw; obtain ⟨⟨x0, x1, x2, x3, x4, x5⟩, _⟩ := six_cells (lies.on_call D0 hSw); go_simp; try with_reducible rfl
  try simp only [Act.put, List.getElem_toArray, List.getElem_cons_zero, List.getElem_cons_succ, List.setIfInBounds_toArray, List.set_cons_zero, List.set_cons_succ]
  refine wpAnyH_take (i := 7) (v := ?_) rfl (by kernel_rfl) (by kernel_rfl) (by kernel_rfl) (fun _ _ _ h => h) (Or.inl ⟨by rfl, ?_⟩) hHeld ?_
  rotate_left
  · intro w hSw; obtain ⟨c0, c1, c2, c3, c4, c5⟩ := HC.out _ hSw; obtain ⟨⟨x0, x1, x2, x3, x4, x5⟩, _⟩ := six_cells (lies.on_call D0 hSw); go_simp; try with_reducible rfl
  try simp only [Act.put, List.getElem_toArray, List.getElem_cons_zero, List.getElem_cons_succ, List.setIfInBounds_toArray, List.set_cons_zero, List.set_cons_succ]
  refine wpAnyH_take (i := 8) (v := ?_) rfl (by kernel_rfl) (by kernel_rfl) (by kernel_rfl) (fun _ _ _ h => h) (Or.inl ⟨by rfl, ?_⟩) hHeld ?_
  rotate_left
  · intro w hSw; obtain ⟨c0, c1, c2, c3, c4, c5⟩ := HC.out _ hSw; obtain ⟨⟨x0, x1, x2, x3, x4, x5⟩, _⟩ := six_cells (lies.on_call D0 hSw); go_simp; try with_reducible rfl
  try simp only [Act.put, List.getElem_toArray, List.getElem_cons_zero, List.getElem_cons_succ, List.setIfInBounds_toArray, List.set_cons_zero, List.set_cons_succ]
  refine wpAnyH_take (i := 9) (v := ?_) rfl (by kernel_rfl) (by kernel_rfl) (by kernel_rfl) (fun _ _ _ h => h) (Or.inl ⟨by rfl, ?_⟩) hHeld ?_
  rotate_left
  · intro w hSw; obtain ⟨c0, c1, c2, c3, c4, c5⟩ := HC.out _ hSw; obtain ⟨⟨x0, x1, x2, x3, x4, x5⟩, _⟩ := six_cells (lies.on_call D0 hSw); go_simp; try with_reducible rfl
  try simp only [Act.put, List.getElem_toArray, List.getElem_cons_zero, List.getElem_cons_succ, List.setIfInBounds_toArray, List.set_cons_zero, List.set_cons_succ]
  refine wpAnyH_take (i := 10) (v := ?_) rfl (by kernel_rfl) (by kernel_rfl) (by kernel_rfl) (fun _ _ _ h => h) (Or.inl ⟨by rfl, ?_⟩) hHeld ?_
  rotate_left
  · intro w hSw; obtain ⟨c0, c1, c2, c3, c4, c5⟩ := HC.out _ hSw; obtain ⟨⟨x0, x1, x2, x3, x4, x5⟩, _⟩ := six_cells (lies.on_call D0 hSw); go_simp; try with_reducible rfl
  try simp only [Act.put, List.getElem_toArray, List.getElem_cons_zero, List.getElem_cons_succ, List.setIfInBounds_toArray, List.set_cons_zero, List.set_cons_succ]
  refine wpAnyH_take (i := 11) (v := ?_) rfl (by kernel_rfl) (by kernel_rfl) (by kernel_rfl) (fun _ _ _ h => h) (Or.inl ⟨by rfl, ?_⟩) hHeld ?_
  rotate_left
  · intro w hSw; obtain ⟨c0, c1, c2, c3, c4, c5⟩ := HC.out _ hSw; obtain ⟨⟨x0, x1, x2, x3, x4, x5⟩, _⟩ := six_cells (lies.on_call D0 hSw); go_simp; try with_reducible rfl
  try simp only [Act.put, List.getElem_toArray, List.getElem_cons_zero, List.getElem_cons_succ, List.setIfInBounds_toArray, List.set_cons_zero, List.set_cons_succ]
  refine wpAnyH_take (i := 12) (v := ?_) rfl (by kernel_rfl) (by kernel_rfl) (by kernel_rfl) (fun _ _ _ h => h) (Or.inl ⟨by rfl, ?_⟩) hHeld ?_
  rotate_left
  · intro w hSw; obtain ⟨c0, c1, c2, c3, c4, c5⟩ := HC.out _ hSw; obtain ⟨⟨x0, x1, x2, x3, x4, x5⟩, _⟩ := six_cells (lies.on_call D0 hSw); go_simp; try with_reducible rfl
  try simp only [Act.put, List.getElem_toArray, List.getElem_cons_zero, List.getElem_cons_succ, List.setIfInBounds_toArray, List.set_cons_zero, List.set_cons_succ]
  refine wpAnyH_take (i := 13) (v := ?_) rfl (by kernel_rfl) (by kernel_rfl) (by kernel_rfl) (fun _ _ _ h => h) (Or.inl ⟨by rfl, ?_⟩) hHeld ?_
  rotate_left
  · intro w hSw; obtain ⟨c0, c1, c2, c3, c4, c5⟩ := HC.out _ hSw; obtain ⟨⟨x0, x1, x2, x3, x4, x5⟩, _⟩ := six_cells (lies.on_call D0 hSw); go_simp; try with_reducible rfl
  try simp only [Act.put, List.getElem_toArray, List.getElem_cons_zero, List.getElem_cons_succ, List.setIfInBounds_toArray, List.set_cons_zero, List.set_cons_succ]
  refine wpAnyH_take (i := 14) (v := ?_) rfl (by kernel_rfl) (by kernel_rfl) (by kernel_rfl) (fun _ _ _ h => h) (Or.inl ⟨by rfl, ?_⟩) hHeld ?_
  rotate_left
  · intro w hSw; obtain ⟨c0, c1, c2, c3, c4, c5⟩ := HC.out _ hSw; obtain ⟨⟨x0, x1, x2, x3, x4, x5⟩, _⟩ := six_cells (lies.on_call D0 hSw); go_simp; try with_reducible rfl
  try simp only [Act.put, List.getElem_toArray, List.getElem_cons_zero, List.getElem_cons_succ, List.setIfInBounds_toArray, List.set_cons_zero, List.set_cons_succ]
  refine wpAnyH_take (i := 15) (v := ?_) rfl (by kernel_rfl) (by kernel_rfl) (by kernel_rfl) (fun _ _ _ h => h) (Or.inl ⟨by rfl, ?_⟩) hHeld ?_
  rotate_left
  · intro w hSw; obtain ⟨c0, c1, c2, c3, c4, c5⟩ := HC.out _ hSw; obtain ⟨⟨x0, x1, x2, x3, x4, x5⟩, _⟩ := six_cells (lies.on_call D0 hSw); go_simp; try with_reducible rfl
  try simp only [Act.put, List.getElem_toArray, List.getElem_cons_zero, List.getElem_cons_succ, List.setIfInBounds_toArray, List.set_cons_zero, List.set_cons_succ]
  refine wpAnyH_take (i := 16) (v := ?_) rfl (by kernel_rfl) (by kernel_rfl) (by kernel_rfl) (fun _ _ _ h => h) (Or.inl ⟨by rfl, ?_⟩) hHeld ?_
  rotate_left
  · intro w hSw; obtain ⟨c0, c1, c2, c3, c4, c5⟩ := HC.out _ hSw; obtain ⟨⟨x0, x1, x2, x3, x4, x5⟩, _⟩ := six_cells (lies.on_call D0 hSw); go_simp; try with_reducible rfl
  try simp only [Act.put, List.getElem_toArray, List.getElem_cons_zero, List.getElem_cons_succ, List.setIfInBounds_toArray, List.set_cons_zero, List.set_cons_succ]
  refine wpAnyH_take (i := 17) (v := ?_) rfl (by kernel_rfl) (by kernel_rfl) (by kernel_rfl) (fun _ _ _ h => h) (Or.inl ⟨by rfl, ?_⟩) hHeld ?_
  rotate_left
  · intro w hSw; obtain ⟨c0, c1, c2, c3, c4, c5⟩ := HC.out _ hSw; obtain ⟨⟨x0, x1, x2, x3, x4, x5⟩, _⟩ := six_cells (lies.on_call D0 hSw); go_simp; try with_reducible rfl
  try simp only [Act.put, List.getElem_toArray, List.getElem_cons_zero, List.getElem_cons_succ, List.setIfInBounds_toArray, List.set_cons_zero, List.set_cons_succ]
  refine wpAnyH_take (i := 18) (v := ?_) rfl (by kernel_rfl) (by kernel_rfl) (by kernel_rfl) (fun _ _ _ h => h) (Or.inl ⟨by rfl, ?_⟩) hHeld ?_
  rotate_left
  · intro w hSw; obtain ⟨c0, c1, c2, c3, c4, c5⟩ := HC.out _ hSw; obtain ⟨⟨x0, x1, x2, x3, x4, x5⟩, _⟩ := six_cells (lies.on_call D0 hSw); go_simp; try with_reducible rfl
  try simp only [Act.put, List.getElem_toArray, List.getElem_cons_zero, List.getElem_cons_succ, List.setIfInBounds_toArray, List.set_cons_zero, List.set_cons_succ]
  refine wpAnyH_take (i := 19) (v := ?_) rfl (by kernel_rfl) (by kernel_rfl) (by kernel_rfl) (fun _ _ _ h => h) (Or.inl ⟨by rfl, ?_⟩) hHeld ?_
  rotate_left
  · intro w hSw; obtain ⟨c0, c1, c2, c3, c4, c5⟩ := HC.out _ hSw; obtain ⟨⟨x0, x1, x2, x3, x4, x5⟩, _⟩ := six_cells (lies.on_call D0 hSw); go_simp; try with_reducible rfl
  try simp only [Act.put, List.getElem_toArray, List.getElem_cons_zero, List.getElem_cons_succ, List.setIfInBounds_toArray, List.set_cons_zero, List.set_cons_succ]
  refine wpAnyH_take (i := 20) (v := ?_) rfl (by kernel_rfl) (by kernel_rfl) (by kernel_rfl) (fun _ _ _ h => h) (Or.inl ⟨by rfl, ?_⟩) hHeld ?_
  rotate_left
  · intro w hSw; obtain ⟨c0, c1, c2, c3, c4, c5⟩ := HC.out _ hSw; obtain ⟨⟨x0, x1, x2, x3, x4, x5⟩, _⟩ := six_cells (lies.on_call D0 hSw); go_simp; try with_reducible rfl
  try simp only [Act.put, List.getElem_toArray, List.getElem_cons_zero, List.getElem_cons_succ, List.setIfInBounds_toArray, List.set_cons_zero, List.set_cons_succ]
  refine wpAnyH_take (i := 21) (v := ?_) rfl (by kernel_rfl) (by kernel_rfl) (by kernel_rfl) (fun _ _ _ h => h) (Or.inl ⟨by rfl, ?_⟩) hHeld ?_
  rotate_left
  · intro w hSw; obtain ⟨c0, c1, c2, c3, c4, c5⟩ := HC.out _ hSw; obtain ⟨⟨x0, x1, x2, x3, x4, x5⟩, _⟩ := six_cells (lies.on_call D0 hSw); go_simp; try with_reducible rfl
  try simp only [Act.put, List.getElem_toArray, List.getElem_cons_zero, List.getElem_cons_succ, List.setIfInBounds_toArray, List.set_cons_zero, List.set_cons_succ]
  refine wpAnyH_take (i := 22) (v := ?_) rfl (by kernel_rfl) (by kernel_rfl) (by kernel_rfl) (fun _ _ _ h => h) (Or.inl ⟨by rfl, ?_⟩) hHeld ?_
  rotate_left
  · intro w hSw; obtain ⟨c0, c1, c2, c3, c4, c5⟩ := HC.out _ hSw; obtain ⟨⟨x0, x1, x2, x3, x4, x5⟩, _⟩ := six_cells (lies.on_call D0 hSw); go_simp; try with_reducible rfl
  try simp only [Act.put, List.getElem_toArray, List.getElem_cons_zero, List.getElem_cons_succ, List.setIfInBounds_toArray, List.set_cons_zero, List.set_cons_succ]
  refine wpAnyH_take (i := 23) (v := ?_) rfl (by kernel_rfl) (by kernel_rfl) (by kernel_rfl) (fun _ _ _ h => h) (Or.inl ⟨by rfl, ?_⟩) hHeld ?_
  rotate_left
  · intro w hSw; obtain ⟨c0, c1, c2, c3, c4, c5⟩ := HC.out _ hSw; obtain ⟨⟨x0, x1, x2, x3, x4, x5⟩, _⟩ := six_cells (lies.on_call D0 hSw); go_simp; try with_reducible rfl
  try simp only [Act.put, List.getElem_toArray, List.getElem_cons_zero, List.getElem_cons_succ, List.setIfInBounds_toArray, List.set_cons_zero, List.set_cons_succ]
  refine wpAnyH_take (i := 24) (v := ?_) rfl (by kernel_rfl) (by kernel_rfl) (by kernel_rfl) (fun _ _ _ h => h) (Or.inl ⟨by rfl, ?_⟩) hHeld ?_
  rotate_left
  · intro w hSw; obtain ⟨c0, c1, c2, c3, c4, c5⟩ := HC.out _ hSw; obtain ⟨⟨x0, x1, x2, x3, x4, x5⟩, _⟩ := six_cells (lies.on_call D0 hSw); go_simp; try with_reducible rfl
  try simp only [Act.put, List.getElem_toArray, List.getElem_cons_zero, List.getElem_cons_succ, List.setIfInBounds_toArray, List.set_cons_zero, List.set_cons_succ]
  refine wpAnyH_take (i := 25) (v := ?_) rfl (by kernel_rfl) (by kernel_rfl) (by kernel_rfl) (fun _ _ _ h => h) (Or.inl ⟨by rfl, ?_⟩) hHeld ?_
  rotate_left
  · intro w hSw; obtain ⟨c0, c1, c2, c3, c4, c5⟩ := HC.out _ hSw; obtain ⟨⟨x0, x1, x2, x3, x4, x5⟩, _⟩ := six_cells (lies.on_call D0 hSw); go_simp; try with_reducible rfl
  try simp only [Act.put, List.getElem_toArray, List.getElem_cons_zero, List.getElem_cons_succ, List.setIfInBounds_toArray, List.set_cons_zero, List.set_cons_succ]
  refine wpAnyH_take (i := 26) (v := ?_) rfl (by kernel_rfl) (by kernel_rfl) (by kernel_rfl) (fun _ _ _ h => h) (Or.inl ⟨by rfl, ?_⟩) hHeld ?_
  rotate_left
  · intro w hSw; obtain ⟨c0, c1, c2, c3, c4, c5⟩ := HC.out _ hSw; obtain ⟨⟨x0, x1, x2, x3, x4, x5⟩, _⟩ := six_cells (lies.on_call D0 hSw); go_simp; try with_reducible rfl
  try simp only [Act.put, List.getElem_toArray, List.getElem_cons_zero, List.getElem_cons_succ, List.setIfInBounds_toArray, List.set_cons_zero, List.set_cons_succ]
  refine wpAnyH_take (i := 27) (v := ?_) rfl (by kernel_rfl) (by kernel_rfl) (by kernel_rfl) (fun _ _ _ h => h) (Or.inl ⟨by rfl, ?_⟩) hHeld ?_
  rotate_left
  · intro w hSw; obtain ⟨c0, c1, c2, c3, c4, c5⟩ := HC.out _ hSw; obtain ⟨⟨x0, x1, x2, x3, x4, x5⟩, _⟩ := six_cells (lies.on_call D0 hSw); go_simp; try with_reducible rfl
  try simp only [Act.put, List.getElem_toArray, List.getElem_cons_zero, List.getElem_cons_succ, List.setIfInBounds_toArray, List.set_cons_zero, List.set_cons_succ]
  refine wpAnyH_take (i := 28) (v := ?_) rfl (by kernel_rfl) (by kernel_rfl) (by kernel_rfl) (fun _ _ _ h => h) (Or.inl ⟨by rfl, ?_⟩) hHeld ?_
  rotate_left
  · intro w hSw; obtain ⟨c0, c1, c2, c3, c4, c5⟩ := HC.out _ hSw; obtain ⟨⟨x0, x1, x2, x3, x4, x5⟩, _⟩ := six_cells (lies.on_call D0 hSw); go_simp; try with_reducible rfl
  try simp only [Act.put, List.getElem_toArray, List.getElem_cons_zero, List.getElem_cons_succ, List.setIfInBounds_toArray, List.set_cons_zero, List.set_cons_succ]
  refine wpAnyH_take (i := 29) (v := ?_) rfl (by kernel_rfl) (by kernel_rfl) (by kernel_rfl) (fun _ _ _ h => h) (Or.inl ⟨by rfl, ?_⟩) hHeld ?_
  rotate_left
  · intro w hSw; obtain ⟨c0, c1, c2, c3, c4, c5⟩ := HC.out _ hSw; obtain ⟨⟨x0, x1, x2, x3, x4, x5⟩, _⟩ := six_cells (lies.on_call D0 hSw); go_simp; try with_reducible rfl
  try simp only [Act.put, List.getElem_toArray, List.getElem_cons_zero, List.getElem_cons_succ, List.setIfInBounds_toArray, List.set_cons_zero, List.set_cons_succ]
  refine wpAnyH_take (i := 30) (v := ?_) rfl (by kernel_rfl) (by kernel_rfl) (by kernel_rfl) (fun _ _ _ h => h) (Or.inl ⟨by rfl, ?_⟩) hHeld ?_
  rotate_left
  · intro w hSw; obtain ⟨c0, c1, c2, c3, c4, c5⟩ := HC.out _ hSw; obtain ⟨⟨x0, x1, x2, x3, x4, x5⟩, _⟩ := six_cells (lies.on_call D0 hSw); go_simp; try with_reducible rfl
  try simp only [Act.put, List.getElem_toArray, List.getElem_cons_zero, List.getElem_cons_succ, List.setIfInBounds_toArray, List.set_cons_zero, List.set_cons_succ]
  refine wpAnyH_take (i := 31) (v := ?_) rfl (by kernel_rfl) (by kernel_rfl) (by kernel_rfl) (fun _ _ _ h => h) (Or.inl ⟨by rfl, ?_⟩) hHeld ?_
  rotate_left
  · intro w hSw; obtain ⟨c0, c1, c2, c3, c4, c5⟩ := HC.out _ hSw; obtain ⟨⟨x0, x1, x2, x3, x4, x5⟩, _⟩ := six_cells (lies.on_call D0 hSw); go_simp; try with_reducible rfl
  try simp only [Act.put, List.getElem_toArray, List.getElem_cons_zero, List.getElem_cons_succ, List.setIfInBounds_toArray, List.set_cons_zero, List.set_cons_succ]
  refine wpAnyH_take (i := 32) (v := ?_) rfl (by kernel_rfl) (by kernel_rfl) (by kernel_rfl) (fun _ _ _ h => h) (Or.inl ⟨by rfl, ?_⟩) hHeld ?_
  rotate_left
  · intro w hSw; obtain ⟨c0, c1, c2, c3, c4, c5⟩ := HC.out _ hSw; obtain ⟨⟨x0, x1, x2, x3, x4, x5⟩, _⟩ := six_cells (lies.on_call D0 hSw); go_simp; try with_reducible rfl
  try simp only [Act.put, List.getElem_toArray, List.getElem_cons_zero, List.getElem_cons_succ, List.setIfInBounds_toArray, List.set_cons_zero, List.set_cons_succ]
  refine wpAnyH_done (by kernel_rfl) ?_ _
  replace DB := later DB hHeld
  clear hHeld D0
  go_wp2_with fail
  go_ret
  exact ⟨rfl, DB⟩

set_option maxRecDepth 100000 in
theorem lifted (os : Os) (started : os.Started) (H : Type) (enc : TypeId × Value → H) :
    ReturnsInHanded {} Tryd.checked os 3 .any (fun w args => (Rows.minusNamesSpec.pre enc Tryd.prog Tryd.f3 [] false w args ∧ laidMetH Tryd.prog zopen.places w) ∧ sizedMet enc Tryd.prog Tryd.f3 (OpenSpec.ofChange Rows.minusNamesSpec) false w args) (Rows.minusNamesSpec.post enc Tryd.prog Tryd.f3 false true false false) := by
  refine returnsInHanded_of_change_and (C := Tryd.checked) (X := fun w _ => laidMetH Tryd.prog zopen.places w) (fun _ _ _ hh h => h.of_heap hh) law.own started (by kernel_rfl) Tryd.func3
    (ChangeSpec.witness_shaped (enc := enc) (C := Tryd.checked) (os := os) (X := fun w _ => laidMetH Tryd.prog zopen.places w) false (World.doorLaid Tryd.prog 400 os) #[] 8 rfl (World.shaped_of_RefB (by kernel_rfl) (by kernel_rfl)) (by kernel_rfl) (by kernel_rfl) (by kernel_rfl) (zopen.door_met os _)) ?_
  intro W base args ds gs before hval0 hW _ _ hL _
  have hW' := hW
  obtain ⟨p, q, hA0, hV, rfl, _, _⟩ := hW
  have hA : DataW.TrodAll enc Tryd.prog W 0 (fun _ => true) true Tryd.f3.params.toList args.toList ds p := hA0
  rw [Tryd.params3] at hA
  obtain ⟨rfl, rfl, rfl⟩ := trodAll_none hA
  refine (walk  W  (zopen.laid_pl hL)).mono fun e W' ⟨he, hB⟩ => ?_
  subst he
  exact ⟨_, rfl, law.post_true law.laidOut (by kernel_rfl) rfl Tryd.underlying4 rfl hW' (fun h => by subst h; rfl) hB⟩

theorem proved : Rows.MinusNamesSaid :=
  OpenClaim.holds_of_wide 3 Tryd.f3 rfl rfl rfl rfl rfl rfl rfl ⟨rfl, rfl, rfl, rfl, rfl⟩ rfl rfl rfl rfl rfl (by kernel_rfl) Tryd.func3 (by kernel_rfl)
    (of_decide_eq_true (by kernel_rfl)) (by unfold Func.isWrapper; first | (rw [if_pos (by decide +kernel)]; kernel_rfl) | (rw [if_neg (by decide +kernel)]; exact ⟨rfl, rfl⟩))
    (fun os started H enc _ => lifted os started H enc)
theorem card : Rows.MinusNamesCardSaid :=
  Claim7.holds_tied_plain_at .later [] [.data] true (true, "63052b61decf7e22cc573bd623194e0d9c99a30bfaeca1484cbb133092540983") false
    proved (fun _ h => by cases h) (by kernel_rfl) (fun _ h => by cases h) minusNames_row_tie rfl ⟨rfl, rfl⟩ (by kernel_rfl) rfl
    (fun f fn hf hfn => by
      obtain rfl : f = 3 := Option.some.inj ((show Tryd.prog.funcNamed "rallentando/rallentandolaw11.MinusNames" = some 3 by kernel_rfl).symm.trans hf) |>.symm
      obtain rfl : fn = Tryd.f3 := (Option.some.inj (Tryd.func3.symm.trans hfn)).symm
      exact ⟨by kernel_rfl, fun j t ht => by
        rw [Tryd.params3] at ht
        simp at ht⟩)
    (by kernel_rfl)
#print axioms card
end Go.Proofs.YtkfnjdmjojodhaaDoor.minusNames
