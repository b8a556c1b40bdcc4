/-
  CoverNames answers true; the listed variable reads as the program lays it.
-/
import Derived.Test.YthljhijcmdnonaaGreatDoorCoverL
import Derived.Test.YthljhijcmdnonaaGreatDoorCards
import Derived.Test.YthljhijcmdnonaaGreatDoorTie
import Derived.BigQuiet
namespace Go.Proofs.YthljhijcmdnonaaGreatDoor.coverNames
open Go.Joins Go.ChangeShapes Go.WideShapes Go.ChangeAt Go.RowKit num rat dbm Go.Proofs.YthljhijcmdnonaaGreatDoor.tight Go.Proofs.YthljhijcmdnonaaGreatDoor.incl Go.Proofs.YthljhijcmdnonaaGreatDoor.plaw Go.Proofs.YthljhijcmdnonaaGreatDoor.zopen Go.Proofs.YthljhijcmdnonaaGreatDoor.zone Go.Proofs.YthljhijcmdnonaaGreatDoor.zlaw Go.Proofs.YthljhijcmdnonaaGreatDoor.win Go.Proofs.YthljhijcmdnonaaGreatDoor.minus Go.Proofs.YthljhijcmdnonaaGreatDoor.mz Go.Proofs.YthljhijcmdnonaaGreatDoor.mlaw Go.Proofs.YthljhijcmdnonaaGreatDoor.cover Go.Proofs.YthljhijcmdnonaaGreatDoor.claw
open bound hiding up
set_option linter.unusedVariables false
set_option linter.unusedSimpArgs false

theorem zs_lit {W : World} {g : Nat} {cs : Array Value} (l : List (List Int)) (h : lies.Lies W g 24 cs) (k : cs = (flatZ l).toArray) : Zs W.heap.size W (.slice (some ⟨g, 0, none⟩) l.length l.length) l := by
  subst k
  refine .inr ⟨g, 0, _, rfl, lies.lt h, fun i hi j hj => ?_⟩
  rw [Nat.zero_add, lies.cell h, List.getElem?_toArray, flatZ_at l i j hi hj]

set_option maxRecDepth 100000 in
set_option maxHeartbeats 16000000 in
theorem walk (w : World) (hP : Pl w) : Calls Tryz.prog 3 #[] w fun e w' => e = .returned (.bool true) ∧ Below w.heap.size w w' := by
  have P0 := hP
  have DB := Below.refl w.heap.size w
  clear hP
  go_enter Tryz.func3, Tryz.ntmps3
  go_wp2_with fail
  refine (of_is 0 4 8 1 9 0 9 0 w P0 make_z).mono ?_
  rintro e w1 ⟨rfl, hB⟩
  replace P0 := P0.on hB
  replace DB := later DB hB
  clear hB
  go_wp2_with fail
  refine (of_is 0 1 3 1 9 0 9 0 w1 P0 make_p).mono ?_
  rintro e w2 ⟨rfl, hB⟩
  replace P0 := P0.on hB
  replace DB := later DB hB
  clear hB
  go_wp2_with fail
  refine (of_is 1 4 8 (-1) 9 (-2) 7 0 w2 P0 make_q).mono ?_
  rintro e w3 ⟨rfl, hB⟩
  replace P0 := P0.on hB
  replace DB := later DB hB
  clear hB
  go_wp2_with fail
  have X : ∃ x0, x0 = (((w3.alloc (.cells #[.int .i64 8, .int .i64 1, .int .i64 9, .int .i64 0, .int .i64 9, .int .i64 0] 24)).alloc (.cells #[.int .i64 3, .int .i64 1, .int .i64 9, .int .i64 0, .int .i64 9, .int .i64 0] 24)).alloc (.cells #[.int .i64 8, .int .i64 (-1), .int .i64 9, .int .i64 (-2), .int .i64 7, .int .i64 0] 24)).alloc (.cells #[.int .i64 8, .int .i64 1, .int .i64 9, .int .i64 0, .int .i64 9, .int .i64 0, .int .i64 3, .int .i64 1, .int .i64 9, .int .i64 0, .int .i64 9, .int .i64 0, .int .i64 8, .int .i64 (-1), .int .i64 9, .int .i64 (-2), .int .i64 7, .int .i64 0] 24) := ⟨_, rfl⟩
  obtain ⟨v4, hX⟩ := X
  have hA : Below w3.heap.size w3 v4 := by rw [hX]; exact lies.frame_up (bound.up3 w3 _ _ _) _
  have D0 : lies.Lies v4 (w3.heap.size) 24 #[.int .i64 8, .int .i64 1, .int .i64 9, .int .i64 0, .int .i64 9, .int .i64 0] := by rw [hX]; exact lies.on_alloc (lies.on_alloc (lies.on_alloc (lies.made _ _ _) _) _) _
  have D1 : lies.Lies v4 (w3.heap.size + 1) 24 #[.int .i64 3, .int .i64 1, .int .i64 9, .int .i64 0, .int .i64 9, .int .i64 0] := by rw [hX]; exact lies.on_alloc (lies.on_alloc (lies.made_at _ _ _ _ (by simp)) _) _
  have D2 : lies.Lies v4 (w3.heap.size + 1 + 1) 24 #[.int .i64 8, .int .i64 (-1), .int .i64 9, .int .i64 (-2), .int .i64 7, .int .i64 0] := by rw [hX]; exact lies.on_alloc (lies.made_at _ _ _ _ (by simp)) _
  have D3 : lies.Lies v4 (w3.heap.size + 1 + 1 + 1) 24 #[.int .i64 8, .int .i64 1, .int .i64 9, .int .i64 0, .int .i64 9, .int .i64 0, .int .i64 3, .int .i64 1, .int .i64 9, .int .i64 0, .int .i64 9, .int .i64 0, .int .i64 8, .int .i64 (-1), .int .i64 9, .int .i64 (-2), .int .i64 7, .int .i64 0] := by rw [hX]; exact lies.made_at _ _ _ _ (by simp)
  replace P0 := P0.on hA
  replace DB := later DB hA
  clear hA
  rw [← hX]
  clear hX
  generalize w3.heap.size + 1 + 1 + 1 = XD3 at D3 ⊢
  generalize w3.heap.size + 1 + 1 = XD2 at D2 ⊢
  generalize w3.heap.size + 1 = XD1 at D1 ⊢
  generalize w3.heap.size = XD0 at D0 ⊢
  refine (cover.prune_any (some ⟨XD3, 0, none⟩) 3 3 [[8, 1, 9, 0, 9, 0], [3, 1, 9, 0, 9, 0], [8, -1, 9, -2, 7, 0]] v4 P0 (zs_lit [[8, 1, 9, 0, 9, 0], [3, 1, 9, 0, 9, 0], [8, -1, 9, -2, 7, 0]] D3 rfl) (zos_six (all_three zo_z zo_p zo_q)) rfl (by decide)).mono ?_
  rintro e w5 ⟨hB, vp, r1, f1, rfl, hR1, hO1⟩
  replace D0 := lies.on_call D0 hB
  replace D1 := lies.on_call D1 hB
  replace D2 := lies.on_call D2 hB
  replace D3 := lies.on_call D3 hB
  replace P0 := P0.on hB
  replace DB := later DB hB
  clear hB
  clear D3
  obtain ⟨rfl, rfl⟩ := pru_zpq hR1
  have hV : w5.ownsRow _ 24 6 vp 2 (flatZ [[3, 1, 9, 0, 9, 0], [8, -1, 9, -2, 7, 0]]) := hO1
  obtain ⟨g1, cap1, rfl, -⟩ := own2 hV
  have HV1 := Lib.hid (show Zs w5.heap.size w5 (.slice (some ⟨g1, 0, none⟩) 2 cap1) [[3, 1, 9, 0, 9, 0], [8, -1, 9, -2, 7, 0]] from zs_own hV)
  clear hV hO1 hR1
  obtain ⟨⟨kD0_0, kD0_1, kD0_2, kD0_3, kD0_4, kD0_5⟩, -⟩ := six_cells D0
  have kD0_l := lies.lt D0
  obtain ⟨⟨kD1_0, kD1_1, kD1_2, kD1_3, kD1_4, kD1_5⟩, -⟩ := six_cells D1
  have kD1_l := lies.lt D1
  obtain ⟨⟨kD2_0, kD2_1, kD2_2, kD2_3, kD2_4, kD2_5⟩, -⟩ := six_cells D2
  have kD2_l := lies.lt D2
  go_wp2_with fail
  clear kD0_0 kD0_1 kD0_2 kD0_3 kD0_4 kD0_5 kD0_l kD1_0 kD1_1 kD1_2 kD1_3 kD1_4 kD1_5 kD1_l kD2_0 kD2_1 kD2_2 kD2_3 kD2_4 kD2_5 kD2_l
  have hA := bound.up1 w5 (.cells #[.int .i64 8, .int .i64 (-1), .int .i64 9, .int .i64 (-2), .int .i64 7, .int .i64 0, .int .i64 3, .int .i64 1, .int .i64 9, .int .i64 0, .int .i64 9, .int .i64 0, .int .i64 8, .int .i64 (-1), .int .i64 9, .int .i64 (-2), .int .i64 7, .int .i64 0] 24)
  have D4 := lies.made w5 24 #[.int .i64 8, .int .i64 (-1), .int .i64 9, .int .i64 (-2), .int .i64 7, .int .i64 0, .int .i64 3, .int .i64 1, .int .i64 9, .int .i64 0, .int .i64 9, .int .i64 0, .int .i64 8, .int .i64 (-1), .int .i64 9, .int .i64 (-2), .int .i64 7, .int .i64 0]
  replace D0 := lies.on_call D0 hA
  replace D1 := lies.on_call D1 hA
  replace D2 := lies.on_call D2 hA
  replace HV1 := Lib.hid ((HV1.out.below hA).mono hA.size)
  replace P0 := P0.on hA
  replace DB := later DB hA
  clear hA
  generalize w5.heap.size = XD4 at D4 ⊢
  generalize w5.alloc (.cells #[.int .i64 8, .int .i64 (-1), .int .i64 9, .int .i64 (-2), .int .i64 7, .int .i64 0, .int .i64 3, .int .i64 1, .int .i64 9, .int .i64 0, .int .i64 9, .int .i64 0, .int .i64 8, .int .i64 (-1), .int .i64 9, .int .i64 (-2), .int .i64 7, .int .i64 0] 24) = v6 at D0 D1 D2 D4 HV1 P0 DB ⊢
  refine (cover.prune_any (some ⟨XD4, 0, none⟩) 3 3 [[8, -1, 9, -2, 7, 0], [3, 1, 9, 0, 9, 0], [8, -1, 9, -2, 7, 0]] v6 P0 (zs_lit [[8, -1, 9, -2, 7, 0], [3, 1, 9, 0, 9, 0], [8, -1, 9, -2, 7, 0]] D4 rfl) (zos_six (all_three zo_q zo_p zo_q)) rfl (by decide)).mono ?_
  rintro e w7 ⟨hB, vq, r2, f2, rfl, hR2, hO2⟩
  replace D0 := lies.on_call D0 hB
  replace D1 := lies.on_call D1 hB
  replace D2 := lies.on_call D2 hB
  replace D4 := lies.on_call D4 hB
  replace HV1 := Lib.hid ((HV1.out.below hB).mono hB.size)
  replace P0 := P0.on hB
  replace DB := later DB hB
  clear hB
  clear D4
  obtain ⟨rfl, rfl⟩ := pru_qpq hR2
  have hV : w7.ownsRow _ 24 6 vq 2 (flatZ [[3, 1, 9, 0, 9, 0], [8, -1, 9, -2, 7, 0]]) := hO2
  obtain ⟨g2, cap2, rfl, -⟩ := own2 hV
  have HV2 := Lib.hid (show Zs w7.heap.size w7 (.slice (some ⟨g2, 0, none⟩) 2 cap2) [[3, 1, 9, 0, 9, 0], [8, -1, 9, -2, 7, 0]] from zs_own hV)
  clear hV hO2 hR2
  obtain ⟨⟨kD0_0, kD0_1, kD0_2, kD0_3, kD0_4, kD0_5⟩, -⟩ := six_cells D0
  have kD0_l := lies.lt D0
  obtain ⟨⟨kD1_0, kD1_1, kD1_2, kD1_3, kD1_4, kD1_5⟩, -⟩ := six_cells D1
  have kD1_l := lies.lt D1
  go_wp2_with fail
  clear kD0_0 kD0_1 kD0_2 kD0_3 kD0_4 kD0_5 kD0_l kD1_0 kD1_1 kD1_2 kD1_3 kD1_4 kD1_5 kD1_l
  have hA := bound.up1 w7 (.cells #[.int .i64 3, .int .i64 1, .int .i64 9, .int .i64 0, .int .i64 9, .int .i64 0] 24)
  have D5 := lies.made w7 24 #[.int .i64 3, .int .i64 1, .int .i64 9, .int .i64 0, .int .i64 9, .int .i64 0]
  replace D0 := lies.on_call D0 hA
  replace D1 := lies.on_call D1 hA
  replace D2 := lies.on_call D2 hA
  replace HV1 := Lib.hid ((HV1.out.below hA).mono hA.size)
  replace HV2 := Lib.hid ((HV2.out.below hA).mono hA.size)
  replace P0 := P0.on hA
  replace DB := later DB hA
  clear hA
  generalize w7.heap.size = XD5 at D5 ⊢
  generalize w7.alloc (.cells #[.int .i64 3, .int .i64 1, .int .i64 9, .int .i64 0, .int .i64 9, .int .i64 0] 24) = v8 at D0 D1 D2 D5 HV1 HV2 P0 DB ⊢
  refine (cover.witness_any 8 1 9 0 9 0 (some ⟨XD5, 0, none⟩) 1 1 [[3, 1, 9, 0, 9, 0]] v8 P0 zo_z.2.1 (zs_box D5) (zos_six (all_one zo_p)) rfl (by decide)).mono ?_
  rintro e w9 ⟨hB, pa, pb, pc, pd, f3, rfl, hR⟩
  replace D0 := lies.on_call D0 hB
  replace D1 := lies.on_call D1 hB
  replace D2 := lies.on_call D2 hB
  replace D5 := lies.on_call D5 hB
  replace HV1 := Lib.hid ((HV1.out.below hB).mono hB.size)
  replace HV2 := Lib.hid ((HV2.out.below hB).mono hB.size)
  replace P0 := P0.on hB
  replace DB := later DB hB
  clear hB
  clear D5
  obtain ⟨hp, rfl⟩ := wit_told hR
  cases hp
  clear hR
  obtain ⟨⟨kD0_0, kD0_1, kD0_2, kD0_3, kD0_4, kD0_5⟩, -⟩ := six_cells D0
  have kD0_l := lies.lt D0
  go_wp2_with fail
  clear kD0_0 kD0_1 kD0_2 kD0_3 kD0_4 kD0_5 kD0_l
  have X : ∃ x0, x0 = (w9.alloc (.cells #[.int .i64 5, .int .i64 2, .int .i64 4, .int .i64 1] 33)).alloc (.cells #[.int .i64 8, .int .i64 1, .int .i64 9, .int .i64 0, .int .i64 9, .int .i64 0] 24) := ⟨_, rfl⟩
  obtain ⟨v10, hX⟩ := X
  have hA : Below w9.heap.size w9 v10 := by rw [hX]; exact bound.up2 w9 _ _
  have D6 : lies.Lies v10 (w9.heap.size) 33 #[.int .i64 5, .int .i64 2, .int .i64 4, .int .i64 1] := by rw [hX]; exact lies.on_alloc (lies.made _ _ _) _
  have D7 : lies.Lies v10 (w9.heap.size + 1) 24 #[.int .i64 8, .int .i64 1, .int .i64 9, .int .i64 0, .int .i64 9, .int .i64 0] := by rw [hX]; exact lies.made_at _ _ _ _ (by simp)
  replace D0 := lies.on_call D0 hA
  replace D1 := lies.on_call D1 hA
  replace D2 := lies.on_call D2 hA
  replace HV1 := Lib.hid ((HV1.out.below hA).mono hA.size)
  replace HV2 := Lib.hid ((HV2.out.below hA).mono hA.size)
  replace P0 := P0.on hA
  replace DB := later DB hA
  clear hA
  rw [← hX]
  clear hX
  generalize w9.heap.size + 1 = XD7 at D7 ⊢
  generalize w9.heap.size = XD6 at D6 ⊢
  refine (cover.witness_any 8 1 9 0 9 0 (some ⟨XD7, 0, none⟩) 1 1 [[8, 1, 9, 0, 9, 0]] v10 P0 zo_z.2.1 (zs_box D7) (zos_six (all_one zo_z)) rfl (by decide)).mono ?_
  rintro e w11 ⟨hB, qa, qb, qc, qd, f4, rfl, hR⟩
  replace D0 := lies.on_call D0 hB
  replace D1 := lies.on_call D1 hB
  replace D2 := lies.on_call D2 hB
  replace D6 := lies.on_call D6 hB
  replace D7 := lies.on_call D7 hB
  replace HV1 := Lib.hid ((HV1.out.below hB).mono hB.size)
  replace HV2 := Lib.hid ((HV2.out.below hB).mono hB.size)
  replace P0 := P0.on hB
  replace DB := later DB hB
  clear hB
  clear D7
  obtain ⟨hp, rfl⟩ := wit_none hR
  cases hp
  clear hR
  go_wp2_with fail
  have hA := bound.up1 w11 (.cells #[.int .i64 0, .int .i64 0, .int .i64 0, .int .i64 0] 33)
  have D8 := lies.made w11 33 #[.int .i64 0, .int .i64 0, .int .i64 0, .int .i64 0]
  replace D0 := lies.on_call D0 hA
  replace D1 := lies.on_call D1 hA
  replace D2 := lies.on_call D2 hA
  replace D6 := lies.on_call D6 hA
  replace HV1 := Lib.hid ((HV1.out.below hA).mono hA.size)
  replace HV2 := Lib.hid ((HV2.out.below hA).mono hA.size)
  replace P0 := P0.on hA
  replace DB := later DB hA
  clear hA
  generalize w11.heap.size = XD8 at D8 ⊢
  generalize w11.alloc (.cells #[.int .i64 0, .int .i64 0, .int .i64 0, .int .i64 0] 33) = v12 at D0 D1 D2 D6 D8 HV1 HV2 P0 DB ⊢
  clear D8 D0
  have HC1 := Lib.hid (show ∀ W, Below v12.heap.size v12 W → W.cell? ⟨g1, 0, none⟩ = some (.int .i64 3) ∧ W.cell? ⟨g1, 1, none⟩ = some (.int .i64 1) ∧ W.cell? ⟨g1, 2, none⟩ = some (.int .i64 9) ∧ W.cell? ⟨g1, 3, none⟩ = some (.int .i64 0) ∧ W.cell? ⟨g1, 4, none⟩ = some (.int .i64 9) ∧ W.cell? ⟨g1, 5, none⟩ = some (.int .i64 0) ∧ W.cell? ⟨g1, 6, none⟩ = some (.int .i64 8) ∧ W.cell? ⟨g1, 7, none⟩ = some (.int .i64 (-1)) ∧ W.cell? ⟨g1, 8, none⟩ = some (.int .i64 9) ∧ W.cell? ⟨g1, 9, none⟩ = some (.int .i64 (-2)) ∧ W.cell? ⟨g1, 10, none⟩ = some (.int .i64 7) ∧ W.cell? ⟨g1, 11, none⟩ = some (.int .i64 0) from fun W q => by
    obtain ⟨b, off, e, _, _, c0, c1, c2, c3, c4, c5⟩ := zs_at (HV1.out.below q) (k := 0) (by decide)
    obtain ⟨b, off, e2, _, _, d0, d1, d2, d3, d4, d5⟩ := zs_at (HV1.out.below q) (k := 1) (by decide)
    cases e
    cases e2
    rw [Nat.zero_mul, Nat.zero_add] at c0 c1 c2 c3 c4 c5
    rw [Nat.one_mul, Nat.zero_add] at d0 d1 d2 d3 d4 d5
    exact ⟨c0, c1, c2, c3, c4, c5, d0, d1, d2, d3, d4, d5⟩)
  have HC2 := Lib.hid (show ∀ W, Below v12.heap.size v12 W → W.cell? ⟨g2, 0, none⟩ = some (.int .i64 3) ∧ W.cell? ⟨g2, 1, none⟩ = some (.int .i64 1) ∧ W.cell? ⟨g2, 2, none⟩ = some (.int .i64 9) ∧ W.cell? ⟨g2, 3, none⟩ = some (.int .i64 0) ∧ W.cell? ⟨g2, 4, none⟩ = some (.int .i64 9) ∧ W.cell? ⟨g2, 5, none⟩ = some (.int .i64 0) ∧ W.cell? ⟨g2, 6, none⟩ = some (.int .i64 8) ∧ W.cell? ⟨g2, 7, none⟩ = some (.int .i64 (-1)) ∧ W.cell? ⟨g2, 8, none⟩ = some (.int .i64 9) ∧ W.cell? ⟨g2, 9, none⟩ = some (.int .i64 (-2)) ∧ W.cell? ⟨g2, 10, none⟩ = some (.int .i64 7) ∧ W.cell? ⟨g2, 11, none⟩ = some (.int .i64 0) from fun W q => by
    obtain ⟨b, off, e, _, _, c0, c1, c2, c3, c4, c5⟩ := zs_at (HV2.out.below q) (k := 0) (by decide)
    obtain ⟨b, off, e2, _, _, d0, d1, d2, d3, d4, d5⟩ := zs_at (HV2.out.below q) (k := 1) (by decide)
    cases e
    cases e2
    rw [Nat.zero_mul, Nat.zero_add] at c0 c1 c2 c3 c4 c5
    rw [Nat.one_mul, Nat.zero_add] at d0 d1 d2 d3 d4 d5
    exact ⟨c0, c1, c2, c3, c4, c5, d0, d1, d2, d3, d4, d5⟩)
  clear HV1 HV2
  have hq1 : ∀ W, (Op.equalIn 10000 24 (.agg #[.int .i64 3, .int .i64 1, .int .i64 9, .int .i64 0, .int .i64 9, .int .i64 0]) (.agg #[.int .i64 3, .int .i64 1, .int .i64 9, .int .i64 0, .int .i64 9, .int .i64 0])).run Tryz.prog W = .ok true W := fun W => by rw [eq_zone]; simp
  have hq2 : ∀ W, (Op.equalIn 10000 24 (.agg #[.int .i64 8, .int .i64 (-1), .int .i64 9, .int .i64 (-2), .int .i64 7, .int .i64 0]) (.agg #[.int .i64 8, .int .i64 (-1), .int .i64 9, .int .i64 (-2), .int .i64 7, .int .i64 0])).run Tryz.prog W = .ok true W := fun W => by rw [eq_zone]; simp
  refine wp_region_held_drew (S := Below v12.heap.size v12) (by kernel_rfl) (dbm.drawn1 (Below.refl _ _)) (fun hHeld => ?_)
  generalize v12.drew = wD at hHeld ⊢
  refine wpAnyH_take (i := 0) (v := ?_) rfl (by kernel_rfl) (by kernel_rfl) (by kernel_rfl) (fun _ _ _ h => h) (Or.inl ⟨by rfl, ?_⟩) hHeld ?_
  rotate_left
  · intro w hSw; skip; go_simp; try with_reducible rfl
  try simp only [Act.put, List.getElem_toArray, List.getElem_cons_zero, List.getElem_cons_succ, List.setIfInBounds_toArray, List.set_cons_zero, List.set_cons_succ]
  refine wpAnyH_take (i := 1) (v := ?_) rfl (by kernel_rfl) (by kernel_rfl) (by kernel_rfl) (fun _ _ _ h => h) (Or.inl ⟨by rfl, ?_⟩) hHeld ?_
  rotate_left
  · intro w hSw; skip; go_simp; try with_reducible rfl
  try simp only [Act.put, List.getElem_toArray, List.getElem_cons_zero, List.getElem_cons_succ, List.setIfInBounds_toArray, List.set_cons_zero, List.set_cons_succ]
  refine wpAnyH_take (i := 2) (v := ?_) rfl (by kernel_rfl) (by kernel_rfl) (by kernel_rfl) (fun _ _ _ h => h) (Or.inl ⟨by rfl, ?_⟩) hHeld ?_
  rotate_left
  · intro w hSw; skip; go_simp; try with_reducible rfl
  try simp only [Act.put, List.getElem_toArray, List.getElem_cons_zero, List.getElem_cons_succ, List.setIfInBounds_toArray, List.set_cons_zero, List.set_cons_succ]
  refine wpAnyH_take (i := 3) (v := ?_) rfl (by kernel_rfl) (by kernel_rfl) (by kernel_rfl) (fun _ _ _ h => h) (Or.inl ⟨by rfl, ?_⟩) hHeld ?_
  rotate_left
  · intro w hSw; skip; go_simp; try with_reducible rfl
  try simp only [Act.put, List.getElem_toArray, List.getElem_cons_zero, List.getElem_cons_succ, List.setIfInBounds_toArray, List.set_cons_zero, List.set_cons_succ]
  refine wpAnyH_take (i := 4) (v := ?_) rfl (by kernel_rfl) (by kernel_rfl) (by kernel_rfl) (fun _ _ _ h => h) (Or.inl ⟨by rfl, ?_⟩) hHeld ?_
  rotate_left
  · intro w hSw; skip; go_simp; try with_reducible rfl
  try simp only [Act.put, List.getElem_toArray, List.getElem_cons_zero, List.getElem_cons_succ, List.setIfInBounds_toArray, List.set_cons_zero, List.set_cons_succ]
  refine wpAnyH_take (i := 5) (v := ?_) rfl (by kernel_rfl) (by kernel_rfl) (by kernel_rfl) (fun _ _ _ h => h) (Or.inl ⟨by rfl, ?_⟩) hHeld ?_
  rotate_left
  · intro w hSw; skip; go_simp; try with_reducible rfl
  try simp only [Act.put, List.getElem_toArray, List.getElem_cons_zero, List.getElem_cons_succ, List.setIfInBounds_toArray, List.set_cons_zero, List.set_cons_succ]
  refine wpAnyH_take (i := 6) (v := ?_) rfl (by kernel_rfl) (by kernel_rfl) (by kernel_rfl) (fun _ _ _ h => h) (Or.inl ⟨by rfl, ?_⟩) hHeld ?_
  rotate_left
  · intro w hSw; skip; go_simp; try with_reducible rfl
  try simp only [Act.put, List.getElem_toArray, List.getElem_cons_zero, List.getElem_cons_succ, List.setIfInBounds_toArray, List.set_cons_zero, List.set_cons_succ]
  refine wpAnyH_take (i := 7) (v := ?_) rfl (by kernel_rfl) (by kernel_rfl) (by kernel_rfl) (fun _ _ _ h => h) (Or.inl ⟨by rfl, ?_⟩) hHeld ?_
  rotate_left
  · intro w hSw; skip; go_simp; try with_reducible rfl
  try simp only [Act.put, List.getElem_toArray, List.getElem_cons_zero, List.getElem_cons_succ, List.setIfInBounds_toArray, List.set_cons_zero, List.set_cons_succ]
  refine wpAnyH_take (i := 8) (v := ?_) rfl (by kernel_rfl) (by kernel_rfl) (by kernel_rfl) (fun _ _ _ h => h) (Or.inl ⟨by rfl, ?_⟩) hHeld ?_
  rotate_left
  · intro w hSw; skip; go_simp; try with_reducible rfl
  try simp only [Act.put, List.getElem_toArray, List.getElem_cons_zero, List.getElem_cons_succ, List.setIfInBounds_toArray, List.set_cons_zero, List.set_cons_succ]
  refine wpAnyH_take (i := 9) (v := ?_) rfl (by kernel_rfl) (by kernel_rfl) (by kernel_rfl) (fun _ _ _ h => h) (Or.inl ⟨by rfl, ?_⟩) hHeld ?_
  rotate_left
  · intro w hSw; skip; go_simp; try with_reducible rfl
  try simp only [Act.put, List.getElem_toArray, List.getElem_cons_zero, List.getElem_cons_succ, List.setIfInBounds_toArray, List.set_cons_zero, List.set_cons_succ]
  refine wpAnyH_take (i := 10) (v := ?_) rfl (by kernel_rfl) (by kernel_rfl) (by kernel_rfl) (fun _ _ _ h => h) (Or.inl ⟨by rfl, ?_⟩) hHeld ?_
  rotate_left
  · intro w hSw; obtain ⟨c0, c1, c2, c3, c4, c5, c6, c7, c8, c9, c10, c11⟩ := HC1.out _ hSw; go_simp; try with_reducible rfl
  try simp only [Act.put, List.getElem_toArray, List.getElem_cons_zero, List.getElem_cons_succ, List.setIfInBounds_toArray, List.set_cons_zero, List.set_cons_succ]
  refine wpAnyH_take (i := 11) (v := ?_) rfl (by kernel_rfl) (by kernel_rfl) (by kernel_rfl) (fun _ _ _ h => h) (Or.inl ⟨by rfl, ?_⟩) hHeld ?_
  rotate_left
  · intro w hSw; obtain ⟨⟨x0, x1, x2, x3, x4, x5⟩, _⟩ := six_cells (lies.on_call D1 hSw); go_simp; try with_reducible rfl
  try simp only [Act.put, List.getElem_toArray, List.getElem_cons_zero, List.getElem_cons_succ, List.setIfInBounds_toArray, List.set_cons_zero, List.set_cons_succ]
  refine wpAnyH_take (i := 12) (v := ?_) rfl (by kernel_rfl) (by kernel_rfl) (by kernel_rfl) (fun _ _ _ h => h) (Or.inl ⟨by rfl, ?_⟩) hHeld ?_
  rotate_left
  · intro w hSw; skip; go_simp; try with_reducible rfl
  try simp only [Act.put, List.getElem_toArray, List.getElem_cons_zero, List.getElem_cons_succ, List.setIfInBounds_toArray, List.set_cons_zero, List.set_cons_succ]
  refine wpAnyH_take (i := 13) (v := ?_) rfl (by kernel_rfl) (by kernel_rfl) (by kernel_rfl) (fun _ _ _ h => h) (Or.inl ⟨by rfl, ?_⟩) hHeld ?_
  rotate_left
  · intro w hSw; skip; go_simp; try with_reducible rfl
  try simp only [Act.put, List.getElem_toArray, List.getElem_cons_zero, List.getElem_cons_succ, List.setIfInBounds_toArray, List.set_cons_zero, List.set_cons_succ]
  refine wpAnyH_take (i := 14) (v := ?_) rfl (by kernel_rfl) (by kernel_rfl) (by kernel_rfl) (fun _ _ _ h => h) (Or.inl ⟨by rfl, ?_⟩) hHeld ?_
  rotate_left
  · intro w hSw; skip; go_simp; try with_reducible rfl
  try simp only [Act.put, List.getElem_toArray, List.getElem_cons_zero, List.getElem_cons_succ, List.setIfInBounds_toArray, List.set_cons_zero, List.set_cons_succ]
  refine wpAnyH_take (i := 15) (v := ?_) rfl (by kernel_rfl) (by kernel_rfl) (by kernel_rfl) (fun _ _ _ h => h) (Or.inl ⟨by rfl, ?_⟩) hHeld ?_
  rotate_left
  · intro w hSw; skip; go_simp; try with_reducible rfl
  try simp only [Act.put, List.getElem_toArray, List.getElem_cons_zero, List.getElem_cons_succ, List.setIfInBounds_toArray, List.set_cons_zero, List.set_cons_succ]
  refine wpAnyH_take (i := 16) (v := ?_) rfl (by kernel_rfl) (by kernel_rfl) (by kernel_rfl) (fun _ _ _ h => h) (Or.inl ⟨by rfl, ?_⟩) hHeld ?_
  rotate_left
  · intro w hSw; skip; go_simp; try with_reducible rfl
  try simp only [Act.put, List.getElem_toArray, List.getElem_cons_zero, List.getElem_cons_succ, List.setIfInBounds_toArray, List.set_cons_zero, List.set_cons_succ]
  refine wpAnyH_take (i := 17) (v := ?_) rfl (by kernel_rfl) (by kernel_rfl) (by kernel_rfl) (fun _ _ _ h => h) (Or.inl ⟨by rfl, ?_⟩) hHeld ?_
  rotate_left
  · intro w hSw; obtain ⟨c0, c1, c2, c3, c4, c5, c6, c7, c8, c9, c10, c11⟩ := HC1.out _ hSw; go_simp; try with_reducible rfl
  try simp only [Act.put, List.getElem_toArray, List.getElem_cons_zero, List.getElem_cons_succ, List.setIfInBounds_toArray, List.set_cons_zero, List.set_cons_succ]
  refine wpAnyH_take (i := 18) (v := ?_) rfl (by kernel_rfl) (by kernel_rfl) (by kernel_rfl) (fun _ _ _ h => h) (Or.inl ⟨by rfl, ?_⟩) hHeld ?_
  rotate_left
  · intro w hSw; obtain ⟨⟨x0, x1, x2, x3, x4, x5⟩, _⟩ := six_cells (lies.on_call D2 hSw); go_simp; try with_reducible rfl
  try simp only [Act.put, List.getElem_toArray, List.getElem_cons_zero, List.getElem_cons_succ, List.setIfInBounds_toArray, List.set_cons_zero, List.set_cons_succ]
  refine wpAnyH_take (i := 19) (v := ?_) rfl (by kernel_rfl) (by kernel_rfl) (by kernel_rfl) (fun _ _ _ h => h) (Or.inl ⟨by rfl, ?_⟩) hHeld ?_
  rotate_left
  · intro w hSw; skip; go_simp; try with_reducible rfl
  try simp only [Act.put, List.getElem_toArray, List.getElem_cons_zero, List.getElem_cons_succ, List.setIfInBounds_toArray, List.set_cons_zero, List.set_cons_succ]
  refine wpAnyH_take (i := 20) (v := ?_) rfl (by kernel_rfl) (by kernel_rfl) (by kernel_rfl) (fun _ _ _ h => h) (Or.inl ⟨by rfl, ?_⟩) hHeld ?_
  rotate_left
  · intro w hSw; skip; go_simp; try with_reducible rfl
  try simp only [Act.put, List.getElem_toArray, List.getElem_cons_zero, List.getElem_cons_succ, List.setIfInBounds_toArray, List.set_cons_zero, List.set_cons_succ]
  refine wpAnyH_take (i := 21) (v := ?_) rfl (by kernel_rfl) (by kernel_rfl) (by kernel_rfl) (fun _ _ _ h => h) (Or.inl ⟨by rfl, ?_⟩) hHeld ?_
  rotate_left
  · intro w hSw; skip; go_simp; try with_reducible rfl
  try simp only [Act.put, List.getElem_toArray, List.getElem_cons_zero, List.getElem_cons_succ, List.setIfInBounds_toArray, List.set_cons_zero, List.set_cons_succ]
  refine wpAnyH_take (i := 22) (v := ?_) rfl (by kernel_rfl) (by kernel_rfl) (by kernel_rfl) (fun _ _ _ h => h) (Or.inl ⟨by rfl, ?_⟩) hHeld ?_
  rotate_left
  · intro w hSw; skip; go_simp; try with_reducible rfl
  try simp only [Act.put, List.getElem_toArray, List.getElem_cons_zero, List.getElem_cons_succ, List.setIfInBounds_toArray, List.set_cons_zero, List.set_cons_succ]
  refine wpAnyH_take (i := 23) (v := ?_) rfl (by kernel_rfl) (by kernel_rfl) (by kernel_rfl) (fun _ _ _ h => h) (Or.inl ⟨by rfl, ?_⟩) hHeld ?_
  rotate_left
  · intro w hSw; skip; go_simp; try with_reducible rfl
  try simp only [Act.put, List.getElem_toArray, List.getElem_cons_zero, List.getElem_cons_succ, List.setIfInBounds_toArray, List.set_cons_zero, List.set_cons_succ]
  refine wpAnyH_take (i := 24) (v := ?_) rfl (by kernel_rfl) (by kernel_rfl) (by kernel_rfl) (fun _ _ _ h => h) (Or.inl ⟨by rfl, ?_⟩) hHeld ?_
  rotate_left
  · intro w hSw; skip; go_simp; try with_reducible rfl
  try simp only [Act.put, List.getElem_toArray, List.getElem_cons_zero, List.getElem_cons_succ, List.setIfInBounds_toArray, List.set_cons_zero, List.set_cons_succ]
  refine wpAnyH_take (i := 25) (v := ?_) rfl (by kernel_rfl) (by kernel_rfl) (by kernel_rfl) (fun _ _ _ h => h) (Or.inl ⟨by rfl, ?_⟩) hHeld ?_
  rotate_left
  · intro w hSw; skip; go_simp; try with_reducible rfl
  try simp only [Act.put, List.getElem_toArray, List.getElem_cons_zero, List.getElem_cons_succ, List.setIfInBounds_toArray, List.set_cons_zero, List.set_cons_succ]
  refine wpAnyH_take (i := 26) (v := ?_) rfl (by kernel_rfl) (by kernel_rfl) (by kernel_rfl) (fun _ _ _ h => h) (Or.inl ⟨by rfl, ?_⟩) hHeld ?_
  rotate_left
  · intro w hSw; skip; go_simp; try with_reducible rfl
  try simp only [Act.put, List.getElem_toArray, List.getElem_cons_zero, List.getElem_cons_succ, List.setIfInBounds_toArray, List.set_cons_zero, List.set_cons_succ]
  refine wpAnyH_take (i := 27) (v := ?_) rfl (by kernel_rfl) (by kernel_rfl) (by kernel_rfl) (fun _ _ _ h => h) (Or.inl ⟨by rfl, ?_⟩) hHeld ?_
  rotate_left
  · intro w hSw; skip; go_simp; try with_reducible rfl
  try simp only [Act.put, List.getElem_toArray, List.getElem_cons_zero, List.getElem_cons_succ, List.setIfInBounds_toArray, List.set_cons_zero, List.set_cons_succ]
  refine wpAnyH_take (i := 28) (v := ?_) rfl (by kernel_rfl) (by kernel_rfl) (by kernel_rfl) (fun _ _ _ h => h) (Or.inl ⟨by rfl, ?_⟩) hHeld ?_
  rotate_left
  · intro w hSw; skip; go_simp; try with_reducible rfl
  try simp only [Act.put, List.getElem_toArray, List.getElem_cons_zero, List.getElem_cons_succ, List.setIfInBounds_toArray, List.set_cons_zero, List.set_cons_succ]
  refine wpAnyH_take (i := 29) (v := ?_) rfl (by kernel_rfl) (by kernel_rfl) (by kernel_rfl) (fun _ _ _ h => h) (Or.inl ⟨by rfl, ?_⟩) hHeld ?_
  rotate_left
  · intro w hSw; skip; go_simp; try with_reducible rfl
  try simp only [Act.put, List.getElem_toArray, List.getElem_cons_zero, List.getElem_cons_succ, List.setIfInBounds_toArray, List.set_cons_zero, List.set_cons_succ]
  refine wpAnyH_take (i := 30) (v := ?_) rfl (by kernel_rfl) (by kernel_rfl) (by kernel_rfl) (fun _ _ _ h => h) (Or.inl ⟨by rfl, ?_⟩) hHeld ?_
  rotate_left
  · intro w hSw; skip; go_simp; try with_reducible rfl
  try simp only [Act.put, List.getElem_toArray, List.getElem_cons_zero, List.getElem_cons_succ, List.setIfInBounds_toArray, List.set_cons_zero, List.set_cons_succ]
  refine wpAnyH_take (i := 31) (v := ?_) rfl (by kernel_rfl) (by kernel_rfl) (by kernel_rfl) (fun _ _ _ h => h) (Or.inl ⟨by rfl, ?_⟩) hHeld ?_
  rotate_left
  · intro w hSw; skip; go_simp; try with_reducible rfl
  try simp only [Act.put, List.getElem_toArray, List.getElem_cons_zero, List.getElem_cons_succ, List.setIfInBounds_toArray, List.set_cons_zero, List.set_cons_succ]
  refine wpAnyH_take (i := 32) (v := ?_) rfl (by kernel_rfl) (by kernel_rfl) (by kernel_rfl) (fun _ _ _ h => h) (Or.inl ⟨by rfl, ?_⟩) hHeld ?_
  rotate_left
  · intro w hSw; skip; go_simp; try with_reducible rfl
  try simp only [Act.put, List.getElem_toArray, List.getElem_cons_zero, List.getElem_cons_succ, List.setIfInBounds_toArray, List.set_cons_zero, List.set_cons_succ]
  refine wpAnyH_take (i := 33) (v := ?_) rfl (by kernel_rfl) (by kernel_rfl) (by kernel_rfl) (fun _ _ _ h => h) (Or.inl ⟨by rfl, ?_⟩) hHeld ?_
  rotate_left
  · intro w hSw; obtain ⟨c0, c1, c2, c3, c4, c5, c6, c7, c8, c9, c10, c11⟩ := HC2.out _ hSw; go_simp; try with_reducible rfl
  try simp only [Act.put, List.getElem_toArray, List.getElem_cons_zero, List.getElem_cons_succ, List.setIfInBounds_toArray, List.set_cons_zero, List.set_cons_succ]
  refine wpAnyH_take (i := 34) (v := ?_) rfl (by kernel_rfl) (by kernel_rfl) (by kernel_rfl) (fun _ _ _ h => h) (Or.inl ⟨by rfl, ?_⟩) hHeld ?_
  rotate_left
  · intro w hSw; skip; go_simp; try with_reducible rfl
  try simp only [Act.put, List.getElem_toArray, List.getElem_cons_zero, List.getElem_cons_succ, List.setIfInBounds_toArray, List.set_cons_zero, List.set_cons_succ]
  refine wpAnyH_take (i := 35) (v := ?_) rfl (by kernel_rfl) (by kernel_rfl) (by kernel_rfl) (fun _ _ _ h => h) (Or.inl ⟨by rfl, ?_⟩) hHeld ?_
  rotate_left
  · intro w hSw; skip; go_simp; try with_reducible rfl
  try simp only [Act.put, List.getElem_toArray, List.getElem_cons_zero, List.getElem_cons_succ, List.setIfInBounds_toArray, List.set_cons_zero, List.set_cons_succ]
  refine wpAnyH_take (i := 36) (v := ?_) rfl (by kernel_rfl) (by kernel_rfl) (by kernel_rfl) (fun _ _ _ h => h) (Or.inl ⟨by rfl, ?_⟩) hHeld ?_
  rotate_left
  · intro w hSw; obtain ⟨c0, c1, c2, c3, c4, c5, c6, c7, c8, c9, c10, c11⟩ := HC2.out _ hSw; go_simp; try with_reducible rfl
  try simp only [Act.put, List.getElem_toArray, List.getElem_cons_zero, List.getElem_cons_succ, List.setIfInBounds_toArray, List.set_cons_zero, List.set_cons_succ]
  refine wpAnyH_ready (rs := [37]) (by kernel_rfl) (by simp) (AllReadyH.cons rfl (fun K hK => ?_) AllReadyH.nil)
  go_simp
  refine (cmp_is 3 1 9 0 9 0 8 (-1) 9 (-2) 7 0 _).mono ?_
  rintro e u1 ⟨rfl, hB⟩
  refine hK.out _ _ (hHeld.trans (hB.mono hHeld.size)) (fun hNew => ?_)
  clear hB
  clear hHeld hK K
  have hHeld := hNew
  clear hNew
  try simp only [Act.put, List.getElem_toArray, List.getElem_cons_zero, List.getElem_cons_succ, List.setIfInBounds_toArray, List.set_cons_zero, List.set_cons_succ]
  rw [show cmpL [3, 1, 9, 0, 9, 0] [8, -1, 9, -2, 7, 0] = -1 from by decide]
  refine wpAnyH_take (i := 38) (v := ?_) rfl (by kernel_rfl) (by kernel_rfl) (by kernel_rfl) (fun _ _ _ h => h) (Or.inl ⟨by rfl, ?_⟩) hHeld ?_
  rotate_left
  · intro w hSw; skip; go_simp; try with_reducible rfl
  try simp only [Act.put, List.getElem_toArray, List.getElem_cons_zero, List.getElem_cons_succ, List.setIfInBounds_toArray, List.set_cons_zero, List.set_cons_succ]
  refine wpAnyH_take (i := 39) (v := ?_) rfl (by kernel_rfl) (by kernel_rfl) (by kernel_rfl) (fun _ _ _ h => h) (Or.inl ⟨by rfl, ?_⟩) hHeld ?_
  rotate_left
  · intro w hSw; skip; go_simp; try with_reducible rfl
  try simp only [Act.put, List.getElem_toArray, List.getElem_cons_zero, List.getElem_cons_succ, List.setIfInBounds_toArray, List.set_cons_zero, List.set_cons_succ]
  refine wpAnyH_take (i := 40) (v := ?_) rfl (by kernel_rfl) (by kernel_rfl) (by kernel_rfl) (fun _ _ _ h => h) (Or.inl ⟨by rfl, ?_⟩) hHeld ?_
  rotate_left
  · intro w hSw; skip; go_simp; try with_reducible rfl
  try simp only [Act.put, List.getElem_toArray, List.getElem_cons_zero, List.getElem_cons_succ, List.setIfInBounds_toArray, List.set_cons_zero, List.set_cons_succ]
  refine wpAnyH_done (by kernel_rfl) ?_ _
  clear HC1 HC2 hq1 hq2 D1 D2
  replace D6 := lies.on_call D6 hHeld
  replace P0 := P0.on hHeld
  replace DB := later DB hHeld
  clear hHeld
  go_wp2_with fail
  refine (claw.alive_yes u1 P0).mono ?_
  rintro e w13 ⟨rfl, hB⟩
  replace D6 := lies.on_call D6 hB
  replace P0 := P0.on hB
  replace DB := later DB hB
  clear hB
  have hq3 : ∀ W, (Op.equalIn 10000 33 (.agg #[.int .i64 5, .int .i64 2, .int .i64 4, .int .i64 1]) (.agg #[.int .i64 5, .int .i64 2, .int .i64 4, .int .i64 1])).run Tryz.prog W = .ok true W := fun W => by kernel_rfl
  obtain ⟨⟨kD6_0, kD6_1, kD6_2, kD6_3⟩, -⟩ := four_cells D6
  have kD6_l := lies.lt D6
  go_wp2_with fail
  go_ret
  exact ⟨rfl, DB⟩

set_option maxRecDepth 100000 in
theorem lifted (os : Os) (started : os.Started) (H : Type) (enc : TypeId × Value → H) :
    ReturnsInHanded {} Tryz.checked os 3 .any (fun w args => (Rows.coverNamesSpec.pre enc Tryz.prog Tryz.f3 [] false w args ∧ laidMetH Tryz.prog zopen.places w) ∧ sizedMet enc Tryz.prog Tryz.f3 (OpenSpec.ofChange Rows.coverNamesSpec) false w args) (Rows.coverNamesSpec.post enc Tryz.prog Tryz.f3 false true false false) := by
  refine returnsInHanded_of_change_and (C := Tryz.checked) (X := fun w _ => laidMetH Tryz.prog zopen.places w) (fun _ _ _ hh h => h.of_heap hh) law.own started (by kernel_rfl) Tryz.func3
    (ChangeSpec.witness_shaped (enc := enc) (C := Tryz.checked) (os := os) (X := fun w _ => laidMetH Tryz.prog zopen.places w) false (World.doorLaid Tryz.prog 400 os) #[] 8 rfl (World.shaped_of_RefB (by kernel_rfl) (by kernel_rfl)) (by kernel_rfl) (by kernel_rfl) (by kernel_rfl) (zopen.door_met os _)) ?_
  intro W base args ds gs before hval0 hW _ _ hL _
  have hW' := hW
  obtain ⟨p, q, hA0, hV, rfl, _, _⟩ := hW
  have hA : DataW.TrodAll enc Tryz.prog W 0 (fun _ => true) true Tryz.f3.params.toList args.toList ds p := hA0
  rw [Tryz.params3] at hA
  obtain ⟨rfl, rfl, rfl⟩ := trodAll_none hA
  refine (walk  W  (zopen.laid_pl hL)).mono fun e W' ⟨he, hB⟩ => ?_
  subst he
  exact ⟨_, rfl, law.post_true law.laidOut (by kernel_rfl) rfl Tryz.underlying4 rfl hW' (fun h => by subst h; rfl) hB⟩

theorem proved : Rows.CoverNamesSaid :=
  OpenClaim.holds_of_wide 3 Tryz.f3 rfl rfl rfl rfl rfl rfl rfl ⟨rfl, rfl, rfl, rfl, rfl⟩ rfl rfl rfl rfl rfl (by kernel_rfl) Tryz.func3 (by kernel_rfl)
    (of_decide_eq_true (by kernel_rfl)) (by unfold Func.isWrapper; first | (rw [if_pos (by decide +kernel)]; kernel_rfl) | (rw [if_neg (by decide +kernel)]; exact ⟨rfl, rfl⟩))
    (fun os started H enc _ => lifted os started H enc)
theorem card : Rows.CoverNamesCardSaid :=
  Claim7.holds_tied_plain_at .later [] [.data] true (true, "14f844009dc27b5cd5b058a6c83267eb1160fb1e72c2b548f020a9a3be281fff") false
    proved (fun _ h => by cases h) (by kernel_rfl) (fun _ h => by cases h) coverNames_row_tie rfl ⟨rfl, rfl⟩ (by kernel_rfl) rfl
    (fun f fn hf hfn => by
      obtain rfl : f = 3 := Option.some.inj ((show Tryz.prog.funcNamed "rallentando/rallentandolaw12.CoverNames" = some 3 by kernel_rfl).symm.trans hf) |>.symm
      obtain rfl : fn = Tryz.f3 := (Option.some.inj (Tryz.func3.symm.trans hfn)).symm
      exact ⟨by kernel_rfl, fun j t ht => by
        rw [Tryz.params3] at ht
        simp at ht⟩)
    (by kernel_rfl)
#print axioms card
end Go.Proofs.YthljhijcmdnonaaGreatDoor.coverNames
