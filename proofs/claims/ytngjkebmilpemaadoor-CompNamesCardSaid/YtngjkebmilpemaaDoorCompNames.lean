/-
  CompNames answers true; the listed variable reads as the program lays it.
-/
import Derived.Test.YtngjkebmilpemaaDoorCompM
import Derived.Test.YtngjkebmilpemaaDoorCards
import Derived.Test.YtngjkebmilpemaaDoorTie
import Derived.BigQuiet
namespace Go.Proofs.YtngjkebmilpemaaDoor.compNames
open Go.Joins Go.ChangeShapes Go.WideShapes Go.ChangeAt Go.RowKit num rat dbm Go.Proofs.YtngjkebmilpemaaDoor.tight Go.Proofs.YtngjkebmilpemaaDoor.incl Go.Proofs.YtngjkebmilpemaaDoor.plaw Go.Proofs.YtngjkebmilpemaaDoor.zopen Go.Proofs.YtngjkebmilpemaaDoor.zone Go.Proofs.YtngjkebmilpemaaDoor.zlaw Go.Proofs.YtngjkebmilpemaaDoor.comp Go.Proofs.YtngjkebmilpemaaDoor.claw
open bound hiding up
set_option linter.unusedVariables false
set_option linter.unusedSimpArgs false

theorem make_k : MakeR (2, false, 2, false, false) (0, false, 1, false, false) ((-2), false, (-1), false, false) [5, -3, 3, 1, -1, 5] 0 := by
  have h0 : MayP (2, false, 2, false, false) := ⟨⟨by decide, by decide⟩, .inr ⟨rfl, ⟨by decide, by decide⟩, by decide⟩⟩
  have h1 : MayP (0, false, 1, false, false) := ⟨⟨by decide, by decide⟩, .inr ⟨rfl, ⟨by decide, by decide⟩, by decide⟩⟩
  have h2 : MayP ((-2), false, (-1), false, false) := ⟨⟨by decide, by decide⟩, .inr ⟨rfl, ⟨by decide, by decide⟩, by decide⟩⟩
  have e : fullT (spanZ (2, false, 2, false, false) (0, false, 1, false, false) ((-2), false, (-1), false, false)) = [1, -3, 1, 5, 1, 5, 3, -1, 1] := by decide +kernel
  obtain ⟨k1, k2⟩ := tlaw.ok_cl (m := 3) (by decide) (ts := [1, -3, 1, 5, 1, 5, 3, -1, 1]) (us := [1, -3, 1, 5, 1, 5, 3, -1, 1]) (by decide +kernel) (by decide +kernel)
  have k1 : OkD 3 [1, -3, 1, 5, 1, 5, 3, -1, 1] := k1
  have k2 : clT 3 [1, -3, 1, 5, 1, 5, 3, -1, 1] = [1, -3, 1, 5, 1, 5, 3, -1, 1] := k2
  unfold MakeR
  rw [e, k2]
  exact .inr (.inr (.inr ⟨h0, h1, h2, k1, by decide, rfl, rfl⟩))
theorem may_f : MayZ [7, 9223372036854775807, 9223372036854775807, 9223372036854775807, 9223372036854775807, 9223372036854775807] := by
  obtain ⟨k1, k2⟩ := tlaw.ok_cl (m := 3) (by decide) (ts := [1, 9223372036854775807, 9223372036854775807, 7, 1, 9223372036854775807, 9223372036854775807, 9223372036854775807, 1]) (us := [1, 9223372036854775807, 9223372036854775807, 7, 1, 9223372036854775807, 9223372036854775807, 9223372036854775807, 1]) (by decide +kernel) (by decide +kernel)
  exact ⟨k1, k2⟩
theorem may_f_tops : Tops [7, 9223372036854775807, 9223372036854775807, 9223372036854775807, 9223372036854775807, 9223372036854775807] := by unfold Tops; decide
theorem comp_no : CompR [3, 1, 5, -3, 5, -1] [3, 1, 5, -3, 5, -1] zero6 6 := by
  refine .inr (.inl ⟨may_a, may_a, fun h => ?_, rfl, rfl⟩)
  have e : tlaw.okB 4 (by decide) (bothT [3, 1, 5, -3, 5, -1] [3, 1, 5, -3, 5, -1]) = false := by decide +kernel
  have := (tlaw.okB_iff (m := 4) (by decide) _).2 h
  rw [e] at this
  cases this
theorem comp_aa (w : World) (hP : Pl w) : Calls Tryd.prog 10 #[.agg #[.int .i64 3, .int .i64 1, .int .i64 5, .int .i64 (-3), .int .i64 5, .int .i64 (-1)], .agg #[.int .i64 3, .int .i64 1, .int .i64 5, .int .i64 (-3), .int .i64 5, .int .i64 (-1)]] w fun e w' => e = .returned (.tuple #[.agg #[.int .i64 0, .int .i64 0, .int .i64 0, .int .i64 0, .int .i64 0, .int .i64 0], .int .i64 6]) ∧ Below w.heap.size w w' := by
  refine (comp_any 3 1 5 (-3) 5 (-1) 3 1 5 (-3) 5 (-1) w hP may_a_tops may_a_tops).mono fun e w' h => ?_
  obtain ⟨hB, z0, z1, z2, z3, z4, z5, f, rfl, hR⟩ := h
  obtain ⟨e1, rfl⟩ := comp_one comp_no hR
  obtain ⟨rfl, rfl, rfl, rfl, rfl, rfl⟩ : z0 = 0 ∧ z1 = 0 ∧ z2 = 0 ∧ z3 = 0 ∧ z4 = 0 ∧ z5 = 0 := by simpa [zero6] using e1
  exact ⟨rfl, hB⟩
theorem back_is (w : World) (hP : Pl w) : Calls Tryd.prog 11 #[.agg #[.int .i64 3, .int .i64 1, .int .i64 5, .int .i64 (-3), .int .i64 5, .int .i64 (-1)]] w fun e w' => e = .returned (.tuple #[.agg #[.int .i64 5, .int .i64 (-3), .int .i64 3, .int .i64 1, .int .i64 (-1), .int .i64 5], .int .i64 0]) ∧ Below w.heap.size w w' := by
  refine (back_any 3 1 5 (-3) 5 (-1) w hP may_a_tops).mono fun e w' h => ?_
  obtain ⟨hB, z0, z1, z2, z3, z4, z5, f, rfl, hR⟩ := h
  rcases hR with ⟨n, _⟩ | ⟨_, e1, rfl⟩
  · exact (n may_a).elim
  · have e2 : backT [3, 1, 5, -3, 5, -1] = [5, -3, 3, 1, -1, 5] := rfl
    rw [e2] at e1
    obtain ⟨rfl, rfl, rfl, rfl, rfl, rfl⟩ : z0 = 5 ∧ z1 = -3 ∧ z2 = 3 ∧ z3 = 1 ∧ z4 = -1 ∧ z5 = 5 := by simpa using e1
    exact ⟨rfl, hB⟩
theorem made_is (w : World) (hP : Pl w) : Calls Tryd.prog 12 #[.agg #[.int .i64 2, .bool false, .int .i64 2, .bool false, .bool false], .agg #[.int .i64 0, .bool false, .int .i64 1, .bool false, .bool false], .agg #[.int .i64 (-2), .bool false, .int .i64 (-1), .bool false, .bool false]] w fun e w' => e = .returned (.tuple #[.agg #[.int .i64 5, .int .i64 (-3), .int .i64 3, .int .i64 1, .int .i64 (-1), .int .i64 5], .int .i64 0]) ∧ Below w.heap.size w w' := by
  refine (make_any 2 false 2 false false 0 false 1 false false (-2) false (-1) false false w hP).mono fun e w' h => ?_
  obtain ⟨hB, z0, z1, z2, z3, z4, z5, f, rfl, hR⟩ := h
  obtain ⟨e1, rfl⟩ := make_one make_k hR
  obtain ⟨rfl, rfl, rfl, rfl, rfl, rfl⟩ : z0 = 5 ∧ z1 = -3 ∧ z2 = 3 ∧ z3 = 1 ∧ z4 = -1 ∧ z5 = 5 := by simpa using e1
  exact ⟨rfl, hB⟩
theorem firsts_is (w : World) (hP : Pl w) : Calls Tryd.prog 13 #[.agg #[.int .i64 3, .int .i64 1, .int .i64 5, .int .i64 (-3), .int .i64 5, .int .i64 (-1)]] w fun e w' => e = .returned (.tuple #[.agg #[.int .i64 0, .bool false, .int .i64 1, .bool false, .bool false], .int .i64 0]) ∧ Below w.heap.size w w' := by
  refine (firsts_any 3 1 5 (-3) 5 (-1) w hP may_a_tops).mono fun e w' h => ?_
  obtain ⟨hB, lo, ls, hi, hs, op, f, rfl, hR⟩ := h
  rcases hR with ⟨n, _⟩ | ⟨_, n, _⟩ | ⟨_, _, n, _⟩ | ⟨_, _, _, e1, rfl⟩
  · exact (n may_a).elim
  · exact absurd n (by decide)
  · exact absurd n (by decide)
  · have e3 : ((-(([3, 1, 5, -3, 5, -1] : List Int)[1]?.getD 0 / 2) : Int), bS (([3, 1, 5, -3, 5, -1] : List Int)[1]?.getD 0), (([3, 1, 5, -3, 5, -1] : List Int)[0]?.getD 0 / 2 : Int), bS (([3, 1, 5, -3, 5, -1] : List Int)[0]?.getD 0), false) = ((0 : Int), false, (1 : Int), false, false) := by decide +kernel
    rw [e3] at e1
    simp only [Prod.mk.injEq] at e1
    obtain ⟨rfl, rfl, rfl, rfl, rfl⟩ := e1
    exact ⟨rfl, hB⟩
theorem free_is (g : Nat) (w : World) (hP : Pl w) (hg : lies.Lies w g 22 (cellsOf [1, 9223372036854775807, 9223372036854775807, 7, 1, 9223372036854775807, 9223372036854775807, 9223372036854775807, 1])) : Calls Tryd.prog 14 #[.agg #[.int .i64 3, .slice (some ⟨g, 0, none⟩) 9 9]] w fun e w' => e = .returned (.tuple #[.agg #[.int .i64 7, .int .i64 9223372036854775807, .int .i64 9223372036854775807, .int .i64 9223372036854775807, .int .i64 9223372036854775807, .int .i64 9223372036854775807], .int .i64 0]) ∧ Below w.heap.size w w' := by
  refine (of_any 3 _ [1, 9223372036854775807, 9223372036854775807, 7, 1, 9223372036854775807, 9223372036854775807, 9223372036854775807, 1] w hP (dlaw.own_ints (cap := 9) hg) (by decide) (by unfold Tops; decide)).mono fun e w' h => ?_
  obtain ⟨hB, z0, z1, z2, z3, z4, z5, f, rfl, hR⟩ := h
  have k1 : OkD 3 [1, 9223372036854775807, 9223372036854775807, 7, 1, 9223372036854775807, 9223372036854775807, 9223372036854775807, 1] := may_f.1
  have k2 : clT 3 [1, 9223372036854775807, 9223372036854775807, 7, 1, 9223372036854775807, 9223372036854775807, 9223372036854775807, 1] = [1, 9223372036854775807, 9223372036854775807, 7, 1, 9223372036854775807, 9223372036854775807, 9223372036854775807, 1] := may_f.2
  unfold OfR at hR
  rw [k2] at hR
  rcases hR with ⟨n, _⟩ | ⟨_, n, _⟩ | ⟨_, _, n, _⟩ | ⟨_, _, n, _⟩ | ⟨_, _, _, e1, rfl⟩
  · exact (n k1.1).elim
  · exact (n rfl).elim
  · exact (n k1).elim
  · exact (n k1.1).elim
  · have e2 : shortT [1, 9223372036854775807, 9223372036854775807, 7, 1, 9223372036854775807, 9223372036854775807, 9223372036854775807, 1] = [7, 9223372036854775807, 9223372036854775807, 9223372036854775807, 9223372036854775807, 9223372036854775807] := rfl
    rw [e2] at e1
    obtain ⟨rfl, rfl, rfl, rfl, rfl, rfl⟩ : z0 = 7 ∧ z1 = 9223372036854775807 ∧ z2 = 9223372036854775807 ∧ z3 = 9223372036854775807 ∧ z4 = 9223372036854775807 ∧ z5 = 9223372036854775807 := by simpa using e1
    exact ⟨rfl, hB⟩
theorem none_is (w : World) (hP : Pl w) : Calls Tryd.prog 13 #[.agg #[.int .i64 7, .int .i64 9223372036854775807, .int .i64 9223372036854775807, .int .i64 9223372036854775807, .int .i64 9223372036854775807, .int .i64 9223372036854775807]] w fun e w' => e = .returned (.tuple #[.agg #[.int .i64 0, .bool false, .int .i64 0, .bool false, .bool false], .int .i64 6]) ∧ Below w.heap.size w w' := by
  refine (firsts_any 7 9223372036854775807 9223372036854775807 9223372036854775807 9223372036854775807 9223372036854775807 w hP may_f_tops).mono fun e w' h => ?_
  obtain ⟨hB, lo, ls, hi, hs, op, f, rfl, hR⟩ := h
  rcases hR with ⟨n, _⟩ | ⟨_, _, e1, rfl⟩ | ⟨_, n, _⟩ | ⟨_, n, _⟩
  · exact (n may_f).elim
  · simp only [Prod.mk.injEq] at e1
    obtain ⟨rfl, rfl, rfl, rfl, rfl⟩ := e1
    exact ⟨rfl, hB⟩
  · exact absurd n (by decide)
  · exact absurd n (by decide)

set_option maxRecDepth 100000 in
set_option maxHeartbeats 8000000 in
theorem walk (w : World) (hP : Pl w) : Calls Tryd.prog 3 #[] w fun e w' => e = .returned (.bool true) ∧ Below w.heap.size w w' := by
  have P0 := hP
  have DB := Below.refl w.heap.size w
  clear hP
  go_enter Tryd.func3, Tryd.ntmps3
  go_wp2_with fail
  refine (to_is 0 1 w).mono ?_
  rintro e w1 ⟨rfl, hB⟩
  replace P0 := P0.on hB
  replace DB := later DB hB
  clear hB
  go_wp2_with fail
  refine (to_is 2 2 w1).mono ?_
  rintro e w2 ⟨rfl, hB⟩
  replace P0 := P0.on hB
  replace DB := later DB hB
  clear hB
  go_wp2_with fail
  refine (of_is 0 1 2 2 3 1 5 (-3) 5 (-1) w2 P0 make_a).mono ?_
  rintro e w3 ⟨rfl, hB⟩
  replace P0 := P0.on hB
  replace DB := later DB hB
  clear hB
  go_wp2_with fail
  have hA := bound.up1 w3 (.cells #[.int .i64 3, .int .i64 1, .int .i64 5, .int .i64 (-3), .int .i64 5, .int .i64 (-1)] 24)
  have D0 := lies.made w3 24 #[.int .i64 3, .int .i64 1, .int .i64 5, .int .i64 (-3), .int .i64 5, .int .i64 (-1)]
  replace P0 := P0.on hA
  replace DB := later DB hA
  clear hA
  generalize w3.heap.size = XD0 at D0 ⊢
  generalize w3.alloc (.cells #[.int .i64 3, .int .i64 1, .int .i64 5, .int .i64 (-3), .int .i64 5, .int .i64 (-1)] 24) = v4 at D0 P0 DB ⊢
  refine (comp_aa v4 P0).mono ?_
  rintro e w5 ⟨rfl, hB⟩
  replace D0 := lies.on_call D0 hB
  replace P0 := P0.on hB
  replace DB := later DB hB
  clear hB
  obtain ⟨⟨kD0_0, kD0_1, kD0_2, kD0_3, kD0_4, kD0_5⟩, -⟩ := six_cells D0
  have kD0_l := lies.lt D0
  go_wp2_with fail
  clear kD0_0 kD0_1 kD0_2 kD0_3 kD0_4 kD0_5 kD0_l
  have hA := bound.up1 w5 (.cells #[.int .i64 0, .int .i64 0, .int .i64 0, .int .i64 0, .int .i64 0, .int .i64 0] 24)
  have D1 := lies.made w5 24 #[.int .i64 0, .int .i64 0, .int .i64 0, .int .i64 0, .int .i64 0, .int .i64 0]
  replace D0 := lies.on_call D0 hA
  replace P0 := P0.on hA
  replace DB := later DB hA
  clear hA
  generalize w5.heap.size = XD1 at D1 ⊢
  generalize w5.alloc (.cells #[.int .i64 0, .int .i64 0, .int .i64 0, .int .i64 0, .int .i64 0, .int .i64 0] 24) = v6 at D0 D1 P0 DB ⊢
  refine (back_is v6 P0).mono ?_
  rintro e w7 ⟨rfl, hB⟩
  replace D0 := lies.on_call D0 hB
  replace D1 := lies.on_call D1 hB
  replace P0 := P0.on hB
  replace DB := later DB hB
  clear hB
  go_wp2_with fail
  have hA := bound.up1 w7 (.cells #[.int .i64 5, .int .i64 (-3), .int .i64 3, .int .i64 1, .int .i64 (-1), .int .i64 5] 24)
  have D2 := lies.made w7 24 #[.int .i64 5, .int .i64 (-3), .int .i64 3, .int .i64 1, .int .i64 (-1), .int .i64 5]
  replace D0 := lies.on_call D0 hA
  replace D1 := lies.on_call D1 hA
  replace P0 := P0.on hA
  replace DB := later DB hA
  clear hA
  generalize w7.heap.size = XD2 at D2 ⊢
  generalize w7.alloc (.cells #[.int .i64 5, .int .i64 (-3), .int .i64 3, .int .i64 1, .int .i64 (-1), .int .i64 5] 24) = v8 at D0 D1 D2 P0 DB ⊢
  refine (to_is 2 2 v8).mono ?_
  rintro e w9 ⟨rfl, hB⟩
  replace D0 := lies.on_call D0 hB
  replace D1 := lies.on_call D1 hB
  replace D2 := lies.on_call D2 hB
  replace P0 := P0.on hB
  replace DB := later DB hB
  clear hB
  go_wp2_with fail
  refine (to_is 0 1 w9).mono ?_
  rintro e w10 ⟨rfl, hB⟩
  replace D0 := lies.on_call D0 hB
  replace D1 := lies.on_call D1 hB
  replace D2 := lies.on_call D2 hB
  replace P0 := P0.on hB
  replace DB := later DB hB
  clear hB
  go_wp2_with fail
  refine (made_is w10 P0).mono ?_
  rintro e w11 ⟨rfl, hB⟩
  replace D0 := lies.on_call D0 hB
  replace D1 := lies.on_call D1 hB
  replace D2 := lies.on_call D2 hB
  replace P0 := P0.on hB
  replace DB := later DB hB
  clear hB
  obtain ⟨⟨kD0_0, kD0_1, kD0_2, kD0_3, kD0_4, kD0_5⟩, -⟩ := six_cells D0
  have kD0_l := lies.lt D0
  go_wp2_with fail
  clear kD0_0 kD0_1 kD0_2 kD0_3 kD0_4 kD0_5 kD0_l
  have hA := bound.up1 w11 (.cells #[.int .i64 5, .int .i64 (-3), .int .i64 3, .int .i64 1, .int .i64 (-1), .int .i64 5] 24)
  have D3 := lies.made w11 24 #[.int .i64 5, .int .i64 (-3), .int .i64 3, .int .i64 1, .int .i64 (-1), .int .i64 5]
  replace D0 := lies.on_call D0 hA
  replace D1 := lies.on_call D1 hA
  replace D2 := lies.on_call D2 hA
  replace P0 := P0.on hA
  replace DB := later DB hA
  clear hA
  generalize w11.heap.size = XD3 at D3 ⊢
  generalize w11.alloc (.cells #[.int .i64 5, .int .i64 (-3), .int .i64 3, .int .i64 1, .int .i64 (-1), .int .i64 5] 24) = v12 at D0 D1 D2 D3 P0 DB ⊢
  refine (firsts_is v12 P0).mono ?_
  rintro e w13 ⟨rfl, hB⟩
  replace D0 := lies.on_call D0 hB
  replace D1 := lies.on_call D1 hB
  replace D2 := lies.on_call D2 hB
  replace D3 := lies.on_call D3 hB
  replace P0 := P0.on hB
  replace DB := later DB hB
  clear hB
  go_wp2_with fail
  have X : ∃ x0, x0 = (w13.alloc (.cells #[.int .i64 0, .bool false, .int .i64 1, .bool false, .bool false] 27)).alloc (.cells #[.int .i64 1, .int .i64 9223372036854775807, .int .i64 9223372036854775807, .int .i64 7, .int .i64 1, .int .i64 9223372036854775807, .int .i64 9223372036854775807, .int .i64 9223372036854775807, .int .i64 1] 22) := ⟨_, rfl⟩
  obtain ⟨x0, hX⟩ := X
  have hA : Below w13.heap.size w13 x0 := by rw [hX]; exact bound.up2 _ _ _
  have D4 : lies.Lies x0 w13.heap.size 27 #[.int .i64 0, .bool false, .int .i64 1, .bool false, .bool false] := by rw [hX]; exact lies.on_alloc (lies.made _ _ _) _
  have G : lies.Lies x0 (w13.heap.size + 1) 22 (cellsOf [1, 9223372036854775807, 9223372036854775807, 7, 1, 9223372036854775807, 9223372036854775807, 9223372036854775807, 1]) := by rw [hX]; exact lies.made_at _ _ _ _ (by simp)
  replace D0 := lies.on_call D0 hA
  replace D1 := lies.on_call D1 hA
  replace D2 := lies.on_call D2 hA
  replace D3 := lies.on_call D3 hA
  replace P0 := P0.on hA
  replace DB := later DB hA
  clear hA
  rw [← hX]
  clear hX
  generalize hG : w13.heap.size + 1 = XG at G ⊢
  generalize w13.heap.size = XD4 at D4 ⊢
  clear hG
  refine (free_is XG x0 P0 G).mono ?_
  rintro e w14 ⟨rfl, hB⟩
  replace D0 := lies.on_call D0 hB
  replace D1 := lies.on_call D1 hB
  replace D2 := lies.on_call D2 hB
  replace D3 := lies.on_call D3 hB
  replace D4 := lies.on_call D4 hB
  replace P0 := P0.on hB
  replace DB := later DB hB
  clear hB
  clear G
  go_wp2_with fail
  have hA := bound.up1 w14 (.cells #[.int .i64 7, .int .i64 9223372036854775807, .int .i64 9223372036854775807, .int .i64 9223372036854775807, .int .i64 9223372036854775807, .int .i64 9223372036854775807] 24)
  have D5 := lies.made w14 24 #[.int .i64 7, .int .i64 9223372036854775807, .int .i64 9223372036854775807, .int .i64 9223372036854775807, .int .i64 9223372036854775807, .int .i64 9223372036854775807]
  replace D0 := lies.on_call D0 hA
  replace D1 := lies.on_call D1 hA
  replace D2 := lies.on_call D2 hA
  replace D3 := lies.on_call D3 hA
  replace D4 := lies.on_call D4 hA
  replace P0 := P0.on hA
  replace DB := later DB hA
  clear hA
  generalize w14.heap.size = XD5 at D5 ⊢
  generalize w14.alloc (.cells #[.int .i64 7, .int .i64 9223372036854775807, .int .i64 9223372036854775807, .int .i64 9223372036854775807, .int .i64 9223372036854775807, .int .i64 9223372036854775807] 24) = v15 at D0 D1 D2 D3 D4 D5 P0 DB ⊢
  refine (none_is v15 P0).mono ?_
  rintro e w16 ⟨rfl, hB⟩
  replace D0 := lies.on_call D0 hB
  replace D1 := lies.on_call D1 hB
  replace D2 := lies.on_call D2 hB
  replace D3 := lies.on_call D3 hB
  replace D4 := lies.on_call D4 hB
  replace D5 := lies.on_call D5 hB
  replace P0 := P0.on hB
  replace DB := later DB hB
  clear hB
  go_wp2_with fail
  have hA := bound.up1 w16 (.cells #[.int .i64 0, .bool false, .int .i64 0, .bool false, .bool false] 27)
  have D6 := lies.made w16 27 #[.int .i64 0, .bool false, .int .i64 0, .bool false, .bool false]
  replace D0 := lies.on_call D0 hA
  replace D1 := lies.on_call D1 hA
  replace D2 := lies.on_call D2 hA
  replace D3 := lies.on_call D3 hA
  replace D4 := lies.on_call D4 hA
  replace D5 := lies.on_call D5 hA
  replace P0 := P0.on hA
  replace DB := later DB hA
  clear hA
  generalize w16.heap.size = XD6 at D6 ⊢
  generalize w16.alloc (.cells #[.int .i64 0, .bool false, .int .i64 0, .bool false, .bool false] 27) = v17 at D0 D1 D2 D3 D4 D5 D6 P0 DB ⊢
  have HQ : RowKit.Hid (∀ W, (Op.equalIn 10000 27 (.agg #[.int .i64 0, .bool false, .int .i64 1, .bool false, .bool false]) (.agg #[.int .i64 0, .bool false, .int .i64 1, .bool false, .bool false])).run Tryd.prog W = .ok true W) := Lib.hid (fun W => by kernel_rfl)
  refine wp_region_held_drew (S := Below v17.heap.size v17) (by kernel_rfl) (dbm.drawn1 (Below.refl _ _)) (fun hHeld => ?_)
  generalize v17.drew = wE at hHeld ⊢
  refine wpAnyH_ready (rs := [0]) (by kernel_rfl) (by simp) (AllReadyH.cons rfl (fun K hK => ?_) AllReadyH.nil)
  go_simp
  refine (alive_yes _ (P0.on hHeld)).mono ?_
  rintro e y0 ⟨rfl, hB⟩
  refine hK.out _ _ (hHeld.trans (hB.mono hHeld.size)) (fun hNew => ?_)
  clear hB
  clear hHeld hK K
  have hHeld := hNew
  clear hNew
  try simp only [Act.put, List.getElem_toArray, List.getElem_cons_zero, List.getElem_cons_succ, List.setIfInBounds_toArray, List.set_cons_zero, List.set_cons_succ]
  refine wpAnyH_take (i := 1) (v := ?_) rfl (by kernel_rfl) (by kernel_rfl) (by kernel_rfl) (fun _ _ _ h => h) (Or.inl ⟨by rfl, ?_⟩) hHeld ?_
  rotate_left
  · intro w hSw; obtain ⟨⟨x0, x1, x2, x3, x4, x5⟩, _⟩ := six_cells (lies.on_call D2 hSw); obtain ⟨⟨y0, y1, y2, y3, y4, y5⟩, _⟩ := six_cells (lies.on_call D3 hSw); obtain ⟨⟨z0, z1, z2, z3, z4⟩, _⟩ := five_cells (lies.on_call D4 hSw); have q1 := HQ.out w; go_simp; try with_reducible rfl
  try simp only [Act.put, List.getElem_toArray, List.getElem_cons_zero, List.getElem_cons_succ, List.setIfInBounds_toArray, List.set_cons_zero, List.set_cons_succ]
  refine wpAnyH_take (i := 2) (v := ?_) rfl (by kernel_rfl) (by kernel_rfl) (by kernel_rfl) (fun _ _ _ h => h) (Or.inl ⟨by rfl, ?_⟩) hHeld ?_
  rotate_left
  · intro w hSw; obtain ⟨⟨x0, x1, x2, x3, x4, x5⟩, _⟩ := six_cells (lies.on_call D2 hSw); obtain ⟨⟨y0, y1, y2, y3, y4, y5⟩, _⟩ := six_cells (lies.on_call D3 hSw); obtain ⟨⟨z0, z1, z2, z3, z4⟩, _⟩ := five_cells (lies.on_call D4 hSw); have q1 := HQ.out w; go_simp; try with_reducible rfl
  try simp only [Act.put, List.getElem_toArray, List.getElem_cons_zero, List.getElem_cons_succ, List.setIfInBounds_toArray, List.set_cons_zero, List.set_cons_succ]
  refine wpAnyH_take (i := 3) (v := ?_) rfl (by kernel_rfl) (by kernel_rfl) (by kernel_rfl) (fun _ _ _ h => h) (Or.inl ⟨by rfl, ?_⟩) hHeld ?_
  rotate_left
  · intro w hSw; obtain ⟨⟨x0, x1, x2, x3, x4, x5⟩, _⟩ := six_cells (lies.on_call D2 hSw); obtain ⟨⟨y0, y1, y2, y3, y4, y5⟩, _⟩ := six_cells (lies.on_call D3 hSw); obtain ⟨⟨z0, z1, z2, z3, z4⟩, _⟩ := five_cells (lies.on_call D4 hSw); have q1 := HQ.out w; go_simp; try with_reducible rfl
  try simp only [Act.put, List.getElem_toArray, List.getElem_cons_zero, List.getElem_cons_succ, List.setIfInBounds_toArray, List.set_cons_zero, List.set_cons_succ]
  refine wpAnyH_take (i := 4) (v := ?_) rfl (by kernel_rfl) (by kernel_rfl) (by kernel_rfl) (fun _ _ _ h => h) (Or.inl ⟨by rfl, ?_⟩) hHeld ?_
  rotate_left
  · intro w hSw; obtain ⟨⟨x0, x1, x2, x3, x4, x5⟩, _⟩ := six_cells (lies.on_call D2 hSw); obtain ⟨⟨y0, y1, y2, y3, y4, y5⟩, _⟩ := six_cells (lies.on_call D3 hSw); obtain ⟨⟨z0, z1, z2, z3, z4⟩, _⟩ := five_cells (lies.on_call D4 hSw); have q1 := HQ.out w; go_simp; try with_reducible rfl
  try simp only [Act.put, List.getElem_toArray, List.getElem_cons_zero, List.getElem_cons_succ, List.setIfInBounds_toArray, List.set_cons_zero, List.set_cons_succ]
  refine wpAnyH_take (i := 5) (v := ?_) rfl (by kernel_rfl) (by kernel_rfl) (by kernel_rfl) (fun _ _ _ h => h) (Or.inl ⟨by rfl, ?_⟩) hHeld ?_
  rotate_left
  · intro w hSw; obtain ⟨⟨x0, x1, x2, x3, x4, x5⟩, _⟩ := six_cells (lies.on_call D2 hSw); obtain ⟨⟨y0, y1, y2, y3, y4, y5⟩, _⟩ := six_cells (lies.on_call D3 hSw); obtain ⟨⟨z0, z1, z2, z3, z4⟩, _⟩ := five_cells (lies.on_call D4 hSw); have q1 := HQ.out w; go_simp; try with_reducible rfl
  try simp only [Act.put, List.getElem_toArray, List.getElem_cons_zero, List.getElem_cons_succ, List.setIfInBounds_toArray, List.set_cons_zero, List.set_cons_succ]
  refine wpAnyH_take (i := 6) (v := ?_) rfl (by kernel_rfl) (by kernel_rfl) (by kernel_rfl) (fun _ _ _ h => h) (Or.inl ⟨by rfl, ?_⟩) hHeld ?_
  rotate_left
  · intro w hSw; obtain ⟨⟨x0, x1, x2, x3, x4, x5⟩, _⟩ := six_cells (lies.on_call D2 hSw); obtain ⟨⟨y0, y1, y2, y3, y4, y5⟩, _⟩ := six_cells (lies.on_call D3 hSw); obtain ⟨⟨z0, z1, z2, z3, z4⟩, _⟩ := five_cells (lies.on_call D4 hSw); have q1 := HQ.out w; go_simp; try with_reducible rfl
  try simp only [Act.put, List.getElem_toArray, List.getElem_cons_zero, List.getElem_cons_succ, List.setIfInBounds_toArray, List.set_cons_zero, List.set_cons_succ]
  refine wpAnyH_take (i := 7) (v := ?_) rfl (by kernel_rfl) (by kernel_rfl) (by kernel_rfl) (fun _ _ _ h => h) (Or.inl ⟨by rfl, ?_⟩) hHeld ?_
  rotate_left
  · intro w hSw; obtain ⟨⟨x0, x1, x2, x3, x4, x5⟩, _⟩ := six_cells (lies.on_call D2 hSw); obtain ⟨⟨y0, y1, y2, y3, y4, y5⟩, _⟩ := six_cells (lies.on_call D3 hSw); obtain ⟨⟨z0, z1, z2, z3, z4⟩, _⟩ := five_cells (lies.on_call D4 hSw); have q1 := HQ.out w; go_simp; try with_reducible rfl
  try simp only [Act.put, List.getElem_toArray, List.getElem_cons_zero, List.getElem_cons_succ, List.setIfInBounds_toArray, List.set_cons_zero, List.set_cons_succ]
  refine wpAnyH_take (i := 8) (v := ?_) rfl (by kernel_rfl) (by kernel_rfl) (by kernel_rfl) (fun _ _ _ h => h) (Or.inl ⟨by rfl, ?_⟩) hHeld ?_
  rotate_left
  · intro w hSw; obtain ⟨⟨x0, x1, x2, x3, x4, x5⟩, _⟩ := six_cells (lies.on_call D2 hSw); obtain ⟨⟨y0, y1, y2, y3, y4, y5⟩, _⟩ := six_cells (lies.on_call D3 hSw); obtain ⟨⟨z0, z1, z2, z3, z4⟩, _⟩ := five_cells (lies.on_call D4 hSw); have q1 := HQ.out w; go_simp; try with_reducible rfl
  try simp only [Act.put, List.getElem_toArray, List.getElem_cons_zero, List.getElem_cons_succ, List.setIfInBounds_toArray, List.set_cons_zero, List.set_cons_succ]
  refine wpAnyH_take (i := 9) (v := ?_) rfl (by kernel_rfl) (by kernel_rfl) (by kernel_rfl) (fun _ _ _ h => h) (Or.inl ⟨by rfl, ?_⟩) hHeld ?_
  rotate_left
  · intro w hSw; obtain ⟨⟨x0, x1, x2, x3, x4, x5⟩, _⟩ := six_cells (lies.on_call D2 hSw); obtain ⟨⟨y0, y1, y2, y3, y4, y5⟩, _⟩ := six_cells (lies.on_call D3 hSw); obtain ⟨⟨z0, z1, z2, z3, z4⟩, _⟩ := five_cells (lies.on_call D4 hSw); have q1 := HQ.out w; go_simp; try with_reducible rfl
  try simp only [Act.put, List.getElem_toArray, List.getElem_cons_zero, List.getElem_cons_succ, List.setIfInBounds_toArray, List.set_cons_zero, List.set_cons_succ]
  refine wpAnyH_take (i := 10) (v := ?_) rfl (by kernel_rfl) (by kernel_rfl) (by kernel_rfl) (fun _ _ _ h => h) (Or.inl ⟨by rfl, ?_⟩) hHeld ?_
  rotate_left
  · intro w hSw; obtain ⟨⟨x0, x1, x2, x3, x4, x5⟩, _⟩ := six_cells (lies.on_call D2 hSw); obtain ⟨⟨y0, y1, y2, y3, y4, y5⟩, _⟩ := six_cells (lies.on_call D3 hSw); obtain ⟨⟨z0, z1, z2, z3, z4⟩, _⟩ := five_cells (lies.on_call D4 hSw); have q1 := HQ.out w; go_simp; try with_reducible rfl
  try simp only [Act.put, List.getElem_toArray, List.getElem_cons_zero, List.getElem_cons_succ, List.setIfInBounds_toArray, List.set_cons_zero, List.set_cons_succ]
  refine wpAnyH_take (i := 11) (v := ?_) rfl (by kernel_rfl) (by kernel_rfl) (by kernel_rfl) (fun _ _ _ h => h) (Or.inl ⟨by rfl, ?_⟩) hHeld ?_
  rotate_left
  · intro w hSw; obtain ⟨⟨x0, x1, x2, x3, x4, x5⟩, _⟩ := six_cells (lies.on_call D2 hSw); obtain ⟨⟨y0, y1, y2, y3, y4, y5⟩, _⟩ := six_cells (lies.on_call D3 hSw); obtain ⟨⟨z0, z1, z2, z3, z4⟩, _⟩ := five_cells (lies.on_call D4 hSw); have q1 := HQ.out w; go_simp; try with_reducible rfl
  try simp only [Act.put, List.getElem_toArray, List.getElem_cons_zero, List.getElem_cons_succ, List.setIfInBounds_toArray, List.set_cons_zero, List.set_cons_succ]
  refine wpAnyH_take (i := 12) (v := ?_) rfl (by kernel_rfl) (by kernel_rfl) (by kernel_rfl) (fun _ _ _ h => h) (Or.inl ⟨by rfl, ?_⟩) hHeld ?_
  rotate_left
  · intro w hSw; obtain ⟨⟨x0, x1, x2, x3, x4, x5⟩, _⟩ := six_cells (lies.on_call D2 hSw); obtain ⟨⟨y0, y1, y2, y3, y4, y5⟩, _⟩ := six_cells (lies.on_call D3 hSw); obtain ⟨⟨z0, z1, z2, z3, z4⟩, _⟩ := five_cells (lies.on_call D4 hSw); have q1 := HQ.out w; go_simp; try with_reducible rfl
  try simp only [Act.put, List.getElem_toArray, List.getElem_cons_zero, List.getElem_cons_succ, List.setIfInBounds_toArray, List.set_cons_zero, List.set_cons_succ]
  refine wpAnyH_ready (rs := [13]) (by kernel_rfl) (by simp) (AllReadyH.cons rfl (fun K hK => ?_) AllReadyH.nil)
  go_simp
  refine (is_yes 5 (-3) 3 1 (-1) 5 _).mono ?_
  rintro e y1 ⟨rfl, hB⟩
  refine hK.out _ _ (hHeld.trans (hB.mono hHeld.size)) (fun hNew => ?_)
  clear hB
  clear hHeld hK K
  have hHeld := hNew
  clear hNew
  try simp only [Act.put, List.getElem_toArray, List.getElem_cons_zero, List.getElem_cons_succ, List.setIfInBounds_toArray, List.set_cons_zero, List.set_cons_succ]
  refine wpAnyH_take (i := 14) (v := ?_) rfl (by kernel_rfl) (by kernel_rfl) (by kernel_rfl) (fun _ _ _ h => h) (Or.inl ⟨by rfl, ?_⟩) hHeld ?_
  rotate_left
  · intro w hSw; obtain ⟨⟨x0, x1, x2, x3, x4, x5⟩, _⟩ := six_cells (lies.on_call D2 hSw); obtain ⟨⟨y0, y1, y2, y3, y4, y5⟩, _⟩ := six_cells (lies.on_call D3 hSw); obtain ⟨⟨z0, z1, z2, z3, z4⟩, _⟩ := five_cells (lies.on_call D4 hSw); have q1 := HQ.out w; go_simp; try with_reducible rfl
  try simp only [Act.put, List.getElem_toArray, List.getElem_cons_zero, List.getElem_cons_succ, List.setIfInBounds_toArray, List.set_cons_zero, List.set_cons_succ]
  refine wpAnyH_take (i := 15) (v := ?_) rfl (by kernel_rfl) (by kernel_rfl) (by kernel_rfl) (fun _ _ _ h => h) (Or.inl ⟨by rfl, ?_⟩) hHeld ?_
  rotate_left
  · intro w hSw; obtain ⟨⟨x0, x1, x2, x3, x4, x5⟩, _⟩ := six_cells (lies.on_call D2 hSw); obtain ⟨⟨y0, y1, y2, y3, y4, y5⟩, _⟩ := six_cells (lies.on_call D3 hSw); obtain ⟨⟨z0, z1, z2, z3, z4⟩, _⟩ := five_cells (lies.on_call D4 hSw); have q1 := HQ.out w; go_simp; try with_reducible rfl
  try simp only [Act.put, List.getElem_toArray, List.getElem_cons_zero, List.getElem_cons_succ, List.setIfInBounds_toArray, List.set_cons_zero, List.set_cons_succ]
  refine wpAnyH_take (i := 16) (v := ?_) rfl (by kernel_rfl) (by kernel_rfl) (by kernel_rfl) (fun _ _ _ h => h) (Or.inl ⟨by rfl, ?_⟩) hHeld ?_
  rotate_left
  · intro w hSw; obtain ⟨⟨x0, x1, x2, x3, x4, x5⟩, _⟩ := six_cells (lies.on_call D2 hSw); obtain ⟨⟨y0, y1, y2, y3, y4, y5⟩, _⟩ := six_cells (lies.on_call D3 hSw); obtain ⟨⟨z0, z1, z2, z3, z4⟩, _⟩ := five_cells (lies.on_call D4 hSw); have q1 := HQ.out w; go_simp; try with_reducible rfl
  try simp only [Act.put, List.getElem_toArray, List.getElem_cons_zero, List.getElem_cons_succ, List.setIfInBounds_toArray, List.set_cons_zero, List.set_cons_succ]
  refine wpAnyH_take (i := 17) (v := ?_) rfl (by kernel_rfl) (by kernel_rfl) (by kernel_rfl) (fun _ _ _ h => h) (Or.inl ⟨by rfl, ?_⟩) hHeld ?_
  rotate_left
  · intro w hSw; obtain ⟨⟨x0, x1, x2, x3, x4, x5⟩, _⟩ := six_cells (lies.on_call D2 hSw); obtain ⟨⟨y0, y1, y2, y3, y4, y5⟩, _⟩ := six_cells (lies.on_call D3 hSw); obtain ⟨⟨z0, z1, z2, z3, z4⟩, _⟩ := five_cells (lies.on_call D4 hSw); have q1 := HQ.out w; go_simp; try with_reducible rfl
  try simp only [Act.put, List.getElem_toArray, List.getElem_cons_zero, List.getElem_cons_succ, List.setIfInBounds_toArray, List.set_cons_zero, List.set_cons_succ]
  refine wpAnyH_take (i := 18) (v := ?_) rfl (by kernel_rfl) (by kernel_rfl) (by kernel_rfl) (fun _ _ _ h => h) (Or.inl ⟨by rfl, ?_⟩) hHeld ?_
  rotate_left
  · intro w hSw; obtain ⟨⟨x0, x1, x2, x3, x4, x5⟩, _⟩ := six_cells (lies.on_call D2 hSw); obtain ⟨⟨y0, y1, y2, y3, y4, y5⟩, _⟩ := six_cells (lies.on_call D3 hSw); obtain ⟨⟨z0, z1, z2, z3, z4⟩, _⟩ := five_cells (lies.on_call D4 hSw); have q1 := HQ.out w; go_simp; try with_reducible rfl
  try simp only [Act.put, List.getElem_toArray, List.getElem_cons_zero, List.getElem_cons_succ, List.setIfInBounds_toArray, List.set_cons_zero, List.set_cons_succ]
  refine wpAnyH_take (i := 19) (v := ?_) rfl (by kernel_rfl) (by kernel_rfl) (by kernel_rfl) (fun _ _ _ h => h) (Or.inl ⟨by rfl, ?_⟩) hHeld ?_
  rotate_left
  · intro w hSw; obtain ⟨⟨x0, x1, x2, x3, x4, x5⟩, _⟩ := six_cells (lies.on_call D2 hSw); obtain ⟨⟨y0, y1, y2, y3, y4, y5⟩, _⟩ := six_cells (lies.on_call D3 hSw); obtain ⟨⟨z0, z1, z2, z3, z4⟩, _⟩ := five_cells (lies.on_call D4 hSw); have q1 := HQ.out w; go_simp; try with_reducible rfl
  try simp only [Act.put, List.getElem_toArray, List.getElem_cons_zero, List.getElem_cons_succ, List.setIfInBounds_toArray, List.set_cons_zero, List.set_cons_succ]
  refine wpAnyH_take (i := 20) (v := ?_) rfl (by kernel_rfl) (by kernel_rfl) (by kernel_rfl) (fun _ _ _ h => h) (Or.inl ⟨by rfl, ?_⟩) hHeld ?_
  rotate_left
  · intro w hSw; obtain ⟨⟨x0, x1, x2, x3, x4, x5⟩, _⟩ := six_cells (lies.on_call D2 hSw); obtain ⟨⟨y0, y1, y2, y3, y4, y5⟩, _⟩ := six_cells (lies.on_call D3 hSw); obtain ⟨⟨z0, z1, z2, z3, z4⟩, _⟩ := five_cells (lies.on_call D4 hSw); have q1 := HQ.out w; go_simp; try with_reducible rfl
  try simp only [Act.put, List.getElem_toArray, List.getElem_cons_zero, List.getElem_cons_succ, List.setIfInBounds_toArray, List.set_cons_zero, List.set_cons_succ]
  refine wpAnyH_ready (rs := [21]) (by kernel_rfl) (by simp) (AllReadyH.cons rfl (fun K hK => ?_) AllReadyH.nil)
  go_simp
  refine (to_is 0 1 _).mono ?_
  rintro e y2 ⟨rfl, hB⟩
  refine hK.out _ _ (hHeld.trans (hB.mono hHeld.size)) (fun hNew => ?_)
  clear hB
  clear hHeld hK K
  have hHeld := hNew
  clear hNew
  try simp only [Act.put, List.getElem_toArray, List.getElem_cons_zero, List.getElem_cons_succ, List.setIfInBounds_toArray, List.set_cons_zero, List.set_cons_succ]
  refine wpAnyH_take (i := 22) (v := ?_) rfl (by kernel_rfl) (by kernel_rfl) (by kernel_rfl) (fun _ _ _ h => h) (Or.inl ⟨by rfl, ?_⟩) hHeld ?_
  rotate_left
  · intro w hSw; obtain ⟨⟨x0, x1, x2, x3, x4, x5⟩, _⟩ := six_cells (lies.on_call D2 hSw); obtain ⟨⟨y0, y1, y2, y3, y4, y5⟩, _⟩ := six_cells (lies.on_call D3 hSw); obtain ⟨⟨z0, z1, z2, z3, z4⟩, _⟩ := five_cells (lies.on_call D4 hSw); have q1 := HQ.out w; go_simp; try with_reducible rfl
  try simp only [Act.put, List.getElem_toArray, List.getElem_cons_zero, List.getElem_cons_succ, List.setIfInBounds_toArray, List.set_cons_zero, List.set_cons_succ]
  refine wpAnyH_take (i := 23) (v := ?_) rfl (by kernel_rfl) (by kernel_rfl) (by kernel_rfl) (fun _ _ _ h => h) (Or.inl ⟨by rfl, ?_⟩) hHeld ?_
  rotate_left
  · intro w hSw; obtain ⟨⟨x0, x1, x2, x3, x4, x5⟩, _⟩ := six_cells (lies.on_call D2 hSw); obtain ⟨⟨y0, y1, y2, y3, y4, y5⟩, _⟩ := six_cells (lies.on_call D3 hSw); obtain ⟨⟨z0, z1, z2, z3, z4⟩, _⟩ := five_cells (lies.on_call D4 hSw); have q1 := HQ.out w; go_simp; try with_reducible rfl
  try simp only [Act.put, List.getElem_toArray, List.getElem_cons_zero, List.getElem_cons_succ, List.setIfInBounds_toArray, List.set_cons_zero, List.set_cons_succ]
  refine wpAnyH_take (i := 24) (v := ?_) rfl (by kernel_rfl) (by kernel_rfl) (by kernel_rfl) (fun _ _ _ h => h) (Or.inl ⟨by rfl, ?_⟩) hHeld ?_
  rotate_left
  · intro w hSw; obtain ⟨⟨x0, x1, x2, x3, x4, x5⟩, _⟩ := six_cells (lies.on_call D2 hSw); obtain ⟨⟨y0, y1, y2, y3, y4, y5⟩, _⟩ := six_cells (lies.on_call D3 hSw); obtain ⟨⟨z0, z1, z2, z3, z4⟩, _⟩ := five_cells (lies.on_call D4 hSw); have q1 := HQ.out w; go_simp; try with_reducible rfl
  try simp only [Act.put, List.getElem_toArray, List.getElem_cons_zero, List.getElem_cons_succ, List.setIfInBounds_toArray, List.set_cons_zero, List.set_cons_succ]
  refine wpAnyH_take (i := 25) (v := ?_) rfl (by kernel_rfl) (by kernel_rfl) (by kernel_rfl) (fun _ _ _ h => h) (Or.inl ⟨by rfl, ?_⟩) hHeld ?_
  rotate_left
  · intro w hSw; obtain ⟨⟨x0, x1, x2, x3, x4, x5⟩, _⟩ := six_cells (lies.on_call D2 hSw); obtain ⟨⟨y0, y1, y2, y3, y4, y5⟩, _⟩ := six_cells (lies.on_call D3 hSw); obtain ⟨⟨z0, z1, z2, z3, z4⟩, _⟩ := five_cells (lies.on_call D4 hSw); have q1 := HQ.out w; go_simp; try with_reducible rfl
  try simp only [Act.put, List.getElem_toArray, List.getElem_cons_zero, List.getElem_cons_succ, List.setIfInBounds_toArray, List.set_cons_zero, List.set_cons_succ]
  refine wpAnyH_take (i := 26) (v := ?_) rfl (by kernel_rfl) (by kernel_rfl) (by kernel_rfl) (fun _ _ _ h => h) (Or.inl ⟨by rfl, ?_⟩) hHeld ?_
  rotate_left
  · intro w hSw; obtain ⟨⟨x0, x1, x2, x3, x4, x5⟩, _⟩ := six_cells (lies.on_call D2 hSw); obtain ⟨⟨y0, y1, y2, y3, y4, y5⟩, _⟩ := six_cells (lies.on_call D3 hSw); obtain ⟨⟨z0, z1, z2, z3, z4⟩, _⟩ := five_cells (lies.on_call D4 hSw); have q1 := HQ.out w; go_simp; try with_reducible rfl
  try simp only [Act.put, List.getElem_toArray, List.getElem_cons_zero, List.getElem_cons_succ, List.setIfInBounds_toArray, List.set_cons_zero, List.set_cons_succ]
  refine wpAnyH_take (i := 27) (v := ?_) rfl (by kernel_rfl) (by kernel_rfl) (by kernel_rfl) (fun _ _ _ h => h) (Or.inl ⟨by rfl, ?_⟩) hHeld ?_
  rotate_left
  · intro w hSw; obtain ⟨⟨x0, x1, x2, x3, x4, x5⟩, _⟩ := six_cells (lies.on_call D2 hSw); obtain ⟨⟨y0, y1, y2, y3, y4, y5⟩, _⟩ := six_cells (lies.on_call D3 hSw); obtain ⟨⟨z0, z1, z2, z3, z4⟩, _⟩ := five_cells (lies.on_call D4 hSw); have q1 := HQ.out w; go_simp; try with_reducible rfl
  try simp only [Act.put, List.getElem_toArray, List.getElem_cons_zero, List.getElem_cons_succ, List.setIfInBounds_toArray, List.set_cons_zero, List.set_cons_succ]
  refine wpAnyH_take (i := 28) (v := ?_) rfl (by kernel_rfl) (by kernel_rfl) (by kernel_rfl) (fun _ _ _ h => h) (Or.inl ⟨by rfl, ?_⟩) hHeld ?_
  rotate_left
  · intro w hSw; obtain ⟨⟨x0, x1, x2, x3, x4, x5⟩, _⟩ := six_cells (lies.on_call D2 hSw); obtain ⟨⟨y0, y1, y2, y3, y4, y5⟩, _⟩ := six_cells (lies.on_call D3 hSw); obtain ⟨⟨z0, z1, z2, z3, z4⟩, _⟩ := five_cells (lies.on_call D4 hSw); have q1 := HQ.out w; go_simp; try with_reducible rfl
  try simp only [Act.put, List.getElem_toArray, List.getElem_cons_zero, List.getElem_cons_succ, List.setIfInBounds_toArray, List.set_cons_zero, List.set_cons_succ]
  refine wpAnyH_take (i := 29) (v := ?_) rfl (by kernel_rfl) (by kernel_rfl) (by kernel_rfl) (fun _ _ _ h => h) (Or.inl ⟨by rfl, ?_⟩) hHeld ?_
  rotate_left
  · intro w hSw; obtain ⟨⟨x0, x1, x2, x3, x4, x5⟩, _⟩ := six_cells (lies.on_call D2 hSw); obtain ⟨⟨y0, y1, y2, y3, y4, y5⟩, _⟩ := six_cells (lies.on_call D3 hSw); obtain ⟨⟨z0, z1, z2, z3, z4⟩, _⟩ := five_cells (lies.on_call D4 hSw); have q1 := HQ.out w; go_simp; try with_reducible rfl
  try simp only [Act.put, List.getElem_toArray, List.getElem_cons_zero, List.getElem_cons_succ, List.setIfInBounds_toArray, List.set_cons_zero, List.set_cons_succ]
  refine wpAnyH_take (i := 30) (v := ?_) rfl (by kernel_rfl) (by kernel_rfl) (by kernel_rfl) (fun _ _ _ h => h) (Or.inl ⟨by rfl, ?_⟩) hHeld ?_
  rotate_left
  · intro w hSw; obtain ⟨⟨x0, x1, x2, x3, x4, x5⟩, _⟩ := six_cells (lies.on_call D2 hSw); obtain ⟨⟨y0, y1, y2, y3, y4, y5⟩, _⟩ := six_cells (lies.on_call D3 hSw); obtain ⟨⟨z0, z1, z2, z3, z4⟩, _⟩ := five_cells (lies.on_call D4 hSw); have q1 := HQ.out w; go_simp; try with_reducible rfl
  try simp only [Act.put, List.getElem_toArray, List.getElem_cons_zero, List.getElem_cons_succ, List.setIfInBounds_toArray, List.set_cons_zero, List.set_cons_succ]
  refine wpAnyH_take (i := 31) (v := ?_) rfl (by kernel_rfl) (by kernel_rfl) (by kernel_rfl) (fun _ _ _ h => h) (Or.inl ⟨by rfl, ?_⟩) hHeld ?_
  rotate_left
  · intro w hSw; obtain ⟨⟨x0, x1, x2, x3, x4, x5⟩, _⟩ := six_cells (lies.on_call D2 hSw); obtain ⟨⟨y0, y1, y2, y3, y4, y5⟩, _⟩ := six_cells (lies.on_call D3 hSw); obtain ⟨⟨z0, z1, z2, z3, z4⟩, _⟩ := five_cells (lies.on_call D4 hSw); have q1 := HQ.out w; go_simp; try with_reducible rfl
  try simp only [Act.put, List.getElem_toArray, List.getElem_cons_zero, List.getElem_cons_succ, List.setIfInBounds_toArray, List.set_cons_zero, List.set_cons_succ]
  refine wpAnyH_take (i := 32) (v := ?_) rfl (by kernel_rfl) (by kernel_rfl) (by kernel_rfl) (fun _ _ _ h => h) (Or.inl ⟨by rfl, ?_⟩) hHeld ?_
  rotate_left
  · intro w hSw; obtain ⟨⟨x0, x1, x2, x3, x4, x5⟩, _⟩ := six_cells (lies.on_call D2 hSw); obtain ⟨⟨y0, y1, y2, y3, y4, y5⟩, _⟩ := six_cells (lies.on_call D3 hSw); obtain ⟨⟨z0, z1, z2, z3, z4⟩, _⟩ := five_cells (lies.on_call D4 hSw); have q1 := HQ.out w; go_simp; try with_reducible rfl
  try simp only [Act.put, List.getElem_toArray, List.getElem_cons_zero, List.getElem_cons_succ, List.setIfInBounds_toArray, List.set_cons_zero, List.set_cons_succ]
  refine wpAnyH_done (by kernel_rfl) ?_ _
  have KZ := later DB hHeld
  clear hHeld D0 D1 D2 D3 D4 D5 D6 DB
  go_wp2_with fail
  go_ret
  exact ⟨rfl, KZ⟩

set_option maxRecDepth 100000 in
theorem lifted (os : Os) (started : os.Started) (H : Type) (enc : TypeId × Value → H) :
    ReturnsInHanded {} Tryd.checked os 3 .any (fun w args => (Rows.compNamesSpec.pre enc Tryd.prog Tryd.f3 [] false w args ∧ laidMetH Tryd.prog zopen.places w) ∧ sizedMet enc Tryd.prog Tryd.f3 (OpenSpec.ofChange Rows.compNamesSpec) false w args) (Rows.compNamesSpec.post enc Tryd.prog Tryd.f3 false true false false) := by
  refine returnsInHanded_of_change_and (C := Tryd.checked) (X := fun w _ => laidMetH Tryd.prog zopen.places w) (fun _ _ _ hh h => h.of_heap hh) law.own started (by kernel_rfl) Tryd.func3
    (ChangeSpec.witness_shaped (enc := enc) (C := Tryd.checked) (os := os) (X := fun w _ => laidMetH Tryd.prog zopen.places w) false (World.doorLaid Tryd.prog 400 os) #[] 8 rfl (World.shaped_of_RefB (by kernel_rfl) (by kernel_rfl)) (by kernel_rfl) (by kernel_rfl) (by kernel_rfl) (zopen.door_met os _)) ?_
  intro W base args ds gs before hval0 hW _ _ hL _
  have hW' := hW
  obtain ⟨p, q, hA0, hV, rfl, _, _⟩ := hW
  have hA : DataW.TrodAll enc Tryd.prog W 0 (fun _ => true) true Tryd.f3.params.toList args.toList ds p := hA0
  rw [Tryd.params3] at hA
  obtain ⟨rfl, rfl, rfl⟩ := trodAll_none hA
  refine (walk  W  (zopen.laid_pl hL)).mono fun e W' ⟨he, hB⟩ => ?_
  subst he
  exact ⟨_, rfl, law.post_true law.laidOut (by kernel_rfl) rfl Tryd.underlying4 rfl hW' (fun h => by subst h; rfl) hB⟩

theorem proved : Rows.CompNamesSaid :=
  OpenClaim.holds_of_wide 3 Tryd.f3 rfl rfl rfl rfl rfl rfl rfl ⟨rfl, rfl, rfl, rfl, rfl⟩ rfl rfl rfl rfl rfl (by kernel_rfl) Tryd.func3 (by kernel_rfl)
    (of_decide_eq_true (by kernel_rfl)) (by unfold Func.isWrapper; first | (rw [if_pos (by decide +kernel)]; kernel_rfl) | (rw [if_neg (by decide +kernel)]; exact ⟨rfl, rfl⟩))
    (fun os started H enc _ => lifted os started H enc)
theorem card : Rows.CompNamesCardSaid :=
  Claim7.holds_tied_plain_at .later [] [.data] true (true, "e4e3719b7de1e4314314497030072501f33c4ef491c7e24e35a0e0bb01ea1702") false
    proved (fun _ h => by cases h) (by kernel_rfl) (fun _ h => by cases h) compNames_row_tie rfl ⟨rfl, rfl⟩ (by kernel_rfl) rfl
    (fun f fn hf hfn => by
      obtain rfl : f = 3 := Option.some.inj ((show Tryd.prog.funcNamed "rallentando/rallentandolaw09.CompNames" = some 3 by kernel_rfl).symm.trans hf) |>.symm
      obtain rfl : fn = Tryd.f3 := (Option.some.inj (Tryd.func3.symm.trans hfn)).symm
      exact ⟨by kernel_rfl, fun j t ht => by
        rw [Tryd.params3] at ht
        simp at ht⟩)
    (by kernel_rfl)
#print axioms card
end Go.Proofs.YtngjkebmilpemaaDoor.compNames
