/-
  DbmNames answers true; no condition.
-/
import Derived.Test.YtlagnbbbokgdfaaDbmKeeps3
import Derived.OpenShut
namespace Go.Proofs.Ytlagnbbbokgdfaa.dbmNames
open Go.ChangeShapes Go.WideShapes Go.ChangeAt Go.RowKit num dbm dlaw rat
open bound hiding up
set_option linter.unusedVariables false
set_option linter.unusedSimpArgs false

theorem row_one {W : World} {b : Nat} {t : TypeId} {x y : Int} (h : lies.Lies W b t #[.int .i64 x, .int .i64 y]) : Rats W.heap.size W (.slice (some ⟨b, 0, none⟩) 1 1) [(x, y)] := by
  refine .inr ⟨b, 0, 1, rfl, lies.lt h, fun k hk => ?_⟩
  obtain rfl : k = 0 := by simpa using hk
  exact ⟨lies.cell h 0, lies.cell h 1⟩
theorem keeps_yes (g b : Nat) (w : World) (hg : lies.Lies w g 29 (cellsOf [1, -3, 9, 1])) (hb : lies.Lies w b 31 #[.int .i64 5, .int .i64 2]) :
    Calls Try.prog 9 #[.agg #[.int .i64 2, .slice (some ⟨g, 0, none⟩) 4 4], .slice (some ⟨b, 0, none⟩) 1 1] w fun e w' => e = .returned (.tuple #[.bool true, .int .i64 0]) ∧ Below w.heap.size w w' := by
  have hm : MayD 2 [1, -3, 9, 1] := by decide
  have ht : MayT [(5, 2)] := fun k hk => by
    obtain rfl : k = 0 := by simpa using hk
    exact (show MayR 5 2 from ⟨by decide, by decide, by decide, by decide, by decide⟩)
  refine (dkeeps_any 2 _ _ [1, -3, 9, 1] [(5, 2)] w (own_ints (cap := 4) hg) (by decide) (by unfold Tops; decide) (row_one hb) (fun k hk => ?_) (by decide)).mono ?_
  · obtain rfl : k = 0 := by simpa using hk
    exact (show ((-9223372036854775808 : Int) ≤ 5 ∧ (5 : Int) ≤ 9223372036854775807) ∧ ((-9223372036854775808 : Int) ≤ 2 ∧ (2 : Int) ≤ 9223372036854775807) from by omega)
  · rintro e w' ⟨hB, r, c, rfl, ⟨_, _, h⟩ | ⟨_, _, _, _, h⟩ | ⟨rfl, _, _, _, h⟩⟩
    · exact (h ⟨hm, ht⟩).elim
    · exact (h (by decide)).elim
    · have : r = true := h.2 (fun i j hi hj => by
        have hi' : i = 0 ∨ i = 1 := by have : i < 2 := hi; omega
        have hj' : j = 0 ∨ j = 1 := by have : j < 2 := hj; omega
        rcases hi' with rfl | rfl <;> rcases hj' with rfl | rfl <;> decide +kernel)
      subst this
      exact ⟨rfl, hB⟩
theorem keeps_dim (g : Nat) (w : World) (hg : lies.Lies w g 29 (cellsOf [1, -3, 9, 1])) :
    Calls Try.prog 9 #[.agg #[.int .i64 2, .slice (some ⟨g, 0, none⟩) 4 4], .slice none 0 0] w fun e w' => (∃ r, e = .returned (.tuple #[.bool r, .int .i64 40])) ∧ Below w.heap.size w w' := by
  have hm : MayD 2 [1, -3, 9, 1] := by decide
  have ht : MayT [] := fun k hk => absurd hk (by simp)
  refine (dkeeps_any 2 _ _ [1, -3, 9, 1] [] w (own_ints (cap := 4) hg) (by decide) (by unfold Tops; decide) (.inl ⟨⟨_, _, rfl, fun _ => rfl⟩, rfl⟩) (fun k hk => absurd hk (by simp)) (by decide)).mono ?_
  rintro e w' ⟨hB, r, c, rfl, ⟨_, _, h⟩ | ⟨rfl, _, _, _, _⟩ | ⟨_, _, _, h, _⟩⟩
  · exact (h ⟨hm, ht⟩).elim
  · exact ⟨⟨r, rfl⟩, hB⟩
  · exact absurd h (by decide)

set_option maxHeartbeats 1000000 in
theorem walk (w : World) : Calls Try.prog 3 #[] w fun e w' => e = .returned (.bool true) ∧ Below w.heap.size w w' := by
  go_enter Try.func3, Try.ntmps3
  go_wp2_with fail
  refine (two_is 1 (-3) 9 1 w).mono ?_
  rintro e w1 ⟨g1, hg1, rfl, L1, hB1⟩
  go_wp2_with fail
  refine (keeps_yes g1 w1.heap.size _ (lies.on_alloc L1 _) (lies.made _ _ _)).mono ?_
  rintro e w2 ⟨rfl, hB2⟩
  have K2 := (hB1.alloc hB1.size (.cells #[.int .i64 5, .int .i64 2] 31)).trans (hB2.mono (hB1.alloc hB1.size (.cells #[.int .i64 5, .int .i64 2] 31)).size)
  clear L1 hB1 hB2 hg1
  go_wp2_with fail
  refine (two_is 1 (-3) 9 1 w2).mono ?_
  rintro e w3 ⟨g3, hg3, rfl, L3, hB3⟩
  go_wp2_with fail
  refine (keeps_dim g3 w3 L3).mono ?_
  rintro e w4 ⟨⟨r4, rfl⟩, hB4⟩
  have K4 := (K2.trans (hB3.mono K2.size)).trans (hB4.mono (K2.trans (hB3.mono K2.size)).size)
  clear L3 hB3 hB4 hg3 K2
  go_wp2_with fail
  refine (close_bad 0 (.slice none 0 0) [] w4 (.inl ⟨⟨_, _, rfl, fun _ => rfl⟩, rfl⟩) (by decide) (by unfold Tops; simp) (by unfold MayD; omega)).mono ?_
  rintro e w5 ⟨rfl, hB5⟩
  have K5 := K4.trans (hB5.mono K4.size)
  clear hB5 K4
  go_wp2_with fail
  have K6 := K5.alloc K5.size (.cells #[.int .i64 0, .slice none 0 0] 27)
  refine (alive_yes _).mono ?_
  rintro e w6 ⟨rfl, hB6⟩
  have K7 := K6.trans (hB6.mono K6.size)
  clear hB6 K5 K6
  go_wp2_with fail
  go_ret
  exact ⟨rfl, K7⟩

set_option maxRecDepth 100000 in
theorem lifted (os : Os) (started : os.Started) (H : Type) (enc : TypeId × Value → H) :
    ReturnsInHanded {} Try.checked os 3 .any (Rows.dbmNamesSpec.pre6 enc Try.prog Try.f3 Rows.dbmNamesRow.domain false) (Rows.dbmNamesSpec.post enc Try.prog Try.f3 false true false false) := by
  refine returnsInHanded_of_change (C := Try.checked) law.own started (by kernel_rfl) Try.func3
    (ChangeSpec.witness6 (enc := enc) (C := Try.checked) false ⟨#[], #[], []⟩ 8 (by kernel_rfl) (by kernel_rfl) (by kernel_rfl) (by kernel_rfl)) ?_
  intro W base args ds gs before hval0 hW _ _
  have hW' := hW
  obtain ⟨p, q, hA0, hV, rfl, _, _⟩ := hW
  have hA : DataW.TrodAll enc Try.prog W 0 (fun _ => true) true Try.f3.params.toList args.toList ds p := hA0
  rw [Try.params3] at hA
  obtain ⟨rfl, rfl, rfl⟩ := trodAll_none hA
  refine (walk   W).mono fun e W' ⟨he, hB⟩ => ?_
  subst he
  exact ⟨_, rfl, law.post_true law.laidOut (by kernel_rfl) rfl Try.underlying4 rfl hW' (fun h => by subst h; rfl) hB⟩

theorem proved : Rows.DbmNamesSaid :=
  OpenClaim.holds_of_wide 3 Try.f3 rfl rfl rfl rfl rfl rfl rfl ⟨rfl, rfl, rfl, rfl, rfl⟩ rfl rfl rfl rfl rfl (by kernel_rfl) Try.func3 (by kernel_rfl)
    (of_decide_eq_true (by kernel_rfl)) (by unfold Func.isWrapper; first | (rw [if_pos (by decide +kernel)]; kernel_rfl) | (rw [if_neg (by decide +kernel)]; exact ⟨rfl, rfl⟩))
    (fun os started H enc _ => lifted os started H enc)
#print axioms proved
end Go.Proofs.Ytlagnbbbokgdfaa.dbmNames
