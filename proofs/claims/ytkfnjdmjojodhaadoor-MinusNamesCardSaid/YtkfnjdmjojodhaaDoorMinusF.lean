/-
  What law 11's own calls answer; each theorem names its conditions.
-/
import Derived.Test.YtkfnjdmjojodhaaDoorMinusN
import Derived.Test.YtkfnjdmjojodhaaDoorZoneI
namespace Go.Proofs.YtkfnjdmjojodhaaDoor.mlaw
open Go.Joins Go.ChangeShapes Go.WideShapes Go.ChangeAt Go.RowKit num rat dbm Go.Proofs.YtkfnjdmjojodhaaDoor.tight Go.Proofs.YtkfnjdmjojodhaaDoor.incl Go.Proofs.YtkfnjdmjojodhaaDoor.plaw Go.Proofs.YtkfnjdmjojodhaaDoor.zopen Go.Proofs.YtkfnjdmjojodhaaDoor.zone Go.Proofs.YtkfnjdmjojodhaaDoor.win Go.Proofs.YtkfnjdmjojodhaaDoor.minus Go.Proofs.YtkfnjdmjojodhaaDoor.mz
open bound hiding up
set_option linter.unusedVariables false
set_option linter.unusedSimpArgs false

/-! answers -/
/-- less one, by LessR. -/
theorem min_less {a b : List Int} {r : List (List Int)} {f : Int} (ha : Zo a) (hb : Zo b) (h : StepP b [a] [] r f) : LessR b 6 a r f := by
  have z : ∀ z, z ∈ [a] → Zo z := fun z hz => by rw [List.mem_singleton.1 hz]; exact ha
  have t := tot_six b [a]
  rw [List.length_singleton] at t
  obtain ⟨k, _⟩ := stepP_few hb.2.1 hb.1 [a] z (by rw [List.length_nil]; omega) h
  obtain ⟨m, e, hm, q⟩ := k
  rcases q with ⟨q1, q2, q3⟩ | ⟨q1, ⟨q2, q3, q4⟩ | ⟨_, q3⟩⟩
  · rcases less_err 6 hm with e0 | ⟨e8, em⟩
    · exact (q1 e0).elim
    · rw [q2, q3, ← em]; exact hm
  · exfalso
    subst q1
    have l : m.length ≤ 6 := by
      obtain ⟨ys, hy⟩ := pcs_ex b 6 a
      obtain ⟨f', h1, _⟩ := pcs_less hb.2.1 hb.1 6 (Nat.le_refl _) ha hy
      obtain ⟨e1, e2⟩ := less_same 6 h1 hm
      subst e2
      rw [if_pos rfl] at e1
      rw [e1]
      exact (pcs_all hb.2.1 hb.1 6 (Nat.le_refl _) ha hy).1
    rw [List.nil_append] at q2
    omega
  · obtain ⟨rfl, rfl⟩ := q3
    subst q1
    exact hm
theorem zo_may {a : List Int} (ha : a.length = 6) (ta : Tops a) (h : MayZ a) : Zo a := ⟨h, ta, ha⟩
/-- pieces without an error. -/
theorem pcs_is {a b : List Int} {o : List (List Int)} (ha : Zo a) (hb : Zo b) (h : PcsR b 6 a (mkz o)) : LessR b 6 a o 0 := by
  obtain ⟨f, h1, h2⟩ := pcs_less hb.2.1 hb.1 6 (Nat.le_refl _) ha h
  rw [good_mk] at h1 h2
  rcases h2 with ⟨rfl, _⟩ | ⟨_, x, h2⟩
  · rw [if_pos rfl] at h1; exact h1
  · exfalso
    have := congrArg List.length h2
    simp at this
theorem cut_told {z w out ts us : List Int} (e : lesT (fullT z) (fullT w) = ts) (k : OkD 3 ts ∧ clT 3 ts = us) (m : MayD 3 us) (s : shortT us = out) : CutR z w out 0 := by
  unfold CutR
  rw [e, k.2]
  exact .inr (.inr ⟨k.1, m, s.symm, rfl⟩)
theorem own2 {W : World} {base : Nat} {v : Value} {x0 x1 x2 x3 x4 x5 y0 y1 y2 y3 y4 y5 : Int} (h : W.ownsRow base 24 6 v 2 (flatZ [[x0, x1, x2, x3, x4, x5], [y0, y1, y2, y3, y4, y5]])) :
    ∃ g cap, v = .slice (some ⟨g, 0, none⟩) 2 cap ∧ g < W.heap.size ∧ W.cell? ⟨g, 0, none⟩ = some (.int .i64 x0) ∧ W.cell? ⟨g, 1, none⟩ = some (.int .i64 x1) ∧ W.cell? ⟨g, 2, none⟩ = some (.int .i64 x2) ∧ W.cell? ⟨g, 3, none⟩ = some (.int .i64 x3) ∧ W.cell? ⟨g, 4, none⟩ = some (.int .i64 x4) ∧ W.cell? ⟨g, 5, none⟩ = some (.int .i64 x5) ∧
      W.cell? ⟨g, 6, none⟩ = some (.int .i64 y0) ∧ W.cell? ⟨g, 7, none⟩ = some (.int .i64 y1) ∧ W.cell? ⟨g, 8, none⟩ = some (.int .i64 y2) ∧ W.cell? ⟨g, 9, none⟩ = some (.int .i64 y3) ∧ W.cell? ⟨g, 10, none⟩ = some (.int .i64 y4) ∧ W.cell? ⟨g, 11, none⟩ = some (.int .i64 y5) := by
  rcases ownsRow_forms h with ⟨_, h0⟩ | ⟨g, cap, rfl⟩
  · cases h0
  · exact ⟨g, cap, rfl, (h.lt g rfl).2, h.cellAt 0 (by decide), h.cellAt 1 (by decide), h.cellAt 2 (by decide), h.cellAt 3 (by decide), h.cellAt 4 (by decide), h.cellAt 5 (by decide), h.cellAt 6 (by decide), h.cellAt 7 (by decide), h.cellAt 8 (by decide), h.cellAt 9 (by decide), h.cellAt 10 (by decide), h.cellAt 11 (by decide)⟩
theorem own1 {W : World} {base : Nat} {v : Value} {x0 x1 x2 x3 x4 x5 : Int} (h : W.ownsRow base 24 6 v 1 (flatZ [[x0, x1, x2, x3, x4, x5]])) :
    ∃ g cap, v = .slice (some ⟨g, 0, none⟩) 1 cap ∧ g < W.heap.size ∧ W.cell? ⟨g, 0, none⟩ = some (.int .i64 x0) ∧ W.cell? ⟨g, 1, none⟩ = some (.int .i64 x1) ∧ W.cell? ⟨g, 2, none⟩ = some (.int .i64 x2) ∧ W.cell? ⟨g, 3, none⟩ = some (.int .i64 x3) ∧ W.cell? ⟨g, 4, none⟩ = some (.int .i64 x4) ∧ W.cell? ⟨g, 5, none⟩ = some (.int .i64 x5) := by
  rcases ownsRow_forms h with ⟨_, h0⟩ | ⟨g, cap, rfl⟩
  · cases h0
  · exact ⟨g, cap, rfl, (h.lt g rfl).2, h.cellAt 0 (by decide), h.cellAt 1 (by decide), h.cellAt 2 (by decide), h.cellAt 3 (by decide), h.cellAt 4 (by decide), h.cellAt 5 (by decide)⟩
/-! the chapter's zones -/
theorem make_a : MakeR (0, false, 4, false, false) (0, false, 4, false, false) (0, true, 0, false, true) [8, 1, 9, 0, 9, 0] 0 := by
  have h0 : MayP (0, false, 4, false, false) := ⟨⟨by decide, by decide⟩, .inr ⟨rfl, ⟨by decide, by decide⟩, by decide⟩⟩
  have h1 : MayP (0, false, 4, false, false) := ⟨⟨by decide, by decide⟩, .inr ⟨rfl, ⟨by decide, by decide⟩, by decide⟩⟩
  have h2 : MayP (0, true, 0, false, true) := ⟨⟨by decide, by decide⟩, .inl ⟨rfl, rfl, rfl⟩⟩
  have e : fullT (spanZ (0, false, 4, false, false) (0, false, 4, false, false) (0, true, 0, false, true)) = [1, 1, 1, 9, 1, 0, 9, 9223372036854775807, 1] := by decide +kernel
  obtain ⟨k1, k2⟩ := tlaw.ok_cl (m := 3) (by decide) (ts := [1, 1, 1, 9, 1, 0, 9, 9223372036854775807, 1]) (us := [1, 1, 0, 8, 1, 0, 9, 9, 1]) (by decide +kernel) (by decide +kernel)
  have k1 : OkD 3 [1, 1, 1, 9, 1, 0, 9, 9223372036854775807, 1] := k1
  have k2 : clT 3 [1, 1, 1, 9, 1, 0, 9, 9223372036854775807, 1] = [1, 1, 0, 8, 1, 0, 9, 9, 1] := k2
  unfold MakeR
  rw [e, k2]
  exact .inr (.inr (.inr ⟨h0, h1, h2, k1, by decide, rfl, rfl⟩))
theorem zo_a : Zo [8, 1, 9, 0, 9, 0] := by
  obtain ⟨k1, k2⟩ := tlaw.ok_cl (m := 3) (by decide) (ts := [1, 1, 0, 8, 1, 0, 9, 9, 1]) (us := [1, 1, 0, 8, 1, 0, 9, 9, 1]) (by decide +kernel) (by decide +kernel)
  exact ⟨⟨k1, k2⟩, by unfold Tops; decide, rfl⟩
theorem make_b : MakeR (1, false, 2, false, false) (0, false, 4, false, false) (0, true, 0, false, true) [5, -1, 9, -2, 7, 0] 0 := by
  have h0 : MayP (1, false, 2, false, false) := ⟨⟨by decide, by decide⟩, .inr ⟨rfl, ⟨by decide, by decide⟩, by decide⟩⟩
  have h1 : MayP (0, false, 4, false, false) := ⟨⟨by decide, by decide⟩, .inr ⟨rfl, ⟨by decide, by decide⟩, by decide⟩⟩
  have h2 : MayP (0, true, 0, false, true) := ⟨⟨by decide, by decide⟩, .inl ⟨rfl, rfl, rfl⟩⟩
  have e : fullT (spanZ (1, false, 2, false, false) (0, false, 4, false, false) (0, true, 0, false, true)) = [1, -1, 1, 5, 1, 0, 9, 9223372036854775807, 1] := by decide +kernel
  obtain ⟨k1, k2⟩ := tlaw.ok_cl (m := 3) (by decide) (ts := [1, -1, 1, 5, 1, 0, 9, 9223372036854775807, 1]) (us := [1, -1, -2, 5, 1, 0, 9, 7, 1]) (by decide +kernel) (by decide +kernel)
  have k1 : OkD 3 [1, -1, 1, 5, 1, 0, 9, 9223372036854775807, 1] := k1
  have k2 : clT 3 [1, -1, 1, 5, 1, 0, 9, 9223372036854775807, 1] = [1, -1, -2, 5, 1, 0, 9, 7, 1] := k2
  unfold MakeR
  rw [e, k2]
  exact .inr (.inr (.inr ⟨h0, h1, h2, k1, by decide, rfl, rfl⟩))
theorem zo_b : Zo [5, -1, 9, -2, 7, 0] := by
  obtain ⟨k1, k2⟩ := tlaw.ok_cl (m := 3) (by decide) (ts := [1, -1, -2, 5, 1, 0, 9, 7, 1]) (us := [1, -1, -2, 5, 1, 0, 9, 7, 1]) (by decide +kernel) (by decide +kernel)
  exact ⟨⟨k1, k2⟩, by unfold Tops; decide, rfl⟩
theorem make_c : MakeR (2, true, 4, false, false) (0, false, 4, false, false) (0, true, 0, false, true) [8, -4, 9, -4, 4, 0] 0 := by
  have h0 : MayP (2, true, 4, false, false) := ⟨⟨by decide, by decide⟩, .inr ⟨rfl, ⟨by decide, by decide⟩, by decide⟩⟩
  have h1 : MayP (0, false, 4, false, false) := ⟨⟨by decide, by decide⟩, .inr ⟨rfl, ⟨by decide, by decide⟩, by decide⟩⟩
  have h2 : MayP (0, true, 0, false, true) := ⟨⟨by decide, by decide⟩, .inl ⟨rfl, rfl, rfl⟩⟩
  have e : fullT (spanZ (2, true, 4, false, false) (0, false, 4, false, false) (0, true, 0, false, true)) = [1, -4, 1, 9, 1, 0, 9, 9223372036854775807, 1] := by decide +kernel
  obtain ⟨k1, k2⟩ := tlaw.ok_cl (m := 3) (by decide) (ts := [1, -4, 1, 9, 1, 0, 9, 9223372036854775807, 1]) (us := [1, -4, -4, 8, 1, 0, 9, 4, 1]) (by decide +kernel) (by decide +kernel)
  have k1 : OkD 3 [1, -4, 1, 9, 1, 0, 9, 9223372036854775807, 1] := k1
  have k2 : clT 3 [1, -4, 1, 9, 1, 0, 9, 9223372036854775807, 1] = [1, -4, -4, 8, 1, 0, 9, 4, 1] := k2
  unfold MakeR
  rw [e, k2]
  exact .inr (.inr (.inr ⟨h0, h1, h2, k1, by decide, rfl, rfl⟩))
theorem zo_c : Zo [8, -4, 9, -4, 4, 0] := by
  obtain ⟨k1, k2⟩ := tlaw.ok_cl (m := 3) (by decide) (ts := [1, -4, -4, 8, 1, 0, 9, 4, 1]) (us := [1, -4, -4, 8, 1, 0, 9, 4, 1]) (by decide +kernel) (by decide +kernel)
  exact ⟨⟨k1, k2⟩, by unfold Tops; decide, rfl⟩
theorem make_d : MakeR (0, false, 1, true, false) (0, false, 4, false, false) (0, true, 0, false, true) [2, 1, 9, 0, 9, 0] 0 := by
  have h0 : MayP (0, false, 1, true, false) := ⟨⟨by decide, by decide⟩, .inr ⟨rfl, ⟨by decide, by decide⟩, by decide⟩⟩
  have h1 : MayP (0, false, 4, false, false) := ⟨⟨by decide, by decide⟩, .inr ⟨rfl, ⟨by decide, by decide⟩, by decide⟩⟩
  have h2 : MayP (0, true, 0, false, true) := ⟨⟨by decide, by decide⟩, .inl ⟨rfl, rfl, rfl⟩⟩
  have e : fullT (spanZ (0, false, 1, true, false) (0, false, 4, false, false) (0, true, 0, false, true)) = [1, 1, 1, 2, 1, 0, 9, 9223372036854775807, 1] := by decide +kernel
  obtain ⟨k1, k2⟩ := tlaw.ok_cl (m := 3) (by decide) (ts := [1, 1, 1, 2, 1, 0, 9, 9223372036854775807, 1]) (us := [1, 1, 0, 2, 1, 0, 9, 9, 1]) (by decide +kernel) (by decide +kernel)
  have k1 : OkD 3 [1, 1, 1, 2, 1, 0, 9, 9223372036854775807, 1] := k1
  have k2 : clT 3 [1, 1, 1, 2, 1, 0, 9, 9223372036854775807, 1] = [1, 1, 0, 2, 1, 0, 9, 9, 1] := k2
  unfold MakeR
  rw [e, k2]
  exact .inr (.inr (.inr ⟨h0, h1, h2, k1, by decide, rfl, rfl⟩))
theorem zo_d : Zo [2, 1, 9, 0, 9, 0] := by
  obtain ⟨k1, k2⟩ := tlaw.ok_cl (m := 3) (by decide) (ts := [1, 1, 0, 2, 1, 0, 9, 9, 1]) (us := [1, 1, 0, 2, 1, 0, 9, 9, 1]) (by decide +kernel) (by decide +kernel)
  exact ⟨⟨k1, k2⟩, by unfold Tops; decide, rfl⟩
theorem cut_c : CutR [8, 1, 9, 0, 9, 0] (oneZ 1 (-4)) [8, -4, 9, -4, 4, 0] 0 := cut_told (ts := [1, -4, 0, 8, 1, 0, 9, 9, 1]) (us := [1, -4, -4, 8, 1, 0, 9, 4, 1]) (by decide +kernel) (tlaw.ok_cl (m := 3) (by decide) (by decide +kernel) (by decide +kernel)) (by decide +kernel) rfl
theorem cut_y : CutR [8, 1, 9, 0, 9, 0] (oneZ 0 5) [5, 1, 9, 0, 9, 0] 0 := cut_told (ts := [1, 1, 0, 5, 1, 0, 9, 9, 1]) (us := [1, 1, 0, 5, 1, 0, 9, 9, 1]) (by decide +kernel) (tlaw.ok_cl (m := 3) (by decide) (by decide +kernel) (by decide +kernel)) (by decide +kernel) rfl
theorem cut_d : CutR [5, 1, 9, 0, 9, 0] (oneZ 0 2) [2, 1, 9, 0, 9, 0] 0 := cut_told (ts := [1, 1, 0, 2, 1, 0, 9, 9, 1]) (us := [1, 1, 0, 2, 1, 0, 9, 9, 1]) (by decide +kernel) (tlaw.ok_cl (m := 3) (by decide) (by decide +kernel) (by decide +kernel)) (by decide +kernel) rfl
theorem cut_b : CutR [5, 1, 9, 0, 9, 0] (oneZ 1 (-1)) [5, -1, 9, -2, 7, 0] 0 := cut_told (ts := [1, -1, 0, 5, 1, 0, 9, 9, 1]) (us := [1, -1, -2, 5, 1, 0, 9, 7, 1]) (by decide +kernel) (tlaw.ok_cl (m := 3) (by decide) (by decide +kernel) (by decide +kernel)) (by decide +kernel) rfl
theorem less_ab : LessR [5, -1, 9, -2, 7, 0] 6 [8, 1, 9, 0, 9, 0] [[8, -4, 9, -4, 4, 0], [2, 1, 9, 0, 9, 0]] 0 := by
  refine pcs_is zo_a zo_b ?_
  refine .inr (.inr ⟨by decide, by decide, _, 0, cut_c, .inr ⟨rfl, _, 0, cut_y, .inr ⟨rfl, [([2, 1, 9, 0, 9, 0], 0)], ?_, rfl⟩⟩⟩)
  refine .inr (.inr ⟨by decide, by decide, _, 0, cut_d, .inr ⟨rfl, _, 0, cut_b, .inr ⟨rfl, [], ?_, rfl⟩⟩⟩)
  exact .inl ⟨by decide, .inl ⟨by decide, .inl ⟨by decide, .inl ⟨by decide, rfl⟩⟩⟩⟩
theorem minus_ab (w : World) (hP : Pl w) : Calls Tryd.prog 9 #[.agg #[.int .i64 8, .int .i64 1, .int .i64 9, .int .i64 0, .int .i64 9, .int .i64 0], .agg #[.int .i64 5, .int .i64 (-1), .int .i64 9, .int .i64 (-2), .int .i64 7, .int .i64 0]] w fun e w' => Below w.heap.size w w' ∧ ∃ v, e = .returned (.tuple #[v, .int .i64 0]) ∧ w'.ownsRow w.heap.size 24 6 v 2 (flatZ [[8, -4, 9, -4, 4, 0], [2, 1, 9, 0, 9, 0]]) := by
  refine (minus_any 8 1 9 0 9 0 5 (-1) 9 (-2) 7 0 w hP zo_a.2.1 zo_b.2.1).mono ?_
  rintro e w' ⟨hB, v, r, f, rfl, hR, hO⟩
  rcases hR with ⟨n, _⟩ | ⟨_, _, hS⟩
  · exact (n ⟨zo_a.1, zo_b.1⟩).elim
  · obtain ⟨rfl, rfl⟩ := less_same 6 less_ab (min_less zo_a zo_b hS)
    exact ⟨hB, v, rfl, hO⟩
set_option maxRecDepth 100000 in
set_option maxHeartbeats 2000000 in
theorem of_is (lo : Int) (ls : Bool) (hi : Int) (hs op : Bool) (m0 m1 m2 m3 m4 m5 : Int) (w : World) (hP : Pl w) (hM : MakeR (lo, ls, hi, hs, op) (0, false, 4, false, false) (0, true, 0, false, true) [m0, m1, m2, m3, m4, m5] 0) :
    Calls Tryd.prog 8 #[.agg #[.int .i64 lo, .bool ls, .int .i64 hi, .bool hs, .bool op]] w fun e w' => e = .returned (.agg #[.int .i64 m0, .int .i64 m1, .int .i64 m2, .int .i64 m3, .int .i64 m4, .int .i64 m5]) ∧ Below w.heap.size w w' := by
  have DB := bound.up2 w (.cells #[.int .i64 lo, .bool ls, .int .i64 hi, .bool hs, .bool op] 27) (.cells #[.int .i64 0, .int .i64 0, .int .i64 0, .int .i64 0, .int .i64 0, .int .i64 0] 24)
  have D1 := lies.made_at (w.alloc (.cells #[.int .i64 lo, .bool ls, .int .i64 hi, .bool hs, .bool op] 27)) 24 #[.int .i64 0, .int .i64 0, .int .i64 0, .int .i64 0, .int .i64 0, .int .i64 0] (w.heap.size + 1) (by simp)
  have P0 := hP.on DB
  have HM := Lib.hid hM
  have hR : w.heap.size ≤ w.heap.size + 1 := by omega
  clear hP hM
  go_enter Tryd.func8, Tryd.ntmps8
  go_wp2_with fail
  generalize (w.alloc (.cells #[.int .i64 lo, .bool ls, .int .i64 hi, .bool hs, .bool op] 27)).alloc (.cells #[.int .i64 0, .int .i64 0, .int .i64 0, .int .i64 0, .int .i64 0, .int .i64 0] 24) = w0 at DB D1 P0 ⊢
  refine (make_any lo ls hi hs op 0 false 4 false false 0 true 0 false true w0 P0).mono ?_
  rintro e w1 ⟨hB, z0, z1, z2, z3, z4, z5, f, rfl, hM⟩
  obtain ⟨e1, rfl⟩ := zlaw.make_one HM.out hM
  injection e1 with e0 e1
  injection e1 with e1 e2
  injection e2 with e2 e3
  injection e3 with e3 e4
  injection e4 with e4 e5
  injection e5 with e5 _
  subst e0 e1 e2 e3 e4 e5
  replace D1 := lies.on_call D1 hB
  replace DB := later DB hB
  clear hB hM P0
  have hgl := lies.lt D1
  obtain ⟨⟨x0, x1, x2, x3, x4, x5⟩, ⟨y0, y1, y2, y3, y4, y5⟩, xl⟩ := six_cells D1
  clear D1
  go_wp2_with fail
  exact bodyPost_ret (v := .agg #[.int .i64 z0, .int .i64 z1, .int .i64 z2, .int .i64 z3, .int .i64 z4, .int .i64 z5]) (by simp [results, Tryd.results8, go_sem, x0, x1, x2, x3, x4, x5, xl]) rfl ⟨rfl, lies.frame_up (put_six DB hR _ _ _ _ _ _) _⟩
set_option maxRecDepth 100000 in
set_option maxHeartbeats 4000000 in
theorem alive_yes (w : World) (hP : Pl w) : Calls Tryd.prog 11 #[] w fun e w' => e = .returned (.bool true) ∧ Below w.heap.size w w' := by
  have P0 := hP
  have DB := Below.refl w.heap.size w
  clear hP
  go_enter Tryd.func11, Tryd.ntmps11
  go_wp2_with fail
  refine (of_is 0 false 4 false false 8 1 9 0 9 0 _ P0 make_a).mono ?_
  rintro e w1 ⟨rfl, hB⟩
  replace P0 := P0.on hB
  replace DB := later DB hB
  clear hB
  go_wp2_with fail
  refine (of_is 1 false 2 false false 5 (-1) 9 (-2) 7 0 _ P0 make_b).mono ?_
  rintro e w2 ⟨rfl, hB⟩
  replace P0 := P0.on hB
  replace DB := later DB hB
  clear hB
  go_wp2_with fail
  refine (minus_ab _ P0).mono ?_
  rintro e w3 ⟨hB, v, rfl, hO⟩
  replace P0 := P0.on hB
  replace DB := later DB hB
  clear hB
  obtain ⟨g, cap, rfl, hg, -⟩ := own2 hO
  go_wp2_with fail
  have hC : ∀ W, Below w3.heap.size w3 W → W.ownsRow w2.heap.size 24 6 (.slice (some ⟨g, 0, none⟩) 2 cap) 2 (flatZ [[8, -4, 9, -4, 4, 0], [2, 1, 9, 0, 9, 0]]) := fun W k => incl.own_call hO k
  have hq1 : ∀ W, (Op.equalIn 10000 24 (.agg #[.int .i64 8, .int .i64 (-4), .int .i64 9, .int .i64 (-4), .int .i64 4, .int .i64 0]) (.agg #[.int .i64 8, .int .i64 (-4), .int .i64 9, .int .i64 (-4), .int .i64 4, .int .i64 0])).run Tryd.prog W = .ok true W := fun W => by rw [eq_zone]; simp
  have hq2 : ∀ W, (Op.equalIn 10000 24 (.agg #[.int .i64 2, .int .i64 1, .int .i64 9, .int .i64 0, .int .i64 9, .int .i64 0]) (.agg #[.int .i64 2, .int .i64 1, .int .i64 9, .int .i64 0, .int .i64 9, .int .i64 0])).run Tryd.prog W = .ok true W := fun W => by rw [eq_zone]; simp
  have HC := Lib.hid hC
  clear hC hO
  refine wp_region_held_drew (S := Below w3.heap.size w3) (by kernel_rfl) (dbm.drawn1 (Below.refl _ _)) (fun hHeld => ?_)
  refine wpAnyH_take (i := 0) (v := ?_) rfl (by kernel_rfl) (by kernel_rfl) (by kernel_rfl) (fun _ _ _ h => h) (Or.inl ⟨by rfl, ?_⟩) hHeld ?_
  rotate_left
  · intro w hSw; obtain ⟨g', cap', e', -, x0, x1, x2, x3, x4, x5, x6, x7, x8, x9, x10, x11⟩ := own2 (HC.out _ hSw); cases e'; go_simp; try with_reducible rfl
  try simp only [Act.put, List.getElem_toArray, List.getElem_cons_zero, List.getElem_cons_succ, List.setIfInBounds_toArray, List.set_cons_zero, List.set_cons_succ]
  refine wpAnyH_take (i := 1) (v := ?_) rfl (by kernel_rfl) (by kernel_rfl) (by kernel_rfl) (fun _ _ _ h => h) (Or.inl ⟨by rfl, ?_⟩) hHeld ?_
  rotate_left
  · intro w hSw; obtain ⟨g', cap', e', -, x0, x1, x2, x3, x4, x5, x6, x7, x8, x9, x10, x11⟩ := own2 (HC.out _ hSw); cases e'; go_simp; try with_reducible rfl
  try simp only [Act.put, List.getElem_toArray, List.getElem_cons_zero, List.getElem_cons_succ, List.setIfInBounds_toArray, List.set_cons_zero, List.set_cons_succ]
  refine wpAnyH_take (i := 2) (v := ?_) rfl (by kernel_rfl) (by kernel_rfl) (by kernel_rfl) (fun _ _ _ h => h) (Or.inl ⟨by rfl, ?_⟩) hHeld ?_
  rotate_left
  · intro w hSw; obtain ⟨g', cap', e', -, x0, x1, x2, x3, x4, x5, x6, x7, x8, x9, x10, x11⟩ := own2 (HC.out _ hSw); cases e'; go_simp; try with_reducible rfl
  try simp only [Act.put, List.getElem_toArray, List.getElem_cons_zero, List.getElem_cons_succ, List.setIfInBounds_toArray, List.set_cons_zero, List.set_cons_succ]
  refine wpAnyH_take (i := 3) (v := ?_) rfl (by kernel_rfl) (by kernel_rfl) (by kernel_rfl) (fun _ _ _ h => h) (Or.inl ⟨by rfl, ?_⟩) hHeld ?_
  rotate_left
  · intro w hSw; obtain ⟨g', cap', e', -, x0, x1, x2, x3, x4, x5, x6, x7, x8, x9, x10, x11⟩ := own2 (HC.out _ hSw); cases e'; go_simp; try with_reducible rfl
  try simp only [Act.put, List.getElem_toArray, List.getElem_cons_zero, List.getElem_cons_succ, List.setIfInBounds_toArray, List.set_cons_zero, List.set_cons_succ]
  refine wpAnyH_take (i := 4) (v := ?_) rfl (by kernel_rfl) (by kernel_rfl) (by kernel_rfl) (fun _ _ _ h => h) (Or.inl ⟨by rfl, ?_⟩) hHeld ?_
  rotate_left
  · intro w hSw; obtain ⟨g', cap', e', -, x0, x1, x2, x3, x4, x5, x6, x7, x8, x9, x10, x11⟩ := own2 (HC.out _ hSw); cases e'; go_simp; try with_reducible rfl
  try simp only [Act.put, List.getElem_toArray, List.getElem_cons_zero, List.getElem_cons_succ, List.setIfInBounds_toArray, List.set_cons_zero, List.set_cons_succ]
  refine wpAnyH_take (i := 5) (v := ?_) rfl (by kernel_rfl) (by kernel_rfl) (by kernel_rfl) (fun _ _ _ h => h) (Or.inl ⟨by rfl, ?_⟩) hHeld ?_
  rotate_left
  · intro w hSw; obtain ⟨g', cap', e', -, x0, x1, x2, x3, x4, x5, x6, x7, x8, x9, x10, x11⟩ := own2 (HC.out _ hSw); cases e'; go_simp; try with_reducible rfl
  try simp only [Act.put, List.getElem_toArray, List.getElem_cons_zero, List.getElem_cons_succ, List.setIfInBounds_toArray, List.set_cons_zero, List.set_cons_succ]
  refine wpAnyH_take (i := 6) (v := ?_) rfl (by kernel_rfl) (by kernel_rfl) (by kernel_rfl) (fun _ _ _ h => h) (Or.inl ⟨by rfl, ?_⟩) hHeld ?_
  rotate_left
  · intro w hSw; obtain ⟨g', cap', e', -, x0, x1, x2, x3, x4, x5, x6, x7, x8, x9, x10, x11⟩ := own2 (HC.out _ hSw); cases e'; go_simp; try with_reducible rfl
  try simp only [Act.put, List.getElem_toArray, List.getElem_cons_zero, List.getElem_cons_succ, List.setIfInBounds_toArray, List.set_cons_zero, List.set_cons_succ]
  refine wpAnyH_take (i := 7) (v := ?_) rfl (by kernel_rfl) (by kernel_rfl) (by kernel_rfl) (fun _ _ _ h => h) (Or.inl ⟨by rfl, ?_⟩) hHeld ?_
  rotate_left
  · intro w hSw; obtain ⟨g', cap', e', -, x0, x1, x2, x3, x4, x5, x6, x7, x8, x9, x10, x11⟩ := own2 (HC.out _ hSw); cases e'; go_simp; try with_reducible rfl
  try simp only [Act.put, List.getElem_toArray, List.getElem_cons_zero, List.getElem_cons_succ, List.setIfInBounds_toArray, List.set_cons_zero, List.set_cons_succ]
  refine wpAnyH_take (i := 8) (v := ?_) rfl (by kernel_rfl) (by kernel_rfl) (by kernel_rfl) (fun _ _ _ h => h) (Or.inl ⟨by rfl, ?_⟩) hHeld ?_
  rotate_left
  · intro w hSw; obtain ⟨g', cap', e', -, x0, x1, x2, x3, x4, x5, x6, x7, x8, x9, x10, x11⟩ := own2 (HC.out _ hSw); cases e'; go_simp; try with_reducible rfl
  try simp only [Act.put, List.getElem_toArray, List.getElem_cons_zero, List.getElem_cons_succ, List.setIfInBounds_toArray, List.set_cons_zero, List.set_cons_succ]
  refine wpAnyH_take (i := 9) (v := ?_) rfl (by kernel_rfl) (by kernel_rfl) (by kernel_rfl) (fun _ _ _ h => h) (Or.inl ⟨by rfl, ?_⟩) hHeld ?_
  rotate_left
  · intro w hSw; obtain ⟨g', cap', e', -, x0, x1, x2, x3, x4, x5, x6, x7, x8, x9, x10, x11⟩ := own2 (HC.out _ hSw); cases e'; go_simp; try with_reducible rfl
  try simp only [Act.put, List.getElem_toArray, List.getElem_cons_zero, List.getElem_cons_succ, List.setIfInBounds_toArray, List.set_cons_zero, List.set_cons_succ]
  refine wpAnyH_take (i := 10) (v := ?_) rfl (by kernel_rfl) (by kernel_rfl) (by kernel_rfl) (fun _ _ _ h => h) (Or.inl ⟨by rfl, ?_⟩) hHeld ?_
  rotate_left
  · intro w hSw; obtain ⟨g', cap', e', -, x0, x1, x2, x3, x4, x5, x6, x7, x8, x9, x10, x11⟩ := own2 (HC.out _ hSw); cases e'; go_simp; try with_reducible rfl
  try simp only [Act.put, List.getElem_toArray, List.getElem_cons_zero, List.getElem_cons_succ, List.setIfInBounds_toArray, List.set_cons_zero, List.set_cons_succ]
  refine wpAnyH_take (i := 11) (v := ?_) rfl (by kernel_rfl) (by kernel_rfl) (by kernel_rfl) (fun _ _ _ h => h) (Or.inl ⟨by rfl, ?_⟩) hHeld ?_
  rotate_left
  · intro w hSw; obtain ⟨g', cap', e', -, x0, x1, x2, x3, x4, x5, x6, x7, x8, x9, x10, x11⟩ := own2 (HC.out _ hSw); cases e'; go_simp; try with_reducible rfl
  try simp only [Act.put, List.getElem_toArray, List.getElem_cons_zero, List.getElem_cons_succ, List.setIfInBounds_toArray, List.set_cons_zero, List.set_cons_succ]
  refine wpAnyH_ready (rs := [12]) (by kernel_rfl) (by simp) (AllReadyH.cons rfl (fun K hK => ?_) AllReadyH.nil)
  go_simp
  refine (of_is 2 true 4 false false 8 (-4) 9 (-4) 4 0 _ (P0.on hHeld) make_c).mono ?_
  rintro e u1 ⟨rfl, hB⟩
  refine hK.out _ _ (hHeld.trans (hB.mono hHeld.size)) (fun hNew => ?_)
  clear hB
  clear hHeld hK K
  have hHeld := hNew
  clear hNew
  try simp only [Act.put, List.getElem_toArray, List.getElem_cons_zero, List.getElem_cons_succ, List.setIfInBounds_toArray, List.set_cons_zero, List.set_cons_succ]
  refine wpAnyH_take (i := 13) (v := ?_) rfl (by kernel_rfl) (by kernel_rfl) (by kernel_rfl) (fun _ _ _ h => h) (Or.inl ⟨by rfl, ?_⟩) hHeld ?_
  rotate_left
  · intro w hSw; obtain ⟨g', cap', e', -, x0, x1, x2, x3, x4, x5, x6, x7, x8, x9, x10, x11⟩ := own2 (HC.out _ hSw); cases e'; go_simp; try with_reducible rfl
  try simp only [Act.put, List.getElem_toArray, List.getElem_cons_zero, List.getElem_cons_succ, List.setIfInBounds_toArray, List.set_cons_zero, List.set_cons_succ]
  refine wpAnyH_take (i := 14) (v := ?_) rfl (by kernel_rfl) (by kernel_rfl) (by kernel_rfl) (fun _ _ _ h => h) (Or.inl ⟨by rfl, ?_⟩) hHeld ?_
  rotate_left
  · intro w hSw; obtain ⟨g', cap', e', -, x0, x1, x2, x3, x4, x5, x6, x7, x8, x9, x10, x11⟩ := own2 (HC.out _ hSw); cases e'; go_simp; try with_reducible rfl
  try simp only [Act.put, List.getElem_toArray, List.getElem_cons_zero, List.getElem_cons_succ, List.setIfInBounds_toArray, List.set_cons_zero, List.set_cons_succ]
  refine wpAnyH_take (i := 15) (v := ?_) rfl (by kernel_rfl) (by kernel_rfl) (by kernel_rfl) (fun _ _ _ h => h) (Or.inl ⟨by rfl, ?_⟩) hHeld ?_
  rotate_left
  · intro w hSw; obtain ⟨g', cap', e', -, x0, x1, x2, x3, x4, x5, x6, x7, x8, x9, x10, x11⟩ := own2 (HC.out _ hSw); cases e'; go_simp; try with_reducible rfl
  try simp only [Act.put, List.getElem_toArray, List.getElem_cons_zero, List.getElem_cons_succ, List.setIfInBounds_toArray, List.set_cons_zero, List.set_cons_succ]
  refine wpAnyH_take (i := 16) (v := ?_) rfl (by kernel_rfl) (by kernel_rfl) (by kernel_rfl) (fun _ _ _ h => h) (Or.inl ⟨by rfl, ?_⟩) hHeld ?_
  rotate_left
  · intro w hSw; obtain ⟨g', cap', e', -, x0, x1, x2, x3, x4, x5, x6, x7, x8, x9, x10, x11⟩ := own2 (HC.out _ hSw); cases e'; go_simp; try with_reducible rfl
  try simp only [Act.put, List.getElem_toArray, List.getElem_cons_zero, List.getElem_cons_succ, List.setIfInBounds_toArray, List.set_cons_zero, List.set_cons_succ]
  refine wpAnyH_take (i := 17) (v := ?_) rfl (by kernel_rfl) (by kernel_rfl) (by kernel_rfl) (fun _ _ _ h => h) (Or.inl ⟨by rfl, ?_⟩) hHeld ?_
  rotate_left
  · intro w hSw; obtain ⟨g', cap', e', -, x0, x1, x2, x3, x4, x5, x6, x7, x8, x9, x10, x11⟩ := own2 (HC.out _ hSw); cases e'; go_simp; try with_reducible rfl
  try simp only [Act.put, List.getElem_toArray, List.getElem_cons_zero, List.getElem_cons_succ, List.setIfInBounds_toArray, List.set_cons_zero, List.set_cons_succ]
  refine wpAnyH_take (i := 18) (v := ?_) rfl (by kernel_rfl) (by kernel_rfl) (by kernel_rfl) (fun _ _ _ h => h) (Or.inl ⟨by rfl, ?_⟩) hHeld ?_
  rotate_left
  · intro w hSw; obtain ⟨g', cap', e', -, x0, x1, x2, x3, x4, x5, x6, x7, x8, x9, x10, x11⟩ := own2 (HC.out _ hSw); cases e'; go_simp; try with_reducible rfl
  try simp only [Act.put, List.getElem_toArray, List.getElem_cons_zero, List.getElem_cons_succ, List.setIfInBounds_toArray, List.set_cons_zero, List.set_cons_succ]
  refine wpAnyH_take (i := 19) (v := ?_) rfl (by kernel_rfl) (by kernel_rfl) (by kernel_rfl) (fun _ _ _ h => h) (Or.inl ⟨by rfl, ?_⟩) hHeld ?_
  rotate_left
  · intro w hSw; obtain ⟨g', cap', e', -, x0, x1, x2, x3, x4, x5, x6, x7, x8, x9, x10, x11⟩ := own2 (HC.out _ hSw); cases e'; go_simp; try with_reducible rfl
  try simp only [Act.put, List.getElem_toArray, List.getElem_cons_zero, List.getElem_cons_succ, List.setIfInBounds_toArray, List.set_cons_zero, List.set_cons_succ]
  refine wpAnyH_ready (rs := [20]) (by kernel_rfl) (by simp) (AllReadyH.cons rfl (fun K hK => ?_) AllReadyH.nil)
  go_simp
  refine (of_is 0 false 1 true false 2 1 9 0 9 0 _ (P0.on hHeld) make_d).mono ?_
  rintro e u2 ⟨rfl, hB⟩
  refine hK.out _ _ (hHeld.trans (hB.mono hHeld.size)) (fun hNew => ?_)
  clear hB
  clear hHeld hK K
  have hHeld := hNew
  clear hNew
  try simp only [Act.put, List.getElem_toArray, List.getElem_cons_zero, List.getElem_cons_succ, List.setIfInBounds_toArray, List.set_cons_zero, List.set_cons_succ]
  refine wpAnyH_take (i := 21) (v := ?_) rfl (by kernel_rfl) (by kernel_rfl) (by kernel_rfl) (fun _ _ _ h => h) (Or.inl ⟨by rfl, ?_⟩) hHeld ?_
  rotate_left
  · intro w hSw; obtain ⟨g', cap', e', -, x0, x1, x2, x3, x4, x5, x6, x7, x8, x9, x10, x11⟩ := own2 (HC.out _ hSw); cases e'; go_simp; try with_reducible rfl
  try simp only [Act.put, List.getElem_toArray, List.getElem_cons_zero, List.getElem_cons_succ, List.setIfInBounds_toArray, List.set_cons_zero, List.set_cons_succ]
  refine wpAnyH_take (i := 22) (v := ?_) rfl (by kernel_rfl) (by kernel_rfl) (by kernel_rfl) (fun _ _ _ h => h) (Or.inl ⟨by rfl, ?_⟩) hHeld ?_
  rotate_left
  · intro w hSw; obtain ⟨g', cap', e', -, x0, x1, x2, x3, x4, x5, x6, x7, x8, x9, x10, x11⟩ := own2 (HC.out _ hSw); cases e'; go_simp; try with_reducible rfl
  try simp only [Act.put, List.getElem_toArray, List.getElem_cons_zero, List.getElem_cons_succ, List.setIfInBounds_toArray, List.set_cons_zero, List.set_cons_succ]
  refine wpAnyH_take (i := 23) (v := ?_) rfl (by kernel_rfl) (by kernel_rfl) (by kernel_rfl) (fun _ _ _ h => h) (Or.inl ⟨by rfl, ?_⟩) hHeld ?_
  rotate_left
  · intro w hSw; obtain ⟨g', cap', e', -, x0, x1, x2, x3, x4, x5, x6, x7, x8, x9, x10, x11⟩ := own2 (HC.out _ hSw); cases e'; go_simp; try with_reducible rfl
  try simp only [Act.put, List.getElem_toArray, List.getElem_cons_zero, List.getElem_cons_succ, List.setIfInBounds_toArray, List.set_cons_zero, List.set_cons_succ]
  refine wpAnyH_take (i := 24) (v := ?_) rfl (by kernel_rfl) (by kernel_rfl) (by kernel_rfl) (fun _ _ _ h => h) (Or.inl ⟨by rfl, ?_⟩) hHeld ?_
  rotate_left
  · intro w hSw; obtain ⟨g', cap', e', -, x0, x1, x2, x3, x4, x5, x6, x7, x8, x9, x10, x11⟩ := own2 (HC.out _ hSw); cases e'; go_simp; try with_reducible rfl
  try simp only [Act.put, List.getElem_toArray, List.getElem_cons_zero, List.getElem_cons_succ, List.setIfInBounds_toArray, List.set_cons_zero, List.set_cons_succ]
  refine wpAnyH_take (i := 25) (v := ?_) rfl (by kernel_rfl) (by kernel_rfl) (by kernel_rfl) (fun _ _ _ h => h) (Or.inl ⟨by rfl, ?_⟩) hHeld ?_
  rotate_left
  · intro w hSw; obtain ⟨g', cap', e', -, x0, x1, x2, x3, x4, x5, x6, x7, x8, x9, x10, x11⟩ := own2 (HC.out _ hSw); cases e'; go_simp; try with_reducible rfl
  try simp only [Act.put, List.getElem_toArray, List.getElem_cons_zero, List.getElem_cons_succ, List.setIfInBounds_toArray, List.set_cons_zero, List.set_cons_succ]
  refine wpAnyH_take (i := 26) (v := ?_) rfl (by kernel_rfl) (by kernel_rfl) (by kernel_rfl) (fun _ _ _ h => h) (Or.inl ⟨by rfl, ?_⟩) hHeld ?_
  rotate_left
  · intro w hSw; obtain ⟨g', cap', e', -, x0, x1, x2, x3, x4, x5, x6, x7, x8, x9, x10, x11⟩ := own2 (HC.out _ hSw); cases e'; go_simp; try with_reducible rfl
  try simp only [Act.put, List.getElem_toArray, List.getElem_cons_zero, List.getElem_cons_succ, List.setIfInBounds_toArray, List.set_cons_zero, List.set_cons_succ]
  refine wpAnyH_ready (rs := [27]) (by kernel_rfl) (by simp) (AllReadyH.cons rfl (fun K hK => ?_) AllReadyH.nil)
  go_simp
  refine (zone.check_any 8 (-4) 9 (-4) 4 0 _ (P0.on hHeld) zo_c.2.1).mono ?_
  rintro e u3 ⟨hB, f, rfl, hc⟩
  obtain rfl : f = 0 := by
    rcases hc with ⟨_, q⟩ | ⟨q, _⟩
    · exact q
    · exact (q zo_c.1).elim
  refine hK.out _ _ (hHeld.trans (hB.mono hHeld.size)) (fun hNew => ?_)
  clear hB hc
  clear hHeld hK K
  have hHeld := hNew
  clear hNew
  try simp only [Act.put, List.getElem_toArray, List.getElem_cons_zero, List.getElem_cons_succ, List.setIfInBounds_toArray, List.set_cons_zero, List.set_cons_succ]
  refine wpAnyH_take (i := 28) (v := ?_) rfl (by kernel_rfl) (by kernel_rfl) (by kernel_rfl) (fun _ _ _ h => h) (Or.inl ⟨by rfl, ?_⟩) hHeld ?_
  rotate_left
  · intro w hSw; skip; go_simp; try with_reducible rfl
  try simp only [Act.put, List.getElem_toArray, List.getElem_cons_zero, List.getElem_cons_succ, List.setIfInBounds_toArray, List.set_cons_zero, List.set_cons_succ]
  refine wpAnyH_take (i := 29) (v := ?_) rfl (by kernel_rfl) (by kernel_rfl) (by kernel_rfl) (fun _ _ _ h => h) (Or.inl ⟨by rfl, ?_⟩) hHeld ?_
  rotate_left
  · intro w hSw; skip; go_simp; try with_reducible rfl
  try simp only [Act.put, List.getElem_toArray, List.getElem_cons_zero, List.getElem_cons_succ, List.setIfInBounds_toArray, List.set_cons_zero, List.set_cons_succ]
  refine wpAnyH_take (i := 30) (v := ?_) rfl (by kernel_rfl) (by kernel_rfl) (by kernel_rfl) (fun _ _ _ h => h) (Or.inl ⟨by rfl, ?_⟩) hHeld ?_
  rotate_left
  · intro w hSw; skip; go_simp; try with_reducible rfl
  try simp only [Act.put, List.getElem_toArray, List.getElem_cons_zero, List.getElem_cons_succ, List.setIfInBounds_toArray, List.set_cons_zero, List.set_cons_succ]
  refine wpAnyH_done (by kernel_rfl) ?_ _
  replace DB := later DB hHeld
  clear hHeld
  go_wp2_with fail
  go_ret
  exact ⟨rfl, DB⟩
end Go.Proofs.YtkfnjdmjojodhaaDoor.mlaw
