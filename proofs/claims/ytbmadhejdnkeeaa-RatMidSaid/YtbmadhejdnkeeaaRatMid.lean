/-
  The law RatMid answers true for every two fractions, and leaves them as they are; no conditions.
-/
import Derived.Test.YtbmadhejdnkeeaaRatLaw
import Derived.Test.YtbmadhejdnkeeaaRatCmp
namespace Go.Proofs.Ytbmadhejdnkeeaa.ratMid
open Go.ChangeShapes Go.WideShapes Go.ChangeAt Go.RowKit rmath bound num rat ratlaw
set_option linter.unusedVariables false

set_option maxRecDepth 100000 in
set_option maxHeartbeats 4000000 in
theorem walk_no (a b c d E : Int) (w : World) (hE : (E != 0) = true)
    (c1 : RowKit.Hid (law.Says 11 #[.agg #[.int .i64 (a), .int .i64 (b)], .agg #[.int .i64 (c), .int .i64 (d)]] (.tuple #[.agg #[.int .i64 (0), .int .i64 (0)], .int .i64 E])))
    (c2 : RowKit.Hid (law.Says 11 #[.agg #[.int .i64 (c), .int .i64 (d)], .agg #[.int .i64 (a), .int .i64 (b)]] (.tuple #[.agg #[.int .i64 (0), .int .i64 (0)], .int .i64 E]))) :
    Calls Try.prog 7 #[.agg #[.int .i64 (a), .int .i64 (b)], .agg #[.int .i64 (c), .int .i64 (d)]] w fun e w' => e = .returned (.bool true) ∧ Below w.heap.size w w' := by
  have ka : RowKit.Hid (law.Says 15 #[] (.bool true)) := Lib.hid alive
  have A := lies.on_alloc (lies.made w 23 #[.int .i64 a, .int .i64 b]) (.cells #[.int .i64 c, .int .i64 d] 23)
  have C := lies.made (w.alloc (.cells #[.int .i64 a, .int .i64 b] 23)) 23 #[.int .i64 c, .int .i64 d]
  rw [World.size_alloc] at C
  have hB := up2 w (.cells #[.int .i64 a, .int .i64 b] 23) (.cells #[.int .i64 c, .int .i64 d] 23)
  go_enter Try.func7, Try.ntmps7
  go_wp2_with (first
    | ((with_reducible refine (said ka _).mono ?_); rintro e w0 ⟨rfl, hN⟩; (replace hB := ratlaw.go0 hB hN); (replace A := lies.on_call A hN); (replace C := lies.on_call C hN); clear hN; obtain ⟨A0, A1, A2, A3, A4⟩ := lies.two A; obtain ⟨C0, C1, C2, C3, C4⟩ := lies.two C)
    | ((with_reducible refine (said c1 _).mono ?_); rintro e w1 ⟨rfl, hN⟩; (replace hB := up (ratlaw.go0 hB hN) (.cells #[.int .i64 0, .int .i64 0] 23)); (replace A := lies.on_alloc (lies.on_call A hN) (.cells #[.int .i64 0, .int .i64 0] 23)); (replace C := lies.on_alloc (lies.on_call C hN) (.cells #[.int .i64 0, .int .i64 0] 23)); clear hN; obtain ⟨A0, A1, A2, A3, A4⟩ := lies.two A; obtain ⟨C0, C1, C2, C3, C4⟩ := lies.two C; have M := lies.made w1 23 #[.int .i64 0, .int .i64 0])
    | ((with_reducible refine (said c2 _).mono ?_); rintro e w2 ⟨rfl, hN⟩; (replace hB := up (ratlaw.go0 hB hN) (.cells #[.int .i64 0, .int .i64 0] 23)); (replace A := lies.on_alloc (lies.on_call A hN) (.cells #[.int .i64 0, .int .i64 0] 23)); (replace C := lies.on_alloc (lies.on_call C hN) (.cells #[.int .i64 0, .int .i64 0] 23)); (replace M := lies.on_alloc (lies.on_call M hN) (.cells #[.int .i64 0, .int .i64 0] 23)); clear hN; obtain ⟨A0, A1, A2, A3, A4⟩ := lies.two A; obtain ⟨C0, C1, C2, C3, C4⟩ := lies.two C; obtain ⟨M0, M1, M2, M3, M4⟩ := lies.two M))
  go_ret
  exact ⟨rfl, hB⟩

set_option maxRecDepth 100000 in
set_option maxHeartbeats 8000000 in
theorem walk_yes (a b c d P Q n S T J : Int) (w : World)
    (c1 : RowKit.Hid (law.Says 11 #[.agg #[.int .i64 (a), .int .i64 (b)], .agg #[.int .i64 (c), .int .i64 (d)]] (.tuple #[.agg #[.int .i64 (P), .int .i64 (Q)], .int .i64 0])))
    (c2 : RowKit.Hid (law.Says 11 #[.agg #[.int .i64 (c), .int .i64 (d)], .agg #[.int .i64 (a), .int .i64 (b)]] (.tuple #[.agg #[.int .i64 (P), .int .i64 (Q)], .int .i64 0])))
    (c3 : RowKit.Hid (law.Says 16 #[.agg #[.int .i64 (a), .int .i64 (b)], .agg #[.int .i64 (c), .int .i64 (d)]] (.tuple #[.int .i64 n, .int .i64 0])))
    (c4 : RowKit.Hid (law.Says 16 #[.agg #[.int .i64 (a), .int .i64 (b)], .agg #[.int .i64 (P), .int .i64 (Q)]] (.tuple #[.int .i64 n, .int .i64 0])))
    (c5 : RowKit.Hid (law.Says 16 #[.agg #[.int .i64 (P), .int .i64 (Q)], .agg #[.int .i64 (c), .int .i64 (d)]] (.tuple #[.int .i64 n, .int .i64 0])))
    (c6 : RowKit.Hid (law.Says 23 #[.agg #[.int .i64 (P), .int .i64 (Q)]] (.int .i64 0)))
    (c7 : RowKit.Hid (law.Says 18 #[.agg #[.int .i64 (a), .int .i64 (b)], .agg #[.int .i64 (c), .int .i64 (d)]] (.tuple #[.agg #[.int .i64 (S), .int .i64 (T)], .int .i64 J])))
    (c8 : RowKit.Hid (law.Says 18 #[.agg #[.int .i64 (P), .int .i64 (Q)], .agg #[.int .i64 (P), .int .i64 (Q)]] (.tuple #[.agg #[.int .i64 (S), .int .i64 (T)], .int .i64 J]))) :
    Calls Try.prog 7 #[.agg #[.int .i64 (a), .int .i64 (b)], .agg #[.int .i64 (c), .int .i64 (d)]] w fun e w' => e = .returned (.bool true) ∧ Below w.heap.size w w' := by
  have ka : RowKit.Hid (law.Says 15 #[] (.bool true)) := Lib.hid alive
  have two : J = 0 ∨ ((J == 0) = false ∧ (J != 0) = true) := by
    by_cases h : J = 0
    · exact .inl h
    · exact .inr (by simp [h])
  have A := lies.on_alloc (lies.made w 23 #[.int .i64 a, .int .i64 b]) (.cells #[.int .i64 c, .int .i64 d] 23)
  have C := lies.made (w.alloc (.cells #[.int .i64 a, .int .i64 b] 23)) 23 #[.int .i64 c, .int .i64 d]
  rw [World.size_alloc] at C
  have hB := up2 w (.cells #[.int .i64 a, .int .i64 b] 23) (.cells #[.int .i64 c, .int .i64 d] 23)
  rcases two with rfl | ⟨e1, e2⟩
  all_goals
    go_enter Try.func7, Try.ntmps7
    go_wp2_with (first
      | ((with_reducible refine (said ka _).mono ?_); rintro e w0 ⟨rfl, hN⟩; (replace hB := ratlaw.go0 hB hN); (replace A := lies.on_call A hN); (replace C := lies.on_call C hN); clear hN; obtain ⟨A0, A1, A2, A3, A4⟩ := lies.two A; obtain ⟨C0, C1, C2, C3, C4⟩ := lies.two C)
      | ((with_reducible refine (said c1 _).mono ?_); rintro e w1 ⟨rfl, hN⟩; (replace hB := up (ratlaw.go0 hB hN) (.cells #[.int .i64 P, .int .i64 Q] 23)); (replace A := lies.on_alloc (lies.on_call A hN) (.cells #[.int .i64 P, .int .i64 Q] 23)); (replace C := lies.on_alloc (lies.on_call C hN) (.cells #[.int .i64 P, .int .i64 Q] 23)); clear hN; obtain ⟨A0, A1, A2, A3, A4⟩ := lies.two A; obtain ⟨C0, C1, C2, C3, C4⟩ := lies.two C; have M := lies.made w1 23 #[.int .i64 P, .int .i64 Q])
      | ((with_reducible refine (said c2 _).mono ?_); rintro e w2 ⟨rfl, hN⟩; (replace hB := up (ratlaw.go0 hB hN) (.cells #[.int .i64 P, .int .i64 Q] 23)); (replace A := lies.on_alloc (lies.on_call A hN) (.cells #[.int .i64 P, .int .i64 Q] 23)); (replace C := lies.on_alloc (lies.on_call C hN) (.cells #[.int .i64 P, .int .i64 Q] 23)); (replace M := lies.on_alloc (lies.on_call M hN) (.cells #[.int .i64 P, .int .i64 Q] 23)); clear hN; obtain ⟨A0, A1, A2, A3, A4⟩ := lies.two A; obtain ⟨C0, C1, C2, C3, C4⟩ := lies.two C; obtain ⟨M0, M1, M2, M3, M4⟩ := lies.two M)
      | ((with_reducible refine (said c3 _).mono ?_); rintro e w3 ⟨rfl, hN⟩; (replace hB := ratlaw.go0 hB hN); (replace A := lies.on_call A hN); (replace C := lies.on_call C hN); (replace M := lies.on_call M hN); clear hN; obtain ⟨A0, A1, A2, A3, A4⟩ := lies.two A; obtain ⟨C0, C1, C2, C3, C4⟩ := lies.two C; obtain ⟨M0, M1, M2, M3, M4⟩ := lies.two M)
      | ((with_reducible refine (said c4 _).mono ?_); rintro e w4 ⟨rfl, hN⟩; (replace hB := ratlaw.go0 hB hN); (replace A := lies.on_call A hN); (replace C := lies.on_call C hN); (replace M := lies.on_call M hN); clear hN; obtain ⟨A0, A1, A2, A3, A4⟩ := lies.two A; obtain ⟨C0, C1, C2, C3, C4⟩ := lies.two C; obtain ⟨M0, M1, M2, M3, M4⟩ := lies.two M)
      | ((with_reducible refine (said c5 _).mono ?_); rintro e w5 ⟨rfl, hN⟩; (replace hB := ratlaw.go0 hB hN); (replace A := lies.on_call A hN); (replace C := lies.on_call C hN); (replace M := lies.on_call M hN); clear hN; obtain ⟨A0, A1, A2, A3, A4⟩ := lies.two A; obtain ⟨C0, C1, C2, C3, C4⟩ := lies.two C; obtain ⟨M0, M1, M2, M3, M4⟩ := lies.two M)
      | ((with_reducible refine (said c6 _).mono ?_); rintro e w6 ⟨rfl, hN⟩; (replace hB := ratlaw.go0 hB hN); (replace A := lies.on_call A hN); (replace C := lies.on_call C hN); (replace M := lies.on_call M hN); clear hN; obtain ⟨A0, A1, A2, A3, A4⟩ := lies.two A; obtain ⟨C0, C1, C2, C3, C4⟩ := lies.two C; obtain ⟨M0, M1, M2, M3, M4⟩ := lies.two M)
      | ((with_reducible refine (said c7 _).mono ?_); rintro e w7 ⟨rfl, hN⟩; (replace hB := up (ratlaw.go0 hB hN) (.cells #[.int .i64 S, .int .i64 T] 23)); (replace M := lies.on_alloc (lies.on_call M hN) (.cells #[.int .i64 S, .int .i64 T] 23)); clear hN; obtain ⟨M0, M1, M2, M3, M4⟩ := lies.two M; have U := lies.made w7 23 #[.int .i64 S, .int .i64 T])
      | ((with_reducible refine (said c8 _).mono ?_); rintro e w8 ⟨rfl, hN⟩; (replace hB := up (ratlaw.go0 hB hN) (.cells #[.int .i64 S, .int .i64 T] 23)); (replace U := lies.on_alloc (lies.on_call U hN) (.cells #[.int .i64 S, .int .i64 T] 23)); clear hN; obtain ⟨U0, U1, U2, U3, U4⟩ := lies.two U))
    go_ret
    exact ⟨rfl, hB⟩

theorem walk (a b c d : Int) (a1 : -9223372036854775808 ≤ a) (a2 : a ≤ 9223372036854775807) (b1 : -9223372036854775808 ≤ b) (b2 : b ≤ 9223372036854775807) (c1 : -9223372036854775808 ≤ c) (c2 : c ≤ 9223372036854775807) (d1 : -9223372036854775808 ≤ d) (d2 : d ≤ 9223372036854775807) (w : World) :
    Calls Try.prog 7 #[.agg #[.int .i64 (a), .int .i64 (b)], .agg #[.int .i64 (c), .int .i64 (d)]] w fun e w' => e = .returned (.bool true) ∧ Below w.heap.size w w' := by
  obtain ⟨x, y, z⟩ := part_comm 2 a b c d
  by_cases h : partE 2 a b c d = 0
  · obtain ⟨g, m, e, p1, p2⟩ := part_good (by omega) h
    obtain ⟨v1, v2⟩ := cmpV_is g
    obtain ⟨u1, u2⟩ := cmpV_is (show Both a b (partN 2 a b c d) (partD 2 a b c d) from ⟨g.1, m⟩)
    obtain ⟨t1, t2⟩ := cmpV_is (show Both (partN 2 a b c d) (partD 2 a b c d) c d from ⟨m, g.2⟩)
    rw [mid_left g.2.1 m.1 e] at u1
    rw [mid_right g.1.1 m.1 e] at t1
    exact walk_yes a b c d _ _ _ _ _ _ w (Lib.hid (mid_at a b c d _ _ _ a1 a2 c1 c2 ⟨rfl, rfl, h⟩)) (Lib.hid (mid_at c d a b _ _ _ c1 c2 a1 a2 ⟨x, y, z.trans h⟩)) (Lib.hid (cmp_at a b c d _ _ a1 a2 c1 c2 ⟨v1, v2⟩))
      (Lib.hid (cmp_at _ _ _ _ _ _ a1 a2 p1 p2 ⟨u1, u2⟩)) (Lib.hid (cmp_at _ _ _ _ _ _ p1 p2 c1 c2 ⟨t1, t2⟩)) (Lib.hid (check_at _ _ _ p1 p2 (rchk_ok m))) (Lib.hid (add_at a b c d _ _ _ a1 a2 c1 c2 ⟨rfl, rfl, rfl⟩)) (Lib.hid (add_at _ _ _ _ _ _ _ p1 p2 p1 p2 (mid_twice g m e)))
  · obtain ⟨p, q⟩ := part_wrong h
    exact walk_no a b c d _ w (by simpa using h) (Lib.hid (mid_at a b c d _ _ _ a1 a2 c1 c2 ⟨p, q, rfl⟩)) (Lib.hid (mid_at c d a b _ _ _ c1 c2 a1 a2 ⟨x.trans p, y.trans q, z⟩))

set_option maxRecDepth 100000 in
theorem lifted (os : Os) (started : os.Started) (H : Type) (enc : TypeId × Value → H) :
    ReturnsInHanded {} Try.checked os 7 .any (Rows.ratMidSpec.pre6 enc Try.prog Try.f7 Rows.ratMidRow.domain false) (Rows.ratMidSpec.post enc Try.prog Try.f7 false true false false) := by
  refine returnsInHanded_of_change (C := Try.checked) law.own started (by kernel_rfl) Try.func7
    (ChangeSpec.witness6 (enc := enc) (C := Try.checked) false ⟨#[], #[.agg #[.int .i64 0, .int .i64 0], .agg #[.int .i64 0, .int .i64 0]], []⟩ 8 (by kernel_rfl) (by kernel_rfl) (by kernel_rfl) (by kernel_rfl)) ?_
  intro W base args ds gs before hval0 hW _ _
  have hval : ∀ (j : Nat) t v, Try.f7.params[j]? = some t → args[j]? = some v → Value.okWide Try.prog W .any base t v := hval0
  have hW' := hW
  obtain ⟨p, q, hA0, hV, rfl, _, _⟩ := hW
  have hA : DataW.TrodAll enc Try.prog W 0 (fun _ => true) true Try.f7.params.toList args.toList ds p := hA0
  rw [Try.params7] at hA hval
  obtain ⟨v0, vs0, d0, ds0, p0, q0, hargs, rfl, rfl, h0, r0⟩ := trodAll_cons hA
  obtain ⟨v1, vs1, d1, ds1, p1, q1, rfl, rfl, rfl, h1, r1⟩ := trodAll_cons r0
  obtain ⟨rfl, rfl, rfl⟩ := trodAll_nil r1
  obtain rfl : args = #[v0, v1] := by cases args; simp_all
  obtain ⟨a0, b0, rfl, x0, y0⟩ := ratlaw.open_rat (hval 0 23 v0 rfl rfl) h0
  obtain ⟨a1, b1, rfl, x1, y1⟩ := ratlaw.open_rat (hval 1 23 v1 rfl rfl) h1
  refine (walk a0 b0 a1 b1 (law.wf_lo x0) (law.wf_hi x0) (law.wf_lo y0) (law.wf_hi y0) (law.wf_lo x1) (law.wf_hi x1) (law.wf_lo y1) (law.wf_hi y1) W).mono fun e W' ⟨he, hB⟩ => ?_
  subst he
  exact ⟨_, rfl, law.post_true law.laidOut (by kernel_rfl) rfl Try.underlying4 rfl hW' (fun h => by subst h; rfl) hB⟩

theorem proved : Rows.RatMidSaid :=
  OpenClaim.holds_of_wide 7 Try.f7 rfl rfl rfl rfl rfl rfl rfl ⟨rfl, rfl, rfl, rfl, rfl⟩ rfl rfl rfl rfl rfl (by kernel_rfl) Try.func7 (by kernel_rfl)
    (of_decide_eq_true (by kernel_rfl)) (by unfold Func.isWrapper; first | (rw [if_pos (by decide +kernel)]; kernel_rfl) | (rw [if_neg (by decide +kernel)]; exact ⟨rfl, rfl⟩))
    (fun os started H enc _ => lifted os started H enc)
#print axioms proved
end Go.Proofs.Ytbmadhejdnkeeaa.ratMid
