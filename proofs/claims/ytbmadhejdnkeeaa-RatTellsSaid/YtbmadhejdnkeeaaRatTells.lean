/-
  The law RatTells answers true for every two fractions and bound, and leaves them as they are; no conditions.
-/
import Derived.Test.YtbmadhejdnkeeaaRatRef9
import Derived.Test.YtbmadhejdnkeeaaRatRef4
import Derived.Test.YtbmadhejdnkeeaaRatLaw
namespace Go.Proofs.Ytbmadhejdnkeeaa.ratTells
open Go.ChangeShapes Go.WideShapes Go.ChangeAt Go.RowKit rmath bound num rat ratlaw
set_option linter.unusedVariables false

set_option maxRecDepth 100000 in
set_option maxHeartbeats 8000000 in
theorem walk_k (a b c d x V E1 P1 Q1 E2 P2 Q2 E3 E4 N E5 : Int) (u v : Bool) (w : World)
    (k1 : RowKit.Hid (law.Says 16 #[.agg #[.int .i64 (a), .int .i64 (b)], .agg #[.int .i64 (c), .int .i64 (d)]] (.tuple #[.int .i64 V, .int .i64 E1])))
    (k2 : RowKit.Hid (law.Says 17 #[.agg #[.int .i64 (a), .int .i64 (b)], .agg #[.int .i64 (c), .int .i64 (d)]] (.tuple #[.int .i64 V, .int .i64 E1])))
    (k3 : RowKit.Hid (law.Says 18 #[.agg #[.int .i64 (a), .int .i64 (b)], .agg #[.int .i64 (c), .int .i64 (d)]] (.tuple #[.agg #[.int .i64 (P1), .int .i64 (Q1)], .int .i64 E2])))
    (k4 : RowKit.Hid (law.Says 19 #[.agg #[.int .i64 (a), .int .i64 (b)], .agg #[.int .i64 (c), .int .i64 (d)]] (.tuple #[.agg #[.int .i64 (P1), .int .i64 (Q1)], .int .i64 E2])))
    (k5 : RowKit.Hid (law.Says 11 #[.agg #[.int .i64 (a), .int .i64 (b)], .agg #[.int .i64 (c), .int .i64 (d)]] (.tuple #[.agg #[.int .i64 (P2), .int .i64 (Q2)], .int .i64 E3])))
    (k6 : RowKit.Hid (law.Says 20 #[.agg #[.int .i64 (a), .int .i64 (b)], .agg #[.int .i64 (c), .int .i64 (d)]] (.tuple #[.agg #[.int .i64 (P2), .int .i64 (Q2)], .int .i64 E3])))
    (k7 : RowKit.Hid (law.Says 13 #[.agg #[.int .i64 (a), .int .i64 (b)], .agg #[.int .i64 (c), .int .i64 (d)], .int .i64 x] (.tuple #[.bool u, .int .i64 E4])))
    (k8 : RowKit.Hid (law.Says 21 #[.agg #[.int .i64 (a), .int .i64 (b)], .agg #[.int .i64 (c), .int .i64 (d)], .int .i64 x] (.tuple #[.bool u, .int .i64 E4])))
    (k9 : RowKit.Hid (law.Says 14 #[.agg #[.int .i64 (a), .int .i64 (b)]] (.tuple #[.int .i64 N, .bool v, .int .i64 E5])))
    (ka : RowKit.Hid (law.Says 22 #[.agg #[.int .i64 (a), .int .i64 (b)]] (.tuple #[.int .i64 N, .bool v, .int .i64 E5])))
    (kb : RowKit.Hid (law.Says 23 #[.agg #[.int .i64 (a), .int .i64 (b)]] (.int .i64 E5)))
    (kc : RowKit.Hid (law.Says 24 #[.agg #[.int .i64 (a), .int .i64 (b)]] (.int .i64 E5))) :
    Calls Try.prog 4 #[.agg #[.int .i64 (a), .int .i64 (b)], .agg #[.int .i64 (c), .int .i64 (d)], .int .i64 x] w fun e w' => e = .returned (.bool true) ∧ Below w.heap.size w w' := by
  have A := lies.on_alloc (lies.made w 23 #[.int .i64 a, .int .i64 b]) (.cells #[.int .i64 c, .int .i64 d] 23)
  have C := lies.made (w.alloc (.cells #[.int .i64 a, .int .i64 b] 23)) 23 #[.int .i64 c, .int .i64 d]
  rw [World.size_alloc] at C
  have hB := up2 w (.cells #[.int .i64 a, .int .i64 b] 23) (.cells #[.int .i64 c, .int .i64 d] 23)
  go_enter Try.func4, Try.ntmps4
  go_wp2_with (first
    | ((with_reducible refine (said k1 _).mono ?_); rintro e w1 ⟨rfl, hN⟩; (replace hB := ratlaw.go0 hB hN); (replace A := lies.on_call A hN); (replace C := lies.on_call C hN); clear hN; obtain ⟨A0, A1, A2, A3, A4⟩ := lies.two A; obtain ⟨C0, C1, C2, C3, C4⟩ := lies.two C)
    | ((with_reducible refine (said k2 _).mono ?_); rintro e w2 ⟨rfl, hN⟩; (replace hB := ratlaw.go0 hB hN); (replace A := lies.on_call A hN); (replace C := lies.on_call C hN); clear hN; obtain ⟨A0, A1, A2, A3, A4⟩ := lies.two A; obtain ⟨C0, C1, C2, C3, C4⟩ := lies.two C)
    | ((with_reducible refine (said k3 _).mono ?_); rintro e w3 ⟨rfl, hN⟩; (replace hB := up (ratlaw.go0 hB hN) (.cells #[.int .i64 P1, .int .i64 Q1] 23)); (replace A := lies.on_alloc (lies.on_call A hN) (.cells #[.int .i64 P1, .int .i64 Q1] 23)); (replace C := lies.on_alloc (lies.on_call C hN) (.cells #[.int .i64 P1, .int .i64 Q1] 23)); clear hN; obtain ⟨A0, A1, A2, A3, A4⟩ := lies.two A; obtain ⟨C0, C1, C2, C3, C4⟩ := lies.two C; have S := lies.made w3 23 #[.int .i64 P1, .int .i64 Q1])
    | ((with_reducible refine (said k4 _).mono ?_); rintro e w4 ⟨rfl, hN⟩; (replace hB := up (ratlaw.go0 hB hN) (.cells #[.int .i64 P1, .int .i64 Q1] 23)); (replace A := lies.on_alloc (lies.on_call A hN) (.cells #[.int .i64 P1, .int .i64 Q1] 23)); (replace C := lies.on_alloc (lies.on_call C hN) (.cells #[.int .i64 P1, .int .i64 Q1] 23)); (replace S := lies.on_alloc (lies.on_call S hN) (.cells #[.int .i64 P1, .int .i64 Q1] 23)); clear hN; obtain ⟨A0, A1, A2, A3, A4⟩ := lies.two A; obtain ⟨C0, C1, C2, C3, C4⟩ := lies.two C; obtain ⟨S0, S1, S2, S3, S4⟩ := lies.two S; have T := lies.made w4 23 #[.int .i64 P1, .int .i64 Q1])
    | ((with_reducible refine (said k5 _).mono ?_); rintro e w5 ⟨rfl, hN⟩; (replace hB := up (ratlaw.go0 hB hN) (.cells #[.int .i64 P2, .int .i64 Q2] 23)); (replace A := lies.on_alloc (lies.on_call A hN) (.cells #[.int .i64 P2, .int .i64 Q2] 23)); (replace C := lies.on_alloc (lies.on_call C hN) (.cells #[.int .i64 P2, .int .i64 Q2] 23)); (replace S := lies.on_alloc (lies.on_call S hN) (.cells #[.int .i64 P2, .int .i64 Q2] 23)); (replace T := lies.on_alloc (lies.on_call T hN) (.cells #[.int .i64 P2, .int .i64 Q2] 23)); clear hN; obtain ⟨A0, A1, A2, A3, A4⟩ := lies.two A; obtain ⟨C0, C1, C2, C3, C4⟩ := lies.two C; obtain ⟨S0, S1, S2, S3, S4⟩ := lies.two S; obtain ⟨T0, T1, T2, T3, T4⟩ := lies.two T; have M := lies.made w5 23 #[.int .i64 P2, .int .i64 Q2])
    | ((with_reducible refine (said k6 _).mono ?_); rintro e w6 ⟨rfl, hN⟩; (replace hB := up (ratlaw.go0 hB hN) (.cells #[.int .i64 P2, .int .i64 Q2] 23)); (replace A := lies.on_alloc (lies.on_call A hN) (.cells #[.int .i64 P2, .int .i64 Q2] 23)); (replace C := lies.on_alloc (lies.on_call C hN) (.cells #[.int .i64 P2, .int .i64 Q2] 23)); (replace S := lies.on_alloc (lies.on_call S hN) (.cells #[.int .i64 P2, .int .i64 Q2] 23)); (replace T := lies.on_alloc (lies.on_call T hN) (.cells #[.int .i64 P2, .int .i64 Q2] 23)); (replace M := lies.on_alloc (lies.on_call M hN) (.cells #[.int .i64 P2, .int .i64 Q2] 23)); clear hN; obtain ⟨A0, A1, A2, A3, A4⟩ := lies.two A; obtain ⟨C0, C1, C2, C3, C4⟩ := lies.two C; obtain ⟨S0, S1, S2, S3, S4⟩ := lies.two S; obtain ⟨T0, T1, T2, T3, T4⟩ := lies.two T; obtain ⟨M0, M1, M2, M3, M4⟩ := lies.two M; have O := lies.made w6 23 #[.int .i64 P2, .int .i64 Q2])
    | ((with_reducible refine (said k7 _).mono ?_); rintro e w7 ⟨rfl, hN⟩; (replace hB := ratlaw.go0 hB hN); (replace A := lies.on_call A hN); (replace C := lies.on_call C hN); (replace S := lies.on_call S hN); (replace T := lies.on_call T hN); (replace M := lies.on_call M hN); (replace O := lies.on_call O hN); clear hN; obtain ⟨A0, A1, A2, A3, A4⟩ := lies.two A; obtain ⟨C0, C1, C2, C3, C4⟩ := lies.two C; obtain ⟨S0, S1, S2, S3, S4⟩ := lies.two S; obtain ⟨T0, T1, T2, T3, T4⟩ := lies.two T; obtain ⟨M0, M1, M2, M3, M4⟩ := lies.two M; obtain ⟨O0, O1, O2, O3, O4⟩ := lies.two O)
    | ((with_reducible refine (said k8 _).mono ?_); rintro e w8 ⟨rfl, hN⟩; (replace hB := ratlaw.go0 hB hN); (replace A := lies.on_call A hN); (replace C := lies.on_call C hN); (replace S := lies.on_call S hN); (replace T := lies.on_call T hN); (replace M := lies.on_call M hN); (replace O := lies.on_call O hN); clear hN; obtain ⟨A0, A1, A2, A3, A4⟩ := lies.two A; obtain ⟨C0, C1, C2, C3, C4⟩ := lies.two C; obtain ⟨S0, S1, S2, S3, S4⟩ := lies.two S; obtain ⟨T0, T1, T2, T3, T4⟩ := lies.two T; obtain ⟨M0, M1, M2, M3, M4⟩ := lies.two M; obtain ⟨O0, O1, O2, O3, O4⟩ := lies.two O)
    | ((with_reducible refine (said k9 _).mono ?_); rintro e w9 ⟨rfl, hN⟩; (replace hB := ratlaw.go0 hB hN); (replace A := lies.on_call A hN); (replace S := lies.on_call S hN); (replace T := lies.on_call T hN); (replace M := lies.on_call M hN); (replace O := lies.on_call O hN); clear hN; obtain ⟨A0, A1, A2, A3, A4⟩ := lies.two A; obtain ⟨S0, S1, S2, S3, S4⟩ := lies.two S; obtain ⟨T0, T1, T2, T3, T4⟩ := lies.two T; obtain ⟨M0, M1, M2, M3, M4⟩ := lies.two M; obtain ⟨O0, O1, O2, O3, O4⟩ := lies.two O)
    | ((with_reducible refine (said ka _).mono ?_); rintro e wa ⟨rfl, hN⟩; (replace hB := ratlaw.go0 hB hN); (replace A := lies.on_call A hN); (replace S := lies.on_call S hN); (replace T := lies.on_call T hN); (replace M := lies.on_call M hN); (replace O := lies.on_call O hN); clear hN; obtain ⟨A0, A1, A2, A3, A4⟩ := lies.two A; obtain ⟨S0, S1, S2, S3, S4⟩ := lies.two S; obtain ⟨T0, T1, T2, T3, T4⟩ := lies.two T; obtain ⟨M0, M1, M2, M3, M4⟩ := lies.two M; obtain ⟨O0, O1, O2, O3, O4⟩ := lies.two O))
  go_region_held3 (fun W => W.cell? ⟨w.heap.size, 0, none⟩ = some (.int .i64 a) ∧ W.cell? ⟨w.heap.size, 1, none⟩ = some (.int .i64 b)) ((refine lies.pair (t := 23) ?_ <;> repeat (first | with_reducible exact A | with_reducible refine lies.on_drew ?_ | with_reducible refine lies.on_call ?_ hN | with_reducible refine lies.on_call ?_ hM)))
    (first
      | ((with_reducible refine (said kb _).mono ?_); rintro e wb ⟨rfl, hN⟩)
      | ((with_reducible refine (said kc _).mono ?_); rintro e wc ⟨rfl, hM⟩))
  all_goals
    go_wp2_with fail
    go_ret
    refine ⟨rfl, ?_⟩
    repeat (first | with_reducible exact hB | with_reducible refine lies.frame_drew ?_ | with_reducible refine later ?_ hN | with_reducible refine later ?_ hM)

theorem walk (a b c d x : Int) (a1 : -9223372036854775808 ≤ a) (a2 : a ≤ 9223372036854775807) (b1 : -9223372036854775808 ≤ b) (b2 : b ≤ 9223372036854775807) (c1 : -9223372036854775808 ≤ c) (c2 : c ≤ 9223372036854775807) (d1 : -9223372036854775808 ≤ d) (d2 : d ≤ 9223372036854775807) (x1 : -9223372036854775808 ≤ x) (x2 : x ≤ 9223372036854775807) (w : World) :
    Calls Try.prog 4 #[.agg #[.int .i64 (a), .int .i64 (b)], .agg #[.int .i64 (c), .int .i64 (d)], .int .i64 x] w fun e w' => e = .returned (.bool true) ∧ Below w.heap.size w w' :=
  walk_k a b c d x _ _ _ _ _ _ _ _ _ _ _ _ _ w (Lib.hid (cmp_at a b c d _ _ a1 a2 c1 c2 ⟨rfl, rfl⟩)) (Lib.hid (fun w => rref.cmp_any a b c d w a1 a2 c1 c2)) (Lib.hid (add_at a b c d _ _ _ a1 a2 c1 c2 ⟨rfl, rfl, rfl⟩)) (Lib.hid (fun w => rref.add_any a b c d w a1 a2 c1 c2)) (Lib.hid (mid_at a b c d _ _ _ a1 a2 c1 c2 ⟨rfl, rfl, rfl⟩)) (Lib.hid (fun w => rref.mid_any a b c d w a1 a2 c1 c2))
    (Lib.hid (keeps_at a b c d x _ _ a1 a2 c1 c2 x2 ⟨rfl, rfl⟩)) (Lib.hid (fun w => rref.keeps_any a b c d x w a1 a2 c1 c2 x1 x2)) (Lib.hid (floor_at a b _ _ _ a1 a2 ⟨rfl, rfl, rfl⟩)) (Lib.hid (fun w => rref.floor_any a b w a1 a2)) (Lib.hid (check_at a b _ a1 a2 rfl)) (Lib.hid (fun w => rref.check_any a b w a1 a2))

set_option maxRecDepth 100000 in
theorem lifted (os : Os) (started : os.Started) (H : Type) (enc : TypeId × Value → H) :
    ReturnsInHanded {} Try.checked os 4 .any (Rows.ratTellsSpec.pre6 enc Try.prog Try.f4 Rows.ratTellsRow.domain false) (Rows.ratTellsSpec.post enc Try.prog Try.f4 false true false false) := by
  refine returnsInHanded_of_change (C := Try.checked) law.own started (by kernel_rfl) Try.func4
    (ChangeSpec.witness6 (enc := enc) (C := Try.checked) false ⟨#[], #[.agg #[.int .i64 0, .int .i64 0], .agg #[.int .i64 0, .int .i64 0], .int .i64 0], []⟩ 8 (by kernel_rfl) (by kernel_rfl) (by kernel_rfl) (by kernel_rfl)) ?_
  intro W base args ds gs before hval0 hW _ _
  have hval : ∀ (j : Nat) t v, Try.f4.params[j]? = some t → args[j]? = some v → Value.okWide Try.prog W .any base t v := hval0
  have hW' := hW
  obtain ⟨p, q, hA0, hV, rfl, _, _⟩ := hW
  have hA : DataW.TrodAll enc Try.prog W 0 (fun _ => true) true Try.f4.params.toList args.toList ds p := hA0
  rw [Try.params4] at hA hval
  obtain ⟨v0, vs0, d0, ds0, p0, q0, hargs, rfl, rfl, h0, r0⟩ := trodAll_cons hA
  obtain ⟨v1, vs1, d1, ds1, p1, q1, rfl, rfl, rfl, h1, r1⟩ := trodAll_cons r0
  obtain ⟨v2, vs2, d2, ds2, p2, q2, rfl, rfl, rfl, h2, r2⟩ := trodAll_cons r1
  obtain ⟨rfl, rfl, rfl⟩ := trodAll_nil r2
  obtain rfl : args = #[v0, v1, v2] := by cases args; simp_all
  obtain ⟨a0, b0, rfl, x0, y0⟩ := ratlaw.open_rat (hval 0 23 v0 rfl rfl) h0
  obtain ⟨a1, b1, rfl, x1, y1⟩ := ratlaw.open_rat (hval 1 23 v1 rfl rfl) h1
  obtain ⟨a2, rfl, rfl, rfl, x2⟩ := open_int Try.underlying31 (hval 2 31 v2 rfl rfl) h2
  refine (walk a0 b0 a1 b1 a2 (law.wf_lo x0) (law.wf_hi x0) (law.wf_lo y0) (law.wf_hi y0) (law.wf_lo x1) (law.wf_hi x1) (law.wf_lo y1) (law.wf_hi y1) (law.wf_lo x2) (law.wf_hi x2) W).mono fun e W' ⟨he, hB⟩ => ?_
  subst he
  exact ⟨_, rfl, law.post_true law.laidOut (by kernel_rfl) rfl Try.underlying4 rfl hW' (fun h => by subst h; rfl) hB⟩

theorem proved : Rows.RatTellsSaid :=
  OpenClaim.holds_of_wide 4 Try.f4 rfl rfl rfl rfl rfl rfl rfl ⟨rfl, rfl, rfl, rfl, rfl⟩ rfl rfl rfl rfl rfl (by kernel_rfl) Try.func4 (by kernel_rfl)
    (of_decide_eq_true (by kernel_rfl)) (by unfold Func.isWrapper; first | (rw [if_pos (by decide +kernel)]; kernel_rfl) | (rw [if_neg (by decide +kernel)]; exact ⟨rfl, rfl⟩))
    (fun os started H enc _ => lifted os started H enc)
#print axioms proved
end Go.Proofs.Ytbmadhejdnkeeaa.ratTells
