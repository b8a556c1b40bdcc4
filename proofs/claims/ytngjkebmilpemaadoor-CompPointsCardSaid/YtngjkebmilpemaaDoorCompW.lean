/-
  Small numbers, ends, and whether a time is between, as the laws of comp ask; each theorem names its conditions.
-/
import Derived.Test.YtngjkebmilpemaaDoorCompM
import Derived.Test.YtngjkebmilpemaaDoorCompP
namespace Go.Proofs.YtngjkebmilpemaaDoor.claw
open Go.Joins Go.ChangeShapes Go.WideShapes Go.ChangeAt Go.RowKit num rat dbm Go.Proofs.YtngjkebmilpemaaDoor.tight Go.Proofs.YtngjkebmilpemaaDoor.incl Go.Proofs.YtngjkebmilpemaaDoor.plaw Go.Proofs.YtngjkebmilpemaaDoor.zopen Go.Proofs.YtngjkebmilpemaaDoor.zone Go.Proofs.YtngjkebmilpemaaDoor.zlaw Go.Proofs.YtngjkebmilpemaaDoor.comp
open bound hiding up
set_option linter.unusedVariables false
set_option linter.unusedSimpArgs false

set_option maxRecDepth 100000 in
set_option maxHeartbeats 4000000 in
theorem small_is (z0 z1 z2 z3 z4 z5 : Int) (w : World) : Calls Tryd.prog 20 #[.agg #[.int .i64 z0, .int .i64 z1, .int .i64 z2, .int .i64 z3, .int .i64 z4, .int .i64 z5]] w (Tell (Small [z0, z1, z2, z3, z4, z5]) w) := by
  have DB := bound.up1 w (.cells #[.int .i64 z0, .int .i64 z1, .int .i64 z2, .int .i64 z3, .int .i64 z4, .int .i64 z5] 24)
  have D0 := lies.made w 24 #[.int .i64 z0, .int .i64 z1, .int .i64 z2, .int .i64 z3, .int .i64 z4, .int .i64 z5]
  have HIX := Lib.hid (fun (p : Nat) (hp : p < 6) (W : World) => index_six z0 z1 z2 z3 z4 z5 p hp W)
  go_enter Tryd.func20, Tryd.ntmps20
  obtain ⟨⟨e0, e1, e2, e3, e4, e5⟩, -⟩ := six_cells D0
  have el := lies.lt D0
  go_wp2_with fail
  clear e0 e1 e2 e3 e4 e5 el D0
  generalize w.alloc (.cells #[.int .i64 z0, .int .i64 z1, .int .i64 z2, .int .i64 z3, .int .i64 z4, .int .i64 z5] 24) = w0 at DB ⊢
  go_loopw [6] (fun i wr => ∃ p : Nat, p ≤ 6 ∧ i = .int .i64 p ∧ Below w.heap.size w wr ∧ RowKit.Hid (∀ j, j < p → -1099511627776 ≤ [z0, z1, z2, z3, z4, z5][j]?.getD 0 ∧ [z0, z1, z2, z3, z4, z5][j]?.getD 0 ≤ 1099511627776)) (fun i _ => 6 - (intOf i).toNat)
  case atStart => exact ⟨0, Nat.zero_le _, rfl, DB, Lib.hid (fun j hj => absurd hj (Nat.not_lt_zero j))⟩
  case round =>
    clear DB
    obtain ⟨p, hp, rfl, hB, hS⟩ := hrel
    by_cases hp6 : p < 6
    · have hix := HIX.out p hp6 wr
      have HX := Lib.hid (show ∀ j, j = p → [z0, z1, z2, z3, z4, z5][j]?.getD 0 = [z0, z1, z2, z3, z4, z5][p]?.getD 0 from fun j e => by rw [e])
      generalize [z0, z1, z2, z3, z4, z5][p]?.getD 0 = x at hix HX
      by_cases h1 : x = 9223372036854775807
      · subst h1
        go_wp2_with fail
        go_ret
        exact ⟨hB, false, rfl, fun h => absurd h (by decide), fun h => by have := h p hp6; rw [HX.out p rfl] at this; omega⟩
      · have hb1 : (x == 9223372036854775807) = false := by simpa using h1
        by_cases h2 : 1099511627776 < x
        · clear h1
          go_wp2_with fail
          go_ret
          exact ⟨hB, false, rfl, fun h => absurd h (by decide), fun h => by have := h p hp6; rw [HX.out p rfl] at this; omega⟩
        · by_cases h3 : x < -1099511627776
          · clear h1
            go_wp2_with fail
            go_ret
            exact ⟨hB, false, rfl, fun h => absurd h (by decide), fun h => by have := h p hp6; rw [HX.out p rfl] at this; omega⟩
          · clear h1
            have H2 := Lib.hid h2
            have H3 := Lib.hid h3
            go_wp2_with fail
            go_roundw
            case rel => exact ⟨p + 1, by omega, by go_num, hB, Lib.hid (fun j hj => by
              by_cases e : j < p
              · exact hS.out j e
              · have ej : j = p := by omega
                have h2 := H2.out
                have h3 := H3.out
                rw [HX.out j ej]; omega)⟩
            case measure => simp [intOf]; omega
    · obtain rfl : p = 6 := by omega
      go_wp2_with fail
      go_ret
      exact ⟨hB, true, rfl, fun _ => hS.out, fun _ => rfl⟩

theorem of_range (c : Int) : (-9223372036854775808 ≤ ofN c 1 ∧ ofN c 1 ≤ 9223372036854775807) := by
  unfold ofN
  rw [if_neg (by decide)]
  by_cases h : lowOk c 1
  · rw [(low_yes h).1]; exact ⟨h.1, h.2.1⟩
  · rw [(low_not h).1]; exact ⟨by decide, by decide⟩
theorem part_range (k a b c d : Int) : (-9223372036854775808 ≤ partN k a b c d ∧ partN k a b c d ≤ 9223372036854775807) := by
  unfold partN
  split
  · by_cases h : lowOk (a * d + c * b) (b * d * k)
    · rw [(low_yes h).1]; exact ⟨h.1, h.2.1⟩
    · rw [(low_not h).1]; exact ⟨by decide, by decide⟩
  · exact ⟨by decide, by decide⟩
/-- is an end one that may be? -/
def EndOk (p q c : Int) : Prop := ofE c 1 = 0 ∧ partE 1 p q (ofN c 1) (ofD c 1) = 0
def EndV (p q c : Int) : Int × Int := (partN 1 p q (ofN c 1) (ofD c 1), partD 1 p q (ofN c 1) (ofD c 1))
def Ended (p q c : Int) (w : World) (e : Ending) (w' : World) : Prop := Below w.heap.size w w' ∧ ∃ r : Bool, e = .returned (.tuple #[.agg #[.int .i64 ((EndV p q c).1), .int .i64 ((EndV p q c).2)], .bool r]) ∧ (r = true ↔ EndOk p q c)
def EndK (n d f g : Int) (w : World) (e : Ending) (w' : World) : Prop := Below w.heap.size w w' ∧ ∃ r : Bool, e = .returned (.tuple #[.agg #[.int .i64 (n), .int .i64 (d)], .bool r]) ∧ (r = true ↔ f = 0 ∧ g = 0)
set_option maxRecDepth 100000 in
set_option maxHeartbeats 4000000 in
theorem end_k (p q x s c a b f n d g : Int) (w : World) (hp : -9223372036854775808 ≤ p ∧ p ≤ 9223372036854775807) (hC : s * (x / 2) = c) (hc : -4611686018427387904 ≤ c ∧ c ≤ 4611686018427387904) (hx : -9223372036854775808 ≤ x ∧ x ≤ 9223372036854775807) (hor : -9223372036854775808 ≤ a ∧ a ≤ 9223372036854775807)
    (hO : RowKit.Hid (law.Says 78 #[.int .i64 c, .int .i64 1] (.tuple #[.agg #[.int .i64 (a), .int .i64 (b)], .int .i64 f]))) (hD : RowKit.Hid (law.Says 79 #[.agg #[.int .i64 (p), .int .i64 (q)], .agg #[.int .i64 (a), .int .i64 (b)]] (.tuple #[.agg #[.int .i64 (n), .int .i64 (d)], .int .i64 g]))) :
    Calls Tryd.prog 49 #[.agg #[.int .i64 (p), .int .i64 (q)], .int .i64 x, .int .i64 s] w (EndK n d f g w) := by
  have X : ∃ w0, w0 = (w.alloc (.cells #[.int .i64 p, .int .i64 q] 49)).alloc (.cells #[.int .i64 0, .int .i64 0] 49) := ⟨_, rfl⟩
  obtain ⟨w0, hX⟩ := X
  have DB : Below w.heap.size w w0 := by rw [hX]; exact bound.up2 _ _ _
  have D0 : lies.Lies w0 w.heap.size 49 #[.int .i64 p, .int .i64 q] := by rw [hX]; exact lies.on_alloc (lies.made _ _ _) _
  have D1 : lies.Lies w0 (w.heap.size + 1) 49 #[.int .i64 0, .int .i64 0] := by rw [hX]; exact lies.made_at _ _ _ _ (by simp)
  have HPR := Lib.hid hp
  have m1 : IntKind.i64.wrap (s * (x / 2)) = c := by rw [hC]; exact IntWalk.i64_in _ (by omega)
  have m2 : wrap64 (s * (x / 2)) = c := by rw [hC]; exact wrap_in (by omega)
  have HC := Lib.hid hc
  have HOR := Lib.hid hor
  clear hp hC hc hor
  go_enter Tryd.func49, Tryd.ntmps49
  go_wp2_with fail
  rw [← hX]
  clear hX m1 m2
  refine (hO.out w0).mono ?_
  rintro e w1 ⟨rfl, hB⟩
  replace D0 := lies.on_call D0 hB
  replace D1 := lies.on_call D1 hB
  replace DB := later DB hB
  clear hB
  obtain ⟨e0, e1, -, -, el⟩ := lies.two D0
  go_wp2_with fail
  clear e0 e1 el
  have hA := bound.up1 w1 (.cells #[.int .i64 a, .int .i64 b] 49)
  replace D1 := lies.on_call D1 hA
  replace DB := later DB hA
  clear hA D0
  generalize w1.alloc (.cells #[.int .i64 a, .int .i64 b] 49) = w2 at D1 DB ⊢
  refine (hD.out w2).mono ?_
  rintro e w3 ⟨rfl, hB⟩
  replace D1 := lies.on_call D1 hB
  replace DB := later DB hB
  clear hB
  obtain ⟨x0, x1, y0, y1, xl⟩ := lies.two D1
  by_cases hf : f = 0
  · subst hf
    by_cases hg : g = 0
    · subst hg
      go_wp2_with fail
      exact bodyPost_ret (v := .tuple #[.agg #[.int .i64 n, .int .i64 d], .bool true]) (by simp [results, Tryd.results49, go_sem, x0, x1, xl]) rfl ⟨lies.frame_up (dref.ret_res DB (show w.heap.size ≤ w.heap.size + 1 by omega) _ _) _, true, rfl, fun _ => ⟨rfl, rfl⟩, fun _ => rfl⟩
    · have HG := Lib.hid hg
      have hbg : (g == 0) = false := by simpa using hg
      clear hg
      go_wp2_with fail
      exact bodyPost_ret (v := .tuple #[.agg #[.int .i64 n, .int .i64 d], .bool false]) (by simp [results, Tryd.results49, go_sem, x0, x1, xl]) rfl ⟨lies.frame_up (dref.ret_res DB (show w.heap.size ≤ w.heap.size + 1 by omega) _ _) _, false, rfl, fun h => absurd h (by decide), fun h => (HG.out h.2).elim⟩
  · have HG := Lib.hid hf
    have hbg : (f == 0) = false := by simpa using hf
    clear hf
    go_wp2_with fail
    exact bodyPost_ret (v := .tuple #[.agg #[.int .i64 n, .int .i64 d], .bool false]) (by simp [results, Tryd.results49, go_sem, x0, x1, xl]) rfl ⟨lies.frame_up (dref.ret_res DB (show w.heap.size ≤ w.heap.size + 1 by omega) _ _) _, false, rfl, fun h => absurd h (by decide), fun h => (HG.out h.1).elim⟩
theorem end_is (p q x s : Int) (w : World) (hp : -9223372036854775808 ≤ p ∧ p ≤ 9223372036854775807) (hx : -9223372036854775808 ≤ x ∧ x ≤ 9223372036854775807) (hs : s = 1 ∨ s = -1) :
    Calls Tryd.prog 49 #[.agg #[.int .i64 (p), .int .i64 (q)], .int .i64 x, .int .i64 s] w (Ended p q (s * (x / 2)) w) := by
  have hc : -4611686018427387904 ≤ s * (x / 2) ∧ s * (x / 2) ≤ 4611686018427387904 := by rcases hs with rfl | rfl <;> omega
  have hor := of_range (s * (x / 2))
  exact end_k p q x s _ _ _ _ _ _ _ w hp rfl hc hx hor (Lib.hid (fun w => of3_any _ 1 w (by omega) (by omega) (by decide))) (Lib.hid (fun w => add3_any p q _ _ w hp.1 hp.2 hor.1 hor.2))

/-- is a pair in a zone that may be? -/
def HasT (z : List Int) (a b c d : Int) : Prop := MayZ z ∧ MayR a b ∧ MayR c d ∧ keptAll 3 (fullT z) [(0, 1), (a, b), (c, d)]
theorem has_iff {z : List Int} {a b c d : Int} {r : Bool} {f : Int} (h : HasR z a b c d r f) : (r = true ∧ f = 0) ↔ HasT z a b c d := by
  rcases h with ⟨n, rfl, rfl⟩ | ⟨h1, h2, h3, rfl, h5⟩
  · exact ⟨fun q => absurd q.1 (by decide), fun q => (n ⟨q.1, q.2.1, q.2.2.1⟩).elim⟩
  · exact ⟨fun q => ⟨h1, h2, h3, h5.1 q.1⟩, fun q => ⟨h5.2 q.2.2.2, rfl⟩⟩
set_option maxRecDepth 100000 in
set_option maxHeartbeats 4000000 in
theorem fits_is (a0 a1 a2 a3 a4 a5 b0 b1 b2 b3 b4 b5 pa pb pc pd sa sb : Int) (w : World) (hP : Pl w) (ta : Tops [a0, a1, a2, a3, a4, a5]) (tb : Tops [b0, b1, b2, b3, b4, b5]) (hF : zone.Fit [pa, pb, pc, pd, sa, sb]) :
    Calls Tryd.prog 51 #[.agg #[.int .i64 a0, .int .i64 a1, .int .i64 a2, .int .i64 a3, .int .i64 a4, .int .i64 a5], .agg #[.int .i64 b0, .int .i64 b1, .int .i64 b2, .int .i64 b3, .int .i64 b4, .int .i64 b5], .agg #[.int .i64 pa, .int .i64 pb, .int .i64 pc, .int .i64 pd], .agg #[.int .i64 (sa), .int .i64 (sb)]] w (Tell (HasT [a0, a1, a2, a3, a4, a5] pa pb sa sb ∧ HasT [b0, b1, b2, b3, b4, b5] sa sb pc pd) w) := by
  have X : ∃ w0, w0 = (((w.alloc (.cells #[.int .i64 a0, .int .i64 a1, .int .i64 a2, .int .i64 a3, .int .i64 a4, .int .i64 a5] 24)).alloc (.cells #[.int .i64 b0, .int .i64 b1, .int .i64 b2, .int .i64 b3, .int .i64 b4, .int .i64 b5] 24)).alloc (.cells #[.int .i64 pa, .int .i64 pb, .int .i64 pc, .int .i64 pd] 51)).alloc (.cells #[.int .i64 sa, .int .i64 sb] 49) := ⟨_, rfl⟩
  obtain ⟨w0, hX⟩ := X
  have DB : Below w.heap.size w w0 := by rw [hX]; exact lies.frame_up (bound.up3 _ _ _ _) _
  have D0 : lies.Lies w0 w.heap.size 24 #[.int .i64 a0, .int .i64 a1, .int .i64 a2, .int .i64 a3, .int .i64 a4, .int .i64 a5] := by rw [hX]; exact lies.on_alloc (lies.on_alloc (lies.on_alloc (lies.made _ _ _) _) _) _
  have D1 : lies.Lies w0 (w.heap.size + 1) 24 #[.int .i64 b0, .int .i64 b1, .int .i64 b2, .int .i64 b3, .int .i64 b4, .int .i64 b5] := by rw [hX]; exact lies.on_alloc (lies.on_alloc (lies.made_at _ _ _ _ (by simp)) _) _
  have D2 : lies.Lies w0 (w.heap.size + 1 + 1) 51 #[.int .i64 pa, .int .i64 pb, .int .i64 pc, .int .i64 pd] := by rw [hX]; exact lies.on_alloc (lies.made_at _ _ _ _ (by simp)) _
  have D3 : lies.Lies w0 (w.heap.size + 1 + 1 + 1) 49 #[.int .i64 sa, .int .i64 sb] := by rw [hX]; exact lies.made_at _ _ _ _ (by simp)
  have P0 := hP.on DB
  have TA := Lib.hid ta
  have TB := Lib.hid tb
  have HF := Lib.hid hF
  clear hP ta tb hF
  go_enter Tryd.func51, Tryd.ntmps51
  obtain ⟨⟨kD0_0, kD0_1, kD0_2, kD0_3, kD0_4, kD0_5⟩, -⟩ := six_cells D0
  have kD0_l := lies.lt D0
  obtain ⟨⟨kD2_0, kD2_1, kD2_2, kD2_3⟩, -⟩ := four_cells D2
  have kD2_l := lies.lt D2
  obtain ⟨kD3_0, kD3_1, -, -, -⟩ := lies.two D3
  have kD3_l := lies.lt D3
  go_wp2_with fail
  clear kD0_0 kD0_1 kD0_2 kD0_3 kD0_4 kD0_5 kD0_l kD2_0 kD2_1 kD2_2 kD2_3 kD2_l kD3_0 kD3_1 kD3_l
  rw [← hX]
  clear hX
  refine (has_any a0 a1 a2 a3 a4 a5 pa pb sa sb w0 P0 TA.out (fun x hx => HF.out x (by simp only [List.mem_cons, List.not_mem_nil, or_false] at hx ⊢; rcases hx with rfl | rfl | rfl | rfl <;> simp))).mono ?_
  rintro e w1 ⟨hB, x, e, rfl, hR⟩
  replace D0 := lies.on_call D0 hB
  replace D1 := lies.on_call D1 hB
  replace D2 := lies.on_call D2 hB
  replace D3 := lies.on_call D3 hB
  replace P0 := P0.on hB
  replace DB := later DB hB
  clear hB
  have H1 := Lib.hid (has_iff hR)
  clear hR
  obtain ⟨⟨kD1_0, kD1_1, kD1_2, kD1_3, kD1_4, kD1_5⟩, -⟩ := six_cells D1
  have kD1_l := lies.lt D1
  obtain ⟨⟨kD2_0, kD2_1, kD2_2, kD2_3⟩, -⟩ := four_cells D2
  have kD2_l := lies.lt D2
  obtain ⟨kD3_0, kD3_1, -, -, -⟩ := lies.two D3
  have kD3_l := lies.lt D3
  go_wp2_with fail
  clear kD1_0 kD1_1 kD1_2 kD1_3 kD1_4 kD1_5 kD1_l kD2_0 kD2_1 kD2_2 kD2_3 kD2_l kD3_0 kD3_1 kD3_l
  refine (has_any b0 b1 b2 b3 b4 b5 sa sb pc pd w1 P0 TB.out (fun x hx => HF.out x (by simp only [List.mem_cons, List.not_mem_nil, or_false] at hx ⊢; rcases hx with rfl | rfl | rfl | rfl <;> simp))).mono ?_
  rintro e w2 ⟨hB, y, f, rfl, hR⟩
  replace D0 := lies.on_call D0 hB
  replace D1 := lies.on_call D1 hB
  replace D2 := lies.on_call D2 hB
  replace D3 := lies.on_call D3 hB
  replace P0 := P0.on hB
  replace DB := later DB hB
  clear hB
  have H2 := Lib.hid (has_iff hR)
  clear hR
  clear D0 D1 D2 D3 P0
  by_cases he : e = 0
  · subst he
    by_cases hf : f = 0
    · subst hf
      have h1 := H1.out
      have h2 := H2.out
      clear H1 H2
      cases x <;> cases y
      all_goals have H1 := Lib.hid h1
      all_goals have H2 := Lib.hid h2
      all_goals clear h1 h2
      all_goals
        go_wp2_with fail
        go_ret
        refine ⟨DB, _, rfl, ?_⟩
        rw [← H1.out, ← H2.out]
        decide
    · have hbf : (f == 0) = false := by simpa using hf
      have HN := Lib.hid hf
      clear hf
      go_wp2_with fail
      go_ret
      exact ⟨DB, false, rfl, fun h => absurd h (by decide), fun h => (HN.out (H2.out.2 h.2).2).elim⟩
  · have hbe : (e == 0) = false := by simpa using he
    have HN := Lib.hid he
    clear he
    go_wp2_with fail
    go_ret
    exact ⟨DB, false, rfl, fun h => absurd h (by decide), fun h => (HN.out (H1.out.2 h.1).2).elim⟩
end Go.Proofs.YtngjkebmilpemaaDoor.claw
