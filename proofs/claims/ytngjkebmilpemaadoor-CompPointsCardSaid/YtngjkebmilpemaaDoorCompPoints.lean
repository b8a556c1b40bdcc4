/-
  CompPoints answers true for every two zones and point; the listed variable reads as the program lays it.
-/
import Derived.Test.YtngjkebmilpemaaDoorCompX
import Derived.Test.YtngjkebmilpemaaDoorCards
import Derived.Test.YtngjkebmilpemaaDoorTie
import Derived.BigQuiet
namespace Go.Proofs.YtngjkebmilpemaaDoor.compPoints
open Go.Joins Go.ChangeShapes Go.WideShapes Go.ChangeAt Go.RowKit num rat dbm Go.Proofs.YtngjkebmilpemaaDoor.tight Go.Proofs.YtngjkebmilpemaaDoor.incl Go.Proofs.YtngjkebmilpemaaDoor.plaw Go.Proofs.YtngjkebmilpemaaDoor.zopen Go.Proofs.YtngjkebmilpemaaDoor.zone Go.Proofs.YtngjkebmilpemaaDoor.zlaw Go.Proofs.YtngjkebmilpemaaDoor.comp Go.Proofs.YtngjkebmilpemaaDoor.claw
open bound hiding up
set_option linter.unusedVariables false
set_option linter.unusedSimpArgs false

theorem numE_small {a b : List Int} (sa : Small a) (sb : Small b) {k : Nat} (hk : k < 8) : -549755813888 ≤ numE a b k ∧ numE a b k ≤ 549755813888 := by
  have h : ∀ x : Int, -1099511627776 ≤ x ∧ x ≤ 1099511627776 → ∀ s : Int, (s = 1 ∨ s = -1) → -549755813888 ≤ s * (x / 2) ∧ s * (x / 2) ≤ 549755813888 := fun x hx s hs => by rcases hs with rfl | rfl <;> omega
  unfold numE
  refine h _ ?_ _ (sgn_is hk)
  rcases (by omega : k = 0 ∨ k = 1 ∨ k = 2 ∨ k = 3 ∨ k = 4 ∨ k = 5 ∨ k = 6 ∨ k = 7) with rfl | rfl | rfl | rfl | rfl | rfl | rfl | rfl
  · exact sa 2 (by decide)
  · exact sa 3 (by decide)
  · exact sa 4 (by decide)
  · exact sa 5 (by decide)
  · exact sb 0 (by decide)
  · exact sb 1 (by decide)
  · exact sb 4 (by decide)
  · exact sb 5 (by decide)
theorem frm_near {ta tb ua ub : Int} (hT : Near7 ta tb) (hU : Near7 ua ub) {k : Nat} (hk : k < 8) : Near7 (frm ta tb ua ub k).1 (frm ta tb ua ub k).2 := by
  rcases (by omega : k = 0 ∨ k = 1 ∨ k = 2 ∨ k = 3 ∨ k = 4 ∨ k = 5 ∨ k = 6 ∨ k = 7) with rfl | rfl | rfl | rfl | rfl | rfl | rfl | rfl
  · exact zero_near
  · exact zero_near
  · exact hT
  · exact hT
  · exact zero_near
  · exact zero_near
  · exact hU
  · exact hU
/-- where no end is left out, they are the ends. -/
theorem ats_all {a b : List Int} {ta tb ua ub : Int} (sa : Small a) (sb : Small b) (hT : Near7 ta tb) (hU : Near7 ua ub) : ∀ k, k ≤ 8 → atsK a b ta tb ua ub k = (List.range k).map (endF a b ta tb ua ub)
  | 0, _ => rfl
  | k + 1, h => by
    obtain ⟨c1, c2⟩ := numE_small sa sb (show k < 8 by omega)
    obtain ⟨e1, e2, e3, e4, _⟩ := end_near (frm_near hT hU (show k < 8 by omega)) c1 c2
    rw [atsK_yes ⟨e1, e2⟩, ats_all sa sb hT hU k (by omega), List.range_succ, List.map_append]
    congr 1
    unfold EndV
    rw [e3, e4]
    rfl
theorem in_to {a b : List Int} {ta tb ua ub : Int} (tA : Tops a) (tB : Tops b) (mA : MayZ a) (mB : MayZ b) (sa : Small a) (sb : Small b) (hT : MayR ta tb) (hU : MayR ua ub) (dT : tb ≤ 700) (dU : ub ≤ 700) (hok : OkD 4 (bothT a b)) (hmd : MayD 3 (fullT (compT a b))) (hk : keptAll 3 (fullT (compT a b)) [(0, 1), (ta, tb), (ua, ub)]) :
    ∃ i k, k ≤ i ∧ i < (atsK a b ta tb ua ub 8).length ∧ FitE a b ta tb ua ub (pr (atsK a b ta tb ua ub 8) i) (pr (atsK a b ta tb ua ub 8) k) := by
  obtain ⟨nT, nU⟩ := in_near tA tB mA.may mB.may hT hU hok hmd hk sa sb dT dU
  obtain ⟨i, k, hki, hi, h1, h2, h3, h4⟩ := in_there tA tB mA.may mB.may hT hU hok hmd hk sa sb dT dU
  have e := ats_all sa sb nT nU 8 (Nat.le_refl _)
  have hp : ∀ j, j < 8 → pr ((List.range 8).map (endF a b ta tb ua ub)) j = endF a b ta tb ua ub j := fun j hj => by
    unfold pr
    rw [List.getElem?_map, List.getElem?_range hj]; rfl
  refine ⟨i, k, hki, by rw [e]; simpa using hi, ?_⟩
  rw [e, hp i hi, hp k (by omega)]
  exact ⟨h1, ⟨mA, hT, h2, h3⟩, mB, h2, hU, h4⟩
theorem to_in {a b : List Int} {ta tb ua ub : Int} (tA : Tops a) (tB : Tops b) {e f : Int × Int} (h : FitE a b ta tb ua ub e f) : OkD 4 (bothT a b) ∧ (MayD 3 (fullT (compT a b)) → keptAll 3 (fullT (compT a b)) [(0, 1), (ta, tb), (ua, ub)]) := by
  obtain ⟨_, ⟨ma, hT, hM, ha⟩, mb, _, hU, hb⟩ := h
  exact there_in tA tB ma.may mb.may hT hM hU ha hb
/-- a pair is in what is composed just if there is a time between. -/
theorem points {a b : List Int} {ta tb ua ub : Int} {th ib : Bool} {f : Int} {x : List Int} (tA : Tops a) (tB : Tops b) (mA : MayZ a) (mB : MayZ b) (sa : Small a) (sb : Small b) (dT : tb ≤ 700) (dU : ub ≤ 700) (hok : OkD 4 (bothT a b)) (hmz : MayZ (compT a b)) (hx : x = compT a b)
    (hth : th = true ↔ ∃ i k, k ≤ i ∧ i < (atsK a b ta tb ua ub 8).length ∧ FitE a b ta tb ua ub (pr (atsK a b ta tb ua ub 8) i) (pr (atsK a b ta tb ua ub 8) k)) (hR : HasR x ta tb ua ub ib f) (hf : f = 0) : ib = th := by
  subst hx
  rcases hR with ⟨_, _, h8⟩ | ⟨_, hT, hU, _, hi⟩
  · rw [hf] at h8; exact absurd h8 (by decide)
  · rw [Bool.eq_iff_iff, hi, hth]
    constructor
    · exact fun h => in_to tA tB mA mB sa sb hT hU dT dU hok hmz.may h
    · rintro ⟨i, k, _, _, h⟩
      exact (to_in tA tB h).2 hmz.may
theorem no_point {a b : List Int} {ta tb ua ub : Int} {th : Bool} (tA : Tops a) (tB : Tops b) (hok : ¬ OkD 4 (bothT a b))
    (hth : th = true ↔ ∃ i k, k ≤ i ∧ i < (atsK a b ta tb ua ub 8).length ∧ FitE a b ta tb ua ub (pr (atsK a b ta tb ua ub 8) i) (pr (atsK a b ta tb ua ub 8) k)) : th = false := by
  cases th with
  | false => rfl
  | true =>
    obtain ⟨i, k, _, _, h⟩ := hth.1 rfl
    exact (hok (to_in tA tB h).1).elim

set_option maxRecDepth 100000 in
set_option maxHeartbeats 16000000 in
theorem walk (a0 a1 a2 a3 a4 a5 b0 b1 b2 b3 b4 b5 pa pb pc pd : Int) (w : World) (ha : ∀ x ∈ [a0, a1, a2, a3, a4, a5], -9223372036854775808 ≤ x ∧ x ≤ 9223372036854775807) (hb : ∀ x ∈ [b0, b1, b2, b3, b4, b5], -9223372036854775808 ≤ x ∧ x ≤ 9223372036854775807) (hp : ∀ x ∈ [pa, pb, pc, pd], -9223372036854775808 ≤ x ∧ x ≤ 9223372036854775807) (hP : Pl w) : Calls Tryd.prog 5 #[.agg #[.int .i64 a0, .int .i64 a1, .int .i64 a2, .int .i64 a3, .int .i64 a4, .int .i64 a5], .agg #[.int .i64 b0, .int .i64 b1, .int .i64 b2, .int .i64 b3, .int .i64 b4, .int .i64 b5], .agg #[.int .i64 pa, .int .i64 pb, .int .i64 pc, .int .i64 pd]] w fun e w' => e = .returned (.bool true) ∧ Below w.heap.size w w' := by
  have HRA := Lib.hid ha
  have HRB := Lib.hid hb
  have HF := Lib.hid (show zone.Fit [pa, pb, pc, pd] from hp)
  have TA := Lib.hid (show Tops [a0, a1, a2, a3, a4, a5] from fun x hx => (ha x hx).2)
  have TB := Lib.hid (show Tops [b0, b1, b2, b3, b4, b5] from fun x hx => (hb x hx).2)
  have X : ∃ w0, w0 = ((w.alloc (.cells #[.int .i64 a0, .int .i64 a1, .int .i64 a2, .int .i64 a3, .int .i64 a4, .int .i64 a5] 24)).alloc (.cells #[.int .i64 b0, .int .i64 b1, .int .i64 b2, .int .i64 b3, .int .i64 b4, .int .i64 b5] 24)).alloc (.cells #[.int .i64 pa, .int .i64 pb, .int .i64 pc, .int .i64 pd] 51) := ⟨_, rfl⟩
  obtain ⟨w0, hX⟩ := X
  have DB : Below w.heap.size w w0 := by rw [hX]; exact bound.up3 _ _ _ _
  have D0 : lies.Lies w0 w.heap.size 24 #[.int .i64 a0, .int .i64 a1, .int .i64 a2, .int .i64 a3, .int .i64 a4, .int .i64 a5] := by rw [hX]; exact lies.on_alloc (lies.on_alloc (lies.made _ _ _) _) _
  have D1 : lies.Lies w0 (w.heap.size + 1) 24 #[.int .i64 b0, .int .i64 b1, .int .i64 b2, .int .i64 b3, .int .i64 b4, .int .i64 b5] := by rw [hX]; exact lies.on_alloc (lies.made_at _ _ _ _ (by simp)) _
  have D2 : lies.Lies w0 (w.heap.size + 1 + 1) 51 #[.int .i64 pa, .int .i64 pb, .int .i64 pc, .int .i64 pd] := by rw [hX]; exact lies.made_at _ _ _ _ (by simp)
  have P0 := hP.on DB
  clear hP ha hb hp
  go_enter Tryd.func5, Tryd.ntmps5
  go_wp2_with fail
  rw [← hX]
  clear hX
  refine (alive_yes w0 P0).mono ?_
  rintro e w1 ⟨rfl, hB⟩
  replace D0 := lies.on_call D0 hB
  replace D1 := lies.on_call D1 hB
  replace D2 := lies.on_call D2 hB
  replace P0 := P0.on hB
  replace DB := later DB hB
  clear hB
  obtain ⟨⟨kD0_0, kD0_1, kD0_2, kD0_3, kD0_4, kD0_5⟩, -⟩ := six_cells D0
  have kD0_l := lies.lt D0
  go_wp2_with fail
  clear kD0_0 kD0_1 kD0_2 kD0_3 kD0_4 kD0_5 kD0_l
  refine (small_is a0 a1 a2 a3 a4 a5 w1).mono ?_
  rintro e w2 ⟨hB, r1, rfl, h1⟩
  replace D0 := lies.on_call D0 hB
  replace D1 := lies.on_call D1 hB
  replace D2 := lies.on_call D2 hB
  replace P0 := P0.on hB
  replace DB := later DB hB
  clear hB
  cases r1 with
  | false =>
    clear h1
    go_wp2_with fail
    go_ret
    exact ⟨rfl, DB⟩
  | true =>
    have SA := Lib.hid (h1.1 rfl)
    clear h1
    obtain ⟨⟨kD1_0, kD1_1, kD1_2, kD1_3, kD1_4, kD1_5⟩, -⟩ := six_cells D1
    have kD1_l := lies.lt D1
    go_wp2_with fail
    clear kD1_0 kD1_1 kD1_2 kD1_3 kD1_4 kD1_5 kD1_l
    refine (small_is b0 b1 b2 b3 b4 b5 w2).mono ?_
    rintro e w3 ⟨hB, r2, rfl, h2⟩
    replace D0 := lies.on_call D0 hB
    replace D1 := lies.on_call D1 hB
    replace D2 := lies.on_call D2 hB
    replace P0 := P0.on hB
    replace DB := later DB hB
    clear hB
    cases r2 with
    | false =>
      clear h2
      go_wp2_with fail
      go_ret
      exact ⟨rfl, DB⟩
    | true =>
      have SB := Lib.hid (h2.1 rfl)
      clear h2
      by_cases d1 : 700 < pb
      · skip
        obtain ⟨⟨kD2_0, kD2_1, kD2_2, kD2_3⟩, -⟩ := four_cells D2
        have kD2_l := lies.lt D2
        go_wp2_with fail
        go_ret
        exact ⟨rfl, DB⟩
      · by_cases d2 : 700 < pd
        · skip
          obtain ⟨⟨kD2_0, kD2_1, kD2_2, kD2_3⟩, -⟩ := four_cells D2
          have kD2_l := lies.lt D2
          go_wp2_with fail
          go_ret
          exact ⟨rfl, DB⟩
        · have HD := Lib.hid (And.intro (Int.not_lt.1 d1) (Int.not_lt.1 d2))
          obtain ⟨⟨kD2_0, kD2_1, kD2_2, kD2_3⟩, -⟩ := four_cells D2
          have kD2_l := lies.lt D2
          obtain ⟨⟨kD0_0, kD0_1, kD0_2, kD0_3, kD0_4, kD0_5⟩, -⟩ := six_cells D0
          have kD0_l := lies.lt D0
          obtain ⟨⟨kD1_0, kD1_1, kD1_2, kD1_3, kD1_4, kD1_5⟩, -⟩ := six_cells D1
          have kD1_l := lies.lt D1
          go_wp2_with fail
          clear kD2_0 kD2_1 kD2_2 kD2_3 kD2_l kD0_0 kD0_1 kD0_2 kD0_3 kD0_4 kD0_5 kD0_l kD1_0 kD1_1 kD1_2 kD1_3 kD1_4 kD1_5 kD1_l
          clear d1 d2
          refine (comp_any a0 a1 a2 a3 a4 a5 b0 b1 b2 b3 b4 b5 w3 P0 TA.out TB.out).mono ?_
          rintro e w4 ⟨hB, x0, x1, x2, x3, x4, x5, e, rfl, hX⟩
          replace D0 := lies.on_call D0 hB
          replace D1 := lies.on_call D1 hB
          replace D2 := lies.on_call D2 hB
          replace P0 := P0.on hB
          replace DB := later DB hB
          clear hB
          have HX := Lib.hid hX
          clear hX
          obtain ⟨⟨kD0_0, kD0_1, kD0_2, kD0_3, kD0_4, kD0_5⟩, -⟩ := six_cells D0
          have kD0_l := lies.lt D0
          go_wp2_with fail
          clear kD0_0 kD0_1 kD0_2 kD0_3 kD0_4 kD0_5 kD0_l
          have hA := bound.up1 w4 (.cells #[.int .i64 x0, .int .i64 x1, .int .i64 x2, .int .i64 x3, .int .i64 x4, .int .i64 x5] 24)
          have D3 := lies.made w4 24 #[.int .i64 x0, .int .i64 x1, .int .i64 x2, .int .i64 x3, .int .i64 x4, .int .i64 x5]
          replace D0 := lies.on_call D0 hA
          replace D1 := lies.on_call D1 hA
          replace D2 := lies.on_call D2 hA
          replace P0 := P0.on hA
          replace DB := later DB hA
          clear hA
          generalize w4.heap.size = XD3 at D3 ⊢
          generalize w4.alloc (.cells #[.int .i64 x0, .int .i64 x1, .int .i64 x2, .int .i64 x3, .int .i64 x4, .int .i64 x5] 24) = v5 at D0 D1 D2 D3 P0 DB ⊢
          refine (zone.check_any a0 a1 a2 a3 a4 a5 v5 P0 TA.out).mono ?_
          rintro e w6 ⟨hB, f, rfl, hc⟩
          replace D0 := lies.on_call D0 hB
          replace D1 := lies.on_call D1 hB
          replace D2 := lies.on_call D2 hB
          replace D3 := lies.on_call D3 hB
          replace P0 := P0.on hB
          replace DB := later DB hB
          clear hB
          rcases hc with ⟨hm, rfl⟩ | ⟨hm, rfl⟩
          · skip
            have MA := Lib.hid hm
            clear hm
            obtain ⟨⟨kD1_0, kD1_1, kD1_2, kD1_3, kD1_4, kD1_5⟩, -⟩ := six_cells D1
            have kD1_l := lies.lt D1
            go_wp2_with fail
            clear kD1_0 kD1_1 kD1_2 kD1_3 kD1_4 kD1_5 kD1_l
            refine (zone.check_any b0 b1 b2 b3 b4 b5 w6 P0 TB.out).mono ?_
            rintro e w7 ⟨hB, f, rfl, hc⟩
            replace D0 := lies.on_call D0 hB
            replace D1 := lies.on_call D1 hB
            replace D2 := lies.on_call D2 hB
            replace D3 := lies.on_call D3 hB
            replace P0 := P0.on hB
            replace DB := later DB hB
            clear hB
            rcases hc with ⟨hm, rfl⟩ | ⟨hm, rfl⟩
            · skip
              have MB := Lib.hid hm
              clear hm
              rcases HX.out with ⟨n, _⟩ | ⟨_, _, hno, _, rfl⟩ | ⟨_, _, hok, n, _⟩ | ⟨_, _, hok, hmz, hx, rfl⟩
              · exact (n ⟨MA.out, MB.out⟩).elim
              · skip
                have HN := Lib.hid hno
                clear hno HX
                obtain ⟨⟨kD0_0, kD0_1, kD0_2, kD0_3, kD0_4, kD0_5⟩, -⟩ := six_cells D0
                have kD0_l := lies.lt D0
                obtain ⟨⟨kD1_0, kD1_1, kD1_2, kD1_3, kD1_4, kD1_5⟩, -⟩ := six_cells D1
                have kD1_l := lies.lt D1
                obtain ⟨⟨kD2_0, kD2_1, kD2_2, kD2_3⟩, -⟩ := four_cells D2
                have kD2_l := lies.lt D2
                go_wp2_with fail
                clear kD0_0 kD0_1 kD0_2 kD0_3 kD0_4 kD0_5 kD0_l kD1_0 kD1_1 kD1_2 kD1_3 kD1_4 kD1_5 kD1_l kD2_0 kD2_1 kD2_2 kD2_3 kD2_l
                refine (between_is a0 a1 a2 a3 a4 a5 b0 b1 b2 b3 b4 b5 pa pb pc pd w7 P0 HRA.out HRB.out HF.out).mono ?_
                rintro e w8 ⟨hB, th, rfl, hth⟩
                replace D0 := lies.on_call D0 hB
                replace D1 := lies.on_call D1 hB
                replace D2 := lies.on_call D2 hB
                replace D3 := lies.on_call D3 hB
                replace P0 := P0.on hB
                replace DB := later DB hB
                clear hB
                obtain rfl := no_point TA.out TB.out HN.out hth
                clear hth
                go_wp2_with fail
                go_ret
                exact ⟨rfl, DB⟩
              · exact (n (small_may TA.out TB.out MA.out.may MB.out.may SA.out SB.out hok)).elim
              · skip
                have HO := Lib.hid hok
                have HMZ := Lib.hid hmz
                have HXE := Lib.hid hx
                have TX := Lib.hid (show Tops [x0, x1, x2, x3, x4, x5] from by rw [hx]; exact comp_tops TA.out TB.out hok)
                clear hok hmz hx HX
                obtain ⟨⟨kD0_0, kD0_1, kD0_2, kD0_3, kD0_4, kD0_5⟩, -⟩ := six_cells D0
                have kD0_l := lies.lt D0
                obtain ⟨⟨kD1_0, kD1_1, kD1_2, kD1_3, kD1_4, kD1_5⟩, -⟩ := six_cells D1
                have kD1_l := lies.lt D1
                obtain ⟨⟨kD2_0, kD2_1, kD2_2, kD2_3⟩, -⟩ := four_cells D2
                have kD2_l := lies.lt D2
                go_wp2_with fail
                clear kD0_0 kD0_1 kD0_2 kD0_3 kD0_4 kD0_5 kD0_l kD1_0 kD1_1 kD1_2 kD1_3 kD1_4 kD1_5 kD1_l kD2_0 kD2_1 kD2_2 kD2_3 kD2_l
                refine (between_is a0 a1 a2 a3 a4 a5 b0 b1 b2 b3 b4 b5 pa pb pc pd w7 P0 HRA.out HRB.out HF.out).mono ?_
                rintro e w8 ⟨hB, th, rfl, hth⟩
                replace D0 := lies.on_call D0 hB
                replace D1 := lies.on_call D1 hB
                replace D2 := lies.on_call D2 hB
                replace D3 := lies.on_call D3 hB
                replace P0 := P0.on hB
                replace DB := later DB hB
                clear hB
                have HTH := Lib.hid hth
                clear hth
                obtain ⟨⟨kD3_0, kD3_1, kD3_2, kD3_3, kD3_4, kD3_5⟩, -⟩ := six_cells D3
                have kD3_l := lies.lt D3
                obtain ⟨⟨kD2_0, kD2_1, kD2_2, kD2_3⟩, -⟩ := four_cells D2
                have kD2_l := lies.lt D2
                go_wp2_with fail
                clear kD3_0 kD3_1 kD3_2 kD3_3 kD3_4 kD3_5 kD3_l kD2_0 kD2_1 kD2_2 kD2_3 kD2_l
                refine (has_any x0 x1 x2 x3 x4 x5 pa pb pc pd w8 P0 TX.out HF.out).mono ?_
                rintro e w9 ⟨hB, ib, f, rfl, hR⟩
                replace D0 := lies.on_call D0 hB
                replace D1 := lies.on_call D1 hB
                replace D2 := lies.on_call D2 hB
                replace D3 := lies.on_call D3 hB
                replace P0 := P0.on hB
                replace DB := later DB hB
                clear hB
                by_cases hf : f = 0
                · skip
                  obtain rfl := points TA.out TB.out MA.out MB.out SA.out SB.out HD.out.1 HD.out.2 HO.out HMZ.out HXE.out HTH.out hR hf
                  subst hf
                  clear hR HTH
                  cases ib
                  all_goals
                    go_wp2_with fail
                    go_ret
                    exact ⟨rfl, DB⟩
                · skip
                  have hbf : (f == 0) = false := by simpa using hf
                  have hbn : (f != 0) = true := by simpa using hf
                  clear hR HTH hf
                  go_wp2_with fail
                  go_ret
                  exact ⟨rfl, DB⟩
            · skip
              obtain rfl : e = 8 := by
                rcases HX.out with ⟨_, _, h⟩ | ⟨h1, h2, _⟩ | ⟨h1, h2, _⟩ | ⟨h1, h2, _⟩
                · exact h
                · exact (hm h2).elim
                · exact (hm h2).elim
                · exact (hm h2).elim
              clear hm HX
              go_wp2_with fail
              go_ret
              exact ⟨rfl, DB⟩
          · skip
            obtain rfl : e = 8 := by
              rcases HX.out with ⟨_, _, h⟩ | ⟨h1, h2, _⟩ | ⟨h1, h2, _⟩ | ⟨h1, h2, _⟩
              · exact h
              · exact (hm h1).elim
              · exact (hm h1).elim
              · exact (hm h1).elim
            clear hm HX
            go_wp2_with fail
            go_ret
            exact ⟨rfl, DB⟩

set_option maxRecDepth 100000 in
theorem lifted (os : Os) (started : os.Started) (H : Type) (enc : TypeId × Value → H) :
    ReturnsInHanded {} Tryd.checked os 5 .any (fun w args => (Rows.compPointsSpec.pre enc Tryd.prog Tryd.f5 [] false w args ∧ laidMetH Tryd.prog zopen.places w) ∧ sizedMet enc Tryd.prog Tryd.f5 (OpenSpec.ofChange Rows.compPointsSpec) false w args) (Rows.compPointsSpec.post enc Tryd.prog Tryd.f5 false true false false) := by
  refine returnsInHanded_of_change_and (C := Tryd.checked) (X := fun w _ => laidMetH Tryd.prog zopen.places w) (fun _ _ _ hh h => h.of_heap hh) law.own started (by kernel_rfl) Tryd.func5
    (ChangeSpec.witness_shaped (enc := enc) (C := Tryd.checked) (os := os) (X := fun w _ => laidMetH Tryd.prog zopen.places w) false (World.doorLaid Tryd.prog 400 os) #[.agg #[.int .i64 0, .int .i64 0, .int .i64 0, .int .i64 0, .int .i64 0, .int .i64 0], .agg #[.int .i64 0, .int .i64 0, .int .i64 0, .int .i64 0, .int .i64 0, .int .i64 0], .agg #[.int .i64 0, .int .i64 0, .int .i64 0, .int .i64 0]] 8 rfl (World.shaped_of_RefB (by kernel_rfl) (by kernel_rfl)) (by kernel_rfl) (by kernel_rfl) (by kernel_rfl) (zopen.door_met os _)) ?_
  intro W base args ds gs before hval0 hW _ _ hL _
  have hval : ∀ (j : Nat) t v, Tryd.f5.params[j]? = some t → args[j]? = some v → Value.okWide Tryd.prog W .any base t v := hval0
  have hW' := hW
  obtain ⟨p, q, hA0, hV, rfl, _, _⟩ := hW
  have hA : DataW.TrodAll enc Tryd.prog W 0 (fun _ => true) true Tryd.f5.params.toList args.toList ds p := hA0
  rw [Tryd.params5] at hA hval
  obtain ⟨v0, vs0, d0, ds0, p0, q0, hargs, rfl, rfl, h0, r0⟩ := trodAll_cons hA
  obtain ⟨v1, vs1, d1, ds1, p1, q1, rfl, rfl, rfl, h1, r1⟩ := trodAll_cons r0
  obtain ⟨v2, vs2, d2, ds2, p2, q2, rfl, rfl, rfl, h2, r2⟩ := trodAll_cons r1
  obtain ⟨rfl, rfl, rfl⟩ := trodAll_nil r2
  obtain rfl : args = #[v0, v1, v2] := by cases args; simp_all
  obtain ⟨z00, z01, z02, z03, z04, z05, rfl, w0⟩ := zopen.open_zone (hval 0 24 v0 rfl rfl) h0
  obtain ⟨z10, z11, z12, z13, z14, z15, rfl, w1⟩ := zopen.open_zone (hval 1 24 v1 rfl rfl) h1
  obtain ⟨a2, b2, c2, e2, rfl, w2⟩ := zopen.open_point (hval 2 51 v2 rfl rfl) h2
  refine (walk z00 z01 z02 z03 z04 z05 z10 z11 z12 z13 z14 z15 a2 b2 c2 e2 W (fun x hx => ⟨law.wf_lo (w0 x hx), law.wf_hi (w0 x hx)⟩) (fun x hx => ⟨law.wf_lo (w1 x hx), law.wf_hi (w1 x hx)⟩) (fun x hx => ⟨law.wf_lo (w2 x hx), law.wf_hi (w2 x hx)⟩) (zopen.laid_pl hL)).mono fun e W' ⟨he, hB⟩ => ?_
  subst he
  exact ⟨_, rfl, law.post_true law.laidOut (by kernel_rfl) rfl Tryd.underlying4 rfl hW' (fun h => by subst h; rfl) hB⟩

theorem proved : Rows.CompPointsSaid :=
  OpenClaim.holds_of_wide 5 Tryd.f5 rfl rfl rfl rfl rfl rfl rfl ⟨rfl, rfl, rfl, rfl, rfl⟩ rfl rfl rfl rfl rfl (by kernel_rfl) Tryd.func5 (by kernel_rfl)
    (of_decide_eq_true (by kernel_rfl)) (by unfold Func.isWrapper; first | (rw [if_pos (by decide +kernel)]; kernel_rfl) | (rw [if_neg (by decide +kernel)]; exact ⟨rfl, rfl⟩))
    (fun os started H enc _ => lifted os started H enc)
theorem card : Rows.CompPointsCardSaid :=
  Claim7.holds_tied_plain_at .later [] [.data] true (true, "e4e3719b7de1e4314314497030072501f33c4ef491c7e24e35a0e0bb01ea1702") false
    proved (fun _ h => by cases h) (by kernel_rfl) (fun _ h => by cases h) compPoints_row_tie rfl ⟨rfl, rfl⟩ (by kernel_rfl) rfl
    (fun f fn hf hfn => by
      obtain rfl : f = 5 := Option.some.inj ((show Tryd.prog.funcNamed "rallentando/rallentandolaw09.CompPoints" = some 5 by kernel_rfl).symm.trans hf) |>.symm
      obtain rfl : fn = Tryd.f5 := (Option.some.inj (Tryd.func5.symm.trans hfn)).symm
      exact ⟨by kernel_rfl, fun j t ht => by
        rw [Tryd.params5] at ht
        have hm : t ∈ [24, 24, 51] := by simpa using Array.mem_of_getElem? ht
        have hall : ([24, 24, 51].all fun u => !Tryd.prog.wantsStandIn u) = true := by kernel_rfl
        exact (show Tryd.prog.wantsStandIn t = false by simpa using List.all_eq_true.1 hall t hm)⟩)
    (by kernel_rfl)
#print axioms card
end Go.Proofs.YtngjkebmilpemaaDoor.compPoints
