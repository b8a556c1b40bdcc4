/-
  WinPoints answers true for every zone, span, window and point; the listed variable reads as the program lays it.
-/
import Derived.Test.YtcaoooddmmhieaaDoorWinM
import Derived.Test.YtcaoooddmmhieaaDoorCards
import Derived.Test.YtcaoooddmmhieaaDoorTie
import Derived.BigQuiet
namespace Go.Proofs.YtcaoooddmmhieaaDoor.winPoints
open Go.Joins Go.ChangeShapes Go.WideShapes Go.ChangeAt Go.RowKit num rat dbm Go.Proofs.YtcaoooddmmhieaaDoor.tight Go.Proofs.YtcaoooddmmhieaaDoor.incl Go.Proofs.YtcaoooddmmhieaaDoor.plaw Go.Proofs.YtcaoooddmmhieaaDoor.zopen Go.Proofs.YtcaoooddmmhieaaDoor.zone Go.Proofs.YtcaoooddmmhieaaDoor.zlaw Go.Proofs.YtcaoooddmmhieaaDoor.win Go.Proofs.YtcaoooddmmhieaaDoor.wlaw
open bound hiding up
open Go.Proofs.YtcaoooddmmhieaaDoor.comp (five_cells)
set_option linter.unusedVariables false
set_option linter.unusedSimpArgs false

/-- a point of what is cut. -/
theorem cut_point {z w out : List Int} {pa pb pc pd f : Int} {one i : Bool} (tz : Tops z) (hz : MayD 3 (fullT z)) (hw : MayD 3 (fullT w)) (m1 : MayR pa pb) (m2 : MayR pc pd) (h1 : one = true ↔ keptAll 3 (fullT z) [(0, 1), (pa, pb), (pc, pd)]) (hi : keptAll 3 (fullT w) [(0, 1), (pa, pb), (pc, pd)] ↔ i = true) (h : CutR z w out f) :
    f = 8 ∨ (f = 6 ∧ (one && i) = false) ∨ (f = 0 ∧ Tops out ∧ ∀ it g, HasR out pa pb pc pd it g → g = 0 ∧ it = (one && i)) := by
  rcases h with ⟨n, _, e⟩ | ⟨_, _, _, e⟩ | ⟨o, m, x, e⟩
  · refine .inr (.inl ⟨e, ?_⟩)
    have k := cut_out tz hz hw n pa pb pc pd m1 m2
    cases hv : (one && i) with
    | false => rfl
    | true =>
      rw [Bool.and_eq_true] at hv
      exact (k ⟨h1.1 hv.1, hi.2 hv.2⟩).elim
  · exact .inl e
  · subst e
    obtain ⟨k1, k2, _, _, k5⟩ := cut_good tz hz hw (.inr (.inr ⟨o, m, x, rfl⟩) : CutR z w out 0)
    refine .inr (.inr ⟨rfl, k2, fun it g hg => ?_⟩)
    rcases hg with ⟨n, _⟩ | ⟨_, _, _, e, r⟩
    · exact (n ⟨k1, m1, m2⟩).elim
    · refine ⟨e, ?_⟩
      rw [Bool.eq_iff_iff, r, k5 pa pb pc pd m1 m2, Bool.and_eq_true, h1, hi]
theorem within_point {z out : List Int} {s : Sp} {pa pb pc pd x y f : Int} {one : Bool} (tz : Tops z) (hz : MayZ z) (m1 : MayR pa pb) (m2 : MayR pc pd) (mx : MayR x y) (ex : x * (pd * pb) = (pc * pb - pa * pd) * y) (h1 : one = true ↔ keptAll 3 (fullT z) [(0, 1), (pa, pb), (pc, pd)]) (h : WithinR z s out f) :
    f = 8 ∨ (MayP s ∧ ((f = 6 ∧ (one && inS s x y) = false) ∨ (f = 0 ∧ Tops out ∧ ∀ it g, HasR out pa pb pc pd it g → g = 0 ∧ it = (one && inS s x y)))) := by
  rcases h with ⟨n, _⟩ | ⟨_, _, _, e⟩ | ⟨_, mp, h⟩
  · exact (n hz).elim
  · exact .inl e
  · rcases cut_point tz hz.may (diff_may mp) m1 m2 h1 (diff_kept mp m1 m2 mx ex) h with k | k | k
    · exact .inl k
    · exact .inr ⟨mp, .inl k⟩
    · exact .inr ⟨mp, .inr k⟩
theorem window_point {z out : List Int} {fr tt : Int} {pa pb pc pd f : Int} {one : Bool} (tz : Tops z) (hz : MayZ z) (m1 : MayR pa pb) (m2 : MayR pc pd) (h1 : one = true ↔ keptAll 3 (fullT z) [(0, 1), (pa, pb), (pc, pd)]) (h : WindowR z fr tt out f) :
    (f = 8 ∨ f = 2) ∨ (MayP (winS fr tt) ∧ ((f = 6 ∧ (one && inS (winS fr tt) pc pd) = false) ∨ (f = 0 ∧ Tops out ∧ ∀ it g, HasR out pa pb pc pd it g → g = 0 ∧ it = (one && inS (winS fr tt) pc pd)))) := by
  rcases h with ⟨n, _⟩ | ⟨_, _, _, e⟩ | ⟨_, mw, h⟩
  · exact (n hz).elim
  · exact .inl (.inr e)
  · have mp := win_may mw.1 mw.2.1 (Int.le_of_lt mw.2.2)
    rcases cut_point tz hz.may (late_may mp) m1 m2 h1 (late_kept mp m1 m2) h with k | k | k
    · exact .inl (.inl k)
    · exact .inr ⟨mp, .inl k⟩
    · exact .inr ⟨mp, .inr k⟩

set_option maxRecDepth 100000 in
set_option maxHeartbeats 32000000 in
theorem walk (a0 a1 a2 a3 a4 a5 lo : Int) (ls : Bool) (hi : Int) (hs op : Bool) (fr tt pa pb pc pd : Int) (w : World) (ha : ∀ x ∈ [a0, a1, a2, a3, a4, a5], -9223372036854775808 ≤ x ∧ x ≤ 9223372036854775807) (hp : ∀ x ∈ [pa, pb, pc, pd], -9223372036854775808 ≤ x ∧ x ≤ 9223372036854775807) (hfr : -9223372036854775808 ≤ fr ∧ fr ≤ 9223372036854775807) (htt : -9223372036854775808 ≤ tt ∧ tt ≤ 9223372036854775807) (hP : Pl w) : Calls Tryd.prog 5 #[.agg #[.int .i64 a0, .int .i64 a1, .int .i64 a2, .int .i64 a3, .int .i64 a4, .int .i64 a5], .agg #[.int .i64 lo, .bool ls, .int .i64 hi, .bool hs, .bool op], .int .i64 fr, .int .i64 tt, .agg #[.int .i64 pa, .int .i64 pb, .int .i64 pc, .int .i64 pd]] w fun e w' => e = .returned (.bool true) ∧ Below w.heap.size w w' := by
  have TA := Lib.hid (show Tops [a0, a1, a2, a3, a4, a5] from fun x hx => (ha x hx).2)
  have HF := Lib.hid (show zone.Fit [pa, pb, pc, pd] from hp)
  have X : ∃ w0, w0 = ((w.alloc (.cells #[.int .i64 a0, .int .i64 a1, .int .i64 a2, .int .i64 a3, .int .i64 a4, .int .i64 a5] 24)).alloc (.cells #[.int .i64 lo, .bool ls, .int .i64 hi, .bool hs, .bool op] 31)).alloc (.cells #[.int .i64 pa, .int .i64 pb, .int .i64 pc, .int .i64 pd] 44) := ⟨_, rfl⟩
  obtain ⟨w0, hX⟩ := X
  have DB : Below w.heap.size w w0 := by rw [hX]; exact bound.up3 _ _ _ _
  have D0 : lies.Lies w0 w.heap.size 24 #[.int .i64 a0, .int .i64 a1, .int .i64 a2, .int .i64 a3, .int .i64 a4, .int .i64 a5] := by rw [hX]; exact lies.on_alloc (lies.on_alloc (lies.made _ _ _) _) _
  have D1 : lies.Lies w0 (w.heap.size + 1) 31 #[.int .i64 lo, .bool ls, .int .i64 hi, .bool hs, .bool op] := by rw [hX]; exact lies.on_alloc (lies.made_at _ _ _ _ (by simp)) _
  have D2 : lies.Lies w0 (w.heap.size + 1 + 1) 44 #[.int .i64 pa, .int .i64 pb, .int .i64 pc, .int .i64 pd] := by rw [hX]; exact lies.made_at _ _ _ _ (by simp)
  have P0 := hP.on DB
  clear hP ha hp hfr htt
  go_enter Tryd.func5, Tryd.ntmps5
  go_wp2_with fail
  rw [← hX]
  clear hX
  refine (alive_yes w0 P0).mono ?_
  rintro e w1 ⟨rfl, hB⟩
  replace D0 := lies.on_call D0 hB
  replace D1 := lies.on_call D1 hB
  replace D2 := lies.on_call D2 hB
  replace P0 := P0.on hB
  replace DB := later DB hB
  clear hB
  obtain ⟨⟨kD0_0, kD0_1, kD0_2, kD0_3, kD0_4, kD0_5⟩, -⟩ := six_cells D0
  have kD0_l := lies.lt D0
  obtain ⟨⟨kD2_0, kD2_1, kD2_2, kD2_3⟩, -⟩ := four_cells D2
  have kD2_l := lies.lt D2
  go_wp2_with fail
  clear kD0_0 kD0_1 kD0_2 kD0_3 kD0_4 kD0_5 kD0_l kD2_0 kD2_1 kD2_2 kD2_3 kD2_l
  refine (has_any a0 a1 a2 a3 a4 a5 pa pb pc pd w1 P0 TA.out HF.out).mono ?_
  rintro e w2 ⟨hB, one, e, rfl, hX1⟩
  replace D0 := lies.on_call D0 hB
  replace D1 := lies.on_call D1 hB
  replace D2 := lies.on_call D2 hB
  replace P0 := P0.on hB
  replace DB := later DB hB
  clear hB
  have HO := Lib.hid hX1
  clear hX1
  obtain ⟨⟨kD2_0, kD2_1, kD2_2, kD2_3⟩, -⟩ := four_cells D2
  have kD2_l := lies.lt D2
  go_wp2_with fail
  clear kD2_0 kD2_1 kD2_2 kD2_3 kD2_l
  refine (difference_is pa pb pc pd w2 HF.out).mono ?_
  rintro e w3 ⟨hB, x, y, i, rfl, hX1⟩
  replace D0 := lies.on_call D0 hB
  replace D1 := lies.on_call D1 hB
  replace D2 := lies.on_call D2 hB
  replace P0 := P0.on hB
  replace DB := later DB hB
  clear hB
  have HD := Lib.hid hX1
  clear hX1
  by_cases he : e = 0
  · skip
    subst he
    cases i with
    | false =>
      clear HO HD
      go_wp2_with fail
      go_ret
      exact ⟨rfl, lies.frame_up DB _⟩
    | true =>
      obtain ⟨hz, m1, m2, h1⟩ : MayZ [a0, a1, a2, a3, a4, a5] ∧ MayR pa pb ∧ MayR pc pd ∧ (one = true ↔ keptAll 3 (fullT [a0, a1, a2, a3, a4, a5]) [(0, 1), (pa, pb), (pc, pd)]) := by
        rcases HO.out with ⟨_, _, n⟩ | ⟨p, q, r, _, k⟩
        · exact absurd n (by decide)
        · exact ⟨p, q, r, k⟩
      have HZ := Lib.hid hz
      have HM1 := Lib.hid m1
      have HM2 := Lib.hid m2
      have H1 := Lib.hid h1
      have HDD := Lib.hid (HD.out rfl)
      clear hz m1 m2 h1 HO HD
      obtain ⟨⟨kD0_0, kD0_1, kD0_2, kD0_3, kD0_4, kD0_5⟩, -⟩ := six_cells D0
      have kD0_l := lies.lt D0
      obtain ⟨⟨kD1_0, kD1_1, kD1_2, kD1_3, kD1_4⟩, -⟩ := five_cells D1
      have kD1_l := lies.lt D1
      go_wp2_with fail
      clear kD0_0 kD0_1 kD0_2 kD0_3 kD0_4 kD0_5 kD0_l kD1_0 kD1_1 kD1_2 kD1_3 kD1_4 kD1_l
      have hA := bound.up1 w3 (.cells #[.int .i64 x, .int .i64 y] 42)
      have D3 := lies.made w3 42 #[.int .i64 x, .int .i64 y]
      replace D0 := lies.on_call D0 hA
      replace D1 := lies.on_call D1 hA
      replace D2 := lies.on_call D2 hA
      replace P0 := P0.on hA
      replace DB := later DB hA
      clear hA
      generalize w3.heap.size = XD3 at D3 ⊢
      generalize w3.alloc (.cells #[.int .i64 x, .int .i64 y] 42) = v4 at D0 D1 D2 D3 P0 DB ⊢
      refine (within_any a0 a1 a2 a3 a4 a5 lo ls hi hs op v4 P0 TA.out).mono ?_
      rintro e w5 ⟨hB, b0, b1, b2, b3, b4, b5, f, rfl, hX1⟩
      replace D0 := lies.on_call D0 hB
      replace D1 := lies.on_call D1 hB
      replace D2 := lies.on_call D2 hB
      replace D3 := lies.on_call D3 hB
      replace P0 := P0.on hB
      replace DB := later DB hB
      clear hB
      have HQ := Lib.hid (within_point TA.out HZ.out HM1.out HM2.out HDD.out.1 HDD.out.2.1 H1.out hX1)
      clear hX1
      cases one with
      | false =>
        rcases HQ.out with rfl | ⟨mp, ⟨rfl, e6⟩ | ⟨rfl, tb, k0⟩⟩
        · skip
          clear HQ
          obtain ⟨⟨kD0_0, kD0_1, kD0_2, kD0_3, kD0_4, kD0_5⟩, -⟩ := six_cells D0
          have kD0_l := lies.lt D0
          go_wp2_with fail
          clear kD0_0 kD0_1 kD0_2 kD0_3 kD0_4 kD0_5 kD0_l
          have hA := bound.up1 w5 (.cells #[.int .i64 b0, .int .i64 b1, .int .i64 b2, .int .i64 b3, .int .i64 b4, .int .i64 b5] 24)
          have D4 := lies.made w5 24 #[.int .i64 b0, .int .i64 b1, .int .i64 b2, .int .i64 b3, .int .i64 b4, .int .i64 b5]
          replace D0 := lies.on_call D0 hA
          replace D1 := lies.on_call D1 hA
          replace D2 := lies.on_call D2 hA
          replace D3 := lies.on_call D3 hA
          replace P0 := P0.on hA
          replace DB := later DB hA
          clear hA
          generalize w5.heap.size = XD4 at D4 ⊢
          generalize w5.alloc (.cells #[.int .i64 b0, .int .i64 b1, .int .i64 b2, .int .i64 b3, .int .i64 b4, .int .i64 b5] 24) = v6 at D0 D1 D2 D3 D4 P0 DB ⊢
          refine (window_any a0 a1 a2 a3 a4 a5 fr tt v6 P0 TA.out).mono ?_
          rintro e w7 ⟨hB, c0, c1, c2, c3, c4, c5, j, rfl, hX1⟩
          replace D0 := lies.on_call D0 hB
          replace D1 := lies.on_call D1 hB
          replace D2 := lies.on_call D2 hB
          replace D3 := lies.on_call D3 hB
          replace D4 := lies.on_call D4 hB
          replace P0 := P0.on hB
          replace DB := later DB hB
          clear hB
          have HQ := Lib.hid (window_point (one := false) TA.out HZ.out HM1.out HM2.out (by simpa using H1.out) hX1)
          clear hX1
          rcases HQ.out with (rfl | rfl) | ⟨mw, ⟨rfl, e6⟩ | ⟨rfl, tc, k0⟩⟩
          · skip
            clear HQ
            go_wp2_with fail
            go_ret
            exact ⟨rfl, lies.frame_up DB _⟩
          · skip
            clear HQ
            go_wp2_with fail
            go_ret
            exact ⟨rfl, lies.frame_up DB _⟩
          · skip
            have HW := Lib.hid mw
            have H6 := Lib.hid e6
            clear mw e6 HQ
            clear H6
            go_wp2_with fail
            go_ret
            exact ⟨rfl, lies.frame_up DB _⟩
          · skip
            have HW := Lib.hid mw
            have TC := Lib.hid tc
            have HK := Lib.hid k0
            clear mw tc k0 HQ
            obtain ⟨⟨kD2_0, kD2_1, kD2_2, kD2_3⟩, -⟩ := four_cells D2
            have kD2_l := lies.lt D2
            go_wp2_with fail
            clear kD2_0 kD2_1 kD2_2 kD2_3 kD2_l
            have hA := bound.up1 w7 (.cells #[.int .i64 c0, .int .i64 c1, .int .i64 c2, .int .i64 c3, .int .i64 c4, .int .i64 c5] 24)
            have D5 := lies.made w7 24 #[.int .i64 c0, .int .i64 c1, .int .i64 c2, .int .i64 c3, .int .i64 c4, .int .i64 c5]
            replace D0 := lies.on_call D0 hA
            replace D1 := lies.on_call D1 hA
            replace D2 := lies.on_call D2 hA
            replace D3 := lies.on_call D3 hA
            replace D4 := lies.on_call D4 hA
            replace P0 := P0.on hA
            replace DB := later DB hA
            clear hA
            generalize w7.heap.size = XD5 at D5 ⊢
            generalize w7.alloc (.cells #[.int .i64 c0, .int .i64 c1, .int .i64 c2, .int .i64 c3, .int .i64 c4, .int .i64 c5] 24) = v8 at D0 D1 D2 D3 D4 D5 P0 DB ⊢
            refine (has_any c0 c1 c2 c3 c4 c5 pa pb pc pd v8 P0 TC.out HF.out).mono ?_
            rintro e w9 ⟨hB, it2, g2, rfl, hX1⟩
            replace D0 := lies.on_call D0 hB
            replace D1 := lies.on_call D1 hB
            replace D2 := lies.on_call D2 hB
            replace D3 := lies.on_call D3 hB
            replace D4 := lies.on_call D4 hB
            replace D5 := lies.on_call D5 hB
            replace P0 := P0.on hB
            replace DB := later DB hB
            clear hB
            obtain ⟨rfl, e2⟩ := HK.out _ _ hX1
            clear hX1 HK
            have e3 : it2 = false := by simpa using e2
            subst e3
            clear e2
            go_wp2_with fail
            go_ret
            exact ⟨rfl, DB⟩
        · skip
          have HP := Lib.hid mp
          have H6 := Lib.hid e6
          clear mp e6 HQ
          clear H6
          obtain ⟨⟨kD0_0, kD0_1, kD0_2, kD0_3, kD0_4, kD0_5⟩, -⟩ := six_cells D0
          have kD0_l := lies.lt D0
          go_wp2_with fail
          clear kD0_0 kD0_1 kD0_2 kD0_3 kD0_4 kD0_5 kD0_l
          have hA := bound.up1 w5 (.cells #[.int .i64 b0, .int .i64 b1, .int .i64 b2, .int .i64 b3, .int .i64 b4, .int .i64 b5] 24)
          have D4 := lies.made w5 24 #[.int .i64 b0, .int .i64 b1, .int .i64 b2, .int .i64 b3, .int .i64 b4, .int .i64 b5]
          replace D0 := lies.on_call D0 hA
          replace D1 := lies.on_call D1 hA
          replace D2 := lies.on_call D2 hA
          replace D3 := lies.on_call D3 hA
          replace P0 := P0.on hA
          replace DB := later DB hA
          clear hA
          generalize w5.heap.size = XD4 at D4 ⊢
          generalize w5.alloc (.cells #[.int .i64 b0, .int .i64 b1, .int .i64 b2, .int .i64 b3, .int .i64 b4, .int .i64 b5] 24) = v6 at D0 D1 D2 D3 D4 P0 DB ⊢
          refine (window_any a0 a1 a2 a3 a4 a5 fr tt v6 P0 TA.out).mono ?_
          rintro e w7 ⟨hB, c0, c1, c2, c3, c4, c5, j, rfl, hX1⟩
          replace D0 := lies.on_call D0 hB
          replace D1 := lies.on_call D1 hB
          replace D2 := lies.on_call D2 hB
          replace D3 := lies.on_call D3 hB
          replace D4 := lies.on_call D4 hB
          replace P0 := P0.on hB
          replace DB := later DB hB
          clear hB
          have HQ := Lib.hid (window_point (one := false) TA.out HZ.out HM1.out HM2.out (by simpa using H1.out) hX1)
          clear hX1
          rcases HQ.out with (rfl | rfl) | ⟨mw, ⟨rfl, e6⟩ | ⟨rfl, tc, k0⟩⟩
          · skip
            clear HQ
            go_wp2_with fail
            go_ret
            exact ⟨rfl, lies.frame_up DB _⟩
          · skip
            clear HQ
            go_wp2_with fail
            go_ret
            exact ⟨rfl, lies.frame_up DB _⟩
          · skip
            have HW := Lib.hid mw
            have H6 := Lib.hid e6
            clear mw e6 HQ
            clear H6
            go_wp2_with fail
            go_ret
            exact ⟨rfl, lies.frame_up DB _⟩
          · skip
            have HW := Lib.hid mw
            have TC := Lib.hid tc
            have HK := Lib.hid k0
            clear mw tc k0 HQ
            obtain ⟨⟨kD2_0, kD2_1, kD2_2, kD2_3⟩, -⟩ := four_cells D2
            have kD2_l := lies.lt D2
            go_wp2_with fail
            clear kD2_0 kD2_1 kD2_2 kD2_3 kD2_l
            have hA := bound.up1 w7 (.cells #[.int .i64 c0, .int .i64 c1, .int .i64 c2, .int .i64 c3, .int .i64 c4, .int .i64 c5] 24)
            have D5 := lies.made w7 24 #[.int .i64 c0, .int .i64 c1, .int .i64 c2, .int .i64 c3, .int .i64 c4, .int .i64 c5]
            replace D0 := lies.on_call D0 hA
            replace D1 := lies.on_call D1 hA
            replace D2 := lies.on_call D2 hA
            replace D3 := lies.on_call D3 hA
            replace D4 := lies.on_call D4 hA
            replace P0 := P0.on hA
            replace DB := later DB hA
            clear hA
            generalize w7.heap.size = XD5 at D5 ⊢
            generalize w7.alloc (.cells #[.int .i64 c0, .int .i64 c1, .int .i64 c2, .int .i64 c3, .int .i64 c4, .int .i64 c5] 24) = v8 at D0 D1 D2 D3 D4 D5 P0 DB ⊢
            refine (has_any c0 c1 c2 c3 c4 c5 pa pb pc pd v8 P0 TC.out HF.out).mono ?_
            rintro e w9 ⟨hB, it2, g2, rfl, hX1⟩
            replace D0 := lies.on_call D0 hB
            replace D1 := lies.on_call D1 hB
            replace D2 := lies.on_call D2 hB
            replace D3 := lies.on_call D3 hB
            replace D4 := lies.on_call D4 hB
            replace D5 := lies.on_call D5 hB
            replace P0 := P0.on hB
            replace DB := later DB hB
            clear hB
            obtain ⟨rfl, e2⟩ := HK.out _ _ hX1
            clear hX1 HK
            have e3 : it2 = false := by simpa using e2
            subst e3
            clear e2
            go_wp2_with fail
            go_ret
            exact ⟨rfl, DB⟩
        · skip
          have HP := Lib.hid mp
          have TB := Lib.hid tb
          have HK := Lib.hid k0
          clear mp tb k0 HQ
          obtain ⟨⟨kD2_0, kD2_1, kD2_2, kD2_3⟩, -⟩ := four_cells D2
          have kD2_l := lies.lt D2
          go_wp2_with fail
          clear kD2_0 kD2_1 kD2_2 kD2_3 kD2_l
          have hA := bound.up1 w5 (.cells #[.int .i64 b0, .int .i64 b1, .int .i64 b2, .int .i64 b3, .int .i64 b4, .int .i64 b5] 24)
          have D4 := lies.made w5 24 #[.int .i64 b0, .int .i64 b1, .int .i64 b2, .int .i64 b3, .int .i64 b4, .int .i64 b5]
          replace D0 := lies.on_call D0 hA
          replace D1 := lies.on_call D1 hA
          replace D2 := lies.on_call D2 hA
          replace D3 := lies.on_call D3 hA
          replace P0 := P0.on hA
          replace DB := later DB hA
          clear hA
          generalize w5.heap.size = XD4 at D4 ⊢
          generalize w5.alloc (.cells #[.int .i64 b0, .int .i64 b1, .int .i64 b2, .int .i64 b3, .int .i64 b4, .int .i64 b5] 24) = v6 at D0 D1 D2 D3 D4 P0 DB ⊢
          refine (has_any b0 b1 b2 b3 b4 b5 pa pb pc pd v6 P0 TB.out HF.out).mono ?_
          rintro e w7 ⟨hB, it, g, rfl, hX1⟩
          replace D0 := lies.on_call D0 hB
          replace D1 := lies.on_call D1 hB
          replace D2 := lies.on_call D2 hB
          replace D3 := lies.on_call D3 hB
          replace D4 := lies.on_call D4 hB
          replace P0 := P0.on hB
          replace DB := later DB hB
          clear hB
          obtain ⟨rfl, e2⟩ := HK.out _ _ hX1
          clear hX1 HK
          have e3 : it = false := by simpa using e2
          subst e3
          clear e2
          obtain ⟨⟨kD0_0, kD0_1, kD0_2, kD0_3, kD0_4, kD0_5⟩, -⟩ := six_cells D0
          have kD0_l := lies.lt D0
          go_wp2_with fail
          clear kD0_0 kD0_1 kD0_2 kD0_3 kD0_4 kD0_5 kD0_l
          refine (window_any a0 a1 a2 a3 a4 a5 fr tt w7 P0 TA.out).mono ?_
          rintro e w8 ⟨hB, c0, c1, c2, c3, c4, c5, j, rfl, hX1⟩
          replace D0 := lies.on_call D0 hB
          replace D1 := lies.on_call D1 hB
          replace D2 := lies.on_call D2 hB
          replace D3 := lies.on_call D3 hB
          replace D4 := lies.on_call D4 hB
          replace P0 := P0.on hB
          replace DB := later DB hB
          clear hB
          have HQ := Lib.hid (window_point (one := false) TA.out HZ.out HM1.out HM2.out (by simpa using H1.out) hX1)
          clear hX1
          rcases HQ.out with (rfl | rfl) | ⟨mw, ⟨rfl, e6⟩ | ⟨rfl, tc, k0⟩⟩
          · skip
            clear HQ
            go_wp2_with fail
            go_ret
            exact ⟨rfl, lies.frame_up DB _⟩
          · skip
            clear HQ
            go_wp2_with fail
            go_ret
            exact ⟨rfl, lies.frame_up DB _⟩
          · skip
            have HW := Lib.hid mw
            have H6 := Lib.hid e6
            clear mw e6 HQ
            clear H6
            go_wp2_with fail
            go_ret
            exact ⟨rfl, lies.frame_up DB _⟩
          · skip
            have HW := Lib.hid mw
            have TC := Lib.hid tc
            have HK := Lib.hid k0
            clear mw tc k0 HQ
            obtain ⟨⟨kD2_0, kD2_1, kD2_2, kD2_3⟩, -⟩ := four_cells D2
            have kD2_l := lies.lt D2
            go_wp2_with fail
            clear kD2_0 kD2_1 kD2_2 kD2_3 kD2_l
            have hA := bound.up1 w8 (.cells #[.int .i64 c0, .int .i64 c1, .int .i64 c2, .int .i64 c3, .int .i64 c4, .int .i64 c5] 24)
            have D5 := lies.made w8 24 #[.int .i64 c0, .int .i64 c1, .int .i64 c2, .int .i64 c3, .int .i64 c4, .int .i64 c5]
            replace D0 := lies.on_call D0 hA
            replace D1 := lies.on_call D1 hA
            replace D2 := lies.on_call D2 hA
            replace D3 := lies.on_call D3 hA
            replace D4 := lies.on_call D4 hA
            replace P0 := P0.on hA
            replace DB := later DB hA
            clear hA
            generalize w8.heap.size = XD5 at D5 ⊢
            generalize w8.alloc (.cells #[.int .i64 c0, .int .i64 c1, .int .i64 c2, .int .i64 c3, .int .i64 c4, .int .i64 c5] 24) = v9 at D0 D1 D2 D3 D4 D5 P0 DB ⊢
            refine (has_any c0 c1 c2 c3 c4 c5 pa pb pc pd v9 P0 TC.out HF.out).mono ?_
            rintro e w10 ⟨hB, it2, g2, rfl, hX1⟩
            replace D0 := lies.on_call D0 hB
            replace D1 := lies.on_call D1 hB
            replace D2 := lies.on_call D2 hB
            replace D3 := lies.on_call D3 hB
            replace D4 := lies.on_call D4 hB
            replace D5 := lies.on_call D5 hB
            replace P0 := P0.on hB
            replace DB := later DB hB
            clear hB
            obtain ⟨rfl, e2⟩ := HK.out _ _ hX1
            clear hX1 HK
            have e3 : it2 = false := by simpa using e2
            subst e3
            clear e2
            go_wp2_with fail
            go_ret
            exact ⟨rfl, DB⟩
      | true =>
        rcases HQ.out with rfl | ⟨mp, ⟨rfl, e6⟩ | ⟨rfl, tb, k0⟩⟩
        · skip
          clear HQ
          obtain ⟨⟨kD0_0, kD0_1, kD0_2, kD0_3, kD0_4, kD0_5⟩, -⟩ := six_cells D0
          have kD0_l := lies.lt D0
          go_wp2_with fail
          clear kD0_0 kD0_1 kD0_2 kD0_3 kD0_4 kD0_5 kD0_l
          have hA := bound.up1 w5 (.cells #[.int .i64 b0, .int .i64 b1, .int .i64 b2, .int .i64 b3, .int .i64 b4, .int .i64 b5] 24)
          have D4 := lies.made w5 24 #[.int .i64 b0, .int .i64 b1, .int .i64 b2, .int .i64 b3, .int .i64 b4, .int .i64 b5]
          replace D0 := lies.on_call D0 hA
          replace D1 := lies.on_call D1 hA
          replace D2 := lies.on_call D2 hA
          replace D3 := lies.on_call D3 hA
          replace P0 := P0.on hA
          replace DB := later DB hA
          clear hA
          generalize w5.heap.size = XD4 at D4 ⊢
          generalize w5.alloc (.cells #[.int .i64 b0, .int .i64 b1, .int .i64 b2, .int .i64 b3, .int .i64 b4, .int .i64 b5] 24) = v6 at D0 D1 D2 D3 D4 P0 DB ⊢
          refine (window_any a0 a1 a2 a3 a4 a5 fr tt v6 P0 TA.out).mono ?_
          rintro e w7 ⟨hB, c0, c1, c2, c3, c4, c5, j, rfl, hX1⟩
          replace D0 := lies.on_call D0 hB
          replace D1 := lies.on_call D1 hB
          replace D2 := lies.on_call D2 hB
          replace D3 := lies.on_call D3 hB
          replace D4 := lies.on_call D4 hB
          replace P0 := P0.on hB
          replace DB := later DB hB
          clear hB
          have HQ := Lib.hid (window_point (one := true) TA.out HZ.out HM1.out HM2.out (by simpa using H1.out) hX1)
          clear hX1
          rcases HQ.out with (rfl | rfl) | ⟨mw, ⟨rfl, e6⟩ | ⟨rfl, tc, k0⟩⟩
          · skip
            clear HQ
            go_wp2_with fail
            go_ret
            exact ⟨rfl, lies.frame_up DB _⟩
          · skip
            clear HQ
            go_wp2_with fail
            go_ret
            exact ⟨rfl, lies.frame_up DB _⟩
          · skip
            have HW := Lib.hid mw
            have H6 := Lib.hid e6
            clear mw e6 HQ
            obtain ⟨⟨kD2_0, kD2_1, kD2_2, kD2_3⟩, -⟩ := four_cells D2
            have kD2_l := lies.lt D2
            go_wp2_with fail
            clear kD2_0 kD2_1 kD2_2 kD2_3 kD2_l
            have hA := bound.up1 w7 (.cells #[.int .i64 c0, .int .i64 c1, .int .i64 c2, .int .i64 c3, .int .i64 c4, .int .i64 c5] 24)
            have D5 := lies.made w7 24 #[.int .i64 c0, .int .i64 c1, .int .i64 c2, .int .i64 c3, .int .i64 c4, .int .i64 c5]
            replace D0 := lies.on_call D0 hA
            replace D1 := lies.on_call D1 hA
            replace D2 := lies.on_call D2 hA
            replace D3 := lies.on_call D3 hA
            replace D4 := lies.on_call D4 hA
            replace P0 := P0.on hA
            replace DB := later DB hA
            clear hA
            generalize w7.heap.size = XD5 at D5 ⊢
            generalize w7.alloc (.cells #[.int .i64 c0, .int .i64 c1, .int .i64 c2, .int .i64 c3, .int .i64 c4, .int .i64 c5] 24) = v8 at D0 D1 D2 D3 D4 D5 P0 DB ⊢
            refine (within_is pc pd fr true tt false false v8 (HF.out pc (by simp)) HM2.out HW.out).mono ?_
            rintro e w9 ⟨rfl, hB⟩
            replace D0 := lies.on_call D0 hB
            replace D1 := lies.on_call D1 hB
            replace D2 := lies.on_call D2 hB
            replace D3 := lies.on_call D3 hB
            replace D4 := lies.on_call D4 hB
            replace D5 := lies.on_call D5 hB
            replace P0 := P0.on hB
            replace DB := later DB hB
            clear hB
            have h6 : inS (winS fr tt) pc pd = false := by simpa using H6.out
            have h6 : inS (fr, true, tt, false, false) pc pd = false := h6
            rw [h6]
            clear h6 H6
            go_wp2_with fail
            go_ret
            exact ⟨rfl, DB⟩
          · skip
            have HW := Lib.hid mw
            have TC := Lib.hid tc
            have HK := Lib.hid k0
            clear mw tc k0 HQ
            obtain ⟨⟨kD2_0, kD2_1, kD2_2, kD2_3⟩, -⟩ := four_cells D2
            have kD2_l := lies.lt D2
            go_wp2_with fail
            clear kD2_0 kD2_1 kD2_2 kD2_3 kD2_l
            have hA := bound.up1 w7 (.cells #[.int .i64 c0, .int .i64 c1, .int .i64 c2, .int .i64 c3, .int .i64 c4, .int .i64 c5] 24)
            have D5 := lies.made w7 24 #[.int .i64 c0, .int .i64 c1, .int .i64 c2, .int .i64 c3, .int .i64 c4, .int .i64 c5]
            replace D0 := lies.on_call D0 hA
            replace D1 := lies.on_call D1 hA
            replace D2 := lies.on_call D2 hA
            replace D3 := lies.on_call D3 hA
            replace D4 := lies.on_call D4 hA
            replace P0 := P0.on hA
            replace DB := later DB hA
            clear hA
            generalize w7.heap.size = XD5 at D5 ⊢
            generalize w7.alloc (.cells #[.int .i64 c0, .int .i64 c1, .int .i64 c2, .int .i64 c3, .int .i64 c4, .int .i64 c5] 24) = v8 at D0 D1 D2 D3 D4 D5 P0 DB ⊢
            refine (has_any c0 c1 c2 c3 c4 c5 pa pb pc pd v8 P0 TC.out HF.out).mono ?_
            rintro e w9 ⟨hB, it2, g2, rfl, hX1⟩
            replace D0 := lies.on_call D0 hB
            replace D1 := lies.on_call D1 hB
            replace D2 := lies.on_call D2 hB
            replace D3 := lies.on_call D3 hB
            replace D4 := lies.on_call D4 hB
            replace D5 := lies.on_call D5 hB
            replace P0 := P0.on hB
            replace DB := later DB hB
            clear hB
            obtain ⟨rfl, e2⟩ := HK.out _ _ hX1
            clear hX1 HK
            have e3 : inS (winS fr tt) pc pd = it2 := by simpa using e2.symm
            have e3 : inS (fr, true, tt, false, false) pc pd = it2 := e3
            have H3 := Lib.hid e3
            clear e2 e3
            obtain ⟨⟨kD2_0, kD2_1, kD2_2, kD2_3⟩, -⟩ := four_cells D2
            have kD2_l := lies.lt D2
            go_wp2_with fail
            clear kD2_0 kD2_1 kD2_2 kD2_3 kD2_l
            refine (within_is pc pd fr true tt false false w9 (HF.out pc (by simp)) HM2.out HW.out).mono ?_
            rintro e w10 ⟨rfl, hB⟩
            replace D0 := lies.on_call D0 hB
            replace D1 := lies.on_call D1 hB
            replace D2 := lies.on_call D2 hB
            replace D3 := lies.on_call D3 hB
            replace D4 := lies.on_call D4 hB
            replace D5 := lies.on_call D5 hB
            replace P0 := P0.on hB
            replace DB := later DB hB
            clear hB
            rw [H3.out]
            clear H3
            cases it2
            all_goals
              go_wp2_with fail
              go_ret
              exact ⟨rfl, DB⟩
        · skip
          have HP := Lib.hid mp
          have H6 := Lib.hid e6
          clear mp e6 HQ
          obtain ⟨kD3_0, kD3_1, -, -, -⟩ := lies.two D3
          have kD3_l := lies.lt D3
          obtain ⟨⟨kD1_0, kD1_1, kD1_2, kD1_3, kD1_4⟩, -⟩ := five_cells D1
          have kD1_l := lies.lt D1
          go_wp2_with fail
          clear kD3_0 kD3_1 kD3_l kD1_0 kD1_1 kD1_2 kD1_3 kD1_4 kD1_l
          have hA := bound.up1 w5 (.cells #[.int .i64 b0, .int .i64 b1, .int .i64 b2, .int .i64 b3, .int .i64 b4, .int .i64 b5] 24)
          have D4 := lies.made w5 24 #[.int .i64 b0, .int .i64 b1, .int .i64 b2, .int .i64 b3, .int .i64 b4, .int .i64 b5]
          replace D0 := lies.on_call D0 hA
          replace D1 := lies.on_call D1 hA
          replace D2 := lies.on_call D2 hA
          replace D3 := lies.on_call D3 hA
          replace P0 := P0.on hA
          replace DB := later DB hA
          clear hA
          generalize w5.heap.size = XD4 at D4 ⊢
          generalize w5.alloc (.cells #[.int .i64 b0, .int .i64 b1, .int .i64 b2, .int .i64 b3, .int .i64 b4, .int .i64 b5] 24) = v6 at D0 D1 D2 D3 D4 P0 DB ⊢
          refine (within_is x y lo ls hi hs op v6 HDD.out.2.2 HDD.out.1 HP.out).mono ?_
          rintro e w7 ⟨rfl, hB⟩
          replace D0 := lies.on_call D0 hB
          replace D1 := lies.on_call D1 hB
          replace D2 := lies.on_call D2 hB
          replace D3 := lies.on_call D3 hB
          replace D4 := lies.on_call D4 hB
          replace P0 := P0.on hB
          replace DB := later DB hB
          clear hB
          have h6 : inS (lo, ls, hi, hs, op) x y = false := by simpa using H6.out
          rw [h6]
          clear h6 H6
          obtain ⟨⟨kD0_0, kD0_1, kD0_2, kD0_3, kD0_4, kD0_5⟩, -⟩ := six_cells D0
          have kD0_l := lies.lt D0
          go_wp2_with fail
          clear kD0_0 kD0_1 kD0_2 kD0_3 kD0_4 kD0_5 kD0_l
          refine (window_any a0 a1 a2 a3 a4 a5 fr tt w7 P0 TA.out).mono ?_
          rintro e w8 ⟨hB, c0, c1, c2, c3, c4, c5, j, rfl, hX1⟩
          replace D0 := lies.on_call D0 hB
          replace D1 := lies.on_call D1 hB
          replace D2 := lies.on_call D2 hB
          replace D3 := lies.on_call D3 hB
          replace D4 := lies.on_call D4 hB
          replace P0 := P0.on hB
          replace DB := later DB hB
          clear hB
          have HQ := Lib.hid (window_point (one := true) TA.out HZ.out HM1.out HM2.out (by simpa using H1.out) hX1)
          clear hX1
          rcases HQ.out with (rfl | rfl) | ⟨mw, ⟨rfl, e6⟩ | ⟨rfl, tc, k0⟩⟩
          · skip
            clear HQ
            go_wp2_with fail
            go_ret
            exact ⟨rfl, lies.frame_up DB _⟩
          · skip
            clear HQ
            go_wp2_with fail
            go_ret
            exact ⟨rfl, lies.frame_up DB _⟩
          · skip
            have HW := Lib.hid mw
            have H6 := Lib.hid e6
            clear mw e6 HQ
            obtain ⟨⟨kD2_0, kD2_1, kD2_2, kD2_3⟩, -⟩ := four_cells D2
            have kD2_l := lies.lt D2
            go_wp2_with fail
            clear kD2_0 kD2_1 kD2_2 kD2_3 kD2_l
            have hA := bound.up1 w8 (.cells #[.int .i64 c0, .int .i64 c1, .int .i64 c2, .int .i64 c3, .int .i64 c4, .int .i64 c5] 24)
            have D5 := lies.made w8 24 #[.int .i64 c0, .int .i64 c1, .int .i64 c2, .int .i64 c3, .int .i64 c4, .int .i64 c5]
            replace D0 := lies.on_call D0 hA
            replace D1 := lies.on_call D1 hA
            replace D2 := lies.on_call D2 hA
            replace D3 := lies.on_call D3 hA
            replace D4 := lies.on_call D4 hA
            replace P0 := P0.on hA
            replace DB := later DB hA
            clear hA
            generalize w8.heap.size = XD5 at D5 ⊢
            generalize w8.alloc (.cells #[.int .i64 c0, .int .i64 c1, .int .i64 c2, .int .i64 c3, .int .i64 c4, .int .i64 c5] 24) = v9 at D0 D1 D2 D3 D4 D5 P0 DB ⊢
            refine (within_is pc pd fr true tt false false v9 (HF.out pc (by simp)) HM2.out HW.out).mono ?_
            rintro e w10 ⟨rfl, hB⟩
            replace D0 := lies.on_call D0 hB
            replace D1 := lies.on_call D1 hB
            replace D2 := lies.on_call D2 hB
            replace D3 := lies.on_call D3 hB
            replace D4 := lies.on_call D4 hB
            replace D5 := lies.on_call D5 hB
            replace P0 := P0.on hB
            replace DB := later DB hB
            clear hB
            have h6 : inS (winS fr tt) pc pd = false := by simpa using H6.out
            have h6 : inS (fr, true, tt, false, false) pc pd = false := h6
            rw [h6]
            clear h6 H6
            go_wp2_with fail
            go_ret
            exact ⟨rfl, DB⟩
          · skip
            have HW := Lib.hid mw
            have TC := Lib.hid tc
            have HK := Lib.hid k0
            clear mw tc k0 HQ
            obtain ⟨⟨kD2_0, kD2_1, kD2_2, kD2_3⟩, -⟩ := four_cells D2
            have kD2_l := lies.lt D2
            go_wp2_with fail
            clear kD2_0 kD2_1 kD2_2 kD2_3 kD2_l
            have hA := bound.up1 w8 (.cells #[.int .i64 c0, .int .i64 c1, .int .i64 c2, .int .i64 c3, .int .i64 c4, .int .i64 c5] 24)
            have D5 := lies.made w8 24 #[.int .i64 c0, .int .i64 c1, .int .i64 c2, .int .i64 c3, .int .i64 c4, .int .i64 c5]
            replace D0 := lies.on_call D0 hA
            replace D1 := lies.on_call D1 hA
            replace D2 := lies.on_call D2 hA
            replace D3 := lies.on_call D3 hA
            replace D4 := lies.on_call D4 hA
            replace P0 := P0.on hA
            replace DB := later DB hA
            clear hA
            generalize w8.heap.size = XD5 at D5 ⊢
            generalize w8.alloc (.cells #[.int .i64 c0, .int .i64 c1, .int .i64 c2, .int .i64 c3, .int .i64 c4, .int .i64 c5] 24) = v9 at D0 D1 D2 D3 D4 D5 P0 DB ⊢
            refine (has_any c0 c1 c2 c3 c4 c5 pa pb pc pd v9 P0 TC.out HF.out).mono ?_
            rintro e w10 ⟨hB, it2, g2, rfl, hX1⟩
            replace D0 := lies.on_call D0 hB
            replace D1 := lies.on_call D1 hB
            replace D2 := lies.on_call D2 hB
            replace D3 := lies.on_call D3 hB
            replace D4 := lies.on_call D4 hB
            replace D5 := lies.on_call D5 hB
            replace P0 := P0.on hB
            replace DB := later DB hB
            clear hB
            obtain ⟨rfl, e2⟩ := HK.out _ _ hX1
            clear hX1 HK
            have e3 : inS (winS fr tt) pc pd = it2 := by simpa using e2.symm
            have e3 : inS (fr, true, tt, false, false) pc pd = it2 := e3
            have H3 := Lib.hid e3
            clear e2 e3
            obtain ⟨⟨kD2_0, kD2_1, kD2_2, kD2_3⟩, -⟩ := four_cells D2
            have kD2_l := lies.lt D2
            go_wp2_with fail
            clear kD2_0 kD2_1 kD2_2 kD2_3 kD2_l
            refine (within_is pc pd fr true tt false false w10 (HF.out pc (by simp)) HM2.out HW.out).mono ?_
            rintro e w11 ⟨rfl, hB⟩
            replace D0 := lies.on_call D0 hB
            replace D1 := lies.on_call D1 hB
            replace D2 := lies.on_call D2 hB
            replace D3 := lies.on_call D3 hB
            replace D4 := lies.on_call D4 hB
            replace D5 := lies.on_call D5 hB
            replace P0 := P0.on hB
            replace DB := later DB hB
            clear hB
            rw [H3.out]
            clear H3
            cases it2
            all_goals
              go_wp2_with fail
              go_ret
              exact ⟨rfl, DB⟩
        · skip
          have HP := Lib.hid mp
          have TB := Lib.hid tb
          have HK := Lib.hid k0
          clear mp tb k0 HQ
          obtain ⟨⟨kD2_0, kD2_1, kD2_2, kD2_3⟩, -⟩ := four_cells D2
          have kD2_l := lies.lt D2
          go_wp2_with fail
          clear kD2_0 kD2_1 kD2_2 kD2_3 kD2_l
          have hA := bound.up1 w5 (.cells #[.int .i64 b0, .int .i64 b1, .int .i64 b2, .int .i64 b3, .int .i64 b4, .int .i64 b5] 24)
          have D4 := lies.made w5 24 #[.int .i64 b0, .int .i64 b1, .int .i64 b2, .int .i64 b3, .int .i64 b4, .int .i64 b5]
          replace D0 := lies.on_call D0 hA
          replace D1 := lies.on_call D1 hA
          replace D2 := lies.on_call D2 hA
          replace D3 := lies.on_call D3 hA
          replace P0 := P0.on hA
          replace DB := later DB hA
          clear hA
          generalize w5.heap.size = XD4 at D4 ⊢
          generalize w5.alloc (.cells #[.int .i64 b0, .int .i64 b1, .int .i64 b2, .int .i64 b3, .int .i64 b4, .int .i64 b5] 24) = v6 at D0 D1 D2 D3 D4 P0 DB ⊢
          refine (has_any b0 b1 b2 b3 b4 b5 pa pb pc pd v6 P0 TB.out HF.out).mono ?_
          rintro e w7 ⟨hB, it, g, rfl, hX1⟩
          replace D0 := lies.on_call D0 hB
          replace D1 := lies.on_call D1 hB
          replace D2 := lies.on_call D2 hB
          replace D3 := lies.on_call D3 hB
          replace D4 := lies.on_call D4 hB
          replace P0 := P0.on hB
          replace DB := later DB hB
          clear hB
          obtain ⟨rfl, e2⟩ := HK.out _ _ hX1
          clear hX1 HK
          have e3 : inS (lo, ls, hi, hs, op) x y = it := by simpa using e2.symm
          have H3 := Lib.hid e3
          clear e2 e3
          obtain ⟨kD3_0, kD3_1, -, -, -⟩ := lies.two D3
          have kD3_l := lies.lt D3
          obtain ⟨⟨kD1_0, kD1_1, kD1_2, kD1_3, kD1_4⟩, -⟩ := five_cells D1
          have kD1_l := lies.lt D1
          go_wp2_with fail
          clear kD3_0 kD3_1 kD3_l kD1_0 kD1_1 kD1_2 kD1_3 kD1_4 kD1_l
          refine (within_is x y lo ls hi hs op w7 HDD.out.2.2 HDD.out.1 HP.out).mono ?_
          rintro e w8 ⟨rfl, hB⟩
          replace D0 := lies.on_call D0 hB
          replace D1 := lies.on_call D1 hB
          replace D2 := lies.on_call D2 hB
          replace D3 := lies.on_call D3 hB
          replace D4 := lies.on_call D4 hB
          replace P0 := P0.on hB
          replace DB := later DB hB
          clear hB
          rw [H3.out]
          clear H3
          cases it
          all_goals
            obtain ⟨⟨kD0_0, kD0_1, kD0_2, kD0_3, kD0_4, kD0_5⟩, -⟩ := six_cells D0
            have kD0_l := lies.lt D0
            go_wp2_with fail
            clear kD0_0 kD0_1 kD0_2 kD0_3 kD0_4 kD0_5 kD0_l
            refine (window_any a0 a1 a2 a3 a4 a5 fr tt w8 P0 TA.out).mono ?_
            rintro e w9 ⟨hB, c0, c1, c2, c3, c4, c5, j, rfl, hX1⟩
            replace D0 := lies.on_call D0 hB
            replace D1 := lies.on_call D1 hB
            replace D2 := lies.on_call D2 hB
            replace D3 := lies.on_call D3 hB
            replace D4 := lies.on_call D4 hB
            replace P0 := P0.on hB
            replace DB := later DB hB
            clear hB
            have HQ := Lib.hid (window_point (one := true) TA.out HZ.out HM1.out HM2.out (by simpa using H1.out) hX1)
            clear hX1
            rcases HQ.out with (rfl | rfl) | ⟨mw, ⟨rfl, e6⟩ | ⟨rfl, tc, k0⟩⟩
            · skip
              clear HQ
              go_wp2_with fail
              go_ret
              exact ⟨rfl, lies.frame_up DB _⟩
            · skip
              clear HQ
              go_wp2_with fail
              go_ret
              exact ⟨rfl, lies.frame_up DB _⟩
            · skip
              have HW := Lib.hid mw
              have H6 := Lib.hid e6
              clear mw e6 HQ
              obtain ⟨⟨kD2_0, kD2_1, kD2_2, kD2_3⟩, -⟩ := four_cells D2
              have kD2_l := lies.lt D2
              go_wp2_with fail
              clear kD2_0 kD2_1 kD2_2 kD2_3 kD2_l
              have hA := bound.up1 w9 (.cells #[.int .i64 c0, .int .i64 c1, .int .i64 c2, .int .i64 c3, .int .i64 c4, .int .i64 c5] 24)
              have D5 := lies.made w9 24 #[.int .i64 c0, .int .i64 c1, .int .i64 c2, .int .i64 c3, .int .i64 c4, .int .i64 c5]
              replace D0 := lies.on_call D0 hA
              replace D1 := lies.on_call D1 hA
              replace D2 := lies.on_call D2 hA
              replace D3 := lies.on_call D3 hA
              replace D4 := lies.on_call D4 hA
              replace P0 := P0.on hA
              replace DB := later DB hA
              clear hA
              generalize w9.heap.size = XD5 at D5 ⊢
              generalize w9.alloc (.cells #[.int .i64 c0, .int .i64 c1, .int .i64 c2, .int .i64 c3, .int .i64 c4, .int .i64 c5] 24) = v10 at D0 D1 D2 D3 D4 D5 P0 DB ⊢
              refine (within_is pc pd fr true tt false false v10 (HF.out pc (by simp)) HM2.out HW.out).mono ?_
              rintro e w11 ⟨rfl, hB⟩
              replace D0 := lies.on_call D0 hB
              replace D1 := lies.on_call D1 hB
              replace D2 := lies.on_call D2 hB
              replace D3 := lies.on_call D3 hB
              replace D4 := lies.on_call D4 hB
              replace D5 := lies.on_call D5 hB
              replace P0 := P0.on hB
              replace DB := later DB hB
              clear hB
              have h6 : inS (winS fr tt) pc pd = false := by simpa using H6.out
              have h6 : inS (fr, true, tt, false, false) pc pd = false := h6
              rw [h6]
              clear h6 H6
              go_wp2_with fail
              go_ret
              exact ⟨rfl, DB⟩
            · skip
              have HW := Lib.hid mw
              have TC := Lib.hid tc
              have HK := Lib.hid k0
              clear mw tc k0 HQ
              obtain ⟨⟨kD2_0, kD2_1, kD2_2, kD2_3⟩, -⟩ := four_cells D2
              have kD2_l := lies.lt D2
              go_wp2_with fail
              clear kD2_0 kD2_1 kD2_2 kD2_3 kD2_l
              have hA := bound.up1 w9 (.cells #[.int .i64 c0, .int .i64 c1, .int .i64 c2, .int .i64 c3, .int .i64 c4, .int .i64 c5] 24)
              have D5 := lies.made w9 24 #[.int .i64 c0, .int .i64 c1, .int .i64 c2, .int .i64 c3, .int .i64 c4, .int .i64 c5]
              replace D0 := lies.on_call D0 hA
              replace D1 := lies.on_call D1 hA
              replace D2 := lies.on_call D2 hA
              replace D3 := lies.on_call D3 hA
              replace D4 := lies.on_call D4 hA
              replace P0 := P0.on hA
              replace DB := later DB hA
              clear hA
              generalize w9.heap.size = XD5 at D5 ⊢
              generalize w9.alloc (.cells #[.int .i64 c0, .int .i64 c1, .int .i64 c2, .int .i64 c3, .int .i64 c4, .int .i64 c5] 24) = v10 at D0 D1 D2 D3 D4 D5 P0 DB ⊢
              refine (has_any c0 c1 c2 c3 c4 c5 pa pb pc pd v10 P0 TC.out HF.out).mono ?_
              rintro e w11 ⟨hB, it2, g2, rfl, hX1⟩
              replace D0 := lies.on_call D0 hB
              replace D1 := lies.on_call D1 hB
              replace D2 := lies.on_call D2 hB
              replace D3 := lies.on_call D3 hB
              replace D4 := lies.on_call D4 hB
              replace D5 := lies.on_call D5 hB
              replace P0 := P0.on hB
              replace DB := later DB hB
              clear hB
              obtain ⟨rfl, e2⟩ := HK.out _ _ hX1
              clear hX1 HK
              have e3 : inS (winS fr tt) pc pd = it2 := by simpa using e2.symm
              have e3 : inS (fr, true, tt, false, false) pc pd = it2 := e3
              have H3 := Lib.hid e3
              clear e2 e3
              obtain ⟨⟨kD2_0, kD2_1, kD2_2, kD2_3⟩, -⟩ := four_cells D2
              have kD2_l := lies.lt D2
              go_wp2_with fail
              clear kD2_0 kD2_1 kD2_2 kD2_3 kD2_l
              refine (within_is pc pd fr true tt false false w11 (HF.out pc (by simp)) HM2.out HW.out).mono ?_
              rintro e w12 ⟨rfl, hB⟩
              replace D0 := lies.on_call D0 hB
              replace D1 := lies.on_call D1 hB
              replace D2 := lies.on_call D2 hB
              replace D3 := lies.on_call D3 hB
              replace D4 := lies.on_call D4 hB
              replace D5 := lies.on_call D5 hB
              replace P0 := P0.on hB
              replace DB := later DB hB
              clear hB
              rw [H3.out]
              clear H3
              cases it2
              all_goals
                go_wp2_with fail
                go_ret
                exact ⟨rfl, DB⟩
  · skip
    have hbe : (e == 0) = false := by simpa using he
    have hne : (e != 0) = true := by simpa using he
    clear he HO HD
    go_wp2_with fail
    go_ret
    exact ⟨rfl, lies.frame_up DB _⟩

set_option maxRecDepth 100000 in
theorem lifted (os : Os) (started : os.Started) (H : Type) (enc : TypeId × Value → H) :
    ReturnsInHanded {} Tryd.checked os 5 .any (fun w args => (Rows.winPointsSpec.pre enc Tryd.prog Tryd.f5 [] false w args ∧ laidMetH Tryd.prog zopen.places w) ∧ sizedMet enc Tryd.prog Tryd.f5 (OpenSpec.ofChange Rows.winPointsSpec) false w args) (Rows.winPointsSpec.post enc Tryd.prog Tryd.f5 false true false false) := by
  refine returnsInHanded_of_change_and (C := Tryd.checked) (X := fun w _ => laidMetH Tryd.prog zopen.places w) (fun _ _ _ hh h => h.of_heap hh) law.own started (by kernel_rfl) Tryd.func5
    (ChangeSpec.witness_shaped (enc := enc) (C := Tryd.checked) (os := os) (X := fun w _ => laidMetH Tryd.prog zopen.places w) false (World.doorLaid Tryd.prog 400 os) #[.agg #[.int .i64 0, .int .i64 0, .int .i64 0, .int .i64 0, .int .i64 0, .int .i64 0], .agg #[.int .i64 0, .bool false, .int .i64 0, .bool false, .bool false], .int .i64 0, .int .i64 0, .agg #[.int .i64 0, .int .i64 0, .int .i64 0, .int .i64 0]] 8 rfl (World.shaped_of_RefB (by kernel_rfl) (by kernel_rfl)) (by kernel_rfl) (by kernel_rfl) (by kernel_rfl) (zopen.door_met os _)) ?_
  intro W base args ds gs before hval0 hW _ _ hL _
  have hval : ∀ (j : Nat) t v, Tryd.f5.params[j]? = some t → args[j]? = some v → Value.okWide Tryd.prog W .any base t v := hval0
  have hW' := hW
  obtain ⟨p, q, hA0, hV, rfl, _, _⟩ := hW
  have hA : DataW.TrodAll enc Tryd.prog W 0 (fun _ => true) true Tryd.f5.params.toList args.toList ds p := hA0
  rw [Tryd.params5] at hA hval
  obtain ⟨v0, vs0, d0, ds0, p0, q0, hargs, rfl, rfl, h0, r0⟩ := trodAll_cons hA
  obtain ⟨v1, vs1, d1, ds1, p1, q1, rfl, rfl, rfl, h1, r1⟩ := trodAll_cons r0
  obtain ⟨v2, vs2, d2, ds2, p2, q2, rfl, rfl, rfl, h2, r2⟩ := trodAll_cons r1
  obtain ⟨v3, vs3, d3, ds3, p3, q3, rfl, rfl, rfl, h3, r3⟩ := trodAll_cons r2
  obtain ⟨v4, vs4, d4, ds4, p4, q4, rfl, rfl, rfl, h4, r4⟩ := trodAll_cons r3
  obtain ⟨rfl, rfl, rfl⟩ := trodAll_nil r4
  obtain rfl : args = #[v0, v1, v2, v3, v4] := by cases args; simp_all
  obtain ⟨z00, z01, z02, z03, z04, z05, rfl, w0⟩ := zopen.open_zone (hval 0 24 v0 rfl rfl) h0
  obtain ⟨lo1, ls1, hi1, hs1, op1, rfl⟩ := tlaw.open_span (hval 1 31 v1 rfl rfl) h1
  obtain ⟨m2, rfl, rfl, rfl, x2⟩ := open_int Tryd.underlying3 (hval 2 3 v2 rfl rfl) h2
  obtain ⟨m3, rfl, rfl, rfl, x3⟩ := open_int Tryd.underlying3 (hval 3 3 v3 rfl rfl) h3
  obtain ⟨a4, b4, c4, e4, rfl, w4⟩ := zopen.open_point (hval 4 44 v4 rfl rfl) h4
  refine (walk z00 z01 z02 z03 z04 z05 lo1 ls1 hi1 hs1 op1 m2 m3 a4 b4 c4 e4 W (fun x hx => ⟨law.wf_lo (w0 x hx), law.wf_hi (w0 x hx)⟩) (fun x hx => ⟨law.wf_lo (w4 x hx), law.wf_hi (w4 x hx)⟩) ⟨law.wf_lo x2, law.wf_hi x2⟩ ⟨law.wf_lo x3, law.wf_hi x3⟩ (zopen.laid_pl hL)).mono fun e W' ⟨he, hB⟩ => ?_
  subst he
  exact ⟨_, rfl, law.post_true law.laidOut (by kernel_rfl) rfl Tryd.underlying4 rfl hW' (fun h => by subst h; rfl) hB⟩

theorem proved : Rows.WinPointsSaid :=
  OpenClaim.holds_of_wide 5 Tryd.f5 rfl rfl rfl rfl rfl rfl rfl ⟨rfl, rfl, rfl, rfl, rfl⟩ rfl rfl rfl rfl rfl (by kernel_rfl) Tryd.func5 (by kernel_rfl)
    (of_decide_eq_true (by kernel_rfl)) (by unfold Func.isWrapper; first | (rw [if_pos (by decide +kernel)]; kernel_rfl) | (rw [if_neg (by decide +kernel)]; exact ⟨rfl, rfl⟩))
    (fun os started H enc _ => lifted os started H enc)
theorem card : Rows.WinPointsCardSaid :=
  Claim7.holds_tied_plain_at .later [] [.data] true (true, "0e35938ca2f85e4d4a747e9ff2f0a86df4808d42b014bcedf4017d6c199ae299") false
    proved (fun _ h => by cases h) (by kernel_rfl) (fun _ h => by cases h) winPoints_row_tie rfl ⟨rfl, rfl⟩ (by kernel_rfl) rfl
    (fun f fn hf hfn => by
      obtain rfl : f = 5 := Option.some.inj ((show Tryd.prog.funcNamed "rallentando/rallentandolaw10.WinPoints" = some 5 by kernel_rfl).symm.trans hf) |>.symm
      obtain rfl : fn = Tryd.f5 := (Option.some.inj (Tryd.func5.symm.trans hfn)).symm
      exact ⟨by kernel_rfl, fun j t ht => by
        rw [Tryd.params5] at ht
        have hm : t ∈ [24, 31, 3, 3, 44] := by simpa using Array.mem_of_getElem? ht
        have hall : ([24, 31, 3, 3, 44].all fun u => !Tryd.prog.wantsStandIn u) = true := by kernel_rfl
        exact (show Tryd.prog.wantsStandIn t = false by simpa using List.all_eq_true.1 hall t hm)⟩)
    (by kernel_rfl)
#print axioms card
end Go.Proofs.YtcaoooddmmhieaaDoor.winPoints
