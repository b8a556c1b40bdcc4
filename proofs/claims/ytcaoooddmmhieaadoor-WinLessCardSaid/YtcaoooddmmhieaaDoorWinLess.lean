/-
  WinLess answers true for every two zones, span and three numbers; the listed variable reads as the program lays it.
-/
import Derived.Test.YtcaoooddmmhieaaDoorWinM
import Derived.Test.YtcaoooddmmhieaaDoorCards
import Derived.Test.YtcaoooddmmhieaaDoorTie
import Derived.BigQuiet
namespace Go.Proofs.YtcaoooddmmhieaaDoor.winLess
open Go.Joins Go.ChangeShapes Go.WideShapes Go.ChangeAt Go.RowKit num rat dbm Go.Proofs.YtcaoooddmmhieaaDoor.tight Go.Proofs.YtcaoooddmmhieaaDoor.incl Go.Proofs.YtcaoooddmmhieaaDoor.plaw Go.Proofs.YtcaoooddmmhieaaDoor.zopen Go.Proofs.YtcaoooddmmhieaaDoor.zone Go.Proofs.YtcaoooddmmhieaaDoor.zlaw Go.Proofs.YtcaoooddmmhieaaDoor.win Go.Proofs.YtcaoooddmmhieaaDoor.wlaw
open bound hiding up
open Go.Proofs.YtcaoooddmmhieaaDoor.comp (five_cells)
set_option linter.unusedVariables false
set_option linter.unusedSimpArgs false

theorem zero_tops : Tops zero6 := by unfold Tops zero6; decide
theorem cut_rt {z w x : List Int} {f : Int} (tz : Tops z) (h : CutR z w x f) : Tops x := by
  rcases h with ⟨_, rfl, _⟩ | ⟨_, _, rfl, _⟩ | ⟨_, _, rfl, _⟩
  · exact zero_tops
  · exact zero_tops
  · exact short_tops (clT_tops (lesT_tops (full_tops tz) _))
theorem within_rt {z x : List Int} {s : Sp} {f : Int} (tz : Tops z) (h : WithinR z s x f) : Tops x := by
  rcases h with ⟨_, rfl, _⟩ | ⟨_, _, rfl, _⟩ | ⟨_, _, h⟩
  · exact zero_tops
  · exact zero_tops
  · exact cut_rt tz h
theorem window_rt {z x : List Int} {s t : Int} {f : Int} (tz : Tops z) (h : WindowR z s t x f) : Tops x := by
  rcases h with ⟨_, rfl, _⟩ | ⟨_, _, rfl, _⟩ | ⟨_, _, h⟩
  · exact zero_tops
  · exact zero_tops
  · exact cut_rt tz h
theorem within_ok {z x : List Int} {s : Sp} (h : WithinR z s x 0) : MayZ z ∧ MayP s ∧ CutR z (diffZ s) x 0 := by
  rcases h with ⟨_, _, n⟩ | ⟨_, _, _, n⟩ | ⟨a, b, c⟩
  · exact absurd n (by decide)
  · exact absurd n (by decide)
  · exact ⟨a, b, c⟩
theorem window_ok {z x : List Int} {s t : Int} (h : WindowR z s t x 0) : MayZ z ∧ MayW s t ∧ CutR z (lateZ (winS s t)) x 0 := by
  rcases h with ⟨_, _, n⟩ | ⟨_, _, _, n⟩ | ⟨a, b, c⟩
  · exact absurd n (by decide)
  · exact absurd n (by decide)
  · exact ⟨a, b, c⟩
theorem window_less {a b x y : List Int} {fr tt g : Int} (ta : Tops a) (tb : Tops b) (mb : MayZ b) (hin : inV 3 (fullT a) (fullT b)) (hx : WindowR a fr tt x 0) (hy : WindowR b fr tt y g) : g ≠ 6 ∧ (g = 0 → MayZ x ∧ MayZ y ∧ inV 3 (fullT x) (fullT y)) := by
  obtain ⟨ma, mw, cx⟩ := window_ok hx
  exact cut_in ta tb mb.may (late_may (win_may mw.1 mw.2.1 (Int.le_of_lt mw.2.2))) ((in_le ma).1 hin) (own_le _) cx (window_cut mb mw hy)
theorem within_less {a b x y : List Int} {s : Sp} {g : Int} (ta : Tops a) (tb : Tops b) (mb : MayZ b) (hin : inV 3 (fullT a) (fullT b)) (hx : WithinR a s x 0) (hy : WithinR b s y g) : g ≠ 6 ∧ (g = 0 → MayZ x ∧ MayZ y ∧ inV 3 (fullT x) (fullT y)) := by
  obtain ⟨ma, mp, cx⟩ := within_ok hx
  exact cut_in ta tb mb.may (diff_may mp) ((in_le ma).1 hin) (own_le _) cx (within_cut mb mp hy)
theorem wide_less {a x l : List Int} {fr tt mo j : Int} (ta : Tops a) (hx : WindowR a fr tt x 0) (hl : WindowR a fr mo l j) (h : ¬ mo < tt) : j ≠ 6 ∧ (j = 0 → MayZ x ∧ MayZ l ∧ inV 3 (fullT x) (fullT l)) := by
  obtain ⟨ma, mw, cx⟩ := window_ok hx
  rcases hl with ⟨n, _⟩ | ⟨_, _, _, e⟩ | ⟨_, mv, cl⟩
  · exact (n ma).elim
  · rw [e]; exact ⟨by decide, fun q => absurd q (by decide)⟩
  · exact cut_in ta ta ma.may (late_may (win_may mv.1 mv.2.1 (Int.le_of_lt mv.2.2))) (own_le _) (late_le (Int.le_refl _) (Int.not_lt.1 h)) cx cl

set_option maxRecDepth 100000 in
set_option maxHeartbeats 32000000 in
theorem walk (a0 a1 a2 a3 a4 a5 b0 b1 b2 b3 b4 b5 lo : Int) (ls : Bool) (hi : Int) (hs op : Bool) (fr tt mo : Int) (w : World) (ha : ∀ x ∈ [a0, a1, a2, a3, a4, a5], -9223372036854775808 ≤ x ∧ x ≤ 9223372036854775807) (hb : ∀ x ∈ [b0, b1, b2, b3, b4, b5], -9223372036854775808 ≤ x ∧ x ≤ 9223372036854775807) (hfr : -9223372036854775808 ≤ fr ∧ fr ≤ 9223372036854775807) (htt : -9223372036854775808 ≤ tt ∧ tt ≤ 9223372036854775807) (hmo : -9223372036854775808 ≤ mo ∧ mo ≤ 9223372036854775807) (hP : Pl w) : Calls Tryd.prog 8 #[.agg #[.int .i64 a0, .int .i64 a1, .int .i64 a2, .int .i64 a3, .int .i64 a4, .int .i64 a5], .agg #[.int .i64 b0, .int .i64 b1, .int .i64 b2, .int .i64 b3, .int .i64 b4, .int .i64 b5], .agg #[.int .i64 lo, .bool ls, .int .i64 hi, .bool hs, .bool op], .int .i64 fr, .int .i64 tt, .int .i64 mo] w fun e w' => e = .returned (.bool true) ∧ Below w.heap.size w w' := by
  have TA := Lib.hid (show Tops [a0, a1, a2, a3, a4, a5] from fun x hx => (ha x hx).2)
  have TB := Lib.hid (show Tops [b0, b1, b2, b3, b4, b5] from fun x hx => (hb x hx).2)
  have X : ∃ w0, w0 = ((w.alloc (.cells #[.int .i64 a0, .int .i64 a1, .int .i64 a2, .int .i64 a3, .int .i64 a4, .int .i64 a5] 24)).alloc (.cells #[.int .i64 b0, .int .i64 b1, .int .i64 b2, .int .i64 b3, .int .i64 b4, .int .i64 b5] 24)).alloc (.cells #[.int .i64 lo, .bool ls, .int .i64 hi, .bool hs, .bool op] 31) := ⟨_, rfl⟩
  obtain ⟨w0, hX⟩ := X
  have DB : Below w.heap.size w w0 := by rw [hX]; exact bound.up3 _ _ _ _
  have D0 : lies.Lies w0 w.heap.size 24 #[.int .i64 a0, .int .i64 a1, .int .i64 a2, .int .i64 a3, .int .i64 a4, .int .i64 a5] := by rw [hX]; exact lies.on_alloc (lies.on_alloc (lies.made _ _ _) _) _
  have D1 : lies.Lies w0 (w.heap.size + 1) 24 #[.int .i64 b0, .int .i64 b1, .int .i64 b2, .int .i64 b3, .int .i64 b4, .int .i64 b5] := by rw [hX]; exact lies.on_alloc (lies.made_at _ _ _ _ (by simp)) _
  have D2 : lies.Lies w0 (w.heap.size + 1 + 1) 31 #[.int .i64 lo, .bool ls, .int .i64 hi, .bool hs, .bool op] := by rw [hX]; exact lies.made_at _ _ _ _ (by simp)
  have P0 := hP.on DB
  clear hP ha hb hfr htt hmo
  go_enter Tryd.func8, Tryd.ntmps8
  go_wp2_with fail
  rw [← hX]
  clear hX
  refine (alive_yes w0 P0).mono ?_
  rintro e w1 ⟨rfl, hB⟩
  replace D0 := lies.on_call D0 hB
  replace D1 := lies.on_call D1 hB
  replace D2 := lies.on_call D2 hB
  replace P0 := P0.on hB
  replace DB := later DB hB
  clear hB
  obtain ⟨⟨kD0_0, kD0_1, kD0_2, kD0_3, kD0_4, kD0_5⟩, -⟩ := six_cells D0
  have kD0_l := lies.lt D0
  obtain ⟨⟨kD1_0, kD1_1, kD1_2, kD1_3, kD1_4, kD1_5⟩, -⟩ := six_cells D1
  have kD1_l := lies.lt D1
  go_wp2_with fail
  clear kD0_0 kD0_1 kD0_2 kD0_3 kD0_4 kD0_5 kD0_l kD1_0 kD1_1 kD1_2 kD1_3 kD1_4 kD1_5 kD1_l
  refine (zin_any a0 a1 a2 a3 a4 a5 b0 b1 b2 b3 b4 b5 w1 P0 TA.out TB.out).mono ?_
  rintro e w2 ⟨hB, r, e, rfl, hX1⟩
  replace D0 := lies.on_call D0 hB
  replace D1 := lies.on_call D1 hB
  replace D2 := lies.on_call D2 hB
  replace P0 := P0.on hB
  replace DB := later DB hB
  clear hB
  have HI := Lib.hid hX1
  clear hX1
  obtain ⟨⟨kD0_0, kD0_1, kD0_2, kD0_3, kD0_4, kD0_5⟩, -⟩ := six_cells D0
  have kD0_l := lies.lt D0
  go_wp2_with fail
  clear kD0_0 kD0_1 kD0_2 kD0_3 kD0_4 kD0_5 kD0_l
  refine (window_any a0 a1 a2 a3 a4 a5 fr tt w2 P0 TA.out).mono ?_
  rintro e w3 ⟨hB, x0, x1, x2, x3, x4, x5, f, rfl, hX1⟩
  replace D0 := lies.on_call D0 hB
  replace D1 := lies.on_call D1 hB
  replace D2 := lies.on_call D2 hB
  replace P0 := P0.on hB
  replace DB := later DB hB
  clear hB
  have HX := Lib.hid hX1
  have TX := Lib.hid (window_rt TA.out hX1)
  clear hX1
  obtain ⟨⟨kD1_0, kD1_1, kD1_2, kD1_3, kD1_4, kD1_5⟩, -⟩ := six_cells D1
  have kD1_l := lies.lt D1
  go_wp2_with fail
  clear kD1_0 kD1_1 kD1_2 kD1_3 kD1_4 kD1_5 kD1_l
  have hA := bound.up1 w3 (.cells #[.int .i64 x0, .int .i64 x1, .int .i64 x2, .int .i64 x3, .int .i64 x4, .int .i64 x5] 24)
  have D3 := lies.made w3 24 #[.int .i64 x0, .int .i64 x1, .int .i64 x2, .int .i64 x3, .int .i64 x4, .int .i64 x5]
  replace D0 := lies.on_call D0 hA
  replace D1 := lies.on_call D1 hA
  replace D2 := lies.on_call D2 hA
  replace P0 := P0.on hA
  replace DB := later DB hA
  clear hA
  generalize w3.heap.size = XD3 at D3 ⊢
  generalize w3.alloc (.cells #[.int .i64 x0, .int .i64 x1, .int .i64 x2, .int .i64 x3, .int .i64 x4, .int .i64 x5] 24) = v4 at D0 D1 D2 D3 P0 DB ⊢
  refine (window_any b0 b1 b2 b3 b4 b5 fr tt v4 P0 TB.out).mono ?_
  rintro e w5 ⟨hB, y0, y1, y2, y3, y4, y5, g, rfl, hX1⟩
  replace D0 := lies.on_call D0 hB
  replace D1 := lies.on_call D1 hB
  replace D2 := lies.on_call D2 hB
  replace D3 := lies.on_call D3 hB
  replace P0 := P0.on hB
  replace DB := later DB hB
  clear hB
  have HY := Lib.hid hX1
  have TY := Lib.hid (window_rt TB.out hX1)
  clear hX1
  obtain ⟨⟨kD0_0, kD0_1, kD0_2, kD0_3, kD0_4, kD0_5⟩, -⟩ := six_cells D0
  have kD0_l := lies.lt D0
  obtain ⟨⟨kD2_0, kD2_1, kD2_2, kD2_3, kD2_4⟩, -⟩ := five_cells D2
  have kD2_l := lies.lt D2
  go_wp2_with fail
  clear kD0_0 kD0_1 kD0_2 kD0_3 kD0_4 kD0_5 kD0_l kD2_0 kD2_1 kD2_2 kD2_3 kD2_4 kD2_l
  have hA := bound.up1 w5 (.cells #[.int .i64 y0, .int .i64 y1, .int .i64 y2, .int .i64 y3, .int .i64 y4, .int .i64 y5] 24)
  have D4 := lies.made w5 24 #[.int .i64 y0, .int .i64 y1, .int .i64 y2, .int .i64 y3, .int .i64 y4, .int .i64 y5]
  replace D0 := lies.on_call D0 hA
  replace D1 := lies.on_call D1 hA
  replace D2 := lies.on_call D2 hA
  replace D3 := lies.on_call D3 hA
  replace P0 := P0.on hA
  replace DB := later DB hA
  clear hA
  generalize w5.heap.size = XD4 at D4 ⊢
  generalize w5.alloc (.cells #[.int .i64 y0, .int .i64 y1, .int .i64 y2, .int .i64 y3, .int .i64 y4, .int .i64 y5] 24) = v6 at D0 D1 D2 D3 D4 P0 DB ⊢
  refine (within_any a0 a1 a2 a3 a4 a5 lo ls hi hs op v6 P0 TA.out).mono ?_
  rintro e w7 ⟨hB, v0, v1, v2, v3, v4, v5, h, rfl, hX1⟩
  replace D0 := lies.on_call D0 hB
  replace D1 := lies.on_call D1 hB
  replace D2 := lies.on_call D2 hB
  replace D3 := lies.on_call D3 hB
  replace D4 := lies.on_call D4 hB
  replace P0 := P0.on hB
  replace DB := later DB hB
  clear hB
  have HV := Lib.hid hX1
  have TV := Lib.hid (within_rt TA.out hX1)
  clear hX1
  obtain ⟨⟨kD1_0, kD1_1, kD1_2, kD1_3, kD1_4, kD1_5⟩, -⟩ := six_cells D1
  have kD1_l := lies.lt D1
  obtain ⟨⟨kD2_0, kD2_1, kD2_2, kD2_3, kD2_4⟩, -⟩ := five_cells D2
  have kD2_l := lies.lt D2
  go_wp2_with fail
  clear kD1_0 kD1_1 kD1_2 kD1_3 kD1_4 kD1_5 kD1_l kD2_0 kD2_1 kD2_2 kD2_3 kD2_4 kD2_l
  have hA := bound.up1 w7 (.cells #[.int .i64 v0, .int .i64 v1, .int .i64 v2, .int .i64 v3, .int .i64 v4, .int .i64 v5] 24)
  have D5 := lies.made w7 24 #[.int .i64 v0, .int .i64 v1, .int .i64 v2, .int .i64 v3, .int .i64 v4, .int .i64 v5]
  replace D0 := lies.on_call D0 hA
  replace D1 := lies.on_call D1 hA
  replace D2 := lies.on_call D2 hA
  replace D3 := lies.on_call D3 hA
  replace D4 := lies.on_call D4 hA
  replace P0 := P0.on hA
  replace DB := later DB hA
  clear hA
  generalize w7.heap.size = XD5 at D5 ⊢
  generalize w7.alloc (.cells #[.int .i64 v0, .int .i64 v1, .int .i64 v2, .int .i64 v3, .int .i64 v4, .int .i64 v5] 24) = v8 at D0 D1 D2 D3 D4 D5 P0 DB ⊢
  refine (within_any b0 b1 b2 b3 b4 b5 lo ls hi hs op v8 P0 TB.out).mono ?_
  rintro e w9 ⟨hB, u0, u1, u2, u3, u4, u5, i, rfl, hX1⟩
  replace D0 := lies.on_call D0 hB
  replace D1 := lies.on_call D1 hB
  replace D2 := lies.on_call D2 hB
  replace D3 := lies.on_call D3 hB
  replace D4 := lies.on_call D4 hB
  replace D5 := lies.on_call D5 hB
  replace P0 := P0.on hB
  replace DB := later DB hB
  clear hB
  have HU := Lib.hid hX1
  have TU := Lib.hid (within_rt TB.out hX1)
  clear hX1
  by_cases he : e = 0
  · skip
    subst he
    obtain ⟨hma, hmb, hr⟩ : MayZ [a0, a1, a2, a3, a4, a5] ∧ MayZ [b0, b1, b2, b3, b4, b5] ∧ (r = true ↔ inV 3 (fullT [a0, a1, a2, a3, a4, a5]) (fullT [b0, b1, b2, b3, b4, b5])) := by
      rcases HI.out with ⟨_, _, n⟩ | ⟨p, q, _, k⟩
      · exact absurd n (by decide)
      · exact ⟨p, q, k⟩
    have HMB := Lib.hid hmb
    clear hma hmb HI
    cases r with
    | true =>
      have HIN := Lib.hid (hr.1 rfl)
      clear hr
      by_cases hf : f = 0
      · skip
        subst hf
        have HQ := Lib.hid (window_less TA.out TB.out HMB.out HIN.out HX.out HY.out)
        by_cases hg : g = 0
        · skip
          subst hg
          have HK := Lib.hid (HQ.out.2 rfl)
          clear HQ HY
          obtain ⟨⟨kD3_0, kD3_1, kD3_2, kD3_3, kD3_4, kD3_5⟩, -⟩ := six_cells D3
          have kD3_l := lies.lt D3
          obtain ⟨⟨kD4_0, kD4_1, kD4_2, kD4_3, kD4_4, kD4_5⟩, -⟩ := six_cells D4
          have kD4_l := lies.lt D4
          go_wp2_with fail
          clear kD3_0 kD3_1 kD3_2 kD3_3 kD3_4 kD3_5 kD3_l kD4_0 kD4_1 kD4_2 kD4_3 kD4_4 kD4_5 kD4_l
          have hA := bound.up1 w9 (.cells #[.int .i64 u0, .int .i64 u1, .int .i64 u2, .int .i64 u3, .int .i64 u4, .int .i64 u5] 24)
          have D6 := lies.made w9 24 #[.int .i64 u0, .int .i64 u1, .int .i64 u2, .int .i64 u3, .int .i64 u4, .int .i64 u5]
          replace D0 := lies.on_call D0 hA
          replace D1 := lies.on_call D1 hA
          replace D2 := lies.on_call D2 hA
          replace D3 := lies.on_call D3 hA
          replace D4 := lies.on_call D4 hA
          replace D5 := lies.on_call D5 hA
          replace P0 := P0.on hA
          replace DB := later DB hA
          clear hA
          generalize w9.heap.size = XD6 at D6 ⊢
          generalize w9.alloc (.cells #[.int .i64 u0, .int .i64 u1, .int .i64 u2, .int .i64 u3, .int .i64 u4, .int .i64 u5] 24) = v10 at D0 D1 D2 D3 D4 D5 D6 P0 DB ⊢
          refine (lies_is x0 x1 x2 x3 x4 x5 y0 y1 y2 y3 y4 y5 v10 P0 TX.out TY.out).mono ?_
          rintro e w11 ⟨hB, q, rfl, hq1, hq2⟩
          replace D0 := lies.on_call D0 hB
          replace D1 := lies.on_call D1 hB
          replace D2 := lies.on_call D2 hB
          replace D3 := lies.on_call D3 hB
          replace D4 := lies.on_call D4 hB
          replace D5 := lies.on_call D5 hB
          replace D6 := lies.on_call D6 hB
          replace P0 := P0.on hB
          replace DB := later DB hB
          clear hB
          obtain rfl := hq2 HK.out
          clear hq1 hq2 HK
          by_cases hh : h = 0
          · skip
            subst hh
            have HQ := Lib.hid (within_less TA.out TB.out HMB.out HIN.out HV.out HU.out)
            by_cases hi0 : i = 0
            · skip
              subst hi0
              have HK := Lib.hid (HQ.out.2 rfl)
              clear HQ HU HV
              obtain ⟨⟨kD5_0, kD5_1, kD5_2, kD5_3, kD5_4, kD5_5⟩, -⟩ := six_cells D5
              have kD5_l := lies.lt D5
              obtain ⟨⟨kD6_0, kD6_1, kD6_2, kD6_3, kD6_4, kD6_5⟩, -⟩ := six_cells D6
              have kD6_l := lies.lt D6
              go_wp2_with fail
              clear kD5_0 kD5_1 kD5_2 kD5_3 kD5_4 kD5_5 kD5_l kD6_0 kD6_1 kD6_2 kD6_3 kD6_4 kD6_5 kD6_l
              refine (lies_is v0 v1 v2 v3 v4 v5 u0 u1 u2 u3 u4 u5 w11 P0 TV.out TU.out).mono ?_
              rintro e w12 ⟨hB, q, rfl, hq1, hq2⟩
              replace D0 := lies.on_call D0 hB
              replace D1 := lies.on_call D1 hB
              replace D2 := lies.on_call D2 hB
              replace D3 := lies.on_call D3 hB
              replace D4 := lies.on_call D4 hB
              replace D5 := lies.on_call D5 hB
              replace D6 := lies.on_call D6 hB
              replace P0 := P0.on hB
              replace DB := later DB hB
              clear hB
              obtain rfl := hq2 HK.out
              clear hq1 hq2 HK
              obtain ⟨⟨kD0_0, kD0_1, kD0_2, kD0_3, kD0_4, kD0_5⟩, -⟩ := six_cells D0
              have kD0_l := lies.lt D0
              go_wp2_with fail
              clear kD0_0 kD0_1 kD0_2 kD0_3 kD0_4 kD0_5 kD0_l
              refine (window_any a0 a1 a2 a3 a4 a5 fr mo w12 P0 TA.out).mono ?_
              rintro e w13 ⟨hB, l0, l1, l2, l3, l4, l5, j, rfl, hX1⟩
              replace D0 := lies.on_call D0 hB
              replace D1 := lies.on_call D1 hB
              replace D2 := lies.on_call D2 hB
              replace D3 := lies.on_call D3 hB
              replace D4 := lies.on_call D4 hB
              replace D5 := lies.on_call D5 hB
              replace D6 := lies.on_call D6 hB
              replace P0 := P0.on hB
              replace DB := later DB hB
              clear hB
              have HL := Lib.hid hX1
              have TL := Lib.hid (window_rt TA.out hX1)
              clear hX1
              by_cases hmt : mo < tt
              · skip
                clear HX HL TL
                go_wp2_with fail
                go_ret
                exact ⟨rfl, lies.frame_up DB _⟩
              · have HQ := Lib.hid (wide_less TA.out HX.out HL.out hmt)
                have hnm : ¬ mo < tt := hmt
                by_cases hj : j = 0
                · skip
                  subst hj
                  have HK := Lib.hid (HQ.out.2 rfl)
                  clear HQ
                  obtain ⟨⟨kD3_0, kD3_1, kD3_2, kD3_3, kD3_4, kD3_5⟩, -⟩ := six_cells D3
                  have kD3_l := lies.lt D3
                  go_wp2_with fail
                  clear kD3_0 kD3_1 kD3_2 kD3_3 kD3_4 kD3_5 kD3_l
                  have hA := bound.up1 w13 (.cells #[.int .i64 l0, .int .i64 l1, .int .i64 l2, .int .i64 l3, .int .i64 l4, .int .i64 l5] 24)
                  have D7 := lies.made w13 24 #[.int .i64 l0, .int .i64 l1, .int .i64 l2, .int .i64 l3, .int .i64 l4, .int .i64 l5]
                  replace D0 := lies.on_call D0 hA
                  replace D1 := lies.on_call D1 hA
                  replace D2 := lies.on_call D2 hA
                  replace D3 := lies.on_call D3 hA
                  replace D4 := lies.on_call D4 hA
                  replace D5 := lies.on_call D5 hA
                  replace D6 := lies.on_call D6 hA
                  replace P0 := P0.on hA
                  replace DB := later DB hA
                  clear hA
                  generalize w13.heap.size = XD7 at D7 ⊢
                  generalize w13.alloc (.cells #[.int .i64 l0, .int .i64 l1, .int .i64 l2, .int .i64 l3, .int .i64 l4, .int .i64 l5] 24) = v14 at D0 D1 D2 D3 D4 D5 D6 D7 P0 DB ⊢
                  refine (lies_is x0 x1 x2 x3 x4 x5 l0 l1 l2 l3 l4 l5 v14 P0 TX.out TL.out).mono ?_
                  rintro e w15 ⟨hB, q, rfl, hq1, hq2⟩
                  replace D0 := lies.on_call D0 hB
                  replace D1 := lies.on_call D1 hB
                  replace D2 := lies.on_call D2 hB
                  replace D3 := lies.on_call D3 hB
                  replace D4 := lies.on_call D4 hB
                  replace D5 := lies.on_call D5 hB
                  replace D6 := lies.on_call D6 hB
                  replace D7 := lies.on_call D7 hB
                  replace P0 := P0.on hB
                  replace DB := later DB hB
                  clear hB
                  obtain rfl := hq2 HK.out
                  clear hq1 hq2 HK HX HL TL hmt
                  go_wp2_with fail
                  go_ret
                  exact ⟨rfl, DB⟩
                · skip
                  have h6 := HQ.out.1
                  have hb6 : (j == 6) = false := by simpa using h6
                  have hn6 : (j != 6) = true := by simpa using h6
                  clear HQ h6
                  have hbj : (j == 0) = false := by simpa using hj
                  have hnj : (j != 0) = true := by simpa using hj
                  clear hj HX HL TL
                  go_wp2_with fail
                  go_ret
                  exact ⟨rfl, lies.frame_up DB _⟩
            · skip
              have h6 := HQ.out.1
              have hb6i : (i == 6) = false := by simpa using h6
              have hbi : (i == 0) = false := by simpa using hi0
              clear HQ h6 hi0
              obtain ⟨⟨kD0_0, kD0_1, kD0_2, kD0_3, kD0_4, kD0_5⟩, -⟩ := six_cells D0
              have kD0_l := lies.lt D0
              go_wp2_with fail
              clear kD0_0 kD0_1 kD0_2 kD0_3 kD0_4 kD0_5 kD0_l
              refine (window_any a0 a1 a2 a3 a4 a5 fr mo w11 P0 TA.out).mono ?_
              rintro e w12 ⟨hB, l0, l1, l2, l3, l4, l5, j, rfl, hX1⟩
              replace D0 := lies.on_call D0 hB
              replace D1 := lies.on_call D1 hB
              replace D2 := lies.on_call D2 hB
              replace D3 := lies.on_call D3 hB
              replace D4 := lies.on_call D4 hB
              replace D5 := lies.on_call D5 hB
              replace D6 := lies.on_call D6 hB
              replace P0 := P0.on hB
              replace DB := later DB hB
              clear hB
              have HL := Lib.hid hX1
              have TL := Lib.hid (window_rt TA.out hX1)
              clear hX1
              by_cases hmt : mo < tt
              · skip
                clear HX HL TL
                go_wp2_with fail
                go_ret
                exact ⟨rfl, lies.frame_up DB _⟩
              · have HQ := Lib.hid (wide_less TA.out HX.out HL.out hmt)
                have hnm : ¬ mo < tt := hmt
                by_cases hj : j = 0
                · skip
                  subst hj
                  have HK := Lib.hid (HQ.out.2 rfl)
                  clear HQ
                  obtain ⟨⟨kD3_0, kD3_1, kD3_2, kD3_3, kD3_4, kD3_5⟩, -⟩ := six_cells D3
                  have kD3_l := lies.lt D3
                  go_wp2_with fail
                  clear kD3_0 kD3_1 kD3_2 kD3_3 kD3_4 kD3_5 kD3_l
                  have hA := bound.up1 w12 (.cells #[.int .i64 l0, .int .i64 l1, .int .i64 l2, .int .i64 l3, .int .i64 l4, .int .i64 l5] 24)
                  have D7 := lies.made w12 24 #[.int .i64 l0, .int .i64 l1, .int .i64 l2, .int .i64 l3, .int .i64 l4, .int .i64 l5]
                  replace D0 := lies.on_call D0 hA
                  replace D1 := lies.on_call D1 hA
                  replace D2 := lies.on_call D2 hA
                  replace D3 := lies.on_call D3 hA
                  replace D4 := lies.on_call D4 hA
                  replace D5 := lies.on_call D5 hA
                  replace D6 := lies.on_call D6 hA
                  replace P0 := P0.on hA
                  replace DB := later DB hA
                  clear hA
                  generalize w12.heap.size = XD7 at D7 ⊢
                  generalize w12.alloc (.cells #[.int .i64 l0, .int .i64 l1, .int .i64 l2, .int .i64 l3, .int .i64 l4, .int .i64 l5] 24) = v13 at D0 D1 D2 D3 D4 D5 D6 D7 P0 DB ⊢
                  refine (lies_is x0 x1 x2 x3 x4 x5 l0 l1 l2 l3 l4 l5 v13 P0 TX.out TL.out).mono ?_
                  rintro e w14 ⟨hB, q, rfl, hq1, hq2⟩
                  replace D0 := lies.on_call D0 hB
                  replace D1 := lies.on_call D1 hB
                  replace D2 := lies.on_call D2 hB
                  replace D3 := lies.on_call D3 hB
                  replace D4 := lies.on_call D4 hB
                  replace D5 := lies.on_call D5 hB
                  replace D6 := lies.on_call D6 hB
                  replace D7 := lies.on_call D7 hB
                  replace P0 := P0.on hB
                  replace DB := later DB hB
                  clear hB
                  obtain rfl := hq2 HK.out
                  clear hq1 hq2 HK HX HL TL hmt
                  go_wp2_with fail
                  go_ret
                  exact ⟨rfl, DB⟩
                · skip
                  have h6 := HQ.out.1
                  have hb6 : (j == 6) = false := by simpa using h6
                  have hn6 : (j != 6) = true := by simpa using h6
                  clear HQ h6
                  have hbj : (j == 0) = false := by simpa using hj
                  have hnj : (j != 0) = true := by simpa using hj
                  clear hj HX HL TL
                  go_wp2_with fail
                  go_ret
                  exact ⟨rfl, lies.frame_up DB _⟩
          · skip
            have hbh : (h == 0) = false := by simpa using hh
            clear hh HV HU
            obtain ⟨⟨kD0_0, kD0_1, kD0_2, kD0_3, kD0_4, kD0_5⟩, -⟩ := six_cells D0
            have kD0_l := lies.lt D0
            go_wp2_with fail
            clear kD0_0 kD0_1 kD0_2 kD0_3 kD0_4 kD0_5 kD0_l
            refine (window_any a0 a1 a2 a3 a4 a5 fr mo w11 P0 TA.out).mono ?_
            rintro e w12 ⟨hB, l0, l1, l2, l3, l4, l5, j, rfl, hX1⟩
            replace D0 := lies.on_call D0 hB
            replace D1 := lies.on_call D1 hB
            replace D2 := lies.on_call D2 hB
            replace D3 := lies.on_call D3 hB
            replace D4 := lies.on_call D4 hB
            replace D5 := lies.on_call D5 hB
            replace D6 := lies.on_call D6 hB
            replace P0 := P0.on hB
            replace DB := later DB hB
            clear hB
            have HL := Lib.hid hX1
            have TL := Lib.hid (window_rt TA.out hX1)
            clear hX1
            by_cases hmt : mo < tt
            · skip
              clear HX HL TL
              go_wp2_with fail
              go_ret
              exact ⟨rfl, lies.frame_up DB _⟩
            · have HQ := Lib.hid (wide_less TA.out HX.out HL.out hmt)
              have hnm : ¬ mo < tt := hmt
              by_cases hj : j = 0
              · skip
                subst hj
                have HK := Lib.hid (HQ.out.2 rfl)
                clear HQ
                obtain ⟨⟨kD3_0, kD3_1, kD3_2, kD3_3, kD3_4, kD3_5⟩, -⟩ := six_cells D3
                have kD3_l := lies.lt D3
                go_wp2_with fail
                clear kD3_0 kD3_1 kD3_2 kD3_3 kD3_4 kD3_5 kD3_l
                have hA := bound.up1 w12 (.cells #[.int .i64 l0, .int .i64 l1, .int .i64 l2, .int .i64 l3, .int .i64 l4, .int .i64 l5] 24)
                have D7 := lies.made w12 24 #[.int .i64 l0, .int .i64 l1, .int .i64 l2, .int .i64 l3, .int .i64 l4, .int .i64 l5]
                replace D0 := lies.on_call D0 hA
                replace D1 := lies.on_call D1 hA
                replace D2 := lies.on_call D2 hA
                replace D3 := lies.on_call D3 hA
                replace D4 := lies.on_call D4 hA
                replace D5 := lies.on_call D5 hA
                replace D6 := lies.on_call D6 hA
                replace P0 := P0.on hA
                replace DB := later DB hA
                clear hA
                generalize w12.heap.size = XD7 at D7 ⊢
                generalize w12.alloc (.cells #[.int .i64 l0, .int .i64 l1, .int .i64 l2, .int .i64 l3, .int .i64 l4, .int .i64 l5] 24) = v13 at D0 D1 D2 D3 D4 D5 D6 D7 P0 DB ⊢
                refine (lies_is x0 x1 x2 x3 x4 x5 l0 l1 l2 l3 l4 l5 v13 P0 TX.out TL.out).mono ?_
                rintro e w14 ⟨hB, q, rfl, hq1, hq2⟩
                replace D0 := lies.on_call D0 hB
                replace D1 := lies.on_call D1 hB
                replace D2 := lies.on_call D2 hB
                replace D3 := lies.on_call D3 hB
                replace D4 := lies.on_call D4 hB
                replace D5 := lies.on_call D5 hB
                replace D6 := lies.on_call D6 hB
                replace D7 := lies.on_call D7 hB
                replace P0 := P0.on hB
                replace DB := later DB hB
                clear hB
                obtain rfl := hq2 HK.out
                clear hq1 hq2 HK HX HL TL hmt
                go_wp2_with fail
                go_ret
                exact ⟨rfl, DB⟩
              · skip
                have h6 := HQ.out.1
                have hb6 : (j == 6) = false := by simpa using h6
                have hn6 : (j != 6) = true := by simpa using h6
                clear HQ h6
                have hbj : (j == 0) = false := by simpa using hj
                have hnj : (j != 0) = true := by simpa using hj
                clear hj HX HL TL
                go_wp2_with fail
                go_ret
                exact ⟨rfl, lies.frame_up DB _⟩
        · skip
          have h6 := HQ.out.1
          have hb6g : (g == 6) = false := by simpa using h6
          have hbg : (g == 0) = false := by simpa using hg
          clear HQ h6 hg HY
          by_cases hh : h = 0
          · skip
            subst hh
            have HQ := Lib.hid (within_less TA.out TB.out HMB.out HIN.out HV.out HU.out)
            by_cases hi0 : i = 0
            · skip
              subst hi0
              have HK := Lib.hid (HQ.out.2 rfl)
              clear HQ HU HV
              obtain ⟨⟨kD5_0, kD5_1, kD5_2, kD5_3, kD5_4, kD5_5⟩, -⟩ := six_cells D5
              have kD5_l := lies.lt D5
              go_wp2_with fail
              clear kD5_0 kD5_1 kD5_2 kD5_3 kD5_4 kD5_5 kD5_l
              have hA := bound.up1 w9 (.cells #[.int .i64 u0, .int .i64 u1, .int .i64 u2, .int .i64 u3, .int .i64 u4, .int .i64 u5] 24)
              have D6 := lies.made w9 24 #[.int .i64 u0, .int .i64 u1, .int .i64 u2, .int .i64 u3, .int .i64 u4, .int .i64 u5]
              replace D0 := lies.on_call D0 hA
              replace D1 := lies.on_call D1 hA
              replace D2 := lies.on_call D2 hA
              replace D3 := lies.on_call D3 hA
              replace D4 := lies.on_call D4 hA
              replace D5 := lies.on_call D5 hA
              replace P0 := P0.on hA
              replace DB := later DB hA
              clear hA
              generalize w9.heap.size = XD6 at D6 ⊢
              generalize w9.alloc (.cells #[.int .i64 u0, .int .i64 u1, .int .i64 u2, .int .i64 u3, .int .i64 u4, .int .i64 u5] 24) = v10 at D0 D1 D2 D3 D4 D5 D6 P0 DB ⊢
              refine (lies_is v0 v1 v2 v3 v4 v5 u0 u1 u2 u3 u4 u5 v10 P0 TV.out TU.out).mono ?_
              rintro e w11 ⟨hB, q, rfl, hq1, hq2⟩
              replace D0 := lies.on_call D0 hB
              replace D1 := lies.on_call D1 hB
              replace D2 := lies.on_call D2 hB
              replace D3 := lies.on_call D3 hB
              replace D4 := lies.on_call D4 hB
              replace D5 := lies.on_call D5 hB
              replace D6 := lies.on_call D6 hB
              replace P0 := P0.on hB
              replace DB := later DB hB
              clear hB
              obtain rfl := hq2 HK.out
              clear hq1 hq2 HK
              obtain ⟨⟨kD0_0, kD0_1, kD0_2, kD0_3, kD0_4, kD0_5⟩, -⟩ := six_cells D0
              have kD0_l := lies.lt D0
              go_wp2_with fail
              clear kD0_0 kD0_1 kD0_2 kD0_3 kD0_4 kD0_5 kD0_l
              refine (window_any a0 a1 a2 a3 a4 a5 fr mo w11 P0 TA.out).mono ?_
              rintro e w12 ⟨hB, l0, l1, l2, l3, l4, l5, j, rfl, hX1⟩
              replace D0 := lies.on_call D0 hB
              replace D1 := lies.on_call D1 hB
              replace D2 := lies.on_call D2 hB
              replace D3 := lies.on_call D3 hB
              replace D4 := lies.on_call D4 hB
              replace D5 := lies.on_call D5 hB
              replace D6 := lies.on_call D6 hB
              replace P0 := P0.on hB
              replace DB := later DB hB
              clear hB
              have HL := Lib.hid hX1
              have TL := Lib.hid (window_rt TA.out hX1)
              clear hX1
              by_cases hmt : mo < tt
              · skip
                clear HX HL TL
                go_wp2_with fail
                go_ret
                exact ⟨rfl, lies.frame_up DB _⟩
              · have HQ := Lib.hid (wide_less TA.out HX.out HL.out hmt)
                have hnm : ¬ mo < tt := hmt
                by_cases hj : j = 0
                · skip
                  subst hj
                  have HK := Lib.hid (HQ.out.2 rfl)
                  clear HQ
                  obtain ⟨⟨kD3_0, kD3_1, kD3_2, kD3_3, kD3_4, kD3_5⟩, -⟩ := six_cells D3
                  have kD3_l := lies.lt D3
                  go_wp2_with fail
                  clear kD3_0 kD3_1 kD3_2 kD3_3 kD3_4 kD3_5 kD3_l
                  have hA := bound.up1 w12 (.cells #[.int .i64 l0, .int .i64 l1, .int .i64 l2, .int .i64 l3, .int .i64 l4, .int .i64 l5] 24)
                  have D7 := lies.made w12 24 #[.int .i64 l0, .int .i64 l1, .int .i64 l2, .int .i64 l3, .int .i64 l4, .int .i64 l5]
                  replace D0 := lies.on_call D0 hA
                  replace D1 := lies.on_call D1 hA
                  replace D2 := lies.on_call D2 hA
                  replace D3 := lies.on_call D3 hA
                  replace D4 := lies.on_call D4 hA
                  replace D5 := lies.on_call D5 hA
                  replace D6 := lies.on_call D6 hA
                  replace P0 := P0.on hA
                  replace DB := later DB hA
                  clear hA
                  generalize w12.heap.size = XD7 at D7 ⊢
                  generalize w12.alloc (.cells #[.int .i64 l0, .int .i64 l1, .int .i64 l2, .int .i64 l3, .int .i64 l4, .int .i64 l5] 24) = v13 at D0 D1 D2 D3 D4 D5 D6 D7 P0 DB ⊢
                  refine (lies_is x0 x1 x2 x3 x4 x5 l0 l1 l2 l3 l4 l5 v13 P0 TX.out TL.out).mono ?_
                  rintro e w14 ⟨hB, q, rfl, hq1, hq2⟩
                  replace D0 := lies.on_call D0 hB
                  replace D1 := lies.on_call D1 hB
                  replace D2 := lies.on_call D2 hB
                  replace D3 := lies.on_call D3 hB
                  replace D4 := lies.on_call D4 hB
                  replace D5 := lies.on_call D5 hB
                  replace D6 := lies.on_call D6 hB
                  replace D7 := lies.on_call D7 hB
                  replace P0 := P0.on hB
                  replace DB := later DB hB
                  clear hB
                  obtain rfl := hq2 HK.out
                  clear hq1 hq2 HK HX HL TL hmt
                  go_wp2_with fail
                  go_ret
                  exact ⟨rfl, DB⟩
                · skip
                  have h6 := HQ.out.1
                  have hb6 : (j == 6) = false := by simpa using h6
                  have hn6 : (j != 6) = true := by simpa using h6
                  clear HQ h6
                  have hbj : (j == 0) = false := by simpa using hj
                  have hnj : (j != 0) = true := by simpa using hj
                  clear hj HX HL TL
                  go_wp2_with fail
                  go_ret
                  exact ⟨rfl, lies.frame_up DB _⟩
            · skip
              have h6 := HQ.out.1
              have hb6i : (i == 6) = false := by simpa using h6
              have hbi : (i == 0) = false := by simpa using hi0
              clear HQ h6 hi0
              obtain ⟨⟨kD0_0, kD0_1, kD0_2, kD0_3, kD0_4, kD0_5⟩, -⟩ := six_cells D0
              have kD0_l := lies.lt D0
              go_wp2_with fail
              clear kD0_0 kD0_1 kD0_2 kD0_3 kD0_4 kD0_5 kD0_l
              have hA := bound.up1 w9 (.cells #[.int .i64 u0, .int .i64 u1, .int .i64 u2, .int .i64 u3, .int .i64 u4, .int .i64 u5] 24)
              have D6 := lies.made w9 24 #[.int .i64 u0, .int .i64 u1, .int .i64 u2, .int .i64 u3, .int .i64 u4, .int .i64 u5]
              replace D0 := lies.on_call D0 hA
              replace D1 := lies.on_call D1 hA
              replace D2 := lies.on_call D2 hA
              replace D3 := lies.on_call D3 hA
              replace D4 := lies.on_call D4 hA
              replace D5 := lies.on_call D5 hA
              replace P0 := P0.on hA
              replace DB := later DB hA
              clear hA
              generalize w9.heap.size = XD6 at D6 ⊢
              generalize w9.alloc (.cells #[.int .i64 u0, .int .i64 u1, .int .i64 u2, .int .i64 u3, .int .i64 u4, .int .i64 u5] 24) = v10 at D0 D1 D2 D3 D4 D5 D6 P0 DB ⊢
              refine (window_any a0 a1 a2 a3 a4 a5 fr mo v10 P0 TA.out).mono ?_
              rintro e w11 ⟨hB, l0, l1, l2, l3, l4, l5, j, rfl, hX1⟩
              replace D0 := lies.on_call D0 hB
              replace D1 := lies.on_call D1 hB
              replace D2 := lies.on_call D2 hB
              replace D3 := lies.on_call D3 hB
              replace D4 := lies.on_call D4 hB
              replace D5 := lies.on_call D5 hB
              replace D6 := lies.on_call D6 hB
              replace P0 := P0.on hB
              replace DB := later DB hB
              clear hB
              have HL := Lib.hid hX1
              have TL := Lib.hid (window_rt TA.out hX1)
              clear hX1
              by_cases hmt : mo < tt
              · skip
                clear HX HL TL
                go_wp2_with fail
                go_ret
                exact ⟨rfl, lies.frame_up DB _⟩
              · have HQ := Lib.hid (wide_less TA.out HX.out HL.out hmt)
                have hnm : ¬ mo < tt := hmt
                by_cases hj : j = 0
                · skip
                  subst hj
                  have HK := Lib.hid (HQ.out.2 rfl)
                  clear HQ
                  obtain ⟨⟨kD3_0, kD3_1, kD3_2, kD3_3, kD3_4, kD3_5⟩, -⟩ := six_cells D3
                  have kD3_l := lies.lt D3
                  go_wp2_with fail
                  clear kD3_0 kD3_1 kD3_2 kD3_3 kD3_4 kD3_5 kD3_l
                  have hA := bound.up1 w11 (.cells #[.int .i64 l0, .int .i64 l1, .int .i64 l2, .int .i64 l3, .int .i64 l4, .int .i64 l5] 24)
                  have D7 := lies.made w11 24 #[.int .i64 l0, .int .i64 l1, .int .i64 l2, .int .i64 l3, .int .i64 l4, .int .i64 l5]
                  replace D0 := lies.on_call D0 hA
                  replace D1 := lies.on_call D1 hA
                  replace D2 := lies.on_call D2 hA
                  replace D3 := lies.on_call D3 hA
                  replace D4 := lies.on_call D4 hA
                  replace D5 := lies.on_call D5 hA
                  replace D6 := lies.on_call D6 hA
                  replace P0 := P0.on hA
                  replace DB := later DB hA
                  clear hA
                  generalize w11.heap.size = XD7 at D7 ⊢
                  generalize w11.alloc (.cells #[.int .i64 l0, .int .i64 l1, .int .i64 l2, .int .i64 l3, .int .i64 l4, .int .i64 l5] 24) = v12 at D0 D1 D2 D3 D4 D5 D6 D7 P0 DB ⊢
                  refine (lies_is x0 x1 x2 x3 x4 x5 l0 l1 l2 l3 l4 l5 v12 P0 TX.out TL.out).mono ?_
                  rintro e w13 ⟨hB, q, rfl, hq1, hq2⟩
                  replace D0 := lies.on_call D0 hB
                  replace D1 := lies.on_call D1 hB
                  replace D2 := lies.on_call D2 hB
                  replace D3 := lies.on_call D3 hB
                  replace D4 := lies.on_call D4 hB
                  replace D5 := lies.on_call D5 hB
                  replace D6 := lies.on_call D6 hB
                  replace D7 := lies.on_call D7 hB
                  replace P0 := P0.on hB
                  replace DB := later DB hB
                  clear hB
                  obtain rfl := hq2 HK.out
                  clear hq1 hq2 HK HX HL TL hmt
                  go_wp2_with fail
                  go_ret
                  exact ⟨rfl, DB⟩
                · skip
                  have h6 := HQ.out.1
                  have hb6 : (j == 6) = false := by simpa using h6
                  have hn6 : (j != 6) = true := by simpa using h6
                  clear HQ h6
                  have hbj : (j == 0) = false := by simpa using hj
                  have hnj : (j != 0) = true := by simpa using hj
                  clear hj HX HL TL
                  go_wp2_with fail
                  go_ret
                  exact ⟨rfl, lies.frame_up DB _⟩
          · skip
            have hbh : (h == 0) = false := by simpa using hh
            clear hh HV HU
            obtain ⟨⟨kD0_0, kD0_1, kD0_2, kD0_3, kD0_4, kD0_5⟩, -⟩ := six_cells D0
            have kD0_l := lies.lt D0
            go_wp2_with fail
            clear kD0_0 kD0_1 kD0_2 kD0_3 kD0_4 kD0_5 kD0_l
            have hA := bound.up1 w9 (.cells #[.int .i64 u0, .int .i64 u1, .int .i64 u2, .int .i64 u3, .int .i64 u4, .int .i64 u5] 24)
            have D6 := lies.made w9 24 #[.int .i64 u0, .int .i64 u1, .int .i64 u2, .int .i64 u3, .int .i64 u4, .int .i64 u5]
            replace D0 := lies.on_call D0 hA
            replace D1 := lies.on_call D1 hA
            replace D2 := lies.on_call D2 hA
            replace D3 := lies.on_call D3 hA
            replace D4 := lies.on_call D4 hA
            replace D5 := lies.on_call D5 hA
            replace P0 := P0.on hA
            replace DB := later DB hA
            clear hA
            generalize w9.heap.size = XD6 at D6 ⊢
            generalize w9.alloc (.cells #[.int .i64 u0, .int .i64 u1, .int .i64 u2, .int .i64 u3, .int .i64 u4, .int .i64 u5] 24) = v10 at D0 D1 D2 D3 D4 D5 D6 P0 DB ⊢
            refine (window_any a0 a1 a2 a3 a4 a5 fr mo v10 P0 TA.out).mono ?_
            rintro e w11 ⟨hB, l0, l1, l2, l3, l4, l5, j, rfl, hX1⟩
            replace D0 := lies.on_call D0 hB
            replace D1 := lies.on_call D1 hB
            replace D2 := lies.on_call D2 hB
            replace D3 := lies.on_call D3 hB
            replace D4 := lies.on_call D4 hB
            replace D5 := lies.on_call D5 hB
            replace D6 := lies.on_call D6 hB
            replace P0 := P0.on hB
            replace DB := later DB hB
            clear hB
            have HL := Lib.hid hX1
            have TL := Lib.hid (window_rt TA.out hX1)
            clear hX1
            by_cases hmt : mo < tt
            · skip
              clear HX HL TL
              go_wp2_with fail
              go_ret
              exact ⟨rfl, lies.frame_up DB _⟩
            · have HQ := Lib.hid (wide_less TA.out HX.out HL.out hmt)
              have hnm : ¬ mo < tt := hmt
              by_cases hj : j = 0
              · skip
                subst hj
                have HK := Lib.hid (HQ.out.2 rfl)
                clear HQ
                obtain ⟨⟨kD3_0, kD3_1, kD3_2, kD3_3, kD3_4, kD3_5⟩, -⟩ := six_cells D3
                have kD3_l := lies.lt D3
                go_wp2_with fail
                clear kD3_0 kD3_1 kD3_2 kD3_3 kD3_4 kD3_5 kD3_l
                have hA := bound.up1 w11 (.cells #[.int .i64 l0, .int .i64 l1, .int .i64 l2, .int .i64 l3, .int .i64 l4, .int .i64 l5] 24)
                have D7 := lies.made w11 24 #[.int .i64 l0, .int .i64 l1, .int .i64 l2, .int .i64 l3, .int .i64 l4, .int .i64 l5]
                replace D0 := lies.on_call D0 hA
                replace D1 := lies.on_call D1 hA
                replace D2 := lies.on_call D2 hA
                replace D3 := lies.on_call D3 hA
                replace D4 := lies.on_call D4 hA
                replace D5 := lies.on_call D5 hA
                replace D6 := lies.on_call D6 hA
                replace P0 := P0.on hA
                replace DB := later DB hA
                clear hA
                generalize w11.heap.size = XD7 at D7 ⊢
                generalize w11.alloc (.cells #[.int .i64 l0, .int .i64 l1, .int .i64 l2, .int .i64 l3, .int .i64 l4, .int .i64 l5] 24) = v12 at D0 D1 D2 D3 D4 D5 D6 D7 P0 DB ⊢
                refine (lies_is x0 x1 x2 x3 x4 x5 l0 l1 l2 l3 l4 l5 v12 P0 TX.out TL.out).mono ?_
                rintro e w13 ⟨hB, q, rfl, hq1, hq2⟩
                replace D0 := lies.on_call D0 hB
                replace D1 := lies.on_call D1 hB
                replace D2 := lies.on_call D2 hB
                replace D3 := lies.on_call D3 hB
                replace D4 := lies.on_call D4 hB
                replace D5 := lies.on_call D5 hB
                replace D6 := lies.on_call D6 hB
                replace D7 := lies.on_call D7 hB
                replace P0 := P0.on hB
                replace DB := later DB hB
                clear hB
                obtain rfl := hq2 HK.out
                clear hq1 hq2 HK HX HL TL hmt
                go_wp2_with fail
                go_ret
                exact ⟨rfl, DB⟩
              · skip
                have h6 := HQ.out.1
                have hb6 : (j == 6) = false := by simpa using h6
                have hn6 : (j != 6) = true := by simpa using h6
                clear HQ h6
                have hbj : (j == 0) = false := by simpa using hj
                have hnj : (j != 0) = true := by simpa using hj
                clear hj HX HL TL
                go_wp2_with fail
                go_ret
                exact ⟨rfl, lies.frame_up DB _⟩
      · skip
        have hbf : (f == 0) = false := by simpa using hf
        clear HY
        by_cases hh : h = 0
        · skip
          subst hh
          have HQ := Lib.hid (within_less TA.out TB.out HMB.out HIN.out HV.out HU.out)
          by_cases hi0 : i = 0
          · skip
            subst hi0
            have HK := Lib.hid (HQ.out.2 rfl)
            clear HQ HU HV
            obtain ⟨⟨kD5_0, kD5_1, kD5_2, kD5_3, kD5_4, kD5_5⟩, -⟩ := six_cells D5
            have kD5_l := lies.lt D5
            go_wp2_with fail
            clear kD5_0 kD5_1 kD5_2 kD5_3 kD5_4 kD5_5 kD5_l
            have hA := bound.up1 w9 (.cells #[.int .i64 u0, .int .i64 u1, .int .i64 u2, .int .i64 u3, .int .i64 u4, .int .i64 u5] 24)
            have D6 := lies.made w9 24 #[.int .i64 u0, .int .i64 u1, .int .i64 u2, .int .i64 u3, .int .i64 u4, .int .i64 u5]
            replace D0 := lies.on_call D0 hA
            replace D1 := lies.on_call D1 hA
            replace D2 := lies.on_call D2 hA
            replace D3 := lies.on_call D3 hA
            replace D4 := lies.on_call D4 hA
            replace D5 := lies.on_call D5 hA
            replace P0 := P0.on hA
            replace DB := later DB hA
            clear hA
            generalize w9.heap.size = XD6 at D6 ⊢
            generalize w9.alloc (.cells #[.int .i64 u0, .int .i64 u1, .int .i64 u2, .int .i64 u3, .int .i64 u4, .int .i64 u5] 24) = v10 at D0 D1 D2 D3 D4 D5 D6 P0 DB ⊢
            refine (lies_is v0 v1 v2 v3 v4 v5 u0 u1 u2 u3 u4 u5 v10 P0 TV.out TU.out).mono ?_
            rintro e w11 ⟨hB, q, rfl, hq1, hq2⟩
            replace D0 := lies.on_call D0 hB
            replace D1 := lies.on_call D1 hB
            replace D2 := lies.on_call D2 hB
            replace D3 := lies.on_call D3 hB
            replace D4 := lies.on_call D4 hB
            replace D5 := lies.on_call D5 hB
            replace D6 := lies.on_call D6 hB
            replace P0 := P0.on hB
            replace DB := later DB hB
            clear hB
            obtain rfl := hq2 HK.out
            clear hq1 hq2 HK
            obtain ⟨⟨kD0_0, kD0_1, kD0_2, kD0_3, kD0_4, kD0_5⟩, -⟩ := six_cells D0
            have kD0_l := lies.lt D0
            go_wp2_with fail
            clear kD0_0 kD0_1 kD0_2 kD0_3 kD0_4 kD0_5 kD0_l
            refine (window_any a0 a1 a2 a3 a4 a5 fr mo w11 P0 TA.out).mono ?_
            rintro e w12 ⟨hB, l0, l1, l2, l3, l4, l5, j, rfl, hX1⟩
            replace D0 := lies.on_call D0 hB
            replace D1 := lies.on_call D1 hB
            replace D2 := lies.on_call D2 hB
            replace D3 := lies.on_call D3 hB
            replace D4 := lies.on_call D4 hB
            replace D5 := lies.on_call D5 hB
            replace D6 := lies.on_call D6 hB
            replace P0 := P0.on hB
            replace DB := later DB hB
            clear hB
            have HL := Lib.hid hX1
            have TL := Lib.hid (window_rt TA.out hX1)
            clear hX1
            have hbf : (f == 0) = false := by simpa using hf
            have hnf : (f != 0) = true := by simpa using hf
            clear hf HX HL TL
            go_wp2_with fail
            go_ret
            exact ⟨rfl, lies.frame_up DB _⟩
          · skip
            have h6 := HQ.out.1
            have hb6i : (i == 6) = false := by simpa using h6
            have hbi : (i == 0) = false := by simpa using hi0
            clear HQ h6 hi0
            obtain ⟨⟨kD0_0, kD0_1, kD0_2, kD0_3, kD0_4, kD0_5⟩, -⟩ := six_cells D0
            have kD0_l := lies.lt D0
            go_wp2_with fail
            clear kD0_0 kD0_1 kD0_2 kD0_3 kD0_4 kD0_5 kD0_l
            have hA := bound.up1 w9 (.cells #[.int .i64 u0, .int .i64 u1, .int .i64 u2, .int .i64 u3, .int .i64 u4, .int .i64 u5] 24)
            have D6 := lies.made w9 24 #[.int .i64 u0, .int .i64 u1, .int .i64 u2, .int .i64 u3, .int .i64 u4, .int .i64 u5]
            replace D0 := lies.on_call D0 hA
            replace D1 := lies.on_call D1 hA
            replace D2 := lies.on_call D2 hA
            replace D3 := lies.on_call D3 hA
            replace D4 := lies.on_call D4 hA
            replace D5 := lies.on_call D5 hA
            replace P0 := P0.on hA
            replace DB := later DB hA
            clear hA
            generalize w9.heap.size = XD6 at D6 ⊢
            generalize w9.alloc (.cells #[.int .i64 u0, .int .i64 u1, .int .i64 u2, .int .i64 u3, .int .i64 u4, .int .i64 u5] 24) = v10 at D0 D1 D2 D3 D4 D5 D6 P0 DB ⊢
            refine (window_any a0 a1 a2 a3 a4 a5 fr mo v10 P0 TA.out).mono ?_
            rintro e w11 ⟨hB, l0, l1, l2, l3, l4, l5, j, rfl, hX1⟩
            replace D0 := lies.on_call D0 hB
            replace D1 := lies.on_call D1 hB
            replace D2 := lies.on_call D2 hB
            replace D3 := lies.on_call D3 hB
            replace D4 := lies.on_call D4 hB
            replace D5 := lies.on_call D5 hB
            replace D6 := lies.on_call D6 hB
            replace P0 := P0.on hB
            replace DB := later DB hB
            clear hB
            have HL := Lib.hid hX1
            have TL := Lib.hid (window_rt TA.out hX1)
            clear hX1
            have hbf : (f == 0) = false := by simpa using hf
            have hnf : (f != 0) = true := by simpa using hf
            clear hf HX HL TL
            go_wp2_with fail
            go_ret
            exact ⟨rfl, lies.frame_up DB _⟩
        · skip
          have hbh : (h == 0) = false := by simpa using hh
          clear hh HV HU
          obtain ⟨⟨kD0_0, kD0_1, kD0_2, kD0_3, kD0_4, kD0_5⟩, -⟩ := six_cells D0
          have kD0_l := lies.lt D0
          go_wp2_with fail
          clear kD0_0 kD0_1 kD0_2 kD0_3 kD0_4 kD0_5 kD0_l
          have hA := bound.up1 w9 (.cells #[.int .i64 u0, .int .i64 u1, .int .i64 u2, .int .i64 u3, .int .i64 u4, .int .i64 u5] 24)
          have D6 := lies.made w9 24 #[.int .i64 u0, .int .i64 u1, .int .i64 u2, .int .i64 u3, .int .i64 u4, .int .i64 u5]
          replace D0 := lies.on_call D0 hA
          replace D1 := lies.on_call D1 hA
          replace D2 := lies.on_call D2 hA
          replace D3 := lies.on_call D3 hA
          replace D4 := lies.on_call D4 hA
          replace D5 := lies.on_call D5 hA
          replace P0 := P0.on hA
          replace DB := later DB hA
          clear hA
          generalize w9.heap.size = XD6 at D6 ⊢
          generalize w9.alloc (.cells #[.int .i64 u0, .int .i64 u1, .int .i64 u2, .int .i64 u3, .int .i64 u4, .int .i64 u5] 24) = v10 at D0 D1 D2 D3 D4 D5 D6 P0 DB ⊢
          refine (window_any a0 a1 a2 a3 a4 a5 fr mo v10 P0 TA.out).mono ?_
          rintro e w11 ⟨hB, l0, l1, l2, l3, l4, l5, j, rfl, hX1⟩
          replace D0 := lies.on_call D0 hB
          replace D1 := lies.on_call D1 hB
          replace D2 := lies.on_call D2 hB
          replace D3 := lies.on_call D3 hB
          replace D4 := lies.on_call D4 hB
          replace D5 := lies.on_call D5 hB
          replace D6 := lies.on_call D6 hB
          replace P0 := P0.on hB
          replace DB := later DB hB
          clear hB
          have HL := Lib.hid hX1
          have TL := Lib.hid (window_rt TA.out hX1)
          clear hX1
          have hbf : (f == 0) = false := by simpa using hf
          have hnf : (f != 0) = true := by simpa using hf
          clear hf HX HL TL
          go_wp2_with fail
          go_ret
          exact ⟨rfl, lies.frame_up DB _⟩
    | false =>
      clear hr HY HV HU
      by_cases hf : f = 0
      · skip
        subst hf
        obtain ⟨⟨kD0_0, kD0_1, kD0_2, kD0_3, kD0_4, kD0_5⟩, -⟩ := six_cells D0
        have kD0_l := lies.lt D0
        go_wp2_with fail
        clear kD0_0 kD0_1 kD0_2 kD0_3 kD0_4 kD0_5 kD0_l
        have hA := bound.up1 w9 (.cells #[.int .i64 u0, .int .i64 u1, .int .i64 u2, .int .i64 u3, .int .i64 u4, .int .i64 u5] 24)
        have D6 := lies.made w9 24 #[.int .i64 u0, .int .i64 u1, .int .i64 u2, .int .i64 u3, .int .i64 u4, .int .i64 u5]
        replace D0 := lies.on_call D0 hA
        replace D1 := lies.on_call D1 hA
        replace D2 := lies.on_call D2 hA
        replace D3 := lies.on_call D3 hA
        replace D4 := lies.on_call D4 hA
        replace D5 := lies.on_call D5 hA
        replace P0 := P0.on hA
        replace DB := later DB hA
        clear hA
        generalize w9.heap.size = XD6 at D6 ⊢
        generalize w9.alloc (.cells #[.int .i64 u0, .int .i64 u1, .int .i64 u2, .int .i64 u3, .int .i64 u4, .int .i64 u5] 24) = v10 at D0 D1 D2 D3 D4 D5 D6 P0 DB ⊢
        refine (window_any a0 a1 a2 a3 a4 a5 fr mo v10 P0 TA.out).mono ?_
        rintro e w11 ⟨hB, l0, l1, l2, l3, l4, l5, j, rfl, hX1⟩
        replace D0 := lies.on_call D0 hB
        replace D1 := lies.on_call D1 hB
        replace D2 := lies.on_call D2 hB
        replace D3 := lies.on_call D3 hB
        replace D4 := lies.on_call D4 hB
        replace D5 := lies.on_call D5 hB
        replace D6 := lies.on_call D6 hB
        replace P0 := P0.on hB
        replace DB := later DB hB
        clear hB
        have HL := Lib.hid hX1
        have TL := Lib.hid (window_rt TA.out hX1)
        clear hX1
        by_cases hmt : mo < tt
        · skip
          clear HX HL TL
          go_wp2_with fail
          go_ret
          exact ⟨rfl, lies.frame_up DB _⟩
        · have HQ := Lib.hid (wide_less TA.out HX.out HL.out hmt)
          have hnm : ¬ mo < tt := hmt
          by_cases hj : j = 0
          · skip
            subst hj
            have HK := Lib.hid (HQ.out.2 rfl)
            clear HQ
            obtain ⟨⟨kD3_0, kD3_1, kD3_2, kD3_3, kD3_4, kD3_5⟩, -⟩ := six_cells D3
            have kD3_l := lies.lt D3
            go_wp2_with fail
            clear kD3_0 kD3_1 kD3_2 kD3_3 kD3_4 kD3_5 kD3_l
            have hA := bound.up1 w11 (.cells #[.int .i64 l0, .int .i64 l1, .int .i64 l2, .int .i64 l3, .int .i64 l4, .int .i64 l5] 24)
            have D7 := lies.made w11 24 #[.int .i64 l0, .int .i64 l1, .int .i64 l2, .int .i64 l3, .int .i64 l4, .int .i64 l5]
            replace D0 := lies.on_call D0 hA
            replace D1 := lies.on_call D1 hA
            replace D2 := lies.on_call D2 hA
            replace D3 := lies.on_call D3 hA
            replace D4 := lies.on_call D4 hA
            replace D5 := lies.on_call D5 hA
            replace D6 := lies.on_call D6 hA
            replace P0 := P0.on hA
            replace DB := later DB hA
            clear hA
            generalize w11.heap.size = XD7 at D7 ⊢
            generalize w11.alloc (.cells #[.int .i64 l0, .int .i64 l1, .int .i64 l2, .int .i64 l3, .int .i64 l4, .int .i64 l5] 24) = v12 at D0 D1 D2 D3 D4 D5 D6 D7 P0 DB ⊢
            refine (lies_is x0 x1 x2 x3 x4 x5 l0 l1 l2 l3 l4 l5 v12 P0 TX.out TL.out).mono ?_
            rintro e w13 ⟨hB, q, rfl, hq1, hq2⟩
            replace D0 := lies.on_call D0 hB
            replace D1 := lies.on_call D1 hB
            replace D2 := lies.on_call D2 hB
            replace D3 := lies.on_call D3 hB
            replace D4 := lies.on_call D4 hB
            replace D5 := lies.on_call D5 hB
            replace D6 := lies.on_call D6 hB
            replace D7 := lies.on_call D7 hB
            replace P0 := P0.on hB
            replace DB := later DB hB
            clear hB
            obtain rfl := hq2 HK.out
            clear hq1 hq2 HK HX HL TL hmt
            go_wp2_with fail
            go_ret
            exact ⟨rfl, DB⟩
          · skip
            have h6 := HQ.out.1
            have hb6 : (j == 6) = false := by simpa using h6
            have hn6 : (j != 6) = true := by simpa using h6
            clear HQ h6
            have hbj : (j == 0) = false := by simpa using hj
            have hnj : (j != 0) = true := by simpa using hj
            clear hj HX HL TL
            go_wp2_with fail
            go_ret
            exact ⟨rfl, lies.frame_up DB _⟩
      · skip
        have hbf : (f == 0) = false := by simpa using hf
        obtain ⟨⟨kD0_0, kD0_1, kD0_2, kD0_3, kD0_4, kD0_5⟩, -⟩ := six_cells D0
        have kD0_l := lies.lt D0
        go_wp2_with fail
        clear kD0_0 kD0_1 kD0_2 kD0_3 kD0_4 kD0_5 kD0_l
        have hA := bound.up1 w9 (.cells #[.int .i64 u0, .int .i64 u1, .int .i64 u2, .int .i64 u3, .int .i64 u4, .int .i64 u5] 24)
        have D6 := lies.made w9 24 #[.int .i64 u0, .int .i64 u1, .int .i64 u2, .int .i64 u3, .int .i64 u4, .int .i64 u5]
        replace D0 := lies.on_call D0 hA
        replace D1 := lies.on_call D1 hA
        replace D2 := lies.on_call D2 hA
        replace D3 := lies.on_call D3 hA
        replace D4 := lies.on_call D4 hA
        replace D5 := lies.on_call D5 hA
        replace P0 := P0.on hA
        replace DB := later DB hA
        clear hA
        generalize w9.heap.size = XD6 at D6 ⊢
        generalize w9.alloc (.cells #[.int .i64 u0, .int .i64 u1, .int .i64 u2, .int .i64 u3, .int .i64 u4, .int .i64 u5] 24) = v10 at D0 D1 D2 D3 D4 D5 D6 P0 DB ⊢
        refine (window_any a0 a1 a2 a3 a4 a5 fr mo v10 P0 TA.out).mono ?_
        rintro e w11 ⟨hB, l0, l1, l2, l3, l4, l5, j, rfl, hX1⟩
        replace D0 := lies.on_call D0 hB
        replace D1 := lies.on_call D1 hB
        replace D2 := lies.on_call D2 hB
        replace D3 := lies.on_call D3 hB
        replace D4 := lies.on_call D4 hB
        replace D5 := lies.on_call D5 hB
        replace D6 := lies.on_call D6 hB
        replace P0 := P0.on hB
        replace DB := later DB hB
        clear hB
        have HL := Lib.hid hX1
        have TL := Lib.hid (window_rt TA.out hX1)
        clear hX1
        have hbf : (f == 0) = false := by simpa using hf
        have hnf : (f != 0) = true := by simpa using hf
        clear hf HX HL TL
        go_wp2_with fail
        go_ret
        exact ⟨rfl, lies.frame_up DB _⟩
  · skip
    have hbe : (e == 0) = false := by simpa using he
    have hne : (e != 0) = true := by simpa using he
    clear he HI HX HY HV HU TX TY TV TU
    go_wp2_with fail
    go_ret
    exact ⟨rfl, lies.frame_up DB _⟩

set_option maxRecDepth 100000 in
theorem lifted (os : Os) (started : os.Started) (H : Type) (enc : TypeId × Value → H) :
    ReturnsInHanded {} Tryd.checked os 8 .any (fun w args => (Rows.winLessSpec.pre enc Tryd.prog Tryd.f8 [] false w args ∧ laidMetH Tryd.prog zopen.places w) ∧ sizedMet enc Tryd.prog Tryd.f8 (OpenSpec.ofChange Rows.winLessSpec) false w args) (Rows.winLessSpec.post enc Tryd.prog Tryd.f8 false true false false) := by
  refine returnsInHanded_of_change_and (C := Tryd.checked) (X := fun w _ => laidMetH Tryd.prog zopen.places w) (fun _ _ _ hh h => h.of_heap hh) law.own started (by kernel_rfl) Tryd.func8
    (ChangeSpec.witness_shaped (enc := enc) (C := Tryd.checked) (os := os) (X := fun w _ => laidMetH Tryd.prog zopen.places w) false (World.doorLaid Tryd.prog 400 os) #[.agg #[.int .i64 0, .int .i64 0, .int .i64 0, .int .i64 0, .int .i64 0, .int .i64 0], .agg #[.int .i64 0, .int .i64 0, .int .i64 0, .int .i64 0, .int .i64 0, .int .i64 0], .agg #[.int .i64 0, .bool false, .int .i64 0, .bool false, .bool false], .int .i64 0, .int .i64 0, .int .i64 0] 8 rfl (World.shaped_of_RefB (by kernel_rfl) (by kernel_rfl)) (by kernel_rfl) (by kernel_rfl) (by kernel_rfl) (zopen.door_met os _)) ?_
  intro W base args ds gs before hval0 hW _ _ hL _
  have hval : ∀ (j : Nat) t v, Tryd.f8.params[j]? = some t → args[j]? = some v → Value.okWide Tryd.prog W .any base t v := hval0
  have hW' := hW
  obtain ⟨p, q, hA0, hV, rfl, _, _⟩ := hW
  have hA : DataW.TrodAll enc Tryd.prog W 0 (fun _ => true) true Tryd.f8.params.toList args.toList ds p := hA0
  rw [Tryd.params8] at hA hval
  obtain ⟨v0, vs0, d0, ds0, p0, q0, hargs, rfl, rfl, h0, r0⟩ := trodAll_cons hA
  obtain ⟨v1, vs1, d1, ds1, p1, q1, rfl, rfl, rfl, h1, r1⟩ := trodAll_cons r0
  obtain ⟨v2, vs2, d2, ds2, p2, q2, rfl, rfl, rfl, h2, r2⟩ := trodAll_cons r1
  obtain ⟨v3, vs3, d3, ds3, p3, q3, rfl, rfl, rfl, h3, r3⟩ := trodAll_cons r2
  obtain ⟨v4, vs4, d4, ds4, p4, q4, rfl, rfl, rfl, h4, r4⟩ := trodAll_cons r3
  obtain ⟨v5, vs5, d5, ds5, p5, q5, rfl, rfl, rfl, h5, r5⟩ := trodAll_cons r4
  obtain ⟨rfl, rfl, rfl⟩ := trodAll_nil r5
  obtain rfl : args = #[v0, v1, v2, v3, v4, v5] := by cases args; simp_all
  obtain ⟨z00, z01, z02, z03, z04, z05, rfl, w0⟩ := zopen.open_zone (hval 0 24 v0 rfl rfl) h0
  obtain ⟨z10, z11, z12, z13, z14, z15, rfl, w1⟩ := zopen.open_zone (hval 1 24 v1 rfl rfl) h1
  obtain ⟨lo2, ls2, hi2, hs2, op2, rfl⟩ := tlaw.open_span (hval 2 31 v2 rfl rfl) h2
  obtain ⟨m3, rfl, rfl, rfl, x3⟩ := open_int Tryd.underlying3 (hval 3 3 v3 rfl rfl) h3
  obtain ⟨m4, rfl, rfl, rfl, x4⟩ := open_int Tryd.underlying3 (hval 4 3 v4 rfl rfl) h4
  obtain ⟨m5, rfl, rfl, rfl, x5⟩ := open_int Tryd.underlying3 (hval 5 3 v5 rfl rfl) h5
  refine (walk z00 z01 z02 z03 z04 z05 z10 z11 z12 z13 z14 z15 lo2 ls2 hi2 hs2 op2 m3 m4 m5 W (fun x hx => ⟨law.wf_lo (w0 x hx), law.wf_hi (w0 x hx)⟩) (fun x hx => ⟨law.wf_lo (w1 x hx), law.wf_hi (w1 x hx)⟩) ⟨law.wf_lo x3, law.wf_hi x3⟩ ⟨law.wf_lo x4, law.wf_hi x4⟩ ⟨law.wf_lo x5, law.wf_hi x5⟩ (zopen.laid_pl hL)).mono fun e W' ⟨he, hB⟩ => ?_
  subst he
  exact ⟨_, rfl, law.post_true law.laidOut (by kernel_rfl) rfl Tryd.underlying4 rfl hW' (fun h => by subst h; rfl) hB⟩

theorem proved : Rows.WinLessSaid :=
  OpenClaim.holds_of_wide 8 Tryd.f8 rfl rfl rfl rfl rfl rfl rfl ⟨rfl, rfl, rfl, rfl, rfl⟩ rfl rfl rfl rfl rfl (by kernel_rfl) Tryd.func8 (by kernel_rfl)
    (of_decide_eq_true (by kernel_rfl)) (by unfold Func.isWrapper; first | (rw [if_pos (by decide +kernel)]; kernel_rfl) | (rw [if_neg (by decide +kernel)]; exact ⟨rfl, rfl⟩))
    (fun os started H enc _ => lifted os started H enc)
theorem card : Rows.WinLessCardSaid :=
  Claim7.holds_tied_plain_at .later [] [.data] true (true, "0e35938ca2f85e4d4a747e9ff2f0a86df4808d42b014bcedf4017d6c199ae299") false
    proved (fun _ h => by cases h) (by kernel_rfl) (fun _ h => by cases h) winLess_row_tie rfl ⟨rfl, rfl⟩ (by kernel_rfl) rfl
    (fun f fn hf hfn => by
      obtain rfl : f = 8 := Option.some.inj ((show Tryd.prog.funcNamed "rallentando/rallentandolaw10.WinLess" = some 8 by kernel_rfl).symm.trans hf) |>.symm
      obtain rfl : fn = Tryd.f8 := (Option.some.inj (Tryd.func8.symm.trans hfn)).symm
      exact ⟨by kernel_rfl, fun j t ht => by
        rw [Tryd.params8] at ht
        have hm : t ∈ [24, 24, 31, 3, 3, 3] := by simpa using Array.mem_of_getElem? ht
        have hall : ([24, 24, 31, 3, 3, 3].all fun u => !Tryd.prog.wantsStandIn u) = true := by kernel_rfl
        exact (show Tryd.prog.wantsStandIn t = false by simpa using List.all_eq_true.1 hall t hm)⟩)
    (by kernel_rfl)
#print axioms card
end Go.Proofs.YtcaoooddmmhieaaDoor.winLess
