/-
  WinOrder answers true for every zone, span and three numbers; the listed variable reads as the program lays it.
-/
import Derived.Test.YtcaoooddmmhieaaDoorWinM
import Derived.Test.YtcaoooddmmhieaaDoorCards
import Derived.Test.YtcaoooddmmhieaaDoorTie
import Derived.BigQuiet
namespace Go.Proofs.YtcaoooddmmhieaaDoor.winOrder
open Go.Joins Go.ChangeShapes Go.WideShapes Go.ChangeAt Go.RowKit num rat dbm Go.Proofs.YtcaoooddmmhieaaDoor.tight Go.Proofs.YtcaoooddmmhieaaDoor.incl Go.Proofs.YtcaoooddmmhieaaDoor.plaw Go.Proofs.YtcaoooddmmhieaaDoor.zopen Go.Proofs.YtcaoooddmmhieaaDoor.zone Go.Proofs.YtcaoooddmmhieaaDoor.zlaw Go.Proofs.YtcaoooddmmhieaaDoor.win Go.Proofs.YtcaoooddmmhieaaDoor.wlaw
open bound hiding up
open Go.Proofs.YtcaoooddmmhieaaDoor.comp (five_cells)
set_option linter.unusedVariables false
set_option linter.unusedSimpArgs false

theorem zero_tops : Tops zero6 := by unfold Tops zero6; decide
theorem cut_rt {z w x : List Int} {f : Int} (tz : Tops z) (h : CutR z w x f) : Tops x := by
  rcases h with ⟨_, rfl, _⟩ | ⟨_, _, rfl, _⟩ | ⟨_, _, rfl, _⟩
  · exact zero_tops
  · exact zero_tops
  · exact short_tops (clT_tops (lesT_tops (full_tops tz) _))
theorem within_rt {z x : List Int} {s : Sp} {f : Int} (tz : Tops z) (h : WithinR z s x f) : Tops x := by
  rcases h with ⟨_, rfl, _⟩ | ⟨_, _, rfl, _⟩ | ⟨_, _, h⟩
  · exact zero_tops
  · exact zero_tops
  · exact cut_rt tz h
theorem window_rt {z x : List Int} {s t : Int} {f : Int} (tz : Tops z) (h : WindowR z s t x f) : Tops x := by
  rcases h with ⟨_, rfl, _⟩ | ⟨_, _, rfl, _⟩ | ⟨_, _, h⟩
  · exact zero_tops
  · exact zero_tops
  · exact cut_rt tz h
theorem within_ok {z x : List Int} {s : Sp} (h : WithinR z s x 0) : MayZ z ∧ MayP s ∧ CutR z (diffZ s) x 0 := by
  rcases h with ⟨_, _, n⟩ | ⟨_, _, _, n⟩ | ⟨a, b, c⟩
  · exact absurd n (by decide)
  · exact absurd n (by decide)
  · exact ⟨a, b, c⟩
theorem window_ok {z x : List Int} {s t : Int} (h : WindowR z s t x 0) : MayZ z ∧ MayW s t ∧ CutR z (lateZ (winS s t)) x 0 := by
  rcases h with ⟨_, _, n⟩ | ⟨_, _, _, n⟩ | ⟨a, b, c⟩
  · exact absurd n (by decide)
  · exact absurd n (by decide)
  · exact ⟨a, b, c⟩
theorem order_one {a b c d h : List Int} {s : Sp} {fr md g k : Int} (ta : Tops a) (hb : WithinR a s b 0) (hc : WindowR a fr md c 0) (hd : WindowR b fr md d g) (hh : WithinR c s h k) : h = d ∧ k = g := by
  obtain ⟨ma, mp, cb⟩ := within_ok hb
  obtain ⟨_, mw, cc⟩ := window_ok hc
  have pw := win_may mw.1 mw.2.1 (Int.le_of_lt mw.2.2)
  obtain ⟨_, mb, _⟩ := cut_full ta cb
  obtain ⟨_, mc, _⟩ := cut_full ta cc
  obtain ⟨e1, e2⟩ := cut_order ta (diff_tops mp) (late_tops pw) ma.may (diff_may mp) (late_may pw) cb cc d h g k (window_cut mb mw hd) (within_cut mc mp hh)
  exact ⟨e1.symm, e2.symm⟩
theorem follow_one {a c x y l : List Int} {fr md tt m n j1 j2 : Int} {r1 r2 : Bool} (ta : Tops a) (hc : WindowR a fr md c 0) (hx : WindowR a md tt x 0) (hy : MeetR c x y m) (hl : WindowR a fr tt l n) (i1 : InR c l r1 j1) (i2 : InR x l r2 j2) : m = 6 ∧ n = 0 ∧ j1 = 0 ∧ j2 = 0 ∧ r1 = true ∧ r2 = true := by
  obtain ⟨ma, w1, cc⟩ := window_ok hc
  obtain ⟨_, w2, cx⟩ := window_ok hx
  have w3 : MayW fr tt := ⟨w1.1, w2.2.1, Int.lt_trans w1.2.2 w2.2.2⟩
  obtain ⟨n1, rfl, ml, q1, q2⟩ := win_follow ta ma w1.1 w1.2.1 w2.2.1 w1.2.2 w2.2.2 cc cx (window_cut ma w3 hl)
  obtain ⟨_, mc, _⟩ := cut_full ta cc
  obtain ⟨_, mx, _⟩ := cut_full ta cx
  refine ⟨?_, rfl, ?_⟩
  · rcases hy with ⟨n, _⟩ | ⟨_, _, _, _, e⟩ | ⟨_, _, o, _⟩ | ⟨_, _, o, _⟩
    · exact (n ⟨mc, mx⟩).elim
    · exact e
    · exact (n1 o).elim
    · exact (n1 o).elim
  · rcases i1 with ⟨n, _⟩ | ⟨_, _, e1, k1⟩
    · exact (n ⟨mc, ml⟩).elim
    rcases i2 with ⟨n, _⟩ | ⟨_, _, e2, k2⟩
    · exact (n ⟨mx, ml⟩).elim
    exact ⟨e1, e2, k1.2 q1, k2.2 q2⟩

set_option maxRecDepth 100000 in
set_option maxHeartbeats 16000000 in
theorem walk (a0 a1 a2 a3 a4 a5 lo : Int) (ls : Bool) (hi : Int) (hs op : Bool) (fr md tt : Int) (w : World) (ha : ∀ x ∈ [a0, a1, a2, a3, a4, a5], -9223372036854775808 ≤ x ∧ x ≤ 9223372036854775807) (hfr : -9223372036854775808 ≤ fr ∧ fr ≤ 9223372036854775807) (hmd : -9223372036854775808 ≤ md ∧ md ≤ 9223372036854775807) (htt : -9223372036854775808 ≤ tt ∧ tt ≤ 9223372036854775807) (hP : Pl w) : Calls Tryd.prog 6 #[.agg #[.int .i64 a0, .int .i64 a1, .int .i64 a2, .int .i64 a3, .int .i64 a4, .int .i64 a5], .agg #[.int .i64 lo, .bool ls, .int .i64 hi, .bool hs, .bool op], .int .i64 fr, .int .i64 md, .int .i64 tt] w fun e w' => e = .returned (.bool true) ∧ Below w.heap.size w w' := by
  have TA := Lib.hid (show Tops [a0, a1, a2, a3, a4, a5] from fun x hx => (ha x hx).2)
  have X : ∃ w0, w0 = (w.alloc (.cells #[.int .i64 a0, .int .i64 a1, .int .i64 a2, .int .i64 a3, .int .i64 a4, .int .i64 a5] 24)).alloc (.cells #[.int .i64 lo, .bool ls, .int .i64 hi, .bool hs, .bool op] 31) := ⟨_, rfl⟩
  obtain ⟨w0, hX⟩ := X
  have DB : Below w.heap.size w w0 := by rw [hX]; exact bound.up2 _ _ _
  have D0 : lies.Lies w0 w.heap.size 24 #[.int .i64 a0, .int .i64 a1, .int .i64 a2, .int .i64 a3, .int .i64 a4, .int .i64 a5] := by rw [hX]; exact lies.on_alloc (lies.made _ _ _) _
  have D1 : lies.Lies w0 (w.heap.size + 1) 31 #[.int .i64 lo, .bool ls, .int .i64 hi, .bool hs, .bool op] := by rw [hX]; exact lies.made_at _ _ _ _ (by simp)
  have P0 := hP.on DB
  clear hP ha hfr hmd htt
  go_enter Tryd.func6, Tryd.ntmps6
  go_wp2_with fail
  rw [← hX]
  clear hX
  refine (alive_yes w0 P0).mono ?_
  rintro e w1 ⟨rfl, hB⟩
  replace D0 := lies.on_call D0 hB
  replace D1 := lies.on_call D1 hB
  replace P0 := P0.on hB
  replace DB := later DB hB
  clear hB
  obtain ⟨⟨kD0_0, kD0_1, kD0_2, kD0_3, kD0_4, kD0_5⟩, -⟩ := six_cells D0
  have kD0_l := lies.lt D0
  obtain ⟨⟨kD1_0, kD1_1, kD1_2, kD1_3, kD1_4⟩, -⟩ := five_cells D1
  have kD1_l := lies.lt D1
  go_wp2_with fail
  clear kD0_0 kD0_1 kD0_2 kD0_3 kD0_4 kD0_5 kD0_l kD1_0 kD1_1 kD1_2 kD1_3 kD1_4 kD1_l
  refine (within_any a0 a1 a2 a3 a4 a5 lo ls hi hs op w1 P0 TA.out).mono ?_
  rintro e w2 ⟨hB, b0, b1, b2, b3, b4, b5, e, rfl, hX1⟩
  replace D0 := lies.on_call D0 hB
  replace D1 := lies.on_call D1 hB
  replace P0 := P0.on hB
  replace DB := later DB hB
  clear hB
  have HB := Lib.hid hX1
  have TB := Lib.hid (within_rt TA.out hX1)
  clear hX1
  obtain ⟨⟨kD0_0, kD0_1, kD0_2, kD0_3, kD0_4, kD0_5⟩, -⟩ := six_cells D0
  have kD0_l := lies.lt D0
  go_wp2_with fail
  clear kD0_0 kD0_1 kD0_2 kD0_3 kD0_4 kD0_5 kD0_l
  have hA := bound.up1 w2 (.cells #[.int .i64 b0, .int .i64 b1, .int .i64 b2, .int .i64 b3, .int .i64 b4, .int .i64 b5] 24)
  have D2 := lies.made w2 24 #[.int .i64 b0, .int .i64 b1, .int .i64 b2, .int .i64 b3, .int .i64 b4, .int .i64 b5]
  replace D0 := lies.on_call D0 hA
  replace D1 := lies.on_call D1 hA
  replace P0 := P0.on hA
  replace DB := later DB hA
  clear hA
  generalize w2.heap.size = XD2 at D2 ⊢
  generalize w2.alloc (.cells #[.int .i64 b0, .int .i64 b1, .int .i64 b2, .int .i64 b3, .int .i64 b4, .int .i64 b5] 24) = v3 at D0 D1 D2 P0 DB ⊢
  refine (window_any a0 a1 a2 a3 a4 a5 fr md v3 P0 TA.out).mono ?_
  rintro e w4 ⟨hB, c0, c1, c2, c3, c4, c5, f, rfl, hX1⟩
  replace D0 := lies.on_call D0 hB
  replace D1 := lies.on_call D1 hB
  replace D2 := lies.on_call D2 hB
  replace P0 := P0.on hB
  replace DB := later DB hB
  clear hB
  have HC := Lib.hid hX1
  have TC := Lib.hid (window_rt TA.out hX1)
  clear hX1
  by_cases he : e = 0
  · skip
    subst he
    by_cases hf : f = 0
    · skip
      subst hf
      obtain ⟨⟨kD2_0, kD2_1, kD2_2, kD2_3, kD2_4, kD2_5⟩, -⟩ := six_cells D2
      have kD2_l := lies.lt D2
      go_wp2_with fail
      clear kD2_0 kD2_1 kD2_2 kD2_3 kD2_4 kD2_5 kD2_l
      have hA := bound.up1 w4 (.cells #[.int .i64 c0, .int .i64 c1, .int .i64 c2, .int .i64 c3, .int .i64 c4, .int .i64 c5] 24)
      have D3 := lies.made w4 24 #[.int .i64 c0, .int .i64 c1, .int .i64 c2, .int .i64 c3, .int .i64 c4, .int .i64 c5]
      replace D0 := lies.on_call D0 hA
      replace D1 := lies.on_call D1 hA
      replace D2 := lies.on_call D2 hA
      replace P0 := P0.on hA
      replace DB := later DB hA
      clear hA
      generalize w4.heap.size = XD3 at D3 ⊢
      generalize w4.alloc (.cells #[.int .i64 c0, .int .i64 c1, .int .i64 c2, .int .i64 c3, .int .i64 c4, .int .i64 c5] 24) = v5 at D0 D1 D2 D3 P0 DB ⊢
      refine (window_any b0 b1 b2 b3 b4 b5 fr md v5 P0 TB.out).mono ?_
      rintro e w6 ⟨hB, d0, d1, d2, d3, d4, d5, g, rfl, hX1⟩
      replace D0 := lies.on_call D0 hB
      replace D1 := lies.on_call D1 hB
      replace D2 := lies.on_call D2 hB
      replace D3 := lies.on_call D3 hB
      replace P0 := P0.on hB
      replace DB := later DB hB
      clear hB
      have HD := Lib.hid hX1
      clear hX1
      obtain ⟨⟨kD3_0, kD3_1, kD3_2, kD3_3, kD3_4, kD3_5⟩, -⟩ := six_cells D3
      have kD3_l := lies.lt D3
      obtain ⟨⟨kD1_0, kD1_1, kD1_2, kD1_3, kD1_4⟩, -⟩ := five_cells D1
      have kD1_l := lies.lt D1
      go_wp2_with fail
      clear kD3_0 kD3_1 kD3_2 kD3_3 kD3_4 kD3_5 kD3_l kD1_0 kD1_1 kD1_2 kD1_3 kD1_4 kD1_l
      have hA := bound.up1 w6 (.cells #[.int .i64 d0, .int .i64 d1, .int .i64 d2, .int .i64 d3, .int .i64 d4, .int .i64 d5] 24)
      have D4 := lies.made w6 24 #[.int .i64 d0, .int .i64 d1, .int .i64 d2, .int .i64 d3, .int .i64 d4, .int .i64 d5]
      replace D0 := lies.on_call D0 hA
      replace D1 := lies.on_call D1 hA
      replace D2 := lies.on_call D2 hA
      replace D3 := lies.on_call D3 hA
      replace P0 := P0.on hA
      replace DB := later DB hA
      clear hA
      generalize w6.heap.size = XD4 at D4 ⊢
      generalize w6.alloc (.cells #[.int .i64 d0, .int .i64 d1, .int .i64 d2, .int .i64 d3, .int .i64 d4, .int .i64 d5] 24) = v7 at D0 D1 D2 D3 D4 P0 DB ⊢
      refine (within_any c0 c1 c2 c3 c4 c5 lo ls hi hs op v7 P0 TC.out).mono ?_
      rintro e w8 ⟨hB, h0, h1, h2, h3, h4, h5, k, rfl, hX1⟩
      replace D0 := lies.on_call D0 hB
      replace D1 := lies.on_call D1 hB
      replace D2 := lies.on_call D2 hB
      replace D3 := lies.on_call D3 hB
      replace D4 := lies.on_call D4 hB
      replace P0 := P0.on hB
      replace DB := later DB hB
      clear hB
      obtain ⟨e1, e2⟩ := order_one TA.out HB.out HC.out HD.out hX1
      subst e2
      obtain ⟨rfl, rfl, rfl, rfl, rfl, rfl⟩ : d0 = h0 ∧ d1 = h1 ∧ d2 = h2 ∧ d3 = h3 ∧ d4 = h4 ∧ d5 = h5 := by simpa using e1.symm
      clear e1 hX1 HD
      have hq : ∀ W, (Op.equalIn 10000 24 (.agg #[.int .i64 d0, .int .i64 d1, .int .i64 d2, .int .i64 d3, .int .i64 d4, .int .i64 d5]) (.agg #[.int .i64 d0, .int .i64 d1, .int .i64 d2, .int .i64 d3, .int .i64 d4, .int .i64 d5])).run Tryd.prog W = .ok true W := fun W => by rw [eq_zone]; simp
      obtain ⟨⟨kD4_0, kD4_1, kD4_2, kD4_3, kD4_4, kD4_5⟩, -⟩ := six_cells D4
      have kD4_l := lies.lt D4
      obtain ⟨⟨kD0_0, kD0_1, kD0_2, kD0_3, kD0_4, kD0_5⟩, -⟩ := six_cells D0
      have kD0_l := lies.lt D0
      go_wp2_with fail
      clear kD0_0 kD0_1 kD0_2 kD0_3 kD0_4 kD0_5 kD0_l
      have hA := bound.up1 w8 (.cells #[.int .i64 d0, .int .i64 d1, .int .i64 d2, .int .i64 d3, .int .i64 d4, .int .i64 d5] 24)
      have D5 := lies.made w8 24 #[.int .i64 d0, .int .i64 d1, .int .i64 d2, .int .i64 d3, .int .i64 d4, .int .i64 d5]
      replace D0 := lies.on_call D0 hA
      replace D1 := lies.on_call D1 hA
      replace D2 := lies.on_call D2 hA
      replace D3 := lies.on_call D3 hA
      replace D4 := lies.on_call D4 hA
      replace P0 := P0.on hA
      replace DB := later DB hA
      clear hA
      generalize w8.heap.size = XD5 at D5 ⊢
      generalize w8.alloc (.cells #[.int .i64 d0, .int .i64 d1, .int .i64 d2, .int .i64 d3, .int .i64 d4, .int .i64 d5] 24) = v9 at D0 D1 D2 D3 D4 D5 P0 DB ⊢
      refine (window_any a0 a1 a2 a3 a4 a5 md tt v9 P0 TA.out).mono ?_
      rintro e w10 ⟨hB, x0, x1, x2, x3, x4, x5, j, rfl, hX1⟩
      replace D0 := lies.on_call D0 hB
      replace D1 := lies.on_call D1 hB
      replace D2 := lies.on_call D2 hB
      replace D3 := lies.on_call D3 hB
      replace D4 := lies.on_call D4 hB
      replace D5 := lies.on_call D5 hB
      replace P0 := P0.on hB
      replace DB := later DB hB
      clear hB
      have HX := Lib.hid hX1
      have TX := Lib.hid (window_rt TA.out hX1)
      clear hX1
      by_cases hj : j = 0
      · skip
        subst hj
        obtain ⟨⟨kD3_0, kD3_1, kD3_2, kD3_3, kD3_4, kD3_5⟩, -⟩ := six_cells D3
        have kD3_l := lies.lt D3
        go_wp2_with fail
        clear kD3_0 kD3_1 kD3_2 kD3_3 kD3_4 kD3_5 kD3_l
        have hA := bound.up1 w10 (.cells #[.int .i64 x0, .int .i64 x1, .int .i64 x2, .int .i64 x3, .int .i64 x4, .int .i64 x5] 24)
        have D6 := lies.made w10 24 #[.int .i64 x0, .int .i64 x1, .int .i64 x2, .int .i64 x3, .int .i64 x4, .int .i64 x5]
        replace D0 := lies.on_call D0 hA
        replace D1 := lies.on_call D1 hA
        replace D2 := lies.on_call D2 hA
        replace D3 := lies.on_call D3 hA
        replace D4 := lies.on_call D4 hA
        replace D5 := lies.on_call D5 hA
        replace P0 := P0.on hA
        replace DB := later DB hA
        clear hA
        generalize w10.heap.size = XD6 at D6 ⊢
        generalize w10.alloc (.cells #[.int .i64 x0, .int .i64 x1, .int .i64 x2, .int .i64 x3, .int .i64 x4, .int .i64 x5] 24) = v11 at D0 D1 D2 D3 D4 D5 D6 P0 DB ⊢
        refine (zmeet_any c0 c1 c2 c3 c4 c5 x0 x1 x2 x3 x4 x5 v11 P0 TC.out TX.out).mono ?_
        rintro e w12 ⟨hB, y0, y1, y2, y3, y4, y5, m, rfl, hX1⟩
        replace D0 := lies.on_call D0 hB
        replace D1 := lies.on_call D1 hB
        replace D2 := lies.on_call D2 hB
        replace D3 := lies.on_call D3 hB
        replace D4 := lies.on_call D4 hB
        replace D5 := lies.on_call D5 hB
        replace D6 := lies.on_call D6 hB
        replace P0 := P0.on hB
        replace DB := later DB hB
        clear hB
        have HY := Lib.hid hX1
        clear hX1
        obtain ⟨⟨kD0_0, kD0_1, kD0_2, kD0_3, kD0_4, kD0_5⟩, -⟩ := six_cells D0
        have kD0_l := lies.lt D0
        go_wp2_with fail
        clear kD0_0 kD0_1 kD0_2 kD0_3 kD0_4 kD0_5 kD0_l
        have hA := bound.up1 w12 (.cells #[.int .i64 y0, .int .i64 y1, .int .i64 y2, .int .i64 y3, .int .i64 y4, .int .i64 y5] 24)
        have D7 := lies.made w12 24 #[.int .i64 y0, .int .i64 y1, .int .i64 y2, .int .i64 y3, .int .i64 y4, .int .i64 y5]
        replace D0 := lies.on_call D0 hA
        replace D1 := lies.on_call D1 hA
        replace D2 := lies.on_call D2 hA
        replace D3 := lies.on_call D3 hA
        replace D4 := lies.on_call D4 hA
        replace D5 := lies.on_call D5 hA
        replace D6 := lies.on_call D6 hA
        replace P0 := P0.on hA
        replace DB := later DB hA
        clear hA
        generalize w12.heap.size = XD7 at D7 ⊢
        generalize w12.alloc (.cells #[.int .i64 y0, .int .i64 y1, .int .i64 y2, .int .i64 y3, .int .i64 y4, .int .i64 y5] 24) = v13 at D0 D1 D2 D3 D4 D5 D6 D7 P0 DB ⊢
        refine (window_any a0 a1 a2 a3 a4 a5 fr tt v13 P0 TA.out).mono ?_
        rintro e w14 ⟨hB, l0, l1, l2, l3, l4, l5, n, rfl, hX1⟩
        replace D0 := lies.on_call D0 hB
        replace D1 := lies.on_call D1 hB
        replace D2 := lies.on_call D2 hB
        replace D3 := lies.on_call D3 hB
        replace D4 := lies.on_call D4 hB
        replace D5 := lies.on_call D5 hB
        replace D6 := lies.on_call D6 hB
        replace D7 := lies.on_call D7 hB
        replace P0 := P0.on hB
        replace DB := later DB hB
        clear hB
        have HL := Lib.hid hX1
        have TL := Lib.hid (window_rt TA.out hX1)
        clear hX1
        obtain ⟨⟨kD3_0, kD3_1, kD3_2, kD3_3, kD3_4, kD3_5⟩, -⟩ := six_cells D3
        have kD3_l := lies.lt D3
        go_wp2_with fail
        clear kD3_0 kD3_1 kD3_2 kD3_3 kD3_4 kD3_5 kD3_l
        have hA := bound.up1 w14 (.cells #[.int .i64 l0, .int .i64 l1, .int .i64 l2, .int .i64 l3, .int .i64 l4, .int .i64 l5] 24)
        have D8 := lies.made w14 24 #[.int .i64 l0, .int .i64 l1, .int .i64 l2, .int .i64 l3, .int .i64 l4, .int .i64 l5]
        replace D0 := lies.on_call D0 hA
        replace D1 := lies.on_call D1 hA
        replace D2 := lies.on_call D2 hA
        replace D3 := lies.on_call D3 hA
        replace D4 := lies.on_call D4 hA
        replace D5 := lies.on_call D5 hA
        replace D6 := lies.on_call D6 hA
        replace D7 := lies.on_call D7 hA
        replace P0 := P0.on hA
        replace DB := later DB hA
        clear hA
        generalize w14.heap.size = XD8 at D8 ⊢
        generalize w14.alloc (.cells #[.int .i64 l0, .int .i64 l1, .int .i64 l2, .int .i64 l3, .int .i64 l4, .int .i64 l5] 24) = v15 at D0 D1 D2 D3 D4 D5 D6 D7 D8 P0 DB ⊢
        refine (zin_any c0 c1 c2 c3 c4 c5 l0 l1 l2 l3 l4 l5 v15 P0 TC.out TL.out).mono ?_
        rintro e w16 ⟨hB, r1, j1, rfl, hX1⟩
        replace D0 := lies.on_call D0 hB
        replace D1 := lies.on_call D1 hB
        replace D2 := lies.on_call D2 hB
        replace D3 := lies.on_call D3 hB
        replace D4 := lies.on_call D4 hB
        replace D5 := lies.on_call D5 hB
        replace D6 := lies.on_call D6 hB
        replace D7 := lies.on_call D7 hB
        replace D8 := lies.on_call D8 hB
        replace P0 := P0.on hB
        replace DB := later DB hB
        clear hB
        have HI := Lib.hid hX1
        clear hX1
        obtain ⟨⟨kD6_0, kD6_1, kD6_2, kD6_3, kD6_4, kD6_5⟩, -⟩ := six_cells D6
        have kD6_l := lies.lt D6
        obtain ⟨⟨kD8_0, kD8_1, kD8_2, kD8_3, kD8_4, kD8_5⟩, -⟩ := six_cells D8
        have kD8_l := lies.lt D8
        go_wp2_with fail
        clear kD6_0 kD6_1 kD6_2 kD6_3 kD6_4 kD6_5 kD6_l kD8_0 kD8_1 kD8_2 kD8_3 kD8_4 kD8_5 kD8_l
        refine (zin_any x0 x1 x2 x3 x4 x5 l0 l1 l2 l3 l4 l5 w16 P0 TX.out TL.out).mono ?_
        rintro e w17 ⟨hB, r2, j2, rfl, hX1⟩
        replace D0 := lies.on_call D0 hB
        replace D1 := lies.on_call D1 hB
        replace D2 := lies.on_call D2 hB
        replace D3 := lies.on_call D3 hB
        replace D4 := lies.on_call D4 hB
        replace D5 := lies.on_call D5 hB
        replace D6 := lies.on_call D6 hB
        replace D7 := lies.on_call D7 hB
        replace D8 := lies.on_call D8 hB
        replace P0 := P0.on hB
        replace DB := later DB hB
        clear hB
        obtain ⟨rfl, rfl, rfl, rfl, rfl, rfl⟩ := follow_one TA.out HC.out HX.out HY.out HL.out HI.out hX1
        clear hX1 HB TB HC TC HX TX HY HL TL HI
        go_wp2_with fail
        go_ret
        exact ⟨rfl, DB⟩
      · skip
        have hbj : (j == 0) = false := by simpa using hj
        have hnj : (j != 0) = true := by simpa using hj
        clear hj HB TB HC TC HX TX
        go_wp2_with fail
        go_ret
        exact ⟨rfl, lies.frame_up DB _⟩
    · skip
      have hbf : (f == 0) = false := by simpa using hf
      have hnf : (f != 0) = true := by simpa using hf
      clear hnf
      obtain ⟨⟨kD0_0, kD0_1, kD0_2, kD0_3, kD0_4, kD0_5⟩, -⟩ := six_cells D0
      have kD0_l := lies.lt D0
      go_wp2_with fail
      clear kD0_0 kD0_1 kD0_2 kD0_3 kD0_4 kD0_5 kD0_l
      have hA := bound.up1 w4 (.cells #[.int .i64 c0, .int .i64 c1, .int .i64 c2, .int .i64 c3, .int .i64 c4, .int .i64 c5] 24)
      have D3 := lies.made w4 24 #[.int .i64 c0, .int .i64 c1, .int .i64 c2, .int .i64 c3, .int .i64 c4, .int .i64 c5]
      replace D0 := lies.on_call D0 hA
      replace D1 := lies.on_call D1 hA
      replace D2 := lies.on_call D2 hA
      replace P0 := P0.on hA
      replace DB := later DB hA
      clear hA
      generalize w4.heap.size = XD3 at D3 ⊢
      generalize w4.alloc (.cells #[.int .i64 c0, .int .i64 c1, .int .i64 c2, .int .i64 c3, .int .i64 c4, .int .i64 c5] 24) = v5 at D0 D1 D2 D3 P0 DB ⊢
      clear hbf
      refine (window_any a0 a1 a2 a3 a4 a5 md tt v5 P0 TA.out).mono ?_
      rintro e w6 ⟨hB, x0, x1, x2, x3, x4, x5, j, rfl, hX1⟩
      replace D0 := lies.on_call D0 hB
      replace D1 := lies.on_call D1 hB
      replace D2 := lies.on_call D2 hB
      replace D3 := lies.on_call D3 hB
      replace P0 := P0.on hB
      replace DB := later DB hB
      clear hB
      clear hX1
      have hbf : (f == 0) = false := by simpa using hf
      have hnf : (f != 0) = true := by simpa using hf
      clear HB TB HC TC hf
      go_wp2_with fail
      go_ret
      exact ⟨rfl, lies.frame_up DB _⟩
  · skip
    have hbe : (e == 0) = false := by simpa using he
    clear he
    by_cases hf : f = 0
    · skip
      subst hf
      obtain ⟨⟨kD0_0, kD0_1, kD0_2, kD0_3, kD0_4, kD0_5⟩, -⟩ := six_cells D0
      have kD0_l := lies.lt D0
      go_wp2_with fail
      clear kD0_0 kD0_1 kD0_2 kD0_3 kD0_4 kD0_5 kD0_l
      have hA := bound.up1 w4 (.cells #[.int .i64 c0, .int .i64 c1, .int .i64 c2, .int .i64 c3, .int .i64 c4, .int .i64 c5] 24)
      have D3 := lies.made w4 24 #[.int .i64 c0, .int .i64 c1, .int .i64 c2, .int .i64 c3, .int .i64 c4, .int .i64 c5]
      replace D0 := lies.on_call D0 hA
      replace D1 := lies.on_call D1 hA
      replace D2 := lies.on_call D2 hA
      replace P0 := P0.on hA
      replace DB := later DB hA
      clear hA
      generalize w4.heap.size = XD3 at D3 ⊢
      generalize w4.alloc (.cells #[.int .i64 c0, .int .i64 c1, .int .i64 c2, .int .i64 c3, .int .i64 c4, .int .i64 c5] 24) = v5 at D0 D1 D2 D3 P0 DB ⊢
      refine (window_any a0 a1 a2 a3 a4 a5 md tt v5 P0 TA.out).mono ?_
      rintro e w6 ⟨hB, x0, x1, x2, x3, x4, x5, j, rfl, hX1⟩
      replace D0 := lies.on_call D0 hB
      replace D1 := lies.on_call D1 hB
      replace D2 := lies.on_call D2 hB
      replace D3 := lies.on_call D3 hB
      replace P0 := P0.on hB
      replace DB := later DB hB
      clear hB
      have HX := Lib.hid hX1
      have TX := Lib.hid (window_rt TA.out hX1)
      clear hX1
      by_cases hj : j = 0
      · skip
        subst hj
        obtain ⟨⟨kD3_0, kD3_1, kD3_2, kD3_3, kD3_4, kD3_5⟩, -⟩ := six_cells D3
        have kD3_l := lies.lt D3
        go_wp2_with fail
        clear kD3_0 kD3_1 kD3_2 kD3_3 kD3_4 kD3_5 kD3_l
        have hA := bound.up1 w6 (.cells #[.int .i64 x0, .int .i64 x1, .int .i64 x2, .int .i64 x3, .int .i64 x4, .int .i64 x5] 24)
        have D6 := lies.made w6 24 #[.int .i64 x0, .int .i64 x1, .int .i64 x2, .int .i64 x3, .int .i64 x4, .int .i64 x5]
        replace D0 := lies.on_call D0 hA
        replace D1 := lies.on_call D1 hA
        replace D2 := lies.on_call D2 hA
        replace D3 := lies.on_call D3 hA
        replace P0 := P0.on hA
        replace DB := later DB hA
        clear hA
        generalize w6.heap.size = XD6 at D6 ⊢
        generalize w6.alloc (.cells #[.int .i64 x0, .int .i64 x1, .int .i64 x2, .int .i64 x3, .int .i64 x4, .int .i64 x5] 24) = v7 at D0 D1 D2 D3 D6 P0 DB ⊢
        refine (zmeet_any c0 c1 c2 c3 c4 c5 x0 x1 x2 x3 x4 x5 v7 P0 TC.out TX.out).mono ?_
        rintro e w8 ⟨hB, y0, y1, y2, y3, y4, y5, m, rfl, hX1⟩
        replace D0 := lies.on_call D0 hB
        replace D1 := lies.on_call D1 hB
        replace D2 := lies.on_call D2 hB
        replace D3 := lies.on_call D3 hB
        replace D6 := lies.on_call D6 hB
        replace P0 := P0.on hB
        replace DB := later DB hB
        clear hB
        have HY := Lib.hid hX1
        clear hX1
        obtain ⟨⟨kD0_0, kD0_1, kD0_2, kD0_3, kD0_4, kD0_5⟩, -⟩ := six_cells D0
        have kD0_l := lies.lt D0
        go_wp2_with fail
        clear kD0_0 kD0_1 kD0_2 kD0_3 kD0_4 kD0_5 kD0_l
        have hA := bound.up1 w8 (.cells #[.int .i64 y0, .int .i64 y1, .int .i64 y2, .int .i64 y3, .int .i64 y4, .int .i64 y5] 24)
        have D7 := lies.made w8 24 #[.int .i64 y0, .int .i64 y1, .int .i64 y2, .int .i64 y3, .int .i64 y4, .int .i64 y5]
        replace D0 := lies.on_call D0 hA
        replace D1 := lies.on_call D1 hA
        replace D2 := lies.on_call D2 hA
        replace D3 := lies.on_call D3 hA
        replace D6 := lies.on_call D6 hA
        replace P0 := P0.on hA
        replace DB := later DB hA
        clear hA
        generalize w8.heap.size = XD7 at D7 ⊢
        generalize w8.alloc (.cells #[.int .i64 y0, .int .i64 y1, .int .i64 y2, .int .i64 y3, .int .i64 y4, .int .i64 y5] 24) = v9 at D0 D1 D2 D3 D6 D7 P0 DB ⊢
        refine (window_any a0 a1 a2 a3 a4 a5 fr tt v9 P0 TA.out).mono ?_
        rintro e w10 ⟨hB, l0, l1, l2, l3, l4, l5, n, rfl, hX1⟩
        replace D0 := lies.on_call D0 hB
        replace D1 := lies.on_call D1 hB
        replace D2 := lies.on_call D2 hB
        replace D3 := lies.on_call D3 hB
        replace D6 := lies.on_call D6 hB
        replace D7 := lies.on_call D7 hB
        replace P0 := P0.on hB
        replace DB := later DB hB
        clear hB
        have HL := Lib.hid hX1
        have TL := Lib.hid (window_rt TA.out hX1)
        clear hX1
        obtain ⟨⟨kD3_0, kD3_1, kD3_2, kD3_3, kD3_4, kD3_5⟩, -⟩ := six_cells D3
        have kD3_l := lies.lt D3
        go_wp2_with fail
        clear kD3_0 kD3_1 kD3_2 kD3_3 kD3_4 kD3_5 kD3_l
        have hA := bound.up1 w10 (.cells #[.int .i64 l0, .int .i64 l1, .int .i64 l2, .int .i64 l3, .int .i64 l4, .int .i64 l5] 24)
        have D8 := lies.made w10 24 #[.int .i64 l0, .int .i64 l1, .int .i64 l2, .int .i64 l3, .int .i64 l4, .int .i64 l5]
        replace D0 := lies.on_call D0 hA
        replace D1 := lies.on_call D1 hA
        replace D2 := lies.on_call D2 hA
        replace D3 := lies.on_call D3 hA
        replace D6 := lies.on_call D6 hA
        replace D7 := lies.on_call D7 hA
        replace P0 := P0.on hA
        replace DB := later DB hA
        clear hA
        generalize w10.heap.size = XD8 at D8 ⊢
        generalize w10.alloc (.cells #[.int .i64 l0, .int .i64 l1, .int .i64 l2, .int .i64 l3, .int .i64 l4, .int .i64 l5] 24) = v11 at D0 D1 D2 D3 D6 D7 D8 P0 DB ⊢
        refine (zin_any c0 c1 c2 c3 c4 c5 l0 l1 l2 l3 l4 l5 v11 P0 TC.out TL.out).mono ?_
        rintro e w12 ⟨hB, r1, j1, rfl, hX1⟩
        replace D0 := lies.on_call D0 hB
        replace D1 := lies.on_call D1 hB
        replace D2 := lies.on_call D2 hB
        replace D3 := lies.on_call D3 hB
        replace D6 := lies.on_call D6 hB
        replace D7 := lies.on_call D7 hB
        replace D8 := lies.on_call D8 hB
        replace P0 := P0.on hB
        replace DB := later DB hB
        clear hB
        have HI := Lib.hid hX1
        clear hX1
        obtain ⟨⟨kD6_0, kD6_1, kD6_2, kD6_3, kD6_4, kD6_5⟩, -⟩ := six_cells D6
        have kD6_l := lies.lt D6
        obtain ⟨⟨kD8_0, kD8_1, kD8_2, kD8_3, kD8_4, kD8_5⟩, -⟩ := six_cells D8
        have kD8_l := lies.lt D8
        go_wp2_with fail
        clear kD6_0 kD6_1 kD6_2 kD6_3 kD6_4 kD6_5 kD6_l kD8_0 kD8_1 kD8_2 kD8_3 kD8_4 kD8_5 kD8_l
        refine (zin_any x0 x1 x2 x3 x4 x5 l0 l1 l2 l3 l4 l5 w12 P0 TX.out TL.out).mono ?_
        rintro e w13 ⟨hB, r2, j2, rfl, hX1⟩
        replace D0 := lies.on_call D0 hB
        replace D1 := lies.on_call D1 hB
        replace D2 := lies.on_call D2 hB
        replace D3 := lies.on_call D3 hB
        replace D6 := lies.on_call D6 hB
        replace D7 := lies.on_call D7 hB
        replace D8 := lies.on_call D8 hB
        replace P0 := P0.on hB
        replace DB := later DB hB
        clear hB
        obtain ⟨rfl, rfl, rfl, rfl, rfl, rfl⟩ := follow_one TA.out HC.out HX.out HY.out HL.out HI.out hX1
        clear hX1 HB TB HC TC HX TX HY HL TL HI
        go_wp2_with fail
        go_ret
        exact ⟨rfl, DB⟩
      · skip
        have hbj : (j == 0) = false := by simpa using hj
        have hnj : (j != 0) = true := by simpa using hj
        clear hj HB TB HC TC HX TX
        go_wp2_with fail
        go_ret
        exact ⟨rfl, lies.frame_up DB _⟩
    · skip
      obtain ⟨⟨kD0_0, kD0_1, kD0_2, kD0_3, kD0_4, kD0_5⟩, -⟩ := six_cells D0
      have kD0_l := lies.lt D0
      go_wp2_with fail
      clear kD0_0 kD0_1 kD0_2 kD0_3 kD0_4 kD0_5 kD0_l
      have hA := bound.up1 w4 (.cells #[.int .i64 c0, .int .i64 c1, .int .i64 c2, .int .i64 c3, .int .i64 c4, .int .i64 c5] 24)
      have D3 := lies.made w4 24 #[.int .i64 c0, .int .i64 c1, .int .i64 c2, .int .i64 c3, .int .i64 c4, .int .i64 c5]
      replace D0 := lies.on_call D0 hA
      replace D1 := lies.on_call D1 hA
      replace D2 := lies.on_call D2 hA
      replace P0 := P0.on hA
      replace DB := later DB hA
      clear hA
      generalize w4.heap.size = XD3 at D3 ⊢
      generalize w4.alloc (.cells #[.int .i64 c0, .int .i64 c1, .int .i64 c2, .int .i64 c3, .int .i64 c4, .int .i64 c5] 24) = v5 at D0 D1 D2 D3 P0 DB ⊢
      refine (window_any a0 a1 a2 a3 a4 a5 md tt v5 P0 TA.out).mono ?_
      rintro e w6 ⟨hB, x0, x1, x2, x3, x4, x5, j, rfl, hX1⟩
      replace D0 := lies.on_call D0 hB
      replace D1 := lies.on_call D1 hB
      replace D2 := lies.on_call D2 hB
      replace D3 := lies.on_call D3 hB
      replace P0 := P0.on hB
      replace DB := later DB hB
      clear hB
      have HX := Lib.hid hX1
      have TX := Lib.hid (window_rt TA.out hX1)
      clear hX1
      have hbf : (f == 0) = false := by simpa using hf
      have hnf : (f != 0) = true := by simpa using hf
      clear HB TB HC TC HX TX hf
      go_wp2_with fail
      go_ret
      exact ⟨rfl, lies.frame_up DB _⟩

set_option maxRecDepth 100000 in
theorem lifted (os : Os) (started : os.Started) (H : Type) (enc : TypeId × Value → H) :
    ReturnsInHanded {} Tryd.checked os 6 .any (fun w args => (Rows.winOrderSpec.pre enc Tryd.prog Tryd.f6 [] false w args ∧ laidMetH Tryd.prog zopen.places w) ∧ sizedMet enc Tryd.prog Tryd.f6 (OpenSpec.ofChange Rows.winOrderSpec) false w args) (Rows.winOrderSpec.post enc Tryd.prog Tryd.f6 false true false false) := by
  refine returnsInHanded_of_change_and (C := Tryd.checked) (X := fun w _ => laidMetH Tryd.prog zopen.places w) (fun _ _ _ hh h => h.of_heap hh) law.own started (by kernel_rfl) Tryd.func6
    (ChangeSpec.witness_shaped (enc := enc) (C := Tryd.checked) (os := os) (X := fun w _ => laidMetH Tryd.prog zopen.places w) false (World.doorLaid Tryd.prog 400 os) #[.agg #[.int .i64 0, .int .i64 0, .int .i64 0, .int .i64 0, .int .i64 0, .int .i64 0], .agg #[.int .i64 0, .bool false, .int .i64 0, .bool false, .bool false], .int .i64 0, .int .i64 0, .int .i64 0] 8 rfl (World.shaped_of_RefB (by kernel_rfl) (by kernel_rfl)) (by kernel_rfl) (by kernel_rfl) (by kernel_rfl) (zopen.door_met os _)) ?_
  intro W base args ds gs before hval0 hW _ _ hL _
  have hval : ∀ (j : Nat) t v, Tryd.f6.params[j]? = some t → args[j]? = some v → Value.okWide Tryd.prog W .any base t v := hval0
  have hW' := hW
  obtain ⟨p, q, hA0, hV, rfl, _, _⟩ := hW
  have hA : DataW.TrodAll enc Tryd.prog W 0 (fun _ => true) true Tryd.f6.params.toList args.toList ds p := hA0
  rw [Tryd.params6] at hA hval
  obtain ⟨v0, vs0, d0, ds0, p0, q0, hargs, rfl, rfl, h0, r0⟩ := trodAll_cons hA
  obtain ⟨v1, vs1, d1, ds1, p1, q1, rfl, rfl, rfl, h1, r1⟩ := trodAll_cons r0
  obtain ⟨v2, vs2, d2, ds2, p2, q2, rfl, rfl, rfl, h2, r2⟩ := trodAll_cons r1
  obtain ⟨v3, vs3, d3, ds3, p3, q3, rfl, rfl, rfl, h3, r3⟩ := trodAll_cons r2
  obtain ⟨v4, vs4, d4, ds4, p4, q4, rfl, rfl, rfl, h4, r4⟩ := trodAll_cons r3
  obtain ⟨rfl, rfl, rfl⟩ := trodAll_nil r4
  obtain rfl : args = #[v0, v1, v2, v3, v4] := by cases args; simp_all
  obtain ⟨z00, z01, z02, z03, z04, z05, rfl, w0⟩ := zopen.open_zone (hval 0 24 v0 rfl rfl) h0
  obtain ⟨lo1, ls1, hi1, hs1, op1, rfl⟩ := tlaw.open_span (hval 1 31 v1 rfl rfl) h1
  obtain ⟨m2, rfl, rfl, rfl, x2⟩ := open_int Tryd.underlying3 (hval 2 3 v2 rfl rfl) h2
  obtain ⟨m3, rfl, rfl, rfl, x3⟩ := open_int Tryd.underlying3 (hval 3 3 v3 rfl rfl) h3
  obtain ⟨m4, rfl, rfl, rfl, x4⟩ := open_int Tryd.underlying3 (hval 4 3 v4 rfl rfl) h4
  refine (walk z00 z01 z02 z03 z04 z05 lo1 ls1 hi1 hs1 op1 m2 m3 m4 W (fun x hx => ⟨law.wf_lo (w0 x hx), law.wf_hi (w0 x hx)⟩) ⟨law.wf_lo x2, law.wf_hi x2⟩ ⟨law.wf_lo x3, law.wf_hi x3⟩ ⟨law.wf_lo x4, law.wf_hi x4⟩ (zopen.laid_pl hL)).mono fun e W' ⟨he, hB⟩ => ?_
  subst he
  exact ⟨_, rfl, law.post_true law.laidOut (by kernel_rfl) rfl Tryd.underlying4 rfl hW' (fun h => by subst h; rfl) hB⟩

theorem proved : Rows.WinOrderSaid :=
  OpenClaim.holds_of_wide 6 Tryd.f6 rfl rfl rfl rfl rfl rfl rfl ⟨rfl, rfl, rfl, rfl, rfl⟩ rfl rfl rfl rfl rfl (by kernel_rfl) Tryd.func6 (by kernel_rfl)
    (of_decide_eq_true (by kernel_rfl)) (by unfold Func.isWrapper; first | (rw [if_pos (by decide +kernel)]; kernel_rfl) | (rw [if_neg (by decide +kernel)]; exact ⟨rfl, rfl⟩))
    (fun os started H enc _ => lifted os started H enc)
theorem card : Rows.WinOrderCardSaid :=
  Claim7.holds_tied_plain_at .later [] [.data] true (true, "0e35938ca2f85e4d4a747e9ff2f0a86df4808d42b014bcedf4017d6c199ae299") false
    proved (fun _ h => by cases h) (by kernel_rfl) (fun _ h => by cases h) winOrder_row_tie rfl ⟨rfl, rfl⟩ (by kernel_rfl) rfl
    (fun f fn hf hfn => by
      obtain rfl : f = 6 := Option.some.inj ((show Tryd.prog.funcNamed "rallentando/rallentandolaw10.WinOrder" = some 6 by kernel_rfl).symm.trans hf) |>.symm
      obtain rfl : fn = Tryd.f6 := (Option.some.inj (Tryd.func6.symm.trans hfn)).symm
      exact ⟨by kernel_rfl, fun j t ht => by
        rw [Tryd.params6] at ht
        have hm : t ∈ [24, 31, 3, 3, 3] := by simpa using Array.mem_of_getElem? ht
        have hall : ([24, 31, 3, 3, 3].all fun u => !Tryd.prog.wantsStandIn u) = true := by kernel_rfl
        exact (show Tryd.prog.wantsStandIn t = false by simpa using List.all_eq_true.1 hall t hm)⟩)
    (by kernel_rfl)
#print axioms card
end Go.Proofs.YtcaoooddmmhieaaDoor.winOrder
