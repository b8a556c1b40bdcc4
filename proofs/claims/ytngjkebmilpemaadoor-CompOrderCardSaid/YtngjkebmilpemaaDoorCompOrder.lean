/-
  CompOrder answers true for every three zones; the listed variable reads as the program lays it.
-/
import Derived.Test.YtngjkebmilpemaaDoorCompM
import Derived.Test.YtngjkebmilpemaaDoorCards
import Derived.Test.YtngjkebmilpemaaDoorTie
import Derived.BigQuiet
namespace Go.Proofs.YtngjkebmilpemaaDoor.compOrder
open Go.Joins Go.ChangeShapes Go.WideShapes Go.ChangeAt Go.RowKit num rat dbm Go.Proofs.YtngjkebmilpemaaDoor.tight Go.Proofs.YtngjkebmilpemaaDoor.incl Go.Proofs.YtngjkebmilpemaaDoor.plaw Go.Proofs.YtngjkebmilpemaaDoor.zopen Go.Proofs.YtngjkebmilpemaaDoor.zone Go.Proofs.YtngjkebmilpemaaDoor.zlaw Go.Proofs.YtngjkebmilpemaaDoor.comp Go.Proofs.YtngjkebmilpemaaDoor.claw
open bound hiding up
set_option linter.unusedVariables false
set_option linter.unusedSimpArgs false

theorem comp_four {a b z : List Int} (h : CompR a b z 0) : MayZ a ∧ MayZ b ∧ OkD 4 (bothT a b) ∧ MayZ (compT a b) ∧ z = compT a b := by
  rcases h with ⟨_, _, n⟩ | ⟨_, _, _, _, n⟩ | ⟨_, _, _, _, _, n⟩ | ⟨h1, h2, h3, h4, h5, _⟩
  · exact absurd n (by decide)
  · exact absurd n (by decide)
  · exact absurd n (by decide)
  · exact ⟨h1, h2, h3, h4, h5⟩
theorem zero_tops : Tops zero6 := by unfold Tops zero6; decide
theorem comp_rt {a b z : List Int} {f : Int} (ta : Tops a) (tb : Tops b) (h : CompR a b z f) : Tops z := by
  rcases h with ⟨_, rfl, _⟩ | ⟨_, _, _, rfl, _⟩ | ⟨_, _, _, _, rfl, _⟩ | ⟨_, _, h, _, rfl, _⟩
  · exact zero_tops
  · exact zero_tops
  · exact zero_tops
  · exact comp_tops ta tb h
theorem meet_rt {a b z : List Int} {f : Int} (ta : Tops a) (h : MeetR a b z f) : Tops z := by
  rcases h with ⟨_, rfl, _⟩ | ⟨_, _, _, rfl, _⟩ | ⟨_, _, _, _, rfl, _⟩ | ⟨_, _, _, _, rfl, _⟩
  · exact zero_tops
  · exact zero_tops
  · exact zero_tops
  · exact short_tops (clT_tops (lesT_tops (full_tops ta) _))
/-- which two of three come first. -/
theorem assoc_one {a b c x y u v : List Int} {g h : Int} (ta : Tops a) (tb : Tops b) (tc : Tops c) (hx : CompR a b x 0) (hy : CompR b c y 0) (hu : CompR x c u g) (hv : CompR a y v h) : v = u ∧ h = g := by
  obtain ⟨ma, mb, oab, mx, rfl⟩ := comp_four hx
  obtain ⟨_, mc, obc, my, rfl⟩ := comp_four hy
  obtain ⟨k1, k2⟩ := first_same ta tb tc ma.may mb.may mc.may oab obc mx.may my.may
  refine comp_one hu ?_
  rcases hv with ⟨n, _⟩ | ⟨_, _, n, h1, h2⟩ | ⟨_, _, k, n, h1, h2⟩ | ⟨_, _, k, m, h1, h2⟩
  · exact (n ⟨ma, my⟩).elim
  · exact .inr (.inl ⟨mx, mc, fun q => n (k1.1 q), h1, h2⟩)
  · exact .inr (.inr (.inl ⟨mx, mc, k1.2 k, by rw [k2 (k1.2 k)]; exact n, h1, h2⟩))
  · exact .inr (.inr (.inr ⟨mx, mc, k1.2 k, by rw [k2 (k1.2 k)]; exact m, by rw [k2 (k1.2 k)]; exact h1, h2⟩))
/-- the other way round. -/
theorem back_one {a b x r : List Int} {e j : Int} (la : a.length = 6) (lb : b.length = 6) (ta : Tops a) (tb : Tops b) (ma : MayZ a) (mb : MayZ b) (hx : CompR a b x e) (hr : CompR (backT b) (backT a) r j) : j = e ∧ (e = 0 → r = backT x) := by
  obtain ⟨k1, k2⟩ := back_same la lb ta tb ma.may mb.may
  have pa := back_may ta ma
  have pb := back_may tb mb
  rcases hx with ⟨n, _⟩ | ⟨_, _, n, rfl, rfl⟩ | ⟨_, _, k, n, rfl, rfl⟩ | ⟨_, _, k, m, rfl, rfl⟩
  · exact (n ⟨ma, mb⟩).elim
  · obtain ⟨h1, h2⟩ := comp_one (.inr (.inl ⟨pb, pa, fun q => n (k1.1 q), rfl, rfl⟩)) hr
    exact ⟨h2, fun q => absurd q (by decide)⟩
  · have hn : ¬ MayD 3 (fullT (compT (backT b) (backT a))) := fun q => n (by
      rw [k2 k] at q
      have := back_mayd q
      rwa [back_back (comp_length a b)] at this)
    obtain ⟨h1, h2⟩ := comp_one (.inr (.inr (.inl ⟨pb, pa, k1.2 k, hn, rfl, rfl⟩))) hr
    exact ⟨h2, fun q => absurd q (by decide)⟩
  · obtain ⟨h1, h2⟩ := comp_one (.inr (.inr (.inr ⟨pb, pa, k1.2 k, by rw [k2 k]; exact back_may (comp_tops ta tb k) m, (k2 k).symm, rfl⟩))) hr
    exact ⟨h2, fun _ => h1⟩
/-- what two have in common lies in the first one. -/
theorem meet_le {a c l : List Int} (ta : Tops a) (h : MeetR a c l 0) : MayZ a ∧ ∀ p, p < 9 → (fullT l)[p]?.getD 0 ≤ (fullT a)[p]?.getD 0 := by
  rcases h with ⟨_, _, n⟩ | ⟨_, _, _, _, n⟩ | ⟨_, _, _, _, _, n⟩ | ⟨ma, mc, ho, hm, rfl, _⟩
  · exact absurd n (by decide)
  · exact absurd n (by decide)
  · exact absurd n (by decide)
  · have tl := lesT_tops (full_tops ta) (fullT c)
    obtain ⟨e1, _⟩ := of_may (lesT_length _ _) tl ho hm
    refine ⟨ma, fun p hp => ?_⟩
    rw [e1]
    have k := closed_le (n := 3) (by decide) (by decide) (lesT_length _ _) tl ho.1.2.2.2 (fun k hk => ho.2.2 k (by simpa using hk)) (i := p / 3) (j := p % 3) (by omega) (by omega)
    rw [← show clT ((3 : Nat) : Int) (lesT (fullT a) (fullT c)) = tabs 3 (by decide) (lesT (fullT a) (fullT c)) 3 from clT_nat (m := 3) (by decide) _] at k
    unfold tat at k
    rw [show p / 3 * 3 + p % 3 = p by omega, lesT_at _ _ (by exact hp)] at k
    exact Int.le_trans k (lsr_le _ _).1
/-- a lesser zone composes to a lesser one. -/
theorem less_in {a b c l m x : List Int} {e n : Int} {r : Bool} (ta : Tops a) (tb : Tops b) (hl : MeetR a c l 0) (hm : CompR l b m 0) (hx : CompR a b x e) (hr : InR m x r n) (he : e = 0) : n = 0 ∧ r = true := by
  subst he
  obtain ⟨ma, mb, oab, mx, rfl⟩ := comp_four hx
  obtain ⟨ml, _, olb, mm, rfl⟩ := comp_four hm
  obtain ⟨_, hle⟩ := meet_le ta hl
  have tl := meet_rt ta hl
  obtain ⟨_, k⟩ := less_comp tl ta tb ma.may mb.may hle olb
  rcases hr with ⟨n, _⟩ | ⟨_, _, h, hi⟩
  · exact (n ⟨mm, mx⟩).elim
  · exact ⟨h, hi.2 ((in_le mm).2 k)⟩
theorem back_six (a0 a1 a2 a3 a4 a5 : Int) : backT [a0, a1, a2, a3, a4, a5] = [a2, a3, a0, a1, a5, a4] := rfl
theorem back_yes {a p : List Int} {g : Int} (h : MayZ a) (k : BackR a p g) : p = backT a ∧ g = 0 := by
  rcases k with ⟨n, _⟩ | ⟨_, h1, h2⟩
  · exact (n h).elim
  · exact ⟨h1, h2⟩
theorem back_no {a p : List Int} {g : Int} (h : ¬ MayZ a) (k : BackR a p g) : g = 8 := by
  rcases k with ⟨_, _, h2⟩ | ⟨n, _⟩
  · exact h2
  · exact (h n).elim

set_option maxRecDepth 100000 in
set_option maxHeartbeats 16000000 in
theorem walk (a0 a1 a2 a3 a4 a5 b0 b1 b2 b3 b4 b5 c0 c1 c2 c3 c4 c5 : Int) (w : World) (ha : ∀ x ∈ [a0, a1, a2, a3, a4, a5], -9223372036854775808 ≤ x ∧ x ≤ 9223372036854775807) (hb : ∀ x ∈ [b0, b1, b2, b3, b4, b5], -9223372036854775808 ≤ x ∧ x ≤ 9223372036854775807) (hc : ∀ x ∈ [c0, c1, c2, c3, c4, c5], -9223372036854775808 ≤ x ∧ x ≤ 9223372036854775807) (hP : Pl w) : Calls Tryd.prog 6 #[.agg #[.int .i64 a0, .int .i64 a1, .int .i64 a2, .int .i64 a3, .int .i64 a4, .int .i64 a5], .agg #[.int .i64 b0, .int .i64 b1, .int .i64 b2, .int .i64 b3, .int .i64 b4, .int .i64 b5], .agg #[.int .i64 c0, .int .i64 c1, .int .i64 c2, .int .i64 c3, .int .i64 c4, .int .i64 c5]] w fun e w' => e = .returned (.bool true) ∧ Below w.heap.size w w' := by
  have TA := Lib.hid (show Tops [a0, a1, a2, a3, a4, a5] from fun x hx => (ha x hx).2)
  have TB := Lib.hid (show Tops [b0, b1, b2, b3, b4, b5] from fun x hx => (hb x hx).2)
  have TC := Lib.hid (show Tops [c0, c1, c2, c3, c4, c5] from fun x hx => (hc x hx).2)
  have X : ∃ w0, w0 = ((w.alloc (.cells #[.int .i64 a0, .int .i64 a1, .int .i64 a2, .int .i64 a3, .int .i64 a4, .int .i64 a5] 24)).alloc (.cells #[.int .i64 b0, .int .i64 b1, .int .i64 b2, .int .i64 b3, .int .i64 b4, .int .i64 b5] 24)).alloc (.cells #[.int .i64 c0, .int .i64 c1, .int .i64 c2, .int .i64 c3, .int .i64 c4, .int .i64 c5] 24) := ⟨_, rfl⟩
  obtain ⟨w0, hX⟩ := X
  have DB : Below w.heap.size w w0 := by rw [hX]; exact bound.up3 _ _ _ _
  have D0 : lies.Lies w0 w.heap.size 24 #[.int .i64 a0, .int .i64 a1, .int .i64 a2, .int .i64 a3, .int .i64 a4, .int .i64 a5] := by rw [hX]; exact lies.on_alloc (lies.on_alloc (lies.made _ _ _) _) _
  have D1 : lies.Lies w0 (w.heap.size + 1) 24 #[.int .i64 b0, .int .i64 b1, .int .i64 b2, .int .i64 b3, .int .i64 b4, .int .i64 b5] := by rw [hX]; exact lies.on_alloc (lies.made_at _ _ _ _ (by simp)) _
  have D2 : lies.Lies w0 (w.heap.size + 1 + 1) 24 #[.int .i64 c0, .int .i64 c1, .int .i64 c2, .int .i64 c3, .int .i64 c4, .int .i64 c5] := by rw [hX]; exact lies.made_at _ _ _ _ (by simp)
  have P0 := hP.on DB
  clear hP ha hb hc
  go_enter Tryd.func6, Tryd.ntmps6
  go_wp2_with fail
  rw [← hX]
  clear hX
  refine (alive_yes w0 P0).mono ?_
  rintro e w1 ⟨rfl, hB⟩
  replace D0 := lies.on_call D0 hB
  replace D1 := lies.on_call D1 hB
  replace D2 := lies.on_call D2 hB
  replace P0 := P0.on hB
  replace DB := later DB hB
  clear hB
  obtain ⟨⟨kD0_0, kD0_1, kD0_2, kD0_3, kD0_4, kD0_5⟩, -⟩ := six_cells D0
  have kD0_l := lies.lt D0
  obtain ⟨⟨kD1_0, kD1_1, kD1_2, kD1_3, kD1_4, kD1_5⟩, -⟩ := six_cells D1
  have kD1_l := lies.lt D1
  go_wp2_with fail
  clear kD0_0 kD0_1 kD0_2 kD0_3 kD0_4 kD0_5 kD0_l kD1_0 kD1_1 kD1_2 kD1_3 kD1_4 kD1_5 kD1_l
  refine (comp_any a0 a1 a2 a3 a4 a5 b0 b1 b2 b3 b4 b5 w1 P0 TA.out TB.out).mono ?_
  rintro e w2 ⟨hB, x0, x1, x2, x3, x4, x5, e, rfl, hX⟩
  replace D0 := lies.on_call D0 hB
  replace D1 := lies.on_call D1 hB
  replace D2 := lies.on_call D2 hB
  replace P0 := P0.on hB
  replace DB := later DB hB
  clear hB
  have HX := Lib.hid hX
  have TX := Lib.hid (comp_rt TA.out TB.out hX)
  clear hX
  obtain ⟨⟨kD1_0, kD1_1, kD1_2, kD1_3, kD1_4, kD1_5⟩, -⟩ := six_cells D1
  have kD1_l := lies.lt D1
  obtain ⟨⟨kD2_0, kD2_1, kD2_2, kD2_3, kD2_4, kD2_5⟩, -⟩ := six_cells D2
  have kD2_l := lies.lt D2
  go_wp2_with fail
  clear kD1_0 kD1_1 kD1_2 kD1_3 kD1_4 kD1_5 kD1_l kD2_0 kD2_1 kD2_2 kD2_3 kD2_4 kD2_5 kD2_l
  have hA := bound.up1 w2 (.cells #[.int .i64 x0, .int .i64 x1, .int .i64 x2, .int .i64 x3, .int .i64 x4, .int .i64 x5] 24)
  have D3 := lies.made w2 24 #[.int .i64 x0, .int .i64 x1, .int .i64 x2, .int .i64 x3, .int .i64 x4, .int .i64 x5]
  replace D0 := lies.on_call D0 hA
  replace D1 := lies.on_call D1 hA
  replace D2 := lies.on_call D2 hA
  replace P0 := P0.on hA
  replace DB := later DB hA
  clear hA
  generalize w2.heap.size = XD3 at D3 ⊢
  generalize w2.alloc (.cells #[.int .i64 x0, .int .i64 x1, .int .i64 x2, .int .i64 x3, .int .i64 x4, .int .i64 x5] 24) = v3 at D0 D1 D2 D3 P0 DB ⊢
  refine (comp_any b0 b1 b2 b3 b4 b5 c0 c1 c2 c3 c4 c5 v3 P0 TB.out TC.out).mono ?_
  rintro e w4 ⟨hB, y0, y1, y2, y3, y4, y5, f, rfl, hY⟩
  replace D0 := lies.on_call D0 hB
  replace D1 := lies.on_call D1 hB
  replace D2 := lies.on_call D2 hB
  replace D3 := lies.on_call D3 hB
  replace P0 := P0.on hB
  replace DB := later DB hB
  clear hB
  have HY := Lib.hid hY
  have TY := Lib.hid (comp_rt TB.out TC.out hY)
  clear hY
  by_cases hz : MayZ [a0, a1, a2, a3, a4, a5] ∧ MayZ [b0, b1, b2, b3, b4, b5]
  · skip
    have HMA := Lib.hid hz.1
    have HMB := Lib.hid hz.2
    clear hz
    by_cases he : e = 0
    · skip
      subst he
      have HMX := Lib.hid (show MayZ [x0, x1, x2, x3, x4, x5] from by obtain ⟨_, _, _, k, h⟩ := comp_four HX.out; rw [h]; exact k)
      by_cases hf : f = 0
      · skip
        subst hf
        obtain ⟨⟨kD3_0, kD3_1, kD3_2, kD3_3, kD3_4, kD3_5⟩, -⟩ := six_cells D3
        have kD3_l := lies.lt D3
        obtain ⟨⟨kD2_0, kD2_1, kD2_2, kD2_3, kD2_4, kD2_5⟩, -⟩ := six_cells D2
        have kD2_l := lies.lt D2
        go_wp2_with fail
        clear kD3_0 kD3_1 kD3_2 kD3_3 kD3_4 kD3_5 kD3_l kD2_0 kD2_1 kD2_2 kD2_3 kD2_4 kD2_5 kD2_l
        have hA := bound.up1 w4 (.cells #[.int .i64 y0, .int .i64 y1, .int .i64 y2, .int .i64 y3, .int .i64 y4, .int .i64 y5] 24)
        have D4 := lies.made w4 24 #[.int .i64 y0, .int .i64 y1, .int .i64 y2, .int .i64 y3, .int .i64 y4, .int .i64 y5]
        replace D0 := lies.on_call D0 hA
        replace D1 := lies.on_call D1 hA
        replace D2 := lies.on_call D2 hA
        replace D3 := lies.on_call D3 hA
        replace P0 := P0.on hA
        replace DB := later DB hA
        clear hA
        generalize w4.heap.size = XD4 at D4 ⊢
        generalize w4.alloc (.cells #[.int .i64 y0, .int .i64 y1, .int .i64 y2, .int .i64 y3, .int .i64 y4, .int .i64 y5] 24) = v5 at D0 D1 D2 D3 D4 P0 DB ⊢
        refine (comp_any x0 x1 x2 x3 x4 x5 c0 c1 c2 c3 c4 c5 v5 P0 TX.out TC.out).mono ?_
        rintro e w6 ⟨hB, u0, u1, u2, u3, u4, u5, g, rfl, hU⟩
        replace D0 := lies.on_call D0 hB
        replace D1 := lies.on_call D1 hB
        replace D2 := lies.on_call D2 hB
        replace D3 := lies.on_call D3 hB
        replace D4 := lies.on_call D4 hB
        replace P0 := P0.on hB
        replace DB := later DB hB
        clear hB
        have HU := Lib.hid hU
        clear hU
        obtain ⟨⟨kD0_0, kD0_1, kD0_2, kD0_3, kD0_4, kD0_5⟩, -⟩ := six_cells D0
        have kD0_l := lies.lt D0
        obtain ⟨⟨kD4_0, kD4_1, kD4_2, kD4_3, kD4_4, kD4_5⟩, -⟩ := six_cells D4
        have kD4_l := lies.lt D4
        go_wp2_with fail
        clear kD0_0 kD0_1 kD0_2 kD0_3 kD0_4 kD0_5 kD0_l kD4_0 kD4_1 kD4_2 kD4_3 kD4_4 kD4_5 kD4_l
        have hA := bound.up1 w6 (.cells #[.int .i64 u0, .int .i64 u1, .int .i64 u2, .int .i64 u3, .int .i64 u4, .int .i64 u5] 24)
        have D5 := lies.made w6 24 #[.int .i64 u0, .int .i64 u1, .int .i64 u2, .int .i64 u3, .int .i64 u4, .int .i64 u5]
        replace D0 := lies.on_call D0 hA
        replace D1 := lies.on_call D1 hA
        replace D2 := lies.on_call D2 hA
        replace D3 := lies.on_call D3 hA
        replace D4 := lies.on_call D4 hA
        replace P0 := P0.on hA
        replace DB := later DB hA
        clear hA
        generalize w6.heap.size = XD5 at D5 ⊢
        generalize w6.alloc (.cells #[.int .i64 u0, .int .i64 u1, .int .i64 u2, .int .i64 u3, .int .i64 u4, .int .i64 u5] 24) = v7 at D0 D1 D2 D3 D4 D5 P0 DB ⊢
        refine (comp_any a0 a1 a2 a3 a4 a5 y0 y1 y2 y3 y4 y5 v7 P0 TA.out TY.out).mono ?_
        rintro e w8 ⟨hB, v0, v1, v2, v3, v4, v5, h, rfl, hV⟩
        replace D0 := lies.on_call D0 hB
        replace D1 := lies.on_call D1 hB
        replace D2 := lies.on_call D2 hB
        replace D3 := lies.on_call D3 hB
        replace D4 := lies.on_call D4 hB
        replace D5 := lies.on_call D5 hB
        replace P0 := P0.on hB
        replace DB := later DB hB
        clear hB
        obtain ⟨e1, e2⟩ := assoc_one TA.out TB.out TC.out HX.out HY.out HU.out hV
        subst e2
        obtain ⟨rfl, rfl, rfl, rfl, rfl, rfl⟩ : u0 = v0 ∧ u1 = v1 ∧ u2 = v2 ∧ u3 = v3 ∧ u4 = v4 ∧ u5 = v5 := by simpa using e1.symm
        clear e1 hV HU
        have hq1 : ∀ W, (Op.equalIn 10000 24 (.agg #[.int .i64 u0, .int .i64 u1, .int .i64 u2, .int .i64 u3, .int .i64 u4, .int .i64 u5]) (.agg #[.int .i64 u0, .int .i64 u1, .int .i64 u2, .int .i64 u3, .int .i64 u4, .int .i64 u5])).run Tryd.prog W = .ok true W := fun W => by rw [eq_zone]; simp
        obtain ⟨⟨kD5_0, kD5_1, kD5_2, kD5_3, kD5_4, kD5_5⟩, -⟩ := six_cells D5
        have kD5_l := lies.lt D5
        obtain ⟨⟨kD0_0, kD0_1, kD0_2, kD0_3, kD0_4, kD0_5⟩, -⟩ := six_cells D0
        have kD0_l := lies.lt D0
        go_wp2_with fail
        clear kD5_0 kD5_1 kD5_2 kD5_3 kD5_4 kD5_5 kD5_l kD0_0 kD0_1 kD0_2 kD0_3 kD0_4 kD0_5 kD0_l
        have hA := bound.up1 w8 (.cells #[.int .i64 u0, .int .i64 u1, .int .i64 u2, .int .i64 u3, .int .i64 u4, .int .i64 u5] 24)
        have D6 := lies.made w8 24 #[.int .i64 u0, .int .i64 u1, .int .i64 u2, .int .i64 u3, .int .i64 u4, .int .i64 u5]
        replace D0 := lies.on_call D0 hA
        replace D1 := lies.on_call D1 hA
        replace D2 := lies.on_call D2 hA
        replace D3 := lies.on_call D3 hA
        replace D4 := lies.on_call D4 hA
        replace D5 := lies.on_call D5 hA
        replace P0 := P0.on hA
        replace DB := later DB hA
        clear hA
        generalize w8.heap.size = XD6 at D6 ⊢
        generalize w8.alloc (.cells #[.int .i64 u0, .int .i64 u1, .int .i64 u2, .int .i64 u3, .int .i64 u4, .int .i64 u5] 24) = v9 at D0 D1 D2 D3 D4 D5 D6 P0 DB ⊢
        clear hq1
        refine (back_any a0 a1 a2 a3 a4 a5 v9 P0 TA.out).mono ?_
        rintro e w10 ⟨hB, p0, p1, p2, p3, p4, p5, g, rfl, hQ⟩
        replace D0 := lies.on_call D0 hB
        replace D1 := lies.on_call D1 hB
        replace D2 := lies.on_call D2 hB
        replace D3 := lies.on_call D3 hB
        replace D4 := lies.on_call D4 hB
        replace D5 := lies.on_call D5 hB
        replace D6 := lies.on_call D6 hB
        replace P0 := P0.on hB
        replace DB := later DB hB
        clear hB
        obtain ⟨e1, rfl⟩ := back_yes HMA.out hQ
        rw [back_six] at e1
        obtain ⟨rfl, rfl, rfl, rfl, rfl, rfl⟩ : a2 = p0 ∧ a3 = p1 ∧ a0 = p2 ∧ a1 = p3 ∧ a5 = p4 ∧ a4 = p5 := by simpa using e1.symm
        clear e1 hQ
        obtain ⟨⟨kD1_0, kD1_1, kD1_2, kD1_3, kD1_4, kD1_5⟩, -⟩ := six_cells D1
        have kD1_l := lies.lt D1
        go_wp2_with fail
        clear kD1_0 kD1_1 kD1_2 kD1_3 kD1_4 kD1_5 kD1_l
        have hA := bound.up1 w10 (.cells #[.int .i64 a2, .int .i64 a3, .int .i64 a0, .int .i64 a1, .int .i64 a5, .int .i64 a4] 24)
        have D7 := lies.made w10 24 #[.int .i64 a2, .int .i64 a3, .int .i64 a0, .int .i64 a1, .int .i64 a5, .int .i64 a4]
        replace D0 := lies.on_call D0 hA
        replace D1 := lies.on_call D1 hA
        replace D2 := lies.on_call D2 hA
        replace D3 := lies.on_call D3 hA
        replace D4 := lies.on_call D4 hA
        replace D5 := lies.on_call D5 hA
        replace D6 := lies.on_call D6 hA
        replace P0 := P0.on hA
        replace DB := later DB hA
        clear hA
        generalize w10.heap.size = XD7 at D7 ⊢
        generalize w10.alloc (.cells #[.int .i64 a2, .int .i64 a3, .int .i64 a0, .int .i64 a1, .int .i64 a5, .int .i64 a4] 24) = v11 at D0 D1 D2 D3 D4 D5 D6 D7 P0 DB ⊢
        refine (back_any b0 b1 b2 b3 b4 b5 v11 P0 TB.out).mono ?_
        rintro e w12 ⟨hB, q0, q1, q2, q3, q4, q5, h, rfl, hQ⟩
        replace D0 := lies.on_call D0 hB
        replace D1 := lies.on_call D1 hB
        replace D2 := lies.on_call D2 hB
        replace D3 := lies.on_call D3 hB
        replace D4 := lies.on_call D4 hB
        replace D5 := lies.on_call D5 hB
        replace D6 := lies.on_call D6 hB
        replace D7 := lies.on_call D7 hB
        replace P0 := P0.on hB
        replace DB := later DB hB
        clear hB
        obtain ⟨e1, rfl⟩ := back_yes HMB.out hQ
        rw [back_six] at e1
        obtain ⟨rfl, rfl, rfl, rfl, rfl, rfl⟩ : b2 = q0 ∧ b3 = q1 ∧ b0 = q2 ∧ b1 = q3 ∧ b5 = q4 ∧ b4 = q5 := by simpa using e1.symm
        clear e1 hQ
        obtain ⟨⟨kD7_0, kD7_1, kD7_2, kD7_3, kD7_4, kD7_5⟩, -⟩ := six_cells D7
        have kD7_l := lies.lt D7
        go_wp2_with fail
        clear kD7_0 kD7_1 kD7_2 kD7_3 kD7_4 kD7_5 kD7_l
        have hA := bound.up1 w12 (.cells #[.int .i64 b2, .int .i64 b3, .int .i64 b0, .int .i64 b1, .int .i64 b5, .int .i64 b4] 24)
        have D8 := lies.made w12 24 #[.int .i64 b2, .int .i64 b3, .int .i64 b0, .int .i64 b1, .int .i64 b5, .int .i64 b4]
        replace D0 := lies.on_call D0 hA
        replace D1 := lies.on_call D1 hA
        replace D2 := lies.on_call D2 hA
        replace D3 := lies.on_call D3 hA
        replace D4 := lies.on_call D4 hA
        replace D5 := lies.on_call D5 hA
        replace D6 := lies.on_call D6 hA
        replace D7 := lies.on_call D7 hA
        replace P0 := P0.on hA
        replace DB := later DB hA
        clear hA
        generalize w12.heap.size = XD8 at D8 ⊢
        generalize w12.alloc (.cells #[.int .i64 b2, .int .i64 b3, .int .i64 b0, .int .i64 b1, .int .i64 b5, .int .i64 b4] 24) = v13 at D0 D1 D2 D3 D4 D5 D6 D7 D8 P0 DB ⊢
        refine (back_any a2 a3 a0 a1 a5 a4 v13 P0 (by rw [← back_six]; exact back_tops TA.out)).mono ?_
        rintro e w14 ⟨hB, o0, o1, o2, o3, o4, o5, i, rfl, hQ⟩
        replace D0 := lies.on_call D0 hB
        replace D1 := lies.on_call D1 hB
        replace D2 := lies.on_call D2 hB
        replace D3 := lies.on_call D3 hB
        replace D4 := lies.on_call D4 hB
        replace D5 := lies.on_call D5 hB
        replace D6 := lies.on_call D6 hB
        replace D7 := lies.on_call D7 hB
        replace D8 := lies.on_call D8 hB
        replace P0 := P0.on hB
        replace DB := later DB hB
        clear hB
        obtain ⟨e1, rfl⟩ := back_yes (a := [a2, a3, a0, a1, a5, a4]) (by rw [← back_six]; exact back_may TA.out HMA.out) hQ
        rw [back_six] at e1
        obtain ⟨rfl, rfl, rfl, rfl, rfl, rfl⟩ : a0 = o0 ∧ a1 = o1 ∧ a2 = o2 ∧ a3 = o3 ∧ a4 = o4 ∧ a5 = o5 := by simpa using e1.symm
        clear e1 hQ
        obtain ⟨⟨kD8_0, kD8_1, kD8_2, kD8_3, kD8_4, kD8_5⟩, -⟩ := six_cells D8
        have kD8_l := lies.lt D8
        obtain ⟨⟨kD7_0, kD7_1, kD7_2, kD7_3, kD7_4, kD7_5⟩, -⟩ := six_cells D7
        have kD7_l := lies.lt D7
        go_wp2_with fail
        clear kD8_0 kD8_1 kD8_2 kD8_3 kD8_4 kD8_5 kD8_l kD7_0 kD7_1 kD7_2 kD7_3 kD7_4 kD7_5 kD7_l
        have hA := bound.up1 w14 (.cells #[.int .i64 a0, .int .i64 a1, .int .i64 a2, .int .i64 a3, .int .i64 a4, .int .i64 a5] 24)
        have D9 := lies.made w14 24 #[.int .i64 a0, .int .i64 a1, .int .i64 a2, .int .i64 a3, .int .i64 a4, .int .i64 a5]
        replace D0 := lies.on_call D0 hA
        replace D1 := lies.on_call D1 hA
        replace D2 := lies.on_call D2 hA
        replace D3 := lies.on_call D3 hA
        replace D4 := lies.on_call D4 hA
        replace D5 := lies.on_call D5 hA
        replace D6 := lies.on_call D6 hA
        replace D7 := lies.on_call D7 hA
        replace D8 := lies.on_call D8 hA
        replace P0 := P0.on hA
        replace DB := later DB hA
        clear hA
        generalize w14.heap.size = XD9 at D9 ⊢
        generalize w14.alloc (.cells #[.int .i64 a0, .int .i64 a1, .int .i64 a2, .int .i64 a3, .int .i64 a4, .int .i64 a5] 24) = v15 at D0 D1 D2 D3 D4 D5 D6 D7 D8 D9 P0 DB ⊢
        refine (comp_any b2 b3 b0 b1 b5 b4 a2 a3 a0 a1 a5 a4 v15 P0 (by rw [← back_six]; exact back_tops TB.out) (by rw [← back_six]; exact back_tops TA.out)).mono ?_
        rintro e w16 ⟨hB, r0, r1, r2, r3, r4, r5, j, rfl, hQ⟩
        replace D0 := lies.on_call D0 hB
        replace D1 := lies.on_call D1 hB
        replace D2 := lies.on_call D2 hB
        replace D3 := lies.on_call D3 hB
        replace D4 := lies.on_call D4 hB
        replace D5 := lies.on_call D5 hB
        replace D6 := lies.on_call D6 hB
        replace D7 := lies.on_call D7 hB
        replace D8 := lies.on_call D8 hB
        replace D9 := lies.on_call D9 hB
        replace P0 := P0.on hB
        replace DB := later DB hB
        clear hB
        obtain ⟨e2, e1⟩ := back_one rfl rfl TA.out TB.out HMA.out HMB.out HX.out hQ
        subst e2
        replace e1 := e1 rfl
        rw [back_six] at e1
        obtain ⟨rfl, rfl, rfl, rfl, rfl, rfl⟩ : x2 = r0 ∧ x3 = r1 ∧ x0 = r2 ∧ x1 = r3 ∧ x5 = r4 ∧ x4 = r5 := by simpa using e1.symm
        clear e1 hQ
        have hq1 : ∀ W, (Op.equalIn 10000 24 (.agg #[.int .i64 a0, .int .i64 a1, .int .i64 a2, .int .i64 a3, .int .i64 a4, .int .i64 a5]) (.agg #[.int .i64 a0, .int .i64 a1, .int .i64 a2, .int .i64 a3, .int .i64 a4, .int .i64 a5])).run Tryd.prog W = .ok true W := fun W => by rw [eq_zone]; simp
        obtain ⟨⟨kD9_0, kD9_1, kD9_2, kD9_3, kD9_4, kD9_5⟩, -⟩ := six_cells D9
        have kD9_l := lies.lt D9
        obtain ⟨⟨kD0_0, kD0_1, kD0_2, kD0_3, kD0_4, kD0_5⟩, -⟩ := six_cells D0
        have kD0_l := lies.lt D0
        obtain ⟨⟨kD3_0, kD3_1, kD3_2, kD3_3, kD3_4, kD3_5⟩, -⟩ := six_cells D3
        have kD3_l := lies.lt D3
        go_wp2_with fail
        clear kD9_0 kD9_1 kD9_2 kD9_3 kD9_4 kD9_5 kD9_l kD0_0 kD0_1 kD0_2 kD0_3 kD0_4 kD0_5 kD0_l kD3_0 kD3_1 kD3_2 kD3_3 kD3_4 kD3_5 kD3_l
        have hA := bound.up1 w16 (.cells #[.int .i64 x2, .int .i64 x3, .int .i64 x0, .int .i64 x1, .int .i64 x5, .int .i64 x4] 24)
        have D10 := lies.made w16 24 #[.int .i64 x2, .int .i64 x3, .int .i64 x0, .int .i64 x1, .int .i64 x5, .int .i64 x4]
        replace D0 := lies.on_call D0 hA
        replace D1 := lies.on_call D1 hA
        replace D2 := lies.on_call D2 hA
        replace D3 := lies.on_call D3 hA
        replace D4 := lies.on_call D4 hA
        replace D5 := lies.on_call D5 hA
        replace D6 := lies.on_call D6 hA
        replace D7 := lies.on_call D7 hA
        replace D8 := lies.on_call D8 hA
        replace D9 := lies.on_call D9 hA
        replace P0 := P0.on hA
        replace DB := later DB hA
        clear hA
        generalize w16.heap.size = XD10 at D10 ⊢
        generalize w16.alloc (.cells #[.int .i64 x2, .int .i64 x3, .int .i64 x0, .int .i64 x1, .int .i64 x5, .int .i64 x4] 24) = v17 at D0 D1 D2 D3 D4 D5 D6 D7 D8 D9 D10 P0 DB ⊢
        clear hq1
        refine (back_any x0 x1 x2 x3 x4 x5 v17 P0 TX.out).mono ?_
        rintro e w18 ⟨hB, s0, s1, s2, s3, s4, s5, k, rfl, hQ⟩
        replace D0 := lies.on_call D0 hB
        replace D1 := lies.on_call D1 hB
        replace D2 := lies.on_call D2 hB
        replace D3 := lies.on_call D3 hB
        replace D4 := lies.on_call D4 hB
        replace D5 := lies.on_call D5 hB
        replace D6 := lies.on_call D6 hB
        replace D7 := lies.on_call D7 hB
        replace D8 := lies.on_call D8 hB
        replace D9 := lies.on_call D9 hB
        replace D10 := lies.on_call D10 hB
        replace P0 := P0.on hB
        replace DB := later DB hB
        clear hB
        obtain ⟨e1, rfl⟩ := back_yes HMX.out hQ
        rw [back_six] at e1
        obtain ⟨rfl, rfl, rfl, rfl, rfl, rfl⟩ : x2 = s0 ∧ x3 = s1 ∧ x0 = s2 ∧ x1 = s3 ∧ x5 = s4 ∧ x4 = s5 := by simpa using e1.symm
        clear e1 hQ
        have hq1 : ∀ W, (Op.equalIn 10000 24 (.agg #[.int .i64 x2, .int .i64 x3, .int .i64 x0, .int .i64 x1, .int .i64 x5, .int .i64 x4]) (.agg #[.int .i64 x2, .int .i64 x3, .int .i64 x0, .int .i64 x1, .int .i64 x5, .int .i64 x4])).run Tryd.prog W = .ok true W := fun W => by rw [eq_zone]; simp
        obtain ⟨⟨kD10_0, kD10_1, kD10_2, kD10_3, kD10_4, kD10_5⟩, -⟩ := six_cells D10
        have kD10_l := lies.lt D10
        obtain ⟨⟨kD0_0, kD0_1, kD0_2, kD0_3, kD0_4, kD0_5⟩, -⟩ := six_cells D0
        have kD0_l := lies.lt D0
        obtain ⟨⟨kD2_0, kD2_1, kD2_2, kD2_3, kD2_4, kD2_5⟩, -⟩ := six_cells D2
        have kD2_l := lies.lt D2
        go_wp2_with fail
        clear kD10_0 kD10_1 kD10_2 kD10_3 kD10_4 kD10_5 kD10_l kD0_0 kD0_1 kD0_2 kD0_3 kD0_4 kD0_5 kD0_l kD2_0 kD2_1 kD2_2 kD2_3 kD2_4 kD2_5 kD2_l
        have hA := bound.up1 w18 (.cells #[.int .i64 x2, .int .i64 x3, .int .i64 x0, .int .i64 x1, .int .i64 x5, .int .i64 x4] 24)
        have D11 := lies.made w18 24 #[.int .i64 x2, .int .i64 x3, .int .i64 x0, .int .i64 x1, .int .i64 x5, .int .i64 x4]
        replace D0 := lies.on_call D0 hA
        replace D1 := lies.on_call D1 hA
        replace D2 := lies.on_call D2 hA
        replace D3 := lies.on_call D3 hA
        replace D4 := lies.on_call D4 hA
        replace D5 := lies.on_call D5 hA
        replace D6 := lies.on_call D6 hA
        replace D7 := lies.on_call D7 hA
        replace D8 := lies.on_call D8 hA
        replace D9 := lies.on_call D9 hA
        replace D10 := lies.on_call D10 hA
        replace P0 := P0.on hA
        replace DB := later DB hA
        clear hA
        generalize w18.heap.size = XD11 at D11 ⊢
        generalize w18.alloc (.cells #[.int .i64 x2, .int .i64 x3, .int .i64 x0, .int .i64 x1, .int .i64 x5, .int .i64 x4] 24) = v19 at D0 D1 D2 D3 D4 D5 D6 D7 D8 D9 D10 D11 P0 DB ⊢
        clear hq1
        refine (zmeet_any a0 a1 a2 a3 a4 a5 c0 c1 c2 c3 c4 c5 v19 P0 TA.out TC.out).mono ?_
        rintro e w20 ⟨hB, l0, l1, l2, l3, l4, l5, k, rfl, hQ⟩
        replace D0 := lies.on_call D0 hB
        replace D1 := lies.on_call D1 hB
        replace D2 := lies.on_call D2 hB
        replace D3 := lies.on_call D3 hB
        replace D4 := lies.on_call D4 hB
        replace D5 := lies.on_call D5 hB
        replace D6 := lies.on_call D6 hB
        replace D7 := lies.on_call D7 hB
        replace D8 := lies.on_call D8 hB
        replace D9 := lies.on_call D9 hB
        replace D10 := lies.on_call D10 hB
        replace D11 := lies.on_call D11 hB
        replace P0 := P0.on hB
        replace DB := later DB hB
        clear hB
        have HL := Lib.hid hQ
        have TL := Lib.hid (meet_rt TA.out hQ)
        clear hQ
        by_cases hk : k = 0
        · skip
          subst hk
          obtain ⟨⟨kD1_0, kD1_1, kD1_2, kD1_3, kD1_4, kD1_5⟩, -⟩ := six_cells D1
          have kD1_l := lies.lt D1
          go_wp2_with fail
          clear kD1_0 kD1_1 kD1_2 kD1_3 kD1_4 kD1_5 kD1_l
          have hA := bound.up1 w20 (.cells #[.int .i64 l0, .int .i64 l1, .int .i64 l2, .int .i64 l3, .int .i64 l4, .int .i64 l5] 24)
          have D12 := lies.made w20 24 #[.int .i64 l0, .int .i64 l1, .int .i64 l2, .int .i64 l3, .int .i64 l4, .int .i64 l5]
          replace D0 := lies.on_call D0 hA
          replace D1 := lies.on_call D1 hA
          replace D2 := lies.on_call D2 hA
          replace D3 := lies.on_call D3 hA
          replace D4 := lies.on_call D4 hA
          replace D5 := lies.on_call D5 hA
          replace D6 := lies.on_call D6 hA
          replace D7 := lies.on_call D7 hA
          replace D8 := lies.on_call D8 hA
          replace D9 := lies.on_call D9 hA
          replace D10 := lies.on_call D10 hA
          replace D11 := lies.on_call D11 hA
          replace P0 := P0.on hA
          replace DB := later DB hA
          clear hA
          generalize w20.heap.size = XD12 at D12 ⊢
          generalize w20.alloc (.cells #[.int .i64 l0, .int .i64 l1, .int .i64 l2, .int .i64 l3, .int .i64 l4, .int .i64 l5] 24) = v21 at D0 D1 D2 D3 D4 D5 D6 D7 D8 D9 D10 D11 D12 P0 DB ⊢
          refine (comp_any l0 l1 l2 l3 l4 l5 b0 b1 b2 b3 b4 b5 v21 P0 TL.out TB.out).mono ?_
          rintro e w22 ⟨hB, m0, m1, m2, m3, m4, m5, n, rfl, hQ⟩
          replace D0 := lies.on_call D0 hB
          replace D1 := lies.on_call D1 hB
          replace D2 := lies.on_call D2 hB
          replace D3 := lies.on_call D3 hB
          replace D4 := lies.on_call D4 hB
          replace D5 := lies.on_call D5 hB
          replace D6 := lies.on_call D6 hB
          replace D7 := lies.on_call D7 hB
          replace D8 := lies.on_call D8 hB
          replace D9 := lies.on_call D9 hB
          replace D10 := lies.on_call D10 hB
          replace D11 := lies.on_call D11 hB
          replace D12 := lies.on_call D12 hB
          replace P0 := P0.on hB
          replace DB := later DB hB
          clear hB
          have HQ := Lib.hid hQ
          have TM := Lib.hid (comp_rt TL.out TB.out hQ)
          clear hQ
          rcases HQ.out with ⟨_, _, rfl⟩ | ⟨_, _, _, _, rfl⟩ | ⟨_, _, _, _, _, rfl⟩ | ⟨_, _, _, _, _, rfl⟩
          · skip
            clear HQ HX HY
            go_wp2_with fail
            go_ret
            exact ⟨rfl, lies.frame_up DB _⟩
          · skip
            clear HQ HX HY
            go_wp2_with fail
            go_ret
            exact ⟨rfl, lies.frame_up DB _⟩
          · skip
            clear HQ HX HY
            go_wp2_with fail
            go_ret
            exact ⟨rfl, lies.frame_up DB _⟩
          · skip
            obtain ⟨⟨kD3_0, kD3_1, kD3_2, kD3_3, kD3_4, kD3_5⟩, -⟩ := six_cells D3
            have kD3_l := lies.lt D3
            go_wp2_with fail
            clear kD3_0 kD3_1 kD3_2 kD3_3 kD3_4 kD3_5 kD3_l
            have hA := bound.up1 w22 (.cells #[.int .i64 m0, .int .i64 m1, .int .i64 m2, .int .i64 m3, .int .i64 m4, .int .i64 m5] 24)
            have D13 := lies.made w22 24 #[.int .i64 m0, .int .i64 m1, .int .i64 m2, .int .i64 m3, .int .i64 m4, .int .i64 m5]
            replace D0 := lies.on_call D0 hA
            replace D1 := lies.on_call D1 hA
            replace D2 := lies.on_call D2 hA
            replace D3 := lies.on_call D3 hA
            replace D4 := lies.on_call D4 hA
            replace D5 := lies.on_call D5 hA
            replace D6 := lies.on_call D6 hA
            replace D7 := lies.on_call D7 hA
            replace D8 := lies.on_call D8 hA
            replace D9 := lies.on_call D9 hA
            replace D10 := lies.on_call D10 hA
            replace D11 := lies.on_call D11 hA
            replace D12 := lies.on_call D12 hA
            replace P0 := P0.on hA
            replace DB := later DB hA
            clear hA
            generalize w22.heap.size = XD13 at D13 ⊢
            generalize w22.alloc (.cells #[.int .i64 m0, .int .i64 m1, .int .i64 m2, .int .i64 m3, .int .i64 m4, .int .i64 m5] 24) = v23 at D0 D1 D2 D3 D4 D5 D6 D7 D8 D9 D10 D11 D12 D13 P0 DB ⊢
            refine (zin_any m0 m1 m2 m3 m4 m5 x0 x1 x2 x3 x4 x5 v23 P0 TM.out TX.out).mono ?_
            rintro e w24 ⟨hB, rb, ni, rfl, hI⟩
            replace D0 := lies.on_call D0 hB
            replace D1 := lies.on_call D1 hB
            replace D2 := lies.on_call D2 hB
            replace D3 := lies.on_call D3 hB
            replace D4 := lies.on_call D4 hB
            replace D5 := lies.on_call D5 hB
            replace D6 := lies.on_call D6 hB
            replace D7 := lies.on_call D7 hB
            replace D8 := lies.on_call D8 hB
            replace D9 := lies.on_call D9 hB
            replace D10 := lies.on_call D10 hB
            replace D11 := lies.on_call D11 hB
            replace D12 := lies.on_call D12 hB
            replace D13 := lies.on_call D13 hB
            replace P0 := P0.on hB
            replace DB := later DB hB
            clear hB
            obtain ⟨rfl, rfl⟩ := less_in TA.out TB.out HL.out HQ.out HX.out hI rfl
            clear hI
            go_wp2_with fail
            go_ret
            exact ⟨rfl, DB⟩
        · skip
          have hbk : (k == 0) = false := by simpa using hk
          clear HX HY HL
          go_wp2_with fail
          go_ret
          exact ⟨rfl, lies.frame_up DB _⟩
      · skip
        have hbf : (f == 0) = false := by simpa using hf
        obtain ⟨⟨kD0_0, kD0_1, kD0_2, kD0_3, kD0_4, kD0_5⟩, -⟩ := six_cells D0
        have kD0_l := lies.lt D0
        go_wp2_with fail
        clear kD0_0 kD0_1 kD0_2 kD0_3 kD0_4 kD0_5 kD0_l
        have hA := bound.up1 w4 (.cells #[.int .i64 y0, .int .i64 y1, .int .i64 y2, .int .i64 y3, .int .i64 y4, .int .i64 y5] 24)
        have D4 := lies.made w4 24 #[.int .i64 y0, .int .i64 y1, .int .i64 y2, .int .i64 y3, .int .i64 y4, .int .i64 y5]
        replace D0 := lies.on_call D0 hA
        replace D1 := lies.on_call D1 hA
        replace D2 := lies.on_call D2 hA
        replace D3 := lies.on_call D3 hA
        replace P0 := P0.on hA
        replace DB := later DB hA
        clear hA
        generalize w4.heap.size = XD4 at D4 ⊢
        generalize w4.alloc (.cells #[.int .i64 y0, .int .i64 y1, .int .i64 y2, .int .i64 y3, .int .i64 y4, .int .i64 y5] 24) = v5 at D0 D1 D2 D3 D4 P0 DB ⊢
        clear hf hbf
        refine (back_any a0 a1 a2 a3 a4 a5 v5 P0 TA.out).mono ?_
        rintro e w6 ⟨hB, p0, p1, p2, p3, p4, p5, g, rfl, hQ⟩
        replace D0 := lies.on_call D0 hB
        replace D1 := lies.on_call D1 hB
        replace D2 := lies.on_call D2 hB
        replace D3 := lies.on_call D3 hB
        replace D4 := lies.on_call D4 hB
        replace P0 := P0.on hB
        replace DB := later DB hB
        clear hB
        obtain ⟨e1, rfl⟩ := back_yes HMA.out hQ
        rw [back_six] at e1
        obtain ⟨rfl, rfl, rfl, rfl, rfl, rfl⟩ : a2 = p0 ∧ a3 = p1 ∧ a0 = p2 ∧ a1 = p3 ∧ a5 = p4 ∧ a4 = p5 := by simpa using e1.symm
        clear e1 hQ
        obtain ⟨⟨kD1_0, kD1_1, kD1_2, kD1_3, kD1_4, kD1_5⟩, -⟩ := six_cells D1
        have kD1_l := lies.lt D1
        go_wp2_with fail
        clear kD1_0 kD1_1 kD1_2 kD1_3 kD1_4 kD1_5 kD1_l
        have hA := bound.up1 w6 (.cells #[.int .i64 a2, .int .i64 a3, .int .i64 a0, .int .i64 a1, .int .i64 a5, .int .i64 a4] 24)
        have D7 := lies.made w6 24 #[.int .i64 a2, .int .i64 a3, .int .i64 a0, .int .i64 a1, .int .i64 a5, .int .i64 a4]
        replace D0 := lies.on_call D0 hA
        replace D1 := lies.on_call D1 hA
        replace D2 := lies.on_call D2 hA
        replace D3 := lies.on_call D3 hA
        replace D4 := lies.on_call D4 hA
        replace P0 := P0.on hA
        replace DB := later DB hA
        clear hA
        generalize w6.heap.size = XD7 at D7 ⊢
        generalize w6.alloc (.cells #[.int .i64 a2, .int .i64 a3, .int .i64 a0, .int .i64 a1, .int .i64 a5, .int .i64 a4] 24) = v7 at D0 D1 D2 D3 D4 D7 P0 DB ⊢
        refine (back_any b0 b1 b2 b3 b4 b5 v7 P0 TB.out).mono ?_
        rintro e w8 ⟨hB, q0, q1, q2, q3, q4, q5, h, rfl, hQ⟩
        replace D0 := lies.on_call D0 hB
        replace D1 := lies.on_call D1 hB
        replace D2 := lies.on_call D2 hB
        replace D3 := lies.on_call D3 hB
        replace D4 := lies.on_call D4 hB
        replace D7 := lies.on_call D7 hB
        replace P0 := P0.on hB
        replace DB := later DB hB
        clear hB
        obtain ⟨e1, rfl⟩ := back_yes HMB.out hQ
        rw [back_six] at e1
        obtain ⟨rfl, rfl, rfl, rfl, rfl, rfl⟩ : b2 = q0 ∧ b3 = q1 ∧ b0 = q2 ∧ b1 = q3 ∧ b5 = q4 ∧ b4 = q5 := by simpa using e1.symm
        clear e1 hQ
        obtain ⟨⟨kD7_0, kD7_1, kD7_2, kD7_3, kD7_4, kD7_5⟩, -⟩ := six_cells D7
        have kD7_l := lies.lt D7
        go_wp2_with fail
        clear kD7_0 kD7_1 kD7_2 kD7_3 kD7_4 kD7_5 kD7_l
        have hA := bound.up1 w8 (.cells #[.int .i64 b2, .int .i64 b3, .int .i64 b0, .int .i64 b1, .int .i64 b5, .int .i64 b4] 24)
        have D8 := lies.made w8 24 #[.int .i64 b2, .int .i64 b3, .int .i64 b0, .int .i64 b1, .int .i64 b5, .int .i64 b4]
        replace D0 := lies.on_call D0 hA
        replace D1 := lies.on_call D1 hA
        replace D2 := lies.on_call D2 hA
        replace D3 := lies.on_call D3 hA
        replace D4 := lies.on_call D4 hA
        replace D7 := lies.on_call D7 hA
        replace P0 := P0.on hA
        replace DB := later DB hA
        clear hA
        generalize w8.heap.size = XD8 at D8 ⊢
        generalize w8.alloc (.cells #[.int .i64 b2, .int .i64 b3, .int .i64 b0, .int .i64 b1, .int .i64 b5, .int .i64 b4] 24) = v9 at D0 D1 D2 D3 D4 D7 D8 P0 DB ⊢
        refine (back_any a2 a3 a0 a1 a5 a4 v9 P0 (by rw [← back_six]; exact back_tops TA.out)).mono ?_
        rintro e w10 ⟨hB, o0, o1, o2, o3, o4, o5, i, rfl, hQ⟩
        replace D0 := lies.on_call D0 hB
        replace D1 := lies.on_call D1 hB
        replace D2 := lies.on_call D2 hB
        replace D3 := lies.on_call D3 hB
        replace D4 := lies.on_call D4 hB
        replace D7 := lies.on_call D7 hB
        replace D8 := lies.on_call D8 hB
        replace P0 := P0.on hB
        replace DB := later DB hB
        clear hB
        obtain ⟨e1, rfl⟩ := back_yes (a := [a2, a3, a0, a1, a5, a4]) (by rw [← back_six]; exact back_may TA.out HMA.out) hQ
        rw [back_six] at e1
        obtain ⟨rfl, rfl, rfl, rfl, rfl, rfl⟩ : a0 = o0 ∧ a1 = o1 ∧ a2 = o2 ∧ a3 = o3 ∧ a4 = o4 ∧ a5 = o5 := by simpa using e1.symm
        clear e1 hQ
        obtain ⟨⟨kD8_0, kD8_1, kD8_2, kD8_3, kD8_4, kD8_5⟩, -⟩ := six_cells D8
        have kD8_l := lies.lt D8
        obtain ⟨⟨kD7_0, kD7_1, kD7_2, kD7_3, kD7_4, kD7_5⟩, -⟩ := six_cells D7
        have kD7_l := lies.lt D7
        go_wp2_with fail
        clear kD8_0 kD8_1 kD8_2 kD8_3 kD8_4 kD8_5 kD8_l kD7_0 kD7_1 kD7_2 kD7_3 kD7_4 kD7_5 kD7_l
        have hA := bound.up1 w10 (.cells #[.int .i64 a0, .int .i64 a1, .int .i64 a2, .int .i64 a3, .int .i64 a4, .int .i64 a5] 24)
        have D9 := lies.made w10 24 #[.int .i64 a0, .int .i64 a1, .int .i64 a2, .int .i64 a3, .int .i64 a4, .int .i64 a5]
        replace D0 := lies.on_call D0 hA
        replace D1 := lies.on_call D1 hA
        replace D2 := lies.on_call D2 hA
        replace D3 := lies.on_call D3 hA
        replace D4 := lies.on_call D4 hA
        replace D7 := lies.on_call D7 hA
        replace D8 := lies.on_call D8 hA
        replace P0 := P0.on hA
        replace DB := later DB hA
        clear hA
        generalize w10.heap.size = XD9 at D9 ⊢
        generalize w10.alloc (.cells #[.int .i64 a0, .int .i64 a1, .int .i64 a2, .int .i64 a3, .int .i64 a4, .int .i64 a5] 24) = v11 at D0 D1 D2 D3 D4 D7 D8 D9 P0 DB ⊢
        refine (comp_any b2 b3 b0 b1 b5 b4 a2 a3 a0 a1 a5 a4 v11 P0 (by rw [← back_six]; exact back_tops TB.out) (by rw [← back_six]; exact back_tops TA.out)).mono ?_
        rintro e w12 ⟨hB, r0, r1, r2, r3, r4, r5, j, rfl, hQ⟩
        replace D0 := lies.on_call D0 hB
        replace D1 := lies.on_call D1 hB
        replace D2 := lies.on_call D2 hB
        replace D3 := lies.on_call D3 hB
        replace D4 := lies.on_call D4 hB
        replace D7 := lies.on_call D7 hB
        replace D8 := lies.on_call D8 hB
        replace D9 := lies.on_call D9 hB
        replace P0 := P0.on hB
        replace DB := later DB hB
        clear hB
        obtain ⟨e2, e1⟩ := back_one rfl rfl TA.out TB.out HMA.out HMB.out HX.out hQ
        subst e2
        replace e1 := e1 rfl
        rw [back_six] at e1
        obtain ⟨rfl, rfl, rfl, rfl, rfl, rfl⟩ : x2 = r0 ∧ x3 = r1 ∧ x0 = r2 ∧ x1 = r3 ∧ x5 = r4 ∧ x4 = r5 := by simpa using e1.symm
        clear e1 hQ
        have hq1 : ∀ W, (Op.equalIn 10000 24 (.agg #[.int .i64 a0, .int .i64 a1, .int .i64 a2, .int .i64 a3, .int .i64 a4, .int .i64 a5]) (.agg #[.int .i64 a0, .int .i64 a1, .int .i64 a2, .int .i64 a3, .int .i64 a4, .int .i64 a5])).run Tryd.prog W = .ok true W := fun W => by rw [eq_zone]; simp
        obtain ⟨⟨kD9_0, kD9_1, kD9_2, kD9_3, kD9_4, kD9_5⟩, -⟩ := six_cells D9
        have kD9_l := lies.lt D9
        obtain ⟨⟨kD0_0, kD0_1, kD0_2, kD0_3, kD0_4, kD0_5⟩, -⟩ := six_cells D0
        have kD0_l := lies.lt D0
        obtain ⟨⟨kD3_0, kD3_1, kD3_2, kD3_3, kD3_4, kD3_5⟩, -⟩ := six_cells D3
        have kD3_l := lies.lt D3
        go_wp2_with fail
        clear kD9_0 kD9_1 kD9_2 kD9_3 kD9_4 kD9_5 kD9_l kD0_0 kD0_1 kD0_2 kD0_3 kD0_4 kD0_5 kD0_l kD3_0 kD3_1 kD3_2 kD3_3 kD3_4 kD3_5 kD3_l
        have hA := bound.up1 w12 (.cells #[.int .i64 x2, .int .i64 x3, .int .i64 x0, .int .i64 x1, .int .i64 x5, .int .i64 x4] 24)
        have D10 := lies.made w12 24 #[.int .i64 x2, .int .i64 x3, .int .i64 x0, .int .i64 x1, .int .i64 x5, .int .i64 x4]
        replace D0 := lies.on_call D0 hA
        replace D1 := lies.on_call D1 hA
        replace D2 := lies.on_call D2 hA
        replace D3 := lies.on_call D3 hA
        replace D4 := lies.on_call D4 hA
        replace D7 := lies.on_call D7 hA
        replace D8 := lies.on_call D8 hA
        replace D9 := lies.on_call D9 hA
        replace P0 := P0.on hA
        replace DB := later DB hA
        clear hA
        generalize w12.heap.size = XD10 at D10 ⊢
        generalize w12.alloc (.cells #[.int .i64 x2, .int .i64 x3, .int .i64 x0, .int .i64 x1, .int .i64 x5, .int .i64 x4] 24) = v13 at D0 D1 D2 D3 D4 D7 D8 D9 D10 P0 DB ⊢
        clear hq1
        refine (back_any x0 x1 x2 x3 x4 x5 v13 P0 TX.out).mono ?_
        rintro e w14 ⟨hB, s0, s1, s2, s3, s4, s5, k, rfl, hQ⟩
        replace D0 := lies.on_call D0 hB
        replace D1 := lies.on_call D1 hB
        replace D2 := lies.on_call D2 hB
        replace D3 := lies.on_call D3 hB
        replace D4 := lies.on_call D4 hB
        replace D7 := lies.on_call D7 hB
        replace D8 := lies.on_call D8 hB
        replace D9 := lies.on_call D9 hB
        replace D10 := lies.on_call D10 hB
        replace P0 := P0.on hB
        replace DB := later DB hB
        clear hB
        obtain ⟨e1, rfl⟩ := back_yes HMX.out hQ
        rw [back_six] at e1
        obtain ⟨rfl, rfl, rfl, rfl, rfl, rfl⟩ : x2 = s0 ∧ x3 = s1 ∧ x0 = s2 ∧ x1 = s3 ∧ x5 = s4 ∧ x4 = s5 := by simpa using e1.symm
        clear e1 hQ
        have hq1 : ∀ W, (Op.equalIn 10000 24 (.agg #[.int .i64 x2, .int .i64 x3, .int .i64 x0, .int .i64 x1, .int .i64 x5, .int .i64 x4]) (.agg #[.int .i64 x2, .int .i64 x3, .int .i64 x0, .int .i64 x1, .int .i64 x5, .int .i64 x4])).run Tryd.prog W = .ok true W := fun W => by rw [eq_zone]; simp
        obtain ⟨⟨kD10_0, kD10_1, kD10_2, kD10_3, kD10_4, kD10_5⟩, -⟩ := six_cells D10
        have kD10_l := lies.lt D10
        obtain ⟨⟨kD0_0, kD0_1, kD0_2, kD0_3, kD0_4, kD0_5⟩, -⟩ := six_cells D0
        have kD0_l := lies.lt D0
        obtain ⟨⟨kD2_0, kD2_1, kD2_2, kD2_3, kD2_4, kD2_5⟩, -⟩ := six_cells D2
        have kD2_l := lies.lt D2
        go_wp2_with fail
        clear kD10_0 kD10_1 kD10_2 kD10_3 kD10_4 kD10_5 kD10_l kD0_0 kD0_1 kD0_2 kD0_3 kD0_4 kD0_5 kD0_l kD2_0 kD2_1 kD2_2 kD2_3 kD2_4 kD2_5 kD2_l
        have hA := bound.up1 w14 (.cells #[.int .i64 x2, .int .i64 x3, .int .i64 x0, .int .i64 x1, .int .i64 x5, .int .i64 x4] 24)
        have D11 := lies.made w14 24 #[.int .i64 x2, .int .i64 x3, .int .i64 x0, .int .i64 x1, .int .i64 x5, .int .i64 x4]
        replace D0 := lies.on_call D0 hA
        replace D1 := lies.on_call D1 hA
        replace D2 := lies.on_call D2 hA
        replace D3 := lies.on_call D3 hA
        replace D4 := lies.on_call D4 hA
        replace D7 := lies.on_call D7 hA
        replace D8 := lies.on_call D8 hA
        replace D9 := lies.on_call D9 hA
        replace D10 := lies.on_call D10 hA
        replace P0 := P0.on hA
        replace DB := later DB hA
        clear hA
        generalize w14.heap.size = XD11 at D11 ⊢
        generalize w14.alloc (.cells #[.int .i64 x2, .int .i64 x3, .int .i64 x0, .int .i64 x1, .int .i64 x5, .int .i64 x4] 24) = v15 at D0 D1 D2 D3 D4 D7 D8 D9 D10 D11 P0 DB ⊢
        clear hq1
        refine (zmeet_any a0 a1 a2 a3 a4 a5 c0 c1 c2 c3 c4 c5 v15 P0 TA.out TC.out).mono ?_
        rintro e w16 ⟨hB, l0, l1, l2, l3, l4, l5, k, rfl, hQ⟩
        replace D0 := lies.on_call D0 hB
        replace D1 := lies.on_call D1 hB
        replace D2 := lies.on_call D2 hB
        replace D3 := lies.on_call D3 hB
        replace D4 := lies.on_call D4 hB
        replace D7 := lies.on_call D7 hB
        replace D8 := lies.on_call D8 hB
        replace D9 := lies.on_call D9 hB
        replace D10 := lies.on_call D10 hB
        replace D11 := lies.on_call D11 hB
        replace P0 := P0.on hB
        replace DB := later DB hB
        clear hB
        have HL := Lib.hid hQ
        have TL := Lib.hid (meet_rt TA.out hQ)
        clear hQ
        by_cases hk : k = 0
        · skip
          subst hk
          obtain ⟨⟨kD1_0, kD1_1, kD1_2, kD1_3, kD1_4, kD1_5⟩, -⟩ := six_cells D1
          have kD1_l := lies.lt D1
          go_wp2_with fail
          clear kD1_0 kD1_1 kD1_2 kD1_3 kD1_4 kD1_5 kD1_l
          have hA := bound.up1 w16 (.cells #[.int .i64 l0, .int .i64 l1, .int .i64 l2, .int .i64 l3, .int .i64 l4, .int .i64 l5] 24)
          have D12 := lies.made w16 24 #[.int .i64 l0, .int .i64 l1, .int .i64 l2, .int .i64 l3, .int .i64 l4, .int .i64 l5]
          replace D0 := lies.on_call D0 hA
          replace D1 := lies.on_call D1 hA
          replace D2 := lies.on_call D2 hA
          replace D3 := lies.on_call D3 hA
          replace D4 := lies.on_call D4 hA
          replace D7 := lies.on_call D7 hA
          replace D8 := lies.on_call D8 hA
          replace D9 := lies.on_call D9 hA
          replace D10 := lies.on_call D10 hA
          replace D11 := lies.on_call D11 hA
          replace P0 := P0.on hA
          replace DB := later DB hA
          clear hA
          generalize w16.heap.size = XD12 at D12 ⊢
          generalize w16.alloc (.cells #[.int .i64 l0, .int .i64 l1, .int .i64 l2, .int .i64 l3, .int .i64 l4, .int .i64 l5] 24) = v17 at D0 D1 D2 D3 D4 D7 D8 D9 D10 D11 D12 P0 DB ⊢
          refine (comp_any l0 l1 l2 l3 l4 l5 b0 b1 b2 b3 b4 b5 v17 P0 TL.out TB.out).mono ?_
          rintro e w18 ⟨hB, m0, m1, m2, m3, m4, m5, n, rfl, hQ⟩
          replace D0 := lies.on_call D0 hB
          replace D1 := lies.on_call D1 hB
          replace D2 := lies.on_call D2 hB
          replace D3 := lies.on_call D3 hB
          replace D4 := lies.on_call D4 hB
          replace D7 := lies.on_call D7 hB
          replace D8 := lies.on_call D8 hB
          replace D9 := lies.on_call D9 hB
          replace D10 := lies.on_call D10 hB
          replace D11 := lies.on_call D11 hB
          replace D12 := lies.on_call D12 hB
          replace P0 := P0.on hB
          replace DB := later DB hB
          clear hB
          have HQ := Lib.hid hQ
          have TM := Lib.hid (comp_rt TL.out TB.out hQ)
          clear hQ
          rcases HQ.out with ⟨_, _, rfl⟩ | ⟨_, _, _, _, rfl⟩ | ⟨_, _, _, _, _, rfl⟩ | ⟨_, _, _, _, _, rfl⟩
          · skip
            clear HQ HX HY
            go_wp2_with fail
            go_ret
            exact ⟨rfl, lies.frame_up DB _⟩
          · skip
            clear HQ HX HY
            go_wp2_with fail
            go_ret
            exact ⟨rfl, lies.frame_up DB _⟩
          · skip
            clear HQ HX HY
            go_wp2_with fail
            go_ret
            exact ⟨rfl, lies.frame_up DB _⟩
          · skip
            obtain ⟨⟨kD3_0, kD3_1, kD3_2, kD3_3, kD3_4, kD3_5⟩, -⟩ := six_cells D3
            have kD3_l := lies.lt D3
            go_wp2_with fail
            clear kD3_0 kD3_1 kD3_2 kD3_3 kD3_4 kD3_5 kD3_l
            have hA := bound.up1 w18 (.cells #[.int .i64 m0, .int .i64 m1, .int .i64 m2, .int .i64 m3, .int .i64 m4, .int .i64 m5] 24)
            have D13 := lies.made w18 24 #[.int .i64 m0, .int .i64 m1, .int .i64 m2, .int .i64 m3, .int .i64 m4, .int .i64 m5]
            replace D0 := lies.on_call D0 hA
            replace D1 := lies.on_call D1 hA
            replace D2 := lies.on_call D2 hA
            replace D3 := lies.on_call D3 hA
            replace D4 := lies.on_call D4 hA
            replace D7 := lies.on_call D7 hA
            replace D8 := lies.on_call D8 hA
            replace D9 := lies.on_call D9 hA
            replace D10 := lies.on_call D10 hA
            replace D11 := lies.on_call D11 hA
            replace D12 := lies.on_call D12 hA
            replace P0 := P0.on hA
            replace DB := later DB hA
            clear hA
            generalize w18.heap.size = XD13 at D13 ⊢
            generalize w18.alloc (.cells #[.int .i64 m0, .int .i64 m1, .int .i64 m2, .int .i64 m3, .int .i64 m4, .int .i64 m5] 24) = v19 at D0 D1 D2 D3 D4 D7 D8 D9 D10 D11 D12 D13 P0 DB ⊢
            refine (zin_any m0 m1 m2 m3 m4 m5 x0 x1 x2 x3 x4 x5 v19 P0 TM.out TX.out).mono ?_
            rintro e w20 ⟨hB, rb, ni, rfl, hI⟩
            replace D0 := lies.on_call D0 hB
            replace D1 := lies.on_call D1 hB
            replace D2 := lies.on_call D2 hB
            replace D3 := lies.on_call D3 hB
            replace D4 := lies.on_call D4 hB
            replace D7 := lies.on_call D7 hB
            replace D8 := lies.on_call D8 hB
            replace D9 := lies.on_call D9 hB
            replace D10 := lies.on_call D10 hB
            replace D11 := lies.on_call D11 hB
            replace D12 := lies.on_call D12 hB
            replace D13 := lies.on_call D13 hB
            replace P0 := P0.on hB
            replace DB := later DB hB
            clear hB
            obtain ⟨rfl, rfl⟩ := less_in TA.out TB.out HL.out HQ.out HX.out hI rfl
            clear hI
            go_wp2_with fail
            go_ret
            exact ⟨rfl, DB⟩
        · skip
          have hbk : (k == 0) = false := by simpa using hk
          clear HX HY HL
          go_wp2_with fail
          go_ret
          exact ⟨rfl, lies.frame_up DB _⟩
    · skip
      have HE := Lib.hid he
      have hbe : (e == 0) = false := by simpa using he
      obtain ⟨⟨kD0_0, kD0_1, kD0_2, kD0_3, kD0_4, kD0_5⟩, -⟩ := six_cells D0
      have kD0_l := lies.lt D0
      go_wp2_with fail
      clear kD0_0 kD0_1 kD0_2 kD0_3 kD0_4 kD0_5 kD0_l
      have hA := bound.up1 w4 (.cells #[.int .i64 y0, .int .i64 y1, .int .i64 y2, .int .i64 y3, .int .i64 y4, .int .i64 y5] 24)
      have D4 := lies.made w4 24 #[.int .i64 y0, .int .i64 y1, .int .i64 y2, .int .i64 y3, .int .i64 y4, .int .i64 y5]
      replace D0 := lies.on_call D0 hA
      replace D1 := lies.on_call D1 hA
      replace D2 := lies.on_call D2 hA
      replace D3 := lies.on_call D3 hA
      replace P0 := P0.on hA
      replace DB := later DB hA
      clear hA
      generalize w4.heap.size = XD4 at D4 ⊢
      generalize w4.alloc (.cells #[.int .i64 y0, .int .i64 y1, .int .i64 y2, .int .i64 y3, .int .i64 y4, .int .i64 y5] 24) = v5 at D0 D1 D2 D3 D4 P0 DB ⊢
      clear he hbe
      refine (back_any a0 a1 a2 a3 a4 a5 v5 P0 TA.out).mono ?_
      rintro e w6 ⟨hB, p0, p1, p2, p3, p4, p5, g, rfl, hQ⟩
      replace D0 := lies.on_call D0 hB
      replace D1 := lies.on_call D1 hB
      replace D2 := lies.on_call D2 hB
      replace D3 := lies.on_call D3 hB
      replace D4 := lies.on_call D4 hB
      replace P0 := P0.on hB
      replace DB := later DB hB
      clear hB
      obtain ⟨e1, rfl⟩ := back_yes HMA.out hQ
      rw [back_six] at e1
      obtain ⟨rfl, rfl, rfl, rfl, rfl, rfl⟩ : a2 = p0 ∧ a3 = p1 ∧ a0 = p2 ∧ a1 = p3 ∧ a5 = p4 ∧ a4 = p5 := by simpa using e1.symm
      clear e1 hQ
      obtain ⟨⟨kD1_0, kD1_1, kD1_2, kD1_3, kD1_4, kD1_5⟩, -⟩ := six_cells D1
      have kD1_l := lies.lt D1
      go_wp2_with fail
      clear kD1_0 kD1_1 kD1_2 kD1_3 kD1_4 kD1_5 kD1_l
      have hA := bound.up1 w6 (.cells #[.int .i64 a2, .int .i64 a3, .int .i64 a0, .int .i64 a1, .int .i64 a5, .int .i64 a4] 24)
      have D7 := lies.made w6 24 #[.int .i64 a2, .int .i64 a3, .int .i64 a0, .int .i64 a1, .int .i64 a5, .int .i64 a4]
      replace D0 := lies.on_call D0 hA
      replace D1 := lies.on_call D1 hA
      replace D2 := lies.on_call D2 hA
      replace D3 := lies.on_call D3 hA
      replace D4 := lies.on_call D4 hA
      replace P0 := P0.on hA
      replace DB := later DB hA
      clear hA
      generalize w6.heap.size = XD7 at D7 ⊢
      generalize w6.alloc (.cells #[.int .i64 a2, .int .i64 a3, .int .i64 a0, .int .i64 a1, .int .i64 a5, .int .i64 a4] 24) = v7 at D0 D1 D2 D3 D4 D7 P0 DB ⊢
      refine (back_any b0 b1 b2 b3 b4 b5 v7 P0 TB.out).mono ?_
      rintro e w8 ⟨hB, q0, q1, q2, q3, q4, q5, h, rfl, hQ⟩
      replace D0 := lies.on_call D0 hB
      replace D1 := lies.on_call D1 hB
      replace D2 := lies.on_call D2 hB
      replace D3 := lies.on_call D3 hB
      replace D4 := lies.on_call D4 hB
      replace D7 := lies.on_call D7 hB
      replace P0 := P0.on hB
      replace DB := later DB hB
      clear hB
      obtain ⟨e1, rfl⟩ := back_yes HMB.out hQ
      rw [back_six] at e1
      obtain ⟨rfl, rfl, rfl, rfl, rfl, rfl⟩ : b2 = q0 ∧ b3 = q1 ∧ b0 = q2 ∧ b1 = q3 ∧ b5 = q4 ∧ b4 = q5 := by simpa using e1.symm
      clear e1 hQ
      obtain ⟨⟨kD7_0, kD7_1, kD7_2, kD7_3, kD7_4, kD7_5⟩, -⟩ := six_cells D7
      have kD7_l := lies.lt D7
      go_wp2_with fail
      clear kD7_0 kD7_1 kD7_2 kD7_3 kD7_4 kD7_5 kD7_l
      have hA := bound.up1 w8 (.cells #[.int .i64 b2, .int .i64 b3, .int .i64 b0, .int .i64 b1, .int .i64 b5, .int .i64 b4] 24)
      have D8 := lies.made w8 24 #[.int .i64 b2, .int .i64 b3, .int .i64 b0, .int .i64 b1, .int .i64 b5, .int .i64 b4]
      replace D0 := lies.on_call D0 hA
      replace D1 := lies.on_call D1 hA
      replace D2 := lies.on_call D2 hA
      replace D3 := lies.on_call D3 hA
      replace D4 := lies.on_call D4 hA
      replace D7 := lies.on_call D7 hA
      replace P0 := P0.on hA
      replace DB := later DB hA
      clear hA
      generalize w8.heap.size = XD8 at D8 ⊢
      generalize w8.alloc (.cells #[.int .i64 b2, .int .i64 b3, .int .i64 b0, .int .i64 b1, .int .i64 b5, .int .i64 b4] 24) = v9 at D0 D1 D2 D3 D4 D7 D8 P0 DB ⊢
      refine (back_any a2 a3 a0 a1 a5 a4 v9 P0 (by rw [← back_six]; exact back_tops TA.out)).mono ?_
      rintro e w10 ⟨hB, o0, o1, o2, o3, o4, o5, i, rfl, hQ⟩
      replace D0 := lies.on_call D0 hB
      replace D1 := lies.on_call D1 hB
      replace D2 := lies.on_call D2 hB
      replace D3 := lies.on_call D3 hB
      replace D4 := lies.on_call D4 hB
      replace D7 := lies.on_call D7 hB
      replace D8 := lies.on_call D8 hB
      replace P0 := P0.on hB
      replace DB := later DB hB
      clear hB
      obtain ⟨e1, rfl⟩ := back_yes (a := [a2, a3, a0, a1, a5, a4]) (by rw [← back_six]; exact back_may TA.out HMA.out) hQ
      rw [back_six] at e1
      obtain ⟨rfl, rfl, rfl, rfl, rfl, rfl⟩ : a0 = o0 ∧ a1 = o1 ∧ a2 = o2 ∧ a3 = o3 ∧ a4 = o4 ∧ a5 = o5 := by simpa using e1.symm
      clear e1 hQ
      obtain ⟨⟨kD8_0, kD8_1, kD8_2, kD8_3, kD8_4, kD8_5⟩, -⟩ := six_cells D8
      have kD8_l := lies.lt D8
      obtain ⟨⟨kD7_0, kD7_1, kD7_2, kD7_3, kD7_4, kD7_5⟩, -⟩ := six_cells D7
      have kD7_l := lies.lt D7
      go_wp2_with fail
      clear kD8_0 kD8_1 kD8_2 kD8_3 kD8_4 kD8_5 kD8_l kD7_0 kD7_1 kD7_2 kD7_3 kD7_4 kD7_5 kD7_l
      have hA := bound.up1 w10 (.cells #[.int .i64 a0, .int .i64 a1, .int .i64 a2, .int .i64 a3, .int .i64 a4, .int .i64 a5] 24)
      have D9 := lies.made w10 24 #[.int .i64 a0, .int .i64 a1, .int .i64 a2, .int .i64 a3, .int .i64 a4, .int .i64 a5]
      replace D0 := lies.on_call D0 hA
      replace D1 := lies.on_call D1 hA
      replace D2 := lies.on_call D2 hA
      replace D3 := lies.on_call D3 hA
      replace D4 := lies.on_call D4 hA
      replace D7 := lies.on_call D7 hA
      replace D8 := lies.on_call D8 hA
      replace P0 := P0.on hA
      replace DB := later DB hA
      clear hA
      generalize w10.heap.size = XD9 at D9 ⊢
      generalize w10.alloc (.cells #[.int .i64 a0, .int .i64 a1, .int .i64 a2, .int .i64 a3, .int .i64 a4, .int .i64 a5] 24) = v11 at D0 D1 D2 D3 D4 D7 D8 D9 P0 DB ⊢
      refine (comp_any b2 b3 b0 b1 b5 b4 a2 a3 a0 a1 a5 a4 v11 P0 (by rw [← back_six]; exact back_tops TB.out) (by rw [← back_six]; exact back_tops TA.out)).mono ?_
      rintro e w12 ⟨hB, r0, r1, r2, r3, r4, r5, j, rfl, hQ⟩
      replace D0 := lies.on_call D0 hB
      replace D1 := lies.on_call D1 hB
      replace D2 := lies.on_call D2 hB
      replace D3 := lies.on_call D3 hB
      replace D4 := lies.on_call D4 hB
      replace D7 := lies.on_call D7 hB
      replace D8 := lies.on_call D8 hB
      replace D9 := lies.on_call D9 hB
      replace P0 := P0.on hB
      replace DB := later DB hB
      clear hB
      obtain ⟨e2, e1⟩ := back_one rfl rfl TA.out TB.out HMA.out HMB.out HX.out hQ
      subst e2
      clear e1 hQ
      have hq1 : ∀ W, (Op.equalIn 10000 24 (.agg #[.int .i64 a0, .int .i64 a1, .int .i64 a2, .int .i64 a3, .int .i64 a4, .int .i64 a5]) (.agg #[.int .i64 a0, .int .i64 a1, .int .i64 a2, .int .i64 a3, .int .i64 a4, .int .i64 a5])).run Tryd.prog W = .ok true W := fun W => by rw [eq_zone]; simp
      have he := HE.out
      have hbe : (j == 0) = false := by simpa using he
      obtain ⟨⟨kD9_0, kD9_1, kD9_2, kD9_3, kD9_4, kD9_5⟩, -⟩ := six_cells D9
      have kD9_l := lies.lt D9
      obtain ⟨⟨kD0_0, kD0_1, kD0_2, kD0_3, kD0_4, kD0_5⟩, -⟩ := six_cells D0
      have kD0_l := lies.lt D0
      obtain ⟨⟨kD2_0, kD2_1, kD2_2, kD2_3, kD2_4, kD2_5⟩, -⟩ := six_cells D2
      have kD2_l := lies.lt D2
      go_wp2_with fail
      clear kD9_0 kD9_1 kD9_2 kD9_3 kD9_4 kD9_5 kD9_l kD0_0 kD0_1 kD0_2 kD0_3 kD0_4 kD0_5 kD0_l kD2_0 kD2_1 kD2_2 kD2_3 kD2_4 kD2_5 kD2_l
      have hA := bound.up1 w12 (.cells #[.int .i64 r0, .int .i64 r1, .int .i64 r2, .int .i64 r3, .int .i64 r4, .int .i64 r5] 24)
      have D10 := lies.made w12 24 #[.int .i64 r0, .int .i64 r1, .int .i64 r2, .int .i64 r3, .int .i64 r4, .int .i64 r5]
      replace D0 := lies.on_call D0 hA
      replace D1 := lies.on_call D1 hA
      replace D2 := lies.on_call D2 hA
      replace D3 := lies.on_call D3 hA
      replace D4 := lies.on_call D4 hA
      replace D7 := lies.on_call D7 hA
      replace D8 := lies.on_call D8 hA
      replace D9 := lies.on_call D9 hA
      replace P0 := P0.on hA
      replace DB := later DB hA
      clear hA
      generalize w12.heap.size = XD10 at D10 ⊢
      generalize w12.alloc (.cells #[.int .i64 r0, .int .i64 r1, .int .i64 r2, .int .i64 r3, .int .i64 r4, .int .i64 r5] 24) = v13 at D0 D1 D2 D3 D4 D7 D8 D9 D10 P0 DB ⊢
      clear hq1 he hbe
      refine (zmeet_any a0 a1 a2 a3 a4 a5 c0 c1 c2 c3 c4 c5 v13 P0 TA.out TC.out).mono ?_
      rintro e w14 ⟨hB, l0, l1, l2, l3, l4, l5, k, rfl, hQ⟩
      replace D0 := lies.on_call D0 hB
      replace D1 := lies.on_call D1 hB
      replace D2 := lies.on_call D2 hB
      replace D3 := lies.on_call D3 hB
      replace D4 := lies.on_call D4 hB
      replace D7 := lies.on_call D7 hB
      replace D8 := lies.on_call D8 hB
      replace D9 := lies.on_call D9 hB
      replace D10 := lies.on_call D10 hB
      replace P0 := P0.on hB
      replace DB := later DB hB
      clear hB
      have HL := Lib.hid hQ
      have TL := Lib.hid (meet_rt TA.out hQ)
      clear hQ
      by_cases hk : k = 0
      · skip
        subst hk
        obtain ⟨⟨kD1_0, kD1_1, kD1_2, kD1_3, kD1_4, kD1_5⟩, -⟩ := six_cells D1
        have kD1_l := lies.lt D1
        go_wp2_with fail
        clear kD1_0 kD1_1 kD1_2 kD1_3 kD1_4 kD1_5 kD1_l
        have hA := bound.up1 w14 (.cells #[.int .i64 l0, .int .i64 l1, .int .i64 l2, .int .i64 l3, .int .i64 l4, .int .i64 l5] 24)
        have D12 := lies.made w14 24 #[.int .i64 l0, .int .i64 l1, .int .i64 l2, .int .i64 l3, .int .i64 l4, .int .i64 l5]
        replace D0 := lies.on_call D0 hA
        replace D1 := lies.on_call D1 hA
        replace D2 := lies.on_call D2 hA
        replace D3 := lies.on_call D3 hA
        replace D4 := lies.on_call D4 hA
        replace D7 := lies.on_call D7 hA
        replace D8 := lies.on_call D8 hA
        replace D9 := lies.on_call D9 hA
        replace D10 := lies.on_call D10 hA
        replace P0 := P0.on hA
        replace DB := later DB hA
        clear hA
        generalize w14.heap.size = XD12 at D12 ⊢
        generalize w14.alloc (.cells #[.int .i64 l0, .int .i64 l1, .int .i64 l2, .int .i64 l3, .int .i64 l4, .int .i64 l5] 24) = v15 at D0 D1 D2 D3 D4 D7 D8 D9 D10 D12 P0 DB ⊢
        refine (comp_any l0 l1 l2 l3 l4 l5 b0 b1 b2 b3 b4 b5 v15 P0 TL.out TB.out).mono ?_
        rintro e w16 ⟨hB, m0, m1, m2, m3, m4, m5, n, rfl, hQ⟩
        replace D0 := lies.on_call D0 hB
        replace D1 := lies.on_call D1 hB
        replace D2 := lies.on_call D2 hB
        replace D3 := lies.on_call D3 hB
        replace D4 := lies.on_call D4 hB
        replace D7 := lies.on_call D7 hB
        replace D8 := lies.on_call D8 hB
        replace D9 := lies.on_call D9 hB
        replace D10 := lies.on_call D10 hB
        replace D12 := lies.on_call D12 hB
        replace P0 := P0.on hB
        replace DB := later DB hB
        clear hB
        have HQ := Lib.hid hQ
        have TM := Lib.hid (comp_rt TL.out TB.out hQ)
        clear hQ
        rcases HQ.out with ⟨_, _, rfl⟩ | ⟨_, _, _, _, rfl⟩ | ⟨_, _, _, _, _, rfl⟩ | ⟨_, _, _, _, _, rfl⟩
        · skip
          clear HQ HX HY
          go_wp2_with fail
          go_ret
          exact ⟨rfl, lies.frame_up DB _⟩
        · skip
          clear HQ HX HY
          go_wp2_with fail
          go_ret
          exact ⟨rfl, lies.frame_up DB _⟩
        · skip
          clear HQ HX HY
          go_wp2_with fail
          go_ret
          exact ⟨rfl, lies.frame_up DB _⟩
        · skip
          obtain ⟨⟨kD3_0, kD3_1, kD3_2, kD3_3, kD3_4, kD3_5⟩, -⟩ := six_cells D3
          have kD3_l := lies.lt D3
          go_wp2_with fail
          clear kD3_0 kD3_1 kD3_2 kD3_3 kD3_4 kD3_5 kD3_l
          have hA := bound.up1 w16 (.cells #[.int .i64 m0, .int .i64 m1, .int .i64 m2, .int .i64 m3, .int .i64 m4, .int .i64 m5] 24)
          have D13 := lies.made w16 24 #[.int .i64 m0, .int .i64 m1, .int .i64 m2, .int .i64 m3, .int .i64 m4, .int .i64 m5]
          replace D0 := lies.on_call D0 hA
          replace D1 := lies.on_call D1 hA
          replace D2 := lies.on_call D2 hA
          replace D3 := lies.on_call D3 hA
          replace D4 := lies.on_call D4 hA
          replace D7 := lies.on_call D7 hA
          replace D8 := lies.on_call D8 hA
          replace D9 := lies.on_call D9 hA
          replace D10 := lies.on_call D10 hA
          replace D12 := lies.on_call D12 hA
          replace P0 := P0.on hA
          replace DB := later DB hA
          clear hA
          generalize w16.heap.size = XD13 at D13 ⊢
          generalize w16.alloc (.cells #[.int .i64 m0, .int .i64 m1, .int .i64 m2, .int .i64 m3, .int .i64 m4, .int .i64 m5] 24) = v17 at D0 D1 D2 D3 D4 D7 D8 D9 D10 D12 D13 P0 DB ⊢
          refine (zin_any m0 m1 m2 m3 m4 m5 x0 x1 x2 x3 x4 x5 v17 P0 TM.out TX.out).mono ?_
          rintro e w18 ⟨hB, rb, ni, rfl, hI⟩
          replace D0 := lies.on_call D0 hB
          replace D1 := lies.on_call D1 hB
          replace D2 := lies.on_call D2 hB
          replace D3 := lies.on_call D3 hB
          replace D4 := lies.on_call D4 hB
          replace D7 := lies.on_call D7 hB
          replace D8 := lies.on_call D8 hB
          replace D9 := lies.on_call D9 hB
          replace D10 := lies.on_call D10 hB
          replace D12 := lies.on_call D12 hB
          replace D13 := lies.on_call D13 hB
          replace P0 := P0.on hB
          replace DB := later DB hB
          clear hB
          clear hI
          have he := HE.out
          have hbe : (j == 0) = false := by simpa using he
          go_wp2_with fail
          go_ret
          exact ⟨rfl, DB⟩
      · skip
        have hbk : (k == 0) = false := by simpa using hk
        clear HX HY HL
        go_wp2_with fail
        go_ret
        exact ⟨rfl, lies.frame_up DB _⟩
  · skip
    have HN := Lib.hid hz
    clear hz
    obtain rfl : e = 8 := by
      rcases HX.out with ⟨_, _, h⟩ | ⟨h1, h2, _⟩ | ⟨h1, h2, _⟩ | ⟨h1, h2, _⟩
      · exact h
      · exact (HN.out ⟨h1, h2⟩).elim
      · exact (HN.out ⟨h1, h2⟩).elim
      · exact (HN.out ⟨h1, h2⟩).elim
    clear HX HY
    obtain ⟨⟨kD0_0, kD0_1, kD0_2, kD0_3, kD0_4, kD0_5⟩, -⟩ := six_cells D0
    have kD0_l := lies.lt D0
    go_wp2_with fail
    clear kD0_0 kD0_1 kD0_2 kD0_3 kD0_4 kD0_5 kD0_l
    have hA := bound.up1 w4 (.cells #[.int .i64 y0, .int .i64 y1, .int .i64 y2, .int .i64 y3, .int .i64 y4, .int .i64 y5] 24)
    have D4 := lies.made w4 24 #[.int .i64 y0, .int .i64 y1, .int .i64 y2, .int .i64 y3, .int .i64 y4, .int .i64 y5]
    replace D0 := lies.on_call D0 hA
    replace D1 := lies.on_call D1 hA
    replace D2 := lies.on_call D2 hA
    replace D3 := lies.on_call D3 hA
    replace P0 := P0.on hA
    replace DB := later DB hA
    clear hA
    generalize w4.heap.size = XD4 at D4 ⊢
    generalize w4.alloc (.cells #[.int .i64 y0, .int .i64 y1, .int .i64 y2, .int .i64 y3, .int .i64 y4, .int .i64 y5] 24) = v5 at D0 D1 D2 D3 D4 P0 DB ⊢
    refine (back_any a0 a1 a2 a3 a4 a5 v5 P0 TA.out).mono ?_
    rintro e w6 ⟨hB, p0, p1, p2, p3, p4, p5, g, rfl, hQ⟩
    replace D0 := lies.on_call D0 hB
    replace D1 := lies.on_call D1 hB
    replace D2 := lies.on_call D2 hB
    replace D3 := lies.on_call D3 hB
    replace D4 := lies.on_call D4 hB
    replace P0 := P0.on hB
    replace DB := later DB hB
    clear hB
    by_cases hma : MayZ [a0, a1, a2, a3, a4, a5]
    · skip
      obtain ⟨_, rfl⟩ := back_yes hma hQ
      have HMB := Lib.hid (show ¬ MayZ [b0, b1, b2, b3, b4, b5] from fun q => HN.out ⟨hma, q⟩)
      clear hma hQ
      obtain ⟨⟨kD1_0, kD1_1, kD1_2, kD1_3, kD1_4, kD1_5⟩, -⟩ := six_cells D1
      have kD1_l := lies.lt D1
      go_wp2_with fail
      clear kD1_0 kD1_1 kD1_2 kD1_3 kD1_4 kD1_5 kD1_l
      have hA := bound.up1 w6 (.cells #[.int .i64 p0, .int .i64 p1, .int .i64 p2, .int .i64 p3, .int .i64 p4, .int .i64 p5] 24)
      have D7 := lies.made w6 24 #[.int .i64 p0, .int .i64 p1, .int .i64 p2, .int .i64 p3, .int .i64 p4, .int .i64 p5]
      replace D0 := lies.on_call D0 hA
      replace D1 := lies.on_call D1 hA
      replace D2 := lies.on_call D2 hA
      replace D3 := lies.on_call D3 hA
      replace D4 := lies.on_call D4 hA
      replace P0 := P0.on hA
      replace DB := later DB hA
      clear hA
      generalize w6.heap.size = XD7 at D7 ⊢
      generalize w6.alloc (.cells #[.int .i64 p0, .int .i64 p1, .int .i64 p2, .int .i64 p3, .int .i64 p4, .int .i64 p5] 24) = v7 at D0 D1 D2 D3 D4 D7 P0 DB ⊢
      refine (back_any b0 b1 b2 b3 b4 b5 v7 P0 TB.out).mono ?_
      rintro e w8 ⟨hB, q0, q1, q2, q3, q4, q5, h, rfl, hQ⟩
      replace D0 := lies.on_call D0 hB
      replace D1 := lies.on_call D1 hB
      replace D2 := lies.on_call D2 hB
      replace D3 := lies.on_call D3 hB
      replace D4 := lies.on_call D4 hB
      replace D7 := lies.on_call D7 hB
      replace P0 := P0.on hB
      replace DB := later DB hB
      clear hB
      obtain rfl := back_no HMB.out hQ
      clear hQ
      go_wp2_with fail
      go_ret
      exact ⟨rfl, lies.frame_up DB _⟩
    · skip
      obtain rfl := back_no hma hQ
      clear hma hQ
      obtain ⟨⟨kD1_0, kD1_1, kD1_2, kD1_3, kD1_4, kD1_5⟩, -⟩ := six_cells D1
      have kD1_l := lies.lt D1
      go_wp2_with fail
      clear kD1_0 kD1_1 kD1_2 kD1_3 kD1_4 kD1_5 kD1_l
      have hA := bound.up1 w6 (.cells #[.int .i64 p0, .int .i64 p1, .int .i64 p2, .int .i64 p3, .int .i64 p4, .int .i64 p5] 24)
      have D7 := lies.made w6 24 #[.int .i64 p0, .int .i64 p1, .int .i64 p2, .int .i64 p3, .int .i64 p4, .int .i64 p5]
      replace D0 := lies.on_call D0 hA
      replace D1 := lies.on_call D1 hA
      replace D2 := lies.on_call D2 hA
      replace D3 := lies.on_call D3 hA
      replace D4 := lies.on_call D4 hA
      replace P0 := P0.on hA
      replace DB := later DB hA
      clear hA
      generalize w6.heap.size = XD7 at D7 ⊢
      generalize w6.alloc (.cells #[.int .i64 p0, .int .i64 p1, .int .i64 p2, .int .i64 p3, .int .i64 p4, .int .i64 p5] 24) = v7 at D0 D1 D2 D3 D4 D7 P0 DB ⊢
      refine (back_any b0 b1 b2 b3 b4 b5 v7 P0 TB.out).mono ?_
      rintro e w8 ⟨hB, q0, q1, q2, q3, q4, q5, h, rfl, hQ⟩
      replace D0 := lies.on_call D0 hB
      replace D1 := lies.on_call D1 hB
      replace D2 := lies.on_call D2 hB
      replace D3 := lies.on_call D3 hB
      replace D4 := lies.on_call D4 hB
      replace D7 := lies.on_call D7 hB
      replace P0 := P0.on hB
      replace DB := later DB hB
      clear hB
      clear hQ
      go_wp2_with fail
      go_ret
      exact ⟨rfl, lies.frame_up DB _⟩

set_option maxRecDepth 100000 in
theorem lifted (os : Os) (started : os.Started) (H : Type) (enc : TypeId × Value → H) :
    ReturnsInHanded {} Tryd.checked os 6 .any (fun w args => (Rows.compOrderSpec.pre enc Tryd.prog Tryd.f6 [] false w args ∧ laidMetH Tryd.prog zopen.places w) ∧ sizedMet enc Tryd.prog Tryd.f6 (OpenSpec.ofChange Rows.compOrderSpec) false w args) (Rows.compOrderSpec.post enc Tryd.prog Tryd.f6 false true false false) := by
  refine returnsInHanded_of_change_and (C := Tryd.checked) (X := fun w _ => laidMetH Tryd.prog zopen.places w) (fun _ _ _ hh h => h.of_heap hh) law.own started (by kernel_rfl) Tryd.func6
    (ChangeSpec.witness_shaped (enc := enc) (C := Tryd.checked) (os := os) (X := fun w _ => laidMetH Tryd.prog zopen.places w) false (World.doorLaid Tryd.prog 400 os) #[.agg #[.int .i64 0, .int .i64 0, .int .i64 0, .int .i64 0, .int .i64 0, .int .i64 0], .agg #[.int .i64 0, .int .i64 0, .int .i64 0, .int .i64 0, .int .i64 0, .int .i64 0], .agg #[.int .i64 0, .int .i64 0, .int .i64 0, .int .i64 0, .int .i64 0, .int .i64 0]] 8 rfl (World.shaped_of_RefB (by kernel_rfl) (by kernel_rfl)) (by kernel_rfl) (by kernel_rfl) (by kernel_rfl) (zopen.door_met os _)) ?_
  intro W base args ds gs before hval0 hW _ _ hL _
  have hval : ∀ (j : Nat) t v, Tryd.f6.params[j]? = some t → args[j]? = some v → Value.okWide Tryd.prog W .any base t v := hval0
  have hW' := hW
  obtain ⟨p, q, hA0, hV, rfl, _, _⟩ := hW
  have hA : DataW.TrodAll enc Tryd.prog W 0 (fun _ => true) true Tryd.f6.params.toList args.toList ds p := hA0
  rw [Tryd.params6] at hA hval
  obtain ⟨v0, vs0, d0, ds0, p0, q0, hargs, rfl, rfl, h0, r0⟩ := trodAll_cons hA
  obtain ⟨v1, vs1, d1, ds1, p1, q1, rfl, rfl, rfl, h1, r1⟩ := trodAll_cons r0
  obtain ⟨v2, vs2, d2, ds2, p2, q2, rfl, rfl, rfl, h2, r2⟩ := trodAll_cons r1
  obtain ⟨rfl, rfl, rfl⟩ := trodAll_nil r2
  obtain rfl : args = #[v0, v1, v2] := by cases args; simp_all
  obtain ⟨z00, z01, z02, z03, z04, z05, rfl, w0⟩ := zopen.open_zone (hval 0 24 v0 rfl rfl) h0
  obtain ⟨z10, z11, z12, z13, z14, z15, rfl, w1⟩ := zopen.open_zone (hval 1 24 v1 rfl rfl) h1
  obtain ⟨z20, z21, z22, z23, z24, z25, rfl, w2⟩ := zopen.open_zone (hval 2 24 v2 rfl rfl) h2
  refine (walk z00 z01 z02 z03 z04 z05 z10 z11 z12 z13 z14 z15 z20 z21 z22 z23 z24 z25 W (fun x hx => ⟨law.wf_lo (w0 x hx), law.wf_hi (w0 x hx)⟩) (fun x hx => ⟨law.wf_lo (w1 x hx), law.wf_hi (w1 x hx)⟩) (fun x hx => ⟨law.wf_lo (w2 x hx), law.wf_hi (w2 x hx)⟩) (zopen.laid_pl hL)).mono fun e W' ⟨he, hB⟩ => ?_
  subst he
  exact ⟨_, rfl, law.post_true law.laidOut (by kernel_rfl) rfl Tryd.underlying4 rfl hW' (fun h => by subst h; rfl) hB⟩

theorem proved : Rows.CompOrderSaid :=
  OpenClaim.holds_of_wide 6 Tryd.f6 rfl rfl rfl rfl rfl rfl rfl ⟨rfl, rfl, rfl, rfl, rfl⟩ rfl rfl rfl rfl rfl (by kernel_rfl) Tryd.func6 (by kernel_rfl)
    (of_decide_eq_true (by kernel_rfl)) (by unfold Func.isWrapper; first | (rw [if_pos (by decide +kernel)]; kernel_rfl) | (rw [if_neg (by decide +kernel)]; exact ⟨rfl, rfl⟩))
    (fun os started H enc _ => lifted os started H enc)
theorem card : Rows.CompOrderCardSaid :=
  Claim7.holds_tied_plain_at .later [] [.data] true (true, "e4e3719b7de1e4314314497030072501f33c4ef491c7e24e35a0e0bb01ea1702") false
    proved (fun _ h => by cases h) (by kernel_rfl) (fun _ h => by cases h) compOrder_row_tie rfl ⟨rfl, rfl⟩ (by kernel_rfl) rfl
    (fun f fn hf hfn => by
      obtain rfl : f = 6 := Option.some.inj ((show Tryd.prog.funcNamed "rallentando/rallentandolaw09.CompOrder" = some 6 by kernel_rfl).symm.trans hf) |>.symm
      obtain rfl : fn = Tryd.f6 := (Option.some.inj (Tryd.func6.symm.trans hfn)).symm
      exact ⟨by kernel_rfl, fun j t ht => by
        rw [Tryd.params6] at ht
        have hm : t ∈ [24, 24, 24] := by simpa using Array.mem_of_getElem? ht
        have hall : ([24, 24, 24].all fun u => !Tryd.prog.wantsStandIn u) = true := by kernel_rfl
        exact (show Tryd.prog.wantsStandIn t = false by simpa using List.all_eq_true.1 hall t hm)⟩)
    (by kernel_rfl)
#print axioms card
end Go.Proofs.YtngjkebmilpemaaDoor.compOrder
