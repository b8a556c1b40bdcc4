/-
  CompFirsts answers true for every zone and time; the listed variable reads as the program lays it.
-/
import Derived.Test.YtngjkebmilpemaaDoorCompM
import Derived.Test.YtngjkebmilpemaaDoorCards
import Derived.Test.YtngjkebmilpemaaDoorTie
import Derived.BigQuiet
namespace Go.Proofs.YtngjkebmilpemaaDoor.compFirsts
open Go.Joins Go.ChangeShapes Go.WideShapes Go.ChangeAt Go.RowKit num rat dbm Go.Proofs.YtngjkebmilpemaaDoor.tight Go.Proofs.YtngjkebmilpemaaDoor.incl Go.Proofs.YtngjkebmilpemaaDoor.plaw Go.Proofs.YtngjkebmilpemaaDoor.zopen Go.Proofs.YtngjkebmilpemaaDoor.zone Go.Proofs.YtngjkebmilpemaaDoor.zlaw Go.Proofs.YtngjkebmilpemaaDoor.comp Go.Proofs.YtngjkebmilpemaaDoor.claw
open bound hiding up
set_option linter.unusedVariables false
set_option linter.unusedSimpArgs false

theorem mk_self (x : Int) : mk (x / 2) (bS x) = x := by
  unfold mk bS
  by_cases h : x % 2 = 0
  · rw [decide_eq_true h, if_pos rfl]; omega
  · rw [decide_eq_false h, if_neg (by decide)]; omega
/-- what the firsts of a zone are bounds of. -/
theorem firsts_good {a : List Int} {s : Sp} (ta : Tops a) (h : FirR a s 0) : MayZ a ∧ MayP s ∧ OkP s ∧ hiS s = a[0]?.getD 0 ∧ loS s = a[1]?.getD 0 := by
  have key : MayZ a → a[1]?.getD 0 ≠ 9223372036854775807 → (MayP s ∧ hiS s = a[0]?.getD 0 ∧ loS s = a[1]?.getD 0) → MayZ a ∧ MayP s ∧ OkP s ∧ hiS s = a[0]?.getD 0 ∧ loS s = a[1]?.getD 0 := fun ma _ ⟨h1, h2, h3⟩ => by
    refine ⟨ma, h1, ?_, h2, h3⟩
    unfold OkP
    rw [h2, h3]
    exact two_of (i := 1) (j := 0) rfl (full_tops ta) ma.1 (by decide) (by decide) (six_fine ma.may 0 (by decide)) (six_fine ma.may 1 (by decide))
  rcases h with ⟨_, _, n⟩ | ⟨_, _, _, n⟩ | ⟨ma, h1, h0, rfl, _⟩ | ⟨ma, h1, h0, rfl, _⟩
  · exact absurd n (by decide)
  · exact absurd n (by decide)
  · have f1 := (six_fine ma.may 1 (by decide)).resolve_left h1
    refine key ma h1 ⟨⟨⟨?_, ?_⟩, .inl ⟨rfl, rfl, rfl⟩⟩, ?_, ?_⟩
    · dsimp only; omega
    · dsimp only; omega
    · rw [h0]; rfl
    · show mk (-(-(a[1]?.getD 0 / 2))) (bS (a[1]?.getD 0)) = _
      rw [Int.neg_neg]; exact mk_self _
  · have f1 := (six_fine ma.may 1 (by decide)).resolve_left h1
    have f0 := (six_fine ma.may 0 (by decide)).resolve_left h0
    have hp := pair_ok (n := 3) (by decide) (by decide) rfl (full_tops ta) ma.1 (i := 1) (j := 0) (by decide) (by decide)
    have hp : way.le way.one (way.ad (cod (a[0]?.getD 0)) (cod (a[1]?.getD 0))) := hp
    rw [cod_some h0, cod_some h1, way.ad_some] at hp
    have hp : (1 : Int) ≤ 2 * (a[0]?.getD 0 / 2 + a[1]?.getD 0 / 2) + min (a[0]?.getD 0 % 2) (a[1]?.getD 0 % 2) := hp
    refine key ma h1 ⟨⟨⟨?_, ?_⟩, .inr ⟨rfl, ⟨?_, ?_⟩, ?_⟩⟩, ?_, ?_⟩
    · dsimp only; omega
    · dsimp only; omega
    · dsimp only; omega
    · dsimp only; omega
    · dsimp only; omega
    · show mk (a[0]?.getD 0 / 2) (bS (a[0]?.getD 0)) = _
      exact mk_self _
    · show mk (-(-(a[1]?.getD 0 / 2))) (bS (a[1]?.getD 0)) = _
      rw [Int.neg_neg]; exact mk_self _
theorem drop_is {a0 a1 a2 a3 a4 a5 : Int} (h : MayZ [a0, a1, a2, a3, a4, a5]) : proj.dropT 3 2 (fullT [a0, a1, a2, a3, a4, a5]) = [1, a1, a0, 1] := by
  unfold proj.dropT
  rw [show clT ((3 : Nat) : Int) (fullT [a0, a1, a2, a3, a4, a5]) = fullT [a0, a1, a2, a3, a4, a5] from h.2]
  rfl
/-- a pair that keeps a zone keeps it without the second one. -/
theorem kept_two {a0 a1 a2 a3 a4 a5 p q r s : Int} (hp : MayR p q) (h : keptAll 3 (fullT [a0, a1, a2, a3, a4, a5]) [(0, 1), (p, q), (r, s)]) : keptAll 2 [1, a1, a0, 1] [(0, 1), (p, q)] := fun i j hi hj => by
  rcases (by omega : i = 0 ∨ i = 1) with rfl | rfl <;> rcases (by omega : j = 0 ∨ j = 1) with rfl | rfl
  · exact h 0 0 (by decide) (by decide)
  · exact h 0 1 (by decide) (by decide)
  · exact h 1 0 (by decide) (by decide)
  · exact h 1 1 (by decide) (by decide)
theorem two_facts {a0 a1 : Int} {a2 a3 a4 a5 : Int} (ta : Tops [a0, a1, a2, a3, a4, a5]) (h : MayZ [a0, a1, a2, a3, a4, a5]) : OkD 2 [1, a1, a0, 1] ∧ Tops [1, a1, a0, 1] ∧ inV 2 [1, a1, a0, 1] [1, a1, a0, 1] := by
  have f0 := six_fine h.may 0 (by decide)
  have f1 := six_fine h.may 1 (by decide)
  have ok := two_of (i := 1) (j := 0) rfl (full_tops ta) h.1 (by decide) (by decide) f0 f1
  have cl := (two_ok f0 f1 (pair_ok (n := 3) (by decide) (by decide) rfl (full_tops ta) h.1 (i := 1) (j := 0) (by decide) (by decide))).2
  have ok : OkD 2 [1, a1, a0, 1] := ok
  have cl : clT 2 [1, a1, a0, 1] = [1, a1, a0, 1] := cl
  refine ⟨ok, two_tops f0 f1, ?_⟩
  unfold inV
  rw [cl]
  exact fun _ p _ => Int.le_refl _
theorem keep_one {n : Int} {ts : List Int} {rs : List (Int × Int)} {w w' : World} {e : Ending} (h : Kpd n ts rs w e w') (h1 : MayD n ts) (h2 : MayT rs) (h3 : (rs.length : Int) = n - 1) : Below w.heap.size w w' ∧ ∃ r : Bool, e = .returned (.tuple #[.bool r, .int .i64 0]) ∧ (r = true ↔ keptAll n.toNat ts ((0, 1) :: rs)) := by
  obtain ⟨hB, r, c, rfl, ⟨_, _, k⟩ | ⟨_, _, _, _, k⟩ | ⟨rfl, _, _, _, k⟩⟩ := h
  · exact (k ⟨h1, h2⟩).elim
  · exact (k h3).elim
  · exact ⟨hB, r, rfl, k⟩
theorem may_single {p q : Int} (h : MayR p q) : MayT [(p, q)] := fun k hk => by
  obtain rfl : k = 0 := by simp at hk; omega
  exact h
theorem int_single {p q : Int} (h : -9223372036854775808 ≤ p ∧ p ≤ 9223372036854775807) (k : -9223372036854775808 ≤ q ∧ q ≤ 9223372036854775807) : IntsR [(p, q)] := fun i hi => by
  obtain rfl : i = 0 := by simp at hi; omega
  exact ⟨h, k⟩
theorem pick_facts {z : List Int} {a b c d f : Int} (ht : Tops z) (hz : MayZ z) (h : PickR z a b c d f) : f = 0 ∧ MayR a b ∧ (-9223372036854775808 ≤ a ∧ a ≤ 9223372036854775807) ∧ (-9223372036854775808 ≤ b ∧ b ≤ 9223372036854775807) ∧ keptAll 3 (fullT z) [(0, 1), (a, b), (c, d)] := by
  rcases h with ⟨n, _⟩ | ⟨_, e, rfl⟩
  · exact (n hz).elim
  · obtain ⟨h1, h2, _⟩ := pks_may (n := 3) (by decide) (by decide) rfl (full_tops ht) hz.1
    have h3 := pks_kept (n := 3) (by decide) (by decide) rfl (full_tops ht) hz.1
    rw [e] at h1 h2 h3
    have k1 := h2 1 (show 1 < 3 by decide)
    exact ⟨rfl, h1 1 (show 1 < 3 by decide), k1.1, k1.2, h3⟩

set_option maxRecDepth 100000 in
set_option maxHeartbeats 16000000 in
theorem walk (a0 a1 a2 a3 a4 a5 p q : Int) (w : World) (ha : ∀ x ∈ [a0, a1, a2, a3, a4, a5], -9223372036854775808 ≤ x ∧ x ≤ 9223372036854775807) (hp : -9223372036854775808 ≤ p ∧ p ≤ 9223372036854775807) (hq : -9223372036854775808 ≤ q ∧ q ≤ 9223372036854775807) (hP : Pl w) : Calls Tryd.prog 7 #[.agg #[.int .i64 a0, .int .i64 a1, .int .i64 a2, .int .i64 a3, .int .i64 a4, .int .i64 a5], .agg #[.int .i64 p, .int .i64 q]] w fun e w' => e = .returned (.bool true) ∧ Below w.heap.size w w' := by
  have TA := Lib.hid (show Tops [a0, a1, a2, a3, a4, a5] from fun x hx => (ha x hx).2)
  have HPQ := Lib.hid (And.intro hp hq)
  have X : ∃ w0, w0 = (w.alloc (.cells #[.int .i64 a0, .int .i64 a1, .int .i64 a2, .int .i64 a3, .int .i64 a4, .int .i64 a5] 24)).alloc (.cells #[.int .i64 p, .int .i64 q] 49) := ⟨_, rfl⟩
  obtain ⟨w0, hX⟩ := X
  have DB : Below w.heap.size w w0 := by rw [hX]; exact bound.up2 _ _ _
  have D0 : lies.Lies w0 w.heap.size 24 #[.int .i64 a0, .int .i64 a1, .int .i64 a2, .int .i64 a3, .int .i64 a4, .int .i64 a5] := by rw [hX]; exact lies.on_alloc (lies.made _ _ _) _
  have D1 : lies.Lies w0 (w.heap.size + 1) 49 #[.int .i64 p, .int .i64 q] := by rw [hX]; exact lies.made_at _ _ _ _ (by simp)
  have P0 := hP.on DB
  clear hP ha hp hq
  go_enter Tryd.func7, Tryd.ntmps7
  go_wp2_with fail
  rw [← hX]
  clear hX
  refine (alive_yes w0 P0).mono ?_
  rintro e w1 ⟨rfl, hB⟩
  replace D0 := lies.on_call D0 hB
  replace D1 := lies.on_call D1 hB
  replace P0 := P0.on hB
  replace DB := later DB hB
  clear hB
  obtain ⟨⟨kD0_0, kD0_1, kD0_2, kD0_3, kD0_4, kD0_5⟩, -⟩ := six_cells D0
  have kD0_l := lies.lt D0
  go_wp2_with fail
  clear kD0_0 kD0_1 kD0_2 kD0_3 kD0_4 kD0_5 kD0_l
  refine (firsts_any a0 a1 a2 a3 a4 a5 w1 P0 TA.out).mono ?_
  rintro e w2 ⟨hB, lo, ls, hi, hs, op, e, rfl, hF⟩
  replace D0 := lies.on_call D0 hB
  replace D1 := lies.on_call D1 hB
  replace P0 := P0.on hB
  replace DB := later DB hB
  clear hB
  have HF := Lib.hid hF
  clear hF
  obtain ⟨⟨kD0_0, kD0_1, kD0_2, kD0_3, kD0_4, kD0_5⟩, -⟩ := six_cells D0
  have kD0_l := lies.lt D0
  go_wp2_with fail
  clear kD0_0 kD0_1 kD0_2 kD0_3 kD0_4 kD0_5 kD0_l
  have hA := bound.up1 w2 (.cells #[.int .i64 lo, .bool ls, .int .i64 hi, .bool hs, .bool op] 27)
  have D3 := lies.made w2 27 #[.int .i64 lo, .bool ls, .int .i64 hi, .bool hs, .bool op]
  replace D0 := lies.on_call D0 hA
  replace D1 := lies.on_call D1 hA
  replace P0 := P0.on hA
  replace DB := later DB hA
  clear hA
  generalize w2.heap.size = XD3 at D3 ⊢
  generalize w2.alloc (.cells #[.int .i64 lo, .bool ls, .int .i64 hi, .bool hs, .bool op] 27) = v3 at D0 D1 D3 P0 DB ⊢
  refine (matrix_any a0 a1 a2 a3 a4 a5 v3 P0 TA.out).mono ?_
  rintro e w4 ⟨hB, na, aa, la, ca, us, f, rfl, hM, hK⟩
  replace D0 := lies.on_call D0 hB
  replace D1 := lies.on_call D1 hB
  replace D3 := lies.on_call D3 hB
  replace P0 := P0.on hB
  replace DB := later DB hB
  clear hB
  have IM := Lib.hid hK.ints
  clear hK
  by_cases he : e = 0
  · skip
    subst he
    obtain ⟨hma, hmp, hok, hh, hl⟩ := firsts_good TA.out HF.out
    obtain ⟨rfl, rfl, rfl⟩ : na = 3 ∧ us = fullT [a0, a1, a2, a3, a4, a5] ∧ f = 0 := by
      rcases hM with ⟨_, h1, h2, h3⟩ | ⟨n, _⟩
      · exact ⟨h1, h2, h3⟩
      · exact (n hma.may).elim
    have HMA := Lib.hid hma
    have HMP := Lib.hid hmp
    have HOK := Lib.hid hok
    have HH := Lib.hid hh
    have HLO := Lib.hid hl
    clear hma hmp hok hh hl hM HF
    obtain ⟨kD1_0, kD1_1, -, -, -⟩ := lies.two D1
    have kD1_l := lies.lt D1
    go_wp2_with fail
    clear kD1_0 kD1_1 kD1_l
    have hA := bound.up1 w4 (.cells #[.int .i64 3, .slice aa la ca] 39)
    have D4 := lies.made w4 39 #[.int .i64 3, .slice aa la ca]
    replace D0 := lies.on_call D0 hA
    replace D1 := lies.on_call D1 hA
    replace D3 := lies.on_call D3 hA
    replace IM := Lib.hid ((IM.out.below hA).mono hA.size)
    replace P0 := P0.on hA
    replace DB := later DB hA
    clear hA
    generalize w4.heap.size = XD4 at D4 ⊢
    generalize w4.alloc (.cells #[.int .i64 3, .slice aa la ca] 39) = v5 at D0 D1 D3 D4 IM P0 DB ⊢
    refine (check3_any p q v5 HPQ.out.1.1 HPQ.out.1.2).mono ?_
    rintro e w6 ⟨rfl, hB⟩
    replace D0 := lies.on_call D0 hB
    replace D1 := lies.on_call D1 hB
    replace D3 := lies.on_call D3 hB
    replace D4 := lies.on_call D4 hB
    replace IM := Lib.hid ((IM.out.below hB).mono hB.size)
    replace P0 := P0.on hB
    replace DB := later DB hB
    clear hB
    by_cases hm : MayR p q
    · skip
      rw [rchk_ok hm]
      have HMR := Lib.hid hm
      clear hm
      obtain ⟨⟨kD0_0, kD0_1, kD0_2, kD0_3, kD0_4, kD0_5⟩, -⟩ := six_cells D0
      have kD0_l := lies.lt D0
      go_wp2_with fail
      clear kD0_0 kD0_1 kD0_2 kD0_3 kD0_4 kD0_5 kD0_l
      refine (zpick_any a0 a1 a2 a3 a4 a5 w6 P0 TA.out).mono ?_
      rintro e w7 ⟨hB, pa, pb, pc, pd, g, rfl, hR⟩
      replace D0 := lies.on_call D0 hB
      replace D1 := lies.on_call D1 hB
      replace D3 := lies.on_call D3 hB
      replace D4 := lies.on_call D4 hB
      replace IM := Lib.hid ((IM.out.below hB).mono hB.size)
      replace P0 := P0.on hB
      replace DB := later DB hB
      clear hB
      obtain ⟨rfl, h1, h2, h3, h4⟩ := pick_facts TA.out HMA.out hR
      have HK1 := Lib.hid h1
      have HK2 := Lib.hid h2
      have HK3 := Lib.hid h3
      have HK4 := Lib.hid h4
      clear h1 h2 h3 h4 hR
      go_wp2_with fail
      have hA := bound.up1 w7 (.cells #[.int .i64 pa, .int .i64 pb, .int .i64 pc, .int .i64 pd] 51)
      have D5 := lies.made w7 51 #[.int .i64 pa, .int .i64 pb, .int .i64 pc, .int .i64 pd]
      replace D0 := lies.on_call D0 hA
      replace D1 := lies.on_call D1 hA
      replace D3 := lies.on_call D3 hA
      replace D4 := lies.on_call D4 hA
      replace IM := Lib.hid ((IM.out.below hA).mono hA.size)
      replace P0 := P0.on hA
      replace DB := later DB hA
      clear hA
      generalize w7.heap.size = XD5 at D5 ⊢
      generalize w7.alloc (.cells #[.int .i64 pa, .int .i64 pb, .int .i64 pc, .int .i64 pd] 51) = v8 at D0 D1 D3 D4 D5 IM P0 DB ⊢
      refine (top2_is v8).mono ?_
      rintro e w9 ⟨hB, g2, hg2, rfl, hG⟩
      replace D0 := lies.on_call D0 hB
      replace D1 := lies.on_call D1 hB
      replace D3 := lies.on_call D3 hB
      replace D4 := lies.on_call D4 hB
      replace D5 := lies.on_call D5 hB
      replace IM := Lib.hid ((IM.out.below hB).mono hB.size)
      replace P0 := P0.on hB
      replace DB := later DB hB
      clear hB
      have IT := Lib.hid (show law.Ints _ _ (.slice (some ⟨g2, 0, none⟩) 4 4) lineT from dlaw.own_ints (cap := 4) hG)
      clear hG hg2
      obtain ⟨⟨kD3_0, kD3_1, kD3_2, kD3_3, kD3_4⟩, -⟩ := five_cells D3
      have kD3_l := lies.lt D3
      go_wp2_with fail
      clear kD3_0 kD3_1 kD3_2 kD3_3 kD3_4 kD3_l
      have hA := bound.up1 w9 (.cells #[.int .i64 2, .slice (some ⟨g2, 0, none⟩) 4 4] 39)
      have D6 := lies.made w9 39 #[.int .i64 2, .slice (some ⟨g2, 0, none⟩) 4 4]
      replace D0 := lies.on_call D0 hA
      replace D1 := lies.on_call D1 hA
      replace D3 := lies.on_call D3 hA
      replace D4 := lies.on_call D4 hA
      replace D5 := lies.on_call D5 hA
      replace IM := Lib.hid ((IM.out.below hA).mono hA.size)
      replace IT := Lib.hid ((IT.out.below hA).mono hA.size)
      replace P0 := P0.on hA
      replace DB := later DB hA
      clear hA
      generalize w9.heap.size = XD6 at D6 ⊢
      generalize w9.alloc (.cells #[.int .i64 2, .slice (some ⟨g2, 0, none⟩) 4 4] 39) = v10 at D0 D1 D3 D4 D5 D6 IM IT P0 DB ⊢
      refine (btw_any 2 1 lo hi ls hs op _ lineT v10 IT.out (by decide) line_tops).mono ?_
      rintro e w11 ⟨hB, nb, ab, lb, cb, vs, f, rfl, hA, hK⟩
      replace D0 := lies.on_call D0 hB
      replace D1 := lies.on_call D1 hB
      replace D3 := lies.on_call D3 hB
      replace D4 := lies.on_call D4 hB
      replace D5 := lies.on_call D5 hB
      replace D6 := lies.on_call D6 hB
      replace IM := Lib.hid ((IM.out.below hB).mono hB.size)
      replace IT := Lib.hid ((IT.out.below hB).mono hB.size)
      replace P0 := P0.on hB
      replace DB := later DB hB
      clear hB
      have IW := Lib.hid hK.ints
      obtain ⟨rfl, rfl, rfl⟩ : nb = 2 ∧ vs = [1, a1, a0, 1] ∧ f = 0 := by
        rcases end_cases (s := (lo, ls, hi, hs, op)) hA with ⟨n, _⟩ | ⟨_, n, _⟩ | ⟨_, _, h1, h2, h3⟩
        · exact (n HMP.out).elim
        · exact (n HOK.out).elim
        · rw [HH.out, HLO.out] at h2; exact ⟨h1, h2, h3⟩
      clear hA hK
      obtain ⟨kD4_0, kD4_1, -, -, -⟩ := lies.two D4
      have kD4_l := lies.lt D4
      go_wp2_with fail
      clear kD4_0 kD4_1 kD4_l
      have hA := bound.up1 w11 (.cells #[.int .i64 2, .slice ab lb cb] 39)
      have D7 := lies.made w11 39 #[.int .i64 2, .slice ab lb cb]
      replace D0 := lies.on_call D0 hA
      replace D1 := lies.on_call D1 hA
      replace D3 := lies.on_call D3 hA
      replace D4 := lies.on_call D4 hA
      replace D5 := lies.on_call D5 hA
      replace D6 := lies.on_call D6 hA
      replace IM := Lib.hid ((IM.out.below hA).mono hA.size)
      replace IT := Lib.hid ((IT.out.below hA).mono hA.size)
      replace IW := Lib.hid ((IW.out.below hA).mono hA.size)
      replace P0 := P0.on hA
      replace DB := later DB hA
      clear hA
      generalize w11.heap.size = XD7 at D7 ⊢
      generalize w11.alloc (.cells #[.int .i64 2, .slice ab lb cb] 39) = v12 at D0 D1 D3 D4 D5 D6 D7 IM IT IW P0 DB ⊢
      refine (proj.drop_any 3 2 _ _ v12 IM.out (show 9 ≤ 1000000 by decide) (full_tops TA.out)).mono ?_
      rintro e w13 ⟨hB, nc, ac, lc, cc, xs, f, rfl, hD, hK⟩
      replace D0 := lies.on_call D0 hB
      replace D1 := lies.on_call D1 hB
      replace D3 := lies.on_call D3 hB
      replace D4 := lies.on_call D4 hB
      replace D5 := lies.on_call D5 hB
      replace D6 := lies.on_call D6 hB
      replace D7 := lies.on_call D7 hB
      replace IM := Lib.hid ((IM.out.below hB).mono hB.size)
      replace IT := Lib.hid ((IT.out.below hB).mono hB.size)
      replace IW := Lib.hid ((IW.out.below hB).mono hB.size)
      replace P0 := P0.on hB
      replace DB := later DB hB
      clear hB
      have IO := Lib.hid hK.ints
      obtain ⟨rfl, rfl, rfl⟩ : nc = 2 ∧ xs = [1, a1, a0, 1] ∧ f = 0 := by
        rcases hD with ⟨n, _⟩ | ⟨_, n, _⟩ | ⟨_, _, n, _⟩ | ⟨_, _, h1, h2, h3⟩
        · exact (n HMA.out.may).elim
        · exact (n ⟨by decide, by decide⟩).elim
        · exact (n HMA.out.1).elim
        · exact ⟨h1, h2.trans (drop_is HMA.out), h3⟩
      clear hD hK
      obtain ⟨kD7_0, kD7_1, -, -, -⟩ := lies.two D7
      have kD7_l := lies.lt D7
      obtain ⟨⟨kD5_0, kD5_1, kD5_2, kD5_3⟩, -⟩ := four_cells D5
      have kD5_l := lies.lt D5
      go_wp2_with fail
      clear kD7_0 kD7_1 kD7_l kD5_0 kD5_1 kD5_2 kD5_3 kD5_l
      have X : ∃ x0, x0 = (w13.alloc (.cells #[.int .i64 2, .slice ac lc cc] 39)).alloc (.cells #[.int .i64 pa, .int .i64 pb] 49) := ⟨_, rfl⟩
      obtain ⟨v14, hX⟩ := X
      have hA : Below w13.heap.size w13 v14 := by rw [hX]; exact bound.up2 w13 _ _
      have D8 : lies.Lies v14 (w13.heap.size) 39 #[.int .i64 2, .slice ac lc cc] := by rw [hX]; exact lies.on_alloc (lies.made _ _ _) _
      have G1 : lies.Lies v14 (w13.heap.size + 1) 49 #[.int .i64 pa, .int .i64 pb] := by rw [hX]; exact lies.made_at _ _ _ _ (by simp)
      replace D0 := lies.on_call D0 hA
      replace D1 := lies.on_call D1 hA
      replace D3 := lies.on_call D3 hA
      replace D4 := lies.on_call D4 hA
      replace D5 := lies.on_call D5 hA
      replace D6 := lies.on_call D6 hA
      replace D7 := lies.on_call D7 hA
      replace IM := Lib.hid ((IM.out.below hA).mono hA.size)
      replace IT := Lib.hid ((IT.out.below hA).mono hA.size)
      replace IW := Lib.hid ((IW.out.below hA).mono hA.size)
      replace IO := Lib.hid ((IO.out.below hA).mono hA.size)
      replace P0 := P0.on hA
      replace DB := later DB hA
      clear hA
      rw [← hX]
      clear hX
      generalize w13.heap.size + 1 = XG1 at G1 ⊢
      generalize w13.heap.size = XD8 at D8 ⊢
      obtain ⟨h1, h2, h3⟩ := two_facts TA.out HMA.out
      have HOD := Lib.hid h1
      have HTT := Lib.hid h2
      have HIV := Lib.hid h3
      clear h1 h2 h3
      refine (dkeeps_any 2 _ (.slice (some ⟨XG1, 0, none⟩) 1 1) [1, a1, a0, 1] [(pa, pb)] v14 IW.out (show 4 ≤ 1000000 by decide) HTT.out (rats_one G1) (int_single HK2.out HK3.out) (show 1 ≤ 100000 by decide)).mono ?_
      rintro e w15 hKp
      obtain ⟨hB, rx, rfl, hr⟩ := keep_one hKp HOD.out.1 (may_single HK1.out) rfl
      clear hKp
      replace D0 := lies.on_call D0 hB
      replace D1 := lies.on_call D1 hB
      replace D3 := lies.on_call D3 hB
      replace D4 := lies.on_call D4 hB
      replace D5 := lies.on_call D5 hB
      replace D6 := lies.on_call D6 hB
      replace D7 := lies.on_call D7 hB
      replace D8 := lies.on_call D8 hB
      replace G1 := lies.on_call G1 hB
      replace IM := Lib.hid ((IM.out.below hB).mono hB.size)
      replace IT := Lib.hid ((IT.out.below hB).mono hB.size)
      replace IW := Lib.hid ((IW.out.below hB).mono hB.size)
      replace IO := Lib.hid ((IO.out.below hB).mono hB.size)
      replace P0 := P0.on hB
      replace DB := later DB hB
      clear hB
      obtain rfl : rx = true := hr.2 (kept_two HK1.out HK4.out)
      clear hr
      obtain ⟨kD8_0, kD8_1, -, -, -⟩ := lies.two D8
      have kD8_l := lies.lt D8
      obtain ⟨kD1_0, kD1_1, -, -, -⟩ := lies.two D1
      have kD1_l := lies.lt D1
      go_wp2_with fail
      clear kD8_0 kD8_1 kD8_l kD1_0 kD1_1 kD1_l
      have hA := bound.up1 w15 (.cells #[.int .i64 p, .int .i64 q] 49)
      have G2 := lies.made w15 49 #[.int .i64 p, .int .i64 q]
      replace D0 := lies.on_call D0 hA
      replace D1 := lies.on_call D1 hA
      replace D3 := lies.on_call D3 hA
      replace D4 := lies.on_call D4 hA
      replace D5 := lies.on_call D5 hA
      replace D6 := lies.on_call D6 hA
      replace D7 := lies.on_call D7 hA
      replace D8 := lies.on_call D8 hA
      replace G1 := lies.on_call G1 hA
      replace IM := Lib.hid ((IM.out.below hA).mono hA.size)
      replace IT := Lib.hid ((IT.out.below hA).mono hA.size)
      replace IW := Lib.hid ((IW.out.below hA).mono hA.size)
      replace IO := Lib.hid ((IO.out.below hA).mono hA.size)
      replace P0 := P0.on hA
      replace DB := later DB hA
      clear hA
      generalize w15.heap.size = XG2 at G2 ⊢
      generalize w15.alloc (.cells #[.int .i64 p, .int .i64 q] 49) = v16 at D0 D1 D3 D4 D5 D6 D7 D8 G1 G2 IM IT IW IO P0 DB ⊢
      refine (dkeeps_any 2 _ (.slice (some ⟨XG2, 0, none⟩) 1 1) [1, a1, a0, 1] [(p, q)] v16 IO.out (show 4 ≤ 1000000 by decide) HTT.out (rats_one G2) (int_single HPQ.out.1 HPQ.out.2) (show 1 ≤ 100000 by decide)).mono ?_
      rintro e w17 hKp
      obtain ⟨hB, ry, rfl, hr⟩ := keep_one hKp HOD.out.1 (may_single HMR.out) rfl
      clear hKp
      replace D0 := lies.on_call D0 hB
      replace D1 := lies.on_call D1 hB
      replace D3 := lies.on_call D3 hB
      replace D4 := lies.on_call D4 hB
      replace D5 := lies.on_call D5 hB
      replace D6 := lies.on_call D6 hB
      replace D7 := lies.on_call D7 hB
      replace D8 := lies.on_call D8 hB
      replace G1 := lies.on_call G1 hB
      replace G2 := lies.on_call G2 hB
      replace IM := Lib.hid ((IM.out.below hB).mono hB.size)
      replace IT := Lib.hid ((IT.out.below hB).mono hB.size)
      replace IW := Lib.hid ((IW.out.below hB).mono hB.size)
      replace IO := Lib.hid ((IO.out.below hB).mono hB.size)
      replace P0 := P0.on hB
      replace DB := later DB hB
      clear hB
      have HRY := Lib.hid hr
      clear hr
      obtain ⟨kD7_0, kD7_1, -, -, -⟩ := lies.two D7
      have kD7_l := lies.lt D7
      obtain ⟨kD1_0, kD1_1, -, -, -⟩ := lies.two D1
      have kD1_l := lies.lt D1
      go_wp2_with fail
      clear kD7_0 kD7_1 kD7_l kD1_0 kD1_1 kD1_l
      have hA := bound.up1 w17 (.cells #[.int .i64 p, .int .i64 q] 49)
      have G3 := lies.made w17 49 #[.int .i64 p, .int .i64 q]
      replace D0 := lies.on_call D0 hA
      replace D1 := lies.on_call D1 hA
      replace D3 := lies.on_call D3 hA
      replace D4 := lies.on_call D4 hA
      replace D5 := lies.on_call D5 hA
      replace D6 := lies.on_call D6 hA
      replace D7 := lies.on_call D7 hA
      replace D8 := lies.on_call D8 hA
      replace G1 := lies.on_call G1 hA
      replace G2 := lies.on_call G2 hA
      replace IM := Lib.hid ((IM.out.below hA).mono hA.size)
      replace IT := Lib.hid ((IT.out.below hA).mono hA.size)
      replace IW := Lib.hid ((IW.out.below hA).mono hA.size)
      replace IO := Lib.hid ((IO.out.below hA).mono hA.size)
      replace P0 := P0.on hA
      replace DB := later DB hA
      clear hA
      generalize w17.heap.size = XG3 at G3 ⊢
      generalize w17.alloc (.cells #[.int .i64 p, .int .i64 q] 49) = v18 at D0 D1 D3 D4 D5 D6 D7 D8 G1 G2 G3 IM IT IW IO P0 DB ⊢
      refine (dkeeps_any 2 _ (.slice (some ⟨XG3, 0, none⟩) 1 1) [1, a1, a0, 1] [(p, q)] v18 IW.out (show 4 ≤ 1000000 by decide) HTT.out (rats_one G3) (int_single HPQ.out.1 HPQ.out.2) (show 1 ≤ 100000 by decide)).mono ?_
      rintro e w19 hKp
      obtain ⟨hB, rz, rfl, hr⟩ := keep_one hKp HOD.out.1 (may_single HMR.out) rfl
      clear hKp
      replace D0 := lies.on_call D0 hB
      replace D1 := lies.on_call D1 hB
      replace D3 := lies.on_call D3 hB
      replace D4 := lies.on_call D4 hB
      replace D5 := lies.on_call D5 hB
      replace D6 := lies.on_call D6 hB
      replace D7 := lies.on_call D7 hB
      replace D8 := lies.on_call D8 hB
      replace G1 := lies.on_call G1 hB
      replace G2 := lies.on_call G2 hB
      replace G3 := lies.on_call G3 hB
      replace IM := Lib.hid ((IM.out.below hB).mono hB.size)
      replace IT := Lib.hid ((IT.out.below hB).mono hB.size)
      replace IW := Lib.hid ((IW.out.below hB).mono hB.size)
      replace IO := Lib.hid ((IO.out.below hB).mono hB.size)
      replace P0 := P0.on hB
      replace DB := later DB hB
      clear hB
      obtain rfl : ry = rz := by rw [Bool.eq_iff_iff, HRY.out, hr]
      clear hr HRY
      obtain ⟨kD7_0, kD7_1, -, -, -⟩ := lies.two D7
      have kD7_l := lies.lt D7
      obtain ⟨kD8_0, kD8_1, -, -, -⟩ := lies.two D8
      have kD8_l := lies.lt D8
      go_wp2_with fail
      clear kD7_0 kD7_1 kD7_l kD8_0 kD8_1 kD8_l
      refine (in_any 2 2 _ _ [1, a1, a0, 1] [1, a1, a0, 1] w19 IW.out IO.out (show 4 ≤ 1000000 by decide) (show 4 ≤ 1000000 by decide) HTT.out HTT.out).mono ?_
      rintro e wz hAs
      obtain ⟨rfl, hB⟩ := ilaw.asks_yes hAs HOD.out.1 HOD.out.1 HIV.out
      clear hAs
      have KZ := later DB hB
      clear hB DB D0 D1 D3 D4 D5 D6 D7 D8 G1 G2 G3 IM IT IW IO
      cases ry
      all_goals
        go_wp2_with fail
        go_ret
        exact ⟨rfl, KZ⟩
    · skip
      rw [rchk_no hm]
      clear hm
      go_wp2_with fail
      go_ret
      exact ⟨rfl, DB⟩
  · skip
    have hbe : (e == 0) = false := by simpa using he
    clear hM HF
    go_wp2_with fail
    go_ret
    exact ⟨rfl, lies.frame_up DB _⟩

set_option maxRecDepth 100000 in
theorem lifted (os : Os) (started : os.Started) (H : Type) (enc : TypeId × Value → H) :
    ReturnsInHanded {} Tryd.checked os 7 .any (fun w args => (Rows.compFirstsSpec.pre enc Tryd.prog Tryd.f7 [] false w args ∧ laidMetH Tryd.prog zopen.places w) ∧ sizedMet enc Tryd.prog Tryd.f7 (OpenSpec.ofChange Rows.compFirstsSpec) false w args) (Rows.compFirstsSpec.post enc Tryd.prog Tryd.f7 false true false false) := by
  refine returnsInHanded_of_change_and (C := Tryd.checked) (X := fun w _ => laidMetH Tryd.prog zopen.places w) (fun _ _ _ hh h => h.of_heap hh) law.own started (by kernel_rfl) Tryd.func7
    (ChangeSpec.witness_shaped (enc := enc) (C := Tryd.checked) (os := os) (X := fun w _ => laidMetH Tryd.prog zopen.places w) false (World.doorLaid Tryd.prog 400 os) #[.agg #[.int .i64 0, .int .i64 0, .int .i64 0, .int .i64 0, .int .i64 0, .int .i64 0], .agg #[.int .i64 0, .int .i64 0]] 8 rfl (World.shaped_of_RefB (by kernel_rfl) (by kernel_rfl)) (by kernel_rfl) (by kernel_rfl) (by kernel_rfl) (zopen.door_met os _)) ?_
  intro W base args ds gs before hval0 hW _ _ hL _
  have hval : ∀ (j : Nat) t v, Tryd.f7.params[j]? = some t → args[j]? = some v → Value.okWide Tryd.prog W .any base t v := hval0
  have hW' := hW
  obtain ⟨p, q, hA0, hV, rfl, _, _⟩ := hW
  have hA : DataW.TrodAll enc Tryd.prog W 0 (fun _ => true) true Tryd.f7.params.toList args.toList ds p := hA0
  rw [Tryd.params7] at hA hval
  obtain ⟨v0, vs0, d0, ds0, p0, q0, hargs, rfl, rfl, h0, r0⟩ := trodAll_cons hA
  obtain ⟨v1, vs1, d1, ds1, p1, q1, rfl, rfl, rfl, h1, r1⟩ := trodAll_cons r0
  obtain ⟨rfl, rfl, rfl⟩ := trodAll_nil r1
  obtain rfl : args = #[v0, v1] := by cases args; simp_all
  obtain ⟨z00, z01, z02, z03, z04, z05, rfl, w0⟩ := zopen.open_zone (hval 0 24 v0 rfl rfl) h0
  obtain ⟨a1, b1, rfl, x1, y1⟩ := plaw.open_rat (hval 1 49 v1 rfl rfl) h1
  refine (walk z00 z01 z02 z03 z04 z05 a1 b1 W (fun x hx => ⟨law.wf_lo (w0 x hx), law.wf_hi (w0 x hx)⟩) ⟨law.wf_lo x1, law.wf_hi x1⟩ ⟨law.wf_lo y1, law.wf_hi y1⟩ (zopen.laid_pl hL)).mono fun e W' ⟨he, hB⟩ => ?_
  subst he
  exact ⟨_, rfl, law.post_true law.laidOut (by kernel_rfl) rfl Tryd.underlying4 rfl hW' (fun h => by subst h; rfl) hB⟩

theorem proved : Rows.CompFirstsSaid :=
  OpenClaim.holds_of_wide 7 Tryd.f7 rfl rfl rfl rfl rfl rfl rfl ⟨rfl, rfl, rfl, rfl, rfl⟩ rfl rfl rfl rfl rfl (by kernel_rfl) Tryd.func7 (by kernel_rfl)
    (of_decide_eq_true (by kernel_rfl)) (by unfold Func.isWrapper; first | (rw [if_pos (by decide +kernel)]; kernel_rfl) | (rw [if_neg (by decide +kernel)]; exact ⟨rfl, rfl⟩))
    (fun os started H enc _ => lifted os started H enc)
theorem card : Rows.CompFirstsCardSaid :=
  Claim7.holds_tied_plain_at .later [] [.data] true (true, "e4e3719b7de1e4314314497030072501f33c4ef491c7e24e35a0e0bb01ea1702") false
    proved (fun _ h => by cases h) (by kernel_rfl) (fun _ h => by cases h) compFirsts_row_tie rfl ⟨rfl, rfl⟩ (by kernel_rfl) rfl
    (fun f fn hf hfn => by
      obtain rfl : f = 7 := Option.some.inj ((show Tryd.prog.funcNamed "rallentando/rallentandolaw09.CompFirsts" = some 7 by kernel_rfl).symm.trans hf) |>.symm
      obtain rfl : fn = Tryd.f7 := (Option.some.inj (Tryd.func7.symm.trans hfn)).symm
      exact ⟨by kernel_rfl, fun j t ht => by
        rw [Tryd.params7] at ht
        have hm : t ∈ [24, 49] := by simpa using Array.mem_of_getElem? ht
        have hall : ([24, 49].all fun u => !Tryd.prog.wantsStandIn u) = true := by kernel_rfl
        exact (show Tryd.prog.wantsStandIn t = false by simpa using List.all_eq_true.1 hall t hm)⟩)
    (by kernel_rfl)
#print axioms card
end Go.Proofs.YtngjkebmilpemaaDoor.compFirsts
