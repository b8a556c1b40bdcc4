/-
  The document's own Windowed, Within, Window and Shift, each in one form; each theorem names its conditions.
-/
import Derived.Test.YtcaoooddmmhieaaDoorWinR
namespace Go.Proofs.YtcaoooddmmhieaaDoor.wref
open Go.Joins Go.ChangeShapes Go.WideShapes Go.ChangeAt Go.RowKit num rat dbm Go.Proofs.YtcaoooddmmhieaaDoor.tight Go.Proofs.YtcaoooddmmhieaaDoor.incl Go.Proofs.YtcaoooddmmhieaaDoor.plaw Go.Proofs.YtcaoooddmmhieaaDoor.zopen Go.Proofs.YtcaoooddmmhieaaDoor.zone Go.Proofs.YtcaoooddmmhieaaDoor.zref Go.Proofs.YtcaoooddmmhieaaDoor.win dref
open bound hiding up
open Go.Proofs.YtcaoooddmmhieaaDoor.comp (five_cells put_five six_fine)
set_option linter.unusedVariables false
set_option linter.unusedSimpArgs false


set_option maxRecDepth 100000 in
set_option maxHeartbeats 8000000 in
theorem windowed_any (a0 a1 a2 a3 a4 a5 fr tt : Int) (w : World) (ha : MayZ [a0, a1, a2, a3, a4, a5]) (ta : Tops [a0, a1, a2, a3, a4, a5]) (hw : MayW fr tt) : Calls Tryd.prog 41 #[.agg #[.int .i64 a0, .int .i64 a1, .int .i64 a2, .int .i64 a3, .int .i64 a4, .int .i64 a5], .int .i64 fr, .int .i64 tt] w (Zs (CutR [a0, a1, a2, a3, a4, a5] (lateZ (winS fr tt))) w) := by
  have HA := Lib.hid ha
  have HTF := Lib.hid (full_tops ta)
  obtain ⟨H, hH⟩ : ∃ H, H = bound.mk tt false := ⟨_, rfl⟩
  obtain ⟨L, hL⟩ : ∃ L, L = bound.mk (-fr) true := ⟨_, rfl⟩
  have hp := win_may hw.1 hw.2.1 (Int.le_of_lt hw.2.2)
  have HMW := Lib.hid (late_may hp)
  have HDW : RowKit.Hid (fullT (lateZ (winS fr tt)) = (fullT [9223372036854775807, 9223372036854775807, H, L, 9223372036854775807, 9223372036854775807])) := Lib.hid (by rw [hH, hL]; rfl)
  have HML : RowKit.Hid (MayD 3 (lesT (fullT [a0, a1, a2, a3, a4, a5]) (fullT [9223372036854775807, 9223372036854775807, H, L, 9223372036854775807, 9223372036854775807]))) := Lib.hid (by rw [← HDW.out]; exact lesT_may ha.may (late_may hp))
  have HTL := Lib.hid (lesT_tops HTF.out (fullT [9223372036854775807, 9223372036854775807, H, L, 9223372036854775807, 9223372036854775807]))
  have CA : RowKit.Hid (∀ W, Calls Tryd.prog 68 #[.int .i64 tt, .bool false] W fun e w' => e = .returned (.int .i64 H) ∧ W = w') := Lib.hid (by rw [hH]; exact fun W => bound.made_any tt false W (in_may hw.2.1))
  have CB : RowKit.Hid (∀ W, Calls Tryd.prog 68 #[.int .i64 (-fr), .bool true] W fun e w' => e = .returned (.int .i64 L) ∧ W = w') := Lib.hid (by rw [hL]; exact fun W => bound.made_any (-fr) true W (in_may (in_neg hw.1)))
  have q1 : wrap64 (-fr) = -fr := by have := hw.1; unfold In at this; exact IntWalk.wrap64_in _ ⟨by omega, by omega⟩
  have q2 : IntKind.i64.wrap (-fr) = -fr := (IntWalk.i64_left _).trans q1
  have q3 : IntKind.i64.wrap (0 - fr) = -fr := by rw [Int.zero_sub]; exact q2
  clear ha ta hp hH hL hw
  have X : ∃ w0, w0 = (w.alloc (.cells #[.int .i64 a0, .int .i64 a1, .int .i64 a2, .int .i64 a3, .int .i64 a4, .int .i64 a5] 24)).alloc (.cells #[.int .i64 0, .int .i64 0, .int .i64 0, .int .i64 0, .int .i64 0, .int .i64 0] 24) := ⟨_, rfl⟩
  obtain ⟨w0, hX⟩ := X
  have DB : Below w.heap.size w w0 := by rw [hX]; exact bound.up2 _ _ _
  have D0 : lies.Lies w0 w.heap.size 24 #[.int .i64 a0, .int .i64 a1, .int .i64 a2, .int .i64 a3, .int .i64 a4, .int .i64 a5] := by rw [hX]; exact lies.on_alloc (lies.made _ _ _) _
  have D2 : lies.Lies w0 (w.heap.size + 1) 24 #[.int .i64 0, .int .i64 0, .int .i64 0, .int .i64 0, .int .i64 0, .int .i64 0] := by rw [hX]; exact lies.made_at _ _ _ _ (by simp)
  have hR : w.heap.size ≤ w.heap.size + 1 := by omega
  go_enter Tryd.func41, Tryd.ntmps41
  go_wp2_with fail
  rw [← hX]
  clear hX
  refine (CA.out w0).mono ?_
  rintro e wN ⟨rfl, hw⟩
  subst hw
  go_wp2_with fail
  refine (CB.out w0).mono ?_
  rintro e wN ⟨rfl, hw⟩
  subst hw
  clear q1 q2 q3
  go_wp2_with fail
  refine (full_is 9223372036854775807 9223372036854775807 H L 9223372036854775807 9223372036854775807 w0).mono ?_
  rintro e w1 ⟨hB, g, hg, rfl, GG⟩
  have hg2 : w.heap.size + 1 < g := Nat.lt_of_lt_of_le (lies.lt D2) hg
  replace D0 := lies.on_call D0 hB
  replace D2 := lies.on_call D2 hB
  replace DB := later DB hB
  clear hB
  go_wp2_with fail
  have hT2 : w.heap.size + 1 < w1.heap.size := lies.lt D2
  have hA := bound.up1 w1 (.cells #[.int .i64 3, .slice (some ⟨g, 0, none⟩) 9 9] 72)
  have DT := lies.made w1 72 #[.int .i64 3, .slice (some ⟨g, 0, none⟩) 9 9]
  replace D0 := lies.on_call D0 hA
  replace D2 := lies.on_call D2 hA
  replace GG := lies.on_call GG hA
  replace DB := later DB hA
  clear hA
  clear hg hg2
  generalize w1.heap.size = XDT at DT hT2 ⊢
  generalize w1.alloc (.cells #[.int .i64 3, .slice (some ⟨g, 0, none⟩) 9 9] 72) = w2 at D0 D2 GG DT DB ⊢
  have hDr := dbm.drawn1 (Below.refl w2.heap.size w2)
  replace D0 := lies.on_call D0 hDr
  replace D2 := lies.on_call D2 hDr
  replace GG := lies.on_call GG hDr
  replace DT := lies.on_call DT hDr
  replace DB := later DB hDr
  clear hDr
  refine wp_region_held_drew (S := fun W => lies.Lies W w.heap.size 24 #[.int .i64 a0, .int .i64 a1, .int .i64 a2, .int .i64 a3, .int .i64 a4, .int .i64 a5] ∧ lies.Lies W XDT 72 #[.int .i64 3, .slice (some ⟨g, 0, none⟩) 9 9]) (by kernel_rfl) ⟨D0, DT⟩ (fun hHeld => ?_)
  generalize w2.drew = wP at D0 D2 GG DT DB hHeld ⊢
  clear D0 DT
  refine wpAnyH_take (i := 0) (v := ?_) rfl (by kernel_rfl) (by kernel_rfl) (by kernel_rfl) (fun _ _ _ h => h) (Or.inl ⟨by rfl, ?_⟩) hHeld ?_
  rotate_left
  · intro w hSw; obtain ⟨⟨c0, c1, c2, c3, c4, c5⟩, _⟩ := six_cells hSw.1; obtain ⟨d0, d1, _⟩ := lies.two hSw.2; go_simp; try with_reducible rfl
  try simp only [Act.put, List.getElem_toArray, List.getElem_cons_zero, List.getElem_cons_succ, List.setIfInBounds_toArray, List.set_cons_zero, List.set_cons_succ]
  refine wpAnyH_take (i := 2) (v := ?_) rfl (by kernel_rfl) (by kernel_rfl) (by kernel_rfl) (fun _ _ _ h => h) (Or.inl ⟨by rfl, ?_⟩) hHeld ?_
  rotate_left
  · intro w hSw; obtain ⟨⟨c0, c1, c2, c3, c4, c5⟩, _⟩ := six_cells hSw.1; obtain ⟨d0, d1, _⟩ := lies.two hSw.2; go_simp; try with_reducible rfl
  try simp only [Act.put, List.getElem_toArray, List.getElem_cons_zero, List.getElem_cons_succ, List.setIfInBounds_toArray, List.set_cons_zero, List.set_cons_succ]
  refine wpAnyH_ready (rs := [1]) (by kernel_rfl) (by simp) (AllReadyH.cons rfl (fun K hK => ?_) AllReadyH.nil)
  go_simp
  refine (full_is a0 a1 a2 a3 a4 a5 wP).mono ?_
  rintro e wQ1 ⟨hB, g1, hg, rfl, hG1⟩
  replace D2 := lies.on_call D2 hB
  replace GG := lies.on_call GG hB
  replace DB := later DB hB
  refine hK.out _ _ ⟨lies.on_call hHeld.1 hB, lies.on_call hHeld.2 hB⟩ (fun hNew => ?_)
  clear hB hg
  clear hHeld hK K
  have hHeld := hNew
  clear hNew
  try simp only [Act.put, List.getElem_toArray, List.getElem_cons_zero, List.getElem_cons_succ, List.setIfInBounds_toArray, List.set_cons_zero, List.set_cons_succ]
  refine wpAnyH_ready (rs := [3]) (by kernel_rfl) (by simp) (AllReadyH.cons rfl (fun K hK => ?_) AllReadyH.nil)
  go_simp
  refine (tref.common_is 3 (.slice (some ⟨g1, 0, none⟩) 9 9) g 0 9 (fullT [a0, a1, a2, a3, a4, a5]) (fullT [9223372036854775807, 9223372036854775807, H, L, 9223372036854775807, 9223372036854775807]) wQ1 (by decide) (by decide) (dlaw.own_ints (cap := 9) hG1) (row_of GG) (lies.lt GG) rfl rfl HTF.out HML.out).mono ?_
  intro e wQ2 hC
  obtain ⟨hB, na, a, l, c, us, bl, rfl, hR2, hO⟩ := tref.comm_one hC
  replace D2 := lies.on_call D2 hB
  replace GG := lies.on_call GG hB
  replace DB := later DB hB
  refine hK.out _ _ ⟨lies.on_call hHeld.1 hB, lies.on_call hHeld.2 hB⟩ (fun hNew => ?_)
  have TD := Lib.hid (told_any hR2 HML.out (lesT_length _ _) HTL.out a l c _ wQ2 hO)
  clear hB hC hR2 hO GG hG1
  clear hHeld hK K
  have hHeld := hNew
  clear hNew
  try simp only [Act.put, List.getElem_toArray, List.getElem_cons_zero, List.getElem_cons_succ, List.setIfInBounds_toArray, List.set_cons_zero, List.set_cons_succ]
  refine wpAnyH_take (i := 4) (v := ?_) rfl (by kernel_rfl) (by kernel_rfl) (by kernel_rfl) (fun _ _ _ h => h) (Or.inl ⟨by rfl, ?_⟩) hHeld ?_
  rotate_left
  · intro w hSw; skip; go_simp; try with_reducible rfl
  try simp only [Act.put, List.getElem_toArray, List.getElem_cons_zero, List.getElem_cons_succ, List.setIfInBounds_toArray, List.set_cons_zero, List.set_cons_succ]
  refine wpAnyH_take (i := 5) (v := ?_) rfl (by kernel_rfl) (by kernel_rfl) (by kernel_rfl) (fun _ _ _ h => h) (Or.inl ⟨by rfl, ?_⟩) hHeld ?_
  rotate_left
  · intro w hSw; skip; go_simp; try with_reducible rfl
  try simp only [Act.put, List.getElem_toArray, List.getElem_cons_zero, List.getElem_cons_succ, List.setIfInBounds_toArray, List.set_cons_zero, List.set_cons_succ]
  refine wpAnyH_ready (rs := [6]) (by kernel_rfl) (by simp) (AllReadyH.cons rfl (fun K hK => ?_) AllReadyH.nil)
  go_simp
  refine TD.out.mono ?_
  rintro e wQ3 ⟨hB, v0, v1, v2, v3, v4, v5, f, rfl, hR2⟩
  replace D2 := lies.on_call D2 hB
  replace DB := later DB hB
  refine hK.out _ _ ⟨lies.on_call hHeld.1 hB, lies.on_call hHeld.2 hB⟩ (fun hNew => ?_)
  have HC : RowKit.Hid (CutR [a0, a1, a2, a3, a4, a5] (lateZ (winS fr tt)) [v0, v1, v2, v3, v4, v5] f) := Lib.hid (cut_of HA.out.may HMW.out (by rw [HDW.out]; exact hR2))
  clear hB hR2 TD
  clear hHeld hK K
  have hHeld := hNew
  clear hNew
  try simp only [Act.put, List.getElem_toArray, List.getElem_cons_zero, List.getElem_cons_succ, List.setIfInBounds_toArray, List.set_cons_zero, List.set_cons_succ]
  refine wpAnyH_take (i := 7) (v := ?_) rfl (by kernel_rfl) (by kernel_rfl) (by kernel_rfl) (fun _ _ _ h => h) (Or.inl ⟨by rfl, ?_⟩) hHeld ?_
  rotate_left
  · intro w hSw; skip; go_simp; try with_reducible rfl
  try simp only [Act.put, List.getElem_toArray, List.getElem_cons_zero, List.getElem_cons_succ, List.setIfInBounds_toArray, List.set_cons_zero, List.set_cons_succ]
  refine wpAnyH_take (i := 8) (v := ?_) rfl (by kernel_rfl) (by kernel_rfl) (by kernel_rfl) (fun _ _ _ h => h) (Or.inl ⟨by rfl, ?_⟩) hHeld ?_
  rotate_left
  · intro w hSw; skip; go_simp; try with_reducible rfl
  try simp only [Act.put, List.getElem_toArray, List.getElem_cons_zero, List.getElem_cons_succ, List.setIfInBounds_toArray, List.set_cons_zero, List.set_cons_succ]
  obtain ⟨⟨x0, x1, x2, x3, x4, x5⟩, ⟨y0, y1, y2, y3, y4, y5⟩, xl⟩ := six_cells D2
  refine wpAnyH_ready (rs := [9]) (by kernel_rfl) (by simp) (AllReadyH.cons rfl (fun K hK => ?_) AllReadyH.nil)
  go_simp
  replace DB := put_six DB hR (.int .i64 v0) (.int .i64 v1) (.int .i64 v2) (.int .i64 v3) (.int .i64 v4) (.int .i64 v5)
  replace D2 := put_sixL D2 (.int .i64 v0) (.int .i64 v1) (.int .i64 v2) (.int .i64 v3) (.int .i64 v4) (.int .i64 v5)
  refine hK.out _ _ ⟨far_six hHeld.1 (by omega) _ _ _ _ _ _, far_six hHeld.2 (by omega) _ _ _ _ _ _⟩ (fun hNew => ?_)
  clear x0 x1 x2 x3 x4 x5 y0 y1 y2 y3 y4 y5 xl
  clear hHeld hK K
  have hHeld := hNew
  clear hNew
  try simp only [Act.put, List.getElem_toArray, List.getElem_cons_zero, List.getElem_cons_succ, List.setIfInBounds_toArray, List.set_cons_zero, List.set_cons_succ]
  generalize World.setCell (World.setCell (World.setCell (World.setCell (World.setCell (World.setCell (wQ3) ⟨w.heap.size + 1, 0, none⟩ (.int .i64 v0)) ⟨w.heap.size + 1, 1, none⟩ (.int .i64 v1)) ⟨w.heap.size + 1, 2, none⟩ (.int .i64 v2)) ⟨w.heap.size + 1, 3, none⟩ (.int .i64 v3)) ⟨w.heap.size + 1, 4, none⟩ (.int .i64 v4)) ⟨w.heap.size + 1, 5, none⟩ (.int .i64 v5) = wQ4 at D2 DB hHeld ⊢
  refine wpAnyH_take (i := 10) (v := ?_) rfl (by kernel_rfl) (by kernel_rfl) (by kernel_rfl) (fun _ _ _ h => h) (Or.inl ⟨by rfl, ?_⟩) hHeld ?_
  rotate_left
  · intro w hSw; skip; go_simp; try with_reducible rfl
  try simp only [Act.put, List.getElem_toArray, List.getElem_cons_zero, List.getElem_cons_succ, List.setIfInBounds_toArray, List.set_cons_zero, List.set_cons_succ]
  refine wpAnyH_done (by kernel_rfl) ?_ _
  clear hHeld
  obtain ⟨⟨x0, x1, x2, x3, x4, x5⟩, ⟨y0, y1, y2, y3, y4, y5⟩, xl⟩ := six_cells D2
  clear D2
  go_wp2_with fail
  exact bodyPost_ret (v := .tuple #[.agg #[.int .i64 v0, .int .i64 v1, .int .i64 v2, .int .i64 v3, .int .i64 v4, .int .i64 v5], .int .i64 f]) (by simp [results, Tryd.results41, go_sem, x0, x1, x2, x3, x4, x5, xl]) rfl ⟨DB, v0, v1, v2, v3, v4, v5, f, rfl, HC.out⟩

set_option maxRecDepth 100000 in
set_option maxHeartbeats 8000000 in
theorem rwithin_any (a0 a1 a2 a3 a4 a5 lo : Int) (ls : Bool) (hi : Int) (hs op : Bool) (w : World) (la : Low [a0, a1, a2, a3, a4, a5]) (ta : Tops [a0, a1, a2, a3, a4, a5]) : Calls Tryd.prog 16 #[.agg #[.int .i64 a0, .int .i64 a1, .int .i64 a2, .int .i64 a3, .int .i64 a4, .int .i64 a5], .agg #[.int .i64 lo, .bool ls, .int .i64 hi, .bool hs, .bool op]] w (Zs (WithinR [a0, a1, a2, a3, a4, a5] (lo, ls, hi, hs, op)) w) := by
  have HLA := Lib.hid la
  have HTA := Lib.hid ta
  clear la ta
  have X : ∃ w0, w0 = ((w.alloc (.cells #[.int .i64 a0, .int .i64 a1, .int .i64 a2, .int .i64 a3, .int .i64 a4, .int .i64 a5] 24)).alloc (.cells #[.int .i64 lo, .bool ls, .int .i64 hi, .bool hs, .bool op] 31)).alloc (.cells #[.int .i64 0, .int .i64 0, .int .i64 0, .int .i64 0, .int .i64 0, .int .i64 0] 24) := ⟨_, rfl⟩
  obtain ⟨w0, hX⟩ := X
  have DB : Below w.heap.size w w0 := by rw [hX]; exact bound.up3 _ _ _ _
  have D0 : lies.Lies w0 w.heap.size 24 #[.int .i64 a0, .int .i64 a1, .int .i64 a2, .int .i64 a3, .int .i64 a4, .int .i64 a5] := by rw [hX]; exact lies.on_alloc (lies.on_alloc (lies.made _ _ _) _) _
  have D1 : lies.Lies w0 (w.heap.size + 1) 31 #[.int .i64 lo, .bool ls, .int .i64 hi, .bool hs, .bool op] := by rw [hX]; exact lies.on_alloc (lies.made_at _ _ _ _ (by simp)) _
  have D2 : lies.Lies w0 (w.heap.size + 1 + 1) 24 #[.int .i64 0, .int .i64 0, .int .i64 0, .int .i64 0, .int .i64 0, .int .i64 0] := by rw [hX]; exact lies.made_at _ _ _ _ (by simp)
  have hR : w.heap.size ≤ w.heap.size + 1 + 1 := by omega
  go_enter Tryd.func16, Tryd.ntmps16
  obtain ⟨⟨kD0_0, kD0_1, kD0_2, kD0_3, kD0_4, kD0_5⟩, -⟩ := six_cells D0
  have kD0_l := lies.lt D0
  go_wp2_with fail
  clear kD0_0 kD0_1 kD0_2 kD0_3 kD0_4 kD0_5 kD0_l
  rw [← hX]
  clear hX
  refine (rmay_any a0 a1 a2 a3 a4 a5 w0 HLA.out HTA.out).mono ?_
  rintro e w1 ⟨hB, r1, rfl, h1⟩
  replace D0 := lies.on_call D0 hB
  replace D1 := lies.on_call D1 hB
  replace D2 := lies.on_call D2 hB
  replace DB := later DB hB
  clear hB
  cases r1 with
  | false =>
    have HA := Lib.hid (show ¬ MayZ [a0, a1, a2, a3, a4, a5] from fun q => absurd (h1.2 q) (by decide))
    clear h1
    clear D0 D1
    obtain ⟨⟨x0, x1, x2, x3, x4, x5⟩, ⟨y0, y1, y2, y3, y4, y5⟩, xl⟩ := six_cells D2
    clear D2
    go_wp2_with fail
    exact bodyPost_ret (v := .tuple #[.agg #[.int .i64 0, .int .i64 0, .int .i64 0, .int .i64 0, .int .i64 0, .int .i64 0], .int .i64 8]) (by simp [results, Tryd.results16, go_sem, x0, x1, x2, x3, x4, x5, xl]) rfl ⟨put_six DB hR _ _ _ _ _ _, 0, 0, 0, 0, 0, 0, 8, rfl, .inl ⟨HA.out, rfl, rfl⟩⟩
  | true =>
    have HA := Lib.hid (h1.1 rfl)
    clear h1
    obtain ⟨⟨kD1_0, kD1_1, kD1_2, kD1_3, kD1_4⟩, -⟩ := five_cells D1
    have kD1_l := lies.lt D1
    go_wp2_with fail
    clear kD1_0 kD1_1 kD1_2 kD1_3 kD1_4 kD1_l
    by_cases hp : MayP (lo, ls, hi, hs, op)
    · have HMP := Lib.hid hp
      refine (tref.span_yes (show MayS lo hi hs op from hp) ls w1).mono ?_
      rintro e w2 ⟨rfl, hB⟩
      replace D0 := lies.on_call D0 hB
      replace D1 := lies.on_call D1 hB
      replace D2 := lies.on_call D2 hB
      replace DB := later DB hB
      clear hB
      clear hp
      obtain ⟨⟨kD0_0, kD0_1, kD0_2, kD0_3, kD0_4, kD0_5⟩, -⟩ := six_cells D0
      have kD0_l := lies.lt D0
      obtain ⟨⟨kD1_0, kD1_1, kD1_2, kD1_3, kD1_4⟩, -⟩ := five_cells D1
      have kD1_l := lies.lt D1
      go_wp2_with fail
      clear kD0_0 kD0_1 kD0_2 kD0_3 kD0_4 kD0_5 kD0_l kD1_0 kD1_1 kD1_2 kD1_3 kD1_4 kD1_l
      refine (spanned_any a0 a1 a2 a3 a4 a5 lo ls hi hs op w2 HA.out HTA.out HMP.out).mono ?_
      rintro e w3 ⟨hB, v0, v1, v2, v3, v4, v5, f, rfl, hR2⟩
      replace D0 := lies.on_call D0 hB
      replace D1 := lies.on_call D1 hB
      replace D2 := lies.on_call D2 hB
      replace DB := later DB hB
      clear hB
      have HR := Lib.hid hR2
      clear hR2
      clear D0 D1
      obtain ⟨⟨x0, x1, x2, x3, x4, x5⟩, ⟨y0, y1, y2, y3, y4, y5⟩, xl⟩ := six_cells D2
      clear D2
      go_wp2_with fail
      exact bodyPost_ret (v := .tuple #[.agg #[.int .i64 v0, .int .i64 v1, .int .i64 v2, .int .i64 v3, .int .i64 v4, .int .i64 v5], .int .i64 f]) (by simp [results, Tryd.results16, go_sem, x0, x1, x2, x3, x4, x5, xl]) rfl ⟨put_six DB hR _ _ _ _ _ _, v0, v1, v2, v3, v4, v5, f, rfl, .inr (.inr ⟨HA.out, HMP.out, HR.out⟩)⟩
    · have HMP := Lib.hid hp
      refine (tref.span_no (show ¬ MayS lo hi hs op from hp) ls w1).mono ?_
      rintro e w4 ⟨rfl, hB⟩
      replace D0 := lies.on_call D0 hB
      replace D1 := lies.on_call D1 hB
      replace D2 := lies.on_call D2 hB
      replace DB := later DB hB
      clear hB
      clear hp
      clear D0 D1
      obtain ⟨⟨x0, x1, x2, x3, x4, x5⟩, ⟨y0, y1, y2, y3, y4, y5⟩, xl⟩ := six_cells D2
      clear D2
      go_wp2_with fail
      exact bodyPost_ret (v := .tuple #[.agg #[.int .i64 0, .int .i64 0, .int .i64 0, .int .i64 0, .int .i64 0, .int .i64 0], .int .i64 8]) (by simp [results, Tryd.results16, go_sem, x0, x1, x2, x3, x4, x5, xl]) rfl ⟨put_six DB hR _ _ _ _ _ _, 0, 0, 0, 0, 0, 0, 8, rfl, .inr (.inl ⟨HA.out, HMP.out, rfl, rfl⟩)⟩

set_option maxRecDepth 100000 in
set_option maxHeartbeats 8000000 in
theorem rwindow_any (a0 a1 a2 a3 a4 a5 fr tt : Int) (w : World) (la : Low [a0, a1, a2, a3, a4, a5]) (ta : Tops [a0, a1, a2, a3, a4, a5]) : Calls Tryd.prog 17 #[.agg #[.int .i64 a0, .int .i64 a1, .int .i64 a2, .int .i64 a3, .int .i64 a4, .int .i64 a5], .int .i64 fr, .int .i64 tt] w (Zs (WindowR [a0, a1, a2, a3, a4, a5] fr tt) w) := by
  have HLA := Lib.hid la
  have HTA := Lib.hid ta
  clear la ta
  have X : ∃ w0, w0 = (w.alloc (.cells #[.int .i64 a0, .int .i64 a1, .int .i64 a2, .int .i64 a3, .int .i64 a4, .int .i64 a5] 24)).alloc (.cells #[.int .i64 0, .int .i64 0, .int .i64 0, .int .i64 0, .int .i64 0, .int .i64 0] 24) := ⟨_, rfl⟩
  obtain ⟨w0, hX⟩ := X
  have DB : Below w.heap.size w w0 := by rw [hX]; exact bound.up2 _ _ _
  have D0 : lies.Lies w0 w.heap.size 24 #[.int .i64 a0, .int .i64 a1, .int .i64 a2, .int .i64 a3, .int .i64 a4, .int .i64 a5] := by rw [hX]; exact lies.on_alloc (lies.made _ _ _) _
  have D2 : lies.Lies w0 (w.heap.size + 1) 24 #[.int .i64 0, .int .i64 0, .int .i64 0, .int .i64 0, .int .i64 0, .int .i64 0] := by rw [hX]; exact lies.made_at _ _ _ _ (by simp)
  have hR : w.heap.size ≤ w.heap.size + 1 := by omega
  go_enter Tryd.func17, Tryd.ntmps17
  obtain ⟨⟨kD0_0, kD0_1, kD0_2, kD0_3, kD0_4, kD0_5⟩, -⟩ := six_cells D0
  have kD0_l := lies.lt D0
  go_wp2_with fail
  clear kD0_0 kD0_1 kD0_2 kD0_3 kD0_4 kD0_5 kD0_l
  rw [← hX]
  clear hX
  refine (rmay_any a0 a1 a2 a3 a4 a5 w0 HLA.out HTA.out).mono ?_
  rintro e w1 ⟨hB, r1, rfl, h1⟩
  replace D0 := lies.on_call D0 hB
  replace D2 := lies.on_call D2 hB
  replace DB := later DB hB
  clear hB
  cases r1 with
  | false =>
    have HA := Lib.hid (show ¬ MayZ [a0, a1, a2, a3, a4, a5] from fun q => absurd (h1.2 q) (by decide))
    clear h1
    clear D0
    obtain ⟨⟨x0, x1, x2, x3, x4, x5⟩, ⟨y0, y1, y2, y3, y4, y5⟩, xl⟩ := six_cells D2
    clear D2
    go_wp2_with fail
    exact bodyPost_ret (v := .tuple #[.agg #[.int .i64 0, .int .i64 0, .int .i64 0, .int .i64 0, .int .i64 0, .int .i64 0], .int .i64 8]) (by simp [results, Tryd.results17, go_sem, x0, x1, x2, x3, x4, x5, xl]) rfl ⟨put_six DB hR _ _ _ _ _ _, 0, 0, 0, 0, 0, 0, 8, rfl, .inl ⟨HA.out, rfl, rfl⟩⟩
  | true =>
    have HA := Lib.hid (h1.1 rfl)
    clear h1
    go_wp2_with fail
    refine (in_any fr w1).mono ?_
    rintro e wN ⟨rfl, hw⟩
    subst hw
    by_cases hf : In fr
    · have HF := Lib.hid hf
      rw [decide_eq_true hf]
      clear hf
      go_wp2_with fail
      refine (in_any tt w1).mono ?_
      rintro e wN ⟨rfl, hw⟩
      subst hw
      by_cases hf : In tt
      · have HT := Lib.hid hf
        rw [decide_eq_true hf]
        clear hf
        by_cases hlt : fr < tt
        · have HLT := Lib.hid hlt
          have hnb : ¬ tt ≤ fr := by omega
          clear hlt
          obtain ⟨⟨kD0_0, kD0_1, kD0_2, kD0_3, kD0_4, kD0_5⟩, -⟩ := six_cells D0
          have kD0_l := lies.lt D0
          go_wp2_with fail
          clear hnb kD0_0 kD0_1 kD0_2 kD0_3 kD0_4 kD0_5 kD0_l
          refine (windowed_any a0 a1 a2 a3 a4 a5 fr tt w1 HA.out HTA.out ⟨HF.out, HT.out, HLT.out⟩).mono ?_
          rintro e w2 ⟨hB, v0, v1, v2, v3, v4, v5, f, rfl, hR2⟩
          replace D0 := lies.on_call D0 hB
          replace D2 := lies.on_call D2 hB
          replace DB := later DB hB
          clear hB
          have HR := Lib.hid hR2
          clear hR2
          clear D0
          obtain ⟨⟨x0, x1, x2, x3, x4, x5⟩, ⟨y0, y1, y2, y3, y4, y5⟩, xl⟩ := six_cells D2
          clear D2
          go_wp2_with fail
          exact bodyPost_ret (v := .tuple #[.agg #[.int .i64 v0, .int .i64 v1, .int .i64 v2, .int .i64 v3, .int .i64 v4, .int .i64 v5], .int .i64 f]) (by simp [results, Tryd.results17, go_sem, x0, x1, x2, x3, x4, x5, xl]) rfl ⟨put_six DB hR _ _ _ _ _ _, v0, v1, v2, v3, v4, v5, f, rfl, .inr (.inr ⟨HA.out, ⟨HF.out, HT.out, HLT.out⟩, HR.out⟩)⟩
        · have HN := Lib.hid (show ¬ fr < tt from hlt)
          have hnb : tt ≤ fr := by omega
          clear hlt
          clear D0
          obtain ⟨⟨x0, x1, x2, x3, x4, x5⟩, ⟨y0, y1, y2, y3, y4, y5⟩, xl⟩ := six_cells D2
          clear D2
          go_wp2_with fail
          exact bodyPost_ret (v := .tuple #[.agg #[.int .i64 0, .int .i64 0, .int .i64 0, .int .i64 0, .int .i64 0, .int .i64 0], .int .i64 2]) (by simp [results, Tryd.results17, go_sem, x0, x1, x2, x3, x4, x5, xl]) rfl ⟨put_six DB hR _ _ _ _ _ _, 0, 0, 0, 0, 0, 0, 2, rfl, .inr (.inl ⟨HA.out, fun q => absurd q.2.2 (Int.not_lt.2 (by have := HN.out; omega)), rfl, rfl⟩)⟩
      · have HN := Lib.hid hf
        rw [decide_eq_false hf]
        clear hf
        clear D0
        obtain ⟨⟨x0, x1, x2, x3, x4, x5⟩, ⟨y0, y1, y2, y3, y4, y5⟩, xl⟩ := six_cells D2
        clear D2
        go_wp2_with fail
        exact bodyPost_ret (v := .tuple #[.agg #[.int .i64 0, .int .i64 0, .int .i64 0, .int .i64 0, .int .i64 0, .int .i64 0], .int .i64 2]) (by simp [results, Tryd.results17, go_sem, x0, x1, x2, x3, x4, x5, xl]) rfl ⟨put_six DB hR _ _ _ _ _ _, 0, 0, 0, 0, 0, 0, 2, rfl, .inr (.inl ⟨HA.out, fun q => HN.out q.2.1, rfl, rfl⟩)⟩
    · have HN := Lib.hid hf
      rw [decide_eq_false hf]
      clear hf
      clear D0
      obtain ⟨⟨x0, x1, x2, x3, x4, x5⟩, ⟨y0, y1, y2, y3, y4, y5⟩, xl⟩ := six_cells D2
      clear D2
      go_wp2_with fail
      exact bodyPost_ret (v := .tuple #[.agg #[.int .i64 0, .int .i64 0, .int .i64 0, .int .i64 0, .int .i64 0, .int .i64 0], .int .i64 2]) (by simp [results, Tryd.results17, go_sem, x0, x1, x2, x3, x4, x5, xl]) rfl ⟨put_six DB hR _ _ _ _ _ _, 0, 0, 0, 0, 0, 0, 2, rfl, .inr (.inl ⟨HA.out, fun q => HN.out q.1, rfl, rfl⟩)⟩

theorem later_low {z : List Int} {k : Int} (h : MayD 3 (fullT z)) (hk : In k) : Low (laterT z k) := fun x hx => by
  have f := six_fine h
  have g : ∀ {b d : Int}, Fine b → In d → -9223372036854775808 ≤ shB b d := fun {b d} hb hd => by
    unfold shB
    unfold Fine at hb
    unfold In at hd
    split <;> omega
  have l : ∀ {b : Int}, Fine b → -9223372036854775808 ≤ b := fun {b} hb => by unfold Fine at hb; omega
  have hx : x = shB (z[0]?.getD 0) k ∨ x = shB (z[1]?.getD 0) (-k) ∨ x = shB (z[2]?.getD 0) k ∨ x = shB (z[3]?.getD 0) (-k) ∨ x = z[4]?.getD 0 ∨ x = z[5]?.getD 0 := by simpa [laterT] using hx
  rcases hx with rfl | rfl | rfl | rfl | rfl | rfl
  · exact g (f 0 (by decide)) hk
  · exact g (f 1 (by decide)) (in_neg hk)
  · exact g (f 2 (by decide)) hk
  · exact g (f 3 (by decide)) (in_neg hk)
  · exact l (f 4 (by decide))
  · exact l (f 5 (by decide))
set_option maxRecDepth 100000 in
set_option maxHeartbeats 8000000 in
theorem rshift_any (a0 a1 a2 a3 a4 a5 k : Int) (w : World) (la : Low [a0, a1, a2, a3, a4, a5]) (ta : Tops [a0, a1, a2, a3, a4, a5]) : Calls Tryd.prog 18 #[.agg #[.int .i64 a0, .int .i64 a1, .int .i64 a2, .int .i64 a3, .int .i64 a4, .int .i64 a5], .int .i64 k] w (Zs (ShiftR [a0, a1, a2, a3, a4, a5] k) w) := by
  have HLA := Lib.hid la
  have HTA := Lib.hid ta
  clear la ta
  have X : ∃ w0, w0 = (w.alloc (.cells #[.int .i64 a0, .int .i64 a1, .int .i64 a2, .int .i64 a3, .int .i64 a4, .int .i64 a5] 24)).alloc (.cells #[.int .i64 0, .int .i64 0, .int .i64 0, .int .i64 0, .int .i64 0, .int .i64 0] 24) := ⟨_, rfl⟩
  obtain ⟨w0, hX⟩ := X
  have DB : Below w.heap.size w w0 := by rw [hX]; exact bound.up2 _ _ _
  have D0 : lies.Lies w0 w.heap.size 24 #[.int .i64 a0, .int .i64 a1, .int .i64 a2, .int .i64 a3, .int .i64 a4, .int .i64 a5] := by rw [hX]; exact lies.on_alloc (lies.made _ _ _) _
  have D2 : lies.Lies w0 (w.heap.size + 1) 24 #[.int .i64 0, .int .i64 0, .int .i64 0, .int .i64 0, .int .i64 0, .int .i64 0] := by rw [hX]; exact lies.made_at _ _ _ _ (by simp)
  have hR : w.heap.size ≤ w.heap.size + 1 := by omega
  go_enter Tryd.func18, Tryd.ntmps18
  obtain ⟨⟨kD0_0, kD0_1, kD0_2, kD0_3, kD0_4, kD0_5⟩, -⟩ := six_cells D0
  have kD0_l := lies.lt D0
  go_wp2_with fail
  clear kD0_0 kD0_1 kD0_2 kD0_3 kD0_4 kD0_5 kD0_l
  rw [← hX]
  clear hX
  refine (rmay_any a0 a1 a2 a3 a4 a5 w0 HLA.out HTA.out).mono ?_
  rintro e w1 ⟨hB, r1, rfl, h1⟩
  replace D0 := lies.on_call D0 hB
  replace D2 := lies.on_call D2 hB
  replace DB := later DB hB
  clear hB
  cases r1 with
  | false =>
    have HA := Lib.hid (show ¬ MayZ [a0, a1, a2, a3, a4, a5] from fun q => absurd (h1.2 q) (by decide))
    clear h1
    clear D0
    obtain ⟨⟨x0, x1, x2, x3, x4, x5⟩, ⟨y0, y1, y2, y3, y4, y5⟩, xl⟩ := six_cells D2
    clear D2
    go_wp2_with fail
    exact bodyPost_ret (v := .tuple #[.agg #[.int .i64 0, .int .i64 0, .int .i64 0, .int .i64 0, .int .i64 0, .int .i64 0], .int .i64 8]) (by simp [results, Tryd.results18, go_sem, x0, x1, x2, x3, x4, x5, xl]) rfl ⟨put_six DB hR _ _ _ _ _ _, 0, 0, 0, 0, 0, 0, 8, rfl, .inl ⟨HA.out, rfl, rfl⟩⟩
  | true =>
    have HA := Lib.hid (h1.1 rfl)
    clear h1
    go_wp2_with fail
    refine (in_any k w1).mono ?_
    rintro e wN ⟨rfl, hw⟩
    subst hw
    by_cases hk : In k
    · have HK := Lib.hid hk
      rw [decide_eq_true hk]
      have q1 : RowKit.Hid (IntKind.i64.wrap (0 - k) = -k ∧ IntKind.i64.wrap (-k) = -k) := Lib.hid (by unfold In at hk; have h : IntKind.i64.wrap (-k) = -k := IntWalk.i64_in _ (by omega); exact ⟨by rw [Int.zero_sub]; exact h, h⟩)
      have HF := Lib.hid (six_fine HA.out.may)
      clear hk
      go_wp2_with fail
      have hDr := dbm.drawn1 (Below.refl w1.heap.size w1)
      replace D0 := lies.on_call D0 hDr
      replace D2 := lies.on_call D2 hDr
      replace DB := later DB hDr
      clear hDr
      refine wp_region_held_drew (S := fun W => lies.Lies W w.heap.size 24 #[.int .i64 a0, .int .i64 a1, .int .i64 a2, .int .i64 a3, .int .i64 a4, .int .i64 a5]) (by kernel_rfl) D0 (fun hHeld => ?_)
      generalize w1.drew = wD at D0 D2 DB hHeld ⊢
      refine wpAnyH_take (i := 0) (v := ?_) rfl (by kernel_rfl) (by kernel_rfl) (by kernel_rfl) (fun _ _ _ h => h) (Or.inl ⟨by rfl, ?_⟩) hHeld ?_
      rotate_left
      · intro w hSw; obtain ⟨⟨c0, c1, c2, c3, c4, c5⟩, _⟩ := six_cells hSw; have q := q1.out.1; have q2 := q1.out.2; go_simp; try with_reducible rfl
      try simp only [Act.put, List.getElem_toArray, List.getElem_cons_zero, List.getElem_cons_succ, List.setIfInBounds_toArray, List.set_cons_zero, List.set_cons_succ]
      refine wpAnyH_take (i := 1) (v := ?_) rfl (by kernel_rfl) (by kernel_rfl) (by kernel_rfl) (fun _ _ _ h => h) (Or.inl ⟨by rfl, ?_⟩) hHeld ?_
      rotate_left
      · intro w hSw; obtain ⟨⟨c0, c1, c2, c3, c4, c5⟩, _⟩ := six_cells hSw; have q := q1.out.1; have q2 := q1.out.2; go_simp; try with_reducible rfl
      try simp only [Act.put, List.getElem_toArray, List.getElem_cons_zero, List.getElem_cons_succ, List.setIfInBounds_toArray, List.set_cons_zero, List.set_cons_succ]
      refine wpAnyH_take (i := 2) (v := ?_) rfl (by kernel_rfl) (by kernel_rfl) (by kernel_rfl) (fun _ _ _ h => h) (Or.inl ⟨by rfl, ?_⟩) hHeld ?_
      rotate_left
      · intro w hSw; obtain ⟨⟨c0, c1, c2, c3, c4, c5⟩, _⟩ := six_cells hSw; have q := q1.out.1; have q2 := q1.out.2; go_simp; try with_reducible rfl
      try simp only [Act.put, List.getElem_toArray, List.getElem_cons_zero, List.getElem_cons_succ, List.setIfInBounds_toArray, List.set_cons_zero, List.set_cons_succ]
      refine wpAnyH_take (i := 4) (v := ?_) rfl (by kernel_rfl) (by kernel_rfl) (by kernel_rfl) (fun _ _ _ h => h) (Or.inl ⟨by rfl, ?_⟩) hHeld ?_
      rotate_left
      · intro w hSw; obtain ⟨⟨c0, c1, c2, c3, c4, c5⟩, _⟩ := six_cells hSw; have q := q1.out.1; have q2 := q1.out.2; go_simp; try with_reducible rfl
      try simp only [Act.put, List.getElem_toArray, List.getElem_cons_zero, List.getElem_cons_succ, List.setIfInBounds_toArray, List.set_cons_zero, List.set_cons_succ]
      refine wpAnyH_take (i := 5) (v := ?_) rfl (by kernel_rfl) (by kernel_rfl) (by kernel_rfl) (fun _ _ _ h => h) (Or.inl ⟨by rfl, ?_⟩) hHeld ?_
      rotate_left
      · intro w hSw; obtain ⟨⟨c0, c1, c2, c3, c4, c5⟩, _⟩ := six_cells hSw; have q := q1.out.1; have q2 := q1.out.2; go_simp; try with_reducible rfl
      try simp only [Act.put, List.getElem_toArray, List.getElem_cons_zero, List.getElem_cons_succ, List.setIfInBounds_toArray, List.set_cons_zero, List.set_cons_succ]
      refine wpAnyH_take (i := 6) (v := ?_) rfl (by kernel_rfl) (by kernel_rfl) (by kernel_rfl) (fun _ _ _ h => h) (Or.inl ⟨by rfl, ?_⟩) hHeld ?_
      rotate_left
      · intro w hSw; obtain ⟨⟨c0, c1, c2, c3, c4, c5⟩, _⟩ := six_cells hSw; have q := q1.out.1; have q2 := q1.out.2; go_simp; try with_reducible rfl
      try simp only [Act.put, List.getElem_toArray, List.getElem_cons_zero, List.getElem_cons_succ, List.setIfInBounds_toArray, List.set_cons_zero, List.set_cons_succ]
      refine wpAnyH_take (i := 7) (v := ?_) rfl (by kernel_rfl) (by kernel_rfl) (by kernel_rfl) (fun _ _ _ h => h) (Or.inl ⟨by rfl, ?_⟩) hHeld ?_
      rotate_left
      · intro w hSw; obtain ⟨⟨c0, c1, c2, c3, c4, c5⟩, _⟩ := six_cells hSw; have q := q1.out.1; have q2 := q1.out.2; go_simp; try with_reducible rfl
      try simp only [Act.put, List.getElem_toArray, List.getElem_cons_zero, List.getElem_cons_succ, List.setIfInBounds_toArray, List.set_cons_zero, List.set_cons_succ]
      refine wpAnyH_take (i := 9) (v := ?_) rfl (by kernel_rfl) (by kernel_rfl) (by kernel_rfl) (fun _ _ _ h => h) (Or.inl ⟨by rfl, ?_⟩) hHeld ?_
      rotate_left
      · intro w hSw; obtain ⟨⟨c0, c1, c2, c3, c4, c5⟩, _⟩ := six_cells hSw; have q := q1.out.1; have q2 := q1.out.2; go_simp; try with_reducible rfl
      try simp only [Act.put, List.getElem_toArray, List.getElem_cons_zero, List.getElem_cons_succ, List.setIfInBounds_toArray, List.set_cons_zero, List.set_cons_succ]
      refine wpAnyH_take (i := 10) (v := ?_) rfl (by kernel_rfl) (by kernel_rfl) (by kernel_rfl) (fun _ _ _ h => h) (Or.inl ⟨by rfl, ?_⟩) hHeld ?_
      rotate_left
      · intro w hSw; obtain ⟨⟨c0, c1, c2, c3, c4, c5⟩, _⟩ := six_cells hSw; have q := q1.out.1; have q2 := q1.out.2; go_simp; try with_reducible rfl
      try simp only [Act.put, List.getElem_toArray, List.getElem_cons_zero, List.getElem_cons_succ, List.setIfInBounds_toArray, List.set_cons_zero, List.set_cons_succ]
      refine wpAnyH_take (i := 11) (v := ?_) rfl (by kernel_rfl) (by kernel_rfl) (by kernel_rfl) (fun _ _ _ h => h) (Or.inl ⟨by rfl, ?_⟩) hHeld ?_
      rotate_left
      · intro w hSw; obtain ⟨⟨c0, c1, c2, c3, c4, c5⟩, _⟩ := six_cells hSw; have q := q1.out.1; have q2 := q1.out.2; go_simp; try with_reducible rfl
      try simp only [Act.put, List.getElem_toArray, List.getElem_cons_zero, List.getElem_cons_succ, List.setIfInBounds_toArray, List.set_cons_zero, List.set_cons_succ]
      refine wpAnyH_take (i := 13) (v := ?_) rfl (by kernel_rfl) (by kernel_rfl) (by kernel_rfl) (fun _ _ _ h => h) (Or.inl ⟨by rfl, ?_⟩) hHeld ?_
      rotate_left
      · intro w hSw; obtain ⟨⟨c0, c1, c2, c3, c4, c5⟩, _⟩ := six_cells hSw; have q := q1.out.1; have q2 := q1.out.2; go_simp; try with_reducible rfl
      try simp only [Act.put, List.getElem_toArray, List.getElem_cons_zero, List.getElem_cons_succ, List.setIfInBounds_toArray, List.set_cons_zero, List.set_cons_succ]
      refine wpAnyH_take (i := 14) (v := ?_) rfl (by kernel_rfl) (by kernel_rfl) (by kernel_rfl) (fun _ _ _ h => h) (Or.inl ⟨by rfl, ?_⟩) hHeld ?_
      rotate_left
      · intro w hSw; obtain ⟨⟨c0, c1, c2, c3, c4, c5⟩, _⟩ := six_cells hSw; have q := q1.out.1; have q2 := q1.out.2; go_simp; try with_reducible rfl
      try simp only [Act.put, List.getElem_toArray, List.getElem_cons_zero, List.getElem_cons_succ, List.setIfInBounds_toArray, List.set_cons_zero, List.set_cons_succ]
      refine wpAnyH_take (i := 15) (v := ?_) rfl (by kernel_rfl) (by kernel_rfl) (by kernel_rfl) (fun _ _ _ h => h) (Or.inl ⟨by rfl, ?_⟩) hHeld ?_
      rotate_left
      · intro w hSw; obtain ⟨⟨c0, c1, c2, c3, c4, c5⟩, _⟩ := six_cells hSw; have q := q1.out.1; have q2 := q1.out.2; go_simp; try with_reducible rfl
      try simp only [Act.put, List.getElem_toArray, List.getElem_cons_zero, List.getElem_cons_succ, List.setIfInBounds_toArray, List.set_cons_zero, List.set_cons_succ]
      refine wpAnyH_take (i := 16) (v := ?_) rfl (by kernel_rfl) (by kernel_rfl) (by kernel_rfl) (fun _ _ _ h => h) (Or.inl ⟨by rfl, ?_⟩) hHeld ?_
      rotate_left
      · intro w hSw; obtain ⟨⟨c0, c1, c2, c3, c4, c5⟩, _⟩ := six_cells hSw; have q := q1.out.1; have q2 := q1.out.2; go_simp; try with_reducible rfl
      try simp only [Act.put, List.getElem_toArray, List.getElem_cons_zero, List.getElem_cons_succ, List.setIfInBounds_toArray, List.set_cons_zero, List.set_cons_succ]
      refine wpAnyH_take (i := 18) (v := ?_) rfl (by kernel_rfl) (by kernel_rfl) (by kernel_rfl) (fun _ _ _ h => h) (Or.inl ⟨by rfl, ?_⟩) hHeld ?_
      rotate_left
      · intro w hSw; obtain ⟨⟨c0, c1, c2, c3, c4, c5⟩, _⟩ := six_cells hSw; have q := q1.out.1; have q2 := q1.out.2; go_simp; try with_reducible rfl
      try simp only [Act.put, List.getElem_toArray, List.getElem_cons_zero, List.getElem_cons_succ, List.setIfInBounds_toArray, List.set_cons_zero, List.set_cons_succ]
      refine wpAnyH_take (i := 19) (v := ?_) rfl (by kernel_rfl) (by kernel_rfl) (by kernel_rfl) (fun _ _ _ h => h) (Or.inl ⟨by rfl, ?_⟩) hHeld ?_
      rotate_left
      · intro w hSw; obtain ⟨⟨c0, c1, c2, c3, c4, c5⟩, _⟩ := six_cells hSw; have q := q1.out.1; have q2 := q1.out.2; go_simp; try with_reducible rfl
      try simp only [Act.put, List.getElem_toArray, List.getElem_cons_zero, List.getElem_cons_succ, List.setIfInBounds_toArray, List.set_cons_zero, List.set_cons_succ]
      refine wpAnyH_take (i := 20) (v := ?_) rfl (by kernel_rfl) (by kernel_rfl) (by kernel_rfl) (fun _ _ _ h => h) (Or.inl ⟨by rfl, ?_⟩) hHeld ?_
      rotate_left
      · intro w hSw; obtain ⟨⟨c0, c1, c2, c3, c4, c5⟩, _⟩ := six_cells hSw; have q := q1.out.1; have q2 := q1.out.2; go_simp; try with_reducible rfl
      try simp only [Act.put, List.getElem_toArray, List.getElem_cons_zero, List.getElem_cons_succ, List.setIfInBounds_toArray, List.set_cons_zero, List.set_cons_succ]
      refine wpAnyH_take (i := 21) (v := ?_) rfl (by kernel_rfl) (by kernel_rfl) (by kernel_rfl) (fun _ _ _ h => h) (Or.inl ⟨by rfl, ?_⟩) hHeld ?_
      rotate_left
      · intro w hSw; obtain ⟨⟨c0, c1, c2, c3, c4, c5⟩, _⟩ := six_cells hSw; have q := q1.out.1; have q2 := q1.out.2; go_simp; try with_reducible rfl
      try simp only [Act.put, List.getElem_toArray, List.getElem_cons_zero, List.getElem_cons_succ, List.setIfInBounds_toArray, List.set_cons_zero, List.set_cons_succ]
      refine wpAnyH_ready (rs := [3, 23]) (by kernel_rfl) (by simp) (AllReadyH.cons rfl (fun K hK => ?_) (AllReadyH.cons rfl (fun K hK => ?_) AllReadyH.nil))
      · go_simp
        refine (moved_any a0 k wD (HF.out 0 (by decide)) HK.out).mono ?_
        rintro e wN ⟨rfl, hw⟩
        subst hw
        refine hK.out _ _ D0 (fun hNew => ?_)
        clear hHeld hK K
        have hHeld := hNew
        clear hNew
        try simp only [Act.put, List.getElem_toArray, List.getElem_cons_zero, List.getElem_cons_succ, List.setIfInBounds_toArray, List.set_cons_zero, List.set_cons_succ]
        refine wpAnyH_ready (rs := [8, 23]) (by kernel_rfl) (by simp) (AllReadyH.cons rfl (fun K hK => ?_) (AllReadyH.cons rfl (fun K hK => ?_) AllReadyH.nil))
        · go_simp
          refine (moved_any a1 (-k) wD (HF.out 1 (by decide)) (in_neg HK.out)).mono ?_
          rintro e wN ⟨rfl, hw⟩
          subst hw
          refine hK.out _ _ D0 (fun hNew => ?_)
          clear hHeld hK K
          have hHeld := hNew
          clear hNew
          try simp only [Act.put, List.getElem_toArray, List.getElem_cons_zero, List.getElem_cons_succ, List.setIfInBounds_toArray, List.set_cons_zero, List.set_cons_succ]
          refine wpAnyH_ready (rs := [12, 23]) (by kernel_rfl) (by simp) (AllReadyH.cons rfl (fun K hK => ?_) (AllReadyH.cons rfl (fun K hK => ?_) AllReadyH.nil))
          · go_simp
            refine (moved_any a2 k wD (HF.out 2 (by decide)) HK.out).mono ?_
            rintro e wN ⟨rfl, hw⟩
            subst hw
            refine hK.out _ _ D0 (fun hNew => ?_)
            clear hHeld hK K
            have hHeld := hNew
            clear hNew
            try simp only [Act.put, List.getElem_toArray, List.getElem_cons_zero, List.getElem_cons_succ, List.setIfInBounds_toArray, List.set_cons_zero, List.set_cons_succ]
            refine wpAnyH_ready (rs := [17, 23]) (by kernel_rfl) (by simp) (AllReadyH.cons rfl (fun K hK => ?_) (AllReadyH.cons rfl (fun K hK => ?_) AllReadyH.nil))
            · go_simp
              refine (moved_any a3 (-k) wD (HF.out 3 (by decide)) (in_neg HK.out)).mono ?_
              rintro e wN ⟨rfl, hw⟩
              subst hw
              refine hK.out _ _ D0 (fun hNew => ?_)
              clear hHeld hK K
              have hHeld := hNew
              clear hNew
              try simp only [Act.put, List.getElem_toArray, List.getElem_cons_zero, List.getElem_cons_succ, List.setIfInBounds_toArray, List.set_cons_zero, List.set_cons_succ]
              refine wpAnyH_take (i := 22) (v := ?_) rfl (by kernel_rfl) (by kernel_rfl) (by kernel_rfl) (fun _ _ _ h => h) (Or.inl ⟨by rfl, ?_⟩) hHeld ?_
              rotate_left
              · intro w hSw; skip; go_simp; try with_reducible rfl
              try simp only [Act.put, List.getElem_toArray, List.getElem_cons_zero, List.getElem_cons_succ, List.setIfInBounds_toArray, List.set_cons_zero, List.set_cons_succ]
              refine wpAnyH_ready (rs := [23]) (by kernel_rfl) (by simp) (AllReadyH.cons rfl (fun K hK => ?_) AllReadyH.nil)
              go_simp
              have HSZ := DB.size
              have HS0 := lies.lt D0
              have HS2 := lies.lt D2
              have hA := bound.up1 wD (.cells #[.int .i64 0, .int .i64 0, .int .i64 0, .int .i64 0, .int .i64 0, .int .i64 0] 24)
              have DT := lies.made wD 24 #[.int .i64 0, .int .i64 0, .int .i64 0, .int .i64 0, .int .i64 0, .int .i64 0]
              replace D0 := lies.on_call D0 hA
              replace D2 := lies.on_call D2 hA
              replace DB := later DB hA
              clear hA
              refine hK.out _ _ D0 (fun hNew => ?_)
              clear hHeld hK K
              have hHeld := hNew
              clear hNew
              try simp only [Act.put, List.getElem_toArray, List.getElem_cons_zero, List.getElem_cons_succ, List.setIfInBounds_toArray, List.set_cons_zero, List.set_cons_succ]
              have hXw : w.heap.size ≤ (World.heap wD).size := HSZ
              have hk0 : w.heap.size ≠ (World.heap wD).size := Nat.ne_of_lt HS0
              have hk2 : w.heap.size + 1 ≠ (World.heap wD).size := Nat.ne_of_lt HS2
              clear HSZ HS0 HS2
              generalize (World.heap wD).size = XDT at DT hXw hk0 hk2 ⊢
              generalize World.alloc wD (.cells #[.int .i64 0, .int .i64 0, .int .i64 0, .int .i64 0, .int .i64 0, .int .i64 0] 24) = u2 at D0 D2 DT DB hHeld ⊢
              obtain ⟨⟨x0, x1, x2, x3, x4, x5⟩, ⟨y0, y1, y2, y3, y4, y5⟩, xl⟩ := six_cells DT
              refine wpAnyH_ready (rs := [24]) (by kernel_rfl) (by simp) (AllReadyH.cons rfl (fun K hK => ?_) AllReadyH.nil)
              go_simp
              replace D0 := far_six D0 hk0 (.int .i64 (shB a0 k)) (.int .i64 (shB a1 (-k))) (.int .i64 (shB a2 k)) (.int .i64 (shB a3 (-k))) (.int .i64 (a4)) (.int .i64 (a5))
              replace D2 := far_six D2 hk2 (.int .i64 (shB a0 k)) (.int .i64 (shB a1 (-k))) (.int .i64 (shB a2 k)) (.int .i64 (shB a3 (-k))) (.int .i64 (a4)) (.int .i64 (a5))
              replace DB := put_six DB hXw (.int .i64 (shB a0 k)) (.int .i64 (shB a1 (-k))) (.int .i64 (shB a2 k)) (.int .i64 (shB a3 (-k))) (.int .i64 (a4)) (.int .i64 (a5))
              replace DT := put_sixL DT (.int .i64 (shB a0 k)) (.int .i64 (shB a1 (-k))) (.int .i64 (shB a2 k)) (.int .i64 (shB a3 (-k))) (.int .i64 (a4)) (.int .i64 (a5))
              refine hK.out _ _ D0 (fun hNew => ?_)
              clear x0 x1 x2 x3 x4 x5 y0 y1 y2 y3 y4 y5 xl
              clear hHeld hK K
              have hHeld := hNew
              clear hNew
              try simp only [Act.put, List.getElem_toArray, List.getElem_cons_zero, List.getElem_cons_succ, List.setIfInBounds_toArray, List.set_cons_zero, List.set_cons_succ]
              generalize World.setCell (World.setCell (World.setCell (World.setCell (World.setCell (World.setCell (u2) ⟨XDT, 0, none⟩ (.int .i64 (shB a0 k))) ⟨XDT, 1, none⟩ (.int .i64 (shB a1 (-k)))) ⟨XDT, 2, none⟩ (.int .i64 (shB a2 k))) ⟨XDT, 3, none⟩ (.int .i64 (shB a3 (-k)))) ⟨XDT, 4, none⟩ (.int .i64 (a4))) ⟨XDT, 5, none⟩ (.int .i64 (a5)) = wO at D0 D2 DT DB hHeld ⊢
              refine wpAnyH_done (by kernel_rfl) ?_ _
              clear hHeld D0
              have HTL : RowKit.Hid (Tops [shB a0 k, shB a1 (-k), shB a2 k, shB a3 (-k), a4, a5]) := Lib.hid (later_tops (z := [a0, a1, a2, a3, a4, a5]) HA.out.may HK.out)
              have HLL : RowKit.Hid (Low [shB a0 k, shB a1 (-k), shB a2 k, shB a3 (-k), a4, a5]) := Lib.hid (later_low (z := [a0, a1, a2, a3, a4, a5]) HA.out.may HK.out)
              obtain ⟨⟨kDT_0, kDT_1, kDT_2, kDT_3, kDT_4, kDT_5⟩, -⟩ := six_cells DT
              have kDT_l := lies.lt DT
              go_wp2_with fail
              clear kDT_0 kDT_1 kDT_2 kDT_3 kDT_4 kDT_5 kDT_l
              refine (rmay_any _ _ _ _ _ _ wO HLL.out HTL.out).mono ?_
              rintro e w3 ⟨hB, r1, rfl, h1⟩
              replace D2 := lies.on_call D2 hB
              replace DT := lies.on_call DT hB
              replace DB := later DB hB
              clear hB
              cases r1 with
              | false =>
                have HB := Lib.hid (show ¬ MayZ (laterT [a0, a1, a2, a3, a4, a5] k) from fun q => absurd (h1.2 q) (by decide))
                clear h1
                clear DT
                obtain ⟨⟨x0, x1, x2, x3, x4, x5⟩, ⟨y0, y1, y2, y3, y4, y5⟩, xl⟩ := six_cells D2
                clear D2
                go_wp2_with fail
                exact bodyPost_ret (v := .tuple #[.agg #[.int .i64 0, .int .i64 0, .int .i64 0, .int .i64 0, .int .i64 0, .int .i64 0], .int .i64 8]) (by simp [results, Tryd.results18, go_sem, x0, x1, x2, x3, x4, x5, xl]) rfl ⟨put_six DB hR _ _ _ _ _ _, 0, 0, 0, 0, 0, 0, 8, rfl, .inr (.inr (.inl ⟨HA.out, HK.out, HB.out, rfl, rfl⟩))⟩
              | true =>
                have HB := Lib.hid (show MayZ (laterT [a0, a1, a2, a3, a4, a5] k) from h1.1 rfl)
                clear h1
                obtain ⟨⟨kDT_0, kDT_1, kDT_2, kDT_3, kDT_4, kDT_5⟩, -⟩ := six_cells DT
                have kDT_l := lies.lt DT
                clear DT
                obtain ⟨⟨x0, x1, x2, x3, x4, x5⟩, ⟨y0, y1, y2, y3, y4, y5⟩, xl⟩ := six_cells D2
                clear D2
                go_wp2_with fail
                exact bodyPost_ret (v := .tuple #[.agg #[.int .i64 (shB a0 k), .int .i64 (shB a1 (-k)), .int .i64 (shB a2 k), .int .i64 (shB a3 (-k)), .int .i64 (a4), .int .i64 (a5)], .int .i64 0]) (by simp [results, Tryd.results18, go_sem, x0, x1, x2, x3, x4, x5, xl]) rfl ⟨put_six DB hR _ _ _ _ _ _, _, _, _, _, _, _, 0, rfl, .inr (.inr (.inr ⟨HA.out, HK.out, HB.out, rfl, rfl⟩))⟩
            · go_simp
              have HSZ := DB.size
              have HS0 := lies.lt D0
              have HS2 := lies.lt D2
              have hA := bound.up1 wD (.cells #[.int .i64 0, .int .i64 0, .int .i64 0, .int .i64 0, .int .i64 0, .int .i64 0] 24)
              have DT := lies.made wD 24 #[.int .i64 0, .int .i64 0, .int .i64 0, .int .i64 0, .int .i64 0, .int .i64 0]
              replace D0 := lies.on_call D0 hA
              replace D2 := lies.on_call D2 hA
              replace DB := later DB hA
              clear hA
              refine hK.out _ _ D0 (fun hNew => ?_)
              clear hHeld hK K
              have hHeld := hNew
              clear hNew
              try simp only [Act.put, List.getElem_toArray, List.getElem_cons_zero, List.getElem_cons_succ, List.setIfInBounds_toArray, List.set_cons_zero, List.set_cons_succ]
              have hXw : w.heap.size ≤ (World.heap wD).size := HSZ
              have hk0 : w.heap.size ≠ (World.heap wD).size := Nat.ne_of_lt HS0
              have hk2 : w.heap.size + 1 ≠ (World.heap wD).size := Nat.ne_of_lt HS2
              clear HSZ HS0 HS2
              generalize (World.heap wD).size = XDT at DT hXw hk0 hk2 ⊢
              generalize World.alloc wD (.cells #[.int .i64 0, .int .i64 0, .int .i64 0, .int .i64 0, .int .i64 0, .int .i64 0] 24) = u2 at D0 D2 DT DB hHeld ⊢
              refine wpAnyH_ready (rs := [17]) (by kernel_rfl) (by simp) (AllReadyH.cons rfl (fun K hK => ?_) AllReadyH.nil)
              go_simp
              refine (moved_any a3 (-k) u2 (HF.out 3 (by decide)) (in_neg HK.out)).mono ?_
              rintro e wN ⟨rfl, hw⟩
              subst hw
              refine hK.out _ _ D0 (fun hNew => ?_)
              clear hHeld hK K
              have hHeld := hNew
              clear hNew
              try simp only [Act.put, List.getElem_toArray, List.getElem_cons_zero, List.getElem_cons_succ, List.setIfInBounds_toArray, List.set_cons_zero, List.set_cons_succ]
              refine wpAnyH_take (i := 22) (v := ?_) rfl (by kernel_rfl) (by kernel_rfl) (by kernel_rfl) (fun _ _ _ h => h) (Or.inl ⟨by rfl, ?_⟩) hHeld ?_
              rotate_left
              · intro w hSw; skip; go_simp; try with_reducible rfl
              try simp only [Act.put, List.getElem_toArray, List.getElem_cons_zero, List.getElem_cons_succ, List.setIfInBounds_toArray, List.set_cons_zero, List.set_cons_succ]
              obtain ⟨⟨x0, x1, x2, x3, x4, x5⟩, ⟨y0, y1, y2, y3, y4, y5⟩, xl⟩ := six_cells DT
              refine wpAnyH_ready (rs := [24]) (by kernel_rfl) (by simp) (AllReadyH.cons rfl (fun K hK => ?_) AllReadyH.nil)
              go_simp
              replace D0 := far_six D0 hk0 (.int .i64 (shB a0 k)) (.int .i64 (shB a1 (-k))) (.int .i64 (shB a2 k)) (.int .i64 (shB a3 (-k))) (.int .i64 (a4)) (.int .i64 (a5))
              replace D2 := far_six D2 hk2 (.int .i64 (shB a0 k)) (.int .i64 (shB a1 (-k))) (.int .i64 (shB a2 k)) (.int .i64 (shB a3 (-k))) (.int .i64 (a4)) (.int .i64 (a5))
              replace DB := put_six DB hXw (.int .i64 (shB a0 k)) (.int .i64 (shB a1 (-k))) (.int .i64 (shB a2 k)) (.int .i64 (shB a3 (-k))) (.int .i64 (a4)) (.int .i64 (a5))
              replace DT := put_sixL DT (.int .i64 (shB a0 k)) (.int .i64 (shB a1 (-k))) (.int .i64 (shB a2 k)) (.int .i64 (shB a3 (-k))) (.int .i64 (a4)) (.int .i64 (a5))
              refine hK.out _ _ D0 (fun hNew => ?_)
              clear x0 x1 x2 x3 x4 x5 y0 y1 y2 y3 y4 y5 xl
              clear hHeld hK K
              have hHeld := hNew
              clear hNew
              try simp only [Act.put, List.getElem_toArray, List.getElem_cons_zero, List.getElem_cons_succ, List.setIfInBounds_toArray, List.set_cons_zero, List.set_cons_succ]
              generalize World.setCell (World.setCell (World.setCell (World.setCell (World.setCell (World.setCell (u2) ⟨XDT, 0, none⟩ (.int .i64 (shB a0 k))) ⟨XDT, 1, none⟩ (.int .i64 (shB a1 (-k)))) ⟨XDT, 2, none⟩ (.int .i64 (shB a2 k))) ⟨XDT, 3, none⟩ (.int .i64 (shB a3 (-k)))) ⟨XDT, 4, none⟩ (.int .i64 (a4))) ⟨XDT, 5, none⟩ (.int .i64 (a5)) = wO at D0 D2 DT DB hHeld ⊢
              refine wpAnyH_done (by kernel_rfl) ?_ _
              clear hHeld D0
              have HTL : RowKit.Hid (Tops [shB a0 k, shB a1 (-k), shB a2 k, shB a3 (-k), a4, a5]) := Lib.hid (later_tops (z := [a0, a1, a2, a3, a4, a5]) HA.out.may HK.out)
              have HLL : RowKit.Hid (Low [shB a0 k, shB a1 (-k), shB a2 k, shB a3 (-k), a4, a5]) := Lib.hid (later_low (z := [a0, a1, a2, a3, a4, a5]) HA.out.may HK.out)
              obtain ⟨⟨kDT_0, kDT_1, kDT_2, kDT_3, kDT_4, kDT_5⟩, -⟩ := six_cells DT
              have kDT_l := lies.lt DT
              go_wp2_with fail
              clear kDT_0 kDT_1 kDT_2 kDT_3 kDT_4 kDT_5 kDT_l
              refine (rmay_any _ _ _ _ _ _ wO HLL.out HTL.out).mono ?_
              rintro e w3 ⟨hB, r1, rfl, h1⟩
              replace D2 := lies.on_call D2 hB
              replace DT := lies.on_call DT hB
              replace DB := later DB hB
              clear hB
              cases r1 with
              | false =>
                have HB := Lib.hid (show ¬ MayZ (laterT [a0, a1, a2, a3, a4, a5] k) from fun q => absurd (h1.2 q) (by decide))
                clear h1
                clear DT
                obtain ⟨⟨x0, x1, x2, x3, x4, x5⟩, ⟨y0, y1, y2, y3, y4, y5⟩, xl⟩ := six_cells D2
                clear D2
                go_wp2_with fail
                exact bodyPost_ret (v := .tuple #[.agg #[.int .i64 0, .int .i64 0, .int .i64 0, .int .i64 0, .int .i64 0, .int .i64 0], .int .i64 8]) (by simp [results, Tryd.results18, go_sem, x0, x1, x2, x3, x4, x5, xl]) rfl ⟨put_six DB hR _ _ _ _ _ _, 0, 0, 0, 0, 0, 0, 8, rfl, .inr (.inr (.inl ⟨HA.out, HK.out, HB.out, rfl, rfl⟩))⟩
              | true =>
                have HB := Lib.hid (show MayZ (laterT [a0, a1, a2, a3, a4, a5] k) from h1.1 rfl)
                clear h1
                obtain ⟨⟨kDT_0, kDT_1, kDT_2, kDT_3, kDT_4, kDT_5⟩, -⟩ := six_cells DT
                have kDT_l := lies.lt DT
                clear DT
                obtain ⟨⟨x0, x1, x2, x3, x4, x5⟩, ⟨y0, y1, y2, y3, y4, y5⟩, xl⟩ := six_cells D2
                clear D2
                go_wp2_with fail
                exact bodyPost_ret (v := .tuple #[.agg #[.int .i64 (shB a0 k), .int .i64 (shB a1 (-k)), .int .i64 (shB a2 k), .int .i64 (shB a3 (-k)), .int .i64 (a4), .int .i64 (a5)], .int .i64 0]) (by simp [results, Tryd.results18, go_sem, x0, x1, x2, x3, x4, x5, xl]) rfl ⟨put_six DB hR _ _ _ _ _ _, _, _, _, _, _, _, 0, rfl, .inr (.inr (.inr ⟨HA.out, HK.out, HB.out, rfl, rfl⟩))⟩
          · go_simp
            have HSZ := DB.size
            have HS0 := lies.lt D0
            have HS2 := lies.lt D2
            have hA := bound.up1 wD (.cells #[.int .i64 0, .int .i64 0, .int .i64 0, .int .i64 0, .int .i64 0, .int .i64 0] 24)
            have DT := lies.made wD 24 #[.int .i64 0, .int .i64 0, .int .i64 0, .int .i64 0, .int .i64 0, .int .i64 0]
            replace D0 := lies.on_call D0 hA
            replace D2 := lies.on_call D2 hA
            replace DB := later DB hA
            clear hA
            refine hK.out _ _ D0 (fun hNew => ?_)
            clear hHeld hK K
            have hHeld := hNew
            clear hNew
            try simp only [Act.put, List.getElem_toArray, List.getElem_cons_zero, List.getElem_cons_succ, List.setIfInBounds_toArray, List.set_cons_zero, List.set_cons_succ]
            have hXw : w.heap.size ≤ (World.heap wD).size := HSZ
            have hk0 : w.heap.size ≠ (World.heap wD).size := Nat.ne_of_lt HS0
            have hk2 : w.heap.size + 1 ≠ (World.heap wD).size := Nat.ne_of_lt HS2
            clear HSZ HS0 HS2
            generalize (World.heap wD).size = XDT at DT hXw hk0 hk2 ⊢
            generalize World.alloc wD (.cells #[.int .i64 0, .int .i64 0, .int .i64 0, .int .i64 0, .int .i64 0, .int .i64 0] 24) = u2 at D0 D2 DT DB hHeld ⊢
            refine wpAnyH_ready (rs := [12]) (by kernel_rfl) (by simp) (AllReadyH.cons rfl (fun K hK => ?_) AllReadyH.nil)
            go_simp
            refine (moved_any a2 k u2 (HF.out 2 (by decide)) HK.out).mono ?_
            rintro e wN ⟨rfl, hw⟩
            subst hw
            refine hK.out _ _ D0 (fun hNew => ?_)
            clear hHeld hK K
            have hHeld := hNew
            clear hNew
            try simp only [Act.put, List.getElem_toArray, List.getElem_cons_zero, List.getElem_cons_succ, List.setIfInBounds_toArray, List.set_cons_zero, List.set_cons_succ]
            refine wpAnyH_ready (rs := [17]) (by kernel_rfl) (by simp) (AllReadyH.cons rfl (fun K hK => ?_) AllReadyH.nil)
            go_simp
            refine (moved_any a3 (-k) u2 (HF.out 3 (by decide)) (in_neg HK.out)).mono ?_
            rintro e wN ⟨rfl, hw⟩
            subst hw
            refine hK.out _ _ D0 (fun hNew => ?_)
            clear hHeld hK K
            have hHeld := hNew
            clear hNew
            try simp only [Act.put, List.getElem_toArray, List.getElem_cons_zero, List.getElem_cons_succ, List.setIfInBounds_toArray, List.set_cons_zero, List.set_cons_succ]
            refine wpAnyH_take (i := 22) (v := ?_) rfl (by kernel_rfl) (by kernel_rfl) (by kernel_rfl) (fun _ _ _ h => h) (Or.inl ⟨by rfl, ?_⟩) hHeld ?_
            rotate_left
            · intro w hSw; skip; go_simp; try with_reducible rfl
            try simp only [Act.put, List.getElem_toArray, List.getElem_cons_zero, List.getElem_cons_succ, List.setIfInBounds_toArray, List.set_cons_zero, List.set_cons_succ]
            obtain ⟨⟨x0, x1, x2, x3, x4, x5⟩, ⟨y0, y1, y2, y3, y4, y5⟩, xl⟩ := six_cells DT
            refine wpAnyH_ready (rs := [24]) (by kernel_rfl) (by simp) (AllReadyH.cons rfl (fun K hK => ?_) AllReadyH.nil)
            go_simp
            replace D0 := far_six D0 hk0 (.int .i64 (shB a0 k)) (.int .i64 (shB a1 (-k))) (.int .i64 (shB a2 k)) (.int .i64 (shB a3 (-k))) (.int .i64 (a4)) (.int .i64 (a5))
            replace D2 := far_six D2 hk2 (.int .i64 (shB a0 k)) (.int .i64 (shB a1 (-k))) (.int .i64 (shB a2 k)) (.int .i64 (shB a3 (-k))) (.int .i64 (a4)) (.int .i64 (a5))
            replace DB := put_six DB hXw (.int .i64 (shB a0 k)) (.int .i64 (shB a1 (-k))) (.int .i64 (shB a2 k)) (.int .i64 (shB a3 (-k))) (.int .i64 (a4)) (.int .i64 (a5))
            replace DT := put_sixL DT (.int .i64 (shB a0 k)) (.int .i64 (shB a1 (-k))) (.int .i64 (shB a2 k)) (.int .i64 (shB a3 (-k))) (.int .i64 (a4)) (.int .i64 (a5))
            refine hK.out _ _ D0 (fun hNew => ?_)
            clear x0 x1 x2 x3 x4 x5 y0 y1 y2 y3 y4 y5 xl
            clear hHeld hK K
            have hHeld := hNew
            clear hNew
            try simp only [Act.put, List.getElem_toArray, List.getElem_cons_zero, List.getElem_cons_succ, List.setIfInBounds_toArray, List.set_cons_zero, List.set_cons_succ]
            generalize World.setCell (World.setCell (World.setCell (World.setCell (World.setCell (World.setCell (u2) ⟨XDT, 0, none⟩ (.int .i64 (shB a0 k))) ⟨XDT, 1, none⟩ (.int .i64 (shB a1 (-k)))) ⟨XDT, 2, none⟩ (.int .i64 (shB a2 k))) ⟨XDT, 3, none⟩ (.int .i64 (shB a3 (-k)))) ⟨XDT, 4, none⟩ (.int .i64 (a4))) ⟨XDT, 5, none⟩ (.int .i64 (a5)) = wO at D0 D2 DT DB hHeld ⊢
            refine wpAnyH_done (by kernel_rfl) ?_ _
            clear hHeld D0
            have HTL : RowKit.Hid (Tops [shB a0 k, shB a1 (-k), shB a2 k, shB a3 (-k), a4, a5]) := Lib.hid (later_tops (z := [a0, a1, a2, a3, a4, a5]) HA.out.may HK.out)
            have HLL : RowKit.Hid (Low [shB a0 k, shB a1 (-k), shB a2 k, shB a3 (-k), a4, a5]) := Lib.hid (later_low (z := [a0, a1, a2, a3, a4, a5]) HA.out.may HK.out)
            obtain ⟨⟨kDT_0, kDT_1, kDT_2, kDT_3, kDT_4, kDT_5⟩, -⟩ := six_cells DT
            have kDT_l := lies.lt DT
            go_wp2_with fail
            clear kDT_0 kDT_1 kDT_2 kDT_3 kDT_4 kDT_5 kDT_l
            refine (rmay_any _ _ _ _ _ _ wO HLL.out HTL.out).mono ?_
            rintro e w3 ⟨hB, r1, rfl, h1⟩
            replace D2 := lies.on_call D2 hB
            replace DT := lies.on_call DT hB
            replace DB := later DB hB
            clear hB
            cases r1 with
            | false =>
              have HB := Lib.hid (show ¬ MayZ (laterT [a0, a1, a2, a3, a4, a5] k) from fun q => absurd (h1.2 q) (by decide))
              clear h1
              clear DT
              obtain ⟨⟨x0, x1, x2, x3, x4, x5⟩, ⟨y0, y1, y2, y3, y4, y5⟩, xl⟩ := six_cells D2
              clear D2
              go_wp2_with fail
              exact bodyPost_ret (v := .tuple #[.agg #[.int .i64 0, .int .i64 0, .int .i64 0, .int .i64 0, .int .i64 0, .int .i64 0], .int .i64 8]) (by simp [results, Tryd.results18, go_sem, x0, x1, x2, x3, x4, x5, xl]) rfl ⟨put_six DB hR _ _ _ _ _ _, 0, 0, 0, 0, 0, 0, 8, rfl, .inr (.inr (.inl ⟨HA.out, HK.out, HB.out, rfl, rfl⟩))⟩
            | true =>
              have HB := Lib.hid (show MayZ (laterT [a0, a1, a2, a3, a4, a5] k) from h1.1 rfl)
              clear h1
              obtain ⟨⟨kDT_0, kDT_1, kDT_2, kDT_3, kDT_4, kDT_5⟩, -⟩ := six_cells DT
              have kDT_l := lies.lt DT
              clear DT
              obtain ⟨⟨x0, x1, x2, x3, x4, x5⟩, ⟨y0, y1, y2, y3, y4, y5⟩, xl⟩ := six_cells D2
              clear D2
              go_wp2_with fail
              exact bodyPost_ret (v := .tuple #[.agg #[.int .i64 (shB a0 k), .int .i64 (shB a1 (-k)), .int .i64 (shB a2 k), .int .i64 (shB a3 (-k)), .int .i64 (a4), .int .i64 (a5)], .int .i64 0]) (by simp [results, Tryd.results18, go_sem, x0, x1, x2, x3, x4, x5, xl]) rfl ⟨put_six DB hR _ _ _ _ _ _, _, _, _, _, _, _, 0, rfl, .inr (.inr (.inr ⟨HA.out, HK.out, HB.out, rfl, rfl⟩))⟩
        · go_simp
          have HSZ := DB.size
          have HS0 := lies.lt D0
          have HS2 := lies.lt D2
          have hA := bound.up1 wD (.cells #[.int .i64 0, .int .i64 0, .int .i64 0, .int .i64 0, .int .i64 0, .int .i64 0] 24)
          have DT := lies.made wD 24 #[.int .i64 0, .int .i64 0, .int .i64 0, .int .i64 0, .int .i64 0, .int .i64 0]
          replace D0 := lies.on_call D0 hA
          replace D2 := lies.on_call D2 hA
          replace DB := later DB hA
          clear hA
          refine hK.out _ _ D0 (fun hNew => ?_)
          clear hHeld hK K
          have hHeld := hNew
          clear hNew
          try simp only [Act.put, List.getElem_toArray, List.getElem_cons_zero, List.getElem_cons_succ, List.setIfInBounds_toArray, List.set_cons_zero, List.set_cons_succ]
          have hXw : w.heap.size ≤ (World.heap wD).size := HSZ
          have hk0 : w.heap.size ≠ (World.heap wD).size := Nat.ne_of_lt HS0
          have hk2 : w.heap.size + 1 ≠ (World.heap wD).size := Nat.ne_of_lt HS2
          clear HSZ HS0 HS2
          generalize (World.heap wD).size = XDT at DT hXw hk0 hk2 ⊢
          generalize World.alloc wD (.cells #[.int .i64 0, .int .i64 0, .int .i64 0, .int .i64 0, .int .i64 0, .int .i64 0] 24) = u2 at D0 D2 DT DB hHeld ⊢
          refine wpAnyH_ready (rs := [8]) (by kernel_rfl) (by simp) (AllReadyH.cons rfl (fun K hK => ?_) AllReadyH.nil)
          go_simp
          refine (moved_any a1 (-k) u2 (HF.out 1 (by decide)) (in_neg HK.out)).mono ?_
          rintro e wN ⟨rfl, hw⟩
          subst hw
          refine hK.out _ _ D0 (fun hNew => ?_)
          clear hHeld hK K
          have hHeld := hNew
          clear hNew
          try simp only [Act.put, List.getElem_toArray, List.getElem_cons_zero, List.getElem_cons_succ, List.setIfInBounds_toArray, List.set_cons_zero, List.set_cons_succ]
          refine wpAnyH_ready (rs := [12]) (by kernel_rfl) (by simp) (AllReadyH.cons rfl (fun K hK => ?_) AllReadyH.nil)
          go_simp
          refine (moved_any a2 k u2 (HF.out 2 (by decide)) HK.out).mono ?_
          rintro e wN ⟨rfl, hw⟩
          subst hw
          refine hK.out _ _ D0 (fun hNew => ?_)
          clear hHeld hK K
          have hHeld := hNew
          clear hNew
          try simp only [Act.put, List.getElem_toArray, List.getElem_cons_zero, List.getElem_cons_succ, List.setIfInBounds_toArray, List.set_cons_zero, List.set_cons_succ]
          refine wpAnyH_ready (rs := [17]) (by kernel_rfl) (by simp) (AllReadyH.cons rfl (fun K hK => ?_) AllReadyH.nil)
          go_simp
          refine (moved_any a3 (-k) u2 (HF.out 3 (by decide)) (in_neg HK.out)).mono ?_
          rintro e wN ⟨rfl, hw⟩
          subst hw
          refine hK.out _ _ D0 (fun hNew => ?_)
          clear hHeld hK K
          have hHeld := hNew
          clear hNew
          try simp only [Act.put, List.getElem_toArray, List.getElem_cons_zero, List.getElem_cons_succ, List.setIfInBounds_toArray, List.set_cons_zero, List.set_cons_succ]
          refine wpAnyH_take (i := 22) (v := ?_) rfl (by kernel_rfl) (by kernel_rfl) (by kernel_rfl) (fun _ _ _ h => h) (Or.inl ⟨by rfl, ?_⟩) hHeld ?_
          rotate_left
          · intro w hSw; skip; go_simp; try with_reducible rfl
          try simp only [Act.put, List.getElem_toArray, List.getElem_cons_zero, List.getElem_cons_succ, List.setIfInBounds_toArray, List.set_cons_zero, List.set_cons_succ]
          obtain ⟨⟨x0, x1, x2, x3, x4, x5⟩, ⟨y0, y1, y2, y3, y4, y5⟩, xl⟩ := six_cells DT
          refine wpAnyH_ready (rs := [24]) (by kernel_rfl) (by simp) (AllReadyH.cons rfl (fun K hK => ?_) AllReadyH.nil)
          go_simp
          replace D0 := far_six D0 hk0 (.int .i64 (shB a0 k)) (.int .i64 (shB a1 (-k))) (.int .i64 (shB a2 k)) (.int .i64 (shB a3 (-k))) (.int .i64 (a4)) (.int .i64 (a5))
          replace D2 := far_six D2 hk2 (.int .i64 (shB a0 k)) (.int .i64 (shB a1 (-k))) (.int .i64 (shB a2 k)) (.int .i64 (shB a3 (-k))) (.int .i64 (a4)) (.int .i64 (a5))
          replace DB := put_six DB hXw (.int .i64 (shB a0 k)) (.int .i64 (shB a1 (-k))) (.int .i64 (shB a2 k)) (.int .i64 (shB a3 (-k))) (.int .i64 (a4)) (.int .i64 (a5))
          replace DT := put_sixL DT (.int .i64 (shB a0 k)) (.int .i64 (shB a1 (-k))) (.int .i64 (shB a2 k)) (.int .i64 (shB a3 (-k))) (.int .i64 (a4)) (.int .i64 (a5))
          refine hK.out _ _ D0 (fun hNew => ?_)
          clear x0 x1 x2 x3 x4 x5 y0 y1 y2 y3 y4 y5 xl
          clear hHeld hK K
          have hHeld := hNew
          clear hNew
          try simp only [Act.put, List.getElem_toArray, List.getElem_cons_zero, List.getElem_cons_succ, List.setIfInBounds_toArray, List.set_cons_zero, List.set_cons_succ]
          generalize World.setCell (World.setCell (World.setCell (World.setCell (World.setCell (World.setCell (u2) ⟨XDT, 0, none⟩ (.int .i64 (shB a0 k))) ⟨XDT, 1, none⟩ (.int .i64 (shB a1 (-k)))) ⟨XDT, 2, none⟩ (.int .i64 (shB a2 k))) ⟨XDT, 3, none⟩ (.int .i64 (shB a3 (-k)))) ⟨XDT, 4, none⟩ (.int .i64 (a4))) ⟨XDT, 5, none⟩ (.int .i64 (a5)) = wO at D0 D2 DT DB hHeld ⊢
          refine wpAnyH_done (by kernel_rfl) ?_ _
          clear hHeld D0
          have HTL : RowKit.Hid (Tops [shB a0 k, shB a1 (-k), shB a2 k, shB a3 (-k), a4, a5]) := Lib.hid (later_tops (z := [a0, a1, a2, a3, a4, a5]) HA.out.may HK.out)
          have HLL : RowKit.Hid (Low [shB a0 k, shB a1 (-k), shB a2 k, shB a3 (-k), a4, a5]) := Lib.hid (later_low (z := [a0, a1, a2, a3, a4, a5]) HA.out.may HK.out)
          obtain ⟨⟨kDT_0, kDT_1, kDT_2, kDT_3, kDT_4, kDT_5⟩, -⟩ := six_cells DT
          have kDT_l := lies.lt DT
          go_wp2_with fail
          clear kDT_0 kDT_1 kDT_2 kDT_3 kDT_4 kDT_5 kDT_l
          refine (rmay_any _ _ _ _ _ _ wO HLL.out HTL.out).mono ?_
          rintro e w3 ⟨hB, r1, rfl, h1⟩
          replace D2 := lies.on_call D2 hB
          replace DT := lies.on_call DT hB
          replace DB := later DB hB
          clear hB
          cases r1 with
          | false =>
            have HB := Lib.hid (show ¬ MayZ (laterT [a0, a1, a2, a3, a4, a5] k) from fun q => absurd (h1.2 q) (by decide))
            clear h1
            clear DT
            obtain ⟨⟨x0, x1, x2, x3, x4, x5⟩, ⟨y0, y1, y2, y3, y4, y5⟩, xl⟩ := six_cells D2
            clear D2
            go_wp2_with fail
            exact bodyPost_ret (v := .tuple #[.agg #[.int .i64 0, .int .i64 0, .int .i64 0, .int .i64 0, .int .i64 0, .int .i64 0], .int .i64 8]) (by simp [results, Tryd.results18, go_sem, x0, x1, x2, x3, x4, x5, xl]) rfl ⟨put_six DB hR _ _ _ _ _ _, 0, 0, 0, 0, 0, 0, 8, rfl, .inr (.inr (.inl ⟨HA.out, HK.out, HB.out, rfl, rfl⟩))⟩
          | true =>
            have HB := Lib.hid (show MayZ (laterT [a0, a1, a2, a3, a4, a5] k) from h1.1 rfl)
            clear h1
            obtain ⟨⟨kDT_0, kDT_1, kDT_2, kDT_3, kDT_4, kDT_5⟩, -⟩ := six_cells DT
            have kDT_l := lies.lt DT
            clear DT
            obtain ⟨⟨x0, x1, x2, x3, x4, x5⟩, ⟨y0, y1, y2, y3, y4, y5⟩, xl⟩ := six_cells D2
            clear D2
            go_wp2_with fail
            exact bodyPost_ret (v := .tuple #[.agg #[.int .i64 (shB a0 k), .int .i64 (shB a1 (-k)), .int .i64 (shB a2 k), .int .i64 (shB a3 (-k)), .int .i64 (a4), .int .i64 (a5)], .int .i64 0]) (by simp [results, Tryd.results18, go_sem, x0, x1, x2, x3, x4, x5, xl]) rfl ⟨put_six DB hR _ _ _ _ _ _, _, _, _, _, _, _, 0, rfl, .inr (.inr (.inr ⟨HA.out, HK.out, HB.out, rfl, rfl⟩))⟩
      · go_simp
        have HSZ := DB.size
        have HS0 := lies.lt D0
        have HS2 := lies.lt D2
        have hA := bound.up1 wD (.cells #[.int .i64 0, .int .i64 0, .int .i64 0, .int .i64 0, .int .i64 0, .int .i64 0] 24)
        have DT := lies.made wD 24 #[.int .i64 0, .int .i64 0, .int .i64 0, .int .i64 0, .int .i64 0, .int .i64 0]
        replace D0 := lies.on_call D0 hA
        replace D2 := lies.on_call D2 hA
        replace DB := later DB hA
        clear hA
        refine hK.out _ _ D0 (fun hNew => ?_)
        clear hHeld hK K
        have hHeld := hNew
        clear hNew
        try simp only [Act.put, List.getElem_toArray, List.getElem_cons_zero, List.getElem_cons_succ, List.setIfInBounds_toArray, List.set_cons_zero, List.set_cons_succ]
        have hXw : w.heap.size ≤ (World.heap wD).size := HSZ
        have hk0 : w.heap.size ≠ (World.heap wD).size := Nat.ne_of_lt HS0
        have hk2 : w.heap.size + 1 ≠ (World.heap wD).size := Nat.ne_of_lt HS2
        clear HSZ HS0 HS2
        generalize (World.heap wD).size = XDT at DT hXw hk0 hk2 ⊢
        generalize World.alloc wD (.cells #[.int .i64 0, .int .i64 0, .int .i64 0, .int .i64 0, .int .i64 0, .int .i64 0] 24) = u2 at D0 D2 DT DB hHeld ⊢
        refine wpAnyH_ready (rs := [3]) (by kernel_rfl) (by simp) (AllReadyH.cons rfl (fun K hK => ?_) AllReadyH.nil)
        go_simp
        refine (moved_any a0 k u2 (HF.out 0 (by decide)) HK.out).mono ?_
        rintro e wN ⟨rfl, hw⟩
        subst hw
        refine hK.out _ _ D0 (fun hNew => ?_)
        clear hHeld hK K
        have hHeld := hNew
        clear hNew
        try simp only [Act.put, List.getElem_toArray, List.getElem_cons_zero, List.getElem_cons_succ, List.setIfInBounds_toArray, List.set_cons_zero, List.set_cons_succ]
        refine wpAnyH_ready (rs := [8]) (by kernel_rfl) (by simp) (AllReadyH.cons rfl (fun K hK => ?_) AllReadyH.nil)
        go_simp
        refine (moved_any a1 (-k) u2 (HF.out 1 (by decide)) (in_neg HK.out)).mono ?_
        rintro e wN ⟨rfl, hw⟩
        subst hw
        refine hK.out _ _ D0 (fun hNew => ?_)
        clear hHeld hK K
        have hHeld := hNew
        clear hNew
        try simp only [Act.put, List.getElem_toArray, List.getElem_cons_zero, List.getElem_cons_succ, List.setIfInBounds_toArray, List.set_cons_zero, List.set_cons_succ]
        refine wpAnyH_ready (rs := [12]) (by kernel_rfl) (by simp) (AllReadyH.cons rfl (fun K hK => ?_) AllReadyH.nil)
        go_simp
        refine (moved_any a2 k u2 (HF.out 2 (by decide)) HK.out).mono ?_
        rintro e wN ⟨rfl, hw⟩
        subst hw
        refine hK.out _ _ D0 (fun hNew => ?_)
        clear hHeld hK K
        have hHeld := hNew
        clear hNew
        try simp only [Act.put, List.getElem_toArray, List.getElem_cons_zero, List.getElem_cons_succ, List.setIfInBounds_toArray, List.set_cons_zero, List.set_cons_succ]
        refine wpAnyH_ready (rs := [17]) (by kernel_rfl) (by simp) (AllReadyH.cons rfl (fun K hK => ?_) AllReadyH.nil)
        go_simp
        refine (moved_any a3 (-k) u2 (HF.out 3 (by decide)) (in_neg HK.out)).mono ?_
        rintro e wN ⟨rfl, hw⟩
        subst hw
        refine hK.out _ _ D0 (fun hNew => ?_)
        clear hHeld hK K
        have hHeld := hNew
        clear hNew
        try simp only [Act.put, List.getElem_toArray, List.getElem_cons_zero, List.getElem_cons_succ, List.setIfInBounds_toArray, List.set_cons_zero, List.set_cons_succ]
        refine wpAnyH_take (i := 22) (v := ?_) rfl (by kernel_rfl) (by kernel_rfl) (by kernel_rfl) (fun _ _ _ h => h) (Or.inl ⟨by rfl, ?_⟩) hHeld ?_
        rotate_left
        · intro w hSw; skip; go_simp; try with_reducible rfl
        try simp only [Act.put, List.getElem_toArray, List.getElem_cons_zero, List.getElem_cons_succ, List.setIfInBounds_toArray, List.set_cons_zero, List.set_cons_succ]
        obtain ⟨⟨x0, x1, x2, x3, x4, x5⟩, ⟨y0, y1, y2, y3, y4, y5⟩, xl⟩ := six_cells DT
        refine wpAnyH_ready (rs := [24]) (by kernel_rfl) (by simp) (AllReadyH.cons rfl (fun K hK => ?_) AllReadyH.nil)
        go_simp
        replace D0 := far_six D0 hk0 (.int .i64 (shB a0 k)) (.int .i64 (shB a1 (-k))) (.int .i64 (shB a2 k)) (.int .i64 (shB a3 (-k))) (.int .i64 (a4)) (.int .i64 (a5))
        replace D2 := far_six D2 hk2 (.int .i64 (shB a0 k)) (.int .i64 (shB a1 (-k))) (.int .i64 (shB a2 k)) (.int .i64 (shB a3 (-k))) (.int .i64 (a4)) (.int .i64 (a5))
        replace DB := put_six DB hXw (.int .i64 (shB a0 k)) (.int .i64 (shB a1 (-k))) (.int .i64 (shB a2 k)) (.int .i64 (shB a3 (-k))) (.int .i64 (a4)) (.int .i64 (a5))
        replace DT := put_sixL DT (.int .i64 (shB a0 k)) (.int .i64 (shB a1 (-k))) (.int .i64 (shB a2 k)) (.int .i64 (shB a3 (-k))) (.int .i64 (a4)) (.int .i64 (a5))
        refine hK.out _ _ D0 (fun hNew => ?_)
        clear x0 x1 x2 x3 x4 x5 y0 y1 y2 y3 y4 y5 xl
        clear hHeld hK K
        have hHeld := hNew
        clear hNew
        try simp only [Act.put, List.getElem_toArray, List.getElem_cons_zero, List.getElem_cons_succ, List.setIfInBounds_toArray, List.set_cons_zero, List.set_cons_succ]
        generalize World.setCell (World.setCell (World.setCell (World.setCell (World.setCell (World.setCell (u2) ⟨XDT, 0, none⟩ (.int .i64 (shB a0 k))) ⟨XDT, 1, none⟩ (.int .i64 (shB a1 (-k)))) ⟨XDT, 2, none⟩ (.int .i64 (shB a2 k))) ⟨XDT, 3, none⟩ (.int .i64 (shB a3 (-k)))) ⟨XDT, 4, none⟩ (.int .i64 (a4))) ⟨XDT, 5, none⟩ (.int .i64 (a5)) = wO at D0 D2 DT DB hHeld ⊢
        refine wpAnyH_done (by kernel_rfl) ?_ _
        clear hHeld D0
        have HTL : RowKit.Hid (Tops [shB a0 k, shB a1 (-k), shB a2 k, shB a3 (-k), a4, a5]) := Lib.hid (later_tops (z := [a0, a1, a2, a3, a4, a5]) HA.out.may HK.out)
        have HLL : RowKit.Hid (Low [shB a0 k, shB a1 (-k), shB a2 k, shB a3 (-k), a4, a5]) := Lib.hid (later_low (z := [a0, a1, a2, a3, a4, a5]) HA.out.may HK.out)
        obtain ⟨⟨kDT_0, kDT_1, kDT_2, kDT_3, kDT_4, kDT_5⟩, -⟩ := six_cells DT
        have kDT_l := lies.lt DT
        go_wp2_with fail
        clear kDT_0 kDT_1 kDT_2 kDT_3 kDT_4 kDT_5 kDT_l
        refine (rmay_any _ _ _ _ _ _ wO HLL.out HTL.out).mono ?_
        rintro e w3 ⟨hB, r1, rfl, h1⟩
        replace D2 := lies.on_call D2 hB
        replace DT := lies.on_call DT hB
        replace DB := later DB hB
        clear hB
        cases r1 with
        | false =>
          have HB := Lib.hid (show ¬ MayZ (laterT [a0, a1, a2, a3, a4, a5] k) from fun q => absurd (h1.2 q) (by decide))
          clear h1
          clear DT
          obtain ⟨⟨x0, x1, x2, x3, x4, x5⟩, ⟨y0, y1, y2, y3, y4, y5⟩, xl⟩ := six_cells D2
          clear D2
          go_wp2_with fail
          exact bodyPost_ret (v := .tuple #[.agg #[.int .i64 0, .int .i64 0, .int .i64 0, .int .i64 0, .int .i64 0, .int .i64 0], .int .i64 8]) (by simp [results, Tryd.results18, go_sem, x0, x1, x2, x3, x4, x5, xl]) rfl ⟨put_six DB hR _ _ _ _ _ _, 0, 0, 0, 0, 0, 0, 8, rfl, .inr (.inr (.inl ⟨HA.out, HK.out, HB.out, rfl, rfl⟩))⟩
        | true =>
          have HB := Lib.hid (show MayZ (laterT [a0, a1, a2, a3, a4, a5] k) from h1.1 rfl)
          clear h1
          obtain ⟨⟨kDT_0, kDT_1, kDT_2, kDT_3, kDT_4, kDT_5⟩, -⟩ := six_cells DT
          have kDT_l := lies.lt DT
          clear DT
          obtain ⟨⟨x0, x1, x2, x3, x4, x5⟩, ⟨y0, y1, y2, y3, y4, y5⟩, xl⟩ := six_cells D2
          clear D2
          go_wp2_with fail
          exact bodyPost_ret (v := .tuple #[.agg #[.int .i64 (shB a0 k), .int .i64 (shB a1 (-k)), .int .i64 (shB a2 k), .int .i64 (shB a3 (-k)), .int .i64 (a4), .int .i64 (a5)], .int .i64 0]) (by simp [results, Tryd.results18, go_sem, x0, x1, x2, x3, x4, x5, xl]) rfl ⟨put_six DB hR _ _ _ _ _ _, _, _, _, _, _, _, 0, rfl, .inr (.inr (.inr ⟨HA.out, HK.out, HB.out, rfl, rfl⟩))⟩
    · have HN := Lib.hid hk
      rw [decide_eq_false hk]
      clear hk
      clear D0
      obtain ⟨⟨x0, x1, x2, x3, x4, x5⟩, ⟨y0, y1, y2, y3, y4, y5⟩, xl⟩ := six_cells D2
      clear D2
      go_wp2_with fail
      exact bodyPost_ret (v := .tuple #[.agg #[.int .i64 0, .int .i64 0, .int .i64 0, .int .i64 0, .int .i64 0, .int .i64 0], .int .i64 2]) (by simp [results, Tryd.results18, go_sem, x0, x1, x2, x3, x4, x5, xl]) rfl ⟨put_six DB hR _ _ _ _ _ _, 0, 0, 0, 0, 0, 0, 2, rfl, .inr (.inl ⟨HA.out, HN.out, rfl, rfl⟩)⟩
end Go.Proofs.YtcaoooddmmhieaaDoor.wref
