/-
  What the document says of one zone: the other way round, and its firsts; each theorem names its conditions.
-/
import Derived.Test.YtngjkebmilpemaaDoorCompT
namespace Go.Proofs.YtngjkebmilpemaaDoor.cref
open Go.Joins Go.ChangeShapes Go.WideShapes Go.ChangeAt Go.RowKit num rat dbm Go.Proofs.YtngjkebmilpemaaDoor.tight Go.Proofs.YtngjkebmilpemaaDoor.incl Go.Proofs.YtngjkebmilpemaaDoor.plaw Go.Proofs.YtngjkebmilpemaaDoor.zopen Go.Proofs.YtngjkebmilpemaaDoor.zone Go.Proofs.YtngjkebmilpemaaDoor.zref Go.Proofs.YtngjkebmilpemaaDoor.comp dref
open bound hiding up
set_option linter.unusedVariables false
set_option linter.unusedSimpArgs false

set_option maxRecDepth 100000 in
set_option maxHeartbeats 8000000 in
theorem rback_any (a0 a1 a2 a3 a4 a5 : Int) (w : World) (la : Low [a0, a1, a2, a3, a4, a5]) (ta : Tops [a0, a1, a2, a3, a4, a5]) : Calls Tryd.prog 18 #[.agg #[.int .i64 a0, .int .i64 a1, .int .i64 a2, .int .i64 a3, .int .i64 a4, .int .i64 a5]] w (Backs [a0, a1, a2, a3, a4, a5] w) := by
  have X : ∃ w0, w0 = (w.alloc (.cells #[.int .i64 a0, .int .i64 a1, .int .i64 a2, .int .i64 a3, .int .i64 a4, .int .i64 a5] 24)).alloc (.cells #[.int .i64 0, .int .i64 0, .int .i64 0, .int .i64 0, .int .i64 0, .int .i64 0] 24) := ⟨_, rfl⟩
  obtain ⟨w0, hX⟩ := X
  have DB : Below w.heap.size w w0 := by rw [hX]; exact bound.up2 _ _ _
  have D0 : lies.Lies w0 w.heap.size 24 #[.int .i64 a0, .int .i64 a1, .int .i64 a2, .int .i64 a3, .int .i64 a4, .int .i64 a5] := by rw [hX]; exact lies.on_alloc (lies.made _ _ _) _
  have D1 : lies.Lies w0 (w.heap.size + 1) 24 #[.int .i64 0, .int .i64 0, .int .i64 0, .int .i64 0, .int .i64 0, .int .i64 0] := by rw [hX]; exact lies.made_at _ _ _ _ (by simp)
  have HTA := Lib.hid ta
  have HLA := Lib.hid la
  have hR : w.heap.size ≤ w.heap.size + 1 := by omega
  clear ta la
  go_enter Tryd.func18, Tryd.ntmps18
  obtain ⟨⟨kD0_0, kD0_1, kD0_2, kD0_3, kD0_4, kD0_5⟩, -⟩ := six_cells D0
  have kD0_l := lies.lt D0
  go_wp2_with fail
  clear kD0_0 kD0_1 kD0_2 kD0_3 kD0_4 kD0_5 kD0_l
  rw [← hX]
  clear hX
  refine (rmay_any a0 a1 a2 a3 a4 a5 w0 HLA.out HTA.out).mono ?_
  rintro e w1 ⟨hB, r1, rfl, h1⟩
  replace D0 := lies.on_call D0 hB
  replace D1 := lies.on_call D1 hB
  replace DB := later DB hB
  clear hB
  cases r1 with
  | false =>
    have HA := Lib.hid (show ¬ MayZ [a0, a1, a2, a3, a4, a5] from fun q => absurd (h1.2 q) (by decide))
    clear h1 D0
    obtain ⟨⟨x0, x1, x2, x3, x4, x5⟩, ⟨y0, y1, y2, y3, y4, y5⟩, xl⟩ := six_cells D1
    clear D1
    go_wp2_with fail
    exact bodyPost_ret (v := .tuple #[.agg #[.int .i64 0, .int .i64 0, .int .i64 0, .int .i64 0, .int .i64 0, .int .i64 0], .int .i64 8]) (by simp [results, Tryd.results18, go_sem, x0, x1, x2, x3, x4, x5, xl]) rfl ⟨put_six DB hR _ _ _ _ _ _, 0, 0, 0, 0, 0, 0, 8, rfl, .inl ⟨HA.out, rfl, rfl⟩⟩
  | true =>
    have HA := Lib.hid (h1.1 rfl)
    clear h1
    obtain ⟨⟨kD0_0, kD0_1, kD0_2, kD0_3, kD0_4, kD0_5⟩, -⟩ := six_cells D0
    have kD0_l := lies.lt D0
    obtain ⟨⟨x0, x1, x2, x3, x4, x5⟩, ⟨y0, y1, y2, y3, y4, y5⟩, xl⟩ := six_cells D1
    clear D1
    go_wp2_with fail
    exact bodyPost_ret (v := .tuple #[.agg #[.int .i64 a2, .int .i64 a3, .int .i64 a0, .int .i64 a1, .int .i64 a5, .int .i64 a4], .int .i64 0]) (by simp [results, Tryd.results18, go_sem, x0, x1, x2, x3, x4, x5, xl]) rfl ⟨put_six DB hR _ _ _ _ _ _, a2, a3, a0, a1, a5, a4, 0, rfl, .inr ⟨HA.out, rfl, rfl⟩⟩
theorem put_fiveL {W : World} {g : Nat} {t : TypeId} {z0 z1 z2 z3 z4 : Value} (h : lies.Lies W g t #[z0, z1, z2, z3, z4]) (a b c d e : Value) : lies.Lies (((((W.setCell ⟨g, 0, none⟩ a).setCell ⟨g, 1, none⟩ b).setCell ⟨g, 2, none⟩ c).setCell ⟨g, 3, none⟩ d).setCell ⟨g, 4, none⟩ e) g t #[a, b, c, d, e] :=
  lies.on_put (lies.on_put (lies.on_put (lies.on_put (lies.on_put h 0 a) 1 b) 2 c) 3 d) 4 e
set_option maxRecDepth 100000 in
set_option maxHeartbeats 8000000 in
theorem rfirsts_any (a0 a1 a2 a3 a4 a5 : Int) (w : World) (la : Low [a0, a1, a2, a3, a4, a5]) (ta : Tops [a0, a1, a2, a3, a4, a5]) : Calls Tryd.prog 19 #[.agg #[.int .i64 a0, .int .i64 a1, .int .i64 a2, .int .i64 a3, .int .i64 a4, .int .i64 a5]] w (Firs [a0, a1, a2, a3, a4, a5] w) := by
  have X : ∃ w0, w0 = (w.alloc (.cells #[.int .i64 a0, .int .i64 a1, .int .i64 a2, .int .i64 a3, .int .i64 a4, .int .i64 a5] 24)).alloc (.cells #[.int .i64 0, .bool false, .int .i64 0, .bool false, .bool false] 27) := ⟨_, rfl⟩
  obtain ⟨w0, hX⟩ := X
  have DB : Below w.heap.size w w0 := by rw [hX]; exact bound.up2 _ _ _
  have D0 : lies.Lies w0 w.heap.size 24 #[.int .i64 a0, .int .i64 a1, .int .i64 a2, .int .i64 a3, .int .i64 a4, .int .i64 a5] := by rw [hX]; exact lies.on_alloc (lies.made _ _ _) _
  have D1 : lies.Lies w0 (w.heap.size + 1) 27 #[.int .i64 0, .bool false, .int .i64 0, .bool false, .bool false] := by rw [hX]; exact lies.made_at _ _ _ _ (by simp)
  have HTA := Lib.hid ta
  have HLA := Lib.hid la
  have hR : w.heap.size ≤ w.heap.size + 1 := by omega
  clear ta la
  go_enter Tryd.func19, Tryd.ntmps19
  obtain ⟨⟨kD0_0, kD0_1, kD0_2, kD0_3, kD0_4, kD0_5⟩, -⟩ := six_cells D0
  have kD0_l := lies.lt D0
  go_wp2_with fail
  clear kD0_0 kD0_1 kD0_2 kD0_3 kD0_4 kD0_5 kD0_l
  rw [← hX]
  clear hX
  refine (rmay_any a0 a1 a2 a3 a4 a5 w0 HLA.out HTA.out).mono ?_
  rintro e w1 ⟨hB, r1, rfl, h1⟩
  replace D0 := lies.on_call D0 hB
  replace D1 := lies.on_call D1 hB
  replace DB := later DB hB
  clear hB
  cases r1 with
  | false =>
    have HA := Lib.hid (show ¬ MayZ [a0, a1, a2, a3, a4, a5] from fun q => absurd (h1.2 q) (by decide))
    clear h1 D0
    obtain ⟨⟨x0, x1, x2, x3, x4⟩, ⟨y0, y1, y2, y3, y4⟩, xl⟩ := five_cells D1
    clear D1
    go_wp2_with fail
    exact bodyPost_ret (v := .tuple #[.agg #[.int .i64 0, .bool false, .int .i64 0, .bool false, .bool false], .int .i64 8]) (by simp [results, Tryd.results19, go_sem, x0, x1, x2, x3, x4, xl]) rfl ⟨put_five DB hR _ _ _ _ _, 0, false, 0, false, false, 8, rfl, .inl ⟨HA.out, rfl, rfl⟩⟩
  | true =>
    have HA := Lib.hid (h1.1 rfl)
    clear h1
    have fa := six_fine HA.out.may
    have r0 : -9223372036854775808 ≤ a0 ∧ a0 ≤ 9223372036854775807 := by rcases fa 0 (by decide) with h | h <;> (simp at h; omega)
    have r1 : -9223372036854775808 ≤ a1 ∧ a1 ≤ 9223372036854775807 := by rcases fa 1 (by decide) with h | h <;> (simp at h; omega)
    clear fa
    by_cases c1 : a1 = 9223372036854775807
    · have HC1 := Lib.hid c1
      subst c1
      obtain ⟨⟨kD0_0, kD0_1, kD0_2, kD0_3, kD0_4, kD0_5⟩, -⟩ := six_cells D0
      have kD0_l := lies.lt D0
      obtain ⟨⟨x0, x1, x2, x3, x4⟩, ⟨y0, y1, y2, y3, y4⟩, xl⟩ := five_cells D1
      clear D1
      go_wp2_with fail
      exact bodyPost_ret (v := .tuple #[.agg #[.int .i64 0, .bool false, .int .i64 0, .bool false, .bool false], .int .i64 6]) (by simp [results, Tryd.results19, go_sem, x0, x1, x2, x3, x4, xl]) rfl ⟨put_five DB hR _ _ _ _ _, 0, false, 0, false, false, 6, rfl, .inr (.inl ⟨HA.out, rfl, rfl, rfl⟩)⟩
    · have HC1 := Lib.hid c1
      have hbn : (a1 == 9223372036854775807) = false := by simpa using c1
      have HS := Lib.hid (show IntKind.i64.wrap (0 - a1 / 2) = -(a1 / 2) ∧ IntKind.i64.wrap (-(a1 / 2)) = -(a1 / 2) from by rw [IntWalk.i64_in _ (by omega), IntWalk.i64_in _ (by omega)]; omega)
      clear c1
      obtain ⟨⟨kD0_0, kD0_1, kD0_2, kD0_3, kD0_4, kD0_5⟩, -⟩ := six_cells D0
      have kD0_l := lies.lt D0
      go_wp2_with fail
      clear kD0_0 kD0_1 kD0_2 kD0_3 kD0_4 kD0_5 kD0_l hbn
      refine wp_region_held_drew (S := Below w1.heap.size w1) (by kernel_rfl) (dbm.drawn1 (Below.refl _ _)) (fun hHeld => ?_)
      generalize w1.drew = wD at hHeld ⊢
      skip
      refine wpAnyH_take (i := 0) (v := ?_) rfl (by kernel_rfl) (by kernel_rfl) (by kernel_rfl) (fun _ _ _ h => h) (Or.inl ⟨by rfl, ?_⟩) hHeld ?_
      rotate_left
      · intro w hSw; obtain ⟨⟨e0, e1, e2, e3, e4, e5⟩, -⟩ := six_cells (lies.on_call D0 hSw); go_simp; try with_reducible rfl
      try simp only [Act.put, List.getElem_toArray, List.getElem_cons_zero, List.getElem_cons_succ, List.setIfInBounds_toArray, List.set_cons_zero, List.set_cons_succ]
      refine wpAnyH_take (i := 1) (v := ?_) rfl (by kernel_rfl) (by kernel_rfl) (by kernel_rfl) (fun _ _ _ h => h) (Or.inl ⟨by rfl, ?_⟩) hHeld ?_
      rotate_left
      · intro w hSw; obtain ⟨⟨e0, e1, e2, e3, e4, e5⟩, -⟩ := six_cells (lies.on_call D0 hSw); go_simp; try with_reducible rfl
      try simp only [Act.put, List.getElem_toArray, List.getElem_cons_zero, List.getElem_cons_succ, List.setIfInBounds_toArray, List.set_cons_zero, List.set_cons_succ]
      refine wpAnyH_take (i := 4) (v := ?_) rfl (by kernel_rfl) (by kernel_rfl) (by kernel_rfl) (fun _ _ _ h => h) (Or.inl ⟨by rfl, ?_⟩) hHeld ?_
      rotate_left
      · intro w hSw; obtain ⟨⟨e0, e1, e2, e3, e4, e5⟩, -⟩ := six_cells (lies.on_call D0 hSw); go_simp; try with_reducible rfl
      try simp only [Act.put, List.getElem_toArray, List.getElem_cons_zero, List.getElem_cons_succ, List.setIfInBounds_toArray, List.set_cons_zero, List.set_cons_succ]
      refine wpAnyH_take (i := 5) (v := ?_) rfl (by kernel_rfl) (by kernel_rfl) (by kernel_rfl) (fun _ _ _ h => h) (Or.inl ⟨by rfl, ?_⟩) hHeld ?_
      rotate_left
      · intro w hSw; obtain ⟨⟨e0, e1, e2, e3, e4, e5⟩, -⟩ := six_cells (lies.on_call D0 hSw); go_simp; try with_reducible rfl
      try simp only [Act.put, List.getElem_toArray, List.getElem_cons_zero, List.getElem_cons_succ, List.setIfInBounds_toArray, List.set_cons_zero, List.set_cons_succ]
      have hWS := DB.size
      have hlt := lies.lt D1
      refine wpAnyH_ready (rs := [2, 8]) (by kernel_rfl) (by simp) (AllReadyH.cons rfl (fun K hK => ?_) (AllReadyH.cons rfl (fun K hK => ?_) AllReadyH.nil))
      · go_simp
        refine (number_any a1 _ r1.1 r1.2).mono ?_
        rintro e u1 ⟨rfl, hw⟩
        subst hw
        have hB := Below.refl wD.heap.size wD
        refine hK.out _ _ (hHeld.trans (hB.mono hHeld.size)) (fun hNew => ?_)
        clear hB
        clear hHeld hK K
        have hHeld := hNew
        clear hNew
        try simp only [Act.put, List.getElem_toArray, List.getElem_cons_zero, List.getElem_cons_succ, List.setIfInBounds_toArray, List.set_cons_zero, List.set_cons_succ]
        refine wpAnyH_take (i := 3) (v := ?_) rfl (by kernel_rfl) (by kernel_rfl) (by kernel_rfl) (fun _ _ _ h => h) (Or.inl ⟨by rfl, ?_⟩) hHeld ?_
        rotate_left
        · intro w hSw; have s1 := HS.out.1; have s2 := HS.out.2; go_simp; try with_reducible rfl
        try simp only [Act.put, List.getElem_toArray, List.getElem_cons_zero, List.getElem_cons_succ, List.setIfInBounds_toArray, List.set_cons_zero, List.set_cons_succ]
        refine wpAnyH_ready (rs := [6, 8]) (by kernel_rfl) (by simp) (AllReadyH.cons rfl (fun K hK => ?_) (AllReadyH.cons rfl (fun K hK => ?_) AllReadyH.nil))
        · go_simp
          refine (strict_any a1 _).mono ?_
          rintro e u2 ⟨rfl, hw⟩
          subst hw
          have hB := Below.refl wD.heap.size wD
          refine hK.out _ _ (hHeld.trans (hB.mono hHeld.size)) (fun hNew => ?_)
          clear hB
          clear hHeld hK K
          have hHeld := hNew
          clear hNew
          try simp only [Act.put, List.getElem_toArray, List.getElem_cons_zero, List.getElem_cons_succ, List.setIfInBounds_toArray, List.set_cons_zero, List.set_cons_succ]
          refine wpAnyH_take (i := 7) (v := ?_) rfl (by kernel_rfl) (by kernel_rfl) (by kernel_rfl) (fun _ _ _ h => h) (Or.inl ⟨by rfl, ?_⟩) hHeld ?_
          rotate_left
          · intro w hSw; skip; go_simp; try with_reducible rfl
          try simp only [Act.put, List.getElem_toArray, List.getElem_cons_zero, List.getElem_cons_succ, List.setIfInBounds_toArray, List.set_cons_zero, List.set_cons_succ]
          skip
          refine wpAnyH_ready (rs := [8]) (by kernel_rfl) (by simp) (AllReadyH.cons rfl (fun K hK => ?_) AllReadyH.nil)
          go_simp
          have hT := hHeld.size
          have L := lies.made wD 27 #[.int .i64 0, .bool false, .int .i64 0, .bool false, .bool false]
          have hAl := hHeld.trans ((bound.up1 wD (.cells #[.int .i64 0, .bool false, .int .i64 0, .bool false, .bool false] 27)).mono hHeld.size)
          refine hK.out _ _ hAl (fun hNew => ?_)
          clear hAl
          clear hHeld hK K
          have hHeld := hNew
          clear hNew
          try simp only [Act.put, List.getElem_toArray, List.getElem_cons_zero, List.getElem_cons_succ, List.setIfInBounds_toArray, List.set_cons_zero, List.set_cons_succ]
          generalize (World.heap wD).size = T at hT L ⊢
          generalize World.alloc wD (.cells #[.int .i64 0, .bool false, .int .i64 0, .bool false, .bool false] 27) = wA at L hHeld ⊢
          obtain ⟨⟨l0, l1, l2, l3, l4⟩, ⟨m0, m1, m2, m3, m4⟩, ll⟩ := five_cells L
          refine wpAnyH_ready (rs := [9]) (by kernel_rfl) (by simp) (AllReadyH.cons rfl (fun K hK => ?_) AllReadyH.nil)
          go_simp
          replace hHeld := put_five hHeld hT (.int .i64 (-(a1 / 2))) (.bool (bS a1)) (.int .i64 0) (.bool false) (.bool false)
          replace L := put_fiveL L (.int .i64 (-(a1 / 2))) (.bool (bS a1)) (.int .i64 0) (.bool false) (.bool false)
          refine hK.out _ _ hHeld (fun hNew => ?_)
          clear hHeld hK K
          have hHeld := hNew
          clear hNew
          try simp only [Act.put, List.getElem_toArray, List.getElem_cons_zero, List.getElem_cons_succ, List.setIfInBounds_toArray, List.set_cons_zero, List.set_cons_succ]
          generalize World.setCell (World.setCell (World.setCell (World.setCell (World.setCell (wA) ⟨T, 0, none⟩ (.int .i64 (-(a1 / 2)))) ⟨T, 1, none⟩ (.bool (bS a1))) ⟨T, 2, none⟩ (.int .i64 0)) ⟨T, 3, none⟩ (.bool false)) ⟨T, 4, none⟩ (.bool false) = wB at L hHeld ⊢
          refine wpAnyH_done (by kernel_rfl) ?_ _
          replace D0 := lies.on_call D0 hHeld
          replace D1 := lies.on_call D1 hHeld
          replace DB := later DB hHeld
          have hTR : w.heap.size ≤ T := Nat.le_trans hWS hT
          have hTn : w.heap.size + 1 < T := Nat.lt_of_lt_of_le hlt hT
          have hne1 : T ≠ w.heap.size + 1 := by omega
          have hne2 : w.heap.size + 1 ≠ T := by omega
          have hne3 : T ≠ w.heap.size := by omega
          have hne4 : w.heap.size ≠ T := by omega
          clear hHeld hT
          by_cases c0 : a0 = 9223372036854775807
          · have HC0 := Lib.hid c0
            subst c0
            obtain ⟨⟨kD0_0, kD0_1, kD0_2, kD0_3, kD0_4, kD0_5⟩, -⟩ := six_cells D0
            have kD0_l := lies.lt D0
            obtain ⟨⟨l0, l1, l2, l3, l4⟩, ⟨m0, m1, m2, m3, m4⟩, ll⟩ := five_cells L
            skip
            obtain ⟨⟨x0, x1, x2, x3, x4⟩, ⟨y0, y1, y2, y3, y4⟩, xl⟩ := five_cells D1
            clear D1
            go_wp2_with fail
            exact bodyPost_ret (v := .tuple #[.agg #[.int .i64 (-(a1 / 2)), .bool (bS a1), .int .i64 0, .bool false, .bool true], .int .i64 0]) (by simp [results, Tryd.results19, go_sem, x0, x1, x2, x3, x4, xl]) rfl ⟨put_five (DB.setCell (p := ⟨T, 4, none⟩) hTR _) hR _ _ _ _ _, -(a1 / 2), bS a1, 0, false, true, 0, rfl, .inr (.inr (.inl ⟨HA.out, HC1.out, rfl, rfl, rfl⟩))⟩
          · have HC0 := Lib.hid c0
            have hbn0 : (a0 == 9223372036854775807) = false := by simpa using c0
            clear c0
            obtain ⟨⟨kD0_0, kD0_1, kD0_2, kD0_3, kD0_4, kD0_5⟩, -⟩ := six_cells D0
            have kD0_l := lies.lt D0
            go_wp2_with fail
            refine (number_any a0 _ r0.1 r0.2).mono ?_
            rintro e wN ⟨rfl, hw⟩
            subst hw
            obtain ⟨⟨l0, l1, l2, l3, l4⟩, ⟨m0, m1, m2, m3, m4⟩, ll⟩ := five_cells L
            go_wp2_with fail
            refine (strict_any a0 _).mono ?_
            rintro e wN ⟨rfl, hw⟩
            subst hw
            obtain ⟨⟨x0, x1, x2, x3, x4⟩, ⟨y0, y1, y2, y3, y4⟩, xl⟩ := five_cells D1
            clear D1
            go_wp2_with fail
            exact bodyPost_ret (v := .tuple #[.agg #[.int .i64 (-(a1 / 2)), .bool (bS a1), .int .i64 (a0 / 2), .bool (bS a0), .bool false], .int .i64 0]) (by simp [results, Tryd.results19, go_sem, x0, x1, x2, x3, x4, xl]) rfl ⟨put_five ((DB.setCell (p := ⟨T, 2, none⟩) hTR _).setCell (p := ⟨T, 3, none⟩) hTR _) hR _ _ _ _ _, -(a1 / 2), bS a1, a0 / 2, bS a0, false, 0, rfl, .inr (.inr (.inr ⟨HA.out, HC1.out, HC0.out, rfl, rfl⟩))⟩
        · go_simp
          have hT := hHeld.size
          have L := lies.made wD 27 #[.int .i64 0, .bool false, .int .i64 0, .bool false, .bool false]
          have hAl := hHeld.trans ((bound.up1 wD (.cells #[.int .i64 0, .bool false, .int .i64 0, .bool false, .bool false] 27)).mono hHeld.size)
          refine hK.out _ _ hAl (fun hNew => ?_)
          clear hAl
          clear hHeld hK K
          have hHeld := hNew
          clear hNew
          try simp only [Act.put, List.getElem_toArray, List.getElem_cons_zero, List.getElem_cons_succ, List.setIfInBounds_toArray, List.set_cons_zero, List.set_cons_succ]
          generalize (World.heap wD).size = T at hT L ⊢
          generalize World.alloc wD (.cells #[.int .i64 0, .bool false, .int .i64 0, .bool false, .bool false] 27) = wA at L hHeld ⊢
          refine wpAnyH_ready (rs := [6]) (by kernel_rfl) (by simp) (AllReadyH.cons rfl (fun K hK => ?_) AllReadyH.nil)
          go_simp
          refine (strict_any a1 _).mono ?_
          rintro e u2 ⟨rfl, hw⟩
          subst hw
          have hB := Below.refl wA.heap.size wA
          replace L := lies.on_call L hB
          refine hK.out _ _ (hHeld.trans (hB.mono hHeld.size)) (fun hNew => ?_)
          clear hB
          clear hHeld hK K
          have hHeld := hNew
          clear hNew
          try simp only [Act.put, List.getElem_toArray, List.getElem_cons_zero, List.getElem_cons_succ, List.setIfInBounds_toArray, List.set_cons_zero, List.set_cons_succ]
          refine wpAnyH_take (i := 7) (v := ?_) rfl (by kernel_rfl) (by kernel_rfl) (by kernel_rfl) (fun _ _ _ h => h) (Or.inl ⟨by rfl, ?_⟩) hHeld ?_
          rotate_left
          · intro w hSw; skip; go_simp; try with_reducible rfl
          try simp only [Act.put, List.getElem_toArray, List.getElem_cons_zero, List.getElem_cons_succ, List.setIfInBounds_toArray, List.set_cons_zero, List.set_cons_succ]
          skip
          obtain ⟨⟨l0, l1, l2, l3, l4⟩, ⟨m0, m1, m2, m3, m4⟩, ll⟩ := five_cells L
          refine wpAnyH_ready (rs := [9]) (by kernel_rfl) (by simp) (AllReadyH.cons rfl (fun K hK => ?_) AllReadyH.nil)
          go_simp
          replace hHeld := put_five hHeld hT (.int .i64 (-(a1 / 2))) (.bool (bS a1)) (.int .i64 0) (.bool false) (.bool false)
          replace L := put_fiveL L (.int .i64 (-(a1 / 2))) (.bool (bS a1)) (.int .i64 0) (.bool false) (.bool false)
          refine hK.out _ _ hHeld (fun hNew => ?_)
          clear hHeld hK K
          have hHeld := hNew
          clear hNew
          try simp only [Act.put, List.getElem_toArray, List.getElem_cons_zero, List.getElem_cons_succ, List.setIfInBounds_toArray, List.set_cons_zero, List.set_cons_succ]
          generalize World.setCell (World.setCell (World.setCell (World.setCell (World.setCell (wD) ⟨T, 0, none⟩ (.int .i64 (-(a1 / 2)))) ⟨T, 1, none⟩ (.bool (bS a1))) ⟨T, 2, none⟩ (.int .i64 0)) ⟨T, 3, none⟩ (.bool false)) ⟨T, 4, none⟩ (.bool false) = wB at L hHeld ⊢
          refine wpAnyH_done (by kernel_rfl) ?_ _
          replace D0 := lies.on_call D0 hHeld
          replace D1 := lies.on_call D1 hHeld
          replace DB := later DB hHeld
          have hTR : w.heap.size ≤ T := Nat.le_trans hWS hT
          have hTn : w.heap.size + 1 < T := Nat.lt_of_lt_of_le hlt hT
          have hne1 : T ≠ w.heap.size + 1 := by omega
          have hne2 : w.heap.size + 1 ≠ T := by omega
          have hne3 : T ≠ w.heap.size := by omega
          have hne4 : w.heap.size ≠ T := by omega
          clear hHeld hT
          by_cases c0 : a0 = 9223372036854775807
          · have HC0 := Lib.hid c0
            subst c0
            obtain ⟨⟨kD0_0, kD0_1, kD0_2, kD0_3, kD0_4, kD0_5⟩, -⟩ := six_cells D0
            have kD0_l := lies.lt D0
            obtain ⟨⟨l0, l1, l2, l3, l4⟩, ⟨m0, m1, m2, m3, m4⟩, ll⟩ := five_cells L
            skip
            obtain ⟨⟨x0, x1, x2, x3, x4⟩, ⟨y0, y1, y2, y3, y4⟩, xl⟩ := five_cells D1
            clear D1
            go_wp2_with fail
            exact bodyPost_ret (v := .tuple #[.agg #[.int .i64 (-(a1 / 2)), .bool (bS a1), .int .i64 0, .bool false, .bool true], .int .i64 0]) (by simp [results, Tryd.results19, go_sem, x0, x1, x2, x3, x4, xl]) rfl ⟨put_five (DB.setCell (p := ⟨T, 4, none⟩) hTR _) hR _ _ _ _ _, -(a1 / 2), bS a1, 0, false, true, 0, rfl, .inr (.inr (.inl ⟨HA.out, HC1.out, rfl, rfl, rfl⟩))⟩
          · have HC0 := Lib.hid c0
            have hbn0 : (a0 == 9223372036854775807) = false := by simpa using c0
            clear c0
            obtain ⟨⟨kD0_0, kD0_1, kD0_2, kD0_3, kD0_4, kD0_5⟩, -⟩ := six_cells D0
            have kD0_l := lies.lt D0
            go_wp2_with fail
            refine (number_any a0 _ r0.1 r0.2).mono ?_
            rintro e wN ⟨rfl, hw⟩
            subst hw
            obtain ⟨⟨l0, l1, l2, l3, l4⟩, ⟨m0, m1, m2, m3, m4⟩, ll⟩ := five_cells L
            go_wp2_with fail
            refine (strict_any a0 _).mono ?_
            rintro e wN ⟨rfl, hw⟩
            subst hw
            obtain ⟨⟨x0, x1, x2, x3, x4⟩, ⟨y0, y1, y2, y3, y4⟩, xl⟩ := five_cells D1
            clear D1
            go_wp2_with fail
            exact bodyPost_ret (v := .tuple #[.agg #[.int .i64 (-(a1 / 2)), .bool (bS a1), .int .i64 (a0 / 2), .bool (bS a0), .bool false], .int .i64 0]) (by simp [results, Tryd.results19, go_sem, x0, x1, x2, x3, x4, xl]) rfl ⟨put_five ((DB.setCell (p := ⟨T, 2, none⟩) hTR _).setCell (p := ⟨T, 3, none⟩) hTR _) hR _ _ _ _ _, -(a1 / 2), bS a1, a0 / 2, bS a0, false, 0, rfl, .inr (.inr (.inr ⟨HA.out, HC1.out, HC0.out, rfl, rfl⟩))⟩
      · go_simp
        have hT := hHeld.size
        have L := lies.made wD 27 #[.int .i64 0, .bool false, .int .i64 0, .bool false, .bool false]
        have hAl := hHeld.trans ((bound.up1 wD (.cells #[.int .i64 0, .bool false, .int .i64 0, .bool false, .bool false] 27)).mono hHeld.size)
        refine hK.out _ _ hAl (fun hNew => ?_)
        clear hAl
        clear hHeld hK K
        have hHeld := hNew
        clear hNew
        try simp only [Act.put, List.getElem_toArray, List.getElem_cons_zero, List.getElem_cons_succ, List.setIfInBounds_toArray, List.set_cons_zero, List.set_cons_succ]
        generalize (World.heap wD).size = T at hT L ⊢
        generalize World.alloc wD (.cells #[.int .i64 0, .bool false, .int .i64 0, .bool false, .bool false] 27) = wA at L hHeld ⊢
        refine wpAnyH_ready (rs := [2]) (by kernel_rfl) (by simp) (AllReadyH.cons rfl (fun K hK => ?_) AllReadyH.nil)
        go_simp
        refine (number_any a1 _ r1.1 r1.2).mono ?_
        rintro e u1 ⟨rfl, hw⟩
        subst hw
        have hB := Below.refl wA.heap.size wA
        replace L := lies.on_call L hB
        refine hK.out _ _ (hHeld.trans (hB.mono hHeld.size)) (fun hNew => ?_)
        clear hB
        clear hHeld hK K
        have hHeld := hNew
        clear hNew
        try simp only [Act.put, List.getElem_toArray, List.getElem_cons_zero, List.getElem_cons_succ, List.setIfInBounds_toArray, List.set_cons_zero, List.set_cons_succ]
        refine wpAnyH_take (i := 3) (v := ?_) rfl (by kernel_rfl) (by kernel_rfl) (by kernel_rfl) (fun _ _ _ h => h) (Or.inl ⟨by rfl, ?_⟩) hHeld ?_
        rotate_left
        · intro w hSw; have s1 := HS.out.1; have s2 := HS.out.2; go_simp; try with_reducible rfl
        try simp only [Act.put, List.getElem_toArray, List.getElem_cons_zero, List.getElem_cons_succ, List.setIfInBounds_toArray, List.set_cons_zero, List.set_cons_succ]
        refine wpAnyH_ready (rs := [6]) (by kernel_rfl) (by simp) (AllReadyH.cons rfl (fun K hK => ?_) AllReadyH.nil)
        go_simp
        refine (strict_any a1 _).mono ?_
        rintro e u2 ⟨rfl, hw⟩
        subst hw
        have hB := Below.refl wA.heap.size wA
        replace L := lies.on_call L hB
        refine hK.out _ _ (hHeld.trans (hB.mono hHeld.size)) (fun hNew => ?_)
        clear hB
        clear hHeld hK K
        have hHeld := hNew
        clear hNew
        try simp only [Act.put, List.getElem_toArray, List.getElem_cons_zero, List.getElem_cons_succ, List.setIfInBounds_toArray, List.set_cons_zero, List.set_cons_succ]
        refine wpAnyH_take (i := 7) (v := ?_) rfl (by kernel_rfl) (by kernel_rfl) (by kernel_rfl) (fun _ _ _ h => h) (Or.inl ⟨by rfl, ?_⟩) hHeld ?_
        rotate_left
        · intro w hSw; skip; go_simp; try with_reducible rfl
        try simp only [Act.put, List.getElem_toArray, List.getElem_cons_zero, List.getElem_cons_succ, List.setIfInBounds_toArray, List.set_cons_zero, List.set_cons_succ]
        skip
        obtain ⟨⟨l0, l1, l2, l3, l4⟩, ⟨m0, m1, m2, m3, m4⟩, ll⟩ := five_cells L
        refine wpAnyH_ready (rs := [9]) (by kernel_rfl) (by simp) (AllReadyH.cons rfl (fun K hK => ?_) AllReadyH.nil)
        go_simp
        replace hHeld := put_five hHeld hT (.int .i64 (-(a1 / 2))) (.bool (bS a1)) (.int .i64 0) (.bool false) (.bool false)
        replace L := put_fiveL L (.int .i64 (-(a1 / 2))) (.bool (bS a1)) (.int .i64 0) (.bool false) (.bool false)
        refine hK.out _ _ hHeld (fun hNew => ?_)
        clear hHeld hK K
        have hHeld := hNew
        clear hNew
        try simp only [Act.put, List.getElem_toArray, List.getElem_cons_zero, List.getElem_cons_succ, List.setIfInBounds_toArray, List.set_cons_zero, List.set_cons_succ]
        generalize World.setCell (World.setCell (World.setCell (World.setCell (World.setCell (wD) ⟨T, 0, none⟩ (.int .i64 (-(a1 / 2)))) ⟨T, 1, none⟩ (.bool (bS a1))) ⟨T, 2, none⟩ (.int .i64 0)) ⟨T, 3, none⟩ (.bool false)) ⟨T, 4, none⟩ (.bool false) = wB at L hHeld ⊢
        refine wpAnyH_done (by kernel_rfl) ?_ _
        replace D0 := lies.on_call D0 hHeld
        replace D1 := lies.on_call D1 hHeld
        replace DB := later DB hHeld
        have hTR : w.heap.size ≤ T := Nat.le_trans hWS hT
        have hTn : w.heap.size + 1 < T := Nat.lt_of_lt_of_le hlt hT
        have hne1 : T ≠ w.heap.size + 1 := by omega
        have hne2 : w.heap.size + 1 ≠ T := by omega
        have hne3 : T ≠ w.heap.size := by omega
        have hne4 : w.heap.size ≠ T := by omega
        clear hHeld hT
        by_cases c0 : a0 = 9223372036854775807
        · have HC0 := Lib.hid c0
          subst c0
          obtain ⟨⟨kD0_0, kD0_1, kD0_2, kD0_3, kD0_4, kD0_5⟩, -⟩ := six_cells D0
          have kD0_l := lies.lt D0
          obtain ⟨⟨l0, l1, l2, l3, l4⟩, ⟨m0, m1, m2, m3, m4⟩, ll⟩ := five_cells L
          skip
          obtain ⟨⟨x0, x1, x2, x3, x4⟩, ⟨y0, y1, y2, y3, y4⟩, xl⟩ := five_cells D1
          clear D1
          go_wp2_with fail
          exact bodyPost_ret (v := .tuple #[.agg #[.int .i64 (-(a1 / 2)), .bool (bS a1), .int .i64 0, .bool false, .bool true], .int .i64 0]) (by simp [results, Tryd.results19, go_sem, x0, x1, x2, x3, x4, xl]) rfl ⟨put_five (DB.setCell (p := ⟨T, 4, none⟩) hTR _) hR _ _ _ _ _, -(a1 / 2), bS a1, 0, false, true, 0, rfl, .inr (.inr (.inl ⟨HA.out, HC1.out, rfl, rfl, rfl⟩))⟩
        · have HC0 := Lib.hid c0
          have hbn0 : (a0 == 9223372036854775807) = false := by simpa using c0
          clear c0
          obtain ⟨⟨kD0_0, kD0_1, kD0_2, kD0_3, kD0_4, kD0_5⟩, -⟩ := six_cells D0
          have kD0_l := lies.lt D0
          go_wp2_with fail
          refine (number_any a0 _ r0.1 r0.2).mono ?_
          rintro e wN ⟨rfl, hw⟩
          subst hw
          obtain ⟨⟨l0, l1, l2, l3, l4⟩, ⟨m0, m1, m2, m3, m4⟩, ll⟩ := five_cells L
          go_wp2_with fail
          refine (strict_any a0 _).mono ?_
          rintro e wN ⟨rfl, hw⟩
          subst hw
          obtain ⟨⟨x0, x1, x2, x3, x4⟩, ⟨y0, y1, y2, y3, y4⟩, xl⟩ := five_cells D1
          clear D1
          go_wp2_with fail
          exact bodyPost_ret (v := .tuple #[.agg #[.int .i64 (-(a1 / 2)), .bool (bS a1), .int .i64 (a0 / 2), .bool (bS a0), .bool false], .int .i64 0]) (by simp [results, Tryd.results19, go_sem, x0, x1, x2, x3, x4, xl]) rfl ⟨put_five ((DB.setCell (p := ⟨T, 2, none⟩) hTR _).setCell (p := ⟨T, 3, none⟩) hTR _) hR _ _ _ _ _, -(a1 / 2), bS a1, a0 / 2, bS a0, false, 0, rfl, .inr (.inr (.inr ⟨HA.out, HC1.out, HC0.out, rfl, rfl⟩))⟩
end Go.Proofs.YtngjkebmilpemaaDoor.cref
