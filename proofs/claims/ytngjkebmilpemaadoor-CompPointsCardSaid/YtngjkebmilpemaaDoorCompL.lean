/-
  What the laws of comp share: spans, zones of spans, the chapter's example; each theorem names its conditions.
-/
import Derived.Test.YtngjkebmilpemaaDoorCompD
import Derived.Test.YtngjkebmilpemaaDoorZoneI
import Derived.Test.YtngjkebmilpemaaDoorZoneR
namespace Go.Proofs.YtngjkebmilpemaaDoor.claw
open Go.Joins Go.ChangeShapes Go.WideShapes Go.ChangeAt Go.RowKit num rat dbm Go.Proofs.YtngjkebmilpemaaDoor.tight Go.Proofs.YtngjkebmilpemaaDoor.incl Go.Proofs.YtngjkebmilpemaaDoor.plaw Go.Proofs.YtngjkebmilpemaaDoor.zopen Go.Proofs.YtngjkebmilpemaaDoor.zone Go.Proofs.YtngjkebmilpemaaDoor.zlaw Go.Proofs.YtngjkebmilpemaaDoor.comp
open bound hiding up
set_option linter.unusedVariables false
set_option linter.unusedSimpArgs false

theorem to_is (n m : Int) (w : World) : Calls Tryd.prog 9 #[.int .i64 n, .int .i64 m] w fun e w' => e = .returned (.agg #[.int .i64 n, .bool false, .int .i64 m, .bool false, .bool false]) ∧ Below w.heap.size w w' := by
  go_enter Tryd.func9, Tryd.ntmps9
  go_wp2_with fail
  exact bodyPost_ret (v := .agg #[.int .i64 n, .bool false, .int .i64 m, .bool false, .bool false]) (by simp [results, Tryd.results9, go_sem]) rfl ⟨rfl, bound.up1 _ _⟩
theorem ahead_is (w : World) : Calls Tryd.prog 34 #[] w fun e w' => e = .returned (.agg #[.int .i64 0, .bool true, .int .i64 0, .bool false, .bool true]) ∧ Below w.heap.size w w' := by
  go_enter Tryd.func34, Tryd.ntmps34
  go_wp2_with fail
  exact bodyPost_ret (v := .agg #[.int .i64 0, .bool true, .int .i64 0, .bool false, .bool true]) (by simp [results, Tryd.results34, go_sem]) rfl ⟨rfl, bound.up1 _ _⟩

set_option maxRecDepth 100000 in
set_option maxHeartbeats 4000000 in
theorem of_is (slo shi tlo thi m0 m1 m2 m3 m4 m5 : Int) (w : World) (hP : Pl w) (hM : MakeR (slo, false, shi, false, false) (tlo, false, thi, false, false) (0, true, 0, false, true) [m0, m1, m2, m3, m4, m5] 0) :
    Calls Tryd.prog 8 #[.agg #[.int .i64 slo, .bool false, .int .i64 shi, .bool false, .bool false], .agg #[.int .i64 tlo, .bool false, .int .i64 thi, .bool false, .bool false]] w fun e w' => e = .returned (.agg #[.int .i64 m0, .int .i64 m1, .int .i64 m2, .int .i64 m3, .int .i64 m4, .int .i64 m5]) ∧ Below w.heap.size w w' := by
  have X : ∃ w0, w0 = ((w.alloc (.cells #[.int .i64 slo, .bool false, .int .i64 shi, .bool false, .bool false] 27)).alloc (.cells #[.int .i64 tlo, .bool false, .int .i64 thi, .bool false, .bool false] 27)).alloc (.cells #[.int .i64 0, .int .i64 0, .int .i64 0, .int .i64 0, .int .i64 0, .int .i64 0] 24) := ⟨_, rfl⟩
  obtain ⟨w0, hX⟩ := X
  have DB : Below w.heap.size w w0 := by rw [hX]; exact bound.up3 _ _ _ _
  have D0 : lies.Lies w0 w.heap.size 27 #[.int .i64 slo, .bool false, .int .i64 shi, .bool false, .bool false] := by rw [hX]; exact lies.on_alloc (lies.on_alloc (lies.made _ _ _) _) _
  have D1 : lies.Lies w0 (w.heap.size + 1) 27 #[.int .i64 tlo, .bool false, .int .i64 thi, .bool false, .bool false] := by rw [hX]; exact lies.on_alloc (lies.made_at _ _ _ _ (by simp)) _
  have D2 : lies.Lies w0 (w.heap.size + 1 + 1) 24 #[.int .i64 0, .int .i64 0, .int .i64 0, .int .i64 0, .int .i64 0, .int .i64 0] := by rw [hX]; exact lies.made_at _ _ _ _ (by simp)
  have P0 := hP.on DB
  have HM := Lib.hid hM
  clear hP hM
  have hR : w.heap.size ≤ w.heap.size + 1 + 1 := by omega
  go_enter Tryd.func8, Tryd.ntmps8
  go_wp2_with fail
  rw [← hX]
  clear hX
  refine wp_region_held_drew (S := Below w0.heap.size w0) (by kernel_rfl) (dbm.drawn1 (Below.refl _ _)) (fun hHeld => ?_)
  generalize w0.drew = wD at hHeld ⊢
  refine wpAnyH_take (i := 0) (v := ?_) rfl (by kernel_rfl) (by kernel_rfl) (by kernel_rfl) (fun _ _ _ h => h) (Or.inl ⟨by rfl, ?_⟩) hHeld ?_
  rotate_left
  · intro w hSw; obtain ⟨⟨x0, x1, x2, x3, x4⟩, _⟩ := five_cells (lies.on_call D0 hSw); obtain ⟨⟨z0, z1, z2, z3, z4⟩, _⟩ := five_cells (lies.on_call D1 hSw); go_simp; try with_reducible rfl
  try simp only [Act.put, List.getElem_toArray, List.getElem_cons_zero, List.getElem_cons_succ, List.setIfInBounds_toArray, List.set_cons_zero, List.set_cons_succ]
  refine wpAnyH_take (i := 1) (v := ?_) rfl (by kernel_rfl) (by kernel_rfl) (by kernel_rfl) (fun _ _ _ h => h) (Or.inl ⟨by rfl, ?_⟩) hHeld ?_
  rotate_left
  · intro w hSw; obtain ⟨⟨x0, x1, x2, x3, x4⟩, _⟩ := five_cells (lies.on_call D0 hSw); obtain ⟨⟨z0, z1, z2, z3, z4⟩, _⟩ := five_cells (lies.on_call D1 hSw); go_simp; try with_reducible rfl
  try simp only [Act.put, List.getElem_toArray, List.getElem_cons_zero, List.getElem_cons_succ, List.setIfInBounds_toArray, List.set_cons_zero, List.set_cons_succ]
  refine wpAnyH_ready (rs := [2, 7]) (by kernel_rfl) (by simp) (AllReadyH.cons rfl (fun K hK => ?_) (AllReadyH.cons rfl (fun K hK => ?_) AllReadyH.nil))
  · go_simp
    refine (ahead_is _).mono ?_
    rintro e u1 ⟨rfl, hB⟩
    refine hK.out _ _ (hHeld.trans (hB.mono hHeld.size)) (fun hNew => ?_)
    clear hB
    clear hHeld hK K
    have hHeld := hNew
    clear hNew
    try simp only [Act.put, List.getElem_toArray, List.getElem_cons_zero, List.getElem_cons_succ, List.setIfInBounds_toArray, List.set_cons_zero, List.set_cons_succ]
    refine wpAnyH_ready (rs := [3, 7]) (by kernel_rfl) (by simp) (AllReadyH.cons rfl (fun K hK => ?_) (AllReadyH.cons rfl (fun K hK => ?_) AllReadyH.nil))
    · go_simp
      refine (make_any slo false shi false false tlo false thi false false 0 true 0 false true _ (P0.on hHeld)).mono ?_
      rintro e u2 ⟨hB, x0, x1, x2, x3, x4, x5, fm, rfl, hMk⟩
      obtain ⟨e1, rfl⟩ := make_one HM.out hMk
      obtain ⟨rfl, rfl, rfl, rfl, rfl, rfl⟩ : m0 = x0 ∧ m1 = x1 ∧ m2 = x2 ∧ m3 = x3 ∧ m4 = x4 ∧ m5 = x5 := by simpa using e1.symm
      clear hMk e1
      refine hK.out _ _ (hHeld.trans (hB.mono hHeld.size)) (fun hNew => ?_)
      clear hB
      clear hHeld hK K
      have hHeld := hNew
      clear hNew
      try simp only [Act.put, List.getElem_toArray, List.getElem_cons_zero, List.getElem_cons_succ, List.setIfInBounds_toArray, List.set_cons_zero, List.set_cons_succ]
      refine wpAnyH_take (i := 4) (v := ?_) rfl (by kernel_rfl) (by kernel_rfl) (by kernel_rfl) (fun _ _ _ h => h) (Or.inl ⟨by rfl, ?_⟩) hHeld ?_
      rotate_left
      · intro w hSw; skip; go_simp; try with_reducible rfl
      try simp only [Act.put, List.getElem_toArray, List.getElem_cons_zero, List.getElem_cons_succ, List.setIfInBounds_toArray, List.set_cons_zero, List.set_cons_succ]
      refine wpAnyH_take (i := 5) (v := ?_) rfl (by kernel_rfl) (by kernel_rfl) (by kernel_rfl) (fun _ _ _ h => h) (Or.inl ⟨by rfl, ?_⟩) hHeld ?_
      rotate_left
      · intro w hSw; skip; go_simp; try with_reducible rfl
      try simp only [Act.put, List.getElem_toArray, List.getElem_cons_zero, List.getElem_cons_succ, List.setIfInBounds_toArray, List.set_cons_zero, List.set_cons_succ]
      refine wpAnyH_take (i := 6) (v := ?_) rfl (by kernel_rfl) (by kernel_rfl) (by kernel_rfl) (fun _ _ _ h => h) (Or.inl ⟨by rfl, ?_⟩) hHeld ?_
      rotate_left
      · intro w hSw; skip; go_simp; try with_reducible rfl
      try simp only [Act.put, List.getElem_toArray, List.getElem_cons_zero, List.getElem_cons_succ, List.setIfInBounds_toArray, List.set_cons_zero, List.set_cons_succ]
      refine wpAnyH_ready (rs := [7]) (by kernel_rfl) (by simp) (AllReadyH.cons rfl (fun K hK => ?_) AllReadyH.nil)
      go_simp
      have hT := hHeld.size
      have L := lies.made u2 24 #[.int .i64 0, .int .i64 0, .int .i64 0, .int .i64 0, .int .i64 0, .int .i64 0]
      have hAl := hHeld.trans ((bound.up1 u2 (.cells #[.int .i64 0, .int .i64 0, .int .i64 0, .int .i64 0, .int .i64 0, .int .i64 0] 24)).mono hHeld.size)
      refine hK.out _ _ hAl (fun hNew => ?_)
      clear hAl
      clear hHeld hK K
      have hHeld := hNew
      clear hNew
      try simp only [Act.put, List.getElem_toArray, List.getElem_cons_zero, List.getElem_cons_succ, List.setIfInBounds_toArray, List.set_cons_zero, List.set_cons_succ]
      generalize (World.heap u2).size = T at hT L ⊢
      generalize World.alloc u2 (.cells #[.int .i64 0, .int .i64 0, .int .i64 0, .int .i64 0, .int .i64 0, .int .i64 0] 24) = wA at L hHeld ⊢
      obtain ⟨⟨c0, c1, c2, c3, c4, c5⟩, ⟨y0, y1, y2, y3, y4, y5⟩, xl⟩ := six_cells L
      refine wpAnyH_ready (rs := [8]) (by kernel_rfl) (by simp) (AllReadyH.cons rfl (fun K hK => ?_) AllReadyH.nil)
      go_simp
      replace hHeld := put_six hHeld hT (.int .i64 m0) (.int .i64 m1) (.int .i64 m2) (.int .i64 m3) (.int .i64 m4) (.int .i64 m5)
      replace L := zref.put_sixL L (.int .i64 m0) (.int .i64 m1) (.int .i64 m2) (.int .i64 m3) (.int .i64 m4) (.int .i64 m5)
      refine hK.out _ _ hHeld (fun hNew => ?_)
      clear c0 c1 c2 c3 c4 c5 y0 y1 y2 y3 y4 y5 xl
      clear hHeld hK K
      have hHeld := hNew
      clear hNew
      try simp only [Act.put, List.getElem_toArray, List.getElem_cons_zero, List.getElem_cons_succ, List.setIfInBounds_toArray, List.set_cons_zero, List.set_cons_succ]
      generalize World.setCell (World.setCell (World.setCell (World.setCell (World.setCell (World.setCell (wA) ⟨T, 0, none⟩ (.int .i64 m0)) ⟨T, 1, none⟩ (.int .i64 m1)) ⟨T, 2, none⟩ (.int .i64 m2)) ⟨T, 3, none⟩ (.int .i64 m3)) ⟨T, 4, none⟩ (.int .i64 m4)) ⟨T, 5, none⟩ (.int .i64 m5) = wB at L hHeld ⊢
      refine wpAnyH_take (i := 9) (v := ?_) rfl (by kernel_rfl) (by kernel_rfl) (by kernel_rfl) (fun _ _ _ h => h) (Or.inl ⟨by rfl, ?_⟩) hHeld ?_
      rotate_left
      · intro w hSw; skip; go_simp; try with_reducible rfl
      try simp only [Act.put, List.getElem_toArray, List.getElem_cons_zero, List.getElem_cons_succ, List.setIfInBounds_toArray, List.set_cons_zero, List.set_cons_succ]
      refine wpAnyH_done (by kernel_rfl) ?_ _
      replace D2 := lies.on_call D2 hHeld
      replace DB := later DB hHeld
      clear hHeld D0 D1
      obtain ⟨⟨c0, c1, c2, c3, c4, c5⟩, -, cl⟩ := six_cells L
      obtain ⟨⟨x0, x1, x2, x3, x4, x5⟩, ⟨y0, y1, y2, y3, y4, y5⟩, xl⟩ := six_cells D2
      clear D2 L
      go_wp2_with fail
      exact bodyPost_ret (v := .agg #[.int .i64 m0, .int .i64 m1, .int .i64 m2, .int .i64 m3, .int .i64 m4, .int .i64 m5]) (by simp [results, Tryd.results8, go_sem, x0, x1, x2, x3, x4, x5, xl]) rfl ⟨rfl, put_six DB hR _ _ _ _ _ _⟩
    · go_simp
      have hT := hHeld.size
      have L := lies.made u1 24 #[.int .i64 0, .int .i64 0, .int .i64 0, .int .i64 0, .int .i64 0, .int .i64 0]
      have hAl := hHeld.trans ((bound.up1 u1 (.cells #[.int .i64 0, .int .i64 0, .int .i64 0, .int .i64 0, .int .i64 0, .int .i64 0] 24)).mono hHeld.size)
      refine hK.out _ _ hAl (fun hNew => ?_)
      clear hAl
      clear hHeld hK K
      have hHeld := hNew
      clear hNew
      try simp only [Act.put, List.getElem_toArray, List.getElem_cons_zero, List.getElem_cons_succ, List.setIfInBounds_toArray, List.set_cons_zero, List.set_cons_succ]
      generalize (World.heap u1).size = T at hT L ⊢
      generalize World.alloc u1 (.cells #[.int .i64 0, .int .i64 0, .int .i64 0, .int .i64 0, .int .i64 0, .int .i64 0] 24) = wA at L hHeld ⊢
      refine wpAnyH_ready (rs := [3]) (by kernel_rfl) (by simp) (AllReadyH.cons rfl (fun K hK => ?_) AllReadyH.nil)
      go_simp
      refine (make_any slo false shi false false tlo false thi false false 0 true 0 false true _ (P0.on hHeld)).mono ?_
      rintro e u2 ⟨hB, x0, x1, x2, x3, x4, x5, fm, rfl, hMk⟩
      obtain ⟨e1, rfl⟩ := make_one HM.out hMk
      obtain ⟨rfl, rfl, rfl, rfl, rfl, rfl⟩ : m0 = x0 ∧ m1 = x1 ∧ m2 = x2 ∧ m3 = x3 ∧ m4 = x4 ∧ m5 = x5 := by simpa using e1.symm
      clear hMk e1
      replace L := lies.on_call L hB
      refine hK.out _ _ (hHeld.trans (hB.mono hHeld.size)) (fun hNew => ?_)
      clear hB
      clear hHeld hK K
      have hHeld := hNew
      clear hNew
      try simp only [Act.put, List.getElem_toArray, List.getElem_cons_zero, List.getElem_cons_succ, List.setIfInBounds_toArray, List.set_cons_zero, List.set_cons_succ]
      refine wpAnyH_take (i := 4) (v := ?_) rfl (by kernel_rfl) (by kernel_rfl) (by kernel_rfl) (fun _ _ _ h => h) (Or.inl ⟨by rfl, ?_⟩) hHeld ?_
      rotate_left
      · intro w hSw; skip; go_simp; try with_reducible rfl
      try simp only [Act.put, List.getElem_toArray, List.getElem_cons_zero, List.getElem_cons_succ, List.setIfInBounds_toArray, List.set_cons_zero, List.set_cons_succ]
      refine wpAnyH_take (i := 5) (v := ?_) rfl (by kernel_rfl) (by kernel_rfl) (by kernel_rfl) (fun _ _ _ h => h) (Or.inl ⟨by rfl, ?_⟩) hHeld ?_
      rotate_left
      · intro w hSw; skip; go_simp; try with_reducible rfl
      try simp only [Act.put, List.getElem_toArray, List.getElem_cons_zero, List.getElem_cons_succ, List.setIfInBounds_toArray, List.set_cons_zero, List.set_cons_succ]
      refine wpAnyH_take (i := 6) (v := ?_) rfl (by kernel_rfl) (by kernel_rfl) (by kernel_rfl) (fun _ _ _ h => h) (Or.inl ⟨by rfl, ?_⟩) hHeld ?_
      rotate_left
      · intro w hSw; skip; go_simp; try with_reducible rfl
      try simp only [Act.put, List.getElem_toArray, List.getElem_cons_zero, List.getElem_cons_succ, List.setIfInBounds_toArray, List.set_cons_zero, List.set_cons_succ]
      obtain ⟨⟨c0, c1, c2, c3, c4, c5⟩, ⟨y0, y1, y2, y3, y4, y5⟩, xl⟩ := six_cells L
      refine wpAnyH_ready (rs := [8]) (by kernel_rfl) (by simp) (AllReadyH.cons rfl (fun K hK => ?_) AllReadyH.nil)
      go_simp
      replace hHeld := put_six hHeld hT (.int .i64 m0) (.int .i64 m1) (.int .i64 m2) (.int .i64 m3) (.int .i64 m4) (.int .i64 m5)
      replace L := zref.put_sixL L (.int .i64 m0) (.int .i64 m1) (.int .i64 m2) (.int .i64 m3) (.int .i64 m4) (.int .i64 m5)
      refine hK.out _ _ hHeld (fun hNew => ?_)
      clear c0 c1 c2 c3 c4 c5 y0 y1 y2 y3 y4 y5 xl
      clear hHeld hK K
      have hHeld := hNew
      clear hNew
      try simp only [Act.put, List.getElem_toArray, List.getElem_cons_zero, List.getElem_cons_succ, List.setIfInBounds_toArray, List.set_cons_zero, List.set_cons_succ]
      generalize World.setCell (World.setCell (World.setCell (World.setCell (World.setCell (World.setCell (u2) ⟨T, 0, none⟩ (.int .i64 m0)) ⟨T, 1, none⟩ (.int .i64 m1)) ⟨T, 2, none⟩ (.int .i64 m2)) ⟨T, 3, none⟩ (.int .i64 m3)) ⟨T, 4, none⟩ (.int .i64 m4)) ⟨T, 5, none⟩ (.int .i64 m5) = wB at L hHeld ⊢
      refine wpAnyH_take (i := 9) (v := ?_) rfl (by kernel_rfl) (by kernel_rfl) (by kernel_rfl) (fun _ _ _ h => h) (Or.inl ⟨by rfl, ?_⟩) hHeld ?_
      rotate_left
      · intro w hSw; skip; go_simp; try with_reducible rfl
      try simp only [Act.put, List.getElem_toArray, List.getElem_cons_zero, List.getElem_cons_succ, List.setIfInBounds_toArray, List.set_cons_zero, List.set_cons_succ]
      refine wpAnyH_done (by kernel_rfl) ?_ _
      replace D2 := lies.on_call D2 hHeld
      replace DB := later DB hHeld
      clear hHeld D0 D1
      obtain ⟨⟨c0, c1, c2, c3, c4, c5⟩, -, cl⟩ := six_cells L
      obtain ⟨⟨x0, x1, x2, x3, x4, x5⟩, ⟨y0, y1, y2, y3, y4, y5⟩, xl⟩ := six_cells D2
      clear D2 L
      go_wp2_with fail
      exact bodyPost_ret (v := .agg #[.int .i64 m0, .int .i64 m1, .int .i64 m2, .int .i64 m3, .int .i64 m4, .int .i64 m5]) (by simp [results, Tryd.results8, go_sem, x0, x1, x2, x3, x4, x5, xl]) rfl ⟨rfl, put_six DB hR _ _ _ _ _ _⟩
  · go_simp
    have hT := hHeld.size
    have L := lies.made wD 24 #[.int .i64 0, .int .i64 0, .int .i64 0, .int .i64 0, .int .i64 0, .int .i64 0]
    have hAl := hHeld.trans ((bound.up1 wD (.cells #[.int .i64 0, .int .i64 0, .int .i64 0, .int .i64 0, .int .i64 0, .int .i64 0] 24)).mono hHeld.size)
    refine hK.out _ _ hAl (fun hNew => ?_)
    clear hAl
    clear hHeld hK K
    have hHeld := hNew
    clear hNew
    try simp only [Act.put, List.getElem_toArray, List.getElem_cons_zero, List.getElem_cons_succ, List.setIfInBounds_toArray, List.set_cons_zero, List.set_cons_succ]
    generalize (World.heap wD).size = T at hT L ⊢
    generalize World.alloc wD (.cells #[.int .i64 0, .int .i64 0, .int .i64 0, .int .i64 0, .int .i64 0, .int .i64 0] 24) = wA at L hHeld ⊢
    refine wpAnyH_ready (rs := [2]) (by kernel_rfl) (by simp) (AllReadyH.cons rfl (fun K hK => ?_) AllReadyH.nil)
    go_simp
    refine (ahead_is _).mono ?_
    rintro e u1 ⟨rfl, hB⟩
    replace L := lies.on_call L hB
    refine hK.out _ _ (hHeld.trans (hB.mono hHeld.size)) (fun hNew => ?_)
    clear hB
    clear hHeld hK K
    have hHeld := hNew
    clear hNew
    try simp only [Act.put, List.getElem_toArray, List.getElem_cons_zero, List.getElem_cons_succ, List.setIfInBounds_toArray, List.set_cons_zero, List.set_cons_succ]
    refine wpAnyH_ready (rs := [3]) (by kernel_rfl) (by simp) (AllReadyH.cons rfl (fun K hK => ?_) AllReadyH.nil)
    go_simp
    refine (make_any slo false shi false false tlo false thi false false 0 true 0 false true _ (P0.on hHeld)).mono ?_
    rintro e u2 ⟨hB, x0, x1, x2, x3, x4, x5, fm, rfl, hMk⟩
    obtain ⟨e1, rfl⟩ := make_one HM.out hMk
    obtain ⟨rfl, rfl, rfl, rfl, rfl, rfl⟩ : m0 = x0 ∧ m1 = x1 ∧ m2 = x2 ∧ m3 = x3 ∧ m4 = x4 ∧ m5 = x5 := by simpa using e1.symm
    clear hMk e1
    replace L := lies.on_call L hB
    refine hK.out _ _ (hHeld.trans (hB.mono hHeld.size)) (fun hNew => ?_)
    clear hB
    clear hHeld hK K
    have hHeld := hNew
    clear hNew
    try simp only [Act.put, List.getElem_toArray, List.getElem_cons_zero, List.getElem_cons_succ, List.setIfInBounds_toArray, List.set_cons_zero, List.set_cons_succ]
    refine wpAnyH_take (i := 4) (v := ?_) rfl (by kernel_rfl) (by kernel_rfl) (by kernel_rfl) (fun _ _ _ h => h) (Or.inl ⟨by rfl, ?_⟩) hHeld ?_
    rotate_left
    · intro w hSw; skip; go_simp; try with_reducible rfl
    try simp only [Act.put, List.getElem_toArray, List.getElem_cons_zero, List.getElem_cons_succ, List.setIfInBounds_toArray, List.set_cons_zero, List.set_cons_succ]
    refine wpAnyH_take (i := 5) (v := ?_) rfl (by kernel_rfl) (by kernel_rfl) (by kernel_rfl) (fun _ _ _ h => h) (Or.inl ⟨by rfl, ?_⟩) hHeld ?_
    rotate_left
    · intro w hSw; skip; go_simp; try with_reducible rfl
    try simp only [Act.put, List.getElem_toArray, List.getElem_cons_zero, List.getElem_cons_succ, List.setIfInBounds_toArray, List.set_cons_zero, List.set_cons_succ]
    refine wpAnyH_take (i := 6) (v := ?_) rfl (by kernel_rfl) (by kernel_rfl) (by kernel_rfl) (fun _ _ _ h => h) (Or.inl ⟨by rfl, ?_⟩) hHeld ?_
    rotate_left
    · intro w hSw; skip; go_simp; try with_reducible rfl
    try simp only [Act.put, List.getElem_toArray, List.getElem_cons_zero, List.getElem_cons_succ, List.setIfInBounds_toArray, List.set_cons_zero, List.set_cons_succ]
    obtain ⟨⟨c0, c1, c2, c3, c4, c5⟩, ⟨y0, y1, y2, y3, y4, y5⟩, xl⟩ := six_cells L
    refine wpAnyH_ready (rs := [8]) (by kernel_rfl) (by simp) (AllReadyH.cons rfl (fun K hK => ?_) AllReadyH.nil)
    go_simp
    replace hHeld := put_six hHeld hT (.int .i64 m0) (.int .i64 m1) (.int .i64 m2) (.int .i64 m3) (.int .i64 m4) (.int .i64 m5)
    replace L := zref.put_sixL L (.int .i64 m0) (.int .i64 m1) (.int .i64 m2) (.int .i64 m3) (.int .i64 m4) (.int .i64 m5)
    refine hK.out _ _ hHeld (fun hNew => ?_)
    clear c0 c1 c2 c3 c4 c5 y0 y1 y2 y3 y4 y5 xl
    clear hHeld hK K
    have hHeld := hNew
    clear hNew
    try simp only [Act.put, List.getElem_toArray, List.getElem_cons_zero, List.getElem_cons_succ, List.setIfInBounds_toArray, List.set_cons_zero, List.set_cons_succ]
    generalize World.setCell (World.setCell (World.setCell (World.setCell (World.setCell (World.setCell (u2) ⟨T, 0, none⟩ (.int .i64 m0)) ⟨T, 1, none⟩ (.int .i64 m1)) ⟨T, 2, none⟩ (.int .i64 m2)) ⟨T, 3, none⟩ (.int .i64 m3)) ⟨T, 4, none⟩ (.int .i64 m4)) ⟨T, 5, none⟩ (.int .i64 m5) = wB at L hHeld ⊢
    refine wpAnyH_take (i := 9) (v := ?_) rfl (by kernel_rfl) (by kernel_rfl) (by kernel_rfl) (fun _ _ _ h => h) (Or.inl ⟨by rfl, ?_⟩) hHeld ?_
    rotate_left
    · intro w hSw; skip; go_simp; try with_reducible rfl
    try simp only [Act.put, List.getElem_toArray, List.getElem_cons_zero, List.getElem_cons_succ, List.setIfInBounds_toArray, List.set_cons_zero, List.set_cons_succ]
    refine wpAnyH_done (by kernel_rfl) ?_ _
    replace D2 := lies.on_call D2 hHeld
    replace DB := later DB hHeld
    clear hHeld D0 D1
    obtain ⟨⟨c0, c1, c2, c3, c4, c5⟩, -, cl⟩ := six_cells L
    obtain ⟨⟨x0, x1, x2, x3, x4, x5⟩, ⟨y0, y1, y2, y3, y4, y5⟩, xl⟩ := six_cells D2
    clear D2 L
    go_wp2_with fail
    exact bodyPost_ret (v := .agg #[.int .i64 m0, .int .i64 m1, .int .i64 m2, .int .i64 m3, .int .i64 m4, .int .i64 m5]) (by simp [results, Tryd.results8, go_sem, x0, x1, x2, x3, x4, x5, xl]) rfl ⟨rfl, put_six DB hR _ _ _ _ _ _⟩
theorem make_a : MakeR (0, false, 1, false, false) (2, false, 2, false, false) (0, true, 0, false, true) [3, 1, 5, -3, 5, -1] 0 := by
  have h0 : MayP (0, false, 1, false, false) := ⟨⟨by decide, by decide⟩, .inr ⟨rfl, ⟨by decide, by decide⟩, by decide⟩⟩
  have h1 : MayP (2, false, 2, false, false) := ⟨⟨by decide, by decide⟩, .inr ⟨rfl, ⟨by decide, by decide⟩, by decide⟩⟩
  have h2 : MayP (0, true, 0, false, true) := ⟨⟨by decide, by decide⟩, .inl ⟨rfl, rfl, rfl⟩⟩
  have e : fullT (spanZ (0, false, 1, false, false) (2, false, 2, false, false) (0, true, 0, false, true)) = [1, 1, -3, 3, 1, 0, 5, 9223372036854775807, 1] := by decide +kernel
  obtain ⟨k1, k2⟩ := tlaw.ok_cl (m := 3) (by decide) (ts := [1, 1, -3, 3, 1, 0, 5, 9223372036854775807, 1]) (us := [1, 1, -3, 3, 1, -1, 5, 5, 1]) (by decide +kernel) (by decide +kernel)
  have k1 : OkD 3 [1, 1, -3, 3, 1, 0, 5, 9223372036854775807, 1] := k1
  have k2 : clT 3 [1, 1, -3, 3, 1, 0, 5, 9223372036854775807, 1] = [1, 1, -3, 3, 1, -1, 5, 5, 1] := k2
  unfold MakeR
  rw [e, k2]
  exact .inr (.inr (.inr ⟨h0, h1, h2, k1, by decide, rfl, rfl⟩))
theorem make_b : MakeR (2, false, 2, false, false) (3, false, 4, false, false) (0, true, 0, false, true) [5, -3, 9, -5, 5, -1] 0 := by
  have h0 : MayP (2, false, 2, false, false) := ⟨⟨by decide, by decide⟩, .inr ⟨rfl, ⟨by decide, by decide⟩, by decide⟩⟩
  have h1 : MayP (3, false, 4, false, false) := ⟨⟨by decide, by decide⟩, .inr ⟨rfl, ⟨by decide, by decide⟩, by decide⟩⟩
  have h2 : MayP (0, true, 0, false, true) := ⟨⟨by decide, by decide⟩, .inl ⟨rfl, rfl, rfl⟩⟩
  have e : fullT (spanZ (2, false, 2, false, false) (3, false, 4, false, false) (0, true, 0, false, true)) = [1, -3, -5, 5, 1, 0, 9, 9223372036854775807, 1] := by decide +kernel
  obtain ⟨k1, k2⟩ := tlaw.ok_cl (m := 3) (by decide) (ts := [1, -3, -5, 5, 1, 0, 9, 9223372036854775807, 1]) (us := [1, -3, -5, 5, 1, -1, 9, 5, 1]) (by decide +kernel) (by decide +kernel)
  have k1 : OkD 3 [1, -3, -5, 5, 1, 0, 9, 9223372036854775807, 1] := k1
  have k2 : clT 3 [1, -3, -5, 5, 1, 0, 9, 9223372036854775807, 1] = [1, -3, -5, 5, 1, -1, 9, 5, 1] := k2
  unfold MakeR
  rw [e, k2]
  exact .inr (.inr (.inr ⟨h0, h1, h2, k1, by decide, rfl, rfl⟩))
theorem make_c : MakeR (0, false, 1, false, false) (3, false, 4, false, false) (0, true, 0, false, true) [3, 1, 9, -5, 9, -3] 0 := by
  have h0 : MayP (0, false, 1, false, false) := ⟨⟨by decide, by decide⟩, .inr ⟨rfl, ⟨by decide, by decide⟩, by decide⟩⟩
  have h1 : MayP (3, false, 4, false, false) := ⟨⟨by decide, by decide⟩, .inr ⟨rfl, ⟨by decide, by decide⟩, by decide⟩⟩
  have h2 : MayP (0, true, 0, false, true) := ⟨⟨by decide, by decide⟩, .inl ⟨rfl, rfl, rfl⟩⟩
  have e : fullT (spanZ (0, false, 1, false, false) (3, false, 4, false, false) (0, true, 0, false, true)) = [1, 1, -5, 3, 1, 0, 9, 9223372036854775807, 1] := by decide +kernel
  obtain ⟨k1, k2⟩ := tlaw.ok_cl (m := 3) (by decide) (ts := [1, 1, -5, 3, 1, 0, 9, 9223372036854775807, 1]) (us := [1, 1, -5, 3, 1, -3, 9, 9, 1]) (by decide +kernel) (by decide +kernel)
  have k1 : OkD 3 [1, 1, -5, 3, 1, 0, 9, 9223372036854775807, 1] := k1
  have k2 : clT 3 [1, 1, -5, 3, 1, 0, 9, 9223372036854775807, 1] = [1, 1, -5, 3, 1, -3, 9, 9, 1] := k2
  unfold MakeR
  rw [e, k2]
  exact .inr (.inr (.inr ⟨h0, h1, h2, k1, by decide, rfl, rfl⟩))
theorem may_a : MayZ [3, 1, 5, -3, 5, -1] := by
  obtain ⟨k1, k2⟩ := tlaw.ok_cl (m := 3) (by decide) (ts := [1, 1, -3, 3, 1, -1, 5, 5, 1]) (us := [1, 1, -3, 3, 1, -1, 5, 5, 1]) (by decide +kernel) (by decide +kernel)
  exact ⟨k1, k2⟩
theorem may_a_tops : Tops [3, 1, 5, -3, 5, -1] := by unfold Tops; decide
theorem may_b : MayZ [5, -3, 9, -5, 5, -1] := by
  obtain ⟨k1, k2⟩ := tlaw.ok_cl (m := 3) (by decide) (ts := [1, -3, -5, 5, 1, -1, 9, 5, 1]) (us := [1, -3, -5, 5, 1, -1, 9, 5, 1]) (by decide +kernel) (by decide +kernel)
  exact ⟨k1, k2⟩
theorem may_b_tops : Tops [5, -3, 9, -5, 5, -1] := by unfold Tops; decide
theorem may_c : MayZ [3, 1, 9, -5, 9, -3] := by
  obtain ⟨k1, k2⟩ := tlaw.ok_cl (m := 3) (by decide) (ts := [1, 1, -5, 3, 1, -3, 9, 9, 1]) (us := [1, 1, -5, 3, 1, -3, 9, 9, 1]) (by decide +kernel) (by decide +kernel)
  exact ⟨k1, k2⟩
theorem may_c_tops : Tops [3, 1, 9, -5, 9, -3] := by unfold Tops; decide
theorem comp_one {a b z z' : List Int} {f f' : Int} (h : CompR a b z f) (k : CompR a b z' f') : z' = z ∧ f' = f := by
  rcases h with ⟨m, rfl, rfl⟩ | ⟨p, q, o, rfl, rfl⟩ | ⟨p, q, o, c, rfl, rfl⟩ | ⟨p, q, o, c, hz, rfl⟩ <;> rcases k with ⟨m', rfl, rfl⟩ | ⟨p', q', o', rfl, rfl⟩ | ⟨p', q', o', c', rfl, rfl⟩ | ⟨p', q', o', c', hz', rfl⟩
  all_goals first | exact ⟨rfl, rfl⟩ | exact ⟨hz'.trans hz.symm, rfl⟩ | exact (m ⟨p', q'⟩).elim | exact (m' ⟨p, q⟩).elim | exact (o o').elim | exact (o' o).elim | exact (c c'.may).elim | exact (c' c.may).elim
theorem comp_ab : CompR [3, 1, 5, -3, 5, -1] [5, -3, 9, -5, 5, -1] [3, 1, 9, -5, 9, -3] 0 := by
  obtain ⟨k1, k2⟩ := tlaw.ok_cl (m := 4) (by decide) (ts := [1, 1, -3, -5, 3, 1, -1, 9223372036854775807, 5, 5, 1, -1, 9, 9223372036854775807, 5, 1]) (us := [1, 1, -3, -5, 3, 1, -1, -3, 5, 5, 1, -1, 9, 9, 5, 1]) (by decide +kernel) (by decide +kernel)
  have e : bothT [3, 1, 5, -3, 5, -1] [5, -3, 9, -5, 5, -1] = [1, 1, -3, -5, 3, 1, -1, 9223372036854775807, 5, 5, 1, -1, 9, 9223372036854775807, 5, 1] := by decide +kernel
  have k1 : OkD 4 [1, 1, -3, -5, 3, 1, -1, 9223372036854775807, 5, 5, 1, -1, 9, 9223372036854775807, 5, 1] := k1
  have k2 : clT ((4 : Nat) : Int) [1, 1, -3, -5, 3, 1, -1, 9223372036854775807, 5, 5, 1, -1, 9, 9223372036854775807, 5, 1] = [1, 1, -3, -5, 3, 1, -1, -3, 5, 5, 1, -1, 9, 9, 5, 1] := k2
  have ec : compT [3, 1, 5, -3, 5, -1] [5, -3, 9, -5, 5, -1] = [3, 1, 9, -5, 9, -3] := by
    unfold compT proj.dropT
    rw [e, k2]
    decide +kernel
  refine .inr (.inr (.inr ⟨may_a, may_b, by rw [e]; exact k1, by rw [ec]; exact may_c, ec.symm, rfl⟩))
theorem comp_is (w : World) (hP : Pl w) : Calls Tryd.prog 10 #[.agg #[.int .i64 3, .int .i64 1, .int .i64 5, .int .i64 (-3), .int .i64 5, .int .i64 (-1)], .agg #[.int .i64 5, .int .i64 (-3), .int .i64 9, .int .i64 (-5), .int .i64 5, .int .i64 (-1)]] w fun e w' => e = .returned (.tuple #[.agg #[.int .i64 3, .int .i64 1, .int .i64 9, .int .i64 (-5), .int .i64 9, .int .i64 (-3)], .int .i64 0]) ∧ Below w.heap.size w w' := by
  refine (comp_any 3 1 5 (-3) 5 (-1) 5 (-3) 9 (-5) 5 (-1) w hP may_a_tops may_b_tops).mono fun e w' h => ?_
  obtain ⟨hB, z0, z1, z2, z3, z4, z5, f, rfl, hR⟩ := h
  obtain ⟨e1, rfl⟩ := comp_one comp_ab hR
  obtain ⟨rfl, rfl, rfl, rfl, rfl, rfl⟩ : z0 = 3 ∧ z1 = 1 ∧ z2 = 9 ∧ z3 = -5 ∧ z4 = 9 ∧ z5 = -3 := by simpa using e1
  exact ⟨rfl, hB⟩
theorem check_is (w : World) (hP : Pl w) : Calls Tryd.prog 21 #[.agg #[.int .i64 3, .int .i64 1, .int .i64 5, .int .i64 (-3), .int .i64 5, .int .i64 (-1)]] w fun e w' => e = .returned (.int .i64 0) ∧ Below w.heap.size w w' := by
  refine (zone.check_any 3 1 5 (-3) 5 (-1) w hP may_a_tops).mono fun e w' h => ?_
  obtain ⟨hB, f, rfl, hR⟩ := h
  rcases hR with ⟨_, rfl⟩ | ⟨n, _⟩
  · exact ⟨rfl, hB⟩
  · exact (n may_a).elim
set_option maxRecDepth 100000 in
theorem is_yes (a0 a1 a2 a3 a4 a5 : Int) (w : World) : Calls Tryd.prog 16 #[.agg #[.int .i64 a0, .int .i64 a1, .int .i64 a2, .int .i64 a3, .int .i64 a4, .int .i64 a5], .int .i64 0, .agg #[.int .i64 a0, .int .i64 a1, .int .i64 a2, .int .i64 a3, .int .i64 a4, .int .i64 a5]] w fun e w' => e = .returned (.bool true) ∧ Below w.heap.size w w' := by
  have hq : ∀ W, (Op.equalIn 10000 24 (.agg #[.int .i64 a0, .int .i64 a1, .int .i64 a2, .int .i64 a3, .int .i64 a4, .int .i64 a5]) (.agg #[.int .i64 a0, .int .i64 a1, .int .i64 a2, .int .i64 a3, .int .i64 a4, .int .i64 a5])).run Tryd.prog W = .ok true W := fun W => by rw [eq_zone]; simp
  go_enter Tryd.func16, Tryd.ntmps16
  go_wp2_with fail
  go_ret
  exact ⟨rfl, bound.up2 _ _ _⟩

end Go.Proofs.YtngjkebmilpemaaDoor.claw
