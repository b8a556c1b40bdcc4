/-
  The document's own Pick and Cmp of zones; each theorem names its conditions.
-/
import Derived.Test.YtklejbheieceeaaGreatDoorZoneX
namespace Go.Proofs.YtklejbheieceeaaGreatDoor.zref
open Go.Joins Go.ChangeShapes Go.WideShapes Go.ChangeAt Go.RowKit num rat dbm Go.Proofs.YtklejbheieceeaaGreatDoor.tight Go.Proofs.YtklejbheieceeaaGreatDoor.incl Go.Proofs.YtklejbheieceeaaGreatDoor.plaw Go.Proofs.YtklejbheieceeaaGreatDoor.zopen Go.Proofs.YtklejbheieceeaaGreatDoor.zone dref
open bound hiding up
set_option linter.unusedVariables false
set_option linter.unusedSimpArgs false


theorem put_fourL {W : World} {g : Nat} {t : TypeId} {z0 z1 z2 z3 : Value} (h : lies.Lies W g t #[z0, z1, z2, z3]) (a b c d : Value) : lies.Lies ((((W.setCell ⟨g, 0, none⟩ a).setCell ⟨g, 1, none⟩ b).setCell ⟨g, 2, none⟩ c).setCell ⟨g, 3, none⟩ d) g t #[a, b, c, d] := by
  have h0 : lies.Lies (W.setCell ⟨g, 0, none⟩ a) g t #[a, z1, z2, z3] := by simpa using lies.on_put h 0 a
  have h1 : lies.Lies ((W.setCell ⟨g, 0, none⟩ a).setCell ⟨g, 1, none⟩ b) g t #[a, b, z2, z3] := by simpa using lies.on_put h0 1 b
  have h2 : lies.Lies (((W.setCell ⟨g, 0, none⟩ a).setCell ⟨g, 1, none⟩ b).setCell ⟨g, 2, none⟩ c) g t #[a, b, c, z3] := by simpa using lies.on_put h1 2 c
  simpa using lies.on_put h2 3 d

set_option maxRecDepth 100000 in
set_option maxHeartbeats 4000000 in
theorem rpicked_any (z0 z1 z2 z3 z4 z5 : Int) (w : World) (hz : MayZ [z0, z1, z2, z3, z4, z5]) (htop : Tops [z0, z1, z2, z3, z4, z5]) : Calls Tryz.prog 38 #[.agg #[.int .i64 z0, .int .i64 z1, .int .i64 z2, .int .i64 z3, .int .i64 z4, .int .i64 z5]] w fun e w' => Below w.heap.size w w' ∧ ∃ a b c d : Int, e = .returned (.agg #[.int .i64 a, .int .i64 b, .int .i64 c, .int .i64 d]) ∧ pks 3 (fullT [z0, z1, z2, z3, z4, z5]) = [(a, b), (c, d)] := by
  have DB := bound.up2 w (.cells #[.int .i64 z0, .int .i64 z1, .int .i64 z2, .int .i64 z3, .int .i64 z4, .int .i64 z5] 24) (.cells #[.int .i64 0, .int .i64 0, .int .i64 0, .int .i64 0] 31)
  have D0 := lies.on_alloc (lies.made w 24 #[.int .i64 z0, .int .i64 z1, .int .i64 z2, .int .i64 z3, .int .i64 z4, .int .i64 z5]) (.cells #[.int .i64 0, .int .i64 0, .int .i64 0, .int .i64 0] 31)
  have D1 := lies.made_at (w.alloc (.cells #[.int .i64 z0, .int .i64 z1, .int .i64 z2, .int .i64 z3, .int .i64 z4, .int .i64 z5] 24)) 31 #[.int .i64 0, .int .i64 0, .int .i64 0, .int .i64 0] (w.heap.size + 1) (by simp)
  have HT := Lib.hid htop
  have HM := Lib.hid hz
  clear htop hz
  go_enter Tryz.func38, Tryz.ntmps38
  obtain ⟨⟨c0, c1, c2, c3, c4, c5⟩, _⟩ := six_cells D0
  have cl := lies.lt D0
  go_wp2_with fail
  clear c0 c1 c2 c3 c4 c5 cl D0
  generalize (w.alloc (.cells #[.int .i64 z0, .int .i64 z1, .int .i64 z2, .int .i64 z3, .int .i64 z4, .int .i64 z5] 24)).alloc (.cells #[.int .i64 0, .int .i64 0, .int .i64 0, .int .i64 0] 31) = w0 at DB D1 ⊢
  refine (full_is z0 z1 z2 z3 z4 z5 w0).mono ?_
  rintro e w1 ⟨hB, g, hg, rfl, hG⟩
  replace D1 := lies.on_call D1 hB
  replace DB := later DB hB
  clear hB hg
  have hr : Row w1 g 0 (clT ((3 : Nat) : Int) (fullT [z0, z1, z2, z3, z4, z5])) := by
    have e : clT ((3 : Nat) : Int) (fullT [z0, z1, z2, z3, z4, z5]) = fullT [z0, z1, z2, z3, z4, z5] := HM.out.2
    rw [e]
    exact row_of hG
  have C := Lib.hid (iref.picked_is 3 g 9 (fullT [z0, z1, z2, z3, z4, z5]) w1 (by decide) (by decide) rfl (full_tops HT.out) HM.out.1 hr (lies.lt hG))
  clear hr hG
  go_wp2_with fail
  refine C.out.mono ?_
  rintro e w2 ⟨hB, v, rfl, hR⟩
  replace D1 := lies.on_call D1 hB
  replace DB := later DB hB
  clear hB C
  have hln := pks_length 3 (fullT [z0, z1, z2, z3, z4, z5])
  have hmay := (pks_may (n := 3) (by decide) (by decide) rfl (full_tops HT.out) HM.out.1).1
  have hR : Rats w2.heap.size w2 v (pks 3 (fullT [z0, z1, z2, z3, z4, z5])) := hR
  generalize hps : pks 3 (fullT [z0, z1, z2, z3, z4, z5]) = ps at hR hln hmay
  obtain ⟨a, b, c, d, rfl⟩ := two_times hln
  have hb1 : 1 ≤ b := (hmay 1 (show 1 < 3 by decide)).1
  clear hmay
  have HPS := Lib.hid hps
  clear hps
  rcases hR with ⟨_, k⟩ | ⟨tb, toff, tcap, hv, htb, hc⟩
  · cases k
  · have hv : v = .slice (some ⟨tb, toff, none⟩) 2 tcap := hv
    subst hv
    obtain ⟨r0, r1⟩ := hc 0 (show 0 < 2 by decide)
    obtain ⟨r2, r3⟩ := hc 1 (show 1 < 2 by decide)
    have hne : tb ≠ w.heap.size + 1 := by
      rintro rfl
      have := (lies.cell D1 (toff + 0 * 2 + 1)).symm.trans r1
      rcases (by omega : toff + 0 * 2 + 1 = 1 ∨ toff + 0 * 2 + 1 = 2 ∨ toff + 0 * 2 + 1 = 3 ∨ 4 ≤ toff + 0 * 2 + 1) with k | k | k | k
      · rw [k] at this; simp at this; have this : (0 : Int) = b := this; omega
      · rw [k] at this; simp at this; have this : (0 : Int) = b := this; omega
      · rw [k] at this; simp at this; have this : (0 : Int) = b := this; omega
      · rw [Array.getElem?_eq_none (by simpa using k)] at this; cases this
    rw [Nat.zero_mul, Nat.add_zero] at r0 r1
    rw [Nat.one_mul] at r2 r3
    have r0 : w2.cell? ⟨tb, toff, none⟩ = some (.int .i64 a) := r0
    have r1 : w2.cell? ⟨tb, toff + 1, none⟩ = some (.int .i64 b) := r1
    have r2 : w2.cell? ⟨tb, toff + 2, none⟩ = some (.int .i64 c) := r2
    have r3 : w2.cell? ⟨tb, toff + 2 + 1, none⟩ = some (.int .i64 d) := r3
    have hb1' := Lib.hid hb1
    clear hc hln htb hb1
    go_wp2_with fail
    have DP := D1
    obtain ⟨⟨x0, x1, x2, x3⟩, ⟨y0, y1, y2, y3⟩, xl⟩ := four_cells D1
    clear D1
    generalize hRX : w.heap.size + 1 = RX at x0 x1 x2 x3 y0 y1 y2 y3 xl hne DP ⊢
    have hRw : w.heap.size ≤ RX := by omega
    refine wp_region_held_drew (S := fun W => W.cell? ⟨tb, toff, none⟩ = some (.int .i64 a) ∧ W.cell? ⟨tb, toff + 1, none⟩ = some (.int .i64 b) ∧ W.cell? ⟨tb, toff + 2, none⟩ = some (.int .i64 c) ∧ W.cell? ⟨tb, toff + 2 + 1, none⟩ = some (.int .i64 d)) (by kernel_rfl) ⟨r0, r1, r2, r3⟩ (fun hHeld => ?_)
    refine wpAnyH_take (i := 0) (v := ?_) rfl (by kernel_rfl) (by kernel_rfl) (by kernel_rfl) (fun _ _ _ h => h) (Or.inl ⟨by rfl, ?_⟩) hHeld ?_
    rotate_left
    · intro w hSw; obtain ⟨s0, s1, s2, s3⟩ := hSw; go_simp; try with_reducible rfl
    try simp only [Act.put, List.getElem_toArray, List.getElem_cons_zero, List.getElem_cons_succ, List.setIfInBounds_toArray, List.set_cons_zero, List.set_cons_succ]
    refine wpAnyH_take (i := 1) (v := ?_) rfl (by kernel_rfl) (by kernel_rfl) (by kernel_rfl) (fun _ _ _ h => h) (Or.inl ⟨by rfl, ?_⟩) hHeld ?_
    rotate_left
    · intro w hSw; obtain ⟨s0, s1, s2, s3⟩ := hSw; go_simp; try with_reducible rfl
    try simp only [Act.put, List.getElem_toArray, List.getElem_cons_zero, List.getElem_cons_succ, List.setIfInBounds_toArray, List.set_cons_zero, List.set_cons_succ]
    refine wpAnyH_take (i := 2) (v := ?_) rfl (by kernel_rfl) (by kernel_rfl) (by kernel_rfl) (fun _ _ _ h => h) (Or.inl ⟨by rfl, ?_⟩) hHeld ?_
    rotate_left
    · intro w hSw; obtain ⟨s0, s1, s2, s3⟩ := hSw; go_simp; try with_reducible rfl
    try simp only [Act.put, List.getElem_toArray, List.getElem_cons_zero, List.getElem_cons_succ, List.setIfInBounds_toArray, List.set_cons_zero, List.set_cons_succ]
    refine wpAnyH_take (i := 3) (v := ?_) rfl (by kernel_rfl) (by kernel_rfl) (by kernel_rfl) (fun _ _ _ h => h) (Or.inl ⟨by rfl, ?_⟩) hHeld ?_
    rotate_left
    · intro w hSw; obtain ⟨s0, s1, s2, s3⟩ := hSw; go_simp; try with_reducible rfl
    try simp only [Act.put, List.getElem_toArray, List.getElem_cons_zero, List.getElem_cons_succ, List.setIfInBounds_toArray, List.set_cons_zero, List.set_cons_succ]
    refine wpAnyH_take (i := 4) (v := ?_) rfl (by kernel_rfl) (by kernel_rfl) (by kernel_rfl) (fun _ _ _ h => h) (Or.inl ⟨by rfl, ?_⟩) hHeld ?_
    rotate_left
    · intro w hSw; obtain ⟨s0, s1, s2, s3⟩ := hSw; go_simp; try with_reducible rfl
    try simp only [Act.put, List.getElem_toArray, List.getElem_cons_zero, List.getElem_cons_succ, List.setIfInBounds_toArray, List.set_cons_zero, List.set_cons_succ]
    refine wpAnyH_take (i := 5) (v := ?_) rfl (by kernel_rfl) (by kernel_rfl) (by kernel_rfl) (fun _ _ _ h => h) (Or.inl ⟨by rfl, ?_⟩) hHeld ?_
    rotate_left
    · intro w hSw; obtain ⟨s0, s1, s2, s3⟩ := hSw; go_simp; try with_reducible rfl
    try simp only [Act.put, List.getElem_toArray, List.getElem_cons_zero, List.getElem_cons_succ, List.setIfInBounds_toArray, List.set_cons_zero, List.set_cons_succ]
    refine wpAnyH_take (i := 6) (v := ?_) rfl (by kernel_rfl) (by kernel_rfl) (by kernel_rfl) (fun _ _ _ h => h) (Or.inl ⟨by rfl, ?_⟩) hHeld ?_
    rotate_left
    · intro w hSw; obtain ⟨s0, s1, s2, s3⟩ := hSw; go_simp; try with_reducible rfl
    try simp only [Act.put, List.getElem_toArray, List.getElem_cons_zero, List.getElem_cons_succ, List.setIfInBounds_toArray, List.set_cons_zero, List.set_cons_succ]
    refine wpAnyH_ready (rs := [7]) (by kernel_rfl) (by simp) (AllReadyH.cons rfl (fun K hK => ?_) AllReadyH.nil)
    go_simp
    refine hK.out _ _ ⟨(cell_far hne _ _ _).trans ((cell_far hne _ _ _).trans ((cell_far hne _ _ _).trans ((cell_far hne _ _ _).trans r0))), (cell_far hne _ _ _).trans ((cell_far hne _ _ _).trans ((cell_far hne _ _ _).trans ((cell_far hne _ _ _).trans r1))), (cell_far hne _ _ _).trans ((cell_far hne _ _ _).trans ((cell_far hne _ _ _).trans ((cell_far hne _ _ _).trans r2))), (cell_far hne _ _ _).trans ((cell_far hne _ _ _).trans ((cell_far hne _ _ _).trans ((cell_far hne _ _ _).trans r3)))⟩ (fun hNew => ?_)
    clear hHeld hK K hNew r0 r1 r2 r3 x0 x1 x2 x3 y0 y1 y2 y3
    refine wpAnyH_done (by kernel_rfl) ?_ _
    have KZ := dbm.drawn1 (put_four DB hRw (.int .i64 a) (.int .i64 b) (.int .i64 c) (.int .i64 d))
    have KP := six_drew (put_fourL DP (.int .i64 a) (.int .i64 b) (.int .i64 c) (.int .i64 d))
    obtain ⟨⟨x0, x1, x2, x3⟩, _, xl⟩ := four_cells KP
    clear KP DP
    go_wp2_with fail
    exact bodyPost_ret (v := .agg #[.int .i64 a, .int .i64 b, .int .i64 c, .int .i64 d]) (by simp [results, Tryz.results38, go_sem, x0, x1, x2, x3, xl]) rfl ⟨KZ, a, b, c, d, rfl, HPS.out⟩

set_option maxRecDepth 100000 in
set_option maxHeartbeats 4000000 in
theorem rpick_any (z0 z1 z2 z3 z4 z5 : Int) (w : World) (hlo : Low [z0, z1, z2, z3, z4, z5]) (htop : Tops [z0, z1, z2, z3, z4, z5]) : Calls Tryz.prog 15 #[.agg #[.int .i64 z0, .int .i64 z1, .int .i64 z2, .int .i64 z3, .int .i64 z4, .int .i64 z5]] w (Picks [z0, z1, z2, z3, z4, z5] w) := by
  have DB := bound.up2 w (.cells #[.int .i64 z0, .int .i64 z1, .int .i64 z2, .int .i64 z3, .int .i64 z4, .int .i64 z5] 24) (.cells #[.int .i64 0, .int .i64 0, .int .i64 0, .int .i64 0] 31)
  have D0 := lies.on_alloc (lies.made w 24 #[.int .i64 z0, .int .i64 z1, .int .i64 z2, .int .i64 z3, .int .i64 z4, .int .i64 z5]) (.cells #[.int .i64 0, .int .i64 0, .int .i64 0, .int .i64 0] 31)
  have D1 := lies.made_at (w.alloc (.cells #[.int .i64 z0, .int .i64 z1, .int .i64 z2, .int .i64 z3, .int .i64 z4, .int .i64 z5] 24)) 31 #[.int .i64 0, .int .i64 0, .int .i64 0, .int .i64 0] (w.heap.size + 1) (by simp)
  have HL := Lib.hid hlo
  have HT := Lib.hid htop
  clear hlo htop
  go_enter Tryz.func15, Tryz.ntmps15
  obtain ⟨⟨c0, c1, c2, c3, c4, c5⟩, _⟩ := six_cells D0
  have cl := lies.lt D0
  go_wp2_with fail
  clear c0 c1 c2 c3 c4 c5 cl
  generalize (w.alloc (.cells #[.int .i64 z0, .int .i64 z1, .int .i64 z2, .int .i64 z3, .int .i64 z4, .int .i64 z5] 24)).alloc (.cells #[.int .i64 0, .int .i64 0, .int .i64 0, .int .i64 0] 31) = w0 at DB D0 D1 ⊢
  refine (rmay_any z0 z1 z2 z3 z4 z5 w0 HL.out HT.out).mono ?_
  rintro e w1 ⟨hB, r, rfl, hr⟩
  replace D0 := lies.on_call D0 hB
  replace D1 := lies.on_call D1 hB
  replace DB := later DB hB
  clear hB
  by_cases hz : MayZ [z0, z1, z2, z3, z4, z5]
  · obtain rfl : r = true := hr.2 hz
    have HZ := Lib.hid hz
    clear hr hz
    obtain ⟨⟨c0, c1, c2, c3, c4, c5⟩, _⟩ := six_cells D0
    have cl := lies.lt D0
    go_wp2_with fail
    clear c0 c1 c2 c3 c4 c5 cl D0
    refine (rpicked_any z0 z1 z2 z3 z4 z5 w1 HZ.out HT.out).mono ?_
    rintro e w2 ⟨hB, a, b, c, d, rfl, hp⟩
    replace D1 := lies.on_call D1 hB
    replace DB := later DB hB
    have HP := Lib.hid hp
    clear hB hp
    obtain ⟨⟨x0, x1, x2, x3⟩, ⟨y0, y1, y2, y3⟩, xl⟩ := four_cells D1
    go_wp2_with fail
    exact bodyPost_ret (v := .tuple #[.agg #[.int .i64 a, .int .i64 b, .int .i64 c, .int .i64 d], .int .i64 0]) (by simp [results, Tryz.results15, go_sem, x0, x1, x2, x3, xl]) rfl ⟨put_four DB (Nat.le_succ _) _ _ _ _, a, b, c, d, 0, rfl, .inr ⟨HZ.out, HP.out, rfl⟩⟩
  · obtain rfl : r = false := bool_not hr hz
    have HZ := Lib.hid hz
    clear hr hz D0
    obtain ⟨⟨x0, x1, x2, x3⟩, ⟨y0, y1, y2, y3⟩, xl⟩ := four_cells D1
    go_wp2_with fail
    exact bodyPost_ret (v := .tuple #[.agg #[.int .i64 0, .int .i64 0, .int .i64 0, .int .i64 0], .int .i64 8]) (by simp [results, Tryz.results15, go_sem, x0, x1, x2, x3, xl]) rfl ⟨put_four DB (Nat.le_succ _) _ _ _ _, 0, 0, 0, 0, 8, rfl, .inl ⟨HZ.out, rfl, rfl, rfl, rfl, rfl⟩⟩
end Go.Proofs.YtklejbheieceeaaGreatDoor.zref
