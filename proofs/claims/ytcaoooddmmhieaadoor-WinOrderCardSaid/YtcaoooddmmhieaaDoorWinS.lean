/-
  What Shift answers, in one form; each theorem names its conditions.
-/
import Derived.Test.YtcaoooddmmhieaaDoorWinE
namespace Go.Proofs.YtcaoooddmmhieaaDoor.win
open Go.Joins Go.ChangeShapes Go.WideShapes Go.ChangeAt Go.RowKit num rat dbm Go.Proofs.YtcaoooddmmhieaaDoor.tight Go.Proofs.YtcaoooddmmhieaaDoor.plaw Go.Proofs.YtcaoooddmmhieaaDoor.zopen Go.Proofs.YtcaoooddmmhieaaDoor.zone
open bound hiding up
open Go.Proofs.YtcaoooddmmhieaaDoor.comp (five_cells put_five six_fine)
set_option linter.unusedVariables false
set_option linter.unusedSimpArgs false

theorem later_iff {z : List Int} {k : Int} (tz : Tops z) (h : MayZ z) (hk : In k) : MayZ (laterT z k) ↔ MayD 3 (fullT (laterT z k)) := ⟨fun q => q.may, later_may tz h hk⟩
theorem later_is (a0 a1 a2 a3 a4 a5 k : Int) : laterT [a0, a1, a2, a3, a4, a5] k = [shB a0 k, shB a1 (-k), shB a2 k, shB a3 (-k), a4, a5] := rfl

set_option maxRecDepth 100000 in
set_option maxHeartbeats 8000000 in
theorem shift_any (a0 a1 a2 a3 a4 a5 k : Int) (w : World) (hP : Pl w) (ta : Tops [a0, a1, a2, a3, a4, a5]) : Calls Tryd.prog 13 #[.agg #[.int .i64 a0, .int .i64 a1, .int .i64 a2, .int .i64 a3, .int .i64 a4, .int .i64 a5], .int .i64 k] w (Zs (ShiftR [a0, a1, a2, a3, a4, a5] k) w) := by
  have X : ∃ w0, w0 = (w.alloc (.cells #[.int .i64 a0, .int .i64 a1, .int .i64 a2, .int .i64 a3, .int .i64 a4, .int .i64 a5] 24)).alloc (.cells #[.int .i64 0, .int .i64 0, .int .i64 0, .int .i64 0, .int .i64 0, .int .i64 0] 24) := ⟨_, rfl⟩
  obtain ⟨w0, hX⟩ := X
  have DB : Below w.heap.size w w0 := by rw [hX]; exact bound.up2 _ _ _
  have D0 : lies.Lies w0 w.heap.size 24 #[.int .i64 a0, .int .i64 a1, .int .i64 a2, .int .i64 a3, .int .i64 a4, .int .i64 a5] := by rw [hX]; exact lies.on_alloc (lies.made _ _ _) _
  have D2 : lies.Lies w0 (w.heap.size + 1) 24 #[.int .i64 0, .int .i64 0, .int .i64 0, .int .i64 0, .int .i64 0, .int .i64 0] := by rw [hX]; exact lies.made_at _ _ _ _ (by simp)
  have hR : w.heap.size ≤ w.heap.size + 1 := by omega
  have P0 := hP.on DB
  have HP := Lib.hid hP
  have HTA := Lib.hid ta
  clear hP ta
  go_enter Tryd.func13, Tryd.ntmps13
  obtain ⟨⟨kD0_0, kD0_1, kD0_2, kD0_3, kD0_4, kD0_5⟩, -⟩ := six_cells D0
  have kD0_l := lies.lt D0
  go_wp2_with fail
  clear kD0_0 kD0_1 kD0_2 kD0_3 kD0_4 kD0_5 kD0_l
  rw [← hX]
  clear hX
  refine (zone.check_any a0 a1 a2 a3 a4 a5 w0 P0 HTA.out).mono ?_
  rintro e w1 ⟨hB, f, rfl, hc⟩
  replace D0 := lies.on_call D0 hB
  replace D2 := lies.on_call D2 hB
  replace P0 := P0.on hB
  replace DB := later DB hB
  clear hB
  rcases hc with ⟨hma, rfl⟩ | ⟨hma, rfl⟩
  · have HA := Lib.hid hma
    clear hma
    go_wp2_with fail
    by_cases hk : In k
    · have HK := Lib.hid hk
      refine (beyond_no k _ hk).mono ?_
      rintro e wN ⟨rfl, hw⟩
      subst hw
      have q1 : wrap64 (-k) = -k := by unfold In at hk; exact IntWalk.wrap64_in _ ⟨by omega, by omega⟩
      have q2 : IntKind.i64.wrap (-k) = -k := (IntWalk.i64_left _).trans q1
      clear hk
      go_wp2_with fail
      clear q1 q2
      have HF := Lib.hid (six_fine HA.out.may)
      have hDr := dbm.drawn1 (Below.refl w1.heap.size w1)
      replace D0 := lies.on_call D0 hDr
      replace D2 := lies.on_call D2 hDr
      replace P0 := P0.on hDr
      replace DB := later DB hDr
      refine till.begin 17 (fun W => lies.Lies W w.heap.size 24 #[.int .i64 a0, .int .i64 a1, .int .i64 a2, .int .i64 a3, .int .i64 a4, .int .i64 a5]) (by kernel_rfl) D0 (fun hHeld => ?_)
      clear hDr
      generalize w1.drew = wD at D0 D2 P0 DB hHeld ⊢
      refine till.Goes.take0 (i := 0) (v := ?_) rfl (by kernel_rfl) (by kernel_rfl) (by kernel_rfl) (fun _ _ _ h => h) (by decide) (Or.inl ⟨by rfl, ?_⟩) hHeld ?_
      rotate_left
      · intro w _; go_simp; try with_reducible rfl
      try simp only [Act.put, List.getElem_toArray, List.getElem_cons_zero, List.getElem_cons_succ, List.setIfInBounds_toArray, List.set_cons_zero, List.set_cons_succ]
      refine till.Goes.take0 (i := 1) (v := ?_) rfl (by kernel_rfl) (by kernel_rfl) (by kernel_rfl) (fun _ _ _ h => h) (by decide) (Or.inl ⟨by rfl, ?_⟩) hHeld ?_
      rotate_left
      · intro w _; go_simp; try with_reducible rfl
      try simp only [Act.put, List.getElem_toArray, List.getElem_cons_zero, List.getElem_cons_succ, List.setIfInBounds_toArray, List.set_cons_zero, List.set_cons_succ]
      refine till.Goes.take (i := 2) (v := ?_) rfl (by kernel_rfl) (by kernel_rfl) (by kernel_rfl) (fun _ _ _ h => h) (by kernel_rfl) (by kernel_rfl) (Or.inl ⟨by rfl, ?_⟩) hHeld ?_
      rotate_left
      · intro w hSw; obtain ⟨⟨c0, c1, c2, c3, c4, c5⟩, _⟩ := six_cells hSw; go_simp; try with_reducible rfl
      try simp only [Act.put, List.getElem_toArray, List.getElem_cons_zero, List.getElem_cons_succ, List.setIfInBounds_toArray, List.set_cons_zero, List.set_cons_succ]
      refine till.Goes.take0 (i := 4) (v := ?_) rfl (by kernel_rfl) (by kernel_rfl) (by kernel_rfl) (fun _ _ _ h => h) (by decide) (Or.inl ⟨by rfl, ?_⟩) hHeld ?_
      rotate_left
      · intro w _; go_simp; try with_reducible rfl
      try simp only [Act.put, List.getElem_toArray, List.getElem_cons_zero, List.getElem_cons_succ, List.setIfInBounds_toArray, List.set_cons_zero, List.set_cons_succ]
      refine till.Goes.take0 (i := 5) (v := ?_) rfl (by kernel_rfl) (by kernel_rfl) (by kernel_rfl) (fun _ _ _ h => h) (by decide) (Or.inl ⟨by rfl, ?_⟩) hHeld ?_
      rotate_left
      · intro w _; go_simp; try with_reducible rfl
      try simp only [Act.put, List.getElem_toArray, List.getElem_cons_zero, List.getElem_cons_succ, List.setIfInBounds_toArray, List.set_cons_zero, List.set_cons_succ]
      refine till.Goes.take (i := 6) (v := ?_) rfl (by kernel_rfl) (by kernel_rfl) (by kernel_rfl) (fun _ _ _ h => h) (by kernel_rfl) (by kernel_rfl) (Or.inl ⟨by rfl, ?_⟩) hHeld ?_
      rotate_left
      · intro w hSw; obtain ⟨⟨c0, c1, c2, c3, c4, c5⟩, _⟩ := six_cells hSw; go_simp; try with_reducible rfl
      try simp only [Act.put, List.getElem_toArray, List.getElem_cons_zero, List.getElem_cons_succ, List.setIfInBounds_toArray, List.set_cons_zero, List.set_cons_succ]
      refine till.Goes.take0 (i := 8) (v := ?_) rfl (by kernel_rfl) (by kernel_rfl) (by kernel_rfl) (fun _ _ _ h => h) (by decide) (Or.inl ⟨by rfl, ?_⟩) hHeld ?_
      rotate_left
      · intro w _; go_simp; try with_reducible rfl
      try simp only [Act.put, List.getElem_toArray, List.getElem_cons_zero, List.getElem_cons_succ, List.setIfInBounds_toArray, List.set_cons_zero, List.set_cons_succ]
      refine till.Goes.take0 (i := 9) (v := ?_) rfl (by kernel_rfl) (by kernel_rfl) (by kernel_rfl) (fun _ _ _ h => h) (by decide) (Or.inl ⟨by rfl, ?_⟩) hHeld ?_
      rotate_left
      · intro w _; go_simp; try with_reducible rfl
      try simp only [Act.put, List.getElem_toArray, List.getElem_cons_zero, List.getElem_cons_succ, List.setIfInBounds_toArray, List.set_cons_zero, List.set_cons_succ]
      refine till.Goes.take (i := 10) (v := ?_) rfl (by kernel_rfl) (by kernel_rfl) (by kernel_rfl) (fun _ _ _ h => h) (by kernel_rfl) (by kernel_rfl) (Or.inl ⟨by rfl, ?_⟩) hHeld ?_
      rotate_left
      · intro w hSw; obtain ⟨⟨c0, c1, c2, c3, c4, c5⟩, _⟩ := six_cells hSw; go_simp; try with_reducible rfl
      try simp only [Act.put, List.getElem_toArray, List.getElem_cons_zero, List.getElem_cons_succ, List.setIfInBounds_toArray, List.set_cons_zero, List.set_cons_succ]
      refine till.Goes.take0 (i := 12) (v := ?_) rfl (by kernel_rfl) (by kernel_rfl) (by kernel_rfl) (fun _ _ _ h => h) (by decide) (Or.inl ⟨by rfl, ?_⟩) hHeld ?_
      rotate_left
      · intro w _; go_simp; try with_reducible rfl
      try simp only [Act.put, List.getElem_toArray, List.getElem_cons_zero, List.getElem_cons_succ, List.setIfInBounds_toArray, List.set_cons_zero, List.set_cons_succ]
      refine till.Goes.take0 (i := 13) (v := ?_) rfl (by kernel_rfl) (by kernel_rfl) (by kernel_rfl) (fun _ _ _ h => h) (by decide) (Or.inl ⟨by rfl, ?_⟩) hHeld ?_
      rotate_left
      · intro w _; go_simp; try with_reducible rfl
      try simp only [Act.put, List.getElem_toArray, List.getElem_cons_zero, List.getElem_cons_succ, List.setIfInBounds_toArray, List.set_cons_zero, List.set_cons_succ]
      refine till.Goes.take (i := 14) (v := ?_) rfl (by kernel_rfl) (by kernel_rfl) (by kernel_rfl) (fun _ _ _ h => h) (by kernel_rfl) (by kernel_rfl) (Or.inl ⟨by rfl, ?_⟩) hHeld ?_
      rotate_left
      · intro w hSw; obtain ⟨⟨c0, c1, c2, c3, c4, c5⟩, _⟩ := six_cells hSw; go_simp; try with_reducible rfl
      try simp only [Act.put, List.getElem_toArray, List.getElem_cons_zero, List.getElem_cons_succ, List.setIfInBounds_toArray, List.set_cons_zero, List.set_cons_succ]
      refine till.Goes.next (i := 3) (by kernel_rfl) rfl (fun K hK => ?_)
      go_simp
      refine (moved_is k a0 wD (HF.out 0 (by decide)) HK.out).mono ?_
      rintro e wE0 ⟨rfl, hB⟩
      replace D0 := lies.on_call D0 hB
      replace D2 := lies.on_call D2 hB
      replace P0 := P0.on hB
      replace DB := later DB hB
      refine hK.out _ _ D0 (fun hNew => ?_)
      clear hB
      clear hHeld hK K
      have hHeld := hNew
      clear hNew
      try simp only [Act.put, List.getElem_toArray, List.getElem_cons_zero, List.getElem_cons_succ, List.setIfInBounds_toArray, List.set_cons_zero, List.set_cons_succ]
      refine till.Goes.take (i := 16) (v := ?_) rfl (by kernel_rfl) (by kernel_rfl) (by kernel_rfl) (fun _ _ _ h => h) (by kernel_rfl) (by kernel_rfl) (Or.inl ⟨by rfl, ?_⟩) hHeld ?_
      rotate_left
      · intro w hSw; skip; go_simp; try with_reducible rfl
      try simp only [Act.put, List.getElem_toArray, List.getElem_cons_zero, List.getElem_cons_succ, List.setIfInBounds_toArray, List.set_cons_zero, List.set_cons_succ]
      refine till.Goes.next (i := 7) (by kernel_rfl) rfl (fun K hK => ?_)
      go_simp
      refine (moved_is (-k) a1 wE0 (HF.out 1 (by decide)) (in_neg HK.out)).mono ?_
      rintro e wE1 ⟨rfl, hB⟩
      replace D0 := lies.on_call D0 hB
      replace D2 := lies.on_call D2 hB
      replace P0 := P0.on hB
      replace DB := later DB hB
      refine hK.out _ _ D0 (fun hNew => ?_)
      clear hB
      clear hHeld hK K
      have hHeld := hNew
      clear hNew
      try simp only [Act.put, List.getElem_toArray, List.getElem_cons_zero, List.getElem_cons_succ, List.setIfInBounds_toArray, List.set_cons_zero, List.set_cons_succ]
      refine till.Goes.next (i := 11) (by kernel_rfl) rfl (fun K hK => ?_)
      go_simp
      refine (moved_is k a2 wE1 (HF.out 2 (by decide)) HK.out).mono ?_
      rintro e wE2 ⟨rfl, hB⟩
      replace D0 := lies.on_call D0 hB
      replace D2 := lies.on_call D2 hB
      replace P0 := P0.on hB
      replace DB := later DB hB
      refine hK.out _ _ D0 (fun hNew => ?_)
      clear hB
      clear hHeld hK K
      have hHeld := hNew
      clear hNew
      try simp only [Act.put, List.getElem_toArray, List.getElem_cons_zero, List.getElem_cons_succ, List.setIfInBounds_toArray, List.set_cons_zero, List.set_cons_succ]
      refine till.Goes.next (i := 15) (by kernel_rfl) rfl (fun K hK => ?_)
      go_simp
      refine (moved_is (-k) a3 wE2 (HF.out 3 (by decide)) (in_neg HK.out)).mono ?_
      rintro e wE3 ⟨rfl, hB⟩
      replace D0 := lies.on_call D0 hB
      replace D2 := lies.on_call D2 hB
      replace P0 := P0.on hB
      replace DB := later DB hB
      refine hK.out _ _ D0 (fun hNew => ?_)
      clear hB
      clear hHeld hK K
      have hHeld := hNew
      clear hNew
      try simp only [Act.put, List.getElem_toArray, List.getElem_cons_zero, List.getElem_cons_succ, List.setIfInBounds_toArray, List.set_cons_zero, List.set_cons_succ]
      obtain ⟨⟨c0, c1, c2, c3, c4, c5⟩, ⟨f0, f1, f2, f3, f4, f5⟩, cl⟩ := six_cells D0
      have hne : w.heap.size + 1 ≠ w.heap.size := by omega
      refine till.Goes.turn (fun _ => True) (by kernel_rfl) rfl (by kernel_rfl) (fun K hK => ?_)
      go_simp
      replace D2 := lies.on_far D2 (b := w.heap.size) 0 hne (.int .i64 (shB a0 k))
      replace DB := DB.setCell (p := ⟨w.heap.size, 0, none⟩) (Nat.le_refl _) (.int .i64 (shB a0 k))
      have D0 : lies.Lies _ _ _ #[.int .i64 (shB a0 k), .int .i64 (a1), .int .i64 (a2), .int .i64 (a3), .int .i64 (a4), .int .i64 (a5)] := lies.on_put D0 0 (.int .i64 (shB a0 k))
      refine hK.out _ _ trivial (fun hNew => ?_)
      clear c0 c1 c2 c3 c4 c5 f0 f1 f2 f3 f4 f5 cl P0
      clear hHeld hK K
      have hHeld := hNew
      clear hNew
      try simp only [Act.put, List.getElem_toArray, List.getElem_cons_zero, List.getElem_cons_succ, List.setIfInBounds_toArray, List.set_cons_zero, List.set_cons_succ]
      generalize World.setCell wE3 ⟨w.heap.size, 0, none⟩ (.int .i64 (shB a0 k)) = wS0 at D0 D2 DB hHeld ⊢
      obtain ⟨⟨c0, c1, c2, c3, c4, c5⟩, ⟨f0, f1, f2, f3, f4, f5⟩, cl⟩ := six_cells D0
      refine wpAnyH_take (i := 18) (v := ?_) rfl (by kernel_rfl) (by kernel_rfl) (by kernel_rfl) (fun _ _ _ h => h) (Or.inl ⟨by rfl, ?_⟩) hHeld ?_
      rotate_left
      · intro w hSw; skip; go_simp; try with_reducible rfl
      try simp only [Act.put, List.getElem_toArray, List.getElem_cons_zero, List.getElem_cons_succ, List.setIfInBounds_toArray, List.set_cons_zero, List.set_cons_succ]
      refine wpAnyH_ready (rs := [19]) (by kernel_rfl) (by simp) (AllReadyH.cons rfl (fun K hK => ?_) AllReadyH.nil)
      go_simp
      replace D2 := lies.on_far D2 (b := w.heap.size) 1 hne (.int .i64 (shB a1 (-k)))
      replace DB := DB.setCell (p := ⟨w.heap.size, 1, none⟩) (Nat.le_refl _) (.int .i64 (shB a1 (-k)))
      have D0 : lies.Lies _ _ _ #[.int .i64 (shB a0 k), .int .i64 (shB a1 (-k)), .int .i64 (a2), .int .i64 (a3), .int .i64 (a4), .int .i64 (a5)] := lies.on_put D0 1 (.int .i64 (shB a1 (-k)))
      refine hK.out _ _ trivial (fun hNew => ?_)
      clear c0 c1 c2 c3 c4 c5 f0 f1 f2 f3 f4 f5 cl
      clear hHeld hK K
      have hHeld := hNew
      clear hNew
      try simp only [Act.put, List.getElem_toArray, List.getElem_cons_zero, List.getElem_cons_succ, List.setIfInBounds_toArray, List.set_cons_zero, List.set_cons_succ]
      generalize World.setCell wS0 ⟨w.heap.size, 1, none⟩ (.int .i64 (shB a1 (-k))) = wS1 at D0 D2 DB hHeld ⊢
      obtain ⟨⟨c0, c1, c2, c3, c4, c5⟩, ⟨f0, f1, f2, f3, f4, f5⟩, cl⟩ := six_cells D0
      refine wpAnyH_take (i := 20) (v := ?_) rfl (by kernel_rfl) (by kernel_rfl) (by kernel_rfl) (fun _ _ _ h => h) (Or.inl ⟨by rfl, ?_⟩) hHeld ?_
      rotate_left
      · intro w hSw; skip; go_simp; try with_reducible rfl
      try simp only [Act.put, List.getElem_toArray, List.getElem_cons_zero, List.getElem_cons_succ, List.setIfInBounds_toArray, List.set_cons_zero, List.set_cons_succ]
      refine wpAnyH_ready (rs := [21]) (by kernel_rfl) (by simp) (AllReadyH.cons rfl (fun K hK => ?_) AllReadyH.nil)
      go_simp
      replace D2 := lies.on_far D2 (b := w.heap.size) 2 hne (.int .i64 (shB a2 k))
      replace DB := DB.setCell (p := ⟨w.heap.size, 2, none⟩) (Nat.le_refl _) (.int .i64 (shB a2 k))
      have D0 : lies.Lies _ _ _ #[.int .i64 (shB a0 k), .int .i64 (shB a1 (-k)), .int .i64 (shB a2 k), .int .i64 (a3), .int .i64 (a4), .int .i64 (a5)] := lies.on_put D0 2 (.int .i64 (shB a2 k))
      refine hK.out _ _ trivial (fun hNew => ?_)
      clear c0 c1 c2 c3 c4 c5 f0 f1 f2 f3 f4 f5 cl
      clear hHeld hK K
      have hHeld := hNew
      clear hNew
      try simp only [Act.put, List.getElem_toArray, List.getElem_cons_zero, List.getElem_cons_succ, List.setIfInBounds_toArray, List.set_cons_zero, List.set_cons_succ]
      generalize World.setCell wS1 ⟨w.heap.size, 2, none⟩ (.int .i64 (shB a2 k)) = wS2 at D0 D2 DB hHeld ⊢
      obtain ⟨⟨c0, c1, c2, c3, c4, c5⟩, ⟨f0, f1, f2, f3, f4, f5⟩, cl⟩ := six_cells D0
      refine wpAnyH_take (i := 22) (v := ?_) rfl (by kernel_rfl) (by kernel_rfl) (by kernel_rfl) (fun _ _ _ h => h) (Or.inl ⟨by rfl, ?_⟩) hHeld ?_
      rotate_left
      · intro w hSw; skip; go_simp; try with_reducible rfl
      try simp only [Act.put, List.getElem_toArray, List.getElem_cons_zero, List.getElem_cons_succ, List.setIfInBounds_toArray, List.set_cons_zero, List.set_cons_succ]
      refine wpAnyH_ready (rs := [23]) (by kernel_rfl) (by simp) (AllReadyH.cons rfl (fun K hK => ?_) AllReadyH.nil)
      go_simp
      replace D2 := lies.on_far D2 (b := w.heap.size) 3 hne (.int .i64 (shB a3 (-k)))
      replace DB := DB.setCell (p := ⟨w.heap.size, 3, none⟩) (Nat.le_refl _) (.int .i64 (shB a3 (-k)))
      have D0 : lies.Lies _ _ _ #[.int .i64 (shB a0 k), .int .i64 (shB a1 (-k)), .int .i64 (shB a2 k), .int .i64 (shB a3 (-k)), .int .i64 (a4), .int .i64 (a5)] := lies.on_put D0 3 (.int .i64 (shB a3 (-k)))
      refine hK.out _ _ trivial (fun hNew => ?_)
      clear c0 c1 c2 c3 c4 c5 f0 f1 f2 f3 f4 f5 cl
      clear hHeld hK K
      have hHeld := hNew
      clear hNew
      try simp only [Act.put, List.getElem_toArray, List.getElem_cons_zero, List.getElem_cons_succ, List.setIfInBounds_toArray, List.set_cons_zero, List.set_cons_succ]
      generalize World.setCell wS2 ⟨w.heap.size, 3, none⟩ (.int .i64 (shB a3 (-k))) = wS3 at D0 D2 DB hHeld ⊢
      obtain ⟨⟨c0, c1, c2, c3, c4, c5⟩, ⟨f0, f1, f2, f3, f4, f5⟩, cl⟩ := six_cells D0
      refine wpAnyH_done (by kernel_rfl) ?_ _
      clear hHeld f0 f1 f2 f3 f4 f5
      have HT := Lib.hid (show Tops [shB a0 k, shB a1 (-k), shB a2 k, shB a3 (-k), a4, a5] from later_tops (z := [a0, a1, a2, a3, a4, a5]) HA.out.may HK.out)
      go_wp2_with fail
      clear c0 c1 c2 c3 c4 c5 cl
      have P0 := HP.out.on DB
      refine (zone.check_any _ _ _ _ _ _ wS3 P0 HT.out).mono ?_
      rintro e w2 ⟨hB, f, rfl, hc⟩
      replace D0 := lies.on_call D0 hB
      replace D2 := lies.on_call D2 hB
      replace P0 := P0.on hB
      replace DB := later DB hB
      clear hB
      rcases hc with ⟨hmb, rfl⟩ | ⟨hmb, rfl⟩
      · have HB := Lib.hid (show MayZ (laterT [a0, a1, a2, a3, a4, a5] k) from hmb)
        obtain ⟨⟨kD0_0, kD0_1, kD0_2, kD0_3, kD0_4, kD0_5⟩, -⟩ := six_cells D0
        have kD0_l := lies.lt D0
        clear hmb
        obtain ⟨⟨x0, x1, x2, x3, x4, x5⟩, ⟨y0, y1, y2, y3, y4, y5⟩, xl⟩ := six_cells D2
        clear D2
        go_wp2_with fail
        exact bodyPost_ret (v := .tuple #[.agg #[.int .i64 (shB a0 k), .int .i64 (shB a1 (-k)), .int .i64 (shB a2 k), .int .i64 (shB a3 (-k)), .int .i64 a4, .int .i64 a5], .int .i64 0]) (by simp [results, Tryd.results13, go_sem, x0, x1, x2, x3, x4, x5, xl]) rfl ⟨put_six DB hR _ _ _ _ _ _, _, _, _, _, _, _, 0, rfl, .inr (.inr (.inr ⟨HA.out, HK.out, HB.out, rfl, rfl⟩))⟩
      · have HB := Lib.hid (show ¬ MayZ (laterT [a0, a1, a2, a3, a4, a5] k) from hmb)
        clear hmb
        clear D0
        obtain ⟨⟨x0, x1, x2, x3, x4, x5⟩, ⟨y0, y1, y2, y3, y4, y5⟩, xl⟩ := six_cells D2
        clear D2
        go_wp2_with fail
        exact bodyPost_ret (v := .tuple #[.agg #[.int .i64 0, .int .i64 0, .int .i64 0, .int .i64 0, .int .i64 0, .int .i64 0], .int .i64 8]) (by simp [results, Tryd.results13, go_sem, x0, x1, x2, x3, x4, x5, xl]) rfl ⟨put_six DB hR _ _ _ _ _ _, 0, 0, 0, 0, 0, 0, 8, rfl, .inr (.inr (.inl ⟨HA.out, HK.out, HB.out, rfl, rfl⟩))⟩
    · have HN := Lib.hid hk
      refine (beyond_yes k _ hk).mono ?_
      rintro e wN ⟨rfl, hw⟩
      subst hw
      clear hk
      clear D0
      obtain ⟨⟨x0, x1, x2, x3, x4, x5⟩, ⟨y0, y1, y2, y3, y4, y5⟩, xl⟩ := six_cells D2
      clear D2
      go_wp2_with fail
      exact bodyPost_ret (v := .tuple #[.agg #[.int .i64 0, .int .i64 0, .int .i64 0, .int .i64 0, .int .i64 0, .int .i64 0], .int .i64 2]) (by simp [results, Tryd.results13, go_sem, x0, x1, x2, x3, x4, x5, xl]) rfl ⟨put_six DB hR _ _ _ _ _ _, 0, 0, 0, 0, 0, 0, 2, rfl, .inr (.inl ⟨HA.out, HN.out, rfl, rfl⟩)⟩
  · have HA := Lib.hid hma
    clear hma
    clear D0
    obtain ⟨⟨x0, x1, x2, x3, x4, x5⟩, ⟨y0, y1, y2, y3, y4, y5⟩, xl⟩ := six_cells D2
    clear D2
    go_wp2_with fail
    exact bodyPost_ret (v := .tuple #[.agg #[.int .i64 0, .int .i64 0, .int .i64 0, .int .i64 0, .int .i64 0, .int .i64 0], .int .i64 8]) (by simp [results, Tryd.results13, go_sem, x0, x1, x2, x3, x4, x5, xl]) rfl ⟨put_six DB hR _ _ _ _ _ _, 0, 0, 0, 0, 0, 0, 8, rfl, .inl ⟨HA.out, rfl, rfl⟩⟩
end Go.Proofs.YtcaoooddmmhieaaDoor.win
