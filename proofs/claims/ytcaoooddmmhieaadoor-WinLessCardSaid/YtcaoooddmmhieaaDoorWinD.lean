/-
  Package win, its own helpers: what may be a number, a bound moved, a zone with two bounds more; each theorem names its conditions.
-/
import Derived.Test.YtcaoooddmmhieaaDoorZoneF
import Derived.Test.YtcaoooddmmhieaaDoorWinA
import Derived.Test.YtcaoooddmmhieaaDoorWinB
namespace Go.Proofs.YtcaoooddmmhieaaDoor.win
open Go.Joins Go.ChangeShapes Go.WideShapes Go.ChangeAt Go.RowKit num rat dbm Go.Proofs.YtcaoooddmmhieaaDoor.tight Go.Proofs.YtcaoooddmmhieaaDoor.plaw Go.Proofs.YtcaoooddmmhieaaDoor.zopen Go.Proofs.YtcaoooddmmhieaaDoor.zone
open bound hiding up
set_option linter.unusedVariables false
set_option linter.unusedSimpArgs false

theorem beyond_no (c : Int) (w : World) (h : In c) : Calls Tryd.prog 28 #[.int .i64 c] w fun e w' => e = .returned (.bool false) ∧ w = w' := by
  obtain ⟨h1, h2⟩ := h
  have t1 : ¬ c < -288230376151711744 := by omega
  have t2 : ¬ 288230376151711744 < c := by omega
  go_enter Tryd.func28, Tryd.ntmps28
  go_wp2_with fail
  go_ret
  exact ⟨rfl, rfl⟩
theorem beyond_yes (c : Int) (w : World) (h : ¬ In c) : Calls Tryd.prog 28 #[.int .i64 c] w fun e w' => e = .returned (.bool true) ∧ w = w' := by
  by_cases h1 : c < -288230376151711744
  · clear h
    go_enter Tryd.func28, Tryd.ntmps28
    go_wp2_with fail
    go_ret
    exact ⟨rfl, rfl⟩
  · have h2 : 288230376151711744 < c := by unfold In at h; omega
    clear h
    go_enter Tryd.func28, Tryd.ntmps28
    go_wp2_with fail
    go_ret
    exact ⟨rfl, rfl⟩
theorem fine_bad {b : Int} (h : Fine b) : ¬ badB b := fun k => by
  rcases h with h | h
  · exact k.1 h
  · exact k.2 (by unfold May; omega)
theorem add_moved {b d : Int} (hb : Fine b) (hd : In d) : sumV b (2 * d + 1) = shB b d := by
  have h2 : Fine (2 * d + 1) := .inr (by unfold In at hd; omega)
  unfold sumV shB
  rw [if_neg (fun k => k.elim (fine_bad hb) (fine_bad h2))]
  by_cases e : b = 9223372036854775807
  · rw [if_pos (.inl e), if_pos e, e]
  · have hb' := hb.resolve_left e
    have h3 : ¬ (b = 9223372036854775807 ∨ 2 * d + 1 = 9223372036854775807) := fun k => by
      rcases k with k | k
      · exact e k
      · unfold In at hd; omega
    have h4 : May (b / 2 + (2 * d + 1) / 2) := by unfold In at hd; unfold May; omega
    rw [if_neg h3, if_pos h4, if_neg e]
    have e2 : bS (2 * d + 1) = false := by unfold bS; exact decide_eq_false (by omega)
    rw [e2, Bool.or_false]
    unfold mk bS
    by_cases h : b % 2 = 0
    · rw [decide_eq_true h, if_pos rfl]; omega
    · rw [decide_eq_false h, if_neg (by decide)]; omega
set_option maxRecDepth 100000 in
theorem moved_is (d b : Int) (w : World) (hb : Fine b) (hd : In d) : Calls Tryd.prog 35 #[.int .i64 d, .int .i64 b] w fun e w' => e = .returned (.int .i64 (shB b d)) ∧ Below w.heap.size w w' := by
  have HM := Lib.hid (show May d from by unfold In at hd; unfold May; omega)
  have hE := add_moved hb hd
  have HT := Lib.hid (And.intro (fine_le hb) (show 2 * d + 1 ≤ 9223372036854775807 from by unfold In at hd; omega))
  rw [← hE]
  clear hb hd hE
  go_enter Tryd.func35, Tryd.ntmps35
  go_wp2_with fail
  refine (bound.most_ok d w HM.out).mono ?_
  rintro e w1 ⟨rfl, hB⟩
  go_wp2_with fail
  refine (bound.add2_any b (2 * d + 1) w1 HT.out.1 HT.out.2).mono ?_
  rintro e w2 ⟨rfl, hB2⟩
  replace hB := later hB hB2
  clear hB2
  go_wp2_with fail
  go_ret
  exact ⟨rfl, hB⟩
/-- two bounds more, as they lie. -/
def Mo2 (W : World) (g : Nat) (a H b L : Int) : Prop := W.cell? ⟨g, 0, none⟩ = some (.int .i64 a) ∧ W.cell? ⟨g, 1, none⟩ = some (.int .i64 H) ∧ W.cell? ⟨g, 2, none⟩ = some (.int .i64 b) ∧ W.cell? ⟨g, 3, none⟩ = some (.int .i64 L)
theorem Mo2.below {n : Nat} {W X : World} {g : Nat} {a H b L : Int} (h : Mo2 W g a H b L) (k : Below n W X) (hg : g < n) : Mo2 X g a H b L :=
  ⟨(k.cell (p := ⟨g, 0, none⟩) hg).trans h.1, (k.cell (p := ⟨g, 1, none⟩) hg).trans h.2.1, (k.cell (p := ⟨g, 2, none⟩) hg).trans h.2.2.1, (k.cell (p := ⟨g, 3, none⟩) hg).trans h.2.2.2⟩
/-- what lies there while bounds are put. -/
def Wz (c : Array Value) (w W : World) : Prop := lies.Lies W w.heap.size 24 c ∧ lies.Lies W (w.heap.size + 1) 24 #[.int .i64 0, .int .i64 0, .int .i64 0, .int .i64 0, .int .i64 0, .int .i64 0] ∧ Below w.heap.size w W
theorem Wz.below {c : Array Value} {w W X : World} (h : Wz c w W) (k : Below W.heap.size W X) : Wz c w X :=
  ⟨lies.on_call h.1 k, lies.on_call h.2.1 k, later h.2.2 k⟩

set_option maxRecDepth 100000 in
set_option maxHeartbeats 8000000 in
theorem with_d (z0 z1 z2 z3 z4 z5 H L : Int) (gl : Nat) (w : World) (hP : Pl w) (hq : Mo2 w gl 4 H 5 L) (hg : gl < w.heap.size) (ht : Tops [z0, z1, z2, z3, (lsr z4 H), (lsr z5 L)]) (hf : MayD 3 (fullT [z0, z1, z2, z3, (lsr z4 H), (lsr z5 L)])) :
    Calls Tryd.prog 31 #[.agg #[.int .i64 z0, .int .i64 z1, .int .i64 z2, .int .i64 z3, .int .i64 z4, .int .i64 z5], .slice (some ⟨gl, 0, none⟩) 2 2] w (Ofs 3 (fullT [z0, z1, z2, z3, (lsr z4 H), (lsr z5 L)]) w) := by
  have HF := Lib.hid hf
  have HP := Lib.hid hP
  clear hf
  have X : ∃ w0, w0 = (w.alloc (.cells #[.int .i64 z0, .int .i64 z1, .int .i64 z2, .int .i64 z3, .int .i64 z4, .int .i64 z5] 24)).alloc (.cells #[.int .i64 0, .int .i64 0, .int .i64 0, .int .i64 0, .int .i64 0, .int .i64 0] 24) := ⟨_, rfl⟩
  obtain ⟨w0, hX⟩ := X
  have DB : Below w.heap.size w w0 := by rw [hX]; exact bound.up2 _ _ _
  have W0 : Wz #[.int .i64 z0, .int .i64 z1, .int .i64 z2, .int .i64 z3, .int .i64 z4, .int .i64 z5] w w0 := by rw [hX]; exact ⟨lies.on_alloc (lies.made _ _ _) _, lies.made_at _ _ _ _ (by simp), bound.up2 _ _ _⟩
  have HQ := Lib.hid hq
  have HG := Lib.hid hg
  have HT := Lib.hid (show Tops [z0, z1, z2, z3, (lsr z4 H), (lsr z5 L)] from ht)
  clear hP hq hg ht DB
  go_enter Tryd.func31, Tryd.ntmps31
  go_wp2_with fail
  rw [← hX]
  clear hX
  go_loopw [12] (fun i wr => (i = .int .i64 0 ∧ Wz #[.int .i64 z0, .int .i64 z1, .int .i64 z2, .int .i64 z3, .int .i64 z4, .int .i64 z5] w wr) ∨ (i = .int .i64 1 ∧ Wz #[.int .i64 z0, .int .i64 z1, .int .i64 z2, .int .i64 z3, .int .i64 (lsr z4 H), .int .i64 z5] w wr) ∨ (i = .int .i64 2 ∧ Wz #[.int .i64 z0, .int .i64 z1, .int .i64 z2, .int .i64 z3, .int .i64 (lsr z4 H), .int .i64 (lsr z5 L)] w wr)) (fun i _ => 2 - (intOf i).toNat)
  case atStart => exact .inl ⟨rfl, W0⟩
  case round =>
    clear W0
    rcases hrel with ⟨rfl, hA⟩ | ⟨rfl, hA⟩ | ⟨rfl, hA⟩
    · skip
      obtain ⟨q0, q1, q2, q3⟩ := HQ.out.below hA.2.2 HG.out
      have gl1 := Nat.lt_of_lt_of_le HG.out hA.2.2.size
      have dl := lies.lt hA.1
      go_wp2_with fail
      clear q0 q1 q2 q3 gl1 dl
      have hU := bound.up1 wr (.cells #[.int .i64 4, .int .i64 H] 66)
      replace hA := hA.below hU
      have M := lies.made wr 66 #[.int .i64 4, .int .i64 H]
      clear hU
      have hne : w.heap.size ≠ wr.heap.size := fun e => ne_type hA.1 M (by decide) e
      generalize wr.heap.size = T at M hne ⊢
      generalize wr.alloc (.cells #[.int .i64 4, .int .i64 H] 66) = wA at hA M ⊢
      obtain ⟨⟨c0, c1, c2, c3, c4, c5⟩, ⟨f0, f1, f2, f3, f4, f5⟩, cl⟩ := six_cells hA.1
      have S0 : ∀ W, Below wA.heap.size wA W → W.cell? ⟨T, 0, none⟩ = some (.int .i64 4) ∧ W.cell? ⟨T, 1, none⟩ = some (.int .i64 H) := fun W hW => ⟨lies.cell (lies.on_call M hW) 0, lies.cell (lies.on_call M hW) 1⟩
      refine wp_region_held_drew (S := fun W => W.cell? ⟨T, 0, none⟩ = some (.int .i64 4) ∧ W.cell? ⟨T, 1, none⟩ = some (.int .i64 H)) (by kernel_rfl) (S0 _ (dbm.drawn1 (Below.refl _ _))) (fun hHeld => ?_)
      refine wpAnyH_take (i := 0) (v := ?_) rfl (by kernel_rfl) (by kernel_rfl) (by kernel_rfl) (fun _ _ _ h => h) (Or.inl ⟨by rfl, ?_⟩) hHeld ?_
      rotate_left
      · intro w hSw; obtain ⟨s0, s1⟩ := hSw; go_simp; try with_reducible rfl
      try simp only [Act.put, List.getElem_toArray, List.getElem_cons_zero, List.getElem_cons_succ, List.setIfInBounds_toArray, List.set_cons_zero, List.set_cons_succ]
      refine wpAnyH_take (i := 1) (v := ?_) rfl (by kernel_rfl) (by kernel_rfl) (by kernel_rfl) (fun _ _ _ h => h) (Or.inl ⟨by rfl, ?_⟩) hHeld ?_
      rotate_left
      · intro w hSw; obtain ⟨s0, s1⟩ := hSw; go_simp; try with_reducible rfl
      try simp only [Act.put, List.getElem_toArray, List.getElem_cons_zero, List.getElem_cons_succ, List.setIfInBounds_toArray, List.set_cons_zero, List.set_cons_succ]
      refine wpAnyH_take (i := 2) (v := ?_) rfl (by kernel_rfl) (by kernel_rfl) (by kernel_rfl) (fun _ _ _ h => h) (Or.inl ⟨by rfl, ?_⟩) hHeld ?_
      rotate_left
      · intro w hSw; obtain ⟨s0, s1⟩ := hSw; go_simp; try with_reducible rfl
      try simp only [Act.put, List.getElem_toArray, List.getElem_cons_zero, List.getElem_cons_succ, List.setIfInBounds_toArray, List.set_cons_zero, List.set_cons_succ]
      refine wpAnyH_take (i := 3) (v := ?_) rfl (by kernel_rfl) (by kernel_rfl) (by kernel_rfl) (fun _ _ _ h => h) (Or.inl ⟨by rfl, ?_⟩) hHeld ?_
      rotate_left
      · intro w hSw; obtain ⟨s0, s1⟩ := hSw; go_simp; try with_reducible rfl
      try simp only [Act.put, List.getElem_toArray, List.getElem_cons_zero, List.getElem_cons_succ, List.setIfInBounds_toArray, List.set_cons_zero, List.set_cons_succ]
      refine wpAnyH_take (i := 4) (v := ?_) rfl (by kernel_rfl) (by kernel_rfl) (by kernel_rfl) (fun _ _ _ h => h) (Or.inl ⟨by rfl, ?_⟩) hHeld ?_
      rotate_left
      · intro w hSw; obtain ⟨s0, s1⟩ := hSw; go_simp; try with_reducible rfl
      try simp only [Act.put, List.getElem_toArray, List.getElem_cons_zero, List.getElem_cons_succ, List.setIfInBounds_toArray, List.set_cons_zero, List.set_cons_succ]
      refine wpAnyH_take (i := 6) (v := ?_) rfl (by kernel_rfl) (by kernel_rfl) (by kernel_rfl) (fun _ _ _ h => h) (Or.inl ⟨by rfl, ?_⟩) hHeld ?_
      rotate_left
      · intro w hSw; obtain ⟨s0, s1⟩ := hSw; go_simp; try with_reducible rfl
      try simp only [Act.put, List.getElem_toArray, List.getElem_cons_zero, List.getElem_cons_succ, List.setIfInBounds_toArray, List.set_cons_zero, List.set_cons_succ]
      refine wpAnyH_take (i := 7) (v := ?_) rfl (by kernel_rfl) (by kernel_rfl) (by kernel_rfl) (fun _ _ _ h => h) (Or.inl ⟨by rfl, ?_⟩) hHeld ?_
      rotate_left
      · intro w hSw; obtain ⟨s0, s1⟩ := hSw; go_simp; try with_reducible rfl
      try simp only [Act.put, List.getElem_toArray, List.getElem_cons_zero, List.getElem_cons_succ, List.setIfInBounds_toArray, List.set_cons_zero, List.set_cons_succ]
      refine wpAnyH_ready (rs := [5]) (by kernel_rfl) (by simp) (AllReadyH.cons rfl (fun K hK => ?_) AllReadyH.nil)
      go_simp
      refine hK.out _ _ (S0 _ (dbm.drawn1 (Below.refl _ _))) (fun hNew => ?_)
      clear hHeld hK K
      have hHeld := hNew
      clear hNew
      try simp only [Act.put, List.getElem_toArray, List.getElem_cons_zero, List.getElem_cons_succ, List.setIfInBounds_toArray, List.set_cons_zero, List.set_cons_succ]
      refine wpAnyH_ready (rs := [8]) (by kernel_rfl) (by simp) (AllReadyH.cons rfl (fun K hK => ?_) AllReadyH.nil)
      go_simp
      rw [min_lsr z4 H]
      refine hK.out _ _ (S0 _ (dbm.drawn1 (Below.refl _ _))) (fun hNew => ?_)
      clear hHeld hK K
      have hHeld := hNew
      clear hNew
      try simp only [Act.put, List.getElem_toArray, List.getElem_cons_zero, List.getElem_cons_succ, List.setIfInBounds_toArray, List.set_cons_zero, List.set_cons_succ]
      refine wpAnyH_take (i := 9) (v := ?_) rfl (by kernel_rfl) (by kernel_rfl) (by kernel_rfl) (fun _ _ _ h => h) (Or.inl ⟨by rfl, ?_⟩) hHeld ?_
      rotate_left
      · intro w hSw; skip; go_simp; try with_reducible rfl
      try simp only [Act.put, List.getElem_toArray, List.getElem_cons_zero, List.getElem_cons_succ, List.setIfInBounds_toArray, List.set_cons_zero, List.set_cons_succ]
      refine wpAnyH_ready (rs := [10]) (by kernel_rfl) (by simp) (AllReadyH.cons rfl (fun K hK => ?_) AllReadyH.nil)
      go_simp
      have A2 : Wz #[.int .i64 z0, .int .i64 z1, .int .i64 z2, .int .i64 z3, .int .i64 (lsr z4 H), .int .i64 z5] w (wA.setCell ⟨w.heap.size, 4, none⟩ (.int .i64 (lsr z4 H))).drew ∧ lies.Lies (wA.setCell ⟨w.heap.size, 4, none⟩ (.int .i64 (lsr z4 H))).drew T 66 #[.int .i64 4, .int .i64 H] := by
        have dr : ∀ {bb : Nat} {t : TypeId} {cs : Array Value} {W : World}, lies.Lies W bb t cs → lies.Lies W.drew bb t cs := fun h => lies.on_call h (dbm.drawn1 (Below.refl _ _))
        exact ⟨⟨dr (lies.on_put hA.1 4 _), dr (lies.on_far hA.2.1 4 (by omega) _), dbm.drawn1 (hA.2.2.setCell (p := ⟨w.heap.size, 4, none⟩) (Nat.le_refl _) _)⟩, dr (lies.on_far M 4 (Ne.symm hne) _)⟩
      refine hK.out _ _ ⟨lies.cell A2.2 0, lies.cell A2.2 1⟩ (fun hNew => ?_)
      clear hHeld hK K hNew S0
      refine wpAnyH_done (by kernel_rfl) ?_ _
      replace A2 := A2.1
      clear hA M c0 c1 c2 c3 c4 c5 f0 f1 f2 f3 f4 f5 cl
      generalize (wA.setCell ⟨w.heap.size, 4, none⟩ (.int .i64 (lsr z4 H))).drew = wB at A2 ⊢
      go_wp2_with fail
      go_roundw
      case rel => exact .inr (.inl ⟨by go_num, A2⟩)
      case measure => simp [intOf]
    · skip
      obtain ⟨q0, q1, q2, q3⟩ := HQ.out.below hA.2.2 HG.out
      have gl1 := Nat.lt_of_lt_of_le HG.out hA.2.2.size
      have dl := lies.lt hA.1
      go_wp2_with fail
      clear q0 q1 q2 q3 gl1 dl
      have hU := bound.up1 wr (.cells #[.int .i64 5, .int .i64 L] 66)
      replace hA := hA.below hU
      have M := lies.made wr 66 #[.int .i64 5, .int .i64 L]
      clear hU
      have hne : w.heap.size ≠ wr.heap.size := fun e => ne_type hA.1 M (by decide) e
      generalize wr.heap.size = T at M hne ⊢
      generalize wr.alloc (.cells #[.int .i64 5, .int .i64 L] 66) = wA at hA M ⊢
      obtain ⟨⟨c0, c1, c2, c3, c4, c5⟩, ⟨f0, f1, f2, f3, f4, f5⟩, cl⟩ := six_cells hA.1
      have S0 : ∀ W, Below wA.heap.size wA W → W.cell? ⟨T, 0, none⟩ = some (.int .i64 5) ∧ W.cell? ⟨T, 1, none⟩ = some (.int .i64 L) := fun W hW => ⟨lies.cell (lies.on_call M hW) 0, lies.cell (lies.on_call M hW) 1⟩
      refine wp_region_held_drew (S := fun W => W.cell? ⟨T, 0, none⟩ = some (.int .i64 5) ∧ W.cell? ⟨T, 1, none⟩ = some (.int .i64 L)) (by kernel_rfl) (S0 _ (dbm.drawn1 (Below.refl _ _))) (fun hHeld => ?_)
      refine wpAnyH_take (i := 0) (v := ?_) rfl (by kernel_rfl) (by kernel_rfl) (by kernel_rfl) (fun _ _ _ h => h) (Or.inl ⟨by rfl, ?_⟩) hHeld ?_
      rotate_left
      · intro w hSw; obtain ⟨s0, s1⟩ := hSw; go_simp; try with_reducible rfl
      try simp only [Act.put, List.getElem_toArray, List.getElem_cons_zero, List.getElem_cons_succ, List.setIfInBounds_toArray, List.set_cons_zero, List.set_cons_succ]
      refine wpAnyH_take (i := 1) (v := ?_) rfl (by kernel_rfl) (by kernel_rfl) (by kernel_rfl) (fun _ _ _ h => h) (Or.inl ⟨by rfl, ?_⟩) hHeld ?_
      rotate_left
      · intro w hSw; obtain ⟨s0, s1⟩ := hSw; go_simp; try with_reducible rfl
      try simp only [Act.put, List.getElem_toArray, List.getElem_cons_zero, List.getElem_cons_succ, List.setIfInBounds_toArray, List.set_cons_zero, List.set_cons_succ]
      refine wpAnyH_take (i := 2) (v := ?_) rfl (by kernel_rfl) (by kernel_rfl) (by kernel_rfl) (fun _ _ _ h => h) (Or.inl ⟨by rfl, ?_⟩) hHeld ?_
      rotate_left
      · intro w hSw; obtain ⟨s0, s1⟩ := hSw; go_simp; try with_reducible rfl
      try simp only [Act.put, List.getElem_toArray, List.getElem_cons_zero, List.getElem_cons_succ, List.setIfInBounds_toArray, List.set_cons_zero, List.set_cons_succ]
      refine wpAnyH_take (i := 3) (v := ?_) rfl (by kernel_rfl) (by kernel_rfl) (by kernel_rfl) (fun _ _ _ h => h) (Or.inl ⟨by rfl, ?_⟩) hHeld ?_
      rotate_left
      · intro w hSw; obtain ⟨s0, s1⟩ := hSw; go_simp; try with_reducible rfl
      try simp only [Act.put, List.getElem_toArray, List.getElem_cons_zero, List.getElem_cons_succ, List.setIfInBounds_toArray, List.set_cons_zero, List.set_cons_succ]
      refine wpAnyH_take (i := 4) (v := ?_) rfl (by kernel_rfl) (by kernel_rfl) (by kernel_rfl) (fun _ _ _ h => h) (Or.inl ⟨by rfl, ?_⟩) hHeld ?_
      rotate_left
      · intro w hSw; obtain ⟨s0, s1⟩ := hSw; go_simp; try with_reducible rfl
      try simp only [Act.put, List.getElem_toArray, List.getElem_cons_zero, List.getElem_cons_succ, List.setIfInBounds_toArray, List.set_cons_zero, List.set_cons_succ]
      refine wpAnyH_take (i := 6) (v := ?_) rfl (by kernel_rfl) (by kernel_rfl) (by kernel_rfl) (fun _ _ _ h => h) (Or.inl ⟨by rfl, ?_⟩) hHeld ?_
      rotate_left
      · intro w hSw; obtain ⟨s0, s1⟩ := hSw; go_simp; try with_reducible rfl
      try simp only [Act.put, List.getElem_toArray, List.getElem_cons_zero, List.getElem_cons_succ, List.setIfInBounds_toArray, List.set_cons_zero, List.set_cons_succ]
      refine wpAnyH_take (i := 7) (v := ?_) rfl (by kernel_rfl) (by kernel_rfl) (by kernel_rfl) (fun _ _ _ h => h) (Or.inl ⟨by rfl, ?_⟩) hHeld ?_
      rotate_left
      · intro w hSw; obtain ⟨s0, s1⟩ := hSw; go_simp; try with_reducible rfl
      try simp only [Act.put, List.getElem_toArray, List.getElem_cons_zero, List.getElem_cons_succ, List.setIfInBounds_toArray, List.set_cons_zero, List.set_cons_succ]
      refine wpAnyH_ready (rs := [5]) (by kernel_rfl) (by simp) (AllReadyH.cons rfl (fun K hK => ?_) AllReadyH.nil)
      go_simp
      refine hK.out _ _ (S0 _ (dbm.drawn1 (Below.refl _ _))) (fun hNew => ?_)
      clear hHeld hK K
      have hHeld := hNew
      clear hNew
      try simp only [Act.put, List.getElem_toArray, List.getElem_cons_zero, List.getElem_cons_succ, List.setIfInBounds_toArray, List.set_cons_zero, List.set_cons_succ]
      refine wpAnyH_ready (rs := [8]) (by kernel_rfl) (by simp) (AllReadyH.cons rfl (fun K hK => ?_) AllReadyH.nil)
      go_simp
      rw [min_lsr z5 L]
      refine hK.out _ _ (S0 _ (dbm.drawn1 (Below.refl _ _))) (fun hNew => ?_)
      clear hHeld hK K
      have hHeld := hNew
      clear hNew
      try simp only [Act.put, List.getElem_toArray, List.getElem_cons_zero, List.getElem_cons_succ, List.setIfInBounds_toArray, List.set_cons_zero, List.set_cons_succ]
      refine wpAnyH_take (i := 9) (v := ?_) rfl (by kernel_rfl) (by kernel_rfl) (by kernel_rfl) (fun _ _ _ h => h) (Or.inl ⟨by rfl, ?_⟩) hHeld ?_
      rotate_left
      · intro w hSw; skip; go_simp; try with_reducible rfl
      try simp only [Act.put, List.getElem_toArray, List.getElem_cons_zero, List.getElem_cons_succ, List.setIfInBounds_toArray, List.set_cons_zero, List.set_cons_succ]
      refine wpAnyH_ready (rs := [10]) (by kernel_rfl) (by simp) (AllReadyH.cons rfl (fun K hK => ?_) AllReadyH.nil)
      go_simp
      have A2 : Wz #[.int .i64 z0, .int .i64 z1, .int .i64 z2, .int .i64 z3, .int .i64 (lsr z4 H), .int .i64 (lsr z5 L)] w (wA.setCell ⟨w.heap.size, 5, none⟩ (.int .i64 (lsr z5 L))).drew ∧ lies.Lies (wA.setCell ⟨w.heap.size, 5, none⟩ (.int .i64 (lsr z5 L))).drew T 66 #[.int .i64 5, .int .i64 L] := by
        have dr : ∀ {bb : Nat} {t : TypeId} {cs : Array Value} {W : World}, lies.Lies W bb t cs → lies.Lies W.drew bb t cs := fun h => lies.on_call h (dbm.drawn1 (Below.refl _ _))
        exact ⟨⟨dr (lies.on_put hA.1 5 _), dr (lies.on_far hA.2.1 5 (by omega) _), dbm.drawn1 (hA.2.2.setCell (p := ⟨w.heap.size, 5, none⟩) (Nat.le_refl _) _)⟩, dr (lies.on_far M 5 (Ne.symm hne) _)⟩
      refine hK.out _ _ ⟨lies.cell A2.2 0, lies.cell A2.2 1⟩ (fun hNew => ?_)
      clear hHeld hK K hNew S0
      refine wpAnyH_done (by kernel_rfl) ?_ _
      replace A2 := A2.1
      clear hA M c0 c1 c2 c3 c4 c5 f0 f1 f2 f3 f4 f5 cl
      generalize (wA.setCell ⟨w.heap.size, 5, none⟩ (.int .i64 (lsr z5 L))).drew = wB at A2 ⊢
      go_wp2_with fail
      go_roundw
      case rel => exact .inr (.inr ⟨by go_num, A2⟩)
      case measure => simp [intOf]
    · skip
      obtain ⟨⟨c0, c1, c2, c3, c4, c5⟩, -, cl⟩ := six_cells hA.1
      go_wp2_with fail
      clear c0 c1 c2 c3 c4 c5 cl
      refine (matrix_any z0 z1 z2 z3 (lsr z4 H) (lsr z5 L) wr (HP.out.on hA.2.2) HT.out).mono ?_
      rintro e w1 ⟨hB, na, aa, la, ca, us, f, rfl, hR, hK⟩
      replace hA := hA.below hB
      clear hB
      go_wp2_with fail
      have hU := bound.up1 w1 (.cells #[.int .i64 na, .slice aa la ca] 72)
      replace hA := hA.below hU
      replace hK := (hK.below (hU.mono (Nat.le_refl _))).ints
      clear hU
      generalize w1.alloc (.cells #[.int .i64 na, .slice aa la ca] 72) = w2 at hA hK ⊢
      obtain ⟨hm, rfl, hu, rfl⟩ : MayD 3 (fullT [z0, z1, z2, z3, (lsr z4 H), (lsr z5 L)]) ∧ na = 3 ∧ us = fullT [z0, z1, z2, z3, (lsr z4 H), (lsr z5 L)] ∧ f = 0 := by
        rcases hR with h | ⟨h, _⟩
        · exact h
        · exact (h (HF.out)).elim
      subst hu
      refine (of_any 3 _ _ w2 (HP.out.on hA.2.2) hK (by rw [full_length]; decide) (full_tops HT.out)).mono ?_
      rintro e w3 ⟨hB, v0, v1, v2, v3, v4, v5, f, rfl, hF⟩
      replace hA := hA.below hB
      have HO := Lib.hid hF
      clear hB hF hR hK hm
      obtain ⟨⟨x0, x1, x2, x3, x4, x5⟩, ⟨y0, y1, y2, y3, y4, y5⟩, xl⟩ := six_cells hA.2.1
      have KB := hA.2.2
      clear hA
      go_wp2_with fail
      exact bodyPost_ret (v := .tuple #[.agg #[.int .i64 v0, .int .i64 v1, .int .i64 v2, .int .i64 v3, .int .i64 v4, .int .i64 v5], .int .i64 f]) (by simp [results, Tryd.results31, go_sem, x0, x1, x2, x3, x4, x5, xl]) rfl ⟨put_six KB (by omega) _ _ _ _ _ _, v0, v1, v2, v3, v4, v5, f, rfl, HO.out⟩

set_option maxRecDepth 100000 in
set_option maxHeartbeats 8000000 in
theorem with_u (z0 z1 z2 z3 z4 z5 H L : Int) (gl : Nat) (w : World) (hP : Pl w) (hq : Mo2 w gl 2 H 3 L) (hg : gl < w.heap.size) (ht : Tops [z0, z1, (lsr z2 H), (lsr z3 L), z4, z5]) (hf : MayD 3 (fullT [z0, z1, (lsr z2 H), (lsr z3 L), z4, z5])) :
    Calls Tryd.prog 31 #[.agg #[.int .i64 z0, .int .i64 z1, .int .i64 z2, .int .i64 z3, .int .i64 z4, .int .i64 z5], .slice (some ⟨gl, 0, none⟩) 2 2] w (Ofs 3 (fullT [z0, z1, (lsr z2 H), (lsr z3 L), z4, z5]) w) := by
  have HF := Lib.hid hf
  have HP := Lib.hid hP
  clear hf
  have X : ∃ w0, w0 = (w.alloc (.cells #[.int .i64 z0, .int .i64 z1, .int .i64 z2, .int .i64 z3, .int .i64 z4, .int .i64 z5] 24)).alloc (.cells #[.int .i64 0, .int .i64 0, .int .i64 0, .int .i64 0, .int .i64 0, .int .i64 0] 24) := ⟨_, rfl⟩
  obtain ⟨w0, hX⟩ := X
  have DB : Below w.heap.size w w0 := by rw [hX]; exact bound.up2 _ _ _
  have W0 : Wz #[.int .i64 z0, .int .i64 z1, .int .i64 z2, .int .i64 z3, .int .i64 z4, .int .i64 z5] w w0 := by rw [hX]; exact ⟨lies.on_alloc (lies.made _ _ _) _, lies.made_at _ _ _ _ (by simp), bound.up2 _ _ _⟩
  have HQ := Lib.hid hq
  have HG := Lib.hid hg
  have HT := Lib.hid (show Tops [z0, z1, (lsr z2 H), (lsr z3 L), z4, z5] from ht)
  clear hP hq hg ht DB
  go_enter Tryd.func31, Tryd.ntmps31
  go_wp2_with fail
  rw [← hX]
  clear hX
  go_loopw [12] (fun i wr => (i = .int .i64 0 ∧ Wz #[.int .i64 z0, .int .i64 z1, .int .i64 z2, .int .i64 z3, .int .i64 z4, .int .i64 z5] w wr) ∨ (i = .int .i64 1 ∧ Wz #[.int .i64 z0, .int .i64 z1, .int .i64 (lsr z2 H), .int .i64 z3, .int .i64 z4, .int .i64 z5] w wr) ∨ (i = .int .i64 2 ∧ Wz #[.int .i64 z0, .int .i64 z1, .int .i64 (lsr z2 H), .int .i64 (lsr z3 L), .int .i64 z4, .int .i64 z5] w wr)) (fun i _ => 2 - (intOf i).toNat)
  case atStart => exact .inl ⟨rfl, W0⟩
  case round =>
    clear W0
    rcases hrel with ⟨rfl, hA⟩ | ⟨rfl, hA⟩ | ⟨rfl, hA⟩
    · skip
      obtain ⟨q0, q1, q2, q3⟩ := HQ.out.below hA.2.2 HG.out
      have gl1 := Nat.lt_of_lt_of_le HG.out hA.2.2.size
      have dl := lies.lt hA.1
      go_wp2_with fail
      clear q0 q1 q2 q3 gl1 dl
      have hU := bound.up1 wr (.cells #[.int .i64 2, .int .i64 H] 66)
      replace hA := hA.below hU
      have M := lies.made wr 66 #[.int .i64 2, .int .i64 H]
      clear hU
      have hne : w.heap.size ≠ wr.heap.size := fun e => ne_type hA.1 M (by decide) e
      generalize wr.heap.size = T at M hne ⊢
      generalize wr.alloc (.cells #[.int .i64 2, .int .i64 H] 66) = wA at hA M ⊢
      obtain ⟨⟨c0, c1, c2, c3, c4, c5⟩, ⟨f0, f1, f2, f3, f4, f5⟩, cl⟩ := six_cells hA.1
      have S0 : ∀ W, Below wA.heap.size wA W → W.cell? ⟨T, 0, none⟩ = some (.int .i64 2) ∧ W.cell? ⟨T, 1, none⟩ = some (.int .i64 H) := fun W hW => ⟨lies.cell (lies.on_call M hW) 0, lies.cell (lies.on_call M hW) 1⟩
      refine wp_region_held_drew (S := fun W => W.cell? ⟨T, 0, none⟩ = some (.int .i64 2) ∧ W.cell? ⟨T, 1, none⟩ = some (.int .i64 H)) (by kernel_rfl) (S0 _ (dbm.drawn1 (Below.refl _ _))) (fun hHeld => ?_)
      refine wpAnyH_take (i := 0) (v := ?_) rfl (by kernel_rfl) (by kernel_rfl) (by kernel_rfl) (fun _ _ _ h => h) (Or.inl ⟨by rfl, ?_⟩) hHeld ?_
      rotate_left
      · intro w hSw; obtain ⟨s0, s1⟩ := hSw; go_simp; try with_reducible rfl
      try simp only [Act.put, List.getElem_toArray, List.getElem_cons_zero, List.getElem_cons_succ, List.setIfInBounds_toArray, List.set_cons_zero, List.set_cons_succ]
      refine wpAnyH_take (i := 1) (v := ?_) rfl (by kernel_rfl) (by kernel_rfl) (by kernel_rfl) (fun _ _ _ h => h) (Or.inl ⟨by rfl, ?_⟩) hHeld ?_
      rotate_left
      · intro w hSw; obtain ⟨s0, s1⟩ := hSw; go_simp; try with_reducible rfl
      try simp only [Act.put, List.getElem_toArray, List.getElem_cons_zero, List.getElem_cons_succ, List.setIfInBounds_toArray, List.set_cons_zero, List.set_cons_succ]
      refine wpAnyH_take (i := 2) (v := ?_) rfl (by kernel_rfl) (by kernel_rfl) (by kernel_rfl) (fun _ _ _ h => h) (Or.inl ⟨by rfl, ?_⟩) hHeld ?_
      rotate_left
      · intro w hSw; obtain ⟨s0, s1⟩ := hSw; go_simp; try with_reducible rfl
      try simp only [Act.put, List.getElem_toArray, List.getElem_cons_zero, List.getElem_cons_succ, List.setIfInBounds_toArray, List.set_cons_zero, List.set_cons_succ]
      refine wpAnyH_take (i := 3) (v := ?_) rfl (by kernel_rfl) (by kernel_rfl) (by kernel_rfl) (fun _ _ _ h => h) (Or.inl ⟨by rfl, ?_⟩) hHeld ?_
      rotate_left
      · intro w hSw; obtain ⟨s0, s1⟩ := hSw; go_simp; try with_reducible rfl
      try simp only [Act.put, List.getElem_toArray, List.getElem_cons_zero, List.getElem_cons_succ, List.setIfInBounds_toArray, List.set_cons_zero, List.set_cons_succ]
      refine wpAnyH_take (i := 4) (v := ?_) rfl (by kernel_rfl) (by kernel_rfl) (by kernel_rfl) (fun _ _ _ h => h) (Or.inl ⟨by rfl, ?_⟩) hHeld ?_
      rotate_left
      · intro w hSw; obtain ⟨s0, s1⟩ := hSw; go_simp; try with_reducible rfl
      try simp only [Act.put, List.getElem_toArray, List.getElem_cons_zero, List.getElem_cons_succ, List.setIfInBounds_toArray, List.set_cons_zero, List.set_cons_succ]
      refine wpAnyH_take (i := 6) (v := ?_) rfl (by kernel_rfl) (by kernel_rfl) (by kernel_rfl) (fun _ _ _ h => h) (Or.inl ⟨by rfl, ?_⟩) hHeld ?_
      rotate_left
      · intro w hSw; obtain ⟨s0, s1⟩ := hSw; go_simp; try with_reducible rfl
      try simp only [Act.put, List.getElem_toArray, List.getElem_cons_zero, List.getElem_cons_succ, List.setIfInBounds_toArray, List.set_cons_zero, List.set_cons_succ]
      refine wpAnyH_take (i := 7) (v := ?_) rfl (by kernel_rfl) (by kernel_rfl) (by kernel_rfl) (fun _ _ _ h => h) (Or.inl ⟨by rfl, ?_⟩) hHeld ?_
      rotate_left
      · intro w hSw; obtain ⟨s0, s1⟩ := hSw; go_simp; try with_reducible rfl
      try simp only [Act.put, List.getElem_toArray, List.getElem_cons_zero, List.getElem_cons_succ, List.setIfInBounds_toArray, List.set_cons_zero, List.set_cons_succ]
      refine wpAnyH_ready (rs := [5]) (by kernel_rfl) (by simp) (AllReadyH.cons rfl (fun K hK => ?_) AllReadyH.nil)
      go_simp
      refine hK.out _ _ (S0 _ (dbm.drawn1 (Below.refl _ _))) (fun hNew => ?_)
      clear hHeld hK K
      have hHeld := hNew
      clear hNew
      try simp only [Act.put, List.getElem_toArray, List.getElem_cons_zero, List.getElem_cons_succ, List.setIfInBounds_toArray, List.set_cons_zero, List.set_cons_succ]
      refine wpAnyH_ready (rs := [8]) (by kernel_rfl) (by simp) (AllReadyH.cons rfl (fun K hK => ?_) AllReadyH.nil)
      go_simp
      rw [min_lsr z2 H]
      refine hK.out _ _ (S0 _ (dbm.drawn1 (Below.refl _ _))) (fun hNew => ?_)
      clear hHeld hK K
      have hHeld := hNew
      clear hNew
      try simp only [Act.put, List.getElem_toArray, List.getElem_cons_zero, List.getElem_cons_succ, List.setIfInBounds_toArray, List.set_cons_zero, List.set_cons_succ]
      refine wpAnyH_take (i := 9) (v := ?_) rfl (by kernel_rfl) (by kernel_rfl) (by kernel_rfl) (fun _ _ _ h => h) (Or.inl ⟨by rfl, ?_⟩) hHeld ?_
      rotate_left
      · intro w hSw; skip; go_simp; try with_reducible rfl
      try simp only [Act.put, List.getElem_toArray, List.getElem_cons_zero, List.getElem_cons_succ, List.setIfInBounds_toArray, List.set_cons_zero, List.set_cons_succ]
      refine wpAnyH_ready (rs := [10]) (by kernel_rfl) (by simp) (AllReadyH.cons rfl (fun K hK => ?_) AllReadyH.nil)
      go_simp
      have A2 : Wz #[.int .i64 z0, .int .i64 z1, .int .i64 (lsr z2 H), .int .i64 z3, .int .i64 z4, .int .i64 z5] w (wA.setCell ⟨w.heap.size, 2, none⟩ (.int .i64 (lsr z2 H))).drew ∧ lies.Lies (wA.setCell ⟨w.heap.size, 2, none⟩ (.int .i64 (lsr z2 H))).drew T 66 #[.int .i64 2, .int .i64 H] := by
        have dr : ∀ {bb : Nat} {t : TypeId} {cs : Array Value} {W : World}, lies.Lies W bb t cs → lies.Lies W.drew bb t cs := fun h => lies.on_call h (dbm.drawn1 (Below.refl _ _))
        exact ⟨⟨dr (lies.on_put hA.1 2 _), dr (lies.on_far hA.2.1 2 (by omega) _), dbm.drawn1 (hA.2.2.setCell (p := ⟨w.heap.size, 2, none⟩) (Nat.le_refl _) _)⟩, dr (lies.on_far M 2 (Ne.symm hne) _)⟩
      refine hK.out _ _ ⟨lies.cell A2.2 0, lies.cell A2.2 1⟩ (fun hNew => ?_)
      clear hHeld hK K hNew S0
      refine wpAnyH_done (by kernel_rfl) ?_ _
      replace A2 := A2.1
      clear hA M c0 c1 c2 c3 c4 c5 f0 f1 f2 f3 f4 f5 cl
      generalize (wA.setCell ⟨w.heap.size, 2, none⟩ (.int .i64 (lsr z2 H))).drew = wB at A2 ⊢
      go_wp2_with fail
      go_roundw
      case rel => exact .inr (.inl ⟨by go_num, A2⟩)
      case measure => simp [intOf]
    · skip
      obtain ⟨q0, q1, q2, q3⟩ := HQ.out.below hA.2.2 HG.out
      have gl1 := Nat.lt_of_lt_of_le HG.out hA.2.2.size
      have dl := lies.lt hA.1
      go_wp2_with fail
      clear q0 q1 q2 q3 gl1 dl
      have hU := bound.up1 wr (.cells #[.int .i64 3, .int .i64 L] 66)
      replace hA := hA.below hU
      have M := lies.made wr 66 #[.int .i64 3, .int .i64 L]
      clear hU
      have hne : w.heap.size ≠ wr.heap.size := fun e => ne_type hA.1 M (by decide) e
      generalize wr.heap.size = T at M hne ⊢
      generalize wr.alloc (.cells #[.int .i64 3, .int .i64 L] 66) = wA at hA M ⊢
      obtain ⟨⟨c0, c1, c2, c3, c4, c5⟩, ⟨f0, f1, f2, f3, f4, f5⟩, cl⟩ := six_cells hA.1
      have S0 : ∀ W, Below wA.heap.size wA W → W.cell? ⟨T, 0, none⟩ = some (.int .i64 3) ∧ W.cell? ⟨T, 1, none⟩ = some (.int .i64 L) := fun W hW => ⟨lies.cell (lies.on_call M hW) 0, lies.cell (lies.on_call M hW) 1⟩
      refine wp_region_held_drew (S := fun W => W.cell? ⟨T, 0, none⟩ = some (.int .i64 3) ∧ W.cell? ⟨T, 1, none⟩ = some (.int .i64 L)) (by kernel_rfl) (S0 _ (dbm.drawn1 (Below.refl _ _))) (fun hHeld => ?_)
      refine wpAnyH_take (i := 0) (v := ?_) rfl (by kernel_rfl) (by kernel_rfl) (by kernel_rfl) (fun _ _ _ h => h) (Or.inl ⟨by rfl, ?_⟩) hHeld ?_
      rotate_left
      · intro w hSw; obtain ⟨s0, s1⟩ := hSw; go_simp; try with_reducible rfl
      try simp only [Act.put, List.getElem_toArray, List.getElem_cons_zero, List.getElem_cons_succ, List.setIfInBounds_toArray, List.set_cons_zero, List.set_cons_succ]
      refine wpAnyH_take (i := 1) (v := ?_) rfl (by kernel_rfl) (by kernel_rfl) (by kernel_rfl) (fun _ _ _ h => h) (Or.inl ⟨by rfl, ?_⟩) hHeld ?_
      rotate_left
      · intro w hSw; obtain ⟨s0, s1⟩ := hSw; go_simp; try with_reducible rfl
      try simp only [Act.put, List.getElem_toArray, List.getElem_cons_zero, List.getElem_cons_succ, List.setIfInBounds_toArray, List.set_cons_zero, List.set_cons_succ]
      refine wpAnyH_take (i := 2) (v := ?_) rfl (by kernel_rfl) (by kernel_rfl) (by kernel_rfl) (fun _ _ _ h => h) (Or.inl ⟨by rfl, ?_⟩) hHeld ?_
      rotate_left
      · intro w hSw; obtain ⟨s0, s1⟩ := hSw; go_simp; try with_reducible rfl
      try simp only [Act.put, List.getElem_toArray, List.getElem_cons_zero, List.getElem_cons_succ, List.setIfInBounds_toArray, List.set_cons_zero, List.set_cons_succ]
      refine wpAnyH_take (i := 3) (v := ?_) rfl (by kernel_rfl) (by kernel_rfl) (by kernel_rfl) (fun _ _ _ h => h) (Or.inl ⟨by rfl, ?_⟩) hHeld ?_
      rotate_left
      · intro w hSw; obtain ⟨s0, s1⟩ := hSw; go_simp; try with_reducible rfl
      try simp only [Act.put, List.getElem_toArray, List.getElem_cons_zero, List.getElem_cons_succ, List.setIfInBounds_toArray, List.set_cons_zero, List.set_cons_succ]
      refine wpAnyH_take (i := 4) (v := ?_) rfl (by kernel_rfl) (by kernel_rfl) (by kernel_rfl) (fun _ _ _ h => h) (Or.inl ⟨by rfl, ?_⟩) hHeld ?_
      rotate_left
      · intro w hSw; obtain ⟨s0, s1⟩ := hSw; go_simp; try with_reducible rfl
      try simp only [Act.put, List.getElem_toArray, List.getElem_cons_zero, List.getElem_cons_succ, List.setIfInBounds_toArray, List.set_cons_zero, List.set_cons_succ]
      refine wpAnyH_take (i := 6) (v := ?_) rfl (by kernel_rfl) (by kernel_rfl) (by kernel_rfl) (fun _ _ _ h => h) (Or.inl ⟨by rfl, ?_⟩) hHeld ?_
      rotate_left
      · intro w hSw; obtain ⟨s0, s1⟩ := hSw; go_simp; try with_reducible rfl
      try simp only [Act.put, List.getElem_toArray, List.getElem_cons_zero, List.getElem_cons_succ, List.setIfInBounds_toArray, List.set_cons_zero, List.set_cons_succ]
      refine wpAnyH_take (i := 7) (v := ?_) rfl (by kernel_rfl) (by kernel_rfl) (by kernel_rfl) (fun _ _ _ h => h) (Or.inl ⟨by rfl, ?_⟩) hHeld ?_
      rotate_left
      · intro w hSw; obtain ⟨s0, s1⟩ := hSw; go_simp; try with_reducible rfl
      try simp only [Act.put, List.getElem_toArray, List.getElem_cons_zero, List.getElem_cons_succ, List.setIfInBounds_toArray, List.set_cons_zero, List.set_cons_succ]
      refine wpAnyH_ready (rs := [5]) (by kernel_rfl) (by simp) (AllReadyH.cons rfl (fun K hK => ?_) AllReadyH.nil)
      go_simp
      refine hK.out _ _ (S0 _ (dbm.drawn1 (Below.refl _ _))) (fun hNew => ?_)
      clear hHeld hK K
      have hHeld := hNew
      clear hNew
      try simp only [Act.put, List.getElem_toArray, List.getElem_cons_zero, List.getElem_cons_succ, List.setIfInBounds_toArray, List.set_cons_zero, List.set_cons_succ]
      refine wpAnyH_ready (rs := [8]) (by kernel_rfl) (by simp) (AllReadyH.cons rfl (fun K hK => ?_) AllReadyH.nil)
      go_simp
      rw [min_lsr z3 L]
      refine hK.out _ _ (S0 _ (dbm.drawn1 (Below.refl _ _))) (fun hNew => ?_)
      clear hHeld hK K
      have hHeld := hNew
      clear hNew
      try simp only [Act.put, List.getElem_toArray, List.getElem_cons_zero, List.getElem_cons_succ, List.setIfInBounds_toArray, List.set_cons_zero, List.set_cons_succ]
      refine wpAnyH_take (i := 9) (v := ?_) rfl (by kernel_rfl) (by kernel_rfl) (by kernel_rfl) (fun _ _ _ h => h) (Or.inl ⟨by rfl, ?_⟩) hHeld ?_
      rotate_left
      · intro w hSw; skip; go_simp; try with_reducible rfl
      try simp only [Act.put, List.getElem_toArray, List.getElem_cons_zero, List.getElem_cons_succ, List.setIfInBounds_toArray, List.set_cons_zero, List.set_cons_succ]
      refine wpAnyH_ready (rs := [10]) (by kernel_rfl) (by simp) (AllReadyH.cons rfl (fun K hK => ?_) AllReadyH.nil)
      go_simp
      have A2 : Wz #[.int .i64 z0, .int .i64 z1, .int .i64 (lsr z2 H), .int .i64 (lsr z3 L), .int .i64 z4, .int .i64 z5] w (wA.setCell ⟨w.heap.size, 3, none⟩ (.int .i64 (lsr z3 L))).drew ∧ lies.Lies (wA.setCell ⟨w.heap.size, 3, none⟩ (.int .i64 (lsr z3 L))).drew T 66 #[.int .i64 3, .int .i64 L] := by
        have dr : ∀ {bb : Nat} {t : TypeId} {cs : Array Value} {W : World}, lies.Lies W bb t cs → lies.Lies W.drew bb t cs := fun h => lies.on_call h (dbm.drawn1 (Below.refl _ _))
        exact ⟨⟨dr (lies.on_put hA.1 3 _), dr (lies.on_far hA.2.1 3 (by omega) _), dbm.drawn1 (hA.2.2.setCell (p := ⟨w.heap.size, 3, none⟩) (Nat.le_refl _) _)⟩, dr (lies.on_far M 3 (Ne.symm hne) _)⟩
      refine hK.out _ _ ⟨lies.cell A2.2 0, lies.cell A2.2 1⟩ (fun hNew => ?_)
      clear hHeld hK K hNew S0
      refine wpAnyH_done (by kernel_rfl) ?_ _
      replace A2 := A2.1
      clear hA M c0 c1 c2 c3 c4 c5 f0 f1 f2 f3 f4 f5 cl
      generalize (wA.setCell ⟨w.heap.size, 3, none⟩ (.int .i64 (lsr z3 L))).drew = wB at A2 ⊢
      go_wp2_with fail
      go_roundw
      case rel => exact .inr (.inr ⟨by go_num, A2⟩)
      case measure => simp [intOf]
    · skip
      obtain ⟨⟨c0, c1, c2, c3, c4, c5⟩, -, cl⟩ := six_cells hA.1
      go_wp2_with fail
      clear c0 c1 c2 c3 c4 c5 cl
      refine (matrix_any z0 z1 (lsr z2 H) (lsr z3 L) z4 z5 wr (HP.out.on hA.2.2) HT.out).mono ?_
      rintro e w1 ⟨hB, na, aa, la, ca, us, f, rfl, hR, hK⟩
      replace hA := hA.below hB
      clear hB
      go_wp2_with fail
      have hU := bound.up1 w1 (.cells #[.int .i64 na, .slice aa la ca] 72)
      replace hA := hA.below hU
      replace hK := (hK.below (hU.mono (Nat.le_refl _))).ints
      clear hU
      generalize w1.alloc (.cells #[.int .i64 na, .slice aa la ca] 72) = w2 at hA hK ⊢
      obtain ⟨hm, rfl, hu, rfl⟩ : MayD 3 (fullT [z0, z1, (lsr z2 H), (lsr z3 L), z4, z5]) ∧ na = 3 ∧ us = fullT [z0, z1, (lsr z2 H), (lsr z3 L), z4, z5] ∧ f = 0 := by
        rcases hR with h | ⟨h, _⟩
        · exact h
        · exact (h (HF.out)).elim
      subst hu
      refine (of_any 3 _ _ w2 (HP.out.on hA.2.2) hK (by rw [full_length]; decide) (full_tops HT.out)).mono ?_
      rintro e w3 ⟨hB, v0, v1, v2, v3, v4, v5, f, rfl, hF⟩
      replace hA := hA.below hB
      have HO := Lib.hid hF
      clear hB hF hR hK hm
      obtain ⟨⟨x0, x1, x2, x3, x4, x5⟩, ⟨y0, y1, y2, y3, y4, y5⟩, xl⟩ := six_cells hA.2.1
      have KB := hA.2.2
      clear hA
      go_wp2_with fail
      exact bodyPost_ret (v := .tuple #[.agg #[.int .i64 v0, .int .i64 v1, .int .i64 v2, .int .i64 v3, .int .i64 v4, .int .i64 v5], .int .i64 f]) (by simp [results, Tryd.results31, go_sem, x0, x1, x2, x3, x4, x5, xl]) rfl ⟨put_six KB (by omega) _ _ _ _ _ _, v0, v1, v2, v3, v4, v5, f, rfl, HO.out⟩
end Go.Proofs.YtcaoooddmmhieaaDoor.win
