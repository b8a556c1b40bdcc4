/-
  What Meet of package zone answers; each theorem names its conditions.
-/
import Derived.Test.YtklejbheieceeaaGreatDoorZoneF
namespace Go.Proofs.YtklejbheieceeaaGreatDoor.zone
open Go.Joins Go.ChangeShapes Go.WideShapes Go.ChangeAt Go.RowKit num rat dbm Go.Proofs.YtklejbheieceeaaGreatDoor.tight Go.Proofs.YtklejbheieceeaaGreatDoor.incl Go.Proofs.YtklejbheieceeaaGreatDoor.plaw Go.Proofs.YtklejbheieceeaaGreatDoor.zopen
open bound hiding up
set_option linter.unusedVariables false
set_option linter.unusedSimpArgs false

/-- what Meet answers. -/
def MeetR (a b m : List Int) (f : Int) : Prop := (¬ (MayZ a ∧ MayZ b) ∧ m = zero6 ∧ f = 8) ∨ (MayZ a ∧ MayZ b ∧ ¬ OkD 3 (lesT (fullT a) (fullT b)) ∧ m = zero6 ∧ f = 6) ∨ (MayZ a ∧ MayZ b ∧ OkD 3 (lesT (fullT a) (fullT b)) ∧ ¬ MayD 3 (clT 3 (lesT (fullT a) (fullT b))) ∧ m = zero6 ∧ f = 8) ∨
  (MayZ a ∧ MayZ b ∧ OkD 3 (lesT (fullT a) (fullT b)) ∧ MayD 3 (clT 3 (lesT (fullT a) (fullT b))) ∧ m = shortT (clT 3 (lesT (fullT a) (fullT b))) ∧ f = 0)
def Meets (a b : List Int) (w : World) (e : Ending) (w' : World) : Prop := Below w.heap.size w w' ∧ ∃ z0 z1 z2 z3 z4 z5 f, e = .returned (.tuple #[.agg #[.int .i64 z0, .int .i64 z1, .int .i64 z2, .int .i64 z3, .int .i64 z4, .int .i64 z5], .int .i64 f]) ∧ MeetR a b [z0, z1, z2, z3, z4, z5] f
/-- what Of answers of what is closed. -/
theorem of_closed {us z : List Int} {f : Int} (hc : MayD 3 us → OkD 3 us ∧ clT 3 us = us) (h : OfR 3 us z f) : (¬ MayD 3 us ∧ z = zero6 ∧ f = 8) ∨ (MayD 3 us ∧ z = shortT us ∧ f = 0) := by
  rcases h with k | k | k | k | k
  · exact .inl k
  · exact (k.2.1 rfl).elim
  · exact (k.2.2.1 (hc k.1).1).elim
  · obtain ⟨_, k1, k2, _⟩ := k
    have e := (hc k1.1).2
    rw [e] at k2
    exact (k2 k1.1).elim
  · obtain ⟨_, k1, k2, k3, k4⟩ := k
    have e := (hc k1.1).2
    rw [e] at k3
    exact .inr ⟨k1.1, k3, k4⟩
/-- what the zone of what two have in common is. -/
theorem of_meet {a b z : List Int} {f : Int} {us : List Int} (ta : Tops a) (ha : MayZ a) (hb : MayZ b) (ho : OkD 3 (lesT (fullT a) (fullT b))) (hu : us = clT 3 (lesT (fullT a) (fullT b))) (h : OfR 3 us z f) : MeetR a b z f := by
  have hc : MayD 3 us → OkD 3 us ∧ clT 3 us = us := fun k => by
    rw [hu] at k
    have := closed_own (lesT_tops (full_tops ta) (fullT b)) ho k
    rw [hu]
    exact this
  unfold MeetR
  rw [← hu]
  rcases of_closed hc h with k | k
  · exact .inr (.inr (.inl ⟨ha, hb, ho, k⟩))
  · exact .inr (.inr (.inr ⟨ha, hb, ho, k⟩))
theorem put_two {W : World} {g : Nat} {t : TypeId} {u v : Value} (h : lies.Lies W g t #[u, v]) (x y : Value) : lies.Lies ((W.setCell ⟨g, 0, none⟩ x).setCell ⟨g, 1, none⟩ y) g t #[x, y] := by
  simpa using lies.on_put (lies.on_put h 0 x) 1 y
theorem meet_cases {a b : List Int} (ha : MayZ a) (hb : MayZ b) {na : Int} {us : List Int} {f : Int} (h : Res 3 (meetQ 3 3 (fullT a) (fullT b)) (meetE 3 3 (fullT a) (fullT b)) na us f) :
    (¬ OkD 3 (lesT (fullT a) (fullT b)) ∧ f = 6) ∨ (OkD 3 (lesT (fullT a) (fullT b)) ∧ na = 3 ∧ RowKit.Hid (us = clT 3 (lesT (fullT a) (fullT b))) ∧ us.length = 9 ∧ f = 0) := by
  have e : meetQ 3 3 (fullT a) (fullT b) = some (lesT (fullT a) (fullT b)) := if_pos ⟨ha.may, hb.may, rfl⟩
  rw [e] at h
  rcases h with ⟨h, _⟩ | ⟨ts, h, k⟩
  · cases h
  · injection h with h
    rw [← h] at k
    rcases ans_two k (lesT_may ha.may hb.may) with ⟨k, _, _, e3⟩ | ⟨k, e1, e2, e3, _, e4⟩
    · exact .inl ⟨k, e3⟩
    · exact .inr ⟨k, e1, e2, e3, e4⟩

set_option maxRecDepth 100000 in
set_option maxHeartbeats 8000000 in
theorem zmeet_any (a0 a1 a2 a3 a4 a5 b0 b1 b2 b3 b4 b5 : Int) (w : World) (hP : Pl w) (ta : Tops [a0, a1, a2, a3, a4, a5]) (tb : Tops [b0, b1, b2, b3, b4, b5]) :
    Calls Tryz.prog 12 #[.agg #[.int .i64 a0, .int .i64 a1, .int .i64 a2, .int .i64 a3, .int .i64 a4, .int .i64 a5], .agg #[.int .i64 b0, .int .i64 b1, .int .i64 b2, .int .i64 b3, .int .i64 b4, .int .i64 b5]] w (Meets [a0, a1, a2, a3, a4, a5] [b0, b1, b2, b3, b4, b5] w) := by
  have D2 := lies.made_at ((w.alloc (.cells #[.int .i64 a0, .int .i64 a1, .int .i64 a2, .int .i64 a3, .int .i64 a4, .int .i64 a5] 24)).alloc (.cells #[.int .i64 b0, .int .i64 b1, .int .i64 b2, .int .i64 b3, .int .i64 b4, .int .i64 b5] 24)) 24 #[.int .i64 0, .int .i64 0, .int .i64 0, .int .i64 0, .int .i64 0, .int .i64 0] (w.heap.size + 1 + 1) (by simp)
  have D3 := lies.made_at (((w.alloc (.cells #[.int .i64 a0, .int .i64 a1, .int .i64 a2, .int .i64 a3, .int .i64 a4, .int .i64 a5] 24)).alloc (.cells #[.int .i64 b0, .int .i64 b1, .int .i64 b2, .int .i64 b3, .int .i64 b4, .int .i64 b5] 24)).alloc (.cells #[.int .i64 0, .int .i64 0, .int .i64 0, .int .i64 0, .int .i64 0, .int .i64 0] 24)) 24 #[.int .i64 a0, .int .i64 a1, .int .i64 a2, .int .i64 a3, .int .i64 a4, .int .i64 a5, .int .i64 b0, .int .i64 b1, .int .i64 b2, .int .i64 b3, .int .i64 b4, .int .i64 b5] (w.heap.size + 1 + 1 + 1) (by simp)
  have DB := lies.frame_up (bound.up3 w (.cells #[.int .i64 a0, .int .i64 a1, .int .i64 a2, .int .i64 a3, .int .i64 a4, .int .i64 a5] 24) (.cells #[.int .i64 b0, .int .i64 b1, .int .i64 b2, .int .i64 b3, .int .i64 b4, .int .i64 b5] 24) (.cells #[.int .i64 0, .int .i64 0, .int .i64 0, .int .i64 0, .int .i64 0, .int .i64 0] 24)) (.cells #[.int .i64 a0, .int .i64 a1, .int .i64 a2, .int .i64 a3, .int .i64 a4, .int .i64 a5, .int .i64 b0, .int .i64 b1, .int .i64 b2, .int .i64 b3, .int .i64 b4, .int .i64 b5] 24)
  replace D2 := lies.on_alloc D2 (.cells #[.int .i64 a0, .int .i64 a1, .int .i64 a2, .int .i64 a3, .int .i64 a4, .int .i64 a5, .int .i64 b0, .int .i64 b1, .int .i64 b2, .int .i64 b3, .int .i64 b4, .int .i64 b5] 24)
  have P0 := hP.on DB
  have HTA := Lib.hid ta
  have HTB := Lib.hid tb
  clear hP ta tb
  go_enter Tryz.func12, Tryz.ntmps12
  go_wp2_with fail
  generalize (((w.alloc (.cells #[.int .i64 a0, .int .i64 a1, .int .i64 a2, .int .i64 a3, .int .i64 a4, .int .i64 a5] 24)).alloc (.cells #[.int .i64 b0, .int .i64 b1, .int .i64 b2, .int .i64 b3, .int .i64 b4, .int .i64 b5] 24)).alloc (.cells #[.int .i64 0, .int .i64 0, .int .i64 0, .int .i64 0, .int .i64 0, .int .i64 0] 24)).alloc (.cells #[.int .i64 a0, .int .i64 a1, .int .i64 a2, .int .i64 a3, .int .i64 a4, .int .i64 a5, .int .i64 b0, .int .i64 b1, .int .i64 b2, .int .i64 b3, .int .i64 b4, .int .i64 b5] 24) = w0 at DB D2 D3 P0 ⊢
  refine (matrices_any (w.heap.size + 1 + 1 + 1) 2 (zf2 [a0, a1, a2, a3, a4, a5] [b0, b1, b2, b3, b4, b5]) w0 P0 (row_z2 D3) (lies.lt D3) (by decide) (fun k _ => by unfold zf2; split <;> rfl) (fun k _ => by unfold zf2; split; exact HTA.out; exact HTB.out)).mono ?_
  rintro e w1 ⟨hB, hM⟩
  have EB := later DB hB
  have E2 := lies.on_call D2 hB
  have P1 := P0.on hB
  clear hB DB D2 D3 P0
  have hRw : w.heap.size ≤ w.heap.size + 1 + 1 := by omega
  generalize w.heap.size + 1 + 1 = RX at E2 hRw ⊢
  rcases mats_two hM with ⟨hm, hn, q, cap, rfl, ⟨g, c, _, _, hq, x0, x1, hG⟩, g', c', _, _, _, y0, y1, hG'⟩ | ⟨hm, rfl⟩
  · have HM := Lib.hid hm
    have HN := Lib.hid hn
    clear hm hn hM
    go_wp2_with fail
    refine wp_region_held_drew (S := Below w1.heap.size w1) (by kernel_rfl) (dbm.drawn1 (Below.refl _ _)) (fun hHeld => ?_)
    refine wpAnyH_take (i := 0) (v := ?_) rfl (by kernel_rfl) (by kernel_rfl) (by kernel_rfl) (fun _ _ _ h => h) (Or.inl ⟨by rfl, ?_⟩) hHeld ?_
    rotate_left
    · intro w hSw; have s0 := (hSw.cell (p := ⟨q, 0, none⟩) hq).trans x0; have s1 := (hSw.cell (p := ⟨q, 1, none⟩) hq).trans x1; have s2 := (hSw.cell (p := ⟨q, 2, none⟩) hq).trans y0; have s3 := (hSw.cell (p := ⟨q, 3, none⟩) hq).trans y1; go_simp; try with_reducible rfl
    try simp only [Act.put, List.getElem_toArray, List.getElem_cons_zero, List.getElem_cons_succ, List.setIfInBounds_toArray, List.set_cons_zero, List.set_cons_succ]
    refine wpAnyH_take (i := 1) (v := ?_) rfl (by kernel_rfl) (by kernel_rfl) (by kernel_rfl) (fun _ _ _ h => h) (Or.inl ⟨by rfl, ?_⟩) hHeld ?_
    rotate_left
    · intro w hSw; have s0 := (hSw.cell (p := ⟨q, 0, none⟩) hq).trans x0; have s1 := (hSw.cell (p := ⟨q, 1, none⟩) hq).trans x1; have s2 := (hSw.cell (p := ⟨q, 2, none⟩) hq).trans y0; have s3 := (hSw.cell (p := ⟨q, 3, none⟩) hq).trans y1; go_simp; try with_reducible rfl
    try simp only [Act.put, List.getElem_toArray, List.getElem_cons_zero, List.getElem_cons_succ, List.setIfInBounds_toArray, List.set_cons_zero, List.set_cons_succ]
    refine wpAnyH_take (i := 2) (v := ?_) rfl (by kernel_rfl) (by kernel_rfl) (by kernel_rfl) (fun _ _ _ h => h) (Or.inl ⟨by rfl, ?_⟩) hHeld ?_
    rotate_left
    · intro w hSw; have s0 := (hSw.cell (p := ⟨q, 0, none⟩) hq).trans x0; have s1 := (hSw.cell (p := ⟨q, 1, none⟩) hq).trans x1; have s2 := (hSw.cell (p := ⟨q, 2, none⟩) hq).trans y0; have s3 := (hSw.cell (p := ⟨q, 3, none⟩) hq).trans y1; go_simp; try with_reducible rfl
    try simp only [Act.put, List.getElem_toArray, List.getElem_cons_zero, List.getElem_cons_succ, List.setIfInBounds_toArray, List.set_cons_zero, List.set_cons_succ]
    refine wpAnyH_take (i := 3) (v := ?_) rfl (by kernel_rfl) (by kernel_rfl) (by kernel_rfl) (fun _ _ _ h => h) (Or.inl ⟨by rfl, ?_⟩) hHeld ?_
    rotate_left
    · intro w hSw; have s0 := (hSw.cell (p := ⟨q, 0, none⟩) hq).trans x0; have s1 := (hSw.cell (p := ⟨q, 1, none⟩) hq).trans x1; have s2 := (hSw.cell (p := ⟨q, 2, none⟩) hq).trans y0; have s3 := (hSw.cell (p := ⟨q, 3, none⟩) hq).trans y1; go_simp; try with_reducible rfl
    try simp only [Act.put, List.getElem_toArray, List.getElem_cons_zero, List.getElem_cons_succ, List.setIfInBounds_toArray, List.set_cons_zero, List.set_cons_succ]
    refine wpAnyH_take (i := 4) (v := ?_) rfl (by kernel_rfl) (by kernel_rfl) (by kernel_rfl) (fun _ _ _ h => h) (Or.inl ⟨by rfl, ?_⟩) hHeld ?_
    rotate_left
    · intro w hSw; have s0 := (hSw.cell (p := ⟨q, 0, none⟩) hq).trans x0; have s1 := (hSw.cell (p := ⟨q, 1, none⟩) hq).trans x1; have s2 := (hSw.cell (p := ⟨q, 2, none⟩) hq).trans y0; have s3 := (hSw.cell (p := ⟨q, 3, none⟩) hq).trans y1; go_simp; try with_reducible rfl
    try simp only [Act.put, List.getElem_toArray, List.getElem_cons_zero, List.getElem_cons_succ, List.setIfInBounds_toArray, List.set_cons_zero, List.set_cons_succ]
    refine wpAnyH_take (i := 5) (v := ?_) rfl (by kernel_rfl) (by kernel_rfl) (by kernel_rfl) (fun _ _ _ h => h) (Or.inl ⟨by rfl, ?_⟩) hHeld ?_
    rotate_left
    · intro w hSw; have s0 := (hSw.cell (p := ⟨q, 0, none⟩) hq).trans x0; have s1 := (hSw.cell (p := ⟨q, 1, none⟩) hq).trans x1; have s2 := (hSw.cell (p := ⟨q, 2, none⟩) hq).trans y0; have s3 := (hSw.cell (p := ⟨q, 3, none⟩) hq).trans y1; go_simp; try with_reducible rfl
    try simp only [Act.put, List.getElem_toArray, List.getElem_cons_zero, List.getElem_cons_succ, List.setIfInBounds_toArray, List.set_cons_zero, List.set_cons_succ]
    refine wpAnyH_ready (rs := [6, 10]) (by kernel_rfl) (by simp) (AllReadyH.cons rfl (fun K hK => ?_) (AllReadyH.cons rfl (fun K hK => ?_) AllReadyH.nil))
    · go_simp
      refine (tight.meet_any 3 3 _ _ (fullT [a0, a1, a2, a3, a4, a5]) (fullT [b0, b1, b2, b3, b4, b5]) _ (dlaw.own_ints (cap := c) (lies.on_call hG hHeld)) (dlaw.own_ints (cap := c') (lies.on_call hG' hHeld)) (show 9 ≤ 1000000 by decide) (show 9 ≤ 1000000 by decide) (full_tops HTA.out) (full_tops HTB.out)).mono ?_
      rintro e u1 ⟨hB, na, aa, la, ca, us, f, rfl, hr, hKK⟩
      have HR := Lib.hid (meet_cases HM.out HN.out hr)
      have hIu := hKK.ints
      have hH1 := hHeld.trans (hB.mono hHeld.size)
      refine hK.out _ _ hH1 (fun hNew => ?_)
      have hTs := hH1.size
      clear hB hr hKK hH1
      clear hHeld hK K
      have hHeld := hNew
      clear hNew
      try simp only [Act.put, List.getElem_toArray, List.getElem_cons_zero, List.getElem_cons_succ, List.setIfInBounds_toArray, List.set_cons_zero, List.set_cons_succ]
      refine wpAnyH_take (i := 7) (v := ?_) rfl (by kernel_rfl) (by kernel_rfl) (by kernel_rfl) (fun _ _ _ h => h) (Or.inl ⟨by rfl, ?_⟩) hHeld ?_
      rotate_left
      · intro w hSw; skip; go_simp; try with_reducible rfl
      try simp only [Act.put, List.getElem_toArray, List.getElem_cons_zero, List.getElem_cons_succ, List.setIfInBounds_toArray, List.set_cons_zero, List.set_cons_succ]
      refine wpAnyH_take (i := 8) (v := ?_) rfl (by kernel_rfl) (by kernel_rfl) (by kernel_rfl) (fun _ _ _ h => h) (Or.inl ⟨by rfl, ?_⟩) hHeld ?_
      rotate_left
      · intro w hSw; skip; go_simp; try with_reducible rfl
      try simp only [Act.put, List.getElem_toArray, List.getElem_cons_zero, List.getElem_cons_succ, List.setIfInBounds_toArray, List.set_cons_zero, List.set_cons_succ]
      refine wpAnyH_take (i := 9) (v := ?_) rfl (by kernel_rfl) (by kernel_rfl) (by kernel_rfl) (fun _ _ _ h => h) (Or.inl ⟨by rfl, ?_⟩) hHeld ?_
      rotate_left
      · intro w hSw; skip; go_simp; try with_reducible rfl
      try simp only [Act.put, List.getElem_toArray, List.getElem_cons_zero, List.getElem_cons_succ, List.setIfInBounds_toArray, List.set_cons_zero, List.set_cons_succ]
      refine wpAnyH_ready (rs := [10]) (by kernel_rfl) (by simp) (AllReadyH.cons rfl (fun K hK => ?_) AllReadyH.nil)
      go_simp
      have hB2 := hHeld.trans ((bound.up1 u1 (.cells #[.int .i64 0, .slice none 0 0] 27)).mono hHeld.size)
      have L := lies.made u1 27 #[.int .i64 0, .slice none 0 0]
      have hI2 := hIu.below (bound.up1 u1 (.cells #[.int .i64 0, .slice none 0 0] 27))
      refine hK.out _ _ hB2 (fun hNew => ?_)
      clear hB2 hIu
      clear hHeld hK K
      have hHeld := hNew
      clear hNew
      try simp only [Act.put, List.getElem_toArray, List.getElem_cons_zero, List.getElem_cons_succ, List.setIfInBounds_toArray, List.set_cons_zero, List.set_cons_succ]
      generalize u1.heap.size = T at L hTs hI2 ⊢
      generalize u1.alloc (.cells #[.int .i64 0, .slice none 0 0] 27) = u2 at L hHeld hI2 ⊢
      obtain ⟨l0, l1, l2, l3, l4⟩ := lies.two L
      refine wpAnyH_ready (rs := [11]) (by kernel_rfl) (by simp) (AllReadyH.cons rfl (fun K hK => ?_) AllReadyH.nil)
      go_simp
      have LU := put_two L (.int .i64 na) (.slice aa la ca)
      have hBT : Below T u2 ((u2.setCell ⟨T, 0, none⟩ (.int .i64 na)).setCell ⟨T, 1, none⟩ (.slice aa la ca)) := ((Below.refl T u2).setCell (p := ⟨T, 0, none⟩) (Nat.le_refl _) _).setCell (p := ⟨T, 1, none⟩) (Nat.le_refl _) _
      have hIU : law.Ints ((u2.setCell ⟨T, 0, none⟩ (.int .i64 na)).setCell ⟨T, 1, none⟩ (.slice aa la ca)).heap.size ((u2.setCell ⟨T, 0, none⟩ (.int .i64 na)).setCell ⟨T, 1, none⟩ (.slice aa la ca)) (.slice aa la ca) us := (hI2.below hBT).mono (lies.lt LU |> Nat.le_of_lt)
      have hB3 : Below w1.heap.size w1 ((u2.setCell ⟨T, 0, none⟩ (.int .i64 na)).setCell ⟨T, 1, none⟩ (.slice aa la ca)) := (hHeld.setCell (p := ⟨T, 0, none⟩) hTs _).setCell (p := ⟨T, 1, none⟩) hTs _
      refine hK.out _ _ hB3 (fun hNew => ?_)
      clear hB3 hBT L hI2 l0 l1 l2 l3 l4
      clear hHeld hK K
      have hHeld := hNew
      clear hNew
      try simp only [Act.put, List.getElem_toArray, List.getElem_cons_zero, List.getElem_cons_succ, List.setIfInBounds_toArray, List.set_cons_zero, List.set_cons_succ]
      refine wpAnyH_take (i := 12) (v := ?_) rfl (by kernel_rfl) (by kernel_rfl) (by kernel_rfl) (fun _ _ _ h => h) (Or.inl ⟨by rfl, ?_⟩) hHeld ?_
      rotate_left
      · intro w hSw; skip; go_simp; try with_reducible rfl
      try simp only [Act.put, List.getElem_toArray, List.getElem_cons_zero, List.getElem_cons_succ, List.setIfInBounds_toArray, List.set_cons_zero, List.set_cons_succ]
      refine wpAnyH_done (by kernel_rfl) ?_ _
      have E3 := lies.on_call E2 hHeld
      have P3 := P1.on hHeld
      have KB := later EB hHeld
      clear hHeld hG hG' x0 x1 y0 y1
      generalize ((u2.setCell ⟨T, 0, none⟩ (.int .i64 na)).setCell ⟨T, 1, none⟩ (.slice aa la ca)) = U at LU hIU E3 P3 KB ⊢
      obtain ⟨l0, l1, l2, l3, l4⟩ := lies.two LU
      have hcase := HR.out
      rcases hcase with ⟨hno, rfl⟩ | ⟨hok, rfl, hu, hln, rfl⟩
      · have HNO := Lib.hid hno
        clear hno
        obtain ⟨⟨x0, x1, x2, x3, x4, x5⟩, ⟨y0, y1, y2, y3, y4, y5⟩, xl⟩ := six_cells E3
        go_wp2_with fail
        exact bodyPost_ret (v := .tuple #[.agg #[.int .i64 0, .int .i64 0, .int .i64 0, .int .i64 0, .int .i64 0, .int .i64 0], .int .i64 6]) (by simp [results, Tryz.results12, go_sem, x0, x1, x2, x3, x4, x5, xl]) rfl ⟨put_six KB hRw _ _ _ _ _ _, 0, 0, 0, 0, 0, 0, 6, rfl, .inr (.inl ⟨HM.out, HN.out, HNO.out, rfl, rfl⟩)⟩
      · have HOK := Lib.hid hok
        have HLN := Lib.hid hln
        have HIU := Lib.hid hIU
        clear hok hln hIU
        go_wp2_with fail
        clear l0 l1 l2 l3 l4
        refine (of_any 3 _ us _ P3 HIU.out (by rw [HLN.out]; decide) (by rw [hu.out]; exact clT_tops (lesT_tops (full_tops HTA.out) _))).mono ?_
        rintro e U2 ⟨hB, m0, m1, m2, m3, m4, m5, f, rfl, hof⟩
        have HOF := Lib.hid hof
        have E4 := lies.on_call E3 hB
        have KB4 := later KB hB
        clear hB hof E3 P3 KB LU
        obtain ⟨⟨x0, x1, x2, x3, x4, x5⟩, ⟨y0, y1, y2, y3, y4, y5⟩, xl⟩ := six_cells E4
        go_wp2_with fail
        exact bodyPost_ret (v := .tuple #[.agg #[.int .i64 m0, .int .i64 m1, .int .i64 m2, .int .i64 m3, .int .i64 m4, .int .i64 m5], .int .i64 f]) (by simp [results, Tryz.results12, go_sem, x0, x1, x2, x3, x4, x5, xl]) rfl ⟨put_six KB4 hRw _ _ _ _ _ _, m0, m1, m2, m3, m4, m5, f, rfl, of_meet HTA.out HM.out HN.out HOK.out hu.out HOF.out⟩
    · go_simp
      have L0 := lies.made w1.drew 27 #[.int .i64 0, .slice none 0 0]
      have hB0 : Below w1.heap.size w1 (w1.drew.alloc (.cells #[.int .i64 0, .slice none 0 0] 27)) := hHeld.trans ((bound.up1 w1.drew (.cells #[.int .i64 0, .slice none 0 0] 27)).mono hHeld.size)
      refine hK.out _ _ hB0 (fun hNew => ?_)
      clear hB0
      clear hHeld hK K
      have hHeld := hNew
      clear hNew
      try simp only [Act.put, List.getElem_toArray, List.getElem_cons_zero, List.getElem_cons_succ, List.setIfInBounds_toArray, List.set_cons_zero, List.set_cons_succ]
      refine wpAnyH_ready (rs := [6]) (by kernel_rfl) (by simp) (AllReadyH.cons rfl (fun K hK => ?_) AllReadyH.nil)
      go_simp
      refine (tight.meet_any 3 3 _ _ (fullT [a0, a1, a2, a3, a4, a5]) (fullT [b0, b1, b2, b3, b4, b5]) _ (dlaw.own_ints (cap := c) (lies.on_call hG hHeld)) (dlaw.own_ints (cap := c') (lies.on_call hG' hHeld)) (show 9 ≤ 1000000 by decide) (show 9 ≤ 1000000 by decide) (full_tops HTA.out) (full_tops HTB.out)).mono ?_
      rintro e u1 ⟨hB, na, aa, la, ca, us, f, rfl, hr, hKK⟩
      have HR := Lib.hid (meet_cases HM.out HN.out hr)
      have L := lies.on_call L0 hB
      have hH1 := hHeld.trans (hB.mono hHeld.size)
      refine hK.out _ _ hH1 (fun hNew => ?_)
      have hT1 : w1.heap.size < (w1.drew.alloc (.cells #[.int .i64 0, .slice none 0 0] 27)).heap.size := lies.lt L0
      have L : lies.Lies u1 w1.heap.size 27 #[.int .i64 0, .slice none 0 0] := L
      clear hB hr hH1 L0
      clear hHeld hK K
      have hHeld := hNew
      clear hNew
      try simp only [Act.put, List.getElem_toArray, List.getElem_cons_zero, List.getElem_cons_succ, List.setIfInBounds_toArray, List.set_cons_zero, List.set_cons_succ]
      refine wpAnyH_take (i := 7) (v := ?_) rfl (by kernel_rfl) (by kernel_rfl) (by kernel_rfl) (fun _ _ _ h => h) (Or.inl ⟨by rfl, ?_⟩) hHeld ?_
      rotate_left
      · intro w hSw; skip; go_simp; try with_reducible rfl
      try simp only [Act.put, List.getElem_toArray, List.getElem_cons_zero, List.getElem_cons_succ, List.setIfInBounds_toArray, List.set_cons_zero, List.set_cons_succ]
      refine wpAnyH_take (i := 8) (v := ?_) rfl (by kernel_rfl) (by kernel_rfl) (by kernel_rfl) (fun _ _ _ h => h) (Or.inl ⟨by rfl, ?_⟩) hHeld ?_
      rotate_left
      · intro w hSw; skip; go_simp; try with_reducible rfl
      try simp only [Act.put, List.getElem_toArray, List.getElem_cons_zero, List.getElem_cons_succ, List.setIfInBounds_toArray, List.set_cons_zero, List.set_cons_succ]
      refine wpAnyH_take (i := 9) (v := ?_) rfl (by kernel_rfl) (by kernel_rfl) (by kernel_rfl) (fun _ _ _ h => h) (Or.inl ⟨by rfl, ?_⟩) hHeld ?_
      rotate_left
      · intro w hSw; skip; go_simp; try with_reducible rfl
      try simp only [Act.put, List.getElem_toArray, List.getElem_cons_zero, List.getElem_cons_succ, List.setIfInBounds_toArray, List.set_cons_zero, List.set_cons_succ]
      generalize hTe : w1.heap.size = T at L hT1 ⊢
      obtain ⟨l0, l1, l2, l3, l4⟩ := lies.two L
      refine wpAnyH_ready (rs := [11]) (by kernel_rfl) (by simp) (AllReadyH.cons rfl (fun K hK => ?_) AllReadyH.nil)
      go_simp
      have LU := put_two L (.int .i64 na) (.slice aa la ca)
      have hIU : law.Ints ((u1.setCell ⟨T, 0, none⟩ (.int .i64 na)).setCell ⟨T, 1, none⟩ (.slice aa la ca)).heap.size ((u1.setCell ⟨T, 0, none⟩ (.int .i64 na)).setCell ⟨T, 1, none⟩ (.slice aa la ca)) (.slice aa la ca) us := ((hKK.far hT1 0 (.int .i64 na)).far hT1 1 (.slice aa la ca)).ints
      have hB3 : Below w1.heap.size w1 ((u1.setCell ⟨T, 0, none⟩ (.int .i64 na)).setCell ⟨T, 1, none⟩ (.slice aa la ca)) := (hHeld.setCell (p := ⟨T, 0, none⟩) (Nat.le_of_eq hTe) _).setCell (p := ⟨T, 1, none⟩) (Nat.le_of_eq hTe) _
      rw [hTe] at hB3
      refine hK.out _ _ hB3 (fun hNew => ?_)
      clear hB3 L l0 l1 l2 l3 l4
      clear hHeld hK K
      have hHeld := hNew
      clear hNew
      try simp only [Act.put, List.getElem_toArray, List.getElem_cons_zero, List.getElem_cons_succ, List.setIfInBounds_toArray, List.set_cons_zero, List.set_cons_succ]
      refine wpAnyH_take (i := 12) (v := ?_) rfl (by kernel_rfl) (by kernel_rfl) (by kernel_rfl) (fun _ _ _ h => h) (Or.inl ⟨by rfl, ?_⟩) hHeld ?_
      rotate_left
      · intro w hSw; skip; go_simp; try with_reducible rfl
      try simp only [Act.put, List.getElem_toArray, List.getElem_cons_zero, List.getElem_cons_succ, List.setIfInBounds_toArray, List.set_cons_zero, List.set_cons_succ]
      refine wpAnyH_done (by kernel_rfl) ?_ _
      have hHeld2 := hHeld.mono (Nat.le_of_eq hTe)
      have E3 := lies.on_call E2 hHeld2
      have P3 := P1.on hHeld2
      have KB := later EB hHeld2
      clear hHeld hHeld2 hG hG' x0 x1 y0 y1
      generalize ((u1.setCell ⟨T, 0, none⟩ (.int .i64 na)).setCell ⟨T, 1, none⟩ (.slice aa la ca)) = U at LU hIU E3 P3 KB ⊢
      obtain ⟨l0, l1, l2, l3, l4⟩ := lies.two LU
      have hcase := HR.out
      rcases hcase with ⟨hno, rfl⟩ | ⟨hok, rfl, hu, hln, rfl⟩
      · have HNO := Lib.hid hno
        clear hno
        obtain ⟨⟨x0, x1, x2, x3, x4, x5⟩, ⟨y0, y1, y2, y3, y4, y5⟩, xl⟩ := six_cells E3
        go_wp2_with fail
        exact bodyPost_ret (v := .tuple #[.agg #[.int .i64 0, .int .i64 0, .int .i64 0, .int .i64 0, .int .i64 0, .int .i64 0], .int .i64 6]) (by simp [results, Tryz.results12, go_sem, x0, x1, x2, x3, x4, x5, xl]) rfl ⟨put_six KB hRw _ _ _ _ _ _, 0, 0, 0, 0, 0, 0, 6, rfl, .inr (.inl ⟨HM.out, HN.out, HNO.out, rfl, rfl⟩)⟩
      · have HOK := Lib.hid hok
        have HLN := Lib.hid hln
        have HIU := Lib.hid hIU
        clear hok hln hIU
        go_wp2_with fail
        clear l0 l1 l2 l3 l4
        refine (of_any 3 _ us _ P3 HIU.out (by rw [HLN.out]; decide) (by rw [hu.out]; exact clT_tops (lesT_tops (full_tops HTA.out) _))).mono ?_
        rintro e U2 ⟨hB, m0, m1, m2, m3, m4, m5, f, rfl, hof⟩
        have HOF := Lib.hid hof
        have E4 := lies.on_call E3 hB
        have KB4 := later KB hB
        clear hB hof E3 P3 KB LU
        obtain ⟨⟨x0, x1, x2, x3, x4, x5⟩, ⟨y0, y1, y2, y3, y4, y5⟩, xl⟩ := six_cells E4
        go_wp2_with fail
        exact bodyPost_ret (v := .tuple #[.agg #[.int .i64 m0, .int .i64 m1, .int .i64 m2, .int .i64 m3, .int .i64 m4, .int .i64 m5], .int .i64 f]) (by simp [results, Tryz.results12, go_sem, x0, x1, x2, x3, x4, x5, xl]) rfl ⟨put_six KB4 hRw _ _ _ _ _ _, m0, m1, m2, m3, m4, m5, f, rfl, of_meet HTA.out HM.out HN.out HOK.out hu.out HOF.out⟩
  · have HM := Lib.hid hm
    clear hm hM
    obtain ⟨⟨x0, x1, x2, x3, x4, x5⟩, ⟨y0, y1, y2, y3, y4, y5⟩, xl⟩ := six_cells E2
    go_wp2_with fail
    exact bodyPost_ret (v := .tuple #[.agg #[.int .i64 0, .int .i64 0, .int .i64 0, .int .i64 0, .int .i64 0, .int .i64 0], .int .i64 8]) (by simp [results, Tryz.results12, go_sem, x0, x1, x2, x3, x4, x5, xl]) rfl ⟨put_six EB hRw _ _ _ _ _ _, 0, 0, 0, 0, 0, 0, 8, rfl, .inl ⟨HM.out, rfl, rfl⟩⟩
end Go.Proofs.YtklejbheieceeaaGreatDoor.zone
