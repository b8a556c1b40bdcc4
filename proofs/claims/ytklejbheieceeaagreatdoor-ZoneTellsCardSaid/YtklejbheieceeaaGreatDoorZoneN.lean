/-
  The document's own Cmp of zones; each theorem names its conditions.
-/
import Derived.Test.YtklejbheieceeaaGreatDoorZoneR
import Derived.Test.YtklejbheieceeaaGreatDoorZoneC
namespace Go.Proofs.YtklejbheieceeaaGreatDoor.zref
open Go.Joins Go.ChangeShapes Go.WideShapes Go.ChangeAt Go.RowKit num rat dbm Go.Proofs.YtklejbheieceeaaGreatDoor.tight Go.Proofs.YtklejbheieceeaaGreatDoor.incl Go.Proofs.YtklejbheieceeaaGreatDoor.plaw Go.Proofs.YtklejbheieceeaaGreatDoor.zopen Go.Proofs.YtklejbheieceeaaGreatDoor.zone dref
open bound hiding up
set_option linter.unusedVariables false
set_option linter.unusedSimpArgs false


theorem cmpL_lt {ts us : List Int} {k : Nat} (h : k < ts.length) (h' : k < us.length) (hl : ts[k]?.getD 0 < us[k]?.getD 0) : cmpL (ts.drop k) (us.drop k) = -1 := by
  rw [cmpL_up ts us k h h']
  have e : cmp1 (ts[k]?.getD 0) (us[k]?.getD 0) = -1 := by unfold cmp1; rw [if_pos hl]
  rw [e]
  rfl
theorem cmpL_gt {ts us : List Int} {k : Nat} (h : k < ts.length) (h' : k < us.length) (hl : us[k]?.getD 0 < ts[k]?.getD 0) : cmpL (ts.drop k) (us.drop k) = 1 := by
  rw [cmpL_up ts us k h h']
  have e : cmp1 (ts[k]?.getD 0) (us[k]?.getD 0) = 1 := by unfold cmp1; rw [if_neg (by omega), if_pos hl]
  rw [e]
  rfl
theorem cmpL_eq {ts us : List Int} {k : Nat} (h : k < ts.length) (h' : k < us.length) (h1 : ¬ ts[k]?.getD 0 < us[k]?.getD 0) (h2 : ¬ us[k]?.getD 0 < ts[k]?.getD 0) : cmpL (ts.drop k) (us.drop k) = cmpL (ts.drop (k + 1)) (us.drop (k + 1)) := by
  rw [cmpL_up ts us k h h']
  have e : cmp1 (ts[k]?.getD 0) (us[k]?.getD 0) = 0 := by unfold cmp1; rw [if_neg h1, if_neg h2]
  rw [e]
  rfl
/-- what lies in the round of Cmp. -/
def Cx (A B : Nat) (ts us : List Int) (w W : World) : Prop := Row W A 0 ts ∧ Row W B 0 us ∧ A < W.heap.size ∧ B < W.heap.size ∧ Below w.heap.size w W
theorem Cx.below {A B : Nat} {ts us : List Int} {w W X : World} (h : Cx A B ts us w W) (k : Below W.heap.size W X) : Cx A B ts us w X :=
  ⟨h.1.below k h.2.2.1, h.2.1.below k h.2.2.2.1, Nat.lt_of_lt_of_le h.2.2.1 k.size, Nat.lt_of_lt_of_le h.2.2.2.1 k.size, h.2.2.2.2.trans (k.mono h.2.2.2.2.size)⟩

set_option maxRecDepth 100000 in
set_option maxHeartbeats 4000000 in
theorem rcmp_any (a0 a1 a2 a3 a4 a5 b0 b1 b2 b3 b4 b5 : Int) (w : World) : Calls Tryz.prog 20 #[.agg #[.int .i64 a0, .int .i64 a1, .int .i64 a2, .int .i64 a3, .int .i64 a4, .int .i64 a5], .agg #[.int .i64 b0, .int .i64 b1, .int .i64 b2, .int .i64 b3, .int .i64 b4, .int .i64 b5]] w fun e w' => e = .returned (.int .i64 (cmpL [a0, a1, a2, a3, a4, a5] [b0, b1, b2, b3, b4, b5])) ∧ Below w.heap.size w w' := by
  have DB := bound.up2 w (.cells #[.int .i64 a0, .int .i64 a1, .int .i64 a2, .int .i64 a3, .int .i64 a4, .int .i64 a5] 24) (.cells #[.int .i64 b0, .int .i64 b1, .int .i64 b2, .int .i64 b3, .int .i64 b4, .int .i64 b5] 24)
  have D0 := lies.on_alloc (lies.made w 24 #[.int .i64 a0, .int .i64 a1, .int .i64 a2, .int .i64 a3, .int .i64 a4, .int .i64 a5]) (.cells #[.int .i64 b0, .int .i64 b1, .int .i64 b2, .int .i64 b3, .int .i64 b4, .int .i64 b5] 24)
  have D1 := lies.made_at (w.alloc (.cells #[.int .i64 a0, .int .i64 a1, .int .i64 a2, .int .i64 a3, .int .i64 a4, .int .i64 a5] 24)) 24 #[.int .i64 b0, .int .i64 b1, .int .i64 b2, .int .i64 b3, .int .i64 b4, .int .i64 b5] (w.heap.size + 1) (by simp)
  obtain ⟨ts, hts⟩ : ∃ ts, ts = [a0, a1, a2, a3, a4, a5] := ⟨_, rfl⟩
  obtain ⟨us, hus⟩ : ∃ us, us = [b0, b1, b2, b3, b4, b5] := ⟨_, rfl⟩
  have W0 : Cx w.heap.size (w.heap.size + 1) ts us w ((w.alloc (.cells #[.int .i64 a0, .int .i64 a1, .int .i64 a2, .int .i64 a3, .int .i64 a4, .int .i64 a5] 24)).alloc (.cells #[.int .i64 b0, .int .i64 b1, .int .i64 b2, .int .i64 b3, .int .i64 b4, .int .i64 b5] 24)) := ⟨hts ▸ row_six D0, hus ▸ row_six D1, lies.lt D0, lies.lt D1, DB⟩
  have HL := Lib.hid (show ts.length = 6 by rw [hts]; rfl)
  have HU := Lib.hid (show us.length = 6 by rw [hus]; rfl)
  have HTS := Lib.hid hts
  have HUS := Lib.hid hus
  clear DB D0 D1 hts hus
  go_enter Tryz.func20, Tryz.ntmps20
  go_wp2_with fail
  generalize (w.alloc (.cells #[.int .i64 a0, .int .i64 a1, .int .i64 a2, .int .i64 a3, .int .i64 a4, .int .i64 a5] 24)).alloc (.cells #[.int .i64 b0, .int .i64 b1, .int .i64 b2, .int .i64 b3, .int .i64 b4, .int .i64 b5] 24) = w0 at W0 ⊢
  generalize w.heap.size + 1 = B at W0 ⊢
  generalize w.heap.size = A at W0 ⊢
  go_loopw [5] (fun i wr => ∃ k : Nat, k ≤ 6 ∧ i = .int .i64 k ∧ Cx A B ts us w wr ∧ RowKit.Hid (cmpL ts us = cmpL (ts.drop k) (us.drop k))) (fun i _ => 6 - (intOf i).toNat)
  case atStart => exact ⟨0, by decide, rfl, W0, Lib.hid rfl⟩
  case round =>
    clear W0
    obtain ⟨k, hk, rfl, hC, hA⟩ := hrel
    by_cases hk6 : k < 6
    · have hpi : (k : Int) < 6 := by omega
      have h1 : k < ts.length := by rw [HL.out]; exact hk6
      have h2 : k < us.length := by rw [HU.out]; exact hk6
      have M1 := Lib.hid (fun (W : World) (h : Cx A B ts us w W) => h.1 k h1)
      have M2 := Lib.hid (fun (W : World) (h : Cx A B ts us w W) => h.2.1 k h2)
      have LT := Lib.hid (cmpL_lt h1 h2)
      have GT := Lib.hid (cmpL_gt h1 h2)
      have EQ := Lib.hid (cmpL_eq h1 h2)
      simp only [Nat.zero_add] at M1 M2
      generalize ts[k]?.getD 0 = x at M1 LT GT EQ
      generalize us[k]?.getD 0 = y at M2 LT GT EQ
      have ha := hC.2.2.1
      have hb := hC.2.2.2.1
      have m1 := M1.out wr hC
      have m2 := M2.out wr hC
      clear h1 h2
      go_wp2_with fail
      refine wp_region_held_drew (S := Below wr.heap.size wr) (by kernel_rfl) (dbm.drawn1 (Below.refl _ _)) (fun hHeld => ?_)
      generalize wr.drew = w1 at hHeld ⊢
      refine wpAnyH_take (i := 0) (v := ?_) rfl (by kernel_rfl) (by kernel_rfl) (by kernel_rfl) (fun _ _ _ h => h) (Or.inl ⟨by rfl, ?_⟩) hHeld ?_
      rotate_left
      · intro w hSw; have s0 := (hSw.cell (p := ⟨A, k, none⟩) ha).trans m1; have s1 := (hSw.cell (p := ⟨B, k, none⟩) hb).trans m2; go_simp; try with_reducible rfl
      try simp only [Act.put, List.getElem_toArray, List.getElem_cons_zero, List.getElem_cons_succ, List.setIfInBounds_toArray, List.set_cons_zero, List.set_cons_succ]
      refine wpAnyH_take (i := 1) (v := ?_) rfl (by kernel_rfl) (by kernel_rfl) (by kernel_rfl) (fun _ _ _ h => h) (Or.inl ⟨by rfl, ?_⟩) hHeld ?_
      rotate_left
      · intro w hSw; have s0 := (hSw.cell (p := ⟨A, k, none⟩) ha).trans m1; have s1 := (hSw.cell (p := ⟨B, k, none⟩) hb).trans m2; go_simp; try with_reducible rfl
      try simp only [Act.put, List.getElem_toArray, List.getElem_cons_zero, List.getElem_cons_succ, List.setIfInBounds_toArray, List.set_cons_zero, List.set_cons_succ]
      refine wpAnyH_take (i := 2) (v := ?_) rfl (by kernel_rfl) (by kernel_rfl) (by kernel_rfl) (fun _ _ _ h => h) (Or.inl ⟨by rfl, ?_⟩) hHeld ?_
      rotate_left
      · intro w hSw; have s0 := (hSw.cell (p := ⟨A, k, none⟩) ha).trans m1; have s1 := (hSw.cell (p := ⟨B, k, none⟩) hb).trans m2; go_simp; try with_reducible rfl
      try simp only [Act.put, List.getElem_toArray, List.getElem_cons_zero, List.getElem_cons_succ, List.setIfInBounds_toArray, List.set_cons_zero, List.set_cons_succ]
      refine wpAnyH_take (i := 3) (v := ?_) rfl (by kernel_rfl) (by kernel_rfl) (by kernel_rfl) (fun _ _ _ h => h) (Or.inl ⟨by rfl, ?_⟩) hHeld ?_
      rotate_left
      · intro w hSw; have s0 := (hSw.cell (p := ⟨A, k, none⟩) ha).trans m1; have s1 := (hSw.cell (p := ⟨B, k, none⟩) hb).trans m2; go_simp; try with_reducible rfl
      try simp only [Act.put, List.getElem_toArray, List.getElem_cons_zero, List.getElem_cons_succ, List.setIfInBounds_toArray, List.set_cons_zero, List.set_cons_succ]
      refine wpAnyH_take (i := 4) (v := ?_) rfl (by kernel_rfl) (by kernel_rfl) (by kernel_rfl) (fun _ _ _ h => h) (Or.inl ⟨by rfl, ?_⟩) hHeld ?_
      rotate_left
      · intro w hSw; have s0 := (hSw.cell (p := ⟨A, k, none⟩) ha).trans m1; have s1 := (hSw.cell (p := ⟨B, k, none⟩) hb).trans m2; go_simp; try with_reducible rfl
      try simp only [Act.put, List.getElem_toArray, List.getElem_cons_zero, List.getElem_cons_succ, List.setIfInBounds_toArray, List.set_cons_zero, List.set_cons_succ]
      refine wpAnyH_take (i := 5) (v := ?_) rfl (by kernel_rfl) (by kernel_rfl) (by kernel_rfl) (fun _ _ _ h => h) (Or.inl ⟨by rfl, ?_⟩) hHeld ?_
      rotate_left
      · intro w hSw; have s0 := (hSw.cell (p := ⟨A, k, none⟩) ha).trans m1; have s1 := (hSw.cell (p := ⟨B, k, none⟩) hb).trans m2; go_simp; try with_reducible rfl
      try simp only [Act.put, List.getElem_toArray, List.getElem_cons_zero, List.getElem_cons_succ, List.setIfInBounds_toArray, List.set_cons_zero, List.set_cons_succ]
      refine wpAnyH_take (i := 6) (v := ?_) rfl (by kernel_rfl) (by kernel_rfl) (by kernel_rfl) (fun _ _ _ h => h) (Or.inl ⟨by rfl, ?_⟩) hHeld ?_
      rotate_left
      · intro w hSw; have s0 := (hSw.cell (p := ⟨A, k, none⟩) ha).trans m1; have s1 := (hSw.cell (p := ⟨B, k, none⟩) hb).trans m2; go_simp; try with_reducible rfl
      try simp only [Act.put, List.getElem_toArray, List.getElem_cons_zero, List.getElem_cons_succ, List.setIfInBounds_toArray, List.set_cons_zero, List.set_cons_succ]
      refine wpAnyH_done (by kernel_rfl) ?_ _
      replace hC := hC.below hHeld
      clear hHeld ha hb m1 m2
      by_cases hxy : x < y
      · go_wp2_with fail
        go_ret
        exact ⟨by rw [← HTS.out, ← HUS.out, hA.out, LT.out hxy]; rfl, hC.2.2.2.2⟩
      · have ha := hC.2.2.1
        have hb := hC.2.2.2.1
        have m1 := M1.out w1 hC
        have m2 := M2.out w1 hC
        go_wp2_with fail
        refine wp_region_held_drew (S := Below w1.heap.size w1) (by kernel_rfl) (dbm.drawn1 (Below.refl _ _)) (fun hHeld => ?_)
        generalize w1.drew = w2 at hHeld ⊢
        refine wpAnyH_take (i := 0) (v := ?_) rfl (by kernel_rfl) (by kernel_rfl) (by kernel_rfl) (fun _ _ _ h => h) (Or.inl ⟨by rfl, ?_⟩) hHeld ?_
        rotate_left
        · intro w hSw; have s0 := (hSw.cell (p := ⟨A, k, none⟩) ha).trans m1; have s1 := (hSw.cell (p := ⟨B, k, none⟩) hb).trans m2; go_simp; try with_reducible rfl
        try simp only [Act.put, List.getElem_toArray, List.getElem_cons_zero, List.getElem_cons_succ, List.setIfInBounds_toArray, List.set_cons_zero, List.set_cons_succ]
        refine wpAnyH_take (i := 1) (v := ?_) rfl (by kernel_rfl) (by kernel_rfl) (by kernel_rfl) (fun _ _ _ h => h) (Or.inl ⟨by rfl, ?_⟩) hHeld ?_
        rotate_left
        · intro w hSw; have s0 := (hSw.cell (p := ⟨A, k, none⟩) ha).trans m1; have s1 := (hSw.cell (p := ⟨B, k, none⟩) hb).trans m2; go_simp; try with_reducible rfl
        try simp only [Act.put, List.getElem_toArray, List.getElem_cons_zero, List.getElem_cons_succ, List.setIfInBounds_toArray, List.set_cons_zero, List.set_cons_succ]
        refine wpAnyH_take (i := 2) (v := ?_) rfl (by kernel_rfl) (by kernel_rfl) (by kernel_rfl) (fun _ _ _ h => h) (Or.inl ⟨by rfl, ?_⟩) hHeld ?_
        rotate_left
        · intro w hSw; have s0 := (hSw.cell (p := ⟨A, k, none⟩) ha).trans m1; have s1 := (hSw.cell (p := ⟨B, k, none⟩) hb).trans m2; go_simp; try with_reducible rfl
        try simp only [Act.put, List.getElem_toArray, List.getElem_cons_zero, List.getElem_cons_succ, List.setIfInBounds_toArray, List.set_cons_zero, List.set_cons_succ]
        refine wpAnyH_take (i := 3) (v := ?_) rfl (by kernel_rfl) (by kernel_rfl) (by kernel_rfl) (fun _ _ _ h => h) (Or.inl ⟨by rfl, ?_⟩) hHeld ?_
        rotate_left
        · intro w hSw; have s0 := (hSw.cell (p := ⟨A, k, none⟩) ha).trans m1; have s1 := (hSw.cell (p := ⟨B, k, none⟩) hb).trans m2; go_simp; try with_reducible rfl
        try simp only [Act.put, List.getElem_toArray, List.getElem_cons_zero, List.getElem_cons_succ, List.setIfInBounds_toArray, List.set_cons_zero, List.set_cons_succ]
        refine wpAnyH_take (i := 4) (v := ?_) rfl (by kernel_rfl) (by kernel_rfl) (by kernel_rfl) (fun _ _ _ h => h) (Or.inl ⟨by rfl, ?_⟩) hHeld ?_
        rotate_left
        · intro w hSw; have s0 := (hSw.cell (p := ⟨A, k, none⟩) ha).trans m1; have s1 := (hSw.cell (p := ⟨B, k, none⟩) hb).trans m2; go_simp; try with_reducible rfl
        try simp only [Act.put, List.getElem_toArray, List.getElem_cons_zero, List.getElem_cons_succ, List.setIfInBounds_toArray, List.set_cons_zero, List.set_cons_succ]
        refine wpAnyH_take (i := 5) (v := ?_) rfl (by kernel_rfl) (by kernel_rfl) (by kernel_rfl) (fun _ _ _ h => h) (Or.inl ⟨by rfl, ?_⟩) hHeld ?_
        rotate_left
        · intro w hSw; have s0 := (hSw.cell (p := ⟨A, k, none⟩) ha).trans m1; have s1 := (hSw.cell (p := ⟨B, k, none⟩) hb).trans m2; go_simp; try with_reducible rfl
        try simp only [Act.put, List.getElem_toArray, List.getElem_cons_zero, List.getElem_cons_succ, List.setIfInBounds_toArray, List.set_cons_zero, List.set_cons_succ]
        refine wpAnyH_take (i := 6) (v := ?_) rfl (by kernel_rfl) (by kernel_rfl) (by kernel_rfl) (fun _ _ _ h => h) (Or.inl ⟨by rfl, ?_⟩) hHeld ?_
        rotate_left
        · intro w hSw; have s0 := (hSw.cell (p := ⟨A, k, none⟩) ha).trans m1; have s1 := (hSw.cell (p := ⟨B, k, none⟩) hb).trans m2; go_simp; try with_reducible rfl
        try simp only [Act.put, List.getElem_toArray, List.getElem_cons_zero, List.getElem_cons_succ, List.setIfInBounds_toArray, List.set_cons_zero, List.set_cons_succ]
        refine wpAnyH_done (by kernel_rfl) ?_ _
        replace hC := hC.below hHeld
        clear hHeld ha hb m1 m2
        by_cases hyx : y < x
        · go_wp2_with fail
          go_ret
          exact ⟨by rw [← HTS.out, ← HUS.out, hA.out, GT.out hyx]; rfl, hC.2.2.2.2⟩
        · have HN := Lib.hid (hA.out.trans (EQ.out (by omega) (by omega)))
          go_wp2_with fail
          clear hxy hyx
          go_roundw
          case rel => exact ⟨k + 1, by omega, by go_num, hC, HN⟩
          case measure => simp [intOf]; omega
    · obtain rfl : k = 6 := by omega
      go_wp2_with fail
      go_ret
      refine ⟨?_, hC.2.2.2.2⟩
      rw [← HTS.out, ← HUS.out, hA.out, List.drop_eq_nil_of_le (by rw [HL.out]; exact Nat.le_refl _), List.drop_eq_nil_of_le (by rw [HU.out]; exact Nat.le_refl _)]
      rfl
end Go.Proofs.YtklejbheieceeaaGreatDoor.zref
