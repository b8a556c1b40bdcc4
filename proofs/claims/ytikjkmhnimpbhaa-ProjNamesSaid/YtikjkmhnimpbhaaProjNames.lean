/-
  ProjNames answers true; no condition.
-/
import Derived.Test.YtikjkmhnimpbhaaProjF
import Derived.BigQuiet
namespace Go.Proofs.Ytikjkmhnimpbhaa.projNames
open Go.Joins Go.ChangeShapes Go.WideShapes Go.ChangeAt Go.RowKit num dbm Go.Proofs.Ytikjkmhnimpbhaa.tight Go.Proofs.Ytikjkmhnimpbhaa.tlaw Go.Proofs.Ytikjkmhnimpbhaa.proj plaw
open bound hiding up
set_option linter.unusedVariables false
set_option linter.unusedSimpArgs false

theorem move3_is (g b : Nat) (w : World) (hg : lies.Lies w g 29 (cellsOf [1, 2, 3, 4, 1, 6, 7, 8, 1])) (hb : lies.Lies w b 3 (cellsOf [0, 2, 1])) :
    Calls Try.prog 9 #[.agg #[.int .i64 3, .slice (some ⟨g, 0, none⟩) 9 9], .slice (some ⟨b, 0, none⟩) 3 3] w fun e w' => Below w.heap.size w w' ∧ ∃ aa la ca, e = .returned (.tuple #[.agg #[.int .i64 3, .slice aa la ca], .int .i64 0]) ∧ Blk w.heap.size w' aa la ca [1, 3, 2, 7, 1, 8, 4, 6, 1] := by
  refine (move_any 3 _ _ [1, 2, 3, 4, 1, 6, 7, 8, 1] [0, 2, 1] w (dlaw.own_ints (cap := 9) hg) (by decide) (by unfold Tops; decide) (int_ints (cap := 3) hb)).mono fun e w' h => ?_
  obtain ⟨hB, na, aa, la, ca, us, f, rfl, hR, hK⟩ := h
  obtain ⟨h1, h2, rfl⟩ := move_yes hR (by decide) (by unfold proj.Ord; decide)
  obtain rfl : na = 3 := h1
  obtain rfl : us = [1, 3, 2, 7, 1, 8, 4, 6, 1] := h2.trans (by decide +kernel)
  exact ⟨hB, aa, la, ca, rfl, hK⟩
theorem drop0_is (g : Nat) (w : World) (hg : lies.Lies w g 29 (cellsOf [1, -3, 9, 1])) :
    Calls Try.prog 11 #[.agg #[.int .i64 2, .slice (some ⟨g, 0, none⟩) 4 4], .int .i64 0] w fun e w' => Below w.heap.size w w' ∧ ∃ aa la ca, e = .returned (.tuple #[.agg #[.int .i64 0, .slice aa la ca], .int .i64 2]) ∧ Blk w.heap.size w' aa la ca [] := by
  refine (drop_any 2 0 _ [1, -3, 9, 1] w (dlaw.own_ints (cap := 4) hg) (by decide) (by unfold Tops; decide)).mono fun e w' h => ?_
  obtain ⟨hB, na, aa, la, ca, us, f, rfl, hR, hK⟩ := h
  obtain ⟨rfl, rfl, rfl⟩ := drop_arg hR (by decide) (fun h => absurd h.1 (by decide))
  exact ⟨hB, aa, la, ca, rfl, hK⟩
theorem grow4_is (sv : Value) (w : World) (hg : law.Ints w.heap.size w sv (List.replicate 16 0)) :
    Calls Try.prog 12 #[.agg #[.int .i64 4, sv]] w fun e w' => Below w.heap.size w w' ∧ ∃ aa la ca, e = .returned (.tuple #[.agg #[.int .i64 0, .slice aa la ca], .int .i64 9]) ∧ Blk w.heap.size w' aa la ca [] := by
  refine (grow_any 4 _ (List.replicate 16 0) w hg (by decide) (by unfold Tops; decide)).mono fun e w' h => ?_
  obtain ⟨hB, na, aa, la, ca, us, f, rfl, hR, hK⟩ := h
  obtain ⟨rfl, rfl, rfl⟩ := grow_full hR (by decide) rfl
  exact ⟨hB, aa, la, ca, rfl, hK⟩
theorem move0_is (g : Nat) (w : World) (hg : lies.Lies w g 29 (cellsOf [1])) :
    Calls Try.prog 9 #[.agg #[.int .i64 1, .slice (some ⟨g, 0, none⟩) 1 1], .slice none 0 0] w fun e w' => Below w.heap.size w w' ∧ ∃ aa la ca, e = .returned (.tuple #[.agg #[.int .i64 0, .slice aa la ca], .int .i64 2]) ∧ Blk w.heap.size w' aa la ca [] := by
  refine (move_any 1 _ _ [1] [] w (dlaw.own_ints (cap := 1) hg) (by decide) (by unfold Tops; decide) (.inl ⟨⟨none, 0, rfl, fun _ => rfl⟩, rfl⟩)).mono fun e w' h => ?_
  obtain ⟨hB, na, aa, la, ca, us, f, rfl, hR, hK⟩ := h
  obtain ⟨rfl, rfl, rfl⟩ := move_arg hR (by decide) (by unfold proj.Ord; decide)
  exact ⟨hB, aa, la, ca, rfl, hK⟩

set_option maxRecDepth 100000 in
set_option maxHeartbeats 4000000 in
theorem walk (w : World) : Calls Try.prog 3 #[] w fun e w' => e = .returned (.bool true) ∧ Below w.heap.size w w' := by
  have S := St.start w
  have hmk : ∀ w : World, (Instr.makeSlice 22 (.int .i64 16) (.int .i64 16)).run Try.prog w = .ok (.slice (some ⟨w.heap.size, 0, none⟩) 16 16) (w.alloc (.cells (madeCells #[.int .i64 0] 16) 29)) := run_make_row' (P := Try.prog) 22 29 (.int .i64 0) 8 Try.underlying22 info_b rfl .i64 .i64 16 (by decide) (by decide)
  go_enter Try.func3, Try.ntmps3
  go_wp2_with fail
  have A : lies.Lies (w.alloc (.cells #[.int .i64 1, .int .i64 2, .int .i64 3, .int .i64 4, .int .i64 1, .int .i64 6, .int .i64 7, .int .i64 8, .int .i64 1] 29)) w.heap.size 29 (cellsOf [1, 2, 3, 4, 1, 6, 7, 8, 1]) := by simpa [cellsOf] using lies.made w 29 #[.int .i64 1, .int .i64 2, .int .i64 3, .int .i64 4, .int .i64 1, .int .i64 6, .int .i64 7, .int .i64 8, .int .i64 1]
  replace S := S.alloc (.cells #[.int .i64 1, .int .i64 2, .int .i64 3, .int .i64 4, .int .i64 1, .int .i64 6, .int .i64 7, .int .i64 8, .int .i64 1] 29)
  generalize w.alloc (.cells #[.int .i64 1, .int .i64 2, .int .i64 3, .int .i64 4, .int .i64 1, .int .i64 6, .int .i64 7, .int .i64 8, .int .i64 1] 29) = u0 at A S ⊢
  refine (of_is 3 _ 9 9 u0).mono ?_
  rintro e w1 ⟨rfl, hB⟩
  replace S := S.below hB
  replace A := lies.on_call A hB
  clear hB
  go_wp2_with fail
  have O : lies.Lies (w1.alloc (.cells #[.int .i64 0, .int .i64 2, .int .i64 1] 3)) w1.heap.size 3 (cellsOf [0, 2, 1]) := by simpa [cellsOf] using lies.made w1 3 #[.int .i64 0, .int .i64 2, .int .i64 1]
  replace A := lies.on_alloc A (.cells #[.int .i64 0, .int .i64 2, .int .i64 1] 3)
  replace S := S.alloc (.cells #[.int .i64 0, .int .i64 2, .int .i64 1] 3)
  generalize w1.alloc (.cells #[.int .i64 0, .int .i64 2, .int .i64 1] 3) = u1 at A O S ⊢
  generalize w1.heap.size = g1 at O ⊢
  refine (move3_is _ g1 u1 A O).mono ?_
  rintro e w2 ⟨hB, a2, l2, c2, rfl, K2⟩
  replace S := (S.below hB).add 3 _ _ K2.ints
  clear hB A O K2
  go_wp2_with fail
  have A : lies.Lies ((w2.alloc (.cells #[.int .i64 3, .slice a2 l2 c2] 24)).alloc (.cells #[.int .i64 1, .int .i64 (-3), .int .i64 9, .int .i64 1] 29)) (w2.heap.size + 1) 29 (cellsOf [1, -3, 9, 1]) := by simpa [cellsOf] using lies.made_at (w2.alloc (.cells #[.int .i64 3, .slice a2 l2 c2] 24)) 29 #[.int .i64 1, .int .i64 (-3), .int .i64 9, .int .i64 1] (w2.heap.size + 1) (by simp)
  replace S := S.alloc (.cells #[.int .i64 1, .int .i64 (-3), .int .i64 9, .int .i64 1] 29)
  generalize (w2.alloc (.cells #[.int .i64 3, .slice a2 l2 c2] 24)).alloc (.cells #[.int .i64 1, .int .i64 (-3), .int .i64 9, .int .i64 1] 29) = u2 at A S ⊢
  generalize w2.heap.size = B2 at A S ⊢
  refine (of_is 2 _ 4 4 u2).mono ?_
  rintro e w3 ⟨rfl, hB⟩
  replace S := S.below hB
  replace A := lies.on_call A hB
  clear hB
  go_wp2_with fail
  refine (drop0_is _ w3 A).mono ?_
  rintro e w4 ⟨hB, a4, l4, c4, rfl, K4⟩
  replace S := (S.below hB).add 0 _ _ K4.ints
  clear hB A K4
  go_wp2_with fail
  have A : lies.Lies ((w4.alloc (.cells #[.int .i64 0, .slice a4 l4 c4] 24)).alloc (.cells (madeCells #[.int .i64 0] 16) 29)) (w4.heap.size + 1) 29 (cellsOf (List.replicate 16 0)) := by rw [← made_zeros]; exact lies.made_at _ _ _ _ (by simp)
  replace S := S.alloc (.cells (madeCells #[.int .i64 0] 16) 29)
  clear hmk
  generalize (w4.alloc (.cells #[.int .i64 0, .slice a4 l4 c4] 24)).alloc (.cells (madeCells #[.int .i64 0] 16) 29) = u4 at A S ⊢
  generalize w4.heap.size = B4 at A S ⊢
  refine (of_is 4 _ 16 16 u4).mono ?_
  rintro e w5 ⟨rfl, hB⟩
  replace S := S.below hB
  replace A := lies.on_call A hB
  clear hB
  go_wp2_with fail
  refine (grow4_is _ w5 (int_ints (cap := 16) A)).mono ?_
  rintro e w6 ⟨hB, a6, l6, c6, rfl, K6⟩
  replace S := (S.below hB).add 0 _ _ K6.ints
  clear hB A K6
  go_wp2_with fail
  have A : lies.Lies ((w6.alloc (.cells #[.int .i64 0, .slice a6 l6 c6] 24)).alloc (.cells #[.int .i64 1] 29)) (w6.heap.size + 1) 29 (cellsOf [1]) := by simpa [cellsOf] using lies.made_at (w6.alloc (.cells #[.int .i64 0, .slice a6 l6 c6] 24)) 29 #[.int .i64 1] (w6.heap.size + 1) (by simp)
  replace S := S.alloc (.cells #[.int .i64 1] 29)
  generalize (w6.alloc (.cells #[.int .i64 0, .slice a6 l6 c6] 24)).alloc (.cells #[.int .i64 1] 29) = u6 at A S ⊢
  generalize w6.heap.size = B6 at A S ⊢
  refine (of_is 1 _ 1 1 u6).mono ?_
  rintro e w7 ⟨rfl, hB⟩
  replace S := S.below hB
  replace A := lies.on_call A hB
  clear hB
  go_wp2_with fail
  refine (move0_is _ w7 A).mono ?_
  rintro e w8 ⟨hB, a8, l8, c8, rfl, K8⟩
  replace S := (S.below hB).add 0 _ _ K8.ints
  clear hB A K8
  go_wp2_with fail
  generalize w8.alloc (.cells #[.int .i64 0, .slice a8 l8 c8] 24) = u8 at S ⊢
  generalize w8.heap.size = B8 at S ⊢
  obtain ⟨H2, I2⟩ := S.tail.tail.tail.head
  have K0 := S.1
  clear S
  refine wp_region_held_drew (S := Below u8.heap.size u8) (by kernel_rfl) (dbm.drawn1 (Below.refl _ _)) (fun hHeld => ?_)
  refine wpAnyH_ready (rs := [0]) (by kernel_rfl) (by simp) (AllReadyH.cons rfl (fun K hK => ?_) AllReadyH.nil)
  go_simp
  refine (alive_yes _).mono ?_
  rintro e v1 ⟨rfl, hB⟩
  refine hK.out _ _ (hHeld.trans (hB.mono hHeld.size)) (fun hNew => ?_)
  clear hB
  clear hHeld hK K
  have hHeld := hNew
  clear hNew
  try simp only [Act.put, List.getElem_toArray, List.getElem_cons_zero, List.getElem_cons_succ, List.setIfInBounds_toArray, List.set_cons_zero, List.set_cons_succ]
  refine wpAnyH_take (i := 1) (v := ?_) rfl (by kernel_rfl) (by kernel_rfl) (by kernel_rfl) (fun _ _ _ h => h) (Or.inl ⟨by rfl, ?_⟩) hHeld ?_
  rotate_left
  · intro w hSw; obtain ⟨a0, a1⟩ := dlaw.at_s H2 hSw; go_simp; try with_reducible rfl
  try simp only [Act.put, List.getElem_toArray, List.getElem_cons_zero, List.getElem_cons_succ, List.setIfInBounds_toArray, List.set_cons_zero, List.set_cons_succ]
  refine wpAnyH_take (i := 2) (v := ?_) rfl (by kernel_rfl) (by kernel_rfl) (by kernel_rfl) (fun _ _ _ h => h) (Or.inl ⟨by rfl, ?_⟩) hHeld ?_
  rotate_left
  · intro w hSw; obtain ⟨a0, a1⟩ := dlaw.at_s H2 hSw; go_simp; try with_reducible rfl
  try simp only [Act.put, List.getElem_toArray, List.getElem_cons_zero, List.getElem_cons_succ, List.setIfInBounds_toArray, List.set_cons_zero, List.set_cons_succ]
  refine wpAnyH_take (i := 3) (v := ?_) rfl (by kernel_rfl) (by kernel_rfl) (by kernel_rfl) (fun _ _ _ h => h) (Or.inl ⟨by rfl, ?_⟩) hHeld ?_
  rotate_left
  · intro w hSw; obtain ⟨a0, a1⟩ := dlaw.at_s H2 hSw; go_simp; try with_reducible rfl
  try simp only [Act.put, List.getElem_toArray, List.getElem_cons_zero, List.getElem_cons_succ, List.setIfInBounds_toArray, List.set_cons_zero, List.set_cons_succ]
  refine wpAnyH_ready (rs := [4]) (by kernel_rfl) (by simp) (AllReadyH.cons rfl (fun K hK => ?_) AllReadyH.nil)
  go_simp
  have A : lies.Lies (v1.alloc (.cells #[.int .i64 1, .int .i64 3, .int .i64 2, .int .i64 7, .int .i64 1, .int .i64 8, .int .i64 4, .int .i64 6, .int .i64 1] 29)) v1.heap.size 29 (cellsOf [1, 3, 2, 7, 1, 8, 4, 6, 1]) := by simpa [cellsOf] using lies.made v1 29 #[.int .i64 1, .int .i64 3, .int .i64 2, .int .i64 7, .int .i64 1, .int .i64 8, .int .i64 4, .int .i64 6, .int .i64 1]
  refine hK.out _ _ (hHeld.trans ((bound.up1 v1 (.cells #[.int .i64 1, .int .i64 3, .int .i64 2, .int .i64 7, .int .i64 1, .int .i64 8, .int .i64 4, .int .i64 6, .int .i64 1] 29)).mono hHeld.size)) (fun hNew => ?_)
  clear hHeld hK K
  have hHeld := hNew
  clear hNew
  try simp only [Act.put, List.getElem_toArray, List.getElem_cons_zero, List.getElem_cons_succ, List.setIfInBounds_toArray, List.set_cons_zero, List.set_cons_succ]
  refine wpAnyH_ready (rs := [5]) (by kernel_rfl) (by simp) (AllReadyH.cons rfl (fun K hK => ?_) AllReadyH.nil)
  go_simp
  refine (of_is 3 _ 9 9 _).mono ?_
  rintro e v2 ⟨rfl, hB⟩
  replace A := lies.on_call A hB
  refine hK.out _ _ (hHeld.trans (hB.mono hHeld.size)) (fun hNew => ?_)
  clear hB
  clear hHeld hK K
  have hHeld := hNew
  clear hNew
  try simp only [Act.put, List.getElem_toArray, List.getElem_cons_zero, List.getElem_cons_succ, List.setIfInBounds_toArray, List.set_cons_zero, List.set_cons_succ]
  refine wpAnyH_ready (rs := [6]) (by kernel_rfl) (by simp) (AllReadyH.cons rfl (fun K hK => ?_) AllReadyH.nil)
  go_simp
  refine (is_yes 3 _ _ [1, 3, 2, 7, 1, 8, 4, 6, 1] _ ((I2.below hHeld).mono hHeld.size) (dlaw.own_ints (cap := 9) A) (by decide)).mono ?_
  rintro e v3 ⟨rfl, hB⟩
  refine hK.out _ _ (hHeld.trans (hB.mono hHeld.size)) (fun hNew => ?_)
  clear hB A
  clear hHeld hK K
  have hHeld := hNew
  clear hNew
  try simp only [Act.put, List.getElem_toArray, List.getElem_cons_zero, List.getElem_cons_succ, List.setIfInBounds_toArray, List.set_cons_zero, List.set_cons_succ]
  refine wpAnyH_take (i := 7) (v := ?_) rfl (by kernel_rfl) (by kernel_rfl) (by kernel_rfl) (fun _ _ _ h => h) (Or.inl ⟨by rfl, ?_⟩) hHeld ?_
  rotate_left
  · intro w hSw; skip; go_simp; try with_reducible rfl
  try simp only [Act.put, List.getElem_toArray, List.getElem_cons_zero, List.getElem_cons_succ, List.setIfInBounds_toArray, List.set_cons_zero, List.set_cons_succ]
  refine wpAnyH_take (i := 8) (v := ?_) rfl (by kernel_rfl) (by kernel_rfl) (by kernel_rfl) (fun _ _ _ h => h) (Or.inl ⟨by rfl, ?_⟩) hHeld ?_
  rotate_left
  · intro w hSw; skip; go_simp; try with_reducible rfl
  try simp only [Act.put, List.getElem_toArray, List.getElem_cons_zero, List.getElem_cons_succ, List.setIfInBounds_toArray, List.set_cons_zero, List.set_cons_succ]
  refine wpAnyH_take (i := 9) (v := ?_) rfl (by kernel_rfl) (by kernel_rfl) (by kernel_rfl) (fun _ _ _ h => h) (Or.inl ⟨by rfl, ?_⟩) hHeld ?_
  rotate_left
  · intro w hSw; skip; go_simp; try with_reducible rfl
  try simp only [Act.put, List.getElem_toArray, List.getElem_cons_zero, List.getElem_cons_succ, List.setIfInBounds_toArray, List.set_cons_zero, List.set_cons_succ]
  refine wpAnyH_take (i := 10) (v := ?_) rfl (by kernel_rfl) (by kernel_rfl) (by kernel_rfl) (fun _ _ _ h => h) (Or.inl ⟨by rfl, ?_⟩) hHeld ?_
  rotate_left
  · intro w hSw; skip; go_simp; try with_reducible rfl
  try simp only [Act.put, List.getElem_toArray, List.getElem_cons_zero, List.getElem_cons_succ, List.setIfInBounds_toArray, List.set_cons_zero, List.set_cons_succ]
  refine wpAnyH_take (i := 11) (v := ?_) rfl (by kernel_rfl) (by kernel_rfl) (by kernel_rfl) (fun _ _ _ h => h) (Or.inl ⟨by rfl, ?_⟩) hHeld ?_
  rotate_left
  · intro w hSw; skip; go_simp; try with_reducible rfl
  try simp only [Act.put, List.getElem_toArray, List.getElem_cons_zero, List.getElem_cons_succ, List.setIfInBounds_toArray, List.set_cons_zero, List.set_cons_succ]
  refine wpAnyH_take (i := 12) (v := ?_) rfl (by kernel_rfl) (by kernel_rfl) (by kernel_rfl) (fun _ _ _ h => h) (Or.inl ⟨by rfl, ?_⟩) hHeld ?_
  rotate_left
  · intro w hSw; skip; go_simp; try with_reducible rfl
  try simp only [Act.put, List.getElem_toArray, List.getElem_cons_zero, List.getElem_cons_succ, List.setIfInBounds_toArray, List.set_cons_zero, List.set_cons_succ]
  refine wpAnyH_take (i := 13) (v := ?_) rfl (by kernel_rfl) (by kernel_rfl) (by kernel_rfl) (fun _ _ _ h => h) (Or.inl ⟨by rfl, ?_⟩) hHeld ?_
  rotate_left
  · intro w hSw; skip; go_simp; try with_reducible rfl
  try simp only [Act.put, List.getElem_toArray, List.getElem_cons_zero, List.getElem_cons_succ, List.setIfInBounds_toArray, List.set_cons_zero, List.set_cons_succ]
  refine wpAnyH_take (i := 14) (v := ?_) rfl (by kernel_rfl) (by kernel_rfl) (by kernel_rfl) (fun _ _ _ h => h) (Or.inl ⟨by rfl, ?_⟩) hHeld ?_
  rotate_left
  · intro w hSw; skip; go_simp; try with_reducible rfl
  try simp only [Act.put, List.getElem_toArray, List.getElem_cons_zero, List.getElem_cons_succ, List.setIfInBounds_toArray, List.set_cons_zero, List.set_cons_succ]
  refine wpAnyH_take (i := 15) (v := ?_) rfl (by kernel_rfl) (by kernel_rfl) (by kernel_rfl) (fun _ _ _ h => h) (Or.inl ⟨by rfl, ?_⟩) hHeld ?_
  rotate_left
  · intro w hSw; skip; go_simp; try with_reducible rfl
  try simp only [Act.put, List.getElem_toArray, List.getElem_cons_zero, List.getElem_cons_succ, List.setIfInBounds_toArray, List.set_cons_zero, List.set_cons_succ]
  refine wpAnyH_take (i := 16) (v := ?_) rfl (by kernel_rfl) (by kernel_rfl) (by kernel_rfl) (fun _ _ _ h => h) (Or.inl ⟨by rfl, ?_⟩) hHeld ?_
  rotate_left
  · intro w hSw; skip; go_simp; try with_reducible rfl
  try simp only [Act.put, List.getElem_toArray, List.getElem_cons_zero, List.getElem_cons_succ, List.setIfInBounds_toArray, List.set_cons_zero, List.set_cons_succ]
  refine wpAnyH_take (i := 17) (v := ?_) rfl (by kernel_rfl) (by kernel_rfl) (by kernel_rfl) (fun _ _ _ h => h) (Or.inl ⟨by rfl, ?_⟩) hHeld ?_
  rotate_left
  · intro w hSw; skip; go_simp; try with_reducible rfl
  try simp only [Act.put, List.getElem_toArray, List.getElem_cons_zero, List.getElem_cons_succ, List.setIfInBounds_toArray, List.set_cons_zero, List.set_cons_succ]
  refine wpAnyH_take (i := 18) (v := ?_) rfl (by kernel_rfl) (by kernel_rfl) (by kernel_rfl) (fun _ _ _ h => h) (Or.inl ⟨by rfl, ?_⟩) hHeld ?_
  rotate_left
  · intro w hSw; skip; go_simp; try with_reducible rfl
  try simp only [Act.put, List.getElem_toArray, List.getElem_cons_zero, List.getElem_cons_succ, List.setIfInBounds_toArray, List.set_cons_zero, List.set_cons_succ]
  refine wpAnyH_take (i := 19) (v := ?_) rfl (by kernel_rfl) (by kernel_rfl) (by kernel_rfl) (fun _ _ _ h => h) (Or.inl ⟨by rfl, ?_⟩) hHeld ?_
  rotate_left
  · intro w hSw; skip; go_simp; try with_reducible rfl
  try simp only [Act.put, List.getElem_toArray, List.getElem_cons_zero, List.getElem_cons_succ, List.setIfInBounds_toArray, List.set_cons_zero, List.set_cons_succ]
  refine wpAnyH_take (i := 20) (v := ?_) rfl (by kernel_rfl) (by kernel_rfl) (by kernel_rfl) (fun _ _ _ h => h) (Or.inl ⟨by rfl, ?_⟩) hHeld ?_
  rotate_left
  · intro w hSw; skip; go_simp; try with_reducible rfl
  try simp only [Act.put, List.getElem_toArray, List.getElem_cons_zero, List.getElem_cons_succ, List.setIfInBounds_toArray, List.set_cons_zero, List.set_cons_succ]
  refine wpAnyH_done (by kernel_rfl) ?_ _
  have KZ := K0.trans (hHeld.mono K0.size)
  clear hHeld H2 I2
  go_wp2_with fail
  go_ret
  exact ⟨rfl, KZ⟩

set_option maxRecDepth 100000 in
theorem lifted (os : Os) (started : os.Started) (H : Type) (enc : TypeId × Value → H) :
    ReturnsInHanded {} Try.checked os 3 .any (Rows.projNamesSpec.pre6 enc Try.prog Try.f3 Rows.projNamesRow.domain false) (Rows.projNamesSpec.post enc Try.prog Try.f3 false true false false) := by
  refine returnsInHanded_of_change (C := Try.checked) law.own started (by kernel_rfl) Try.func3
    (ChangeSpec.witness6 (enc := enc) (C := Try.checked) false ⟨#[], #[], []⟩ 8 (by kernel_rfl) (by kernel_rfl) (by kernel_rfl) (by kernel_rfl)) ?_
  intro W base args ds gs before hval0 hW _ _
  have hW' := hW
  obtain ⟨p, q, hA0, hV, rfl, _, _⟩ := hW
  have hA : DataW.TrodAll enc Try.prog W 0 (fun _ => true) true Try.f3.params.toList args.toList ds p := hA0
  rw [Try.params3] at hA
  obtain ⟨rfl, rfl, rfl⟩ := trodAll_none hA
  refine (walk   W).mono fun e W' ⟨he, hB⟩ => ?_
  subst he
  exact ⟨_, rfl, law.post_true law.laidOut (by kernel_rfl) rfl Try.underlying4 rfl hW' (fun h => by subst h; rfl) hB⟩

theorem proved : Rows.ProjNamesSaid :=
  OpenClaim.holds_of_wide 3 Try.f3 rfl rfl rfl rfl rfl rfl rfl ⟨rfl, rfl, rfl, rfl, rfl⟩ rfl rfl rfl rfl rfl (by kernel_rfl) Try.func3 (by kernel_rfl)
    (of_decide_eq_true (by kernel_rfl)) (by unfold Func.isWrapper; first | (rw [if_pos (by decide +kernel)]; kernel_rfl) | (rw [if_neg (by decide +kernel)]; exact ⟨rfl, rfl⟩))
    (fun os started H enc _ => lifted os started H enc)
#print axioms proved
end Go.Proofs.Ytikjkmhnimpbhaa.projNames
