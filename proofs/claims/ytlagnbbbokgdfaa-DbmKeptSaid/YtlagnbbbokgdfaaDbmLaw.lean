/-
  A matrix that comes in as an argument, opened; and the chapter's first examples of package dbm, which layer 4's laws begin with; no conditions beside the theorems' own.
-/
import Derived.Test.YtlagnbbbokgdfaaDbmRef1
import Derived.Test.YtlagnbbbokgdfaaDbmClose
import Derived.Test.YtlagnbbbokgdfaaDbmTop
import Derived.Lib.SmallJoins
import Derived.Deep.RegionHeld3
namespace Go.Proofs.Ytlagnbbbokgdfaa.dlaw
open Go.Joins Go.ChangeShapes Go.WideShapes Go.ChangeAt Go.RowKit num dbm
open bound hiding up
set_option linter.unusedVariables false
set_option linter.unusedSimpArgs false

set_option maxRecDepth 100000 in
/-- a matrix by value in memory that lies below. -/
theorem open_dbm {H : Type} {enc : TypeId × Value → H} {W : World} {v : Value} {d : DataW H} {p : List MemPlace} {base : Nat}
    (hok : Value.okWide Try.prog W .any base 27 v) (h : DataW.Trod enc Try.prog W 0 (fun _ => true) true 27 v d p) :
    ∃ (n : Int) (sv : Value) (ts : List Int), v = .agg #[.int .i64 n, sv] ∧ (Lit.int .i64 n).wf = true ∧ (∀ z ∈ ts, (Lit.int .i64 z).wf = true) ∧ law.Ints W.heap.size W sv ts ∧ ts.length ≤ maxLen := by
  obtain ⟨v0, v1, y0, y1, k, rfl, _, _, h0, h1⟩ := open_agg2 Try.underlying27 (by kernel_rfl) (by kernel_rfl) hok h
  obtain ⟨a, ha, _, wa⟩ := DataW.trod_int Try.underlying3 h0
  simp only [List.cons.injEq, and_true] at ha
  subst ha
  rcases open_ints Try.underlying25 Try.underlying29 (by kernel_rfl) h1 with ⟨hcs, hx⟩ | ⟨a', len', cap', zs, hcs, _, hl, hm, hz, hx, hcell, hwz⟩
  · simp only [List.cons.injEq, and_true] at hcs
    subst hcs
    exact ⟨a, _, [], rfl, wa, by simp, .inl ⟨⟨_, _, rfl, fun _ => rfl⟩, rfl⟩, Nat.zero_le _⟩
  · simp only [List.cons.injEq, and_true] at hcs
    subst hcs
    simp only [if_true] at hz
    have hlen : (zs.take len').length = len' := by simp; omega
    refine ⟨a, _, zs.take len', rfl, wa, fun z hz' => hwz z (List.mem_of_mem_take hz'), ?_, by omega⟩
    by_cases h0 : len' = 0
    · subst h0
      exact .inl ⟨⟨_, _, rfl, fun h => by cases h⟩, by simp⟩
    · obtain ⟨b, off, rfl, hcs⟩ := ints_at hcell (by omega)
      refine .inr ⟨b, off, cap', by rw [hlen], law.cell_lt (hcs 0 (by omega)), fun j hj => ?_⟩
      rw [hlen] at hj
      rw [hcs j (by omega), List.getElem?_take_of_lt hj, List.getD_eq_getElem?_getD]

/-- what a call leaves that answers a matrix in memory of its own: it lies there. -/
def Own (B : Nat) (n : Int) (sv : Value) (us : List Int) (w : World) : Prop := B ≤ w.heap.size ∧ law.Ints w.heap.size w sv us

theorem two_is (a b c d : Int) (w : World) :
    Calls Try.prog 10 #[.int .i64 a, .int .i64 b, .int .i64 c, .int .i64 d] w fun e w' => ∃ g, w.heap.size ≤ g ∧ e = .returned (.agg #[.int .i64 2, .slice (some ⟨g, 0, none⟩) 4 4]) ∧ lies.Lies w' g 29 (cellsOf [a, b, c, d]) ∧ Below w.heap.size w w' := by
  go_enter Try.func10, Try.ntmps10
  go_wp2
  refine bodyPost_ret (v := .agg #[.int .i64 2, .slice (some ⟨w.heap.size + 1, 0, none⟩) 4 4]) (by simp [results, Try.results10, go_sem]) rfl ⟨w.heap.size + 1, by omega, rfl, ?_, bound.up2 _ _ _⟩
  exact lies.made_at _ _ _ _ (by simp)

theorem top_two (w : World) : Calls Try.prog 21 #[.int .i64 2] w fun e w' => ∃ g, w.heap.size ≤ g ∧ e = .returned (.tuple #[.agg #[.int .i64 2, .slice (some ⟨g, 0, none⟩) 4 4], .int .i64 0]) ∧ lies.Lies w' g 29 (cellsOf [1, 9223372036854775807, 9223372036854775807, 1]) ∧ Below w.heap.size w w' := by
  refine (top_ok 2 w (by decide) (by decide)).mono ?_
  rintro e w' ⟨hB, g, hg, rfl, hl⟩
  have e1 : topT 2 (by decide) = [1, 9223372036854775807, 9223372036854775807, 1] := by decide +kernel
  rw [e1] at hl
  exact ⟨g, hg, rfl, hl, hB⟩
theorem close_yes (g : Nat) (w : World) (hg : lies.Lies w g 29 (cellsOf [1, -3, 9, 1])) :
    Calls Try.prog 11 #[.agg #[.int .i64 2, .slice (some ⟨g, 0, none⟩) 4 4]] w fun e w' => ∃ g', w.heap.size ≤ g' ∧ e = .returned (.tuple #[.agg #[.int .i64 2, .slice (some ⟨g', 0, none⟩) 4 4], .int .i64 0]) ∧ lies.Lies w' g' 29 (cellsOf [1, -3, 9, 1]) ∧ Below w.heap.size w w' := by
  refine (close_ok 2 g 0 4 [1, -3, 9, 1] w (by decide) (row_of hg) (lies.lt hg) (by unfold Tops; decide) (by decide) rfl (by decide)).mono ?_
  rintro e w' ⟨hB, ⟨k, hk, hem, _⟩ | ⟨_, g', hg', rfl, hl⟩⟩
  · refine absurd hem ?_
    have : k = 0 ∨ k = 1 ∨ k = 2 := by omega
    unfold emp
    rcases this with rfl | rfl | rfl <;> (rintro ⟨i, hi, h⟩; have : i = 0 ∨ i = 1 := by omega) <;> rcases this with rfl | rfl <;> revert h <;> decide +kernel
  · have e1 : tabs 2 (by decide) [1, -3, 9, 1] 2 = [1, -3, 9, 1] := by decide +kernel
    rw [e1] at hl
    exact ⟨g', hg', rfl, hl, hB⟩
theorem close_none (g : Nat) (w : World) (hg : lies.Lies w g 29 (cellsOf [1, -5, 3, 1])) :
    Calls Try.prog 11 #[.agg #[.int .i64 2, .slice (some ⟨g, 0, none⟩) 4 4]] w fun e w' => e = .returned (.tuple #[.agg #[.int .i64 0, .slice none 0 0], .int .i64 6]) ∧ Below w.heap.size w w' := by
  refine (close_ok 2 g 0 4 [1, -5, 3, 1] w (by decide) (row_of hg) (lies.lt hg) (by unfold Tops; decide) (by decide) rfl (by decide)).mono ?_
  rintro e w' ⟨hB, ⟨k, hk, hem, rfl⟩ | ⟨hne, _⟩⟩
  · exact ⟨rfl, hB⟩
  · exact absurd (⟨1, by decide, by decide +kernel⟩ : emp 2 (tabs 2 (by decide) [1, -5, 3, 1] 1)) (hne 1 (by decide))

theorem own_ints {w : World} {g : Nat} {us : List Int} {cap : Nat} (h : lies.Lies w g 29 (cellsOf us)) : law.Ints w.heap.size w (.slice (some ⟨g, 0, none⟩) us.length cap) us := .inr ⟨g, 0, cap, rfl, lies.lt h, row_of h⟩
theorem same_two (g b : Nat) (us : List Int) (w : World) (h : lies.Lies w g 29 (cellsOf us)) (k : lies.Lies w b 29 (cellsOf us)) (hl : us.length = 4) :
    Calls Try.prog 17 #[.agg #[.int .i64 2, .slice (some ⟨g, 0, none⟩) 4 4], .agg #[.int .i64 2, .slice (some ⟨b, 0, none⟩) 4 4]] w fun e w' => e = .returned (.bool true) ∧ Below w.heap.size w w' := by
  have h1 := own_ints (cap := 4) h
  have k1 := own_ints (cap := 4) k
  rw [hl] at h1 k1
  have := dref.same_any 2 2 _ _ us us w h1 k1 (by omega)
  simpa using this

theorem at_s {w W : World} {g : Nat} {t : TypeId} {u v : Value} (h : lies.Lies w g t #[u, v]) (k : Below w.heap.size w W) : W.cell? ⟨g, 0, none⟩ = some u ∧ W.cell? ⟨g, 1, none⟩ = some v := lies.pair (lies.on_call h k)

set_option maxRecDepth 100000 in
set_option maxHeartbeats 2000000 in
theorem alive_yes (w : World) : Calls Try.prog 12 #[] w fun e w' => e = .returned (.bool true) ∧ Below w.heap.size w w' := by
  go_enter Try.func12, Try.ntmps12
  go_wp2_with fail
  refine (top_two w).mono ?_
  rintro e w1 ⟨g1, hg1, rfl, L1, hB1⟩
  go_wp2_with fail
  have A1 := lies.made w1 27 #[.int .i64 2, .slice (some ⟨g1, 0, none⟩) 4 4]
  have M1 := lies.on_alloc L1 (.cells #[.int .i64 2, .slice (some ⟨g1, 0, none⟩) 4 4] 27)
  have K1 : Below w.heap.size w (w1.alloc (.cells #[.int .i64 2, .slice (some ⟨g1, 0, none⟩) 4 4] 27)) := hB1.alloc hB1.size _
  generalize w1.heap.size = x1 at A1 ⊢
  generalize w1.alloc (.cells #[.int .i64 2, .slice (some ⟨g1, 0, none⟩) 4 4] 27) = w2 at A1 M1 K1 ⊢
  clear L1 hB1 hg1
  refine (two_is 1 (-3) 9 1 w2).mono ?_
  rintro e w3 ⟨g2, hg2, rfl, L2, hB2⟩
  replace A1 := lies.on_call A1 hB2
  replace M1 := lies.on_call M1 hB2
  replace K1 := K1.trans (hB2.mono K1.size)
  clear hB2
  go_wp2_with fail
  refine (close_yes g2 w3 L2).mono ?_
  rintro e w4 ⟨g3, hg3, rfl, L3, hB3⟩
  replace A1 := lies.on_call A1 hB3
  replace M1 := lies.on_call M1 hB3
  replace K1 := K1.trans (hB3.mono K1.size)
  clear hB3 L2
  go_wp2_with fail
  have A3 := lies.made w4 27 #[.int .i64 2, .slice (some ⟨g3, 0, none⟩) 4 4]
  have M3 := lies.on_alloc L3 (.cells #[.int .i64 2, .slice (some ⟨g3, 0, none⟩) 4 4] 27)
  replace A1 := lies.on_alloc A1 (.cells #[.int .i64 2, .slice (some ⟨g3, 0, none⟩) 4 4] 27)
  replace M1 := lies.on_alloc M1 (.cells #[.int .i64 2, .slice (some ⟨g3, 0, none⟩) 4 4] 27)
  replace K1 := K1.alloc K1.size (.cells #[.int .i64 2, .slice (some ⟨g3, 0, none⟩) 4 4] 27)
  generalize w4.heap.size = x3 at A3 ⊢
  generalize w4.alloc (.cells #[.int .i64 2, .slice (some ⟨g3, 0, none⟩) 4 4] 27) = w5 at A1 M1 A3 M3 K1 ⊢
  clear L3 hg3 hg2
  refine (two_is 1 (-5) 3 1 w5).mono ?_
  rintro e w6 ⟨g4, hg4, rfl, L4, hB4⟩
  replace A1 := lies.on_call A1 hB4
  replace M1 := lies.on_call M1 hB4
  replace A3 := lies.on_call A3 hB4
  replace M3 := lies.on_call M3 hB4
  replace K1 := K1.trans (hB4.mono K1.size)
  clear hB4 hg4
  go_wp2_with fail
  refine (close_none g4 w6 L4).mono ?_
  rintro e w7 ⟨rfl, hB5⟩
  replace A1 := lies.on_call A1 hB5
  replace M1 := lies.on_call M1 hB5
  replace A3 := lies.on_call A3 hB5
  replace M3 := lies.on_call M3 hB5
  replace K1 := K1.trans (hB5.mono K1.size)
  clear hB5 L4
  go_wp2_with fail
  replace A1 := lies.on_alloc A1 (.cells #[.int .i64 0, .slice none 0 0] 27)
  replace M1 := lies.on_alloc M1 (.cells #[.int .i64 0, .slice none 0 0] 27)
  replace A3 := lies.on_alloc A3 (.cells #[.int .i64 0, .slice none 0 0] 27)
  replace M3 := lies.on_alloc M3 (.cells #[.int .i64 0, .slice none 0 0] 27)
  replace K1 := K1.alloc K1.size (.cells #[.int .i64 0, .slice none 0 0] 27)
  generalize w7.alloc (.cells #[.int .i64 0, .slice none 0 0] 27) = w8 at A1 M1 A3 M3 K1 ⊢
  refine wp_region_held_drew (S := Below w8.heap.size w8) (by kernel_rfl) (dbm.drawn1 (Below.refl _ _)) (fun hHeld => ?_)
  refine wpAnyH_take (i := 0) (v := ?_) rfl (by kernel_rfl) (by kernel_rfl) (by kernel_rfl) (fun _ _ _ h => h) (Or.inl ⟨by rfl, ?_⟩) hHeld ?_
  rotate_left
  · intro w hSw; obtain ⟨s0, s1⟩ := at_s A1 hSw; obtain ⟨s2, s3⟩ := at_s A3 hSw; go_simp; try with_reducible rfl
  try simp only [Act.put, List.getElem_toArray, List.getElem_cons_zero, List.getElem_cons_succ, List.setIfInBounds_toArray, List.set_cons_zero, List.set_cons_succ]
  refine wpAnyH_take (i := 1) (v := ?_) rfl (by kernel_rfl) (by kernel_rfl) (by kernel_rfl) (fun _ _ _ h => h) (Or.inl ⟨by rfl, ?_⟩) hHeld ?_
  rotate_left
  · intro w hSw; obtain ⟨s0, s1⟩ := at_s A1 hSw; obtain ⟨s2, s3⟩ := at_s A3 hSw; go_simp; try with_reducible rfl
  try simp only [Act.put, List.getElem_toArray, List.getElem_cons_zero, List.getElem_cons_succ, List.setIfInBounds_toArray, List.set_cons_zero, List.set_cons_succ]
  refine wpAnyH_take (i := 2) (v := ?_) rfl (by kernel_rfl) (by kernel_rfl) (by kernel_rfl) (fun _ _ _ h => h) (Or.inl ⟨by rfl, ?_⟩) hHeld ?_
  rotate_left
  · intro w hSw; obtain ⟨s0, s1⟩ := at_s A1 hSw; obtain ⟨s2, s3⟩ := at_s A3 hSw; go_simp; try with_reducible rfl
  try simp only [Act.put, List.getElem_toArray, List.getElem_cons_zero, List.getElem_cons_succ, List.setIfInBounds_toArray, List.set_cons_zero, List.set_cons_succ]
  refine wpAnyH_take (i := 3) (v := ?_) rfl (by kernel_rfl) (by kernel_rfl) (by kernel_rfl) (fun _ _ _ h => h) (Or.inl ⟨by rfl, ?_⟩) hHeld ?_
  rotate_left
  · intro w hSw; obtain ⟨s0, s1⟩ := at_s A1 hSw; obtain ⟨s2, s3⟩ := at_s A3 hSw; go_simp; try with_reducible rfl
  try simp only [Act.put, List.getElem_toArray, List.getElem_cons_zero, List.getElem_cons_succ, List.setIfInBounds_toArray, List.set_cons_zero, List.set_cons_succ]
  refine wpAnyH_ready (rs := [4]) (by kernel_rfl) (by simp) (AllReadyH.cons rfl (fun K hK => ?_) AllReadyH.nil)
  go_simp
  refine (two_is 1 9223372036854775807 9223372036854775807 1 _).mono ?_
  rintro e W ⟨h1, hh1, rfl, N1, hW⟩
  refine hK.out _ _ (hHeld.trans (hW.mono hHeld.size)) (fun hNew => ?_)
  clear hHeld hK K hW
  have hHeld := hNew
  clear hNew
  try simp only [Act.put, List.getElem_toArray, List.getElem_cons_zero, List.getElem_cons_succ, List.setIfInBounds_toArray, List.set_cons_zero, List.set_cons_succ]
  refine wpAnyH_ready (rs := [5]) (by kernel_rfl) (by simp) (AllReadyH.cons rfl (fun K hK => ?_) AllReadyH.nil)
  go_simp
  refine (same_two g1 h1 _ _ (lies.on_call M1 hHeld) N1 rfl).mono ?_
  rintro e W ⟨rfl, hW⟩
  refine hK.out _ _ (hHeld.trans (hW.mono hHeld.size)) (fun hNew => ?_)
  clear hHeld hK K hW
  have hHeld := hNew
  clear hNew
  try simp only [Act.put, List.getElem_toArray, List.getElem_cons_zero, List.getElem_cons_succ, List.setIfInBounds_toArray, List.set_cons_zero, List.set_cons_succ]
  refine wpAnyH_take (i := 6) (v := ?_) rfl (by kernel_rfl) (by kernel_rfl) (by kernel_rfl) (fun _ _ _ h => h) (Or.inl ⟨by rfl, ?_⟩) hHeld ?_
  rotate_left
  · intro w hSw; obtain ⟨s0, s1⟩ := at_s A1 hSw; obtain ⟨s2, s3⟩ := at_s A3 hSw; go_simp; try with_reducible rfl
  try simp only [Act.put, List.getElem_toArray, List.getElem_cons_zero, List.getElem_cons_succ, List.setIfInBounds_toArray, List.set_cons_zero, List.set_cons_succ]
  refine wpAnyH_take (i := 7) (v := ?_) rfl (by kernel_rfl) (by kernel_rfl) (by kernel_rfl) (fun _ _ _ h => h) (Or.inl ⟨by rfl, ?_⟩) hHeld ?_
  rotate_left
  · intro w hSw; obtain ⟨s0, s1⟩ := at_s A1 hSw; obtain ⟨s2, s3⟩ := at_s A3 hSw; go_simp; try with_reducible rfl
  try simp only [Act.put, List.getElem_toArray, List.getElem_cons_zero, List.getElem_cons_succ, List.setIfInBounds_toArray, List.set_cons_zero, List.set_cons_succ]
  refine wpAnyH_take (i := 8) (v := ?_) rfl (by kernel_rfl) (by kernel_rfl) (by kernel_rfl) (fun _ _ _ h => h) (Or.inl ⟨by rfl, ?_⟩) hHeld ?_
  rotate_left
  · intro w hSw; obtain ⟨s0, s1⟩ := at_s A1 hSw; obtain ⟨s2, s3⟩ := at_s A3 hSw; go_simp; try with_reducible rfl
  try simp only [Act.put, List.getElem_toArray, List.getElem_cons_zero, List.getElem_cons_succ, List.setIfInBounds_toArray, List.set_cons_zero, List.set_cons_succ]
  refine wpAnyH_take (i := 9) (v := ?_) rfl (by kernel_rfl) (by kernel_rfl) (by kernel_rfl) (fun _ _ _ h => h) (Or.inl ⟨by rfl, ?_⟩) hHeld ?_
  rotate_left
  · intro w hSw; obtain ⟨s0, s1⟩ := at_s A1 hSw; obtain ⟨s2, s3⟩ := at_s A3 hSw; go_simp; try with_reducible rfl
  try simp only [Act.put, List.getElem_toArray, List.getElem_cons_zero, List.getElem_cons_succ, List.setIfInBounds_toArray, List.set_cons_zero, List.set_cons_succ]
  refine wpAnyH_take (i := 10) (v := ?_) rfl (by kernel_rfl) (by kernel_rfl) (by kernel_rfl) (fun _ _ _ h => h) (Or.inl ⟨by rfl, ?_⟩) hHeld ?_
  rotate_left
  · intro w hSw; obtain ⟨s0, s1⟩ := at_s A1 hSw; obtain ⟨s2, s3⟩ := at_s A3 hSw; go_simp; try with_reducible rfl
  try simp only [Act.put, List.getElem_toArray, List.getElem_cons_zero, List.getElem_cons_succ, List.setIfInBounds_toArray, List.set_cons_zero, List.set_cons_succ]
  refine wpAnyH_take (i := 11) (v := ?_) rfl (by kernel_rfl) (by kernel_rfl) (by kernel_rfl) (fun _ _ _ h => h) (Or.inl ⟨by rfl, ?_⟩) hHeld ?_
  rotate_left
  · intro w hSw; obtain ⟨s0, s1⟩ := at_s A1 hSw; obtain ⟨s2, s3⟩ := at_s A3 hSw; go_simp; try with_reducible rfl
  try simp only [Act.put, List.getElem_toArray, List.getElem_cons_zero, List.getElem_cons_succ, List.setIfInBounds_toArray, List.set_cons_zero, List.set_cons_succ]
  refine wpAnyH_take (i := 12) (v := ?_) rfl (by kernel_rfl) (by kernel_rfl) (by kernel_rfl) (fun _ _ _ h => h) (Or.inl ⟨by rfl, ?_⟩) hHeld ?_
  rotate_left
  · intro w hSw; obtain ⟨s0, s1⟩ := at_s A1 hSw; obtain ⟨s2, s3⟩ := at_s A3 hSw; go_simp; try with_reducible rfl
  try simp only [Act.put, List.getElem_toArray, List.getElem_cons_zero, List.getElem_cons_succ, List.setIfInBounds_toArray, List.set_cons_zero, List.set_cons_succ]
  refine wpAnyH_ready (rs := [13]) (by kernel_rfl) (by simp) (AllReadyH.cons rfl (fun K hK => ?_) AllReadyH.nil)
  go_simp
  refine (two_is 1 (-3) 9 1 _).mono ?_
  rintro e W ⟨h2, hh2, rfl, N2, hW⟩
  refine hK.out _ _ (hHeld.trans (hW.mono hHeld.size)) (fun hNew => ?_)
  clear hHeld hK K hW
  have hHeld := hNew
  clear hNew
  try simp only [Act.put, List.getElem_toArray, List.getElem_cons_zero, List.getElem_cons_succ, List.setIfInBounds_toArray, List.set_cons_zero, List.set_cons_succ]
  refine wpAnyH_ready (rs := [14]) (by kernel_rfl) (by simp) (AllReadyH.cons rfl (fun K hK => ?_) AllReadyH.nil)
  go_simp
  refine (same_two g3 h2 _ _ (lies.on_call M3 hHeld) N2 rfl).mono ?_
  rintro e W ⟨rfl, hW⟩
  refine hK.out _ _ (hHeld.trans (hW.mono hHeld.size)) (fun hNew => ?_)
  clear hHeld hK K hW
  have hHeld := hNew
  clear hNew
  try simp only [Act.put, List.getElem_toArray, List.getElem_cons_zero, List.getElem_cons_succ, List.setIfInBounds_toArray, List.set_cons_zero, List.set_cons_succ]
  refine wpAnyH_take (i := 15) (v := ?_) rfl (by kernel_rfl) (by kernel_rfl) (by kernel_rfl) (fun _ _ _ h => h) (Or.inl ⟨by rfl, ?_⟩) hHeld ?_
  rotate_left
  · intro w hSw; obtain ⟨s0, s1⟩ := at_s A1 hSw; obtain ⟨s2, s3⟩ := at_s A3 hSw; go_simp; try with_reducible rfl
  try simp only [Act.put, List.getElem_toArray, List.getElem_cons_zero, List.getElem_cons_succ, List.setIfInBounds_toArray, List.set_cons_zero, List.set_cons_succ]
  refine wpAnyH_take (i := 16) (v := ?_) rfl (by kernel_rfl) (by kernel_rfl) (by kernel_rfl) (fun _ _ _ h => h) (Or.inl ⟨by rfl, ?_⟩) hHeld ?_
  rotate_left
  · intro w hSw; obtain ⟨s0, s1⟩ := at_s A1 hSw; obtain ⟨s2, s3⟩ := at_s A3 hSw; go_simp; try with_reducible rfl
  try simp only [Act.put, List.getElem_toArray, List.getElem_cons_zero, List.getElem_cons_succ, List.setIfInBounds_toArray, List.set_cons_zero, List.set_cons_succ]
  refine wpAnyH_take (i := 17) (v := ?_) rfl (by kernel_rfl) (by kernel_rfl) (by kernel_rfl) (fun _ _ _ h => h) (Or.inl ⟨by rfl, ?_⟩) hHeld ?_
  rotate_left
  · intro w hSw; obtain ⟨s0, s1⟩ := at_s A1 hSw; obtain ⟨s2, s3⟩ := at_s A3 hSw; go_simp; try with_reducible rfl
  try simp only [Act.put, List.getElem_toArray, List.getElem_cons_zero, List.getElem_cons_succ, List.setIfInBounds_toArray, List.set_cons_zero, List.set_cons_succ]
  refine wpAnyH_take (i := 18) (v := ?_) rfl (by kernel_rfl) (by kernel_rfl) (by kernel_rfl) (fun _ _ _ h => h) (Or.inl ⟨by rfl, ?_⟩) hHeld ?_
  rotate_left
  · intro w hSw; obtain ⟨s0, s1⟩ := at_s A1 hSw; obtain ⟨s2, s3⟩ := at_s A3 hSw; go_simp; try with_reducible rfl
  try simp only [Act.put, List.getElem_toArray, List.getElem_cons_zero, List.getElem_cons_succ, List.setIfInBounds_toArray, List.set_cons_zero, List.set_cons_succ]
  refine wpAnyH_take (i := 19) (v := ?_) rfl (by kernel_rfl) (by kernel_rfl) (by kernel_rfl) (fun _ _ _ h => h) (Or.inl ⟨by rfl, ?_⟩) hHeld ?_
  rotate_left
  · intro w hSw; obtain ⟨s0, s1⟩ := at_s A1 hSw; obtain ⟨s2, s3⟩ := at_s A3 hSw; go_simp; try with_reducible rfl
  try simp only [Act.put, List.getElem_toArray, List.getElem_cons_zero, List.getElem_cons_succ, List.setIfInBounds_toArray, List.set_cons_zero, List.set_cons_succ]
  refine wpAnyH_take (i := 20) (v := ?_) rfl (by kernel_rfl) (by kernel_rfl) (by kernel_rfl) (fun _ _ _ h => h) (Or.inl ⟨by rfl, ?_⟩) hHeld ?_
  rotate_left
  · intro w hSw; obtain ⟨s0, s1⟩ := at_s A1 hSw; obtain ⟨s2, s3⟩ := at_s A3 hSw; go_simp; try with_reducible rfl
  try simp only [Act.put, List.getElem_toArray, List.getElem_cons_zero, List.getElem_cons_succ, List.setIfInBounds_toArray, List.set_cons_zero, List.set_cons_succ]
  refine wpAnyH_done (by kernel_rfl) ?_ _
  go_wp2_with fail
  go_ret
  exact ⟨rfl, K1.trans (hHeld.mono K1.size)⟩
end Go.Proofs.Ytlagnbbbokgdfaa.dlaw
