/-
  What Pick and Meet of package zone answer; each theorem names its conditions.
-/
import Derived.Test.YtklejbheieceeaaGreatDoorZoneF
namespace Go.Proofs.YtklejbheieceeaaGreatDoor.zone
open Go.Joins Go.ChangeShapes Go.WideShapes Go.ChangeAt Go.RowKit num rat dbm Go.Proofs.YtklejbheieceeaaGreatDoor.tight Go.Proofs.YtklejbheieceeaaGreatDoor.incl Go.Proofs.YtklejbheieceeaaGreatDoor.plaw Go.Proofs.YtklejbheieceeaaGreatDoor.zopen
open bound hiding up
set_option linter.unusedVariables false
set_option linter.unusedSimpArgs false

/-- what Pick answers. -/
def PickR (z : List Int) (a b c d f : Int) : Prop := (¬ MayZ z ∧ a = 0 ∧ b = 0 ∧ c = 0 ∧ d = 0 ∧ f = 8) ∨ (MayZ z ∧ pks 3 (fullT z) = [(a, b), (c, d)] ∧ f = 0)
def Picks (z : List Int) (w : World) (e : Ending) (w' : World) : Prop := Below w.heap.size w w' ∧ ∃ a b c d f : Int, e = .returned (.tuple #[.agg #[.int .i64 a, .int .i64 b, .int .i64 c, .int .i64 d], .int .i64 f]) ∧ PickR z a b c d f
theorem two_times {ps : List (Int × Int)} (h : ps.length = 2) : ∃ a b c d, ps = [(a, b), (c, d)] := by
  match ps, h with
  | [(a, b), (c, d)], _ => exact ⟨a, b, c, d, rfl⟩
theorem cell_far {W : World} {b g : Nat} (h : b ≠ g) (i j : Nat) (u : Value) : (W.setCell ⟨g, i, none⟩ u).cell? ⟨b, j, none⟩ = W.cell? ⟨b, j, none⟩ := by
  have e := Below.heap_setCell W ⟨g, i, none⟩ u b h
  simp [World.cell?, e]
theorem put_four {B g : Nat} {w W : World} (h : Below B w W) (hB : B ≤ g) (a b c d : Value) : Below B w ((((W.setCell ⟨g, 0, none⟩ a).setCell ⟨g, 1, none⟩ b).setCell ⟨g, 2, none⟩ c).setCell ⟨g, 3, none⟩ d) :=
  (((h.setCell (p := ⟨g, 0, none⟩) hB _).setCell (p := ⟨g, 1, none⟩) hB _).setCell (p := ⟨g, 2, none⟩) hB _).setCell (p := ⟨g, 3, none⟩) hB _
theorem four_cells {W : World} {g : Nat} {t : TypeId} {a b c d : Value} (h : lies.Lies W g t #[a, b, c, d]) : (W.cell? ⟨g, 0, none⟩ = some a ∧ W.cell? ⟨g, 1, none⟩ = some b ∧ W.cell? ⟨g, 2, none⟩ = some c ∧ W.cell? ⟨g, 3, none⟩ = some d) ∧
    (W.frozen? ⟨g, 0, none⟩ = false ∧ W.frozen? ⟨g, 1, none⟩ = false ∧ W.frozen? ⟨g, 2, none⟩ = false ∧ W.frozen? ⟨g, 3, none⟩ = false) ∧ g < W.heap.size :=
  ⟨⟨lies.cell h 0, lies.cell h 1, lies.cell h 2, lies.cell h 3⟩, ⟨lies.free h 0, lies.free h 1, lies.free h 2, lies.free h 3⟩, lies.lt h⟩

set_option maxRecDepth 100000 in
set_option maxHeartbeats 4000000 in
theorem zpick_any (z0 z1 z2 z3 z4 z5 : Int) (w : World) (hP : Pl w) (htop : Tops [z0, z1, z2, z3, z4, z5]) :
    Calls Tryz.prog 14 #[.agg #[.int .i64 z0, .int .i64 z1, .int .i64 z2, .int .i64 z3, .int .i64 z4, .int .i64 z5]] w (Picks [z0, z1, z2, z3, z4, z5] w) := by
  have DB := bound.up3 w (.cells #[.int .i64 z0, .int .i64 z1, .int .i64 z2, .int .i64 z3, .int .i64 z4, .int .i64 z5] 24) (.cells #[.int .i64 0, .int .i64 0, .int .i64 0, .int .i64 0] 31) (.cells #[.int .i64 z0, .int .i64 z1, .int .i64 z2, .int .i64 z3, .int .i64 z4, .int .i64 z5] 24)
  have D0 := lies.on_alloc (lies.made_at (w.alloc (.cells #[.int .i64 z0, .int .i64 z1, .int .i64 z2, .int .i64 z3, .int .i64 z4, .int .i64 z5] 24)) 31 #[.int .i64 0, .int .i64 0, .int .i64 0, .int .i64 0] (w.heap.size + 1) (by simp)) (.cells #[.int .i64 z0, .int .i64 z1, .int .i64 z2, .int .i64 z3, .int .i64 z4, .int .i64 z5] 24)
  have D1 := lies.made_at ((w.alloc (.cells #[.int .i64 z0, .int .i64 z1, .int .i64 z2, .int .i64 z3, .int .i64 z4, .int .i64 z5] 24)).alloc (.cells #[.int .i64 0, .int .i64 0, .int .i64 0, .int .i64 0] 31)) 24 #[.int .i64 z0, .int .i64 z1, .int .i64 z2, .int .i64 z3, .int .i64 z4, .int .i64 z5] (w.heap.size + 1 + 1) (by simp)
  have P0 := hP.on DB
  have HT := Lib.hid htop
  clear hP htop
  go_enter Tryz.func14, Tryz.ntmps14
  go_wp2_with fail
  generalize ((w.alloc (.cells #[.int .i64 z0, .int .i64 z1, .int .i64 z2, .int .i64 z3, .int .i64 z4, .int .i64 z5] 24)).alloc (.cells #[.int .i64 0, .int .i64 0, .int .i64 0, .int .i64 0] 31)).alloc (.cells #[.int .i64 z0, .int .i64 z1, .int .i64 z2, .int .i64 z3, .int .i64 z4, .int .i64 z5] 24) = w0 at DB D0 D1 P0 ⊢
  refine (matrices_any (w.heap.size + 1 + 1) 1 (fun _ => [z0, z1, z2, z3, z4, z5]) w0 P0 (row_z1 D1) (lies.lt D1) (by decide) (fun _ _ => rfl) (fun _ _ => HT.out)).mono ?_
  rintro e w1 ⟨hB, hM⟩
  have EB := later DB hB
  have E0 := lies.on_call D0 hB
  clear hB DB D1 P0 D0
  rcases mats_one hM with ⟨hm, q, cap, rfl, g, gc', _, _, hq, x0, x1, hG⟩ | ⟨hm, rfl⟩
  · have HM := Lib.hid hm
    clear hm hM
    go_wp2_with fail
    refine (pick_any 3 _ (fullT [z0, z1, z2, z3, z4, z5]) w1 (dlaw.own_ints (cap := gc') hG) (show 9 ≤ 1000000 by decide) (full_tops HT.out)).mono ?_
    rintro e w2 ⟨hB, v, f, rfl, hR⟩
    have FB := later EB hB
    have F0 := lies.on_call E0 hB
    clear EB E0 x0 x1 hG
    rcases hR with ⟨k, _⟩ | ⟨_, rfl, m, hm3, hR⟩
    · exact (k HM.out.1).elim
    · obtain rfl : m = 3 := by omega
      have hln := pks_length 3 (fullT [z0, z1, z2, z3, z4, z5])
      have hmay := (pks_may (n := 3) (by decide) (by decide) rfl (full_tops HT.out) HM.out.1).1
      generalize hps : pks 3 (fullT [z0, z1, z2, z3, z4, z5]) = ps at hR hln hmay
      obtain ⟨a, b, c, d, rfl⟩ := two_times hln
      have hb1 : 1 ≤ b := (hmay 1 (show 1 < 3 by decide)).1
      clear hmay
      have HPS := Lib.hid hps
      clear hps
      rcases hR with ⟨_, k⟩ | ⟨tb, toff, tcap, hv, htb, hc⟩
      · cases k
      · have hv : v = .slice (some ⟨tb, toff, none⟩) 2 tcap := hv
        subst hv
        obtain ⟨r0, r1⟩ := hc 0 (show 0 < 2 by decide)
        obtain ⟨r2, r3⟩ := hc 1 (show 1 < 2 by decide)
        have hne : tb ≠ w.heap.size + 1 := by
          rintro rfl
          have := (lies.cell F0 (toff + 0 * 2 + 1)).symm.trans r1
          rcases (by omega : toff + 0 * 2 + 1 = 1 ∨ toff + 0 * 2 + 1 = 2 ∨ toff + 0 * 2 + 1 = 3 ∨ 4 ≤ toff + 0 * 2 + 1) with k | k | k | k
          · rw [k] at this; simp at this; have this : (0 : Int) = b := this; omega
          · rw [k] at this; simp at this; have this : (0 : Int) = b := this; omega
          · rw [k] at this; simp at this; have this : (0 : Int) = b := this; omega
          · rw [Array.getElem?_eq_none (by simpa using k)] at this; cases this
        rw [Nat.zero_mul, Nat.add_zero] at r0 r1
        rw [Nat.one_mul] at r2 r3
        have r0 : w2.cell? ⟨tb, toff, none⟩ = some (.int .i64 a) := r0
        have r1 : w2.cell? ⟨tb, toff + 1, none⟩ = some (.int .i64 b) := r1
        have r2 : w2.cell? ⟨tb, toff + 2, none⟩ = some (.int .i64 c) := r2
        have r3 : w2.cell? ⟨tb, toff + 2 + 1, none⟩ = some (.int .i64 d) := r3
        clear hc hln hm3 htb hB
        go_wp2_with fail
        obtain ⟨⟨x0, x1, x2, x3⟩, ⟨y0, y1, y2, y3⟩, xl⟩ := four_cells F0
        clear F0
        generalize hRX : w.heap.size + 1 = RX at x0 x1 x2 x3 y0 y1 y2 y3 xl hne ⊢
        have hRw : w.heap.size ≤ RX := by omega
        refine wp_region_held_drew (S := fun W => W.cell? ⟨tb, toff, none⟩ = some (.int .i64 a) ∧ W.cell? ⟨tb, toff + 1, none⟩ = some (.int .i64 b) ∧ W.cell? ⟨tb, toff + 2, none⟩ = some (.int .i64 c) ∧ W.cell? ⟨tb, toff + 2 + 1, none⟩ = some (.int .i64 d)) (by kernel_rfl) ⟨r0, r1, r2, r3⟩ (fun hHeld => ?_)
        refine wpAnyH_take (i := 0) (v := ?_) rfl (by kernel_rfl) (by kernel_rfl) (by kernel_rfl) (fun _ _ _ h => h) (Or.inl ⟨by rfl, ?_⟩) hHeld ?_
        rotate_left
        · intro w hSw; obtain ⟨s0, s1, s2, s3⟩ := hSw; go_simp; try with_reducible rfl
        try simp only [Act.put, List.getElem_toArray, List.getElem_cons_zero, List.getElem_cons_succ, List.setIfInBounds_toArray, List.set_cons_zero, List.set_cons_succ]
        refine wpAnyH_take (i := 1) (v := ?_) rfl (by kernel_rfl) (by kernel_rfl) (by kernel_rfl) (fun _ _ _ h => h) (Or.inl ⟨by rfl, ?_⟩) hHeld ?_
        rotate_left
        · intro w hSw; obtain ⟨s0, s1, s2, s3⟩ := hSw; go_simp; try with_reducible rfl
        try simp only [Act.put, List.getElem_toArray, List.getElem_cons_zero, List.getElem_cons_succ, List.setIfInBounds_toArray, List.set_cons_zero, List.set_cons_succ]
        refine wpAnyH_take (i := 2) (v := ?_) rfl (by kernel_rfl) (by kernel_rfl) (by kernel_rfl) (fun _ _ _ h => h) (Or.inl ⟨by rfl, ?_⟩) hHeld ?_
        rotate_left
        · intro w hSw; obtain ⟨s0, s1, s2, s3⟩ := hSw; go_simp; try with_reducible rfl
        try simp only [Act.put, List.getElem_toArray, List.getElem_cons_zero, List.getElem_cons_succ, List.setIfInBounds_toArray, List.set_cons_zero, List.set_cons_succ]
        refine wpAnyH_take (i := 3) (v := ?_) rfl (by kernel_rfl) (by kernel_rfl) (by kernel_rfl) (fun _ _ _ h => h) (Or.inl ⟨by rfl, ?_⟩) hHeld ?_
        rotate_left
        · intro w hSw; obtain ⟨s0, s1, s2, s3⟩ := hSw; go_simp; try with_reducible rfl
        try simp only [Act.put, List.getElem_toArray, List.getElem_cons_zero, List.getElem_cons_succ, List.setIfInBounds_toArray, List.set_cons_zero, List.set_cons_succ]
        refine wpAnyH_take (i := 4) (v := ?_) rfl (by kernel_rfl) (by kernel_rfl) (by kernel_rfl) (fun _ _ _ h => h) (Or.inl ⟨by rfl, ?_⟩) hHeld ?_
        rotate_left
        · intro w hSw; obtain ⟨s0, s1, s2, s3⟩ := hSw; go_simp; try with_reducible rfl
        try simp only [Act.put, List.getElem_toArray, List.getElem_cons_zero, List.getElem_cons_succ, List.setIfInBounds_toArray, List.set_cons_zero, List.set_cons_succ]
        refine wpAnyH_take (i := 5) (v := ?_) rfl (by kernel_rfl) (by kernel_rfl) (by kernel_rfl) (fun _ _ _ h => h) (Or.inl ⟨by rfl, ?_⟩) hHeld ?_
        rotate_left
        · intro w hSw; obtain ⟨s0, s1, s2, s3⟩ := hSw; go_simp; try with_reducible rfl
        try simp only [Act.put, List.getElem_toArray, List.getElem_cons_zero, List.getElem_cons_succ, List.setIfInBounds_toArray, List.set_cons_zero, List.set_cons_succ]
        refine wpAnyH_take (i := 6) (v := ?_) rfl (by kernel_rfl) (by kernel_rfl) (by kernel_rfl) (fun _ _ _ h => h) (Or.inl ⟨by rfl, ?_⟩) hHeld ?_
        rotate_left
        · intro w hSw; obtain ⟨s0, s1, s2, s3⟩ := hSw; go_simp; try with_reducible rfl
        try simp only [Act.put, List.getElem_toArray, List.getElem_cons_zero, List.getElem_cons_succ, List.setIfInBounds_toArray, List.set_cons_zero, List.set_cons_succ]
        refine wpAnyH_ready (rs := [7]) (by kernel_rfl) (by simp) (AllReadyH.cons rfl (fun K hK => ?_) AllReadyH.nil)
        go_simp
        refine hK.out _ _ ⟨(cell_far hne _ _ _).trans ((cell_far hne _ _ _).trans ((cell_far hne _ _ _).trans ((cell_far hne _ _ _).trans r0))), (cell_far hne _ _ _).trans ((cell_far hne _ _ _).trans ((cell_far hne _ _ _).trans ((cell_far hne _ _ _).trans r1))), (cell_far hne _ _ _).trans ((cell_far hne _ _ _).trans ((cell_far hne _ _ _).trans ((cell_far hne _ _ _).trans r2))), (cell_far hne _ _ _).trans ((cell_far hne _ _ _).trans ((cell_far hne _ _ _).trans ((cell_far hne _ _ _).trans r3)))⟩ (fun hNew => ?_)
        clear hHeld hK K
        have hHeld := hNew
        clear hNew
        try simp only [Act.put, List.getElem_toArray, List.getElem_cons_zero, List.getElem_cons_succ, List.setIfInBounds_toArray, List.set_cons_zero, List.set_cons_succ]
        refine wpAnyH_take (i := 8) (v := ?_) rfl (by kernel_rfl) (by kernel_rfl) (by kernel_rfl) (fun _ _ _ h => h) (Or.inl ⟨by rfl, ?_⟩) hHeld ?_
        rotate_left
        · intro w hSw; skip; go_simp; try with_reducible rfl
        try simp only [Act.put, List.getElem_toArray, List.getElem_cons_zero, List.getElem_cons_succ, List.setIfInBounds_toArray, List.set_cons_zero, List.set_cons_succ]
        refine wpAnyH_done (by kernel_rfl) ?_ _
        clear hHeld r0 r1 r2 r3
        have KZ := dbm.drawn1 (put_four FB hRw (.int .i64 a) (.int .i64 b) (.int .i64 c) (.int .i64 d))
        go_wp2_with fail
        exact bodyPost_ret (v := .tuple #[.agg #[.int .i64 a, .int .i64 b, .int .i64 c, .int .i64 d], .int .i64 0]) (by simp [results, Tryz.results14, go_sem, x0, x1, x2, x3, xl]) rfl ⟨KZ, a, b, c, d, 0, rfl, .inr ⟨HM.out, HPS.out, rfl⟩⟩
  · have HM := Lib.hid hm
    clear hm hM
    obtain ⟨⟨x0, x1, x2, x3⟩, ⟨y0, y1, y2, y3⟩, xl⟩ := four_cells E0
    go_wp2_with fail
    exact bodyPost_ret (v := .tuple #[.agg #[.int .i64 0, .int .i64 0, .int .i64 0, .int .i64 0], .int .i64 8]) (by simp [results, Tryz.results14, go_sem, x0, x1, x2, x3, xl]) rfl ⟨put_four EB (Nat.le_succ _) _ _ _ _, 0, 0, 0, 0, 8, rfl, .inl ⟨HM.out, rfl, rfl, rfl, rfl, rfl⟩⟩
end Go.Proofs.YtklejbheieceeaaGreatDoor.zone
