/-
  The document's own calls of zones, the rest: points, one in another one, what two have in common, picks, which is ahead; each theorem names its conditions.
-/
import Derived.Test.YtklejbheieceeaaGreatDoorZoneU
namespace Go.Proofs.YtklejbheieceeaaGreatDoor.zref
open Go.Joins Go.ChangeShapes Go.WideShapes Go.ChangeAt Go.RowKit num rat dbm Go.Proofs.YtklejbheieceeaaGreatDoor.tight Go.Proofs.YtklejbheieceeaaGreatDoor.incl Go.Proofs.YtklejbheieceeaaGreatDoor.plaw Go.Proofs.YtklejbheieceeaaGreatDoor.zopen Go.Proofs.YtklejbheieceeaaGreatDoor.zone dref
open bound hiding up
set_option linter.unusedVariables false
set_option linter.unusedSimpArgs false


set_option maxRecDepth 100000 in
set_option maxHeartbeats 4000000 in
theorem rpoint_any (a b c d : Int) (w : World) (hF : zone.Fit [a, b, c, d]) : Calls Tryz.prog 31 #[.agg #[.int .i64 a, .int .i64 b, .int .i64 c, .int .i64 d]] w (Tell (MayR a b ∧ MayR c d) w) := by
  have ha := hF a (by simp)
  have hc := hF c (by simp)
  have DB := bound.up1 w (.cells #[.int .i64 a, .int .i64 b, .int .i64 c, .int .i64 d] 31)
  have D0 := lies.made w 31 #[.int .i64 a, .int .i64 b, .int .i64 c, .int .i64 d]
  have hw := lies.lt D0
  clear hF
  go_enter Tryz.func31, Tryz.ntmps31
  have p0 := lies.cell D0 0
  have p1 := lies.cell D0 1
  go_wp2_with fail
  clear p0 p1
  generalize w.alloc (.cells #[.int .i64 a, .int .i64 b, .int .i64 c, .int .i64 d] 31) = w0 at DB D0 hw ⊢
  refine (rref.may_any a b w0 ha.1 ha.2).mono ?_
  rintro e w1 ⟨rfl, hB⟩
  replace D0 := lies.on_call D0 hB
  replace DB := later DB hB
  clear hB ha hw
  have p2 := lies.cell D0 2
  have p3 := lies.cell D0 3
  have pl := lies.lt D0
  by_cases h : MayR a b
  · have H := Lib.hid h
    rw [rref.mayB_yes h]
    clear h
    go_wp2_with fail
    refine (rref.may_any c d w1 hc.1 hc.2).mono ?_
    rintro e w2 ⟨rfl, hB⟩
    replace DB := later DB hB
    clear hB hc p2 p3 pl D0
    have HE := Lib.hid (show (rref.mayB c d = true ↔ MayR a b ∧ MayR c d) from by
      unfold rref.mayB
      rw [decide_eq_true_eq]
      exact ⟨fun k => ⟨H.out, k⟩, fun k => k.2⟩)
    generalize rref.mayB c d = r at HE ⊢
    go_wp2_with fail
    go_ret
    exact ⟨DB, r, rfl, HE.out⟩
  · have H := Lib.hid h
    rw [rref.mayB_no h]
    clear h hc
    go_wp2_with fail
    go_ret
    exact ⟨DB, false, rfl, ⟨fun k => by simp at k, fun k => (H.out k.1).elim⟩⟩

set_option maxRecDepth 100000 in
set_option maxHeartbeats 4000000 in
theorem rinside_any (z0 z1 z2 z3 z4 z5 a b c d : Int) (w : World) (hz : MayZ [z0, z1, z2, z3, z4, z5]) (hF : zone.Fit [a, b, c, d]) (ha : MayR a b) (hc : MayR c d) : Calls Tryz.prog 32 #[.agg #[.int .i64 z0, .int .i64 z1, .int .i64 z2, .int .i64 z3, .int .i64 z4, .int .i64 z5], .agg #[.int .i64 a, .int .i64 b, .int .i64 c, .int .i64 d]] w (Tell (keptAll 3 (fullT [z0, z1, z2, z3, z4, z5]) [(0, 1), (a, b), (c, d)]) w) := by
  have DB := bound.up2 w (.cells #[.int .i64 z0, .int .i64 z1, .int .i64 z2, .int .i64 z3, .int .i64 z4, .int .i64 z5] 24) (.cells #[.int .i64 a, .int .i64 b, .int .i64 c, .int .i64 d] 31)
  have D0 := lies.on_alloc (lies.made w 24 #[.int .i64 z0, .int .i64 z1, .int .i64 z2, .int .i64 z3, .int .i64 z4, .int .i64 z5]) (.cells #[.int .i64 a, .int .i64 b, .int .i64 c, .int .i64 d] 31)
  have D1 := lies.made_at (w.alloc (.cells #[.int .i64 z0, .int .i64 z1, .int .i64 z2, .int .i64 z3, .int .i64 z4, .int .i64 z5] 24)) 31 #[.int .i64 a, .int .i64 b, .int .i64 c, .int .i64 d] (w.heap.size + 1) (by simp)
  have HZ := Lib.hid hz
  have HF := Lib.hid hF
  have HP := Lib.hid (And.intro ha hc)
  clear hz hF ha hc
  go_enter Tryz.func32, Tryz.ntmps32
  go_wp2_with fail
  generalize (w.alloc (.cells #[.int .i64 z0, .int .i64 z1, .int .i64 z2, .int .i64 z3, .int .i64 z4, .int .i64 z5] 24)).alloc (.cells #[.int .i64 a, .int .i64 b, .int .i64 c, .int .i64 d] 31) = w0 at DB D0 D1 ⊢
  obtain ⟨⟨c0, c1, c2, c3, c4, c5⟩, _⟩ := six_cells D0
  have cl := lies.lt D0
  have p0 := lies.cell D1 0
  have p1 := lies.cell D1 1
  have p2 := lies.cell D1 2
  have p3 := lies.cell D1 3
  have pl := lies.lt D1
  generalize w.heap.size + 1 = PX at p0 p1 p2 p3 pl ⊢
  clear D0 D1
  generalize w.heap.size = ZX at c0 c1 c2 c3 c4 c5 cl ⊢
  refine wp_region_held_drew (S := Below w0.heap.size w0) (by kernel_rfl) (dbm.drawn1 (Below.refl _ _)) (fun hHeld => ?_)
  generalize w0.drew = wD at hHeld ⊢
  refine wpAnyH_take (i := 0) (v := ?_) rfl (by kernel_rfl) (by kernel_rfl) (by kernel_rfl) (fun _ _ _ h => h) (Or.inl ⟨by rfl, ?_⟩) hHeld ?_
  rotate_left
  · intro w hSw; have s0 := (hSw.cell (p := ⟨ZX, 0, none⟩) cl).trans c0; have s1 := (hSw.cell (p := ⟨ZX, 1, none⟩) cl).trans c1; have s2 := (hSw.cell (p := ⟨ZX, 2, none⟩) cl).trans c2; have s3 := (hSw.cell (p := ⟨ZX, 3, none⟩) cl).trans c3; have s4 := (hSw.cell (p := ⟨ZX, 4, none⟩) cl).trans c4; have s5 := (hSw.cell (p := ⟨ZX, 5, none⟩) cl).trans c5; go_simp; try with_reducible rfl
  try simp only [Act.put, List.getElem_toArray, List.getElem_cons_zero, List.getElem_cons_succ, List.setIfInBounds_toArray, List.set_cons_zero, List.set_cons_succ]
  refine wpAnyH_take (i := 2) (v := ?_) rfl (by kernel_rfl) (by kernel_rfl) (by kernel_rfl) (fun _ _ _ h => h) (Or.inl ⟨by rfl, ?_⟩) hHeld ?_
  rotate_left
  · intro w hSw; have t0 := (hSw.cell (p := ⟨PX, 0, none⟩) pl).trans p0; have t1 := (hSw.cell (p := ⟨PX, 1, none⟩) pl).trans p1; have t2 := (hSw.cell (p := ⟨PX, 2, none⟩) pl).trans p2; have t3 := (hSw.cell (p := ⟨PX, 3, none⟩) pl).trans p3; go_simp; try with_reducible rfl
  try simp only [Act.put, List.getElem_toArray, List.getElem_cons_zero, List.getElem_cons_succ, List.setIfInBounds_toArray, List.set_cons_zero, List.set_cons_succ]
  refine wpAnyH_take (i := 3) (v := ?_) rfl (by kernel_rfl) (by kernel_rfl) (by kernel_rfl) (fun _ _ _ h => h) (Or.inl ⟨by rfl, ?_⟩) hHeld ?_
  rotate_left
  · intro w hSw; have t0 := (hSw.cell (p := ⟨PX, 0, none⟩) pl).trans p0; have t1 := (hSw.cell (p := ⟨PX, 1, none⟩) pl).trans p1; have t2 := (hSw.cell (p := ⟨PX, 2, none⟩) pl).trans p2; have t3 := (hSw.cell (p := ⟨PX, 3, none⟩) pl).trans p3; go_simp; try with_reducible rfl
  try simp only [Act.put, List.getElem_toArray, List.getElem_cons_zero, List.getElem_cons_succ, List.setIfInBounds_toArray, List.set_cons_zero, List.set_cons_succ]
  refine wpAnyH_take (i := 4) (v := ?_) rfl (by kernel_rfl) (by kernel_rfl) (by kernel_rfl) (fun _ _ _ h => h) (Or.inl ⟨by rfl, ?_⟩) hHeld ?_
  rotate_left
  · intro w hSw; have t0 := (hSw.cell (p := ⟨PX, 0, none⟩) pl).trans p0; have t1 := (hSw.cell (p := ⟨PX, 1, none⟩) pl).trans p1; have t2 := (hSw.cell (p := ⟨PX, 2, none⟩) pl).trans p2; have t3 := (hSw.cell (p := ⟨PX, 3, none⟩) pl).trans p3; go_simp; try with_reducible rfl
  try simp only [Act.put, List.getElem_toArray, List.getElem_cons_zero, List.getElem_cons_succ, List.setIfInBounds_toArray, List.set_cons_zero, List.set_cons_succ]
  refine wpAnyH_take (i := 5) (v := ?_) rfl (by kernel_rfl) (by kernel_rfl) (by kernel_rfl) (fun _ _ _ h => h) (Or.inl ⟨by rfl, ?_⟩) hHeld ?_
  rotate_left
  · intro w hSw; have t0 := (hSw.cell (p := ⟨PX, 0, none⟩) pl).trans p0; have t1 := (hSw.cell (p := ⟨PX, 1, none⟩) pl).trans p1; have t2 := (hSw.cell (p := ⟨PX, 2, none⟩) pl).trans p2; have t3 := (hSw.cell (p := ⟨PX, 3, none⟩) pl).trans p3; go_simp; try with_reducible rfl
  try simp only [Act.put, List.getElem_toArray, List.getElem_cons_zero, List.getElem_cons_succ, List.setIfInBounds_toArray, List.set_cons_zero, List.set_cons_succ]
  clear c0 c1 c2 c3 c4 c5 cl p0 p1 p2 p3 pl
  refine wpAnyH_ready (rs := [1, 6]) (by kernel_rfl) (by simp) (AllReadyH.cons rfl (fun K hK => ?_) (AllReadyH.cons rfl (fun K hK => ?_) AllReadyH.nil))
  · go_simp
    refine (full_is z0 z1 z2 z3 z4 z5 wD).mono ?_
    rintro e w1 ⟨hB, g, hg, rfl, hG⟩
    refine hK.out _ _ (hHeld.trans (hB.mono hHeld.size)) (fun hNew => ?_)
    clear hB
    clear hHeld hK K
    have hHeld := hNew
    clear hNew
    try simp only [Act.put, List.getElem_toArray, List.getElem_cons_zero, List.getElem_cons_succ, List.setIfInBounds_toArray, List.set_cons_zero, List.set_cons_succ]
    refine wpAnyH_ready (rs := [6]) (by kernel_rfl) (by simp) (AllReadyH.cons rfl (fun K hK => ?_) AllReadyH.nil)
    go_simp
    have R := lies.made w1 29 #[.int .i64 a, .int .i64 b, .int .i64 c, .int .i64 d]
    have G1 := lies.on_alloc hG (.cells #[.int .i64 a, .int .i64 b, .int .i64 c, .int .i64 d] 29)
    refine hK.out _ _ (hHeld.trans ((bound.up1 w1 (.cells #[.int .i64 a, .int .i64 b, .int .i64 c, .int .i64 d] 29)).mono hHeld.size)) (fun hNew => ?_)
    clear hHeld hK K
    have hHeld := hNew
    clear hNew
    try simp only [Act.put, List.getElem_toArray, List.getElem_cons_zero, List.getElem_cons_succ, List.setIfInBounds_toArray, List.set_cons_zero, List.set_cons_succ]
    generalize w1.heap.size = Q at R ⊢
    generalize w1.alloc (.cells #[.int .i64 a, .int .i64 b, .int .i64 c, .int .i64 d] 29) = w2 at R G1 hHeld ⊢
    refine wpAnyH_ready (rs := [7]) (by kernel_rfl) (by simp) (AllReadyH.cons rfl (fun K hK => ?_) AllReadyH.nil)
    go_simp
    refine (kept_is 3 g 0 9 2 2 (some ⟨Q, 0, none⟩) (fullT [z0, z1, z2, z3, z4, z5]) [(a, b), (c, d)] w2 (by decide) (by decide) rfl HZ.out.may.2.2.2 ⟨row_of G1, lies.lt G1⟩ (rats_two R) rfl (ints_two HF.out) (may_two.2 HP.out) rfl).mono ?_
    rintro e w3 ⟨hB, r, rfl, hr⟩
    have HR := Lib.hid hr
    refine hK.out _ _ (hHeld.trans (hB.mono hHeld.size)) (fun hNew => ?_)
    clear hB hr R G1
    clear hHeld hK K
    have hHeld := hNew
    clear hNew
    try simp only [Act.put, List.getElem_toArray, List.getElem_cons_zero, List.getElem_cons_succ, List.setIfInBounds_toArray, List.set_cons_zero, List.set_cons_succ]
    refine wpAnyH_take (i := 8) (v := ?_) rfl (by kernel_rfl) (by kernel_rfl) (by kernel_rfl) (fun _ _ _ h => h) (Or.inl ⟨by rfl, ?_⟩) hHeld ?_
    rotate_left
    · intro w hSw; skip; go_simp; try with_reducible rfl
    try simp only [Act.put, List.getElem_toArray, List.getElem_cons_zero, List.getElem_cons_succ, List.setIfInBounds_toArray, List.set_cons_zero, List.set_cons_succ]
    refine wpAnyH_done (by kernel_rfl) ?_ _
    have KZ := DB.trans (hHeld.mono DB.size)
    clear hHeld
    go_wp2_with fail
    go_ret
    exact ⟨KZ, r, rfl, HR.out⟩
  · go_simp
    have R := lies.made wD 29 #[.int .i64 a, .int .i64 b, .int .i64 c, .int .i64 d]
    refine hK.out _ _ (hHeld.trans ((bound.up1 wD (.cells #[.int .i64 a, .int .i64 b, .int .i64 c, .int .i64 d] 29)).mono hHeld.size)) (fun hNew => ?_)
    clear hHeld hK K
    have hHeld := hNew
    clear hNew
    try simp only [Act.put, List.getElem_toArray, List.getElem_cons_zero, List.getElem_cons_succ, List.setIfInBounds_toArray, List.set_cons_zero, List.set_cons_succ]
    generalize wD.heap.size = Q at R ⊢
    generalize wD.alloc (.cells #[.int .i64 a, .int .i64 b, .int .i64 c, .int .i64 d] 29) = w1 at R hHeld ⊢
    refine wpAnyH_ready (rs := [1]) (by kernel_rfl) (by simp) (AllReadyH.cons rfl (fun K hK => ?_) AllReadyH.nil)
    go_simp
    refine (full_is z0 z1 z2 z3 z4 z5 w1).mono ?_
    rintro e w2 ⟨hB, g, hg, rfl, hG⟩
    replace R := lies.on_call R hB
    refine hK.out _ _ (hHeld.trans (hB.mono hHeld.size)) (fun hNew => ?_)
    clear hB
    clear hHeld hK K
    have hHeld := hNew
    clear hNew
    try simp only [Act.put, List.getElem_toArray, List.getElem_cons_zero, List.getElem_cons_succ, List.setIfInBounds_toArray, List.set_cons_zero, List.set_cons_succ]
    refine wpAnyH_ready (rs := [7]) (by kernel_rfl) (by simp) (AllReadyH.cons rfl (fun K hK => ?_) AllReadyH.nil)
    go_simp
    refine (kept_is 3 g 0 9 2 2 (some ⟨Q, 0, none⟩) (fullT [z0, z1, z2, z3, z4, z5]) [(a, b), (c, d)] w2 (by decide) (by decide) rfl HZ.out.may.2.2.2 ⟨row_of hG, lies.lt hG⟩ (rats_two R) rfl (ints_two HF.out) (may_two.2 HP.out) rfl).mono ?_
    rintro e w3 ⟨hB, r, rfl, hr⟩
    have HR := Lib.hid hr
    refine hK.out _ _ (hHeld.trans (hB.mono hHeld.size)) (fun hNew => ?_)
    clear hB hr R hG
    clear hHeld hK K
    have hHeld := hNew
    clear hNew
    try simp only [Act.put, List.getElem_toArray, List.getElem_cons_zero, List.getElem_cons_succ, List.setIfInBounds_toArray, List.set_cons_zero, List.set_cons_succ]
    refine wpAnyH_take (i := 8) (v := ?_) rfl (by kernel_rfl) (by kernel_rfl) (by kernel_rfl) (fun _ _ _ h => h) (Or.inl ⟨by rfl, ?_⟩) hHeld ?_
    rotate_left
    · intro w hSw; skip; go_simp; try with_reducible rfl
    try simp only [Act.put, List.getElem_toArray, List.getElem_cons_zero, List.getElem_cons_succ, List.setIfInBounds_toArray, List.set_cons_zero, List.set_cons_succ]
    refine wpAnyH_done (by kernel_rfl) ?_ _
    have KZ := DB.trans (hHeld.mono DB.size)
    clear hHeld
    go_wp2_with fail
    go_ret
    exact ⟨KZ, r, rfl, HR.out⟩
end Go.Proofs.YtklejbheieceeaaGreatDoor.zref
