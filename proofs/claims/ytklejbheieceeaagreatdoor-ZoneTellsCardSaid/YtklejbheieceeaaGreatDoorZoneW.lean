/-
  The document's own calls of zones, the last: Has, In, Meet, Pick, Cmp; each theorem names its conditions.
-/
import Derived.Test.YtklejbheieceeaaGreatDoorZoneV
namespace Go.Proofs.YtklejbheieceeaaGreatDoor.zref
open Go.Joins Go.ChangeShapes Go.WideShapes Go.ChangeAt Go.RowKit num rat dbm Go.Proofs.YtklejbheieceeaaGreatDoor.tight Go.Proofs.YtklejbheieceeaaGreatDoor.incl Go.Proofs.YtklejbheieceeaaGreatDoor.plaw Go.Proofs.YtklejbheieceeaaGreatDoor.zopen Go.Proofs.YtklejbheieceeaaGreatDoor.zone dref
open bound hiding up
set_option linter.unusedVariables false
set_option linter.unusedSimpArgs false


set_option maxRecDepth 100000 in
set_option maxHeartbeats 4000000 in
theorem rhas_any (z0 z1 z2 z3 z4 z5 a b c d : Int) (w : World) (hlo : Low [z0, z1, z2, z3, z4, z5]) (htop : Tops [z0, z1, z2, z3, z4, z5]) (hF : zone.Fit [a, b, c, d]) : Calls Tryz.prog 9 #[.agg #[.int .i64 z0, .int .i64 z1, .int .i64 z2, .int .i64 z3, .int .i64 z4, .int .i64 z5], .agg #[.int .i64 a, .int .i64 b, .int .i64 c, .int .i64 d]] w (Hass [z0, z1, z2, z3, z4, z5] a b c d w) := by
  have DB := bound.up2 w (.cells #[.int .i64 z0, .int .i64 z1, .int .i64 z2, .int .i64 z3, .int .i64 z4, .int .i64 z5] 24) (.cells #[.int .i64 a, .int .i64 b, .int .i64 c, .int .i64 d] 31)
  have D0 := lies.on_alloc (lies.made w 24 #[.int .i64 z0, .int .i64 z1, .int .i64 z2, .int .i64 z3, .int .i64 z4, .int .i64 z5]) (.cells #[.int .i64 a, .int .i64 b, .int .i64 c, .int .i64 d] 31)
  have D1 := lies.made_at (w.alloc (.cells #[.int .i64 z0, .int .i64 z1, .int .i64 z2, .int .i64 z3, .int .i64 z4, .int .i64 z5] 24)) 31 #[.int .i64 a, .int .i64 b, .int .i64 c, .int .i64 d] (w.heap.size + 1) (by simp)
  have HL := Lib.hid hlo
  have HT := Lib.hid htop
  have HF := Lib.hid hF
  clear hlo htop hF
  go_enter Tryz.func9, Tryz.ntmps9
  obtain ⟨⟨c0, c1, c2, c3, c4, c5⟩, _⟩ := six_cells D0
  have cl := lies.lt D0
  go_wp2_with fail
  clear c0 c1 c2 c3 c4 c5 cl
  generalize (w.alloc (.cells #[.int .i64 z0, .int .i64 z1, .int .i64 z2, .int .i64 z3, .int .i64 z4, .int .i64 z5] 24)).alloc (.cells #[.int .i64 a, .int .i64 b, .int .i64 c, .int .i64 d] 31) = w0 at DB D0 D1 ⊢
  refine (rmay_any z0 z1 z2 z3 z4 z5 w0 HL.out HT.out).mono ?_
  rintro e w1 ⟨hB, r, rfl, hr⟩
  replace D0 := lies.on_call D0 hB
  replace D1 := lies.on_call D1 hB
  replace DB := later DB hB
  clear hB
  by_cases hz : MayZ [z0, z1, z2, z3, z4, z5]
  · obtain rfl : r = true := hr.2 hz
    have HZ := Lib.hid hz
    clear hr hz
    have p0 := lies.cell D1 0
    have p1 := lies.cell D1 1
    have p2 := lies.cell D1 2
    have p3 := lies.cell D1 3
    have pl := lies.lt D1
    go_wp2_with fail
    clear p0 p1 p2 p3 pl
    refine (rpoint_any a b c d w1 HF.out).mono ?_
    rintro e w2 ⟨hB, s, rfl, hs⟩
    replace D0 := lies.on_call D0 hB
    replace D1 := lies.on_call D1 hB
    replace DB := later DB hB
    clear hB
    by_cases hp : MayR a b ∧ MayR c d
    · obtain rfl : s = true := hs.2 hp
      have HP := Lib.hid hp
      clear hs hp
      have p0 := lies.cell D1 0
      have p1 := lies.cell D1 1
      have p2 := lies.cell D1 2
      have p3 := lies.cell D1 3
      have pl := lies.lt D1
      obtain ⟨⟨c0, c1, c2, c3, c4, c5⟩, _⟩ := six_cells D0
      have cl := lies.lt D0
      go_wp2_with fail
      clear p0 p1 p2 p3 pl c0 c1 c2 c3 c4 c5 cl
      refine (rinside_any z0 z1 z2 z3 z4 z5 a b c d w2 HZ.out HF.out HP.out.1 HP.out.2).mono ?_
      rintro e w3 ⟨hB, k, rfl, hk⟩
      replace DB := later DB hB
      have HK := Lib.hid hk
      clear hB hk D0 D1
      go_wp2_with fail
      exact bodyPost_ret (v := .tuple #[.bool k, .int .i64 0]) (by simp [results, Tryz.results9, go_sem]) rfl ⟨DB, k, 0, rfl, .inr ⟨HZ.out, HP.out.1, HP.out.2, rfl, HK.out⟩⟩
    · obtain rfl : s = false := bool_not hs hp
      have HP := Lib.hid hp
      clear hs hp D0 D1
      go_wp2_with fail
      exact bodyPost_ret (v := .tuple #[.bool false, .int .i64 8]) (by simp [results, Tryz.results9, go_sem]) rfl ⟨DB, false, 8, rfl, .inl ⟨fun h => HP.out h.2, rfl, rfl⟩⟩
  · obtain rfl : r = false := bool_not hr hz
    have HZ := Lib.hid hz
    clear hr hz D0 D1
    go_wp2_with fail
    exact bodyPost_ret (v := .tuple #[.bool false, .int .i64 8]) (by simp [results, Tryz.results9, go_sem]) rfl ⟨DB, false, 8, rfl, .inl ⟨fun h => HZ.out h.1, rfl, rfl⟩⟩

set_option maxRecDepth 100000 in
set_option maxHeartbeats 4000000 in
theorem rcommon_any (a0 a1 a2 a3 a4 a5 b0 b1 b2 b3 b4 b5 : Int) (w : World) (ha : MayZ [a0, a1, a2, a3, a4, a5]) (hb : MayZ [b0, b1, b2, b3, b4, b5]) (ta : Tops [a0, a1, a2, a3, a4, a5]) (tb : Tops [b0, b1, b2, b3, b4, b5]) : Calls Tryz.prog 36 #[.agg #[.int .i64 a0, .int .i64 a1, .int .i64 a2, .int .i64 a3, .int .i64 a4, .int .i64 a5], .agg #[.int .i64 b0, .int .i64 b1, .int .i64 b2, .int .i64 b3, .int .i64 b4, .int .i64 b5]] w (Ofs 3 (lesT (fullT [a0, a1, a2, a3, a4, a5]) (fullT [b0, b1, b2, b3, b4, b5])) w) := by
  have DB := bound.up3 w (.cells #[.int .i64 a0, .int .i64 a1, .int .i64 a2, .int .i64 a3, .int .i64 a4, .int .i64 a5] 24) (.cells #[.int .i64 b0, .int .i64 b1, .int .i64 b2, .int .i64 b3, .int .i64 b4, .int .i64 b5] 24) (.cells #[.int .i64 0, .int .i64 0, .int .i64 0, .int .i64 0, .int .i64 0, .int .i64 0] 24)
  have D0 := lies.on_alloc (lies.on_alloc (lies.made w 24 #[.int .i64 a0, .int .i64 a1, .int .i64 a2, .int .i64 a3, .int .i64 a4, .int .i64 a5]) (.cells #[.int .i64 b0, .int .i64 b1, .int .i64 b2, .int .i64 b3, .int .i64 b4, .int .i64 b5] 24)) (.cells #[.int .i64 0, .int .i64 0, .int .i64 0, .int .i64 0, .int .i64 0, .int .i64 0] 24)
  have D1 := lies.on_alloc (lies.made_at (w.alloc (.cells #[.int .i64 a0, .int .i64 a1, .int .i64 a2, .int .i64 a3, .int .i64 a4, .int .i64 a5] 24)) 24 #[.int .i64 b0, .int .i64 b1, .int .i64 b2, .int .i64 b3, .int .i64 b4, .int .i64 b5] (w.heap.size + 1) (by simp)) (.cells #[.int .i64 0, .int .i64 0, .int .i64 0, .int .i64 0, .int .i64 0, .int .i64 0] 24)
  have D2 := lies.made_at ((w.alloc (.cells #[.int .i64 a0, .int .i64 a1, .int .i64 a2, .int .i64 a3, .int .i64 a4, .int .i64 a5] 24)).alloc (.cells #[.int .i64 b0, .int .i64 b1, .int .i64 b2, .int .i64 b3, .int .i64 b4, .int .i64 b5] 24)) 24 #[.int .i64 0, .int .i64 0, .int .i64 0, .int .i64 0, .int .i64 0, .int .i64 0] (w.heap.size + 1 + 1) (by simp)
  have HTL := Lib.hid (lesT_tops (full_tops ta) (fullT [b0, b1, b2, b3, b4, b5]))
  have HTA := Lib.hid (full_tops ta)
  have HML := Lib.hid (lesT_may ha.may hb.may)
  clear ha hb ta tb
  go_enter Tryz.func36, Tryz.ntmps36
  go_wp2_with fail
  generalize ((w.alloc (.cells #[.int .i64 a0, .int .i64 a1, .int .i64 a2, .int .i64 a3, .int .i64 a4, .int .i64 a5] 24)).alloc (.cells #[.int .i64 b0, .int .i64 b1, .int .i64 b2, .int .i64 b3, .int .i64 b4, .int .i64 b5] 24)).alloc (.cells #[.int .i64 0, .int .i64 0, .int .i64 0, .int .i64 0, .int .i64 0, .int .i64 0] 24) = w0 at DB D0 D1 D2 ⊢
  obtain ⟨⟨c0, c1, c2, c3, c4, c5⟩, _⟩ := six_cells D0
  have cl := lies.lt D0
  obtain ⟨⟨d0, d1, d2, d3, d4, d5⟩, _⟩ := six_cells D1
  have dl := lies.lt D1
  clear D0 D1
  have hle : w.heap.size ≤ w.heap.size + 1 + 1 := by omega
  have hZR : w.heap.size < w.heap.size + 1 + 1 := by omega
  have hPR : w.heap.size + 1 < w.heap.size + 1 + 1 := by omega
  clear cl dl
  generalize w.heap.size + 1 + 1 = R at D2 hle hZR hPR ⊢
  generalize w.heap.size + 1 = PX at d0 d1 d2 d3 d4 d5 hPR ⊢
  generalize w.heap.size = ZX at c0 c1 c2 c3 c4 c5 hZR ⊢
  have hR0 : R ≤ w0.heap.size := Nat.le_of_lt (lies.lt D2)
  replace D2 := six_drew D2
  refine wp_region_held_drew (S := Below R w0) (by kernel_rfl) (dbm.drawn1 (Below.refl _ _)) (fun hHeld => ?_)
  generalize w0.drew = wD at hHeld D2 ⊢
  refine wpAnyH_take (i := 0) (v := ?_) rfl (by kernel_rfl) (by kernel_rfl) (by kernel_rfl) (fun _ _ _ h => h) (Or.inl ⟨by rfl, ?_⟩) hHeld ?_
  rotate_left
  · intro w hSw; have s0 := (hSw.cell (p := ⟨ZX, 0, none⟩) hZR).trans c0; have s1 := (hSw.cell (p := ⟨ZX, 1, none⟩) hZR).trans c1; have s2 := (hSw.cell (p := ⟨ZX, 2, none⟩) hZR).trans c2; have s3 := (hSw.cell (p := ⟨ZX, 3, none⟩) hZR).trans c3; have s4 := (hSw.cell (p := ⟨ZX, 4, none⟩) hZR).trans c4; have s5 := (hSw.cell (p := ⟨ZX, 5, none⟩) hZR).trans c5; go_simp; try with_reducible rfl
  try simp only [Act.put, List.getElem_toArray, List.getElem_cons_zero, List.getElem_cons_succ, List.setIfInBounds_toArray, List.set_cons_zero, List.set_cons_succ]
  refine wpAnyH_take (i := 2) (v := ?_) rfl (by kernel_rfl) (by kernel_rfl) (by kernel_rfl) (fun _ _ _ h => h) (Or.inl ⟨by rfl, ?_⟩) hHeld ?_
  rotate_left
  · intro w hSw; have s0 := (hSw.cell (p := ⟨PX, 0, none⟩) hPR).trans d0; have s1 := (hSw.cell (p := ⟨PX, 1, none⟩) hPR).trans d1; have s2 := (hSw.cell (p := ⟨PX, 2, none⟩) hPR).trans d2; have s3 := (hSw.cell (p := ⟨PX, 3, none⟩) hPR).trans d3; have s4 := (hSw.cell (p := ⟨PX, 4, none⟩) hPR).trans d4; have s5 := (hSw.cell (p := ⟨PX, 5, none⟩) hPR).trans d5; go_simp; try with_reducible rfl
  try simp only [Act.put, List.getElem_toArray, List.getElem_cons_zero, List.getElem_cons_succ, List.setIfInBounds_toArray, List.set_cons_zero, List.set_cons_succ]
  clear c0 c1 c2 c3 c4 c5 d0 d1 d2 d3 d4 d5
  refine wpAnyH_ready (rs := [1]) (by kernel_rfl) (by simp) (AllReadyH.cons rfl (fun K hK => ?_) AllReadyH.nil)
  go_simp
  refine (full_is a0 a1 a2 a3 a4 a5 wD).mono ?_
  rintro e w1 ⟨hB, g, hg, rfl, hG⟩
  replace D2 := lies.on_call D2 hB
  refine hK.out _ _ (hHeld.trans (hB.mono (Nat.le_trans hR0 hHeld.size))) (fun hNew => ?_)
  clear hB hg
  clear hHeld hK K
  have hHeld := hNew
  clear hNew
  try simp only [Act.put, List.getElem_toArray, List.getElem_cons_zero, List.getElem_cons_succ, List.setIfInBounds_toArray, List.set_cons_zero, List.set_cons_succ]
  refine wpAnyH_ready (rs := [3]) (by kernel_rfl) (by simp) (AllReadyH.cons rfl (fun K hK => ?_) AllReadyH.nil)
  go_simp
  refine (full_is b0 b1 b2 b3 b4 b5 w1).mono ?_
  rintro e w2 ⟨hB, g2, hg, rfl, hG2⟩
  replace D2 := lies.on_call D2 hB
  replace hG := lies.on_call hG hB
  refine hK.out _ _ (hHeld.trans (hB.mono (Nat.le_trans hR0 hHeld.size))) (fun hNew => ?_)
  clear hB hg
  clear hHeld hK K
  have hHeld := hNew
  clear hNew
  try simp only [Act.put, List.getElem_toArray, List.getElem_cons_zero, List.getElem_cons_succ, List.setIfInBounds_toArray, List.set_cons_zero, List.set_cons_succ]
  refine wpAnyH_ready (rs := [4]) (by kernel_rfl) (by simp) (AllReadyH.cons rfl (fun K hK => ?_) AllReadyH.nil)
  go_simp
  refine (tref.common_is 3 (.slice (some ⟨g, 0, none⟩) 9 9) g2 0 9 (fullT [a0, a1, a2, a3, a4, a5]) (fullT [b0, b1, b2, b3, b4, b5]) w2 (by decide) (by decide) (dlaw.own_ints (cap := 9) hG) (row_of hG2) (lies.lt hG2) rfl rfl HTA.out HML.out).mono ?_
  intro e w3 hC
  obtain ⟨hB, na, a, l, c, us, bl, rfl, hR, hO⟩ := tref.comm_one hC
  replace D2 := lies.on_call D2 hB
  refine hK.out _ _ (hHeld.trans (hB.mono (Nat.le_trans hR0 hHeld.size))) (fun hNew => ?_)
  have TD := Lib.hid (told_any hR HML.out (lesT_length _ _) HTL.out a l c _ w3 hO)
  clear hB hC hR hO hG hG2
  clear hHeld hK K
  have hHeld := hNew
  clear hNew
  try simp only [Act.put, List.getElem_toArray, List.getElem_cons_zero, List.getElem_cons_succ, List.setIfInBounds_toArray, List.set_cons_zero, List.set_cons_succ]
  refine wpAnyH_take (i := 5) (v := ?_) rfl (by kernel_rfl) (by kernel_rfl) (by kernel_rfl) (fun _ _ _ h => h) (Or.inl ⟨by rfl, ?_⟩) hHeld ?_
  rotate_left
  · intro w hSw; skip; go_simp; try with_reducible rfl
  try simp only [Act.put, List.getElem_toArray, List.getElem_cons_zero, List.getElem_cons_succ, List.setIfInBounds_toArray, List.set_cons_zero, List.set_cons_succ]
  refine wpAnyH_take (i := 6) (v := ?_) rfl (by kernel_rfl) (by kernel_rfl) (by kernel_rfl) (fun _ _ _ h => h) (Or.inl ⟨by rfl, ?_⟩) hHeld ?_
  rotate_left
  · intro w hSw; skip; go_simp; try with_reducible rfl
  try simp only [Act.put, List.getElem_toArray, List.getElem_cons_zero, List.getElem_cons_succ, List.setIfInBounds_toArray, List.set_cons_zero, List.set_cons_succ]
  refine wpAnyH_ready (rs := [7]) (by kernel_rfl) (by simp) (AllReadyH.cons rfl (fun K hK => ?_) AllReadyH.nil)
  go_simp
  refine TD.out.mono ?_
  rintro e w4 ⟨hB, v0, v1, v2, v3, v4, v5, f, rfl, hR⟩
  have HR := Lib.hid hR
  replace D2 := lies.on_call D2 hB
  refine hK.out _ _ (hHeld.trans (hB.mono (Nat.le_trans hR0 hHeld.size))) (fun hNew => ?_)
  clear hB hR TD
  clear hHeld hK K
  have hHeld := hNew
  clear hNew
  try simp only [Act.put, List.getElem_toArray, List.getElem_cons_zero, List.getElem_cons_succ, List.setIfInBounds_toArray, List.set_cons_zero, List.set_cons_succ]
  refine wpAnyH_take (i := 8) (v := ?_) rfl (by kernel_rfl) (by kernel_rfl) (by kernel_rfl) (fun _ _ _ h => h) (Or.inl ⟨by rfl, ?_⟩) hHeld ?_
  rotate_left
  · intro w hSw; skip; go_simp; try with_reducible rfl
  try simp only [Act.put, List.getElem_toArray, List.getElem_cons_zero, List.getElem_cons_succ, List.setIfInBounds_toArray, List.set_cons_zero, List.set_cons_succ]
  refine wpAnyH_take (i := 9) (v := ?_) rfl (by kernel_rfl) (by kernel_rfl) (by kernel_rfl) (fun _ _ _ h => h) (Or.inl ⟨by rfl, ?_⟩) hHeld ?_
  rotate_left
  · intro w hSw; skip; go_simp; try with_reducible rfl
  try simp only [Act.put, List.getElem_toArray, List.getElem_cons_zero, List.getElem_cons_succ, List.setIfInBounds_toArray, List.set_cons_zero, List.set_cons_succ]
  obtain ⟨⟨x0, x1, x2, x3, x4, x5⟩, ⟨y0, y1, y2, y3, y4, y5⟩, xl⟩ := six_cells D2
  refine wpAnyH_ready (rs := [10]) (by kernel_rfl) (by simp) (AllReadyH.cons rfl (fun K hK => ?_) AllReadyH.nil)
  go_simp
  have L3 := put_sixL D2 (.int .i64 v0) (.int .i64 v1) (.int .i64 v2) (.int .i64 v3) (.int .i64 v4) (.int .i64 v5)
  have B3 := put_six hHeld (Nat.le_refl R) (.int .i64 v0) (.int .i64 v1) (.int .i64 v2) (.int .i64 v3) (.int .i64 v4) (.int .i64 v5)
  refine hK.out _ _ B3 (fun hNew => ?_)
  clear B3
  clear x0 x1 x2 x3 x4 x5 y0 y1 y2 y3 y4 y5 xl D2
  clear hHeld hK K
  have hHeld := hNew
  clear hNew
  try simp only [Act.put, List.getElem_toArray, List.getElem_cons_zero, List.getElem_cons_succ, List.setIfInBounds_toArray, List.set_cons_zero, List.set_cons_succ]
  refine wpAnyH_take (i := 11) (v := ?_) rfl (by kernel_rfl) (by kernel_rfl) (by kernel_rfl) (fun _ _ _ h => h) (Or.inl ⟨by rfl, ?_⟩) hHeld ?_
  rotate_left
  · intro w hSw; skip; go_simp; try with_reducible rfl
  try simp only [Act.put, List.getElem_toArray, List.getElem_cons_zero, List.getElem_cons_succ, List.setIfInBounds_toArray, List.set_cons_zero, List.set_cons_succ]
  refine wpAnyH_done (by kernel_rfl) ?_ _
  have KZ := DB.trans (hHeld.mono hle)
  clear hHeld
  obtain ⟨⟨x0, x1, x2, x3, x4, x5⟩, _, xl⟩ := six_cells L3
  go_wp2_with fail
  exact bodyPost_ret (v := .tuple #[.agg #[.int .i64 v0, .int .i64 v1, .int .i64 v2, .int .i64 v3, .int .i64 v4, .int .i64 v5], .int .i64 f]) (by simp [results, Tryz.results36, go_sem, x0, x1, x2, x3, x4, x5, xl]) rfl ⟨KZ, v0, v1, v2, v3, v4, v5, f, rfl, HR.out⟩
end Go.Proofs.YtklejbheieceeaaGreatDoor.zref
