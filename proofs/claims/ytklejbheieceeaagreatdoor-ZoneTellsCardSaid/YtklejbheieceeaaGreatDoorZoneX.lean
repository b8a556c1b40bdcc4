/-
  The document's own In, Meet, Pick of zones; each theorem names its conditions.
-/
import Derived.Test.YtklejbheieceeaaGreatDoorZoneW
namespace Go.Proofs.YtklejbheieceeaaGreatDoor.zref
open Go.Joins Go.ChangeShapes Go.WideShapes Go.ChangeAt Go.RowKit num rat dbm Go.Proofs.YtklejbheieceeaaGreatDoor.tight Go.Proofs.YtklejbheieceeaaGreatDoor.incl Go.Proofs.YtklejbheieceeaaGreatDoor.plaw Go.Proofs.YtklejbheieceeaaGreatDoor.zopen Go.Proofs.YtklejbheieceeaaGreatDoor.zone dref
open bound hiding up
set_option linter.unusedVariables false
set_option linter.unusedSimpArgs false


set_option maxRecDepth 100000 in
set_option maxHeartbeats 4000000 in
theorem rin_any (a0 a1 a2 a3 a4 a5 b0 b1 b2 b3 b4 b5 : Int) (w : World) (la : Low [a0, a1, a2, a3, a4, a5]) (lb : Low [b0, b1, b2, b3, b4, b5]) (ta : Tops [a0, a1, a2, a3, a4, a5]) (tb : Tops [b0, b1, b2, b3, b4, b5]) : Calls Tryz.prog 11 #[.agg #[.int .i64 a0, .int .i64 a1, .int .i64 a2, .int .i64 a3, .int .i64 a4, .int .i64 a5], .agg #[.int .i64 b0, .int .i64 b1, .int .i64 b2, .int .i64 b3, .int .i64 b4, .int .i64 b5]] w (Ins [a0, a1, a2, a3, a4, a5] [b0, b1, b2, b3, b4, b5] w) := by
  have DB := bound.up2 w (.cells #[.int .i64 a0, .int .i64 a1, .int .i64 a2, .int .i64 a3, .int .i64 a4, .int .i64 a5] 24) (.cells #[.int .i64 b0, .int .i64 b1, .int .i64 b2, .int .i64 b3, .int .i64 b4, .int .i64 b5] 24)
  have D0 := lies.on_alloc (lies.made w 24 #[.int .i64 a0, .int .i64 a1, .int .i64 a2, .int .i64 a3, .int .i64 a4, .int .i64 a5]) (.cells #[.int .i64 b0, .int .i64 b1, .int .i64 b2, .int .i64 b3, .int .i64 b4, .int .i64 b5] 24)
  have D1 := lies.made_at (w.alloc (.cells #[.int .i64 a0, .int .i64 a1, .int .i64 a2, .int .i64 a3, .int .i64 a4, .int .i64 a5] 24)) 24 #[.int .i64 b0, .int .i64 b1, .int .i64 b2, .int .i64 b3, .int .i64 b4, .int .i64 b5] (w.heap.size + 1) (by simp)
  have HLA := Lib.hid la
  have HLB := Lib.hid lb
  have HTA := Lib.hid ta
  have HTB := Lib.hid tb
  clear la lb ta tb
  go_enter Tryz.func11, Tryz.ntmps11
  obtain ⟨⟨c0, c1, c2, c3, c4, c5⟩, _⟩ := six_cells D0
  have cl := lies.lt D0
  go_wp2_with fail
  clear c0 c1 c2 c3 c4 c5 cl
  generalize (w.alloc (.cells #[.int .i64 a0, .int .i64 a1, .int .i64 a2, .int .i64 a3, .int .i64 a4, .int .i64 a5] 24)).alloc (.cells #[.int .i64 b0, .int .i64 b1, .int .i64 b2, .int .i64 b3, .int .i64 b4, .int .i64 b5] 24) = w0 at DB D0 D1 ⊢
  refine (rmay_any a0 a1 a2 a3 a4 a5 w0 HLA.out HTA.out).mono ?_
  rintro e w1 ⟨hB, r, rfl, hr⟩
  replace D0 := lies.on_call D0 hB
  replace D1 := lies.on_call D1 hB
  replace DB := later DB hB
  clear hB
  by_cases ha : MayZ [a0, a1, a2, a3, a4, a5]
  · obtain rfl : r = true := hr.2 ha
    have HA := Lib.hid ha
    clear hr ha
    obtain ⟨⟨d0, d1, d2, d3, d4, d5⟩, _⟩ := six_cells D1
    have dl := lies.lt D1
    go_wp2_with fail
    clear d0 d1 d2 d3 d4 d5 dl
    refine (rmay_any b0 b1 b2 b3 b4 b5 w1 HLB.out HTB.out).mono ?_
    rintro e w2 ⟨hB, s, rfl, hs⟩
    replace D0 := lies.on_call D0 hB
    replace D1 := lies.on_call D1 hB
    replace DB := later DB hB
    clear hB
    by_cases hb : MayZ [b0, b1, b2, b3, b4, b5]
    · obtain rfl : s = true := hs.2 hb
      have HB := Lib.hid hb
      clear hs hb
      go_wp2_with fail
      obtain ⟨⟨c0, c1, c2, c3, c4, c5⟩, _⟩ := six_cells D0
      obtain ⟨⟨d0, d1, d2, d3, d4, d5⟩, _⟩ := six_cells D1
      have hZR := lies.lt D0
      have hPR := lies.lt D1
      clear D0 D1
      generalize w.heap.size + 1 = PX at d0 d1 d2 d3 d4 d5 hPR ⊢
      generalize w.heap.size = ZX at c0 c1 c2 c3 c4 c5 hZR ⊢
      refine wp_region_held_drew (S := Below w2.heap.size w2) (by kernel_rfl) (dbm.drawn1 (Below.refl _ _)) (fun hHeld => ?_)
      generalize w2.drew = wD at hHeld ⊢
      refine wpAnyH_take (i := 0) (v := ?_) rfl (by kernel_rfl) (by kernel_rfl) (by kernel_rfl) (fun _ _ _ h => h) (Or.inl ⟨by rfl, ?_⟩) hHeld ?_
      rotate_left
      · intro w hSw; have s0 := (hSw.cell (p := ⟨ZX, 0, none⟩) hZR).trans c0; have s1 := (hSw.cell (p := ⟨ZX, 1, none⟩) hZR).trans c1; have s2 := (hSw.cell (p := ⟨ZX, 2, none⟩) hZR).trans c2; have s3 := (hSw.cell (p := ⟨ZX, 3, none⟩) hZR).trans c3; have s4 := (hSw.cell (p := ⟨ZX, 4, none⟩) hZR).trans c4; have s5 := (hSw.cell (p := ⟨ZX, 5, none⟩) hZR).trans c5; go_simp; try with_reducible rfl
      try simp only [Act.put, List.getElem_toArray, List.getElem_cons_zero, List.getElem_cons_succ, List.setIfInBounds_toArray, List.set_cons_zero, List.set_cons_succ]
      refine wpAnyH_take (i := 2) (v := ?_) rfl (by kernel_rfl) (by kernel_rfl) (by kernel_rfl) (fun _ _ _ h => h) (Or.inl ⟨by rfl, ?_⟩) hHeld ?_
      rotate_left
      · intro w hSw; have s0 := (hSw.cell (p := ⟨PX, 0, none⟩) hPR).trans d0; have s1 := (hSw.cell (p := ⟨PX, 1, none⟩) hPR).trans d1; have s2 := (hSw.cell (p := ⟨PX, 2, none⟩) hPR).trans d2; have s3 := (hSw.cell (p := ⟨PX, 3, none⟩) hPR).trans d3; have s4 := (hSw.cell (p := ⟨PX, 4, none⟩) hPR).trans d4; have s5 := (hSw.cell (p := ⟨PX, 5, none⟩) hPR).trans d5; go_simp; try with_reducible rfl
      try simp only [Act.put, List.getElem_toArray, List.getElem_cons_zero, List.getElem_cons_succ, List.setIfInBounds_toArray, List.set_cons_zero, List.set_cons_succ]
      clear c0 c1 c2 c3 c4 c5 d0 d1 d2 d3 d4 d5
      refine wpAnyH_ready (rs := [1]) (by kernel_rfl) (by simp) (AllReadyH.cons rfl (fun K hK => ?_) AllReadyH.nil)
      go_simp
      refine (full_is a0 a1 a2 a3 a4 a5 wD).mono ?_
      rintro e w3 ⟨hB, g, hg, rfl, hG⟩
      refine hK.out _ _ (hHeld.trans (hB.mono hHeld.size)) (fun hNew => ?_)
      clear hB hg
      clear hHeld hK K
      have hHeld := hNew
      clear hNew
      try simp only [Act.put, List.getElem_toArray, List.getElem_cons_zero, List.getElem_cons_succ, List.setIfInBounds_toArray, List.set_cons_zero, List.set_cons_succ]
      refine wpAnyH_ready (rs := [3]) (by kernel_rfl) (by simp) (AllReadyH.cons rfl (fun K hK => ?_) AllReadyH.nil)
      go_simp
      refine (full_is b0 b1 b2 b3 b4 b5 w3).mono ?_
      rintro e w4 ⟨hB, g2, hg, rfl, hG2⟩
      replace hG := lies.on_call hG hB
      refine hK.out _ _ (hHeld.trans (hB.mono hHeld.size)) (fun hNew => ?_)
      clear hB hg
      clear hHeld hK K
      have hHeld := hNew
      clear hNew
      try simp only [Act.put, List.getElem_toArray, List.getElem_cons_zero, List.getElem_cons_succ, List.setIfInBounds_toArray, List.set_cons_zero, List.set_cons_succ]
      refine wpAnyH_ready (rs := [4]) (by kernel_rfl) (by simp) (AllReadyH.cons rfl (fun K hK => ?_) AllReadyH.nil)
      go_simp
      refine (iref.inside_is 3 (.slice (some ⟨g, 0, none⟩) 9 9) g2 0 9 (fullT [a0, a1, a2, a3, a4, a5]) (fullT [b0, b1, b2, b3, b4, b5]) w4 (by decide) (by decide) (dlaw.own_ints (cap := 9) hG) (row_of hG2) (lies.lt hG2) rfl rfl (full_tops HTA.out) (full_tops HTB.out) HA.out.may HB.out.may).mono ?_
      rintro e w5 ⟨hB, k, rfl, hk⟩
      have HK := Lib.hid hk
      refine hK.out _ _ (hHeld.trans (hB.mono hHeld.size)) (fun hNew => ?_)
      clear hB hk hG hG2
      clear hHeld hK K
      have hHeld := hNew
      clear hNew
      try simp only [Act.put, List.getElem_toArray, List.getElem_cons_zero, List.getElem_cons_succ, List.setIfInBounds_toArray, List.set_cons_zero, List.set_cons_succ]
      refine wpAnyH_take (i := 5) (v := ?_) rfl (by kernel_rfl) (by kernel_rfl) (by kernel_rfl) (fun _ _ _ h => h) (Or.inl ⟨by rfl, ?_⟩) hHeld ?_
      rotate_left
      · intro w hSw; skip; go_simp; try with_reducible rfl
      try simp only [Act.put, List.getElem_toArray, List.getElem_cons_zero, List.getElem_cons_succ, List.setIfInBounds_toArray, List.set_cons_zero, List.set_cons_succ]
      refine wpAnyH_take (i := 6) (v := ?_) rfl (by kernel_rfl) (by kernel_rfl) (by kernel_rfl) (fun _ _ _ h => h) (Or.inl ⟨by rfl, ?_⟩) hHeld ?_
      rotate_left
      · intro w hSw; skip; go_simp; try with_reducible rfl
      try simp only [Act.put, List.getElem_toArray, List.getElem_cons_zero, List.getElem_cons_succ, List.setIfInBounds_toArray, List.set_cons_zero, List.set_cons_succ]
      refine wpAnyH_done (by kernel_rfl) ?_ _
      have KZ := DB.trans (hHeld.mono DB.size)
      clear hHeld
      go_wp2_with fail
      exact bodyPost_ret (v := .tuple #[.bool k, .int .i64 0]) (by simp [results, Tryz.results11, go_sem]) rfl ⟨KZ, k, 0, rfl, .inr ⟨HA.out, HB.out, rfl, HK.out⟩⟩
    · obtain rfl : s = false := bool_not hs hb
      have HB := Lib.hid hb
      clear hs hb D0 D1
      go_wp2_with fail
      exact bodyPost_ret (v := .tuple #[.bool false, .int .i64 8]) (by simp [results, Tryz.results11, go_sem]) rfl ⟨DB, false, 8, rfl, .inl ⟨fun h => HB.out h.2, rfl, rfl⟩⟩
  · obtain rfl : r = false := bool_not hr ha
    have HA := Lib.hid ha
    clear hr ha D0 D1
    go_wp2_with fail
    exact bodyPost_ret (v := .tuple #[.bool false, .int .i64 8]) (by simp [results, Tryz.results11, go_sem]) rfl ⟨DB, false, 8, rfl, .inl ⟨fun h => HA.out h.1, rfl, rfl⟩⟩

theorem meet_of {a b z : List Int} {f : Int} (ha : MayZ a) (hb : MayZ b) (h : OfR 3 (lesT (fullT a) (fullT b)) z f) : MeetR a b z f := by
  have hm := lesT_may ha.may hb.may
  unfold MeetR
  generalize lesT (fullT a) (fullT b) = l at h hm ⊢
  rcases h with q | q | q | q | q
  · exact (q.1 hm).elim
  · exact (q.2.1 rfl).elim
  · exact .inr (.inl ⟨ha, hb, q.2.2.1, q.2.2.2⟩)
  · exact .inr (.inr (.inl ⟨ha, hb, q.2.1, q.2.2.1, q.2.2.2⟩))
  · exact .inr (.inr (.inr ⟨ha, hb, q.2.1, q.2.2.1, q.2.2.2⟩))

set_option maxRecDepth 100000 in
set_option maxHeartbeats 4000000 in
theorem rmeet_any (a0 a1 a2 a3 a4 a5 b0 b1 b2 b3 b4 b5 : Int) (w : World) (la : Low [a0, a1, a2, a3, a4, a5]) (lb : Low [b0, b1, b2, b3, b4, b5]) (ta : Tops [a0, a1, a2, a3, a4, a5]) (tb : Tops [b0, b1, b2, b3, b4, b5]) : Calls Tryz.prog 13 #[.agg #[.int .i64 a0, .int .i64 a1, .int .i64 a2, .int .i64 a3, .int .i64 a4, .int .i64 a5], .agg #[.int .i64 b0, .int .i64 b1, .int .i64 b2, .int .i64 b3, .int .i64 b4, .int .i64 b5]] w (Meets [a0, a1, a2, a3, a4, a5] [b0, b1, b2, b3, b4, b5] w) := by
  have DB := bound.up3 w (.cells #[.int .i64 a0, .int .i64 a1, .int .i64 a2, .int .i64 a3, .int .i64 a4, .int .i64 a5] 24) (.cells #[.int .i64 b0, .int .i64 b1, .int .i64 b2, .int .i64 b3, .int .i64 b4, .int .i64 b5] 24) (.cells #[.int .i64 0, .int .i64 0, .int .i64 0, .int .i64 0, .int .i64 0, .int .i64 0] 24)
  have D0 := lies.on_alloc (lies.on_alloc (lies.made w 24 #[.int .i64 a0, .int .i64 a1, .int .i64 a2, .int .i64 a3, .int .i64 a4, .int .i64 a5]) (.cells #[.int .i64 b0, .int .i64 b1, .int .i64 b2, .int .i64 b3, .int .i64 b4, .int .i64 b5] 24)) (.cells #[.int .i64 0, .int .i64 0, .int .i64 0, .int .i64 0, .int .i64 0, .int .i64 0] 24)
  have D1 := lies.on_alloc (lies.made_at (w.alloc (.cells #[.int .i64 a0, .int .i64 a1, .int .i64 a2, .int .i64 a3, .int .i64 a4, .int .i64 a5] 24)) 24 #[.int .i64 b0, .int .i64 b1, .int .i64 b2, .int .i64 b3, .int .i64 b4, .int .i64 b5] (w.heap.size + 1) (by simp)) (.cells #[.int .i64 0, .int .i64 0, .int .i64 0, .int .i64 0, .int .i64 0, .int .i64 0] 24)
  have D2 := lies.made_at ((w.alloc (.cells #[.int .i64 a0, .int .i64 a1, .int .i64 a2, .int .i64 a3, .int .i64 a4, .int .i64 a5] 24)).alloc (.cells #[.int .i64 b0, .int .i64 b1, .int .i64 b2, .int .i64 b3, .int .i64 b4, .int .i64 b5] 24)) 24 #[.int .i64 0, .int .i64 0, .int .i64 0, .int .i64 0, .int .i64 0, .int .i64 0] (w.heap.size + 1 + 1) (by simp)
  have HLA := Lib.hid la
  have HLB := Lib.hid lb
  have HTA := Lib.hid ta
  have HTB := Lib.hid tb
  clear la lb ta tb
  go_enter Tryz.func13, Tryz.ntmps13
  obtain ⟨⟨c0, c1, c2, c3, c4, c5⟩, _⟩ := six_cells D0
  have cl := lies.lt D0
  go_wp2_with fail
  clear c0 c1 c2 c3 c4 c5 cl
  generalize ((w.alloc (.cells #[.int .i64 a0, .int .i64 a1, .int .i64 a2, .int .i64 a3, .int .i64 a4, .int .i64 a5] 24)).alloc (.cells #[.int .i64 b0, .int .i64 b1, .int .i64 b2, .int .i64 b3, .int .i64 b4, .int .i64 b5] 24)).alloc (.cells #[.int .i64 0, .int .i64 0, .int .i64 0, .int .i64 0, .int .i64 0, .int .i64 0] 24) = w0 at DB D0 D1 D2 ⊢
  refine (rmay_any a0 a1 a2 a3 a4 a5 w0 HLA.out HTA.out).mono ?_
  rintro e w1 ⟨hB, r, rfl, hr⟩
  replace D0 := lies.on_call D0 hB
  replace D1 := lies.on_call D1 hB
  replace D2 := lies.on_call D2 hB
  replace DB := later DB hB
  clear hB
  by_cases ha : MayZ [a0, a1, a2, a3, a4, a5]
  · obtain rfl : r = true := hr.2 ha
    have HA := Lib.hid ha
    clear hr ha
    obtain ⟨⟨d0, d1, d2, d3, d4, d5⟩, _⟩ := six_cells D1
    have dl := lies.lt D1
    go_wp2_with fail
    clear d0 d1 d2 d3 d4 d5 dl
    refine (rmay_any b0 b1 b2 b3 b4 b5 w1 HLB.out HTB.out).mono ?_
    rintro e w2 ⟨hB, s, rfl, hs⟩
    replace D0 := lies.on_call D0 hB
    replace D1 := lies.on_call D1 hB
    replace D2 := lies.on_call D2 hB
    replace DB := later DB hB
    clear hB
    by_cases hb : MayZ [b0, b1, b2, b3, b4, b5]
    · obtain rfl : s = true := hs.2 hb
      have HB := Lib.hid hb
      clear hs hb
      obtain ⟨⟨d0, d1, d2, d3, d4, d5⟩, _⟩ := six_cells D1
      have dl := lies.lt D1
      obtain ⟨⟨c0, c1, c2, c3, c4, c5⟩, _⟩ := six_cells D0
      have cl := lies.lt D0
      go_wp2_with fail
      clear c0 c1 c2 c3 c4 c5 cl d0 d1 d2 d3 d4 d5 dl
      refine (rcommon_any a0 a1 a2 a3 a4 a5 b0 b1 b2 b3 b4 b5 w2 HA.out HB.out HTA.out HTB.out).mono ?_
      rintro e w3 ⟨hB, v0, v1, v2, v3, v4, v5, f, rfl, hR⟩
      replace D2 := lies.on_call D2 hB
      replace DB := later DB hB
      have HR := Lib.hid (meet_of HA.out HB.out hR)
      clear hB hR D0 D1
      obtain ⟨⟨x0, x1, x2, x3, x4, x5⟩, ⟨y0, y1, y2, y3, y4, y5⟩, xl⟩ := six_cells D2
      go_wp2_with fail
      exact bodyPost_ret (v := .tuple #[.agg #[.int .i64 v0, .int .i64 v1, .int .i64 v2, .int .i64 v3, .int .i64 v4, .int .i64 v5], .int .i64 f]) (by simp [results, Tryz.results13, go_sem, x0, x1, x2, x3, x4, x5, xl]) rfl ⟨put_six DB (by omega) _ _ _ _ _ _, v0, v1, v2, v3, v4, v5, f, rfl, HR.out⟩
    · obtain rfl : s = false := bool_not hs hb
      have HX := Lib.hid hb
      clear hs hb D0 D1
      obtain ⟨⟨x0, x1, x2, x3, x4, x5⟩, ⟨y0, y1, y2, y3, y4, y5⟩, xl⟩ := six_cells D2
      go_wp2_with fail
      exact bodyPost_ret (v := .tuple #[.agg #[.int .i64 0, .int .i64 0, .int .i64 0, .int .i64 0, .int .i64 0, .int .i64 0], .int .i64 8]) (by simp [results, Tryz.results13, go_sem, x0, x1, x2, x3, x4, x5, xl]) rfl ⟨put_six DB (by omega) _ _ _ _ _ _, 0, 0, 0, 0, 0, 0, 8, rfl, .inl ⟨fun h => HX.out h.2, rfl, rfl⟩⟩
  · obtain rfl : r = false := bool_not hr ha
    have HX := Lib.hid ha
    clear hr ha D0 D1
    obtain ⟨⟨x0, x1, x2, x3, x4, x5⟩, ⟨y0, y1, y2, y3, y4, y5⟩, xl⟩ := six_cells D2
    go_wp2_with fail
    exact bodyPost_ret (v := .tuple #[.agg #[.int .i64 0, .int .i64 0, .int .i64 0, .int .i64 0, .int .i64 0, .int .i64 0], .int .i64 8]) (by simp [results, Tryz.results13, go_sem, x0, x1, x2, x3, x4, x5, xl]) rfl ⟨put_six DB (by omega) _ _ _ _ _ _, 0, 0, 0, 0, 0, 0, 8, rfl, .inl ⟨fun h => HX.out h.1, rfl, rfl⟩⟩
end Go.Proofs.YtklejbheieceeaaGreatDoor.zref
