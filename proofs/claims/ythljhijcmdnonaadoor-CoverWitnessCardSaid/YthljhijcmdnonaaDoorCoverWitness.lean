/-
  CoverWitness answers true for every zone, zones and one more; the listed variable reads as the program lays it.
-/
import Derived.Test.YthljhijcmdnonaaDoorCoverL
import Derived.Test.YthljhijcmdnonaaDoorCards
import Derived.Test.YthljhijcmdnonaaDoorTie
import Derived.BigQuiet
namespace Go.Proofs.YthljhijcmdnonaaDoor.coverWitness
open Go.Joins Go.ChangeShapes Go.WideShapes Go.ChangeAt Go.RowKit num rat dbm Go.Proofs.YthljhijcmdnonaaDoor.tight Go.Proofs.YthljhijcmdnonaaDoor.incl Go.Proofs.YthljhijcmdnonaaDoor.plaw Go.Proofs.YthljhijcmdnonaaDoor.zopen Go.Proofs.YthljhijcmdnonaaDoor.zone Go.Proofs.YthljhijcmdnonaaDoor.zlaw Go.Proofs.YthljhijcmdnonaaDoor.win Go.Proofs.YthljhijcmdnonaaDoor.minus Go.Proofs.YthljhijcmdnonaaDoor.mz Go.Proofs.YthljhijcmdnonaaDoor.mlaw Go.Proofs.YthljhijcmdnonaaDoor.cover Go.Proofs.YthljhijcmdnonaaDoor.claw dref
open bound hiding up
set_option linter.unusedVariables false
set_option linter.unusedSimpArgs false

set_option maxRecDepth 100000 in
set_option maxHeartbeats 32000000 in
theorem walk (a0 a1 a2 a3 a4 a5 : Int) (v : Value) (l : List (List Int)) (b0 b1 b2 b3 b4 b5 : Int) (w : World) (ha : ∀ x ∈ [a0, a1, a2, a3, a4, a5], -9223372036854775808 ≤ x ∧ x ≤ 9223372036854775807) (hb : ∀ x ∈ [b0, b1, b2, b3, b4, b5], -9223372036854775808 ≤ x ∧ x ≤ 9223372036854775807) (hwf : Wf6 l) (hI : Zs w.heap.size w v l) (hm : l.length ≤ maxLen) (hc : ∀ a l c, v = .slice a l c → l ≤ c) (hP : Pl w) : Calls Tryd.prog 4 #[.agg #[.int .i64 a0, .int .i64 a1, .int .i64 a2, .int .i64 a3, .int .i64 a4, .int .i64 a5], v, .agg #[.int .i64 b0, .int .i64 b1, .int .i64 b2, .int .i64 b3, .int .i64 b4, .int .i64 b5]] w fun e w' => e = .returned (.bool true) ∧ Below w.heap.size w w' := by
  obtain ⟨ao, cap, rfl⟩ := zs_len hI
  have TA := Lib.hid (show Tops [a0, a1, a2, a3, a4, a5] from fun x hx => (ha x hx).2)
  have TB := Lib.hid (show Tops [b0, b1, b2, b3, b4, b5] from fun x hx => (hb x hx).2)
  have H6 := Lib.hid (show Six l from fun z hz => ⟨(hwf z hz).1, hwf.tops hz⟩)
  have H6B := Lib.hid (show Six (l ++ [[b0, b1, b2, b3, b4, b5]]) from fun z hz => by
    rcases List.mem_append.1 hz with q | q
    · exact H6.out z q
    · rw [List.mem_singleton.1 q]; exact ⟨rfl, TB.out⟩)
  have X : ∃ w0, w0 = (w.alloc (.cells #[.int .i64 a0, .int .i64 a1, .int .i64 a2, .int .i64 a3, .int .i64 a4, .int .i64 a5] 31)).alloc (.cells #[.int .i64 b0, .int .i64 b1, .int .i64 b2, .int .i64 b3, .int .i64 b4, .int .i64 b5] 31) := ⟨_, rfl⟩
  obtain ⟨w0, hX⟩ := X
  have DB : Below w.heap.size w w0 := by rw [hX]; exact bound.up2 w _ _
  have D0 : lies.Lies w0 (w.heap.size) 31 #[.int .i64 a0, .int .i64 a1, .int .i64 a2, .int .i64 a3, .int .i64 a4, .int .i64 a5] := by rw [hX]; exact lies.on_alloc (lies.made _ _ _) _
  have D1 : lies.Lies w0 (w.heap.size + 1) 31 #[.int .i64 b0, .int .i64 b1, .int .i64 b2, .int .i64 b3, .int .i64 b4, .int .i64 b5] := by rw [hX]; exact lies.made_at _ _ _ _ (by simp)
  have P0 := hP.on DB
  have HI := Lib.hid ((hI.below DB).mono DB.size)
  clear hP ha hb hwf hI hc hm
  go_enter Tryd.func4, Tryd.ntmps4
  go_wp2_with fail
  rw [← hX]
  clear hX
  refine (claw.alive_yes w0 P0).mono ?_
  rintro e w1 ⟨rfl, hB⟩
  replace D0 := lies.on_call D0 hB
  replace D1 := lies.on_call D1 hB
  replace HI := Lib.hid ((HI.out.below hB).mono hB.size)
  replace P0 := P0.on hB
  replace DB := later DB hB
  clear hB
  by_cases h5 : l.length ≤ 6
  · skip
    have h5i : ¬ (6 : Int) < (l.length : Int) := by omega
    have h5m : l.length ≤ 1000000 := by omega
    have H5 := Lib.hid h5
    obtain ⟨⟨kD0_0, kD0_1, kD0_2, kD0_3, kD0_4, kD0_5⟩, -⟩ := six_cells D0
    have kD0_l := lies.lt D0
    go_wp2_with fail
    clear kD0_0 kD0_1 kD0_2 kD0_3 kD0_4 kD0_5 kD0_l
    clear h5i h5
    refine (cover.in_any a0 a1 a2 a3 a4 a5 ao l.length cap l w1 P0 TA.out HI.out H6.out rfl h5m).mono ?_
    rintro e w2 ⟨hB, i1, f1, rfl, hR⟩
    have HR1 := Lib.hid hR
    clear hR
    replace D0 := lies.on_call D0 hB
    replace D1 := lies.on_call D1 hB
    replace HI := Lib.hid ((HI.out.below hB).mono hB.size)
    replace P0 := P0.on hB
    replace DB := later DB hB
    clear hB
    obtain ⟨⟨kD0_0, kD0_1, kD0_2, kD0_3, kD0_4, kD0_5⟩, -⟩ := six_cells D0
    have kD0_l := lies.lt D0
    go_wp2_with fail
    clear kD0_0 kD0_1 kD0_2 kD0_3 kD0_4 kD0_5 kD0_l
    refine (cover.witness_any a0 a1 a2 a3 a4 a5 ao l.length cap l w2 P0 TA.out HI.out H6.out rfl h5m).mono ?_
    rintro e w3 ⟨hB, pa, pb, pc, pd, f2, rfl, hR⟩
    have HR2 := Lib.hid (wit_facts rfl TA.out H6.out H5.out HR1.out hR)
    clear hR
    replace D0 := lies.on_call D0 hB
    replace D1 := lies.on_call D1 hB
    replace HI := Lib.hid ((HI.out.below hB).mono hB.size)
    replace P0 := P0.on hB
    replace DB := later DB hB
    clear hB
    by_cases hf : f1 = 0
    · skip
      subst hf
      obtain ⟨WP, hWP⟩ : ∃ WP, WP = w3 := ⟨_, rfl⟩
      go_wp2_with fail
      have hA := bound.up1 w3 (.cells #[.int .i64 pa, .int .i64 pb, .int .i64 pc, .int .i64 pd] 37)
      have D2 := lies.made w3 37 #[.int .i64 pa, .int .i64 pb, .int .i64 pc, .int .i64 pd]
      replace D0 := lies.on_call D0 hA
      replace D1 := lies.on_call D1 hA
      replace HI := Lib.hid ((HI.out.below hA).mono hA.size)
      replace P0 := P0.on hA
      replace DB := later DB hA
      clear hA
      generalize w3.heap.size = XD2 at D2 ⊢
      generalize w3.alloc (.cells #[.int .i64 pa, .int .i64 pb, .int .i64 pc, .int .i64 pd] 37) = v4 at D0 D1 D2 HI P0 DB ⊢
      clear hWP
      refine wp_region_held_drew (S := Below v4.heap.size v4) (by kernel_rfl) (dbm.drawn1 (Below.refl _ _)) (fun hHeld => ?_)
      generalize hwD : v4.drew = wD at hHeld ⊢
      clear hwD
      refine wpAnyH_take (i := 0) (v := ?_) rfl (by kernel_rfl) (by kernel_rfl) (by kernel_rfl) (fun _ _ _ h => h) (Or.inl ⟨by rfl, ?_⟩) hHeld ?_
      rotate_left
      · intro w hSw; obtain ⟨⟨x0, x1, x2, x3, x4, x5⟩, _⟩ := six_cells (lies.on_call D0 hSw); go_simp; try with_reducible rfl
      try simp only [Act.put, List.getElem_toArray, List.getElem_cons_zero, List.getElem_cons_succ, List.setIfInBounds_toArray, List.set_cons_zero, List.set_cons_succ]
      refine wpAnyH_take (i := 1) (v := ?_) rfl (by kernel_rfl) (by kernel_rfl) (by kernel_rfl) (fun _ _ _ h => h) (Or.inl ⟨by rfl, ?_⟩) hHeld ?_
      rotate_left
      · intro w hSw; obtain ⟨⟨x0, x1, x2, x3, x4, x5⟩, _⟩ := six_cells (lies.on_call D0 hSw); go_simp; try with_reducible rfl
      try simp only [Act.put, List.getElem_toArray, List.getElem_cons_zero, List.getElem_cons_succ, List.setIfInBounds_toArray, List.set_cons_zero, List.set_cons_succ]
      refine wpAnyH_take (i := 3) (v := ?_) rfl (by kernel_rfl) (by kernel_rfl) (by kernel_rfl) (fun _ _ _ h => h) (Or.inl ⟨by rfl, ?_⟩) hHeld ?_
      rotate_left
      · intro w hSw; obtain ⟨⟨x0, x1, x2, x3, x4, x5⟩, _⟩ := six_cells (lies.on_call D1 hSw); go_simp; try with_reducible rfl
      try simp only [Act.put, List.getElem_toArray, List.getElem_cons_zero, List.getElem_cons_succ, List.setIfInBounds_toArray, List.set_cons_zero, List.set_cons_succ]
      refine wpAnyH_ready (rs := [2, 4]) (by kernel_rfl) (by simp) (AllReadyH.cons rfl (fun K hK => ?_) (AllReadyH.cons rfl (fun K hK => ?_) AllReadyH.nil))
      · skip
        obtain ⟨vp, wp, hrun, hown, hgrow, -⟩ := app_zones v4.heap.size 22 (.slice none 0 0) (.slice ao l.length cap) 0 _ [] l _ (World.ownsRow_nil _ _ _ _) (HI.out.below hHeld) (by omega) hHeld.size
        rw [Nat.zero_add, List.nil_append] at hown
        have hHp : Below v4.heap.size v4 wp := hHeld.grown hgrow hHeld.size (fun _ e => by cases e)
        rw [if_pos (by rfl)]
        refine wp_append_run (.const (.slice none 0 0)) (.tmp 50) 22 rfl _ _ vp wp rfl rfl hrun ?_
        clear hrun
        obtain ⟨bp, cp, rfl⟩ := zs_len (zs_own hown)
        refine hK.out _ _ hHp (fun hNew => ?_)
        clear hHp
        clear hHeld hK K
        have hHeld := hNew
        clear hNew
        try simp only [Act.put, List.getElem_toArray, List.getElem_cons_zero, List.getElem_cons_succ, List.setIfInBounds_toArray, List.set_cons_zero, List.set_cons_succ]
        refine wpAnyH_ready (rs := [4]) (by kernel_rfl) (by simp) (AllReadyH.cons rfl (fun K hK => ?_) AllReadyH.nil)
        go_simp
        have hAl := hHeld.trans ((bound.up1 wp (.cells #[.int .i64 b0, .int .i64 b1, .int .i64 b2, .int .i64 b3, .int .i64 b4, .int .i64 b5] 31)).mono hHeld.size)
        have hbox := zs_box (lies.made wp 31 #[.int .i64 b0, .int .i64 b1, .int .i64 b2, .int .i64 b3, .int .i64 b4, .int .i64 b5])
        replace hown := incl.own_call hown (bound.up1 wp (.cells #[.int .i64 b0, .int .i64 b1, .int .i64 b2, .int .i64 b3, .int .i64 b4, .int .i64 b5] 31))
        refine hK.out _ _ hAl (fun hNew => ?_)
        clear hAl
        clear hHeld hK K
        have hHeld := hNew
        clear hNew
        try simp only [Act.put, List.getElem_toArray, List.getElem_cons_zero, List.getElem_cons_succ, List.setIfInBounds_toArray, List.set_cons_zero, List.set_cons_succ]
        refine wpAnyH_ready (rs := [5]) (by kernel_rfl) (by simp) (AllReadyH.cons rfl (fun K hK => ?_) AllReadyH.nil)
        obtain ⟨vq, wq, hrun, hown2, hgrow2, -⟩ := app_zones v4.heap.size 22 (.slice bp l.length cp) _ l.length _ _ [[b0, b1, b2, b3, b4, b5]] _ hown hbox (by rw [List.length_singleton]; omega) hHeld.size
        have hHp : Below v4.heap.size v4 wq := held_grown hHeld hHeld.size hown (Nat.le_refl _) hgrow2
        rw [if_pos (by rfl)]
        refine wp_append_run (.tmp 51) (.tmp 53) 22 rfl _ _ vq wq rfl rfl hrun ?_
        clear hrun
        have hown3 : wq.ownsRow v4.heap.size 31 6 vq (l ++ [[b0, b1, b2, b3, b4, b5]]).length (flatZ (l ++ [[b0, b1, b2, b3, b4, b5]])) := by
          rw [List.length_append, flatZ_app]; exact hown2
        obtain ⟨bq, cq, eq3⟩ := zs_len (zs_own hown3)
        rw [List.length_append, List.length_singleton] at eq3
        subst eq3
        have HQ := Lib.hid (zs_own hown3)
        clear hown hown2 hown3 hbox hgrow2
        try clear hgrow
        refine hK.out _ _ hHp (fun hNew => ?_)
        clear hHp
        clear hHeld hK K
        have hHeld := hNew
        clear hNew
        try simp only [Act.put, List.getElem_toArray, List.getElem_cons_zero, List.getElem_cons_succ, List.setIfInBounds_toArray, List.set_cons_zero, List.set_cons_succ]
        refine wpAnyH_ready (rs := [6]) (by kernel_rfl) (by simp) (AllReadyH.cons rfl (fun K hK => ?_) AllReadyH.nil)
        go_simp
        refine (cover.in_any a0 a1 a2 a3 a4 a5 bq (l.length + 1) cq (l ++ [[b0, b1, b2, b3, b4, b5]]) _ (P0.on hHeld) TA.out HQ.out H6B.out (by rw [List.length_append, List.length_singleton]) (by omega)).mono ?_
        rintro e wl ⟨hB, i3, f3, rfl, hR⟩
        have HR3 := Lib.hid hR
        clear hR HQ
        refine hK.out _ _ (hHeld.trans (hB.mono hHeld.size)) (fun hNew => ?_)
        clear hB
        clear hHeld hK K
        have hHeld := hNew
        clear hNew
        try simp only [Act.put, List.getElem_toArray, List.getElem_cons_zero, List.getElem_cons_succ, List.setIfInBounds_toArray, List.set_cons_zero, List.set_cons_succ]
        refine wpAnyH_take (i := 7) (v := ?_) rfl (by kernel_rfl) (by kernel_rfl) (by kernel_rfl) (fun _ _ _ h => h) (Or.inl ⟨by rfl, ?_⟩) hHeld ?_
        rotate_left
        · intro w hSw; skip; go_simp; try with_reducible rfl
        try simp only [Act.put, List.getElem_toArray, List.getElem_cons_zero, List.getElem_cons_succ, List.setIfInBounds_toArray, List.set_cons_zero, List.set_cons_succ]
        refine wpAnyH_take (i := 8) (v := ?_) rfl (by kernel_rfl) (by kernel_rfl) (by kernel_rfl) (fun _ _ _ h => h) (Or.inl ⟨by rfl, ?_⟩) hHeld ?_
        rotate_left
        · intro w hSw; skip; go_simp; try with_reducible rfl
        try simp only [Act.put, List.getElem_toArray, List.getElem_cons_zero, List.getElem_cons_succ, List.setIfInBounds_toArray, List.set_cons_zero, List.set_cons_succ]
        refine wpAnyH_take (i := 9) (v := ?_) rfl (by kernel_rfl) (by kernel_rfl) (by kernel_rfl) (fun _ _ _ h => h) (Or.inl ⟨by rfl, ?_⟩) hHeld ?_
        rotate_left
        · intro w hSw; skip; go_simp; try with_reducible rfl
        try simp only [Act.put, List.getElem_toArray, List.getElem_cons_zero, List.getElem_cons_succ, List.setIfInBounds_toArray, List.set_cons_zero, List.set_cons_succ]
        refine wpAnyH_take (i := 10) (v := ?_) rfl (by kernel_rfl) (by kernel_rfl) (by kernel_rfl) (fun _ _ _ h => h) (Or.inl ⟨by rfl, ?_⟩) hHeld ?_
        rotate_left
        · intro w hSw; skip; go_simp; try with_reducible rfl
        try simp only [Act.put, List.getElem_toArray, List.getElem_cons_zero, List.getElem_cons_succ, List.setIfInBounds_toArray, List.set_cons_zero, List.set_cons_succ]
        refine wpAnyH_take (i := 11) (v := ?_) rfl (by kernel_rfl) (by kernel_rfl) (by kernel_rfl) (fun _ _ _ h => h) (Or.inl ⟨by rfl, ?_⟩) hHeld ?_
        rotate_left
        · intro w hSw; skip; go_simp; try with_reducible rfl
        try simp only [Act.put, List.getElem_toArray, List.getElem_cons_zero, List.getElem_cons_succ, List.setIfInBounds_toArray, List.set_cons_zero, List.set_cons_succ]
        refine wpAnyH_done (by kernel_rfl) ?_ _
        replace D0 := lies.on_call D0 hHeld
        replace D1 := lies.on_call D1 hHeld
        replace D2 := lies.on_call D2 hHeld
        replace DB := later DB hHeld
        replace P0 := P0.on hHeld
        replace HI := Lib.hid (HI.out.on hHeld)
        clear hHeld
        rcases HR2.out with ⟨n, _, _⟩ | ⟨_, hi1, hf2⟩ | ⟨_, hi1, hf2, hq, hfit, za, zl, hz, hn⟩
        · exact (n rfl).elim
        · skip
          subst hi1 hf2
          have hm := more_in rfl TA.out rfl TB.out H6.out HR1.out HR3.out
          clear HR1 HR2 HR3
          by_cases hg : f3 = 0
          · skip
            subst hg
            obtain rfl : i3 = true := hm.resolve_left (fun n => n rfl)
            clear hm
            go_wp2_with fail
            go_ret
            exact ⟨rfl, DB⟩
          · skip
            have hbg : (f3 == 0) = false := by simpa using hg
            have hng : (f3 != 0) = true := by simpa using hg
            clear hg hm
            go_wp2_with fail
            go_ret
            exact ⟨rfl, DB⟩
        · skip
          subst hi1 hf2
          have HQ := Lib.hid hq
          have ZA := Lib.hid za
          have ZL := Lib.hid zl
          have HZ := Lib.hid hz
          have HN := Lib.hid hn
          have HFT := Lib.hid (show zone.Fit [pa, pb, pc, pd] from hfit)
          clear hq za zl hz hn hfit HR1 HR2 HR3
          obtain ⟨⟨kD0_0, kD0_1, kD0_2, kD0_3, kD0_4, kD0_5⟩, -⟩ := six_cells D0
          have kD0_l := lies.lt D0
          obtain ⟨⟨kD2_0, kD2_1, kD2_2, kD2_3⟩, -⟩ := four_cells D2
          have kD2_l := lies.lt D2
          go_wp2_with fail
          clear kD0_0 kD0_1 kD0_2 kD0_3 kD0_4 kD0_5 kD0_l kD2_0 kD2_1 kD2_2 kD2_3 kD2_l
          refine (has_any a0 a1 a2 a3 a4 a5 pa pb pc pd wl P0 TA.out HFT.out).mono ?_
          rintro e w5 ⟨hB, it, g, rfl, hX1⟩
          obtain ⟨rfl, rfl⟩ : it = true ∧ g = 0 := by
            rcases hX1 with ⟨n, _, _⟩ | ⟨_, q1, q2, e, k⟩
            · exact (n ⟨ZA.out.1, HQ.out.1, HQ.out.2⟩).elim
            · exact ⟨k.2 ((has_kept q1 q2).1 HZ.out), e⟩
          clear hX1
          replace D0 := lies.on_call D0 hB
          replace D1 := lies.on_call D1 hB
          replace D2 := lies.on_call D2 hB
          replace HI := Lib.hid ((HI.out.below hB).mono hB.size)
          replace P0 := P0.on hB
          replace DB := later DB hB
          clear hB
          obtain ⟨⟨kD2_0, kD2_1, kD2_2, kD2_3⟩, -⟩ := four_cells D2
          have kD2_l := lies.lt D2
          go_wp2_with fail
          clear kD2_0 kD2_1 kD2_2 kD2_3 kD2_l
          refine (among_any ao l.length cap l pa pb pc pd w5 P0 HI.out rfl h5m ZL.out HFT.out).mono ?_
          rintro e w6 ⟨hB, ia, oa, rfl, hX1⟩
          obtain rfl : oa = true := hX1.2 HQ.out.1 HQ.out.2
          obtain rfl : ia = false := by
            have := cnt_none (p := (pa, pb, pc, pd)) HN.out
            have this : cnt l pa pb pc pd = 0 := this
            rw [(hX1.1 rfl).1, this]
            rfl
          clear hX1
          replace D0 := lies.on_call D0 hB
          replace D1 := lies.on_call D1 hB
          replace D2 := lies.on_call D2 hB
          replace HI := Lib.hid ((HI.out.below hB).mono hB.size)
          replace P0 := P0.on hB
          replace DB := later DB hB
          clear hB
          go_wp2_with fail
          go_ret
          exact ⟨rfl, DB⟩
      · go_simp
        have hAl := hHeld.trans ((bound.up1 wD (.cells #[.int .i64 b0, .int .i64 b1, .int .i64 b2, .int .i64 b3, .int .i64 b4, .int .i64 b5] 31)).mono hHeld.size)
        have hbox := zs_box (lies.made wD 31 #[.int .i64 b0, .int .i64 b1, .int .i64 b2, .int .i64 b3, .int .i64 b4, .int .i64 b5])
        refine hK.out _ _ hAl (fun hNew => ?_)
        clear hAl
        clear hHeld hK K
        have hHeld := hNew
        clear hNew
        try simp only [Act.put, List.getElem_toArray, List.getElem_cons_zero, List.getElem_cons_succ, List.setIfInBounds_toArray, List.set_cons_zero, List.set_cons_succ]
        refine wpAnyH_ready (rs := [2]) (by kernel_rfl) (by simp) (AllReadyH.cons rfl (fun K hK => ?_) AllReadyH.nil)
        obtain ⟨vp, wp, hrun, hown, hgrow, -⟩ := app_zones v4.heap.size 22 (.slice none 0 0) (.slice ao l.length cap) 0 _ [] l _ (World.ownsRow_nil _ _ _ _) (HI.out.below hHeld) (by omega) hHeld.size
        rw [Nat.zero_add, List.nil_append] at hown
        have hHp : Below v4.heap.size v4 wp := hHeld.grown hgrow hHeld.size (fun _ e => by cases e)
        rw [if_pos (by rfl)]
        refine wp_append_run (.const (.slice none 0 0)) (.tmp 50) 22 rfl _ _ vp wp rfl rfl hrun ?_
        clear hrun
        replace hbox := hbox.below (show Below (wD.alloc (.cells #[.int .i64 b0, .int .i64 b1, .int .i64 b2, .int .i64 b3, .int .i64 b4, .int .i64 b5] 31)).heap.size (wD.alloc (.cells #[.int .i64 b0, .int .i64 b1, .int .i64 b2, .int .i64 b3, .int .i64 b4, .int .i64 b5] 31)) wp from ⟨hgrow.os, hgrow.tape, hgrow.output, hgrow.size, fun k hk => hgrow.block k hk (fun e => by cases e)⟩)
        obtain ⟨bp, cp, rfl⟩ := zs_len (zs_own hown)
        refine hK.out _ _ hHp (fun hNew => ?_)
        clear hHp
        clear hHeld hK K
        have hHeld := hNew
        clear hNew
        try simp only [Act.put, List.getElem_toArray, List.getElem_cons_zero, List.getElem_cons_succ, List.setIfInBounds_toArray, List.set_cons_zero, List.set_cons_succ]
        refine wpAnyH_ready (rs := [5]) (by kernel_rfl) (by simp) (AllReadyH.cons rfl (fun K hK => ?_) AllReadyH.nil)
        obtain ⟨vq, wq, hrun, hown2, hgrow2, -⟩ := app_zones v4.heap.size 22 (.slice bp l.length cp) _ l.length _ _ [[b0, b1, b2, b3, b4, b5]] _ hown hbox (by rw [List.length_singleton]; omega) hHeld.size
        have hHp : Below v4.heap.size v4 wq := held_grown hHeld hHeld.size hown (Nat.le_refl _) hgrow2
        rw [if_pos (by rfl)]
        refine wp_append_run (.tmp 51) (.tmp 53) 22 rfl _ _ vq wq rfl rfl hrun ?_
        clear hrun
        have hown3 : wq.ownsRow v4.heap.size 31 6 vq (l ++ [[b0, b1, b2, b3, b4, b5]]).length (flatZ (l ++ [[b0, b1, b2, b3, b4, b5]])) := by
          rw [List.length_append, flatZ_app]; exact hown2
        obtain ⟨bq, cq, eq3⟩ := zs_len (zs_own hown3)
        rw [List.length_append, List.length_singleton] at eq3
        subst eq3
        have HQ := Lib.hid (zs_own hown3)
        clear hown hown2 hown3 hbox hgrow2
        try clear hgrow
        refine hK.out _ _ hHp (fun hNew => ?_)
        clear hHp
        clear hHeld hK K
        have hHeld := hNew
        clear hNew
        try simp only [Act.put, List.getElem_toArray, List.getElem_cons_zero, List.getElem_cons_succ, List.setIfInBounds_toArray, List.set_cons_zero, List.set_cons_succ]
        refine wpAnyH_ready (rs := [6]) (by kernel_rfl) (by simp) (AllReadyH.cons rfl (fun K hK => ?_) AllReadyH.nil)
        go_simp
        refine (cover.in_any a0 a1 a2 a3 a4 a5 bq (l.length + 1) cq (l ++ [[b0, b1, b2, b3, b4, b5]]) _ (P0.on hHeld) TA.out HQ.out H6B.out (by rw [List.length_append, List.length_singleton]) (by omega)).mono ?_
        rintro e wl ⟨hB, i3, f3, rfl, hR⟩
        have HR3 := Lib.hid hR
        clear hR HQ
        refine hK.out _ _ (hHeld.trans (hB.mono hHeld.size)) (fun hNew => ?_)
        clear hB
        clear hHeld hK K
        have hHeld := hNew
        clear hNew
        try simp only [Act.put, List.getElem_toArray, List.getElem_cons_zero, List.getElem_cons_succ, List.setIfInBounds_toArray, List.set_cons_zero, List.set_cons_succ]
        refine wpAnyH_take (i := 7) (v := ?_) rfl (by kernel_rfl) (by kernel_rfl) (by kernel_rfl) (fun _ _ _ h => h) (Or.inl ⟨by rfl, ?_⟩) hHeld ?_
        rotate_left
        · intro w hSw; skip; go_simp; try with_reducible rfl
        try simp only [Act.put, List.getElem_toArray, List.getElem_cons_zero, List.getElem_cons_succ, List.setIfInBounds_toArray, List.set_cons_zero, List.set_cons_succ]
        refine wpAnyH_take (i := 8) (v := ?_) rfl (by kernel_rfl) (by kernel_rfl) (by kernel_rfl) (fun _ _ _ h => h) (Or.inl ⟨by rfl, ?_⟩) hHeld ?_
        rotate_left
        · intro w hSw; skip; go_simp; try with_reducible rfl
        try simp only [Act.put, List.getElem_toArray, List.getElem_cons_zero, List.getElem_cons_succ, List.setIfInBounds_toArray, List.set_cons_zero, List.set_cons_succ]
        refine wpAnyH_take (i := 9) (v := ?_) rfl (by kernel_rfl) (by kernel_rfl) (by kernel_rfl) (fun _ _ _ h => h) (Or.inl ⟨by rfl, ?_⟩) hHeld ?_
        rotate_left
        · intro w hSw; skip; go_simp; try with_reducible rfl
        try simp only [Act.put, List.getElem_toArray, List.getElem_cons_zero, List.getElem_cons_succ, List.setIfInBounds_toArray, List.set_cons_zero, List.set_cons_succ]
        refine wpAnyH_take (i := 10) (v := ?_) rfl (by kernel_rfl) (by kernel_rfl) (by kernel_rfl) (fun _ _ _ h => h) (Or.inl ⟨by rfl, ?_⟩) hHeld ?_
        rotate_left
        · intro w hSw; skip; go_simp; try with_reducible rfl
        try simp only [Act.put, List.getElem_toArray, List.getElem_cons_zero, List.getElem_cons_succ, List.setIfInBounds_toArray, List.set_cons_zero, List.set_cons_succ]
        refine wpAnyH_take (i := 11) (v := ?_) rfl (by kernel_rfl) (by kernel_rfl) (by kernel_rfl) (fun _ _ _ h => h) (Or.inl ⟨by rfl, ?_⟩) hHeld ?_
        rotate_left
        · intro w hSw; skip; go_simp; try with_reducible rfl
        try simp only [Act.put, List.getElem_toArray, List.getElem_cons_zero, List.getElem_cons_succ, List.setIfInBounds_toArray, List.set_cons_zero, List.set_cons_succ]
        refine wpAnyH_done (by kernel_rfl) ?_ _
        replace D0 := lies.on_call D0 hHeld
        replace D1 := lies.on_call D1 hHeld
        replace D2 := lies.on_call D2 hHeld
        replace DB := later DB hHeld
        replace P0 := P0.on hHeld
        replace HI := Lib.hid (HI.out.on hHeld)
        clear hHeld
        rcases HR2.out with ⟨n, _, _⟩ | ⟨_, hi1, hf2⟩ | ⟨_, hi1, hf2, hq, hfit, za, zl, hz, hn⟩
        · exact (n rfl).elim
        · skip
          subst hi1 hf2
          have hm := more_in rfl TA.out rfl TB.out H6.out HR1.out HR3.out
          clear HR1 HR2 HR3
          by_cases hg : f3 = 0
          · skip
            subst hg
            obtain rfl : i3 = true := hm.resolve_left (fun n => n rfl)
            clear hm
            go_wp2_with fail
            go_ret
            exact ⟨rfl, DB⟩
          · skip
            have hbg : (f3 == 0) = false := by simpa using hg
            have hng : (f3 != 0) = true := by simpa using hg
            clear hg hm
            go_wp2_with fail
            go_ret
            exact ⟨rfl, DB⟩
        · skip
          subst hi1 hf2
          have HQ := Lib.hid hq
          have ZA := Lib.hid za
          have ZL := Lib.hid zl
          have HZ := Lib.hid hz
          have HN := Lib.hid hn
          have HFT := Lib.hid (show zone.Fit [pa, pb, pc, pd] from hfit)
          clear hq za zl hz hn hfit HR1 HR2 HR3
          obtain ⟨⟨kD0_0, kD0_1, kD0_2, kD0_3, kD0_4, kD0_5⟩, -⟩ := six_cells D0
          have kD0_l := lies.lt D0
          obtain ⟨⟨kD2_0, kD2_1, kD2_2, kD2_3⟩, -⟩ := four_cells D2
          have kD2_l := lies.lt D2
          go_wp2_with fail
          clear kD0_0 kD0_1 kD0_2 kD0_3 kD0_4 kD0_5 kD0_l kD2_0 kD2_1 kD2_2 kD2_3 kD2_l
          refine (has_any a0 a1 a2 a3 a4 a5 pa pb pc pd wl P0 TA.out HFT.out).mono ?_
          rintro e w5 ⟨hB, it, g, rfl, hX1⟩
          obtain ⟨rfl, rfl⟩ : it = true ∧ g = 0 := by
            rcases hX1 with ⟨n, _, _⟩ | ⟨_, q1, q2, e, k⟩
            · exact (n ⟨ZA.out.1, HQ.out.1, HQ.out.2⟩).elim
            · exact ⟨k.2 ((has_kept q1 q2).1 HZ.out), e⟩
          clear hX1
          replace D0 := lies.on_call D0 hB
          replace D1 := lies.on_call D1 hB
          replace D2 := lies.on_call D2 hB
          replace HI := Lib.hid ((HI.out.below hB).mono hB.size)
          replace P0 := P0.on hB
          replace DB := later DB hB
          clear hB
          obtain ⟨⟨kD2_0, kD2_1, kD2_2, kD2_3⟩, -⟩ := four_cells D2
          have kD2_l := lies.lt D2
          go_wp2_with fail
          clear kD2_0 kD2_1 kD2_2 kD2_3 kD2_l
          refine (among_any ao l.length cap l pa pb pc pd w5 P0 HI.out rfl h5m ZL.out HFT.out).mono ?_
          rintro e w6 ⟨hB, ia, oa, rfl, hX1⟩
          obtain rfl : oa = true := hX1.2 HQ.out.1 HQ.out.2
          obtain rfl : ia = false := by
            have := cnt_none (p := (pa, pb, pc, pd)) HN.out
            have this : cnt l pa pb pc pd = 0 := this
            rw [(hX1.1 rfl).1, this]
            rfl
          clear hX1
          replace D0 := lies.on_call D0 hB
          replace D1 := lies.on_call D1 hB
          replace D2 := lies.on_call D2 hB
          replace HI := Lib.hid ((HI.out.below hB).mono hB.size)
          replace P0 := P0.on hB
          replace DB := later DB hB
          clear hB
          go_wp2_with fail
          go_ret
          exact ⟨rfl, DB⟩
    · skip
      obtain ⟨hf2, hi1⟩ : f2 = f1 ∧ i1 = false := by
        rcases HR2.out with ⟨_, q1, q2⟩ | ⟨q, _⟩ | ⟨q, _⟩
        · exact ⟨q1, q2⟩
        · exact (hf q).elim
        · exact (hf q).elim
      subst hf2 hi1
      have hb2 : (f2 == 0) = false := by simpa using hf
      have hn2 : (f2 != 0) = true := by simpa using hf
      clear hf HR1 HR2
      go_wp2_with fail
      go_ret
      exact ⟨rfl, lies.frame_up DB _⟩
  · skip
    have h5i : (6 : Int) < (l.length : Int) := by omega
    clear h5
    go_wp2_with fail
    go_ret
    exact ⟨rfl, DB⟩

set_option maxRecDepth 100000 in
theorem lifted (os : Os) (started : os.Started) (H : Type) (enc : TypeId × Value → H) :
    ReturnsInHanded {} Tryd.checked os 4 .any (fun w args => (Rows.coverWitnessSpec.pre enc Tryd.prog Tryd.f4 [] false w args ∧ laidMetH Tryd.prog zopen.places w) ∧ sizedMet enc Tryd.prog Tryd.f4 (OpenSpec.ofChange Rows.coverWitnessSpec) false w args) (Rows.coverWitnessSpec.post enc Tryd.prog Tryd.f4 false true false false) := by
  refine returnsInHanded_of_change_and (C := Tryd.checked) (X := fun w _ => laidMetH Tryd.prog zopen.places w) (fun _ _ _ hh h => h.of_heap hh) law.own started (by kernel_rfl) Tryd.func4
    (ChangeSpec.witness_shaped (enc := enc) (C := Tryd.checked) (os := os) (X := fun w _ => laidMetH Tryd.prog zopen.places w) false (World.doorLaid Tryd.prog 400 os) #[.agg #[.int .i64 0, .int .i64 0, .int .i64 0, .int .i64 0, .int .i64 0, .int .i64 0], .slice none 0 0, .agg #[.int .i64 0, .int .i64 0, .int .i64 0, .int .i64 0, .int .i64 0, .int .i64 0]] 8 rfl (World.shaped_of_RefB (by kernel_rfl) (by kernel_rfl)) (by kernel_rfl) (by kernel_rfl) (by kernel_rfl) (zopen.door_met os _)) ?_
  intro W base args ds gs before hval0 hW _ _ hL _
  have hval : ∀ (j : Nat) t v, Tryd.f4.params[j]? = some t → args[j]? = some v → Value.okWide Tryd.prog W .any base t v := hval0
  have hW' := hW
  obtain ⟨p, q, hA0, hV, rfl, _, _⟩ := hW
  have hA : DataW.TrodAll enc Tryd.prog W 0 (fun _ => true) true Tryd.f4.params.toList args.toList ds p := hA0
  rw [Tryd.params4] at hA hval
  obtain ⟨v0, vs0, d0, ds0, p0, q0, hargs, rfl, rfl, h0, r0⟩ := trodAll_cons hA
  obtain ⟨v1, vs1, d1, ds1, p1, q1, rfl, rfl, rfl, h1, r1⟩ := trodAll_cons r0
  obtain ⟨v2, vs2, d2, ds2, p2, q2, rfl, rfl, rfl, h2, r2⟩ := trodAll_cons r1
  obtain ⟨rfl, rfl, rfl⟩ := trodAll_nil r2
  obtain rfl : args = #[v0, v1, v2] := by cases args; simp_all
  obtain ⟨z00, z01, z02, z03, z04, z05, rfl, w0⟩ := zopen.open_zone (hval 0 31 v0 rfl rfl) h0
  obtain ⟨l1, x1, hI1, m1, c1⟩ := mz.open_zones (hval 1 22 v1 rfl rfl) h1
  obtain ⟨z20, z21, z22, z23, z24, z25, rfl, w2⟩ := zopen.open_zone (hval 2 31 v2 rfl rfl) h2
  refine (walk z00 z01 z02 z03 z04 z05 v1 l1 z20 z21 z22 z23 z24 z25 W (fun x hx => ⟨law.wf_lo (w0 x hx), law.wf_hi (w0 x hx)⟩) (fun x hx => ⟨law.wf_lo (w2 x hx), law.wf_hi (w2 x hx)⟩) x1 hI1 m1 c1 (zopen.laid_pl hL)).mono fun e W' ⟨he, hB⟩ => ?_
  subst he
  exact ⟨_, rfl, law.post_true law.laidOut (by kernel_rfl) rfl Tryd.underlying4 rfl hW' (fun h => by subst h; rfl) hB⟩

theorem proved : Rows.CoverWitnessSaid :=
  OpenClaim.holds_of_wide 4 Tryd.f4 rfl rfl rfl rfl rfl rfl rfl ⟨rfl, rfl, rfl, rfl, rfl⟩ rfl rfl rfl rfl rfl (by kernel_rfl) Tryd.func4 (by kernel_rfl)
    (of_decide_eq_true (by kernel_rfl)) (by unfold Func.isWrapper; first | (rw [if_pos (by decide +kernel)]; kernel_rfl) | (rw [if_neg (by decide +kernel)]; exact ⟨rfl, rfl⟩))
    (fun os started H enc _ => lifted os started H enc)
theorem card : Rows.CoverWitnessCardSaid :=
  Claim7.holds_tied_plain_at .later [] [.data] true (true, "2a653a2495a718f6f3da16277af760e3a8a3a7580c5191817e652a07864c08ce") false
    proved (fun _ h => by cases h) (by kernel_rfl) (fun _ h => by cases h) coverWitness_row_tie rfl ⟨rfl, rfl⟩ (by kernel_rfl) rfl
    (fun f fn hf hfn => by
      obtain rfl : f = 4 := Option.some.inj ((show Tryd.prog.funcNamed "rallentando/rallentandolaw12.CoverWitness" = some 4 by kernel_rfl).symm.trans hf) |>.symm
      obtain rfl : fn = Tryd.f4 := (Option.some.inj (Tryd.func4.symm.trans hfn)).symm
      exact ⟨by kernel_rfl, fun j t ht => by
        rw [Tryd.params4] at ht
        have hm : t ∈ [31, 22, 31] := by simpa using Array.mem_of_getElem? ht
        have hall : ([31, 22, 31].all fun u => !Tryd.prog.wantsStandIn u) = true := by kernel_rfl
        exact (show Tryd.prog.wantsStandIn t = false by simpa using List.all_eq_true.1 hall t hm)⟩)
    (by kernel_rfl)
#print axioms card
end Go.Proofs.YthljhijcmdnonaaDoor.coverWitness
