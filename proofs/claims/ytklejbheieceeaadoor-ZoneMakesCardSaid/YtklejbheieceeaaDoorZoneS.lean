/-
  The document's own Made and Make: the zone of three spans; each theorem names its conditions.
-/
import Derived.Test.YtklejbheieceeaaDoorZoneR
import Derived.Test.YtklejbheieceeaaDoorZoneI
namespace Go.Proofs.YtklejbheieceeaaDoor.zref
open Go.Joins Go.ChangeShapes Go.WideShapes Go.ChangeAt Go.RowKit num rat dbm Go.Proofs.YtklejbheieceeaaDoor.tight Go.Proofs.YtklejbheieceeaaDoor.incl Go.Proofs.YtklejbheieceeaaDoor.plaw Go.Proofs.YtklejbheieceeaaDoor.zopen Go.Proofs.YtklejbheieceeaaDoor.zone dref
open bound hiding up
set_option linter.unusedVariables false
set_option linter.unusedSimpArgs false

/-- what lies while Made asks its spans. -/
def Mx (lo0 : Int) (ls0 : Bool) (hi0 : Int) (hs0 op0 : Bool) (lo1 : Int) (ls1 : Bool) (hi1 : Int) (hs1 op1 : Bool) (lo2 : Int) (ls2 : Bool) (hi2 : Int) (hs2 op2 : Bool) (w W : World) : Prop :=
  lies.Lies W w.heap.size 37 #[.int .i64 lo0, .bool ls0, .int .i64 hi0, .bool hs0, .bool op0] ∧ lies.Lies W (w.heap.size + 1) 37 #[.int .i64 lo1, .bool ls1, .int .i64 hi1, .bool hs1, .bool op1] ∧ lies.Lies W (w.heap.size + 1 + 1) 37 #[.int .i64 lo2, .bool ls2, .int .i64 hi2, .bool hs2, .bool op2] ∧
  lies.Lies W (w.heap.size + 1 + 1 + 1) 24 #[.int .i64 0, .int .i64 0, .int .i64 0, .int .i64 0, .int .i64 0, .int .i64 0] ∧ Below w.heap.size w W
theorem Mx.below {lo0 : Int} {ls0 : Bool} {hi0 : Int} {hs0 op0 : Bool} {lo1 : Int} {ls1 : Bool} {hi1 : Int} {hs1 op1 : Bool} {lo2 : Int} {ls2 : Bool} {hi2 : Int} {hs2 op2 : Bool} {w W X : World} (h : Mx lo0 ls0 hi0 hs0 op0 lo1 ls1 hi1 hs1 op1 lo2 ls2 hi2 hs2 op2 w W) (k : Below W.heap.size W X) : Mx lo0 ls0 hi0 hs0 op0 lo1 ls1 hi1 hs1 op1 lo2 ls2 hi2 hs2 op2 w X :=
  ⟨lies.on_call h.1 k, lies.on_call h.2.1 k, lies.on_call h.2.2.1 k, lies.on_call h.2.2.2.1 k, h.2.2.2.2.trans (k.mono h.2.2.2.2.size)⟩
theorem Mx.far {lo0 : Int} {ls0 : Bool} {hi0 : Int} {hs0 op0 : Bool} {lo1 : Int} {ls1 : Bool} {hi1 : Int} {hs1 op1 : Bool} {lo2 : Int} {ls2 : Bool} {hi2 : Int} {hs2 op2 : Bool} {w W X : World} {T : Nat} (h : Mx lo0 ls0 hi0 hs0 op0 lo1 ls1 hi1 hs1 op1 lo2 ls2 hi2 hs2 op2 w W) (k : Below T W X) (hT : w.heap.size + 1 + 1 + 1 < T) : Mx lo0 ls0 hi0 hs0 op0 lo1 ls1 hi1 hs1 op1 lo2 ls2 hi2 hs2 op2 w X :=
  ⟨(k.block _ (by omega)).trans h.1, (k.block _ (by omega)).trans h.2.1, (k.block _ (by omega)).trans h.2.2.1, (k.block _ hT).trans h.2.2.2.1, h.2.2.2.2.trans (k.mono (by omega))⟩
theorem span_five {W : World} {g : Nat} {t : TypeId} {a b c d e : Value} (h : lies.Lies W g t #[a, b, c, d, e]) : W.cell? ⟨g, 0, none⟩ = some a ∧ W.cell? ⟨g, 1, none⟩ = some b ∧ W.cell? ⟨g, 2, none⟩ = some c ∧ W.cell? ⟨g, 3, none⟩ = some d ∧ W.cell? ⟨g, 4, none⟩ = some e :=
  ⟨lies.cell h 0, lies.cell h 1, lies.cell h 2, lies.cell h 3, lies.cell h 4⟩
theorem hi_of {s : Sp} (h : MayP s) : s.2.2.2.2 = false → In s.2.2.1 := fun k => by
  rcases h.2 with q | q
  · rw [k] at q; exact absurd q.1 (by decide)
  · exact q.2.1

set_option maxRecDepth 100000 in
set_option maxHeartbeats 8000000 in
theorem made_is (lo0 : Int) (ls0 : Bool) (hi0 : Int) (hs0 op0 : Bool) (lo1 : Int) (ls1 : Bool) (hi1 : Int) (hs1 op1 : Bool) (lo2 : Int) (ls2 : Bool) (hi2 : Int) (hs2 op2 : Bool) (w : World) (h0 : MayP (lo0, ls0, hi0, hs0, op0)) (h1 : MayP (lo1, ls1, hi1, hs1, op1)) (h2 : MayP (lo2, ls2, hi2, hs2, op2)) :
    Calls Tryd.prog 35 #[.agg #[.int .i64 lo0, .bool ls0, .int .i64 hi0, .bool hs0, .bool op0], .agg #[.int .i64 lo1, .bool ls1, .int .i64 hi1, .bool hs1, .bool op1], .agg #[.int .i64 lo2, .bool ls2, .int .i64 hi2, .bool hs2, .bool op2]] w (Ofs 3 (fullT (spanZ (lo0, ls0, hi0, hs0, op0) (lo1, ls1, hi1, hs1, op1) (lo2, ls2, hi2, hs2, op2))) w) := by
  have X : ∃ w0, w0 = (((w.alloc (.cells #[.int .i64 lo0, .bool ls0, .int .i64 hi0, .bool hs0, .bool op0] 37)).alloc (.cells #[.int .i64 lo1, .bool ls1, .int .i64 hi1, .bool hs1, .bool op1] 37)).alloc (.cells #[.int .i64 lo2, .bool ls2, .int .i64 hi2, .bool hs2, .bool op2] 37)).alloc (.cells #[.int .i64 0, .int .i64 0, .int .i64 0, .int .i64 0, .int .i64 0, .int .i64 0] 24) := ⟨_, rfl⟩
  obtain ⟨w0, hX⟩ := X
  have W0 : Mx lo0 ls0 hi0 hs0 op0 lo1 ls1 hi1 hs1 op1 lo2 ls2 hi2 hs2 op2 w w0 := by
    refine ⟨?_, ?_, ?_, ?_, ?_⟩
    · rw [hX]; exact lies.on_alloc (lies.on_alloc (lies.on_alloc (lies.made _ _ _) _) _) _
    · rw [hX]; exact lies.on_alloc (lies.on_alloc (lies.made_at _ _ _ _ (by simp)) _) _
    · rw [hX]; exact lies.on_alloc (lies.made_at _ _ _ _ (by simp)) _
    · rw [hX]; exact lies.made_at _ _ _ _ (by simp)
    · rw [hX]; exact lies.frame_up (bound.up3 _ _ _ _) _
  have A0 := Lib.hid (fun W : World => tref.above_any lo0 ls0 hi0 hs0 op0 W (hi_of h0))
  have A1 := Lib.hid (fun W : World => tref.above_any lo1 ls1 hi1 hs1 op1 W (hi_of h1))
  have A2 := Lib.hid (fun W : World => tref.above_any lo2 ls2 hi2 hs2 op2 W (hi_of h2))
  have B0 := Lib.hid (fun W : World => tref.below_any lo0 ls0 hi0 hs0 op0 W h0.1)
  have B1 := Lib.hid (fun W : World => tref.below_any lo1 ls1 hi1 hs1 op1 W h1.1)
  have B2 := Lib.hid (fun W : World => tref.below_any lo2 ls2 hi2 hs2 op2 W h2.1)
  have hm := span_may h0 h1 h2
  have hz : spanZ (lo0, ls0, hi0, hs0, op0) (lo1, ls1, hi1, hs1, op1) (lo2, ls2, hi2, hs2, op2) = [hiB hi0 hs0 op0, mk (-lo0) ls0, hiB hi1 hs1 op1, mk (-lo1) ls1, hiB hi2 hs2 op2, mk (-lo2) ls2] := rfl
  have htp := span_tops h0 h1 h2
  rw [hz] at hm htp ⊢
  clear hz h0 h1 h2
  generalize hiB hi0 hs0 op0 = x0 at A0 hm htp ⊢
  generalize hiB hi1 hs1 op1 = x2 at A1 hm htp ⊢
  generalize hiB hi2 hs2 op2 = x4 at A2 hm htp ⊢
  generalize mk (-lo0) ls0 = x1 at B0 hm htp ⊢
  generalize mk (-lo1) ls1 = x3 at B1 hm htp ⊢
  generalize mk (-lo2) ls2 = x5 at B2 hm htp ⊢
  have HTP := Lib.hid (show Tops [x0, x1, x2, x3, x4, x5] from htp)
  have HM := Lib.hid hm
  clear hm htp
  go_enter Tryd.func35, Tryd.ntmps35
  go_wp2_with fail
  rw [← hX]
  clear hX
  have hRw : w.heap.size ≤ w.heap.size + 1 + 1 + 1 := by omega
  have M := W0.below (dbm.drawn1 (Below.refl _ _))
  clear W0
  rename_i KC hKC
  have TAIL : ∀ (W : World) (T : Nat), Mx lo0 ls0 hi0 hs0 op0 lo1 ls1 hi1 hs1 op1 lo2 ls2 hi2 hs2 op2 w W → lies.Lies W T 24 #[.int .i64 x0, .int .i64 x1, .int .i64 x2, .int .i64 x3, .int .i64 x4, .int .i64 x5] → w.heap.size + 1 + 1 + 1 < T → KC { tmps := #[.agg #[.int .i64 lo0, .bool ls0, .int .i64 hi0, .bool hs0, .bool op0], .agg #[.int .i64 lo1, .bool ls1, .int .i64 hi1, .bool hs1, .bool op1], .agg #[.int .i64 lo2, .bool ls2, .int .i64 hi2, .bool hs2, .bool op2], .pointer (some ⟨w.heap.size, 0, none⟩), .pointer (some ⟨w.heap.size + 1, 0, none⟩), .pointer (some ⟨w.heap.size + 1 + 1, 0, none⟩), .pointer (some ⟨w.heap.size + 1 + 1 + 1, 0, none⟩), .int .i64 0, .pointer (some ⟨T, 0, none⟩), .agg #[.int .i64 lo0, .bool ls0, .int .i64 hi0, .bool hs0, .bool op0], .int .i64 x0, .agg #[.int .i64 lo0, .bool ls0, .int .i64 hi0, .bool hs0, .bool op0], .int .i64 x1, .agg #[.int .i64 lo1, .bool ls1, .int .i64 hi1, .bool hs1, .bool op1], .int .i64 x2, .agg #[.int .i64 lo1, .bool ls1, .int .i64 hi1, .bool hs1, .bool op1], .int .i64 x3, .agg #[.int .i64 lo2, .bool ls2, .int .i64 hi2, .bool hs2, .bool op2], .int .i64 x4, .agg #[.int .i64 lo2, .bool ls2, .int .i64 hi2, .bool hs2, .bool op2], .int .i64 x5, .agg #[.int .i64 x0, .int .i64 x1, .int .i64 x2, .int .i64 x3, .int .i64 x4, .int .i64 x5], undef, undef, undef, undef, undef, undef, undef, undef], defers := [] } W := fun W T M L hT => by
    refine hKC _ _ ?_
    obtain ⟨⟨c0, c1, c2, c3, c4, c5⟩, _, xl⟩ := six_cells L
    go_wp2_with fail
    refine (full_is x0 x1 x2 x3 x4 x5 W).mono ?_
    rintro e w2 ⟨hB, g, hg, rfl, hG⟩
    replace M := M.below hB
    clear L hB c0 c1 c2 c3 c4 c5 xl
    have hM2 : MatI 3 g 0 (fullT [x0, x1, x2, x3, x4, x5]) w2 := ⟨fun p hp => by
      rw [Nat.zero_add]; exact (lies.cell hG p).trans (cells_at _ p hp), lies.lt hG⟩
    have C := Lib.hid (tref.closed_g 3 g 9 (fullT [x0, x1, x2, x3, x4, x5]) w2 (by decide) (by decide) rfl (full_tops HTP.out) HM.out hM2)
    clear hM2 hG
    go_wp2_with fail
    refine C.out.mono ?_
    intro e w3 hC
    clear C
    obtain ⟨hB, na, a, l, c, us, bl, rfl, hR, hO⟩ := tref.comm_one hC
    replace M := M.below hB
    have TD := Lib.hid (told_any hR HM.out rfl (full_tops HTP.out) a l c _ w3 hO)
    clear hC hB hR hO
    go_wp2_with fail
    refine TD.out.mono ?_
    rintro e w4 ⟨hB, v0, v1, v2, v3, v4, v5, f, rfl, hR⟩
    replace M := M.below hB
    have HR := Lib.hid hR
    clear hR TD hB
    obtain ⟨⟨c0, c1, c2, c3, c4, c5⟩, ⟨y0, y1, y2, y3, y4, y5⟩, xl⟩ := six_cells M.2.2.2.1
    have hBB := M.2.2.2.2
    clear M
    go_wp2_with fail
    exact bodyPost_ret (v := .tuple #[.agg #[.int .i64 v0, .int .i64 v1, .int .i64 v2, .int .i64 v3, .int .i64 v4, .int .i64 v5], .int .i64 f]) (by simp [results, Tryd.results35, go_sem, c0, c1, c2, c3, c4, c5, xl]) rfl ⟨put_six hBB hRw _ _ _ _ _ _, v0, v1, v2, v3, v4, v5, f, rfl, HR.out⟩
  refine wp_region_held_drew (S := fun W => Mx lo0 ls0 hi0 hs0 op0 lo1 ls1 hi1 hs1 op1 lo2 ls2 hi2 hs2 op2 w W) (by kernel_rfl) M (fun hHeld => ?_)
  generalize w0.drew = wD at M hHeld ⊢
  refine wpAnyH_take (i := 0) (v := ?_) rfl (by kernel_rfl) (by kernel_rfl) (by kernel_rfl) (fun _ _ _ h => h) (Or.inl ⟨by rfl, ?_⟩) hHeld ?_
  rotate_left
  · intro w hSw; obtain ⟨s0, s1, s2, s3, s4⟩ := span_five hSw.1; go_simp; try with_reducible rfl
  try simp only [Act.put, List.getElem_toArray, List.getElem_cons_zero, List.getElem_cons_succ, List.setIfInBounds_toArray, List.set_cons_zero, List.set_cons_succ]
  refine wpAnyH_take (i := 2) (v := ?_) rfl (by kernel_rfl) (by kernel_rfl) (by kernel_rfl) (fun _ _ _ h => h) (Or.inl ⟨by rfl, ?_⟩) hHeld ?_
  rotate_left
  · intro w hSw; obtain ⟨s0, s1, s2, s3, s4⟩ := span_five hSw.1; go_simp; try with_reducible rfl
  try simp only [Act.put, List.getElem_toArray, List.getElem_cons_zero, List.getElem_cons_succ, List.setIfInBounds_toArray, List.set_cons_zero, List.set_cons_succ]
  refine wpAnyH_take (i := 4) (v := ?_) rfl (by kernel_rfl) (by kernel_rfl) (by kernel_rfl) (fun _ _ _ h => h) (Or.inl ⟨by rfl, ?_⟩) hHeld ?_
  rotate_left
  · intro w hSw; obtain ⟨s0, s1, s2, s3, s4⟩ := span_five hSw.2.1; go_simp; try with_reducible rfl
  try simp only [Act.put, List.getElem_toArray, List.getElem_cons_zero, List.getElem_cons_succ, List.setIfInBounds_toArray, List.set_cons_zero, List.set_cons_succ]
  refine wpAnyH_take (i := 6) (v := ?_) rfl (by kernel_rfl) (by kernel_rfl) (by kernel_rfl) (fun _ _ _ h => h) (Or.inl ⟨by rfl, ?_⟩) hHeld ?_
  rotate_left
  · intro w hSw; obtain ⟨s0, s1, s2, s3, s4⟩ := span_five hSw.2.1; go_simp; try with_reducible rfl
  try simp only [Act.put, List.getElem_toArray, List.getElem_cons_zero, List.getElem_cons_succ, List.setIfInBounds_toArray, List.set_cons_zero, List.set_cons_succ]
  refine wpAnyH_take (i := 8) (v := ?_) rfl (by kernel_rfl) (by kernel_rfl) (by kernel_rfl) (fun _ _ _ h => h) (Or.inl ⟨by rfl, ?_⟩) hHeld ?_
  rotate_left
  · intro w hSw; obtain ⟨s0, s1, s2, s3, s4⟩ := span_five hSw.2.2.1; go_simp; try with_reducible rfl
  try simp only [Act.put, List.getElem_toArray, List.getElem_cons_zero, List.getElem_cons_succ, List.setIfInBounds_toArray, List.set_cons_zero, List.set_cons_succ]
  refine wpAnyH_take (i := 10) (v := ?_) rfl (by kernel_rfl) (by kernel_rfl) (by kernel_rfl) (fun _ _ _ h => h) (Or.inl ⟨by rfl, ?_⟩) hHeld ?_
  rotate_left
  · intro w hSw; obtain ⟨s0, s1, s2, s3, s4⟩ := span_five hSw.2.2.1; go_simp; try with_reducible rfl
  try simp only [Act.put, List.getElem_toArray, List.getElem_cons_zero, List.getElem_cons_succ, List.setIfInBounds_toArray, List.set_cons_zero, List.set_cons_succ]
  refine wpAnyH_ready (rs := [1, 13]) (by kernel_rfl) (by simp) (AllReadyH.cons rfl (fun K hK => ?_) (AllReadyH.cons rfl (fun K hK => ?_) AllReadyH.nil))
  · go_simp
    refine (A0.out _).mono ?_
    rintro e w10 ⟨rfl, hB⟩
    replace M := M.below hB
    refine hK.out _ _ M (fun hNew => ?_)
    clear hB
    clear hHeld hK K
    have hHeld := hNew
    clear hNew
    try simp only [Act.put, List.getElem_toArray, List.getElem_cons_zero, List.getElem_cons_succ, List.setIfInBounds_toArray, List.set_cons_zero, List.set_cons_succ]
    refine wpAnyH_ready (rs := [3, 13]) (by kernel_rfl) (by simp) (AllReadyH.cons rfl (fun K hK => ?_) (AllReadyH.cons rfl (fun K hK => ?_) AllReadyH.nil))
    · go_simp
      refine (B0.out _).mono ?_
      rintro e w11 ⟨rfl, hB⟩
      replace M := M.below hB
      refine hK.out _ _ M (fun hNew => ?_)
      clear hB
      clear hHeld hK K
      have hHeld := hNew
      clear hNew
      try simp only [Act.put, List.getElem_toArray, List.getElem_cons_zero, List.getElem_cons_succ, List.setIfInBounds_toArray, List.set_cons_zero, List.set_cons_succ]
      refine wpAnyH_ready (rs := [5, 13]) (by kernel_rfl) (by simp) (AllReadyH.cons rfl (fun K hK => ?_) (AllReadyH.cons rfl (fun K hK => ?_) AllReadyH.nil))
      · go_simp
        refine (A1.out _).mono ?_
        rintro e w12 ⟨rfl, hB⟩
        replace M := M.below hB
        refine hK.out _ _ M (fun hNew => ?_)
        clear hB
        clear hHeld hK K
        have hHeld := hNew
        clear hNew
        try simp only [Act.put, List.getElem_toArray, List.getElem_cons_zero, List.getElem_cons_succ, List.setIfInBounds_toArray, List.set_cons_zero, List.set_cons_succ]
        refine wpAnyH_ready (rs := [7, 13]) (by kernel_rfl) (by simp) (AllReadyH.cons rfl (fun K hK => ?_) (AllReadyH.cons rfl (fun K hK => ?_) AllReadyH.nil))
        · go_simp
          refine (B1.out _).mono ?_
          rintro e w13 ⟨rfl, hB⟩
          replace M := M.below hB
          refine hK.out _ _ M (fun hNew => ?_)
          clear hB
          clear hHeld hK K
          have hHeld := hNew
          clear hNew
          try simp only [Act.put, List.getElem_toArray, List.getElem_cons_zero, List.getElem_cons_succ, List.setIfInBounds_toArray, List.set_cons_zero, List.set_cons_succ]
          refine wpAnyH_ready (rs := [9, 13]) (by kernel_rfl) (by simp) (AllReadyH.cons rfl (fun K hK => ?_) (AllReadyH.cons rfl (fun K hK => ?_) AllReadyH.nil))
          · go_simp
            refine (A2.out _).mono ?_
            rintro e w14 ⟨rfl, hB⟩
            replace M := M.below hB
            refine hK.out _ _ M (fun hNew => ?_)
            clear hB
            clear hHeld hK K
            have hHeld := hNew
            clear hNew
            try simp only [Act.put, List.getElem_toArray, List.getElem_cons_zero, List.getElem_cons_succ, List.setIfInBounds_toArray, List.set_cons_zero, List.set_cons_succ]
            refine wpAnyH_ready (rs := [11, 13]) (by kernel_rfl) (by simp) (AllReadyH.cons rfl (fun K hK => ?_) (AllReadyH.cons rfl (fun K hK => ?_) AllReadyH.nil))
            · go_simp
              refine (B2.out _).mono ?_
              rintro e w15 ⟨rfl, hB⟩
              replace M := M.below hB
              refine hK.out _ _ M (fun hNew => ?_)
              clear hB
              clear hHeld hK K
              have hHeld := hNew
              clear hNew
              try simp only [Act.put, List.getElem_toArray, List.getElem_cons_zero, List.getElem_cons_succ, List.setIfInBounds_toArray, List.set_cons_zero, List.set_cons_succ]
              refine wpAnyH_take (i := 12) (v := ?_) rfl (by kernel_rfl) (by kernel_rfl) (by kernel_rfl) (fun _ _ _ h => h) (Or.inl ⟨by rfl, ?_⟩) hHeld ?_
              rotate_left
              · intro w hSw; skip; go_simp; try with_reducible rfl
              try simp only [Act.put, List.getElem_toArray, List.getElem_cons_zero, List.getElem_cons_succ, List.setIfInBounds_toArray, List.set_cons_zero, List.set_cons_succ]
              refine wpAnyH_ready (rs := [13]) (by kernel_rfl) (by simp) (AllReadyH.cons rfl (fun K hK => ?_) AllReadyH.nil)
              go_simp
              have hT := lies.lt M.2.2.2.1
              have L := lies.made w15 24 #[.int .i64 0, .int .i64 0, .int .i64 0, .int .i64 0, .int .i64 0, .int .i64 0]
              replace M := M.below (bound.up1 w15 (.cells #[.int .i64 0, .int .i64 0, .int .i64 0, .int .i64 0, .int .i64 0, .int .i64 0] 24))
              refine hK.out _ _ M (fun hNew => ?_)
              clear hHeld hK K
              have hHeld := hNew
              clear hNew
              try simp only [Act.put, List.getElem_toArray, List.getElem_cons_zero, List.getElem_cons_succ, List.setIfInBounds_toArray, List.set_cons_zero, List.set_cons_succ]
              generalize (World.heap w15).size = T at hT L ⊢
              generalize World.alloc w15 (.cells #[.int .i64 0, .int .i64 0, .int .i64 0, .int .i64 0, .int .i64 0, .int .i64 0] 24) = wA at M L hHeld ⊢
              obtain ⟨⟨c0, c1, c2, c3, c4, c5⟩, ⟨y0, y1, y2, y3, y4, y5⟩, xl⟩ := six_cells L
              refine wpAnyH_ready (rs := [14]) (by kernel_rfl) (by simp) (AllReadyH.cons rfl (fun K hK => ?_) AllReadyH.nil)
              go_simp
              replace M := M.far (put_six (Below.refl T wA) (Nat.le_refl T) (.int .i64 x0) (.int .i64 x1) (.int .i64 x2) (.int .i64 x3) (.int .i64 x4) (.int .i64 x5)) hT
              replace L := put_sixL L (.int .i64 x0) (.int .i64 x1) (.int .i64 x2) (.int .i64 x3) (.int .i64 x4) (.int .i64 x5)
              refine hK.out _ _ M (fun hNew => ?_)
              clear hHeld hK K hNew c0 c1 c2 c3 c4 c5 y0 y1 y2 y3 y4 y5 xl
              refine wpAnyH_done (by kernel_rfl) ?_ _
              exact TAIL _ _ M L hT
            · go_simp
              have hT := lies.lt M.2.2.2.1
              have L := lies.made w14 24 #[.int .i64 0, .int .i64 0, .int .i64 0, .int .i64 0, .int .i64 0, .int .i64 0]
              replace M := M.below (bound.up1 w14 (.cells #[.int .i64 0, .int .i64 0, .int .i64 0, .int .i64 0, .int .i64 0, .int .i64 0] 24))
              refine hK.out _ _ M (fun hNew => ?_)
              clear hHeld hK K
              have hHeld := hNew
              clear hNew
              try simp only [Act.put, List.getElem_toArray, List.getElem_cons_zero, List.getElem_cons_succ, List.setIfInBounds_toArray, List.set_cons_zero, List.set_cons_succ]
              generalize (World.heap w14).size = T at hT L ⊢
              generalize World.alloc w14 (.cells #[.int .i64 0, .int .i64 0, .int .i64 0, .int .i64 0, .int .i64 0, .int .i64 0] 24) = wA at M L hHeld ⊢
              refine wpAnyH_ready (rs := [11]) (by kernel_rfl) (by simp) (AllReadyH.cons rfl (fun K hK => ?_) AllReadyH.nil)
              go_simp
              refine (B2.out _).mono ?_
              rintro e w15 ⟨rfl, hB⟩
              replace M := M.below hB
              replace L := lies.on_call L hB
              refine hK.out _ _ M (fun hNew => ?_)
              clear hB
              clear hHeld hK K
              have hHeld := hNew
              clear hNew
              try simp only [Act.put, List.getElem_toArray, List.getElem_cons_zero, List.getElem_cons_succ, List.setIfInBounds_toArray, List.set_cons_zero, List.set_cons_succ]
              refine wpAnyH_take (i := 12) (v := ?_) rfl (by kernel_rfl) (by kernel_rfl) (by kernel_rfl) (fun _ _ _ h => h) (Or.inl ⟨by rfl, ?_⟩) hHeld ?_
              rotate_left
              · intro w hSw; skip; go_simp; try with_reducible rfl
              try simp only [Act.put, List.getElem_toArray, List.getElem_cons_zero, List.getElem_cons_succ, List.setIfInBounds_toArray, List.set_cons_zero, List.set_cons_succ]
              obtain ⟨⟨c0, c1, c2, c3, c4, c5⟩, ⟨y0, y1, y2, y3, y4, y5⟩, xl⟩ := six_cells L
              refine wpAnyH_ready (rs := [14]) (by kernel_rfl) (by simp) (AllReadyH.cons rfl (fun K hK => ?_) AllReadyH.nil)
              go_simp
              replace M := M.far (put_six (Below.refl T w15) (Nat.le_refl T) (.int .i64 x0) (.int .i64 x1) (.int .i64 x2) (.int .i64 x3) (.int .i64 x4) (.int .i64 x5)) hT
              replace L := put_sixL L (.int .i64 x0) (.int .i64 x1) (.int .i64 x2) (.int .i64 x3) (.int .i64 x4) (.int .i64 x5)
              refine hK.out _ _ M (fun hNew => ?_)
              clear hHeld hK K hNew c0 c1 c2 c3 c4 c5 y0 y1 y2 y3 y4 y5 xl
              refine wpAnyH_done (by kernel_rfl) ?_ _
              exact TAIL _ _ M L hT
          · go_simp
            have hT := lies.lt M.2.2.2.1
            have L := lies.made w13 24 #[.int .i64 0, .int .i64 0, .int .i64 0, .int .i64 0, .int .i64 0, .int .i64 0]
            replace M := M.below (bound.up1 w13 (.cells #[.int .i64 0, .int .i64 0, .int .i64 0, .int .i64 0, .int .i64 0, .int .i64 0] 24))
            refine hK.out _ _ M (fun hNew => ?_)
            clear hHeld hK K
            have hHeld := hNew
            clear hNew
            try simp only [Act.put, List.getElem_toArray, List.getElem_cons_zero, List.getElem_cons_succ, List.setIfInBounds_toArray, List.set_cons_zero, List.set_cons_succ]
            generalize (World.heap w13).size = T at hT L ⊢
            generalize World.alloc w13 (.cells #[.int .i64 0, .int .i64 0, .int .i64 0, .int .i64 0, .int .i64 0, .int .i64 0] 24) = wA at M L hHeld ⊢
            refine wpAnyH_ready (rs := [9]) (by kernel_rfl) (by simp) (AllReadyH.cons rfl (fun K hK => ?_) AllReadyH.nil)
            go_simp
            refine (A2.out _).mono ?_
            rintro e w14 ⟨rfl, hB⟩
            replace M := M.below hB
            replace L := lies.on_call L hB
            refine hK.out _ _ M (fun hNew => ?_)
            clear hB
            clear hHeld hK K
            have hHeld := hNew
            clear hNew
            try simp only [Act.put, List.getElem_toArray, List.getElem_cons_zero, List.getElem_cons_succ, List.setIfInBounds_toArray, List.set_cons_zero, List.set_cons_succ]
            refine wpAnyH_ready (rs := [11]) (by kernel_rfl) (by simp) (AllReadyH.cons rfl (fun K hK => ?_) AllReadyH.nil)
            go_simp
            refine (B2.out _).mono ?_
            rintro e w15 ⟨rfl, hB⟩
            replace M := M.below hB
            replace L := lies.on_call L hB
            refine hK.out _ _ M (fun hNew => ?_)
            clear hB
            clear hHeld hK K
            have hHeld := hNew
            clear hNew
            try simp only [Act.put, List.getElem_toArray, List.getElem_cons_zero, List.getElem_cons_succ, List.setIfInBounds_toArray, List.set_cons_zero, List.set_cons_succ]
            refine wpAnyH_take (i := 12) (v := ?_) rfl (by kernel_rfl) (by kernel_rfl) (by kernel_rfl) (fun _ _ _ h => h) (Or.inl ⟨by rfl, ?_⟩) hHeld ?_
            rotate_left
            · intro w hSw; skip; go_simp; try with_reducible rfl
            try simp only [Act.put, List.getElem_toArray, List.getElem_cons_zero, List.getElem_cons_succ, List.setIfInBounds_toArray, List.set_cons_zero, List.set_cons_succ]
            obtain ⟨⟨c0, c1, c2, c3, c4, c5⟩, ⟨y0, y1, y2, y3, y4, y5⟩, xl⟩ := six_cells L
            refine wpAnyH_ready (rs := [14]) (by kernel_rfl) (by simp) (AllReadyH.cons rfl (fun K hK => ?_) AllReadyH.nil)
            go_simp
            replace M := M.far (put_six (Below.refl T w15) (Nat.le_refl T) (.int .i64 x0) (.int .i64 x1) (.int .i64 x2) (.int .i64 x3) (.int .i64 x4) (.int .i64 x5)) hT
            replace L := put_sixL L (.int .i64 x0) (.int .i64 x1) (.int .i64 x2) (.int .i64 x3) (.int .i64 x4) (.int .i64 x5)
            refine hK.out _ _ M (fun hNew => ?_)
            clear hHeld hK K hNew c0 c1 c2 c3 c4 c5 y0 y1 y2 y3 y4 y5 xl
            refine wpAnyH_done (by kernel_rfl) ?_ _
            exact TAIL _ _ M L hT
        · go_simp
          have hT := lies.lt M.2.2.2.1
          have L := lies.made w12 24 #[.int .i64 0, .int .i64 0, .int .i64 0, .int .i64 0, .int .i64 0, .int .i64 0]
          replace M := M.below (bound.up1 w12 (.cells #[.int .i64 0, .int .i64 0, .int .i64 0, .int .i64 0, .int .i64 0, .int .i64 0] 24))
          refine hK.out _ _ M (fun hNew => ?_)
          clear hHeld hK K
          have hHeld := hNew
          clear hNew
          try simp only [Act.put, List.getElem_toArray, List.getElem_cons_zero, List.getElem_cons_succ, List.setIfInBounds_toArray, List.set_cons_zero, List.set_cons_succ]
          generalize (World.heap w12).size = T at hT L ⊢
          generalize World.alloc w12 (.cells #[.int .i64 0, .int .i64 0, .int .i64 0, .int .i64 0, .int .i64 0, .int .i64 0] 24) = wA at M L hHeld ⊢
          refine wpAnyH_ready (rs := [7]) (by kernel_rfl) (by simp) (AllReadyH.cons rfl (fun K hK => ?_) AllReadyH.nil)
          go_simp
          refine (B1.out _).mono ?_
          rintro e w13 ⟨rfl, hB⟩
          replace M := M.below hB
          replace L := lies.on_call L hB
          refine hK.out _ _ M (fun hNew => ?_)
          clear hB
          clear hHeld hK K
          have hHeld := hNew
          clear hNew
          try simp only [Act.put, List.getElem_toArray, List.getElem_cons_zero, List.getElem_cons_succ, List.setIfInBounds_toArray, List.set_cons_zero, List.set_cons_succ]
          refine wpAnyH_ready (rs := [9]) (by kernel_rfl) (by simp) (AllReadyH.cons rfl (fun K hK => ?_) AllReadyH.nil)
          go_simp
          refine (A2.out _).mono ?_
          rintro e w14 ⟨rfl, hB⟩
          replace M := M.below hB
          replace L := lies.on_call L hB
          refine hK.out _ _ M (fun hNew => ?_)
          clear hB
          clear hHeld hK K
          have hHeld := hNew
          clear hNew
          try simp only [Act.put, List.getElem_toArray, List.getElem_cons_zero, List.getElem_cons_succ, List.setIfInBounds_toArray, List.set_cons_zero, List.set_cons_succ]
          refine wpAnyH_ready (rs := [11]) (by kernel_rfl) (by simp) (AllReadyH.cons rfl (fun K hK => ?_) AllReadyH.nil)
          go_simp
          refine (B2.out _).mono ?_
          rintro e w15 ⟨rfl, hB⟩
          replace M := M.below hB
          replace L := lies.on_call L hB
          refine hK.out _ _ M (fun hNew => ?_)
          clear hB
          clear hHeld hK K
          have hHeld := hNew
          clear hNew
          try simp only [Act.put, List.getElem_toArray, List.getElem_cons_zero, List.getElem_cons_succ, List.setIfInBounds_toArray, List.set_cons_zero, List.set_cons_succ]
          refine wpAnyH_take (i := 12) (v := ?_) rfl (by kernel_rfl) (by kernel_rfl) (by kernel_rfl) (fun _ _ _ h => h) (Or.inl ⟨by rfl, ?_⟩) hHeld ?_
          rotate_left
          · intro w hSw; skip; go_simp; try with_reducible rfl
          try simp only [Act.put, List.getElem_toArray, List.getElem_cons_zero, List.getElem_cons_succ, List.setIfInBounds_toArray, List.set_cons_zero, List.set_cons_succ]
          obtain ⟨⟨c0, c1, c2, c3, c4, c5⟩, ⟨y0, y1, y2, y3, y4, y5⟩, xl⟩ := six_cells L
          refine wpAnyH_ready (rs := [14]) (by kernel_rfl) (by simp) (AllReadyH.cons rfl (fun K hK => ?_) AllReadyH.nil)
          go_simp
          replace M := M.far (put_six (Below.refl T w15) (Nat.le_refl T) (.int .i64 x0) (.int .i64 x1) (.int .i64 x2) (.int .i64 x3) (.int .i64 x4) (.int .i64 x5)) hT
          replace L := put_sixL L (.int .i64 x0) (.int .i64 x1) (.int .i64 x2) (.int .i64 x3) (.int .i64 x4) (.int .i64 x5)
          refine hK.out _ _ M (fun hNew => ?_)
          clear hHeld hK K hNew c0 c1 c2 c3 c4 c5 y0 y1 y2 y3 y4 y5 xl
          refine wpAnyH_done (by kernel_rfl) ?_ _
          exact TAIL _ _ M L hT
      · go_simp
        have hT := lies.lt M.2.2.2.1
        have L := lies.made w11 24 #[.int .i64 0, .int .i64 0, .int .i64 0, .int .i64 0, .int .i64 0, .int .i64 0]
        replace M := M.below (bound.up1 w11 (.cells #[.int .i64 0, .int .i64 0, .int .i64 0, .int .i64 0, .int .i64 0, .int .i64 0] 24))
        refine hK.out _ _ M (fun hNew => ?_)
        clear hHeld hK K
        have hHeld := hNew
        clear hNew
        try simp only [Act.put, List.getElem_toArray, List.getElem_cons_zero, List.getElem_cons_succ, List.setIfInBounds_toArray, List.set_cons_zero, List.set_cons_succ]
        generalize (World.heap w11).size = T at hT L ⊢
        generalize World.alloc w11 (.cells #[.int .i64 0, .int .i64 0, .int .i64 0, .int .i64 0, .int .i64 0, .int .i64 0] 24) = wA at M L hHeld ⊢
        refine wpAnyH_ready (rs := [5]) (by kernel_rfl) (by simp) (AllReadyH.cons rfl (fun K hK => ?_) AllReadyH.nil)
        go_simp
        refine (A1.out _).mono ?_
        rintro e w12 ⟨rfl, hB⟩
        replace M := M.below hB
        replace L := lies.on_call L hB
        refine hK.out _ _ M (fun hNew => ?_)
        clear hB
        clear hHeld hK K
        have hHeld := hNew
        clear hNew
        try simp only [Act.put, List.getElem_toArray, List.getElem_cons_zero, List.getElem_cons_succ, List.setIfInBounds_toArray, List.set_cons_zero, List.set_cons_succ]
        refine wpAnyH_ready (rs := [7]) (by kernel_rfl) (by simp) (AllReadyH.cons rfl (fun K hK => ?_) AllReadyH.nil)
        go_simp
        refine (B1.out _).mono ?_
        rintro e w13 ⟨rfl, hB⟩
        replace M := M.below hB
        replace L := lies.on_call L hB
        refine hK.out _ _ M (fun hNew => ?_)
        clear hB
        clear hHeld hK K
        have hHeld := hNew
        clear hNew
        try simp only [Act.put, List.getElem_toArray, List.getElem_cons_zero, List.getElem_cons_succ, List.setIfInBounds_toArray, List.set_cons_zero, List.set_cons_succ]
        refine wpAnyH_ready (rs := [9]) (by kernel_rfl) (by simp) (AllReadyH.cons rfl (fun K hK => ?_) AllReadyH.nil)
        go_simp
        refine (A2.out _).mono ?_
        rintro e w14 ⟨rfl, hB⟩
        replace M := M.below hB
        replace L := lies.on_call L hB
        refine hK.out _ _ M (fun hNew => ?_)
        clear hB
        clear hHeld hK K
        have hHeld := hNew
        clear hNew
        try simp only [Act.put, List.getElem_toArray, List.getElem_cons_zero, List.getElem_cons_succ, List.setIfInBounds_toArray, List.set_cons_zero, List.set_cons_succ]
        refine wpAnyH_ready (rs := [11]) (by kernel_rfl) (by simp) (AllReadyH.cons rfl (fun K hK => ?_) AllReadyH.nil)
        go_simp
        refine (B2.out _).mono ?_
        rintro e w15 ⟨rfl, hB⟩
        replace M := M.below hB
        replace L := lies.on_call L hB
        refine hK.out _ _ M (fun hNew => ?_)
        clear hB
        clear hHeld hK K
        have hHeld := hNew
        clear hNew
        try simp only [Act.put, List.getElem_toArray, List.getElem_cons_zero, List.getElem_cons_succ, List.setIfInBounds_toArray, List.set_cons_zero, List.set_cons_succ]
        refine wpAnyH_take (i := 12) (v := ?_) rfl (by kernel_rfl) (by kernel_rfl) (by kernel_rfl) (fun _ _ _ h => h) (Or.inl ⟨by rfl, ?_⟩) hHeld ?_
        rotate_left
        · intro w hSw; skip; go_simp; try with_reducible rfl
        try simp only [Act.put, List.getElem_toArray, List.getElem_cons_zero, List.getElem_cons_succ, List.setIfInBounds_toArray, List.set_cons_zero, List.set_cons_succ]
        obtain ⟨⟨c0, c1, c2, c3, c4, c5⟩, ⟨y0, y1, y2, y3, y4, y5⟩, xl⟩ := six_cells L
        refine wpAnyH_ready (rs := [14]) (by kernel_rfl) (by simp) (AllReadyH.cons rfl (fun K hK => ?_) AllReadyH.nil)
        go_simp
        replace M := M.far (put_six (Below.refl T w15) (Nat.le_refl T) (.int .i64 x0) (.int .i64 x1) (.int .i64 x2) (.int .i64 x3) (.int .i64 x4) (.int .i64 x5)) hT
        replace L := put_sixL L (.int .i64 x0) (.int .i64 x1) (.int .i64 x2) (.int .i64 x3) (.int .i64 x4) (.int .i64 x5)
        refine hK.out _ _ M (fun hNew => ?_)
        clear hHeld hK K hNew c0 c1 c2 c3 c4 c5 y0 y1 y2 y3 y4 y5 xl
        refine wpAnyH_done (by kernel_rfl) ?_ _
        exact TAIL _ _ M L hT
    · go_simp
      have hT := lies.lt M.2.2.2.1
      have L := lies.made w10 24 #[.int .i64 0, .int .i64 0, .int .i64 0, .int .i64 0, .int .i64 0, .int .i64 0]
      replace M := M.below (bound.up1 w10 (.cells #[.int .i64 0, .int .i64 0, .int .i64 0, .int .i64 0, .int .i64 0, .int .i64 0] 24))
      refine hK.out _ _ M (fun hNew => ?_)
      clear hHeld hK K
      have hHeld := hNew
      clear hNew
      try simp only [Act.put, List.getElem_toArray, List.getElem_cons_zero, List.getElem_cons_succ, List.setIfInBounds_toArray, List.set_cons_zero, List.set_cons_succ]
      generalize (World.heap w10).size = T at hT L ⊢
      generalize World.alloc w10 (.cells #[.int .i64 0, .int .i64 0, .int .i64 0, .int .i64 0, .int .i64 0, .int .i64 0] 24) = wA at M L hHeld ⊢
      refine wpAnyH_ready (rs := [3]) (by kernel_rfl) (by simp) (AllReadyH.cons rfl (fun K hK => ?_) AllReadyH.nil)
      go_simp
      refine (B0.out _).mono ?_
      rintro e w11 ⟨rfl, hB⟩
      replace M := M.below hB
      replace L := lies.on_call L hB
      refine hK.out _ _ M (fun hNew => ?_)
      clear hB
      clear hHeld hK K
      have hHeld := hNew
      clear hNew
      try simp only [Act.put, List.getElem_toArray, List.getElem_cons_zero, List.getElem_cons_succ, List.setIfInBounds_toArray, List.set_cons_zero, List.set_cons_succ]
      refine wpAnyH_ready (rs := [5]) (by kernel_rfl) (by simp) (AllReadyH.cons rfl (fun K hK => ?_) AllReadyH.nil)
      go_simp
      refine (A1.out _).mono ?_
      rintro e w12 ⟨rfl, hB⟩
      replace M := M.below hB
      replace L := lies.on_call L hB
      refine hK.out _ _ M (fun hNew => ?_)
      clear hB
      clear hHeld hK K
      have hHeld := hNew
      clear hNew
      try simp only [Act.put, List.getElem_toArray, List.getElem_cons_zero, List.getElem_cons_succ, List.setIfInBounds_toArray, List.set_cons_zero, List.set_cons_succ]
      refine wpAnyH_ready (rs := [7]) (by kernel_rfl) (by simp) (AllReadyH.cons rfl (fun K hK => ?_) AllReadyH.nil)
      go_simp
      refine (B1.out _).mono ?_
      rintro e w13 ⟨rfl, hB⟩
      replace M := M.below hB
      replace L := lies.on_call L hB
      refine hK.out _ _ M (fun hNew => ?_)
      clear hB
      clear hHeld hK K
      have hHeld := hNew
      clear hNew
      try simp only [Act.put, List.getElem_toArray, List.getElem_cons_zero, List.getElem_cons_succ, List.setIfInBounds_toArray, List.set_cons_zero, List.set_cons_succ]
      refine wpAnyH_ready (rs := [9]) (by kernel_rfl) (by simp) (AllReadyH.cons rfl (fun K hK => ?_) AllReadyH.nil)
      go_simp
      refine (A2.out _).mono ?_
      rintro e w14 ⟨rfl, hB⟩
      replace M := M.below hB
      replace L := lies.on_call L hB
      refine hK.out _ _ M (fun hNew => ?_)
      clear hB
      clear hHeld hK K
      have hHeld := hNew
      clear hNew
      try simp only [Act.put, List.getElem_toArray, List.getElem_cons_zero, List.getElem_cons_succ, List.setIfInBounds_toArray, List.set_cons_zero, List.set_cons_succ]
      refine wpAnyH_ready (rs := [11]) (by kernel_rfl) (by simp) (AllReadyH.cons rfl (fun K hK => ?_) AllReadyH.nil)
      go_simp
      refine (B2.out _).mono ?_
      rintro e w15 ⟨rfl, hB⟩
      replace M := M.below hB
      replace L := lies.on_call L hB
      refine hK.out _ _ M (fun hNew => ?_)
      clear hB
      clear hHeld hK K
      have hHeld := hNew
      clear hNew
      try simp only [Act.put, List.getElem_toArray, List.getElem_cons_zero, List.getElem_cons_succ, List.setIfInBounds_toArray, List.set_cons_zero, List.set_cons_succ]
      refine wpAnyH_take (i := 12) (v := ?_) rfl (by kernel_rfl) (by kernel_rfl) (by kernel_rfl) (fun _ _ _ h => h) (Or.inl ⟨by rfl, ?_⟩) hHeld ?_
      rotate_left
      · intro w hSw; skip; go_simp; try with_reducible rfl
      try simp only [Act.put, List.getElem_toArray, List.getElem_cons_zero, List.getElem_cons_succ, List.setIfInBounds_toArray, List.set_cons_zero, List.set_cons_succ]
      obtain ⟨⟨c0, c1, c2, c3, c4, c5⟩, ⟨y0, y1, y2, y3, y4, y5⟩, xl⟩ := six_cells L
      refine wpAnyH_ready (rs := [14]) (by kernel_rfl) (by simp) (AllReadyH.cons rfl (fun K hK => ?_) AllReadyH.nil)
      go_simp
      replace M := M.far (put_six (Below.refl T w15) (Nat.le_refl T) (.int .i64 x0) (.int .i64 x1) (.int .i64 x2) (.int .i64 x3) (.int .i64 x4) (.int .i64 x5)) hT
      replace L := put_sixL L (.int .i64 x0) (.int .i64 x1) (.int .i64 x2) (.int .i64 x3) (.int .i64 x4) (.int .i64 x5)
      refine hK.out _ _ M (fun hNew => ?_)
      clear hHeld hK K hNew c0 c1 c2 c3 c4 c5 y0 y1 y2 y3 y4 y5 xl
      refine wpAnyH_done (by kernel_rfl) ?_ _
      exact TAIL _ _ M L hT
  · go_simp
    have hT := lies.lt M.2.2.2.1
    have L := lies.made wD 24 #[.int .i64 0, .int .i64 0, .int .i64 0, .int .i64 0, .int .i64 0, .int .i64 0]
    replace M := M.below (bound.up1 wD (.cells #[.int .i64 0, .int .i64 0, .int .i64 0, .int .i64 0, .int .i64 0, .int .i64 0] 24))
    refine hK.out _ _ M (fun hNew => ?_)
    clear hHeld hK K
    have hHeld := hNew
    clear hNew
    try simp only [Act.put, List.getElem_toArray, List.getElem_cons_zero, List.getElem_cons_succ, List.setIfInBounds_toArray, List.set_cons_zero, List.set_cons_succ]
    generalize (World.heap wD).size = T at hT L ⊢
    generalize World.alloc wD (.cells #[.int .i64 0, .int .i64 0, .int .i64 0, .int .i64 0, .int .i64 0, .int .i64 0] 24) = wA at M L hHeld ⊢
    refine wpAnyH_ready (rs := [1]) (by kernel_rfl) (by simp) (AllReadyH.cons rfl (fun K hK => ?_) AllReadyH.nil)
    go_simp
    refine (A0.out _).mono ?_
    rintro e w10 ⟨rfl, hB⟩
    replace M := M.below hB
    replace L := lies.on_call L hB
    refine hK.out _ _ M (fun hNew => ?_)
    clear hB
    clear hHeld hK K
    have hHeld := hNew
    clear hNew
    try simp only [Act.put, List.getElem_toArray, List.getElem_cons_zero, List.getElem_cons_succ, List.setIfInBounds_toArray, List.set_cons_zero, List.set_cons_succ]
    refine wpAnyH_ready (rs := [3]) (by kernel_rfl) (by simp) (AllReadyH.cons rfl (fun K hK => ?_) AllReadyH.nil)
    go_simp
    refine (B0.out _).mono ?_
    rintro e w11 ⟨rfl, hB⟩
    replace M := M.below hB
    replace L := lies.on_call L hB
    refine hK.out _ _ M (fun hNew => ?_)
    clear hB
    clear hHeld hK K
    have hHeld := hNew
    clear hNew
    try simp only [Act.put, List.getElem_toArray, List.getElem_cons_zero, List.getElem_cons_succ, List.setIfInBounds_toArray, List.set_cons_zero, List.set_cons_succ]
    refine wpAnyH_ready (rs := [5]) (by kernel_rfl) (by simp) (AllReadyH.cons rfl (fun K hK => ?_) AllReadyH.nil)
    go_simp
    refine (A1.out _).mono ?_
    rintro e w12 ⟨rfl, hB⟩
    replace M := M.below hB
    replace L := lies.on_call L hB
    refine hK.out _ _ M (fun hNew => ?_)
    clear hB
    clear hHeld hK K
    have hHeld := hNew
    clear hNew
    try simp only [Act.put, List.getElem_toArray, List.getElem_cons_zero, List.getElem_cons_succ, List.setIfInBounds_toArray, List.set_cons_zero, List.set_cons_succ]
    refine wpAnyH_ready (rs := [7]) (by kernel_rfl) (by simp) (AllReadyH.cons rfl (fun K hK => ?_) AllReadyH.nil)
    go_simp
    refine (B1.out _).mono ?_
    rintro e w13 ⟨rfl, hB⟩
    replace M := M.below hB
    replace L := lies.on_call L hB
    refine hK.out _ _ M (fun hNew => ?_)
    clear hB
    clear hHeld hK K
    have hHeld := hNew
    clear hNew
    try simp only [Act.put, List.getElem_toArray, List.getElem_cons_zero, List.getElem_cons_succ, List.setIfInBounds_toArray, List.set_cons_zero, List.set_cons_succ]
    refine wpAnyH_ready (rs := [9]) (by kernel_rfl) (by simp) (AllReadyH.cons rfl (fun K hK => ?_) AllReadyH.nil)
    go_simp
    refine (A2.out _).mono ?_
    rintro e w14 ⟨rfl, hB⟩
    replace M := M.below hB
    replace L := lies.on_call L hB
    refine hK.out _ _ M (fun hNew => ?_)
    clear hB
    clear hHeld hK K
    have hHeld := hNew
    clear hNew
    try simp only [Act.put, List.getElem_toArray, List.getElem_cons_zero, List.getElem_cons_succ, List.setIfInBounds_toArray, List.set_cons_zero, List.set_cons_succ]
    refine wpAnyH_ready (rs := [11]) (by kernel_rfl) (by simp) (AllReadyH.cons rfl (fun K hK => ?_) AllReadyH.nil)
    go_simp
    refine (B2.out _).mono ?_
    rintro e w15 ⟨rfl, hB⟩
    replace M := M.below hB
    replace L := lies.on_call L hB
    refine hK.out _ _ M (fun hNew => ?_)
    clear hB
    clear hHeld hK K
    have hHeld := hNew
    clear hNew
    try simp only [Act.put, List.getElem_toArray, List.getElem_cons_zero, List.getElem_cons_succ, List.setIfInBounds_toArray, List.set_cons_zero, List.set_cons_succ]
    refine wpAnyH_take (i := 12) (v := ?_) rfl (by kernel_rfl) (by kernel_rfl) (by kernel_rfl) (fun _ _ _ h => h) (Or.inl ⟨by rfl, ?_⟩) hHeld ?_
    rotate_left
    · intro w hSw; skip; go_simp; try with_reducible rfl
    try simp only [Act.put, List.getElem_toArray, List.getElem_cons_zero, List.getElem_cons_succ, List.setIfInBounds_toArray, List.set_cons_zero, List.set_cons_succ]
    obtain ⟨⟨c0, c1, c2, c3, c4, c5⟩, ⟨y0, y1, y2, y3, y4, y5⟩, xl⟩ := six_cells L
    refine wpAnyH_ready (rs := [14]) (by kernel_rfl) (by simp) (AllReadyH.cons rfl (fun K hK => ?_) AllReadyH.nil)
    go_simp
    replace M := M.far (put_six (Below.refl T w15) (Nat.le_refl T) (.int .i64 x0) (.int .i64 x1) (.int .i64 x2) (.int .i64 x3) (.int .i64 x4) (.int .i64 x5)) hT
    replace L := put_sixL L (.int .i64 x0) (.int .i64 x1) (.int .i64 x2) (.int .i64 x3) (.int .i64 x4) (.int .i64 x5)
    refine hK.out _ _ M (fun hNew => ?_)
    clear hHeld hK K hNew c0 c1 c2 c3 c4 c5 y0 y1 y2 y3 y4 y5 xl
    refine wpAnyH_done (by kernel_rfl) ?_ _
    exact TAIL _ _ M L hT
end Go.Proofs.YtklejbheieceeaaDoor.zref
