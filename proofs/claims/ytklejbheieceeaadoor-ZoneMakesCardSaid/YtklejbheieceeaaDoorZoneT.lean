/-
  The document's own Make: three spans asked, then their zone; each theorem names its conditions.
-/
import Derived.Test.YtklejbheieceeaaDoorZoneS
namespace Go.Proofs.YtklejbheieceeaaDoor.zref
open Go.Joins Go.ChangeShapes Go.WideShapes Go.ChangeAt Go.RowKit num rat dbm Go.Proofs.YtklejbheieceeaaDoor.tight Go.Proofs.YtklejbheieceeaaDoor.incl Go.Proofs.YtklejbheieceeaaDoor.plaw Go.Proofs.YtklejbheieceeaaDoor.zopen Go.Proofs.YtklejbheieceeaaDoor.zone dref
open bound hiding up
set_option linter.unusedVariables false
set_option linter.unusedSimpArgs false

/-- what Made answers of spans that may be is what Make answers. -/
theorem make_of {s t d : Sp} {w w' : World} {e : Ending} (h : MayP s) (k : MayP t) (l : MayP d) (ho : Ofs 3 (fullT (spanZ s t d)) w e w') : Makes s t d w e w' := by
  obtain ⟨hB, z0, z1, z2, z3, z4, z5, f, rfl, hR⟩ := ho
  exact ⟨hB, z0, z1, z2, z3, z4, z5, f, rfl, of_spans h k l hR⟩

set_option maxRecDepth 100000 in
set_option maxHeartbeats 8000000 in
theorem make_is (lo0 : Int) (ls0 : Bool) (hi0 : Int) (hs0 op0 : Bool) (lo1 : Int) (ls1 : Bool) (hi1 : Int) (hs1 op1 : Bool) (lo2 : Int) (ls2 : Bool) (hi2 : Int) (hs2 op2 : Bool) (w : World) :
    Calls Tryd.prog 19 #[.agg #[.int .i64 lo0, .bool ls0, .int .i64 hi0, .bool hs0, .bool op0], .agg #[.int .i64 lo1, .bool ls1, .int .i64 hi1, .bool hs1, .bool op1], .agg #[.int .i64 lo2, .bool ls2, .int .i64 hi2, .bool hs2, .bool op2]] w (Makes (lo0, ls0, hi0, hs0, op0) (lo1, ls1, hi1, hs1, op1) (lo2, ls2, hi2, hs2, op2) w) := by
  have X : ∃ w0, w0 = (((w.alloc (.cells #[.int .i64 lo0, .bool ls0, .int .i64 hi0, .bool hs0, .bool op0] 37)).alloc (.cells #[.int .i64 lo1, .bool ls1, .int .i64 hi1, .bool hs1, .bool op1] 37)).alloc (.cells #[.int .i64 lo2, .bool ls2, .int .i64 hi2, .bool hs2, .bool op2] 37)).alloc (.cells #[.int .i64 0, .int .i64 0, .int .i64 0, .int .i64 0, .int .i64 0, .int .i64 0] 24) := ⟨_, rfl⟩
  obtain ⟨w0, hX⟩ := X
  have M : Mx lo0 ls0 hi0 hs0 op0 lo1 ls1 hi1 hs1 op1 lo2 ls2 hi2 hs2 op2 w w0 := by
    refine ⟨?_, ?_, ?_, ?_, ?_⟩
    · rw [hX]; exact lies.on_alloc (lies.on_alloc (lies.on_alloc (lies.made _ _ _) _) _) _
    · rw [hX]; exact lies.on_alloc (lies.on_alloc (lies.made_at _ _ _ _ (by simp)) _) _
    · rw [hX]; exact lies.on_alloc (lies.made_at _ _ _ _ (by simp)) _
    · rw [hX]; exact lies.made_at _ _ _ _ (by simp)
    · rw [hX]; exact lies.frame_up (bound.up3 _ _ _ _) _
  have hRw : w.heap.size ≤ w.heap.size + 1 + 1 + 1 := by omega
  have BAD : ∀ W : World, Mx lo0 ls0 hi0 hs0 op0 lo1 ls1 hi1 hs1 op1 lo2 ls2 hi2 hs2 op2 w W → ¬ (MayP (lo0, ls0, hi0, hs0, op0) ∧ MayP (lo1, ls1, hi1, hs1, op1) ∧ MayP (lo2, ls2, hi2, hs2, op2)) → Makes (lo0, ls0, hi0, hs0, op0) (lo1, ls1, hi1, hs1, op1) (lo2, ls2, hi2, hs2, op2) w (.returned (.tuple #[.agg #[.int .i64 0, .int .i64 0, .int .i64 0, .int .i64 0, .int .i64 0, .int .i64 0], .int .i64 8])) ((((((W.setCell ⟨w.heap.size + 1 + 1 + 1, 0, none⟩ (.int .i64 0)).setCell ⟨w.heap.size + 1 + 1 + 1, 1, none⟩ (.int .i64 0)).setCell ⟨w.heap.size + 1 + 1 + 1, 2, none⟩ (.int .i64 0)).setCell ⟨w.heap.size + 1 + 1 + 1, 3, none⟩ (.int .i64 0)).setCell ⟨w.heap.size + 1 + 1 + 1, 4, none⟩ (.int .i64 0)).setCell ⟨w.heap.size + 1 + 1 + 1, 5, none⟩ (.int .i64 0)) :=
    fun W M h => ⟨put_six M.2.2.2.2 hRw _ _ _ _ _ _, 0, 0, 0, 0, 0, 0, 8, rfl, .inl ⟨h, rfl, rfl⟩⟩
  have HBAD := Lib.hid BAD
  clear BAD
  go_enter Tryd.func19, Tryd.ntmps19
  go_wp2_with fail
  rw [← hX]
  clear hX
  obtain ⟨s0, s1, s2, s3, s4⟩ := span_five M.1
  go_wp2_with fail
  clear s0 s1 s2 s3 s4
  by_cases h0 : MayP (lo0, ls0, hi0, hs0, op0)
  · refine (tref.span_yes h0 ls0 _).mono ?_
    rintro e w1 ⟨rfl, hB⟩
    replace M := M.below hB
    have H0 := Lib.hid h0
    clear hB h0
    obtain ⟨s0, s1, s2, s3, s4⟩ := span_five M.2.1
    go_wp2_with fail
    clear s0 s1 s2 s3 s4
    by_cases h1 : MayP (lo1, ls1, hi1, hs1, op1)
    · refine (tref.span_yes h1 ls1 _).mono ?_
      rintro e w2 ⟨rfl, hB⟩
      replace M := M.below hB
      have H1 := Lib.hid h1
      clear hB h1
      obtain ⟨s0, s1, s2, s3, s4⟩ := span_five M.2.2.1
      go_wp2_with fail
      clear s0 s1 s2 s3 s4
      by_cases h2 : MayP (lo2, ls2, hi2, hs2, op2)
      · refine (tref.span_yes h2 ls2 _).mono ?_
        rintro e w3 ⟨rfl, hB⟩
        replace M := M.below hB
        have H2 := Lib.hid h2
        clear hB h2
        obtain ⟨s0, s1, s2, s3, s4⟩ := span_five M.1
        obtain ⟨t0, t1, t2, t3, t4⟩ := span_five M.2.1
        obtain ⟨u0, u1, u2, u3, u4⟩ := span_five M.2.2.1
        go_wp2_with fail
        clear s0 s1 s2 s3 s4 t0 t1 t2 t3 t4 u0 u1 u2 u3 u4
        refine (made_is lo0 ls0 hi0 hs0 op0 lo1 ls1 hi1 hs1 op1 lo2 ls2 hi2 hs2 op2 _ H0.out H1.out H2.out).mono ?_
        intro e w4 hO
        obtain ⟨hB, v0, v1, v2, v3, v4, v5, f, rfl, hR⟩ := hO
        replace M := M.below hB
        have HR := Lib.hid (of_spans H0.out H1.out H2.out hR)
        clear hR hB
        obtain ⟨⟨c0, c1, c2, c3, c4, c5⟩, ⟨y0, y1, y2, y3, y4, y5⟩, xl⟩ := six_cells M.2.2.2.1
        have hBB := M.2.2.2.2
        clear M
        go_wp2_with fail
        exact bodyPost_ret (v := .tuple #[.agg #[.int .i64 v0, .int .i64 v1, .int .i64 v2, .int .i64 v3, .int .i64 v4, .int .i64 v5], .int .i64 f]) (by simp [results, Tryd.results19, go_sem, c0, c1, c2, c3, c4, c5, xl]) rfl ⟨put_six hBB hRw _ _ _ _ _ _, v0, v1, v2, v3, v4, v5, f, rfl, HR.out⟩
      · refine (tref.span_no h2 ls2 _).mono ?_
        rintro e w3 ⟨rfl, hB⟩
        replace M := M.below hB
        have HN := Lib.hid (HBAD.out _ M (fun k => h2 k.2.2))
        clear hB h2
        obtain ⟨⟨c0, c1, c2, c3, c4, c5⟩, ⟨y0, y1, y2, y3, y4, y5⟩, xl⟩ := six_cells M.2.2.2.1
        clear M
        go_wp2_with fail
        exact bodyPost_ret (v := .tuple #[.agg #[.int .i64 0, .int .i64 0, .int .i64 0, .int .i64 0, .int .i64 0, .int .i64 0], .int .i64 8]) (by simp [results, Tryd.results19, go_sem, c0, c1, c2, c3, c4, c5, xl]) rfl HN.out
    · refine (tref.span_no h1 ls1 _).mono ?_
      rintro e w2 ⟨rfl, hB⟩
      replace M := M.below hB
      have HN := Lib.hid (HBAD.out _ M (fun k => h1 k.2.1))
      clear hB h1
      obtain ⟨⟨c0, c1, c2, c3, c4, c5⟩, ⟨y0, y1, y2, y3, y4, y5⟩, xl⟩ := six_cells M.2.2.2.1
      clear M
      go_wp2_with fail
      exact bodyPost_ret (v := .tuple #[.agg #[.int .i64 0, .int .i64 0, .int .i64 0, .int .i64 0, .int .i64 0, .int .i64 0], .int .i64 8]) (by simp [results, Tryd.results19, go_sem, c0, c1, c2, c3, c4, c5, xl]) rfl HN.out
  · refine (tref.span_no h0 ls0 _).mono ?_
    rintro e w1 ⟨rfl, hB⟩
    replace M := M.below hB
    have HN := Lib.hid (HBAD.out _ M (fun k => h0 k.1))
    clear hB h0
    obtain ⟨⟨c0, c1, c2, c3, c4, c5⟩, ⟨y0, y1, y2, y3, y4, y5⟩, xl⟩ := six_cells M.2.2.2.1
    clear M
    go_wp2_with fail
    exact bodyPost_ret (v := .tuple #[.agg #[.int .i64 0, .int .i64 0, .int .i64 0, .int .i64 0, .int .i64 0, .int .i64 0], .int .i64 8]) (by simp [results, Tryd.results19, go_sem, c0, c1, c2, c3, c4, c5, xl]) rfl HN.out
end Go.Proofs.YtklejbheieceeaaDoor.zref
