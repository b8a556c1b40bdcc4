/-
  Firsts in one form; each theorem names its conditions.
-/
import Derived.Test.YtngjkebmilpemaaDoorCompC
import Derived.Test.YtngjkebmilpemaaDoorZoneF
namespace Go.Proofs.YtngjkebmilpemaaDoor.comp
open Go.Joins Go.ChangeShapes Go.WideShapes Go.ChangeAt Go.RowKit num rat dbm Go.Proofs.YtngjkebmilpemaaDoor.tight Go.Proofs.YtngjkebmilpemaaDoor.plaw Go.Proofs.YtngjkebmilpemaaDoor.zopen Go.Proofs.YtngjkebmilpemaaDoor.zone
open bound hiding up
open proj (dropT dropT_own drop_any Gv DropR Kc No)
set_option linter.unusedVariables false
set_option linter.unusedSimpArgs false


/-! firsts -/
theorem number_is (x : Int) (w : World) (h1 : -9223372036854775808 ≤ x) (h2 : x ≤ 9223372036854775807) : Calls Tryd.prog 37 #[.int .i64 x] w fun e w' => e = .returned (.int .i64 (x / 2)) ∧ w = w' := by
  go_enter Tryd.func37, Tryd.ntmps37
  go_wp2
  go_ret
  exact ⟨rfl, rfl⟩
theorem strict_is (x : Int) (w : World) (h1 : -9223372036854775808 ≤ x) (h2 : x ≤ 9223372036854775807) : Calls Tryd.prog 38 #[.int .i64 x] w fun e w' => e = .returned (.bool (bS x)) ∧ w = w' := by
  have hq := bits_one x h1 h2
  unfold bS
  by_cases hb : x % 2 = 0
  · rw [decide_eq_true hb]
    rw [hb] at hq
    clear hb
    go_enter Tryd.func38, Tryd.ntmps38
    go_wp2
    go_ret
    exact ⟨rfl, rfl⟩
  · rw [decide_eq_false hb]
    rw [show x % 2 = 1 by omega] at hq
    clear hb
    go_enter Tryd.func38, Tryd.ntmps38
    go_wp2
    go_ret
    exact ⟨rfl, rfl⟩
def FirR (a : List Int) (s : Sp) (f : Int) : Prop := (¬ MayZ a ∧ s = (0, false, 0, false, false) ∧ f = 8) ∨ (MayZ a ∧ a[1]?.getD 0 = 9223372036854775807 ∧ s = (0, false, 0, false, false) ∧ f = 6) ∨
  (MayZ a ∧ a[1]?.getD 0 ≠ 9223372036854775807 ∧ a[0]?.getD 0 = 9223372036854775807 ∧ s = (-(a[1]?.getD 0 / 2), bS (a[1]?.getD 0), 0, false, true) ∧ f = 0) ∨
  (MayZ a ∧ a[1]?.getD 0 ≠ 9223372036854775807 ∧ a[0]?.getD 0 ≠ 9223372036854775807 ∧ s = (-(a[1]?.getD 0 / 2), bS (a[1]?.getD 0), a[0]?.getD 0 / 2, bS (a[0]?.getD 0), false) ∧ f = 0)
def Firs (a : List Int) (w : World) (e : Ending) (w' : World) : Prop := Below w.heap.size w w' ∧ ∃ (lo : Int) (ls : Bool) (hi : Int) (hs op : Bool) (f : Int), e = .returned (.tuple #[.agg #[.int .i64 lo, .bool ls, .int .i64 hi, .bool hs, .bool op], .int .i64 f]) ∧ FirR a (lo, ls, hi, hs, op) f
theorem five_cells {W : World} {g : Nat} {t : TypeId} {a b c d e : Value} (h : lies.Lies W g t #[a, b, c, d, e]) : (W.cell? ⟨g, 0, none⟩ = some a ∧ W.cell? ⟨g, 1, none⟩ = some b ∧ W.cell? ⟨g, 2, none⟩ = some c ∧ W.cell? ⟨g, 3, none⟩ = some d ∧ W.cell? ⟨g, 4, none⟩ = some e) ∧ (W.frozen? ⟨g, 0, none⟩ = false ∧ W.frozen? ⟨g, 1, none⟩ = false ∧ W.frozen? ⟨g, 2, none⟩ = false ∧ W.frozen? ⟨g, 3, none⟩ = false ∧ W.frozen? ⟨g, 4, none⟩ = false) ∧ g < W.heap.size :=
  ⟨⟨lies.cell h 0, lies.cell h 1, lies.cell h 2, lies.cell h 3, lies.cell h 4⟩, ⟨lies.free h 0, lies.free h 1, lies.free h 2, lies.free h 3, lies.free h 4⟩, lies.lt h⟩
theorem put_five {B g : Nat} {w W : World} (h : Below B w W) (hB : B ≤ g) (a b c d e : Value) : Below B w (((((W.setCell ⟨g, 0, none⟩ a).setCell ⟨g, 1, none⟩ b).setCell ⟨g, 2, none⟩ c).setCell ⟨g, 3, none⟩ d).setCell ⟨g, 4, none⟩ e) :=
  ((((h.setCell (p := ⟨g, 0, none⟩) hB _).setCell (p := ⟨g, 1, none⟩) hB _).setCell (p := ⟨g, 2, none⟩) hB _).setCell (p := ⟨g, 3, none⟩) hB _).setCell (p := ⟨g, 4, none⟩) hB _

set_option maxRecDepth 100000 in
set_option maxHeartbeats 8000000 in
theorem firsts_any (a0 a1 a2 a3 a4 a5 : Int) (w : World) (hP : Pl w) (ta : Tops [a0, a1, a2, a3, a4, a5]) :
    Calls Tryd.prog 13 #[.agg #[.int .i64 a0, .int .i64 a1, .int .i64 a2, .int .i64 a3, .int .i64 a4, .int .i64 a5]] w (Firs [a0, a1, a2, a3, a4, a5] w) := by
  have X : ∃ w0, w0 = (w.alloc (.cells #[.int .i64 a0, .int .i64 a1, .int .i64 a2, .int .i64 a3, .int .i64 a4, .int .i64 a5] 24)).alloc (.cells #[.int .i64 0, .bool false, .int .i64 0, .bool false, .bool false] 27) := ⟨_, rfl⟩
  obtain ⟨w0, hX⟩ := X
  have DB : Below w.heap.size w w0 := by rw [hX]; exact bound.up2 _ _ _
  have D0 : lies.Lies w0 w.heap.size 24 #[.int .i64 a0, .int .i64 a1, .int .i64 a2, .int .i64 a3, .int .i64 a4, .int .i64 a5] := by rw [hX]; exact lies.on_alloc (lies.made _ _ _) _
  have D1 : lies.Lies w0 (w.heap.size + 1) 27 #[.int .i64 0, .bool false, .int .i64 0, .bool false, .bool false] := by rw [hX]; exact lies.made_at _ _ _ _ (by simp)
  have P0 := hP.on DB
  have HTA := Lib.hid ta
  have hR : w.heap.size ≤ w.heap.size + 1 := by omega
  clear hP ta
  go_enter Tryd.func13, Tryd.ntmps13
  obtain ⟨⟨e0, e1, e2, e3, e4, e5⟩, -⟩ := six_cells D0
  have el := lies.lt D0
  go_wp2_with fail
  clear e0 e1 e2 e3 e4 e5 el
  rw [← hX]
  clear hX
  refine (zone.check_any a0 a1 a2 a3 a4 a5 w0 P0 HTA.out).mono ?_
  rintro e w1 ⟨hB, f, rfl, hc⟩
  replace D0 := lies.on_call D0 hB
  replace D1 := lies.on_call D1 hB
  replace DB := later DB hB
  clear hB P0
  rcases hc with ⟨hma, rfl⟩ | ⟨hma, rfl⟩
  · have HA := Lib.hid hma
    have fa := six_fine hma.may
    have r0 : -9223372036854775808 ≤ a0 ∧ a0 ≤ 9223372036854775807 := by rcases fa 0 (by decide) with h | h <;> (simp at h; omega)
    have r1 : -9223372036854775808 ≤ a1 ∧ a1 ≤ 9223372036854775807 ∧ (a1 ≠ 9223372036854775807 → -288230376151711744 ≤ a1 / 2 ∧ a1 / 2 ≤ 288230376151711744) := by rcases fa 1 (by decide) with h | h <;> (simp at h; omega)
    clear hma fa
    obtain ⟨⟨e0, e1, e2, e3, e4, e5⟩, ⟨f0, f1, f2, f3, f4, f5⟩, el⟩ := six_cells D0
    obtain ⟨⟨x0, x1, x2, x3, x4⟩, ⟨y0, y1, y2, y3, y4⟩, xl⟩ := five_cells D1
    go_wp2_with fail
    clear x0 x1 x2 x3 x4 y0 y1 y2 y3 y4 xl e0 e1 e2 e3 e4 e5 f0 f1 f2 f3 f4 f5
    have S0 : w1.drew.cell? ⟨w.heap.size, 0, none⟩ = some (.int .i64 a0) ∧ w1.drew.cell? ⟨w.heap.size, 1, none⟩ = some (.int .i64 a1) := by
      obtain ⟨⟨e0, e1, _⟩, _⟩ := six_cells (lies.on_call D0 (dbm.drawn1 (Below.refl w1.heap.size w1)))
      exact ⟨e0, e1⟩
    refine wp_region_held_drew (S := fun W => W.cell? ⟨w.heap.size, 0, none⟩ = some (.int .i64 a0) ∧ W.cell? ⟨w.heap.size, 1, none⟩ = some (.int .i64 a1)) (by kernel_rfl) S0 (fun hHeld => ?_)
    refine wpAnyH_take (i := 0) (v := ?_) rfl (by kernel_rfl) (by kernel_rfl) (by kernel_rfl) (fun _ _ _ h => h) (Or.inl ⟨by rfl, ?_⟩) hHeld ?_
    rotate_left
    · intro w hSw; obtain ⟨s0, s1⟩ := hSw; go_simp; try with_reducible rfl
    try simp only [Act.put, List.getElem_toArray, List.getElem_cons_zero, List.getElem_cons_succ, List.setIfInBounds_toArray, List.set_cons_zero, List.set_cons_succ]
    refine wpAnyH_take (i := 1) (v := ?_) rfl (by kernel_rfl) (by kernel_rfl) (by kernel_rfl) (fun _ _ _ h => h) (Or.inl ⟨by rfl, ?_⟩) hHeld ?_
    rotate_left
    · intro w hSw; obtain ⟨s0, s1⟩ := hSw; go_simp; try with_reducible rfl
    try simp only [Act.put, List.getElem_toArray, List.getElem_cons_zero, List.getElem_cons_succ, List.setIfInBounds_toArray, List.set_cons_zero, List.set_cons_succ]
    refine wpAnyH_take (i := 2) (v := ?_) rfl (by kernel_rfl) (by kernel_rfl) (by kernel_rfl) (fun _ _ _ h => h) (Or.inl ⟨by rfl, ?_⟩) hHeld ?_
    rotate_left
    · intro w hSw; obtain ⟨s0, s1⟩ := hSw; go_simp; try with_reducible rfl
    try simp only [Act.put, List.getElem_toArray, List.getElem_cons_zero, List.getElem_cons_succ, List.setIfInBounds_toArray, List.set_cons_zero, List.set_cons_succ]
    refine wpAnyH_take (i := 3) (v := ?_) rfl (by kernel_rfl) (by kernel_rfl) (by kernel_rfl) (fun _ _ _ h => h) (Or.inl ⟨by rfl, ?_⟩) hHeld ?_
    rotate_left
    · intro w hSw; obtain ⟨s0, s1⟩ := hSw; go_simp; try with_reducible rfl
    try simp only [Act.put, List.getElem_toArray, List.getElem_cons_zero, List.getElem_cons_succ, List.setIfInBounds_toArray, List.set_cons_zero, List.set_cons_succ]
    refine wpAnyH_take (i := 4) (v := ?_) rfl (by kernel_rfl) (by kernel_rfl) (by kernel_rfl) (fun _ _ _ h => h) (Or.inl ⟨by rfl, ?_⟩) hHeld ?_
    rotate_left
    · intro w hSw; obtain ⟨s0, s1⟩ := hSw; go_simp; try with_reducible rfl
    try simp only [Act.put, List.getElem_toArray, List.getElem_cons_zero, List.getElem_cons_succ, List.setIfInBounds_toArray, List.set_cons_zero, List.set_cons_succ]
    refine wpAnyH_take (i := 5) (v := ?_) rfl (by kernel_rfl) (by kernel_rfl) (by kernel_rfl) (fun _ _ _ h => h) (Or.inl ⟨by rfl, ?_⟩) hHeld ?_
    rotate_left
    · intro w hSw; obtain ⟨s0, s1⟩ := hSw; go_simp; try with_reducible rfl
    try simp only [Act.put, List.getElem_toArray, List.getElem_cons_zero, List.getElem_cons_succ, List.setIfInBounds_toArray, List.set_cons_zero, List.set_cons_succ]
    refine wpAnyH_done (by kernel_rfl) ?_ _
    clear hHeld S0
    replace DB := later DB (dbm.drawn1 (Below.refl w1.heap.size w1))
    replace D1 := lies.on_call D1 (dbm.drawn1 (Below.refl w1.heap.size w1))
    clear D0 el
    generalize w1.drew = w2 at D1 DB ⊢
    by_cases c1 : a1 = 9223372036854775807
    · have HC1 := Lib.hid c1
      subst c1
      obtain ⟨⟨x0, x1, x2, x3, x4⟩, ⟨y0, y1, y2, y3, y4⟩, xl⟩ := five_cells D1
      clear D1
      go_wp2_with fail
      exact bodyPost_ret (v := .tuple #[.agg #[.int .i64 0, .bool false, .int .i64 0, .bool false, .bool false], .int .i64 6]) (by simp [results, Tryd.results13, go_sem, x0, x1, x2, x3, x4, xl]) rfl ⟨put_five DB hR _ _ _ _ _, 0, false, 0, false, false, 6, rfl, .inr (.inl ⟨HA.out, rfl, rfl, rfl⟩)⟩
    · obtain ⟨q1, q2⟩ := r1.2.2 c1
      have HC1 := Lib.hid c1
      have hbn : (a1 == 9223372036854775807) = false := by simpa using c1
      clear c1
      go_wp2_with fail
      refine (number_is a1 w2 r1.1 r1.2.1).mono ?_
      rintro e w' ⟨rfl, rfl⟩
      go_wp2_with fail
      refine (strict_is a1 w2 r1.1 r1.2.1).mono ?_
      rintro e w' ⟨rfl, rfl⟩
      generalize hs1 : bS a1 = s1
      have HS1 := Lib.hid hs1
      clear hs1
      by_cases c0 : a0 = 9223372036854775807
      · have HC0 := Lib.hid c0
        subst c0
        obtain ⟨⟨x0, x1, x2, x3, x4⟩, ⟨y0, y1, y2, y3, y4⟩, xl⟩ := five_cells D1
        clear D1
        go_wp2_with fail
        exact bodyPost_ret (v := .tuple #[.agg #[.int .i64 (-(a1 / 2)), .bool s1, .int .i64 0, .bool false, .bool true], .int .i64 0]) (by simp [results, Tryd.results13, go_sem, x0, x1, x2, x3, x4, xl]) rfl ⟨lies.frame_up (put_five DB hR _ _ _ _ _) _, -(a1 / 2), s1, 0, false, true, 0, rfl, .inr (.inr (.inl ⟨HA.out, HC1.out, rfl, by rw [← HS1.out]; rfl, rfl⟩))⟩
      · have HC0 := Lib.hid c0
        have hbn0 : (a0 == 9223372036854775807) = false := by simpa using c0
        clear c0
        go_wp2_with fail
        refine (number_is a0 _ r0.1 r0.2).mono ?_
        rintro e w' ⟨rfl, rfl⟩
        go_wp2_with fail
        refine (strict_is a0 _ r0.1 r0.2).mono ?_
        rintro e w' ⟨rfl, rfl⟩
        generalize hs0 : bS a0 = s0
        have HS0 := Lib.hid hs0
        clear hs0
        obtain ⟨⟨x0, x1, x2, x3, x4⟩, ⟨y0, y1, y2, y3, y4⟩, xl⟩ := five_cells D1
        clear D1
        go_wp2_with fail
        exact bodyPost_ret (v := .tuple #[.agg #[.int .i64 (-(a1 / 2)), .bool s1, .int .i64 (a0 / 2), .bool s0, .bool false], .int .i64 0]) (by simp [results, Tryd.results13, go_sem, x0, x1, x2, x3, x4, xl]) rfl ⟨lies.frame_up (put_five DB hR _ _ _ _ _) _, -(a1 / 2), s1, a0 / 2, s0, false, 0, rfl, .inr (.inr (.inr ⟨HA.out, HC1.out, HC0.out, by rw [← HS1.out, ← HS0.out]; rfl, rfl⟩))⟩
  · have HA := Lib.hid hma
    clear hma D0
    obtain ⟨⟨x0, x1, x2, x3, x4⟩, ⟨y0, y1, y2, y3, y4⟩, xl⟩ := five_cells D1
    clear D1
    go_wp2_with fail
    exact bodyPost_ret (v := .tuple #[.agg #[.int .i64 0, .bool false, .int .i64 0, .bool false, .bool false], .int .i64 8]) (by simp [results, Tryd.results13, go_sem, x0, x1, x2, x3, x4, xl]) rfl ⟨put_five DB hR _ _ _ _ _, 0, false, 0, false, false, 8, rfl, .inl ⟨HA.out, rfl, rfl⟩⟩

end Go.Proofs.YtngjkebmilpemaaDoor.comp
