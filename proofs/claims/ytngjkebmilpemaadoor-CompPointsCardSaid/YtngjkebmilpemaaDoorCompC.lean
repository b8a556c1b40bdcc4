/-
  Comp and Back, each in one form; each theorem names its conditions.
-/
import Derived.Test.YtngjkebmilpemaaDoorCompB
import Derived.Test.YtngjkebmilpemaaDoorZoneF
namespace Go.Proofs.YtngjkebmilpemaaDoor.comp
open Go.Joins Go.ChangeShapes Go.WideShapes Go.ChangeAt Go.RowKit num rat dbm Go.Proofs.YtngjkebmilpemaaDoor.tight Go.Proofs.YtngjkebmilpemaaDoor.plaw Go.Proofs.YtngjkebmilpemaaDoor.zopen Go.Proofs.YtngjkebmilpemaaDoor.zone
open bound hiding up
open proj (dropT dropT_own drop_any Gv DropR Kc No)
set_option linter.unusedVariables false
set_option linter.unusedSimpArgs false

def top4 : List Int := [1, 9223372036854775807, 9223372036854775807, 9223372036854775807, 9223372036854775807, 1, 9223372036854775807, 9223372036854775807, 9223372036854775807, 9223372036854775807, 1, 9223372036854775807, 9223372036854775807, 9223372036854775807, 9223372036854775807, 1]
theorem top4_is (w : World) : Calls Tryd.prog 29 #[.int .i64 4] w fun e w' => Below w.heap.size w w' ∧ ∃ g, w.heap.size ≤ g ∧ e = .returned (.tuple #[.agg #[.int .i64 4, .slice (some ⟨g, 0, none⟩) 16 16], .int .i64 0]) ∧ lies.Lies w' g 22 (cellsOf top4) := by
  refine (top_ok 4 w (by decide) (by decide)).mono fun e w' h => ?_
  obtain ⟨hB, g, hg, he, hL⟩ := h
  have e1 : topT 4 (by decide) = top4 := by decide +kernel
  rw [e1] at hL
  exact ⟨hB, g, hg, he, hL⟩
theorem put_both {a b : List Int} (la : a.length = 6) (lb : b.length = 6) (ta : Tops a) (tb : Tops b) : putK b (fun i => [0, 2, 3][i]?.getD 0) (putK a (fun i => [0, 1, 2][i]?.getD 0) top4 9) 9 = bothT a b := by
  have ha := fun i => get_top ta i
  have hb := fun i => get_top tb i
  obtain ⟨a0, a1, a2, a3, a4, a5, rfl⟩ := six la
  obtain ⟨b0, b1, b2, b3, b4, b5, rfl⟩ := six lb
  have p0 : a0 ≤ 9223372036854775807 := ha 0
  have p1 : a1 ≤ 9223372036854775807 := ha 1
  have p2 : a2 ≤ 9223372036854775807 := ha 2
  have p3 : a3 ≤ 9223372036854775807 := ha 3
  have p4 : a4 ≤ 9223372036854775807 := ha 4
  have p5 : a5 ≤ 9223372036854775807 := ha 5
  have q0 : b0 ≤ 9223372036854775807 := hb 0
  have q1 : b1 ≤ 9223372036854775807 := hb 1
  have q2 : b2 ≤ 9223372036854775807 := hb 2
  have q3 : b3 ≤ 9223372036854775807 := hb 3
  have q4 : b4 ≤ 9223372036854775807 := hb 4
  have q5 : b5 ≤ 9223372036854775807 := hb 5
  simp [putK, setT, fullT, top4, bothT, lsr_self, lsr_of p0, lsr_of p1, lsr_of p2, lsr_of p3, lsr_of p4, lsr_of p5, lsr_of q0, lsr_of q1, lsr_of q2, lsr_of q3, lsr_of q4, lsr_of q5]
theorem pl_grown {W X : World} {g : Nat} (h : Pl W) (k : W.grownBy X (some g)) (hg : 0 < g) : Pl X := by
  have hne : some (0 : Nat) ≠ some g := by simp; omega
  exact ⟨Nat.lt_of_lt_of_le h.1 k.size, World.grownBy.cell k h.2.1 hne, World.grownBy.cell k h.2.2.1 hne, World.grownBy.cell k h.2.2.2.1 hne, World.grownBy.cell k h.2.2.2.2.1 hne, World.grownBy.cell k h.2.2.2.2.2.1 hne, World.grownBy.cell k h.2.2.2.2.2.2 hne⟩
def Comps (a b : List Int) (w : World) (e : Ending) (w' : World) : Prop := Below w.heap.size w w' ∧ ∃ z0 z1 z2 z3 z4 z5 f, e = .returned (.tuple #[.agg #[.int .i64 z0, .int .i64 z1, .int .i64 z2, .int .i64 z3, .int .i64 z4, .int .i64 z5], .int .i64 f]) ∧ CompR a b [z0, z1, z2, z3, z4, z5] f

set_option maxRecDepth 100000 in
set_option maxHeartbeats 8000000 in
theorem comp_any (a0 a1 a2 a3 a4 a5 b0 b1 b2 b3 b4 b5 : Int) (w : World) (hP : Pl w) (ta : Tops [a0, a1, a2, a3, a4, a5]) (tb : Tops [b0, b1, b2, b3, b4, b5]) :
    Calls Tryd.prog 10 #[.agg #[.int .i64 a0, .int .i64 a1, .int .i64 a2, .int .i64 a3, .int .i64 a4, .int .i64 a5], .agg #[.int .i64 b0, .int .i64 b1, .int .i64 b2, .int .i64 b3, .int .i64 b4, .int .i64 b5]] w (Comps [a0, a1, a2, a3, a4, a5] [b0, b1, b2, b3, b4, b5] w) := by
  have X : ∃ w0, w0 = ((w.alloc (.cells #[.int .i64 a0, .int .i64 a1, .int .i64 a2, .int .i64 a3, .int .i64 a4, .int .i64 a5] 24)).alloc (.cells #[.int .i64 b0, .int .i64 b1, .int .i64 b2, .int .i64 b3, .int .i64 b4, .int .i64 b5] 24)).alloc (.cells #[.int .i64 0, .int .i64 0, .int .i64 0, .int .i64 0, .int .i64 0, .int .i64 0] 24) := ⟨_, rfl⟩
  obtain ⟨w0, hX⟩ := X
  have DB : Below w.heap.size w w0 := by rw [hX]; exact bound.up3 _ _ _ _
  have D0 : lies.Lies w0 w.heap.size 24 #[.int .i64 a0, .int .i64 a1, .int .i64 a2, .int .i64 a3, .int .i64 a4, .int .i64 a5] := by rw [hX]; exact lies.on_alloc (lies.on_alloc (lies.made _ _ _) _) _
  have D1 : lies.Lies w0 (w.heap.size + 1) 24 #[.int .i64 b0, .int .i64 b1, .int .i64 b2, .int .i64 b3, .int .i64 b4, .int .i64 b5] := by rw [hX]; exact lies.on_alloc (lies.made_at _ _ _ _ (by simp)) _
  have D2 : lies.Lies w0 (w.heap.size + 1 + 1) 24 #[.int .i64 0, .int .i64 0, .int .i64 0, .int .i64 0, .int .i64 0, .int .i64 0] := by rw [hX]; exact lies.made_at _ _ _ _ (by simp)
  have P0 := hP.on DB
  have HTA := Lib.hid ta
  have HTB := Lib.hid tb
  have hR : w.heap.size ≤ w.heap.size + 1 + 1 := by omega
  clear hP ta tb
  go_enter Tryd.func10, Tryd.ntmps10
  obtain ⟨⟨e0, e1, e2, e3, e4, e5⟩, -⟩ := six_cells D0
  have el := lies.lt D0
  go_wp2_with fail
  clear e0 e1 e2 e3 e4 e5 el
  rw [← hX]
  clear hX
  refine (zone.check_any a0 a1 a2 a3 a4 a5 w0 P0 HTA.out).mono ?_
  rintro e w1 ⟨hB, f, rfl, hc⟩
  replace D0 := lies.on_call D0 hB
  replace D1 := lies.on_call D1 hB
  replace D2 := lies.on_call D2 hB
  replace P0 := P0.on hB
  replace DB := later DB hB
  clear hB
  rcases hc with ⟨hma, rfl⟩ | ⟨hma, rfl⟩
  · have HA := Lib.hid hma
    clear hma
    obtain ⟨⟨e0, e1, e2, e3, e4, e5⟩, -⟩ := six_cells D1
    have el := lies.lt D1
    go_wp2_with fail
    clear e0 e1 e2 e3 e4 e5 el
    refine (zone.check_any b0 b1 b2 b3 b4 b5 w1 P0 HTB.out).mono ?_
    rintro e w2 ⟨hB, f, rfl, hc⟩
    replace D0 := lies.on_call D0 hB
    replace D1 := lies.on_call D1 hB
    replace D2 := lies.on_call D2 hB
    replace P0 := P0.on hB
    replace DB := later DB hB
    clear hB
    rcases hc with ⟨hmb, rfl⟩ | ⟨hmb, rfl⟩
    · have HB := Lib.hid hmb
      clear hmb
      go_wp2_with fail
      refine (top4_is w2).mono ?_
      rintro e w3 ⟨hB, g, hg2, rfl, hG⟩
      replace D0 := lies.on_call D0 hB
      replace D1 := lies.on_call D1 hB
      replace P0 := P0.on hB
      replace DB := later DB hB
      have hg2' : w.heap.size + 1 + 1 < g := Nat.lt_of_lt_of_le (lies.lt D2) hg2
      replace D2 := lies.on_call D2 hB
      clear hB hg2
      obtain ⟨⟨e0, e1, e2, e3, e4, e5⟩, ef⟩ := six_cells D0
      clear ef
      have el := lies.lt D0
      go_wp2_with fail
      clear e0 e1 e2 e3 e4 e5 el
      have DT := lies.made w3 39 #[.int .i64 4, .slice (some ⟨g, 0, none⟩) 16 16]
      have hA := bound.up1 w3 (.cells #[.int .i64 4, .slice (some ⟨g, 0, none⟩) 16 16] 39)
      replace D0 := lies.on_call D0 hA
      replace D1 := lies.on_call D1 hA
      replace D2 := lies.on_call D2 hA
      replace hG := lies.on_call hG hA
      replace P0 := P0.on hA
      replace DB := later DB hA
      clear hA
      generalize w3.heap.size = T at DT ⊢
      generalize w3.alloc (.cells #[.int .i64 4, .slice (some ⟨g, 0, none⟩) 16 16] 39) = w4 at D0 D1 D2 DT hG P0 DB ⊢
      have hTg : T ≠ g := (ne_type hG DT (by decide)).symm
      refine (put_any a0 a1 a2 a3 a4 a5 0 1 2 T g top4 w4 P0 HTA.out HA.out.may (fun i hi => by rcases (by omega : i = 0 ∨ i = 1 ∨ i = 2) with rfl | rfl | rfl <;> decide) DT hG rfl).mono ?_
      rintro e w5 ⟨rfl, hG5, hW⟩
      replace D0 := grown_lies D0 hW (by simp; omega)
      replace D1 := grown_lies D1 hW (by simp; omega)
      replace D2 := grown_lies D2 hW (by simp; omega)
      replace DT := grown_lies DT hW (by simp; omega)
      replace P0 := pl_grown P0 hW (by omega)
      replace DB := DB.grown hW DB.size (fun q e => by cases e; omega)
      clear hW hG
      obtain ⟨⟨e0, e1, e2, e3, e4, e5⟩, -⟩ := six_cells D1
      have el := lies.lt D1
      go_wp2_with fail
      clear e0 e1 e2 e3 e4 e5 el
      refine (put_any b0 b1 b2 b3 b4 b5 0 2 3 T g _ w5 P0 HTB.out HB.out.may (fun i hi => by rcases (by omega : i = 0 ∨ i = 1 ∨ i = 2) with rfl | rfl | rfl <;> decide) DT hG5 (putK_length _ _ _ _)).mono ?_
      rintro e w6 ⟨rfl, hG6, hW⟩
      rw [put_both rfl rfl HTA.out HTB.out] at hG6
      replace D0 := grown_lies D0 hW (by simp; omega)
      replace D1 := grown_lies D1 hW (by simp; omega)
      replace D2 := grown_lies D2 hW (by simp; omega)
      replace DT := grown_lies DT hW (by simp; omega)
      replace P0 := pl_grown P0 hW (by omega)
      replace DB := DB.grown hW DB.size (fun q e => by cases e; omega)
      clear hW hG5 D0 D1
      obtain ⟨t0, t1, t2, t3, t4⟩ := lies.two DT
      go_wp2_with fail
      clear t0 t1 t2 t3 t4
      have hI : law.Ints w6.heap.size w6 (.slice (some ⟨g, 0, none⟩) 16 16) (bothT [a0, a1, a2, a3, a4, a5] [b0, b1, b2, b3, b4, b5]) := dlaw.own_ints (cap := 16) hG6
      have HT4 := Lib.hid (both_tops HTA.out HTB.out)
      refine (drop_any 4 2 _ _ w6 hI (show 16 ≤ 1000000 by decide) HT4.out).mono ?_
      rintro e w7 ⟨hB, na, aa, la, ca, us, f, rfl, hD, hK⟩
      replace D2 := lies.on_call D2 hB
      replace P0 := P0.on hB
      replace DB := later DB hB
      clear hB hI hG6 DT
      have HD := Lib.hid hD
      clear hD
      have hm4 : MayD 4 (bothT [a0, a1, a2, a3, a4, a5] [b0, b1, b2, b3, b4, b5]) := both_may HA.out.may HB.out.may
      rcases HD.out with ⟨n, _⟩ | ⟨_, n, _⟩ | ⟨_, _, hno, rfl, hu, rfl⟩ | ⟨hok, _, hna, hu, rfl⟩
      · exact (n hm4).elim
      · exact (n ⟨by decide, by decide⟩).elim
      · have HN := Lib.hid hno
        clear hno HD hm4 hu hK
        have DX := lies.on_call D2 (bound.up1 w7 (.cells #[.int .i64 0, .slice aa la ca] 39))
        have EB := DB
        obtain ⟨⟨x0, x1, x2, x3, x4, x5⟩, ⟨y0, y1, y2, y3, y4, y5⟩, xl⟩ := six_cells D2
        go_wp2_with fail
        exact bodyPost_ret (v := .tuple #[.agg #[.int .i64 0, .int .i64 0, .int .i64 0, .int .i64 0, .int .i64 0, .int .i64 0], .int .i64 6]) (by simp [results, Tryd.results10, go_sem, x0, x1, x2, x3, x4, x5, xl]) rfl ⟨lies.frame_up (put_six DB hR _ _ _ _ _ _) _, 0, 0, 0, 0, 0, 0, 6, rfl, .inr (.inl ⟨HA.out, HB.out, HN.out, rfl, rfl⟩)⟩
      · have HO := Lib.hid hok
        have hna3 : na = 3 := hna
        have HU := Lib.hid (show us = dropT 4 2 (bothT [a0, a1, a2, a3, a4, a5] [b0, b1, b2, b3, b4, b5]) from hu)
        clear hok HD hm4 hu hna
        subst hna3
        have hI7 := hK.ints
        go_wp2_with fail
        have hA := bound.up1 w7 (.cells #[.int .i64 3, .slice aa la ca] 39)
        replace D2 := lies.on_call D2 hA
        replace P0 := P0.on hA
        replace DB := later DB hA
        replace hI7 := (hI7.below hA).mono hA.size
        clear hA hK
        generalize w7.alloc (.cells #[.int .i64 3, .slice aa la ca] 39) = w8 at D2 P0 DB hI7 ⊢
        have hT3 : Tops us := by rw [HU.out]; exact drop_tops HTA.out HTB.out HO.out
        have hl3 : us.length ≤ 1000000 := by rw [HU.out, proj.dropT_length]; decide
        refine (of_any 3 _ us w8 P0 hI7 hl3 hT3).mono ?_
        rintro e w9 ⟨hB, v0, v1, v2, v3, v4, v5, f, rfl, hF⟩
        replace D2 := lies.on_call D2 hB
        replace DB := later DB hB
        have HR : RowKit.Hid (CompR [a0, a1, a2, a3, a4, a5] [b0, b1, b2, b3, b4, b5] [v0, v1, v2, v3, v4, v5] f) := by
          refine Lib.hid ?_
          rw [HU.out] at hF
          have hcf := comp_full HTA.out HTB.out HO.out
          rcases of_closed (fun hm => dropT_own (n := 4) (by decide) (by decide) rfl HT4.out HO.out (by decide) hm) hF with ⟨h1, h2, h3⟩ | ⟨h1, h2, h3⟩
          · exact .inr (.inr (.inl ⟨HA.out, HB.out, HO.out, by rw [hcf]; exact h1, h2, h3⟩))
          · exact .inr (.inr (.inr ⟨HA.out, HB.out, HO.out, comp_may HTA.out HTB.out HO.out h1, h2, h3⟩))
        clear hB hI7 hT3 hl3 hF P0
        obtain ⟨⟨x0, x1, x2, x3, x4, x5⟩, ⟨y0, y1, y2, y3, y4, y5⟩, xl⟩ := six_cells D2
        clear D2
        go_wp2_with fail
        exact bodyPost_ret (v := .tuple #[.agg #[.int .i64 v0, .int .i64 v1, .int .i64 v2, .int .i64 v3, .int .i64 v4, .int .i64 v5], .int .i64 f]) (by simp [results, Tryd.results10, go_sem, x0, x1, x2, x3, x4, x5, xl]) rfl ⟨put_six DB hR _ _ _ _ _ _, v0, v1, v2, v3, v4, v5, f, rfl, HR.out⟩
    · have HB := Lib.hid hmb
      clear hmb D0 D1
      obtain ⟨⟨x0, x1, x2, x3, x4, x5⟩, ⟨y0, y1, y2, y3, y4, y5⟩, xl⟩ := six_cells D2
      clear D2
      go_wp2_with fail
      exact bodyPost_ret (v := .tuple #[.agg #[.int .i64 0, .int .i64 0, .int .i64 0, .int .i64 0, .int .i64 0, .int .i64 0], .int .i64 8]) (by simp [results, Tryd.results10, go_sem, x0, x1, x2, x3, x4, x5, xl]) rfl ⟨put_six DB hR _ _ _ _ _ _, 0, 0, 0, 0, 0, 0, 8, rfl, .inl ⟨fun q => HB.out q.2, rfl, rfl⟩⟩
  · have HA := Lib.hid hma
    clear hma D0 D1
    obtain ⟨⟨x0, x1, x2, x3, x4, x5⟩, ⟨y0, y1, y2, y3, y4, y5⟩, xl⟩ := six_cells D2
    clear D2
    go_wp2_with fail
    exact bodyPost_ret (v := .tuple #[.agg #[.int .i64 0, .int .i64 0, .int .i64 0, .int .i64 0, .int .i64 0, .int .i64 0], .int .i64 8]) (by simp [results, Tryd.results10, go_sem, x0, x1, x2, x3, x4, x5, xl]) rfl ⟨put_six DB hR _ _ _ _ _ _, 0, 0, 0, 0, 0, 0, 8, rfl, .inl ⟨fun q => HA.out q.1, rfl, rfl⟩⟩

/-! the other way round -/
def BackR (a z : List Int) (f : Int) : Prop := (¬ MayZ a ∧ z = zero6 ∧ f = 8) ∨ (MayZ a ∧ z = backT a ∧ f = 0)
def Backs (a : List Int) (w : World) (e : Ending) (w' : World) : Prop := Below w.heap.size w w' ∧ ∃ z0 z1 z2 z3 z4 z5 f, e = .returned (.tuple #[.agg #[.int .i64 z0, .int .i64 z1, .int .i64 z2, .int .i64 z3, .int .i64 z4, .int .i64 z5], .int .i64 f]) ∧ BackR a [z0, z1, z2, z3, z4, z5] f
set_option maxRecDepth 100000 in
set_option maxHeartbeats 8000000 in
theorem back_any (a0 a1 a2 a3 a4 a5 : Int) (w : World) (hP : Pl w) (ta : Tops [a0, a1, a2, a3, a4, a5]) :
    Calls Tryd.prog 11 #[.agg #[.int .i64 a0, .int .i64 a1, .int .i64 a2, .int .i64 a3, .int .i64 a4, .int .i64 a5]] w (Backs [a0, a1, a2, a3, a4, a5] w) := by
  have X : ∃ w0, w0 = (w.alloc (.cells #[.int .i64 a0, .int .i64 a1, .int .i64 a2, .int .i64 a3, .int .i64 a4, .int .i64 a5] 24)).alloc (.cells #[.int .i64 0, .int .i64 0, .int .i64 0, .int .i64 0, .int .i64 0, .int .i64 0] 24) := ⟨_, rfl⟩
  obtain ⟨w0, hX⟩ := X
  have DB : Below w.heap.size w w0 := by rw [hX]; exact bound.up2 _ _ _
  have D0 : lies.Lies w0 w.heap.size 24 #[.int .i64 a0, .int .i64 a1, .int .i64 a2, .int .i64 a3, .int .i64 a4, .int .i64 a5] := by rw [hX]; exact lies.on_alloc (lies.made _ _ _) _
  have D1 : lies.Lies w0 (w.heap.size + 1) 24 #[.int .i64 0, .int .i64 0, .int .i64 0, .int .i64 0, .int .i64 0, .int .i64 0] := by rw [hX]; exact lies.made_at _ _ _ _ (by simp)
  have P0 := hP.on DB
  have HTA := Lib.hid ta
  have hR : w.heap.size ≤ w.heap.size + 1 := by omega
  clear hP ta
  go_enter Tryd.func11, Tryd.ntmps11
  obtain ⟨⟨e0, e1, e2, e3, e4, e5⟩, -⟩ := six_cells D0
  have el := lies.lt D0
  go_wp2_with fail
  clear e0 e1 e2 e3 e4 e5 el
  rw [← hX]
  clear hX
  refine (zone.check_any a0 a1 a2 a3 a4 a5 w0 P0 HTA.out).mono ?_
  rintro e w1 ⟨hB, f, rfl, hc⟩
  replace D0 := lies.on_call D0 hB
  replace D1 := lies.on_call D1 hB
  replace DB := later DB hB
  clear hB P0
  rcases hc with ⟨hma, rfl⟩ | ⟨hma, rfl⟩
  · have HA := Lib.hid hma
    clear hma
    obtain ⟨⟨e0, e1, e2, e3, e4, e5⟩, ⟨f0, f1, f2, f3, f4, f5⟩, el⟩ := six_cells D0
    obtain ⟨⟨x0, x1, x2, x3, x4, x5⟩, ⟨y0, y1, y2, y3, y4, y5⟩, xl⟩ := six_cells D1
    go_wp2_with fail
    refine bodyPost_ret (v := .tuple #[.agg #[.int .i64 a2, .int .i64 a3, .int .i64 a0, .int .i64 a1, .int .i64 a5, .int .i64 a4], .int .i64 0]) (by simp [results, Tryd.results11, go_sem, x0, x1, x2, x3, x4, x5, xl]) rfl ⟨put_six (put_six DB (Nat.le_refl _) _ _ _ _ _ _) hR _ _ _ _ _ _, a2, a3, a0, a1, a5, a4, 0, rfl, .inr ⟨HA.out, rfl, rfl⟩⟩
  · have HA := Lib.hid hma
    clear hma D0
    obtain ⟨⟨x0, x1, x2, x3, x4, x5⟩, ⟨y0, y1, y2, y3, y4, y5⟩, xl⟩ := six_cells D1
    clear D1
    go_wp2_with fail
    exact bodyPost_ret (v := .tuple #[.agg #[.int .i64 0, .int .i64 0, .int .i64 0, .int .i64 0, .int .i64 0, .int .i64 0], .int .i64 8]) (by simp [results, Tryd.results11, go_sem, x0, x1, x2, x3, x4, x5, xl]) rfl ⟨put_six DB hR _ _ _ _ _ _, 0, 0, 0, 0, 0, 0, 8, rfl, .inl ⟨HA.out, rfl, rfl⟩⟩

end Go.Proofs.YtngjkebmilpemaaDoor.comp
