/-
  What minus.with answers: a zone that may be, with another bound at one place; each theorem names its conditions.
-/
import Derived.Test.YtkfnjdmjojodhaaDoorMinusZ
import Derived.Test.YtkfnjdmjojodhaaDoorMinusP
import Derived.Test.YtkfnjdmjojodhaaDoorZoneI
namespace Go.Proofs.YtkfnjdmjojodhaaDoor.minus
open Go.Joins Go.ChangeShapes Go.WideShapes Go.ChangeAt Go.RowKit num rat dbm Go.Proofs.YtkfnjdmjojodhaaDoor.tight Go.Proofs.YtkfnjdmjojodhaaDoor.plaw Go.Proofs.YtkfnjdmjojodhaaDoor.zopen Go.Proofs.YtkfnjdmjojodhaaDoor.zone Go.Proofs.YtkfnjdmjojodhaaDoor.win
open bound hiding up
set_option linter.unusedVariables false
set_option linter.unusedSimpArgs false

theorem set_les {z : List Int} (tz : Tops z) (hl : z.length = 6) {i : Nat} {v : Int} (hi : i < 6) (hv : v ≤ z[i]?.getD 0) : fullT (z.set i v) = lesT (fullT z) (fullT (oneZ i v)) := by
  have key : ∀ k, k < 6 → (z.set i v)[k]?.getD 0 = lsr (z[k]?.getD 0) ((oneZ i v)[k]?.getD 0) := fun k hk => by
    rw [one_at v hk]
    by_cases e : i = k
    · subst e
      rw [if_pos rfl, List.getElem?_set_self (by omega)]
      unfold lsr
      show v = _
      split <;> omega
    · rw [if_neg e, List.getElem?_set_ne e]
      have := get_top tz k
      unfold lsr
      split <;> omega
  refine (list_at ((lesT_length _ _).trans (show (fullT z).length = (fullT (z.set i v)).length from rfl)) fun p hp => ?_).symm
  have hp : p < 9 := by rw [lesT_length] at hp; exact hp
  rw [lesT_at _ _ (show p < (fullT z).length from hp)]
  rcases (by omega : p = 0 ∨ p = 1 ∨ p = 2 ∨ p = 3 ∨ p = 4 ∨ p = 5 ∨ p = 6 ∨ p = 7 ∨ p = 8) with rfl | rfl | rfl | rfl | rfl | rfl | rfl | rfl | rfl
  · rfl
  · exact (key 1 (by decide)).symm
  · exact (key 3 (by decide)).symm
  · exact (key 0 (by decide)).symm
  · rfl
  · exact (key 5 (by decide)).symm
  · exact (key 2 (by decide)).symm
  · exact (key 4 (by decide)).symm
  · rfl
/-- what with answers. -/
def Wth (z : List Int) (w : World) (e : Ending) (w' : World) : Prop := Below w.heap.size w w' ∧ ∃ y0 y1 y2 y3 y4 y5 f, e = .returned (.tuple #[.agg #[.int .i64 y0, .int .i64 y1, .int .i64 y2, .int .i64 y3, .int .i64 y4, .int .i64 y5], .int .i64 f]) ∧ OfR 3 (fullT z) [y0, y1, y2, y3, y4, y5] f
set_option maxRecDepth 100000 in
set_option maxHeartbeats 8000000 in
theorem with_0 (z0 z1 z2 z3 z4 z5 v : Int) (w : World) (hP : Pl w) (htop : Tops [v, z1, z2, z3, z4, z5]) (hm : MayD 3 (fullT [v, z1, z2, z3, z4, z5])) :
    Calls Tryd.prog 57 #[.agg #[.int .i64 z0, .int .i64 z1, .int .i64 z2, .int .i64 z3, .int .i64 z4, .int .i64 z5], .int .i64 0, .int .i64 v] w (Wth [v, z1, z2, z3, z4, z5] w) := by
  have HT := Lib.hid htop
  have HM := Lib.hid hm
  have HP := Lib.hid hP
  clear htop hm hP
  go_enter Tryd.func57, Tryd.ntmps57
  go_wp2_with fail
  have DB := bound.up2 w (.cells #[.int .i64 v, .int .i64 z1, .int .i64 z2, .int .i64 z3, .int .i64 z4, .int .i64 z5] 24) (.cells #[.int .i64 0, .int .i64 0, .int .i64 0, .int .i64 0, .int .i64 0, .int .i64 0] 24)
  have D1 := lies.made_at (w.alloc (.cells #[.int .i64 v, .int .i64 z1, .int .i64 z2, .int .i64 z3, .int .i64 z4, .int .i64 z5] 24)) 24 #[.int .i64 0, .int .i64 0, .int .i64 0, .int .i64 0, .int .i64 0, .int .i64 0] (w.heap.size + 1) (by simp)
  have P0 := HP.out.on DB
  have hR : w.heap.size ≤ w.heap.size + 1 := by omega
  generalize (w.alloc (.cells #[.int .i64 v, .int .i64 z1, .int .i64 z2, .int .i64 z3, .int .i64 z4, .int .i64 z5] 24)).alloc (.cells #[.int .i64 0, .int .i64 0, .int .i64 0, .int .i64 0, .int .i64 0, .int .i64 0] 24) = w0 at DB D1 P0 ⊢
  refine (matrix_any v z1 z2 z3 z4 z5 w0 P0 HT.out).mono ?_
  rintro e w1 ⟨hB, na, aa, la, ca, us, f, rfl, hRR, hK⟩
  replace D1 := lies.on_call D1 hB
  replace P0 := P0.on hB
  replace DB := later DB hB
  clear hB
  rcases hRR with ⟨_, rfl, hus, rfl⟩ | ⟨no, _⟩
  · have hI := hK.ints
    subst hus
    clear hK
    have hgl := lies.lt D1
    go_wp2_with fail
    have hA := bound.up1 w1 (.cells #[.int .i64 3, .slice aa la ca] 64)
    replace D1 := lies.on_call D1 hA
    replace P0 := P0.on hA
    replace DB := later DB hA
    replace hI := (hI.below hA).mono hA.size
    generalize w1.heap.size = TB
    generalize w1.alloc (.cells #[.int .i64 3, .slice aa la ca] 64) = w2 at D1 P0 DB hI ⊢
    clear hA hgl
    refine (zone.of_any 3 _ _ w2 P0 hI (by show (9 : Nat) ≤ 1000000; decide) (full_tops HT.out)).mono ?_
    rintro e w3 ⟨hB, y0, y1, y2, y3, y4, y5, f, rfl, hO⟩
    replace D1 := lies.on_call D1 hB
    replace DB := later DB hB
    have HO := Lib.hid hO
    clear hB hO hI P0
    obtain ⟨⟨x0, x1, x2, x3, x4, x5⟩, ⟨q0, q1, q2, q3, q4, q5⟩, xl⟩ := six_cells D1
    clear D1
    go_wp2_with fail
    exact bodyPost_ret (v := .tuple #[.agg #[.int .i64 y0, .int .i64 y1, .int .i64 y2, .int .i64 y3, .int .i64 y4, .int .i64 y5], .int .i64 f]) (by simp [results, Tryd.results57, go_sem, x0, x1, x2, x3, x4, x5, xl]) rfl ⟨put_six DB hR _ _ _ _ _ _, y0, y1, y2, y3, y4, y5, f, rfl, HO.out⟩
  · exact (no HM.out).elim
set_option maxRecDepth 100000 in
set_option maxHeartbeats 8000000 in
theorem with_1 (z0 z1 z2 z3 z4 z5 v : Int) (w : World) (hP : Pl w) (htop : Tops [z0, v, z2, z3, z4, z5]) (hm : MayD 3 (fullT [z0, v, z2, z3, z4, z5])) :
    Calls Tryd.prog 57 #[.agg #[.int .i64 z0, .int .i64 z1, .int .i64 z2, .int .i64 z3, .int .i64 z4, .int .i64 z5], .int .i64 1, .int .i64 v] w (Wth [z0, v, z2, z3, z4, z5] w) := by
  have HT := Lib.hid htop
  have HM := Lib.hid hm
  have HP := Lib.hid hP
  clear htop hm hP
  go_enter Tryd.func57, Tryd.ntmps57
  go_wp2_with fail
  have DB := bound.up2 w (.cells #[.int .i64 z0, .int .i64 v, .int .i64 z2, .int .i64 z3, .int .i64 z4, .int .i64 z5] 24) (.cells #[.int .i64 0, .int .i64 0, .int .i64 0, .int .i64 0, .int .i64 0, .int .i64 0] 24)
  have D1 := lies.made_at (w.alloc (.cells #[.int .i64 z0, .int .i64 v, .int .i64 z2, .int .i64 z3, .int .i64 z4, .int .i64 z5] 24)) 24 #[.int .i64 0, .int .i64 0, .int .i64 0, .int .i64 0, .int .i64 0, .int .i64 0] (w.heap.size + 1) (by simp)
  have P0 := HP.out.on DB
  have hR : w.heap.size ≤ w.heap.size + 1 := by omega
  generalize (w.alloc (.cells #[.int .i64 z0, .int .i64 v, .int .i64 z2, .int .i64 z3, .int .i64 z4, .int .i64 z5] 24)).alloc (.cells #[.int .i64 0, .int .i64 0, .int .i64 0, .int .i64 0, .int .i64 0, .int .i64 0] 24) = w0 at DB D1 P0 ⊢
  refine (matrix_any z0 v z2 z3 z4 z5 w0 P0 HT.out).mono ?_
  rintro e w1 ⟨hB, na, aa, la, ca, us, f, rfl, hRR, hK⟩
  replace D1 := lies.on_call D1 hB
  replace P0 := P0.on hB
  replace DB := later DB hB
  clear hB
  rcases hRR with ⟨_, rfl, hus, rfl⟩ | ⟨no, _⟩
  · have hI := hK.ints
    subst hus
    clear hK
    have hgl := lies.lt D1
    go_wp2_with fail
    have hA := bound.up1 w1 (.cells #[.int .i64 3, .slice aa la ca] 64)
    replace D1 := lies.on_call D1 hA
    replace P0 := P0.on hA
    replace DB := later DB hA
    replace hI := (hI.below hA).mono hA.size
    generalize w1.heap.size = TB
    generalize w1.alloc (.cells #[.int .i64 3, .slice aa la ca] 64) = w2 at D1 P0 DB hI ⊢
    clear hA hgl
    refine (zone.of_any 3 _ _ w2 P0 hI (by show (9 : Nat) ≤ 1000000; decide) (full_tops HT.out)).mono ?_
    rintro e w3 ⟨hB, y0, y1, y2, y3, y4, y5, f, rfl, hO⟩
    replace D1 := lies.on_call D1 hB
    replace DB := later DB hB
    have HO := Lib.hid hO
    clear hB hO hI P0
    obtain ⟨⟨x0, x1, x2, x3, x4, x5⟩, ⟨q0, q1, q2, q3, q4, q5⟩, xl⟩ := six_cells D1
    clear D1
    go_wp2_with fail
    exact bodyPost_ret (v := .tuple #[.agg #[.int .i64 y0, .int .i64 y1, .int .i64 y2, .int .i64 y3, .int .i64 y4, .int .i64 y5], .int .i64 f]) (by simp [results, Tryd.results57, go_sem, x0, x1, x2, x3, x4, x5, xl]) rfl ⟨put_six DB hR _ _ _ _ _ _, y0, y1, y2, y3, y4, y5, f, rfl, HO.out⟩
  · exact (no HM.out).elim
set_option maxRecDepth 100000 in
set_option maxHeartbeats 8000000 in
theorem with_2 (z0 z1 z2 z3 z4 z5 v : Int) (w : World) (hP : Pl w) (htop : Tops [z0, z1, v, z3, z4, z5]) (hm : MayD 3 (fullT [z0, z1, v, z3, z4, z5])) :
    Calls Tryd.prog 57 #[.agg #[.int .i64 z0, .int .i64 z1, .int .i64 z2, .int .i64 z3, .int .i64 z4, .int .i64 z5], .int .i64 2, .int .i64 v] w (Wth [z0, z1, v, z3, z4, z5] w) := by
  have HT := Lib.hid htop
  have HM := Lib.hid hm
  have HP := Lib.hid hP
  clear htop hm hP
  go_enter Tryd.func57, Tryd.ntmps57
  go_wp2_with fail
  have DB := bound.up2 w (.cells #[.int .i64 z0, .int .i64 z1, .int .i64 v, .int .i64 z3, .int .i64 z4, .int .i64 z5] 24) (.cells #[.int .i64 0, .int .i64 0, .int .i64 0, .int .i64 0, .int .i64 0, .int .i64 0] 24)
  have D1 := lies.made_at (w.alloc (.cells #[.int .i64 z0, .int .i64 z1, .int .i64 v, .int .i64 z3, .int .i64 z4, .int .i64 z5] 24)) 24 #[.int .i64 0, .int .i64 0, .int .i64 0, .int .i64 0, .int .i64 0, .int .i64 0] (w.heap.size + 1) (by simp)
  have P0 := HP.out.on DB
  have hR : w.heap.size ≤ w.heap.size + 1 := by omega
  generalize (w.alloc (.cells #[.int .i64 z0, .int .i64 z1, .int .i64 v, .int .i64 z3, .int .i64 z4, .int .i64 z5] 24)).alloc (.cells #[.int .i64 0, .int .i64 0, .int .i64 0, .int .i64 0, .int .i64 0, .int .i64 0] 24) = w0 at DB D1 P0 ⊢
  refine (matrix_any z0 z1 v z3 z4 z5 w0 P0 HT.out).mono ?_
  rintro e w1 ⟨hB, na, aa, la, ca, us, f, rfl, hRR, hK⟩
  replace D1 := lies.on_call D1 hB
  replace P0 := P0.on hB
  replace DB := later DB hB
  clear hB
  rcases hRR with ⟨_, rfl, hus, rfl⟩ | ⟨no, _⟩
  · have hI := hK.ints
    subst hus
    clear hK
    have hgl := lies.lt D1
    go_wp2_with fail
    have hA := bound.up1 w1 (.cells #[.int .i64 3, .slice aa la ca] 64)
    replace D1 := lies.on_call D1 hA
    replace P0 := P0.on hA
    replace DB := later DB hA
    replace hI := (hI.below hA).mono hA.size
    generalize w1.heap.size = TB
    generalize w1.alloc (.cells #[.int .i64 3, .slice aa la ca] 64) = w2 at D1 P0 DB hI ⊢
    clear hA hgl
    refine (zone.of_any 3 _ _ w2 P0 hI (by show (9 : Nat) ≤ 1000000; decide) (full_tops HT.out)).mono ?_
    rintro e w3 ⟨hB, y0, y1, y2, y3, y4, y5, f, rfl, hO⟩
    replace D1 := lies.on_call D1 hB
    replace DB := later DB hB
    have HO := Lib.hid hO
    clear hB hO hI P0
    obtain ⟨⟨x0, x1, x2, x3, x4, x5⟩, ⟨q0, q1, q2, q3, q4, q5⟩, xl⟩ := six_cells D1
    clear D1
    go_wp2_with fail
    exact bodyPost_ret (v := .tuple #[.agg #[.int .i64 y0, .int .i64 y1, .int .i64 y2, .int .i64 y3, .int .i64 y4, .int .i64 y5], .int .i64 f]) (by simp [results, Tryd.results57, go_sem, x0, x1, x2, x3, x4, x5, xl]) rfl ⟨put_six DB hR _ _ _ _ _ _, y0, y1, y2, y3, y4, y5, f, rfl, HO.out⟩
  · exact (no HM.out).elim
set_option maxRecDepth 100000 in
set_option maxHeartbeats 8000000 in
theorem with_3 (z0 z1 z2 z3 z4 z5 v : Int) (w : World) (hP : Pl w) (htop : Tops [z0, z1, z2, v, z4, z5]) (hm : MayD 3 (fullT [z0, z1, z2, v, z4, z5])) :
    Calls Tryd.prog 57 #[.agg #[.int .i64 z0, .int .i64 z1, .int .i64 z2, .int .i64 z3, .int .i64 z4, .int .i64 z5], .int .i64 3, .int .i64 v] w (Wth [z0, z1, z2, v, z4, z5] w) := by
  have HT := Lib.hid htop
  have HM := Lib.hid hm
  have HP := Lib.hid hP
  clear htop hm hP
  go_enter Tryd.func57, Tryd.ntmps57
  go_wp2_with fail
  have DB := bound.up2 w (.cells #[.int .i64 z0, .int .i64 z1, .int .i64 z2, .int .i64 v, .int .i64 z4, .int .i64 z5] 24) (.cells #[.int .i64 0, .int .i64 0, .int .i64 0, .int .i64 0, .int .i64 0, .int .i64 0] 24)
  have D1 := lies.made_at (w.alloc (.cells #[.int .i64 z0, .int .i64 z1, .int .i64 z2, .int .i64 v, .int .i64 z4, .int .i64 z5] 24)) 24 #[.int .i64 0, .int .i64 0, .int .i64 0, .int .i64 0, .int .i64 0, .int .i64 0] (w.heap.size + 1) (by simp)
  have P0 := HP.out.on DB
  have hR : w.heap.size ≤ w.heap.size + 1 := by omega
  generalize (w.alloc (.cells #[.int .i64 z0, .int .i64 z1, .int .i64 z2, .int .i64 v, .int .i64 z4, .int .i64 z5] 24)).alloc (.cells #[.int .i64 0, .int .i64 0, .int .i64 0, .int .i64 0, .int .i64 0, .int .i64 0] 24) = w0 at DB D1 P0 ⊢
  refine (matrix_any z0 z1 z2 v z4 z5 w0 P0 HT.out).mono ?_
  rintro e w1 ⟨hB, na, aa, la, ca, us, f, rfl, hRR, hK⟩
  replace D1 := lies.on_call D1 hB
  replace P0 := P0.on hB
  replace DB := later DB hB
  clear hB
  rcases hRR with ⟨_, rfl, hus, rfl⟩ | ⟨no, _⟩
  · have hI := hK.ints
    subst hus
    clear hK
    have hgl := lies.lt D1
    go_wp2_with fail
    have hA := bound.up1 w1 (.cells #[.int .i64 3, .slice aa la ca] 64)
    replace D1 := lies.on_call D1 hA
    replace P0 := P0.on hA
    replace DB := later DB hA
    replace hI := (hI.below hA).mono hA.size
    generalize w1.heap.size = TB
    generalize w1.alloc (.cells #[.int .i64 3, .slice aa la ca] 64) = w2 at D1 P0 DB hI ⊢
    clear hA hgl
    refine (zone.of_any 3 _ _ w2 P0 hI (by show (9 : Nat) ≤ 1000000; decide) (full_tops HT.out)).mono ?_
    rintro e w3 ⟨hB, y0, y1, y2, y3, y4, y5, f, rfl, hO⟩
    replace D1 := lies.on_call D1 hB
    replace DB := later DB hB
    have HO := Lib.hid hO
    clear hB hO hI P0
    obtain ⟨⟨x0, x1, x2, x3, x4, x5⟩, ⟨q0, q1, q2, q3, q4, q5⟩, xl⟩ := six_cells D1
    clear D1
    go_wp2_with fail
    exact bodyPost_ret (v := .tuple #[.agg #[.int .i64 y0, .int .i64 y1, .int .i64 y2, .int .i64 y3, .int .i64 y4, .int .i64 y5], .int .i64 f]) (by simp [results, Tryd.results57, go_sem, x0, x1, x2, x3, x4, x5, xl]) rfl ⟨put_six DB hR _ _ _ _ _ _, y0, y1, y2, y3, y4, y5, f, rfl, HO.out⟩
  · exact (no HM.out).elim
set_option maxRecDepth 100000 in
set_option maxHeartbeats 8000000 in
theorem with_4 (z0 z1 z2 z3 z4 z5 v : Int) (w : World) (hP : Pl w) (htop : Tops [z0, z1, z2, z3, v, z5]) (hm : MayD 3 (fullT [z0, z1, z2, z3, v, z5])) :
    Calls Tryd.prog 57 #[.agg #[.int .i64 z0, .int .i64 z1, .int .i64 z2, .int .i64 z3, .int .i64 z4, .int .i64 z5], .int .i64 4, .int .i64 v] w (Wth [z0, z1, z2, z3, v, z5] w) := by
  have HT := Lib.hid htop
  have HM := Lib.hid hm
  have HP := Lib.hid hP
  clear htop hm hP
  go_enter Tryd.func57, Tryd.ntmps57
  go_wp2_with fail
  have DB := bound.up2 w (.cells #[.int .i64 z0, .int .i64 z1, .int .i64 z2, .int .i64 z3, .int .i64 v, .int .i64 z5] 24) (.cells #[.int .i64 0, .int .i64 0, .int .i64 0, .int .i64 0, .int .i64 0, .int .i64 0] 24)
  have D1 := lies.made_at (w.alloc (.cells #[.int .i64 z0, .int .i64 z1, .int .i64 z2, .int .i64 z3, .int .i64 v, .int .i64 z5] 24)) 24 #[.int .i64 0, .int .i64 0, .int .i64 0, .int .i64 0, .int .i64 0, .int .i64 0] (w.heap.size + 1) (by simp)
  have P0 := HP.out.on DB
  have hR : w.heap.size ≤ w.heap.size + 1 := by omega
  generalize (w.alloc (.cells #[.int .i64 z0, .int .i64 z1, .int .i64 z2, .int .i64 z3, .int .i64 v, .int .i64 z5] 24)).alloc (.cells #[.int .i64 0, .int .i64 0, .int .i64 0, .int .i64 0, .int .i64 0, .int .i64 0] 24) = w0 at DB D1 P0 ⊢
  refine (matrix_any z0 z1 z2 z3 v z5 w0 P0 HT.out).mono ?_
  rintro e w1 ⟨hB, na, aa, la, ca, us, f, rfl, hRR, hK⟩
  replace D1 := lies.on_call D1 hB
  replace P0 := P0.on hB
  replace DB := later DB hB
  clear hB
  rcases hRR with ⟨_, rfl, hus, rfl⟩ | ⟨no, _⟩
  · have hI := hK.ints
    subst hus
    clear hK
    have hgl := lies.lt D1
    go_wp2_with fail
    have hA := bound.up1 w1 (.cells #[.int .i64 3, .slice aa la ca] 64)
    replace D1 := lies.on_call D1 hA
    replace P0 := P0.on hA
    replace DB := later DB hA
    replace hI := (hI.below hA).mono hA.size
    generalize w1.heap.size = TB
    generalize w1.alloc (.cells #[.int .i64 3, .slice aa la ca] 64) = w2 at D1 P0 DB hI ⊢
    clear hA hgl
    refine (zone.of_any 3 _ _ w2 P0 hI (by show (9 : Nat) ≤ 1000000; decide) (full_tops HT.out)).mono ?_
    rintro e w3 ⟨hB, y0, y1, y2, y3, y4, y5, f, rfl, hO⟩
    replace D1 := lies.on_call D1 hB
    replace DB := later DB hB
    have HO := Lib.hid hO
    clear hB hO hI P0
    obtain ⟨⟨x0, x1, x2, x3, x4, x5⟩, ⟨q0, q1, q2, q3, q4, q5⟩, xl⟩ := six_cells D1
    clear D1
    go_wp2_with fail
    exact bodyPost_ret (v := .tuple #[.agg #[.int .i64 y0, .int .i64 y1, .int .i64 y2, .int .i64 y3, .int .i64 y4, .int .i64 y5], .int .i64 f]) (by simp [results, Tryd.results57, go_sem, x0, x1, x2, x3, x4, x5, xl]) rfl ⟨put_six DB hR _ _ _ _ _ _, y0, y1, y2, y3, y4, y5, f, rfl, HO.out⟩
  · exact (no HM.out).elim
set_option maxRecDepth 100000 in
set_option maxHeartbeats 8000000 in
theorem with_5 (z0 z1 z2 z3 z4 z5 v : Int) (w : World) (hP : Pl w) (htop : Tops [z0, z1, z2, z3, z4, v]) (hm : MayD 3 (fullT [z0, z1, z2, z3, z4, v])) :
    Calls Tryd.prog 57 #[.agg #[.int .i64 z0, .int .i64 z1, .int .i64 z2, .int .i64 z3, .int .i64 z4, .int .i64 z5], .int .i64 5, .int .i64 v] w (Wth [z0, z1, z2, z3, z4, v] w) := by
  have HT := Lib.hid htop
  have HM := Lib.hid hm
  have HP := Lib.hid hP
  clear htop hm hP
  go_enter Tryd.func57, Tryd.ntmps57
  go_wp2_with fail
  have DB := bound.up2 w (.cells #[.int .i64 z0, .int .i64 z1, .int .i64 z2, .int .i64 z3, .int .i64 z4, .int .i64 v] 24) (.cells #[.int .i64 0, .int .i64 0, .int .i64 0, .int .i64 0, .int .i64 0, .int .i64 0] 24)
  have D1 := lies.made_at (w.alloc (.cells #[.int .i64 z0, .int .i64 z1, .int .i64 z2, .int .i64 z3, .int .i64 z4, .int .i64 v] 24)) 24 #[.int .i64 0, .int .i64 0, .int .i64 0, .int .i64 0, .int .i64 0, .int .i64 0] (w.heap.size + 1) (by simp)
  have P0 := HP.out.on DB
  have hR : w.heap.size ≤ w.heap.size + 1 := by omega
  generalize (w.alloc (.cells #[.int .i64 z0, .int .i64 z1, .int .i64 z2, .int .i64 z3, .int .i64 z4, .int .i64 v] 24)).alloc (.cells #[.int .i64 0, .int .i64 0, .int .i64 0, .int .i64 0, .int .i64 0, .int .i64 0] 24) = w0 at DB D1 P0 ⊢
  refine (matrix_any z0 z1 z2 z3 z4 v w0 P0 HT.out).mono ?_
  rintro e w1 ⟨hB, na, aa, la, ca, us, f, rfl, hRR, hK⟩
  replace D1 := lies.on_call D1 hB
  replace P0 := P0.on hB
  replace DB := later DB hB
  clear hB
  rcases hRR with ⟨_, rfl, hus, rfl⟩ | ⟨no, _⟩
  · have hI := hK.ints
    subst hus
    clear hK
    have hgl := lies.lt D1
    go_wp2_with fail
    have hA := bound.up1 w1 (.cells #[.int .i64 3, .slice aa la ca] 64)
    replace D1 := lies.on_call D1 hA
    replace P0 := P0.on hA
    replace DB := later DB hA
    replace hI := (hI.below hA).mono hA.size
    generalize w1.heap.size = TB
    generalize w1.alloc (.cells #[.int .i64 3, .slice aa la ca] 64) = w2 at D1 P0 DB hI ⊢
    clear hA hgl
    refine (zone.of_any 3 _ _ w2 P0 hI (by show (9 : Nat) ≤ 1000000; decide) (full_tops HT.out)).mono ?_
    rintro e w3 ⟨hB, y0, y1, y2, y3, y4, y5, f, rfl, hO⟩
    replace D1 := lies.on_call D1 hB
    replace DB := later DB hB
    have HO := Lib.hid hO
    clear hB hO hI P0
    obtain ⟨⟨x0, x1, x2, x3, x4, x5⟩, ⟨q0, q1, q2, q3, q4, q5⟩, xl⟩ := six_cells D1
    clear D1
    go_wp2_with fail
    exact bodyPost_ret (v := .tuple #[.agg #[.int .i64 y0, .int .i64 y1, .int .i64 y2, .int .i64 y3, .int .i64 y4, .int .i64 y5], .int .i64 f]) (by simp [results, Tryd.results57, go_sem, x0, x1, x2, x3, x4, x5, xl]) rfl ⟨put_six DB hR _ _ _ _ _ _, y0, y1, y2, y3, y4, y5, f, rfl, HO.out⟩
  · exact (no HM.out).elim
end Go.Proofs.YtkfnjdmjojodhaaDoor.minus
