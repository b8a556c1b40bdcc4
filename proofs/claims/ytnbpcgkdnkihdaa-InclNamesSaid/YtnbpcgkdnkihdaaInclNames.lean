/-
  InclNames answers true; no condition.
-/
import Derived.Test.YtnbpcgkdnkihdaaInclF
namespace Go.Proofs.Ytnbpcgkdnkihdaa.inclNames
open Go.Joins Go.ChangeShapes Go.WideShapes Go.ChangeAt Go.RowKit num dbm Go.Proofs.Ytnbpcgkdnkihdaa.incl ilaw Go.Proofs.Ytnbpcgkdnkihdaa.tlaw
open bound hiding up
set_option linter.unusedVariables false
set_option linter.unusedSimpArgs false

/-- two cells. -/
def Cs (W : World) (b o : Nat) (p q : Int) : Prop := b < W.heap.size ∧ W.cell? ⟨b, o, none⟩ = some (.int .i64 p) ∧ W.cell? ⟨b, o + 1, none⟩ = some (.int .i64 q)
theorem Cs.below {W X : World} {b o : Nat} {p q : Int} (h : Cs W b o p q) (k : Below W.heap.size W X) : Cs X b o p q :=
  ⟨Nat.lt_of_lt_of_le h.1 k.size, (k.cell (p := ⟨b, o, none⟩) h.1).trans h.2.1, (k.cell (p := ⟨b, o + 1, none⟩) h.1).trans h.2.2⟩
set_option maxRecDepth 100000 in
set_option maxHeartbeats 4000000 in
theorem walk (w : World) : Calls Try.prog 3 #[] w fun e w' => e = .returned (.bool true) ∧ Below w.heap.size w w' := by
  have v1 : apV 2 [1, 9223372036854775807, 7, 1] [1, -8, 9223372036854775807, 1] := fun h => by
    have := (okB_iff (m := 2) (by decide) _).2 h
    revert this
    decide +kernel
  have v2 : apV 2 [1, 9223372036854775807, 7, 1] [1, -7, 9223372036854775807, 1] := fun h => by
    have := (okB_iff (m := 2) (by decide) _).2 h
    revert this
    decide +kernel
  have o1 : OkD (2 : Nat) [1, -4, 6, 1] := (okB_iff (m := 2) (by decide) _).1 (by decide +kernel)
  have p1 : pks 2 [1, -4, 6, 1] = [(5, 2)] := by decide +kernel
  have o2 : OkD (2 : Nat) [1, 9223372036854775807, 9223372036854775807, 1] := (okB_iff (m := 2) (by decide) _).1 (by decide +kernel)
  have p2 : pks 2 [1, 9223372036854775807, 9223372036854775807, 1] = [(0, 1)] := by decide +kernel
  have o3 : ¬ OkD (2 : Nat) [1, -5, 3, 1] := fun h => by
    have := (okB_iff (m := 2) (by decide) _).2 h
    revert this
    decide +kernel
  have V1 := Lib.hid v1
  have V2 := Lib.hid v2
  have O1 := Lib.hid o1
  have P1 := Lib.hid p1
  have O2 := Lib.hid o2
  have P2 := Lib.hid p2
  have O3 := Lib.hid o3
  clear v1 v2 o1 p1 o2 p2 o3
  have S0 := Below.refl w.heap.size w
  go_enter Try.func3, Try.ntmps3
  go_wp2_with fail
  refine (ilaw.two_is 1 9223372036854775807 7 1 w).mono ?_
  rintro e w1 ⟨g1, hg1, rfl, L1, hB⟩
  replace S0 := S0.trans (hB.mono S0.size)
  clear hB
  go_wp2_with fail
  refine (ilaw.two_is 1 (-8) 9223372036854775807 1 w1).mono ?_
  rintro e w2 ⟨g2, hg2, rfl, L2, hB⟩
  replace S0 := S0.trans (hB.mono S0.size)
  replace L1 := lies.on_call L1 hB
  clear hB
  go_wp2_with fail
  refine (ap_told g1 g2 _ _ w2 L1 L2 (by decide) (by decide) rfl rfl (by unfold Tops; decide) (by unfold Tops; decide) V1.out).mono ?_
  rintro e w3 ⟨rfl, hB⟩
  clear L1 L2
  replace S0 := S0.trans (hB.mono S0.size)
  clear hB
  go_wp2_with fail
  refine (ilaw.two_is 1 9223372036854775807 7 1 w3).mono ?_
  rintro e w4 ⟨g4, hg4, rfl, L1, hB⟩
  replace S0 := S0.trans (hB.mono S0.size)
  clear hB
  go_wp2_with fail
  refine (ilaw.two_is 1 (-7) 9223372036854775807 1 w4).mono ?_
  rintro e w5 ⟨g5, hg5, rfl, L2, hB⟩
  replace S0 := S0.trans (hB.mono S0.size)
  replace L1 := lies.on_call L1 hB
  clear hB
  go_wp2_with fail
  refine (ap_told g4 g5 _ _ w5 L1 L2 (by decide) (by decide) rfl rfl (by unfold Tops; decide) (by unfold Tops; decide) V2.out).mono ?_
  rintro e w6 ⟨rfl, hB⟩
  clear L1 L2
  replace S0 := S0.trans (hB.mono S0.size)
  clear hB
  go_wp2_with fail
  refine (ilaw.two_is 1 (-4) 6 1 w6).mono ?_
  rintro e w7 ⟨g7, hg7, rfl, L1, hB⟩
  replace S0 := S0.trans (hB.mono S0.size)
  clear hB
  go_wp2_with fail
  refine (pick_told g7 _ w7 L1 rfl (by unfold Tops; decide)).mono ?_
  intro e w9 hp
  obtain ⟨hB, b9, o9, c9, rfl, hb9, x0, x1⟩ := pick_one (m := 2) hp O1.out P1.out
  replace S0 := S0.trans (hB.mono S0.size)
  replace L1 := lies.on_call L1 hB
  clear hB
  have C1 : Cs w9 b9 o9 _ _ := ⟨hb9, x0, x1⟩
  clear hp hb9 x0 x1
  go_wp2_with fail
  clear L1
  refine (dlaw.top_two w9).mono ?_
  rintro e w10 ⟨g10, hg10, rfl, LT, hB⟩
  replace S0 := S0.trans (hB.mono S0.size)
  replace C1 := C1.below hB
  clear hB
  go_wp2_with fail
  have hB := bound.up1 w10 (.cells #[.int .i64 2, .slice (some ⟨g10, 0, none⟩) 4 4] 27)
  have LB := lies.made w10 27 #[.int .i64 2, .slice (some ⟨g10, 0, none⟩) 4 4]
  replace S0 := S0.trans (hB.mono S0.size)
  replace C1 := C1.below hB
  replace LT := lies.on_call LT hB
  clear hB
  generalize w10.heap.size = x10 at LB ⊢
  generalize w10.alloc (.cells #[.int .i64 2, .slice (some ⟨g10, 0, none⟩) 4 4] 27) = u10 at LT LB C1 S0 ⊢
  refine (pick_told g10 _ u10 LT rfl (by unfold Tops; decide)).mono ?_
  intro e w11 hp
  obtain ⟨hB, b11, o11, c11, rfl, hb11, x0, x1⟩ := pick_one (m := 2) hp O2.out P2.out
  replace S0 := S0.trans (hB.mono S0.size)
  replace C1 := C1.below hB
  replace LT := lies.on_call LT hB
  replace LB := lies.on_call LB hB
  clear hB
  have C2 : Cs w11 b11 o11 _ _ := ⟨hb11, x0, x1⟩
  clear hp hb11 x0 x1
  go_wp2_with fail
  refine (ilaw.two_is 1 (-5) 3 1 w11).mono ?_
  rintro e w12 ⟨g12, hg12, rfl, L1, hB⟩
  replace S0 := S0.trans (hB.mono S0.size)
  replace C1 := C1.below hB
  replace LT := lies.on_call LT hB
  replace LB := lies.on_call LB hB
  replace C2 := C2.below hB
  clear hB
  go_wp2_with fail
  refine (pick_told g12 _ w12 L1 rfl (by unfold Tops; decide)).mono ?_
  intro e w13 hp
  obtain ⟨hB, rfl⟩ := pick_none (m := 2) hp (by decide) O3.out
  replace S0 := S0.trans (hB.mono S0.size)
  replace C1 := C1.below hB
  replace LT := lies.on_call LT hB
  replace LB := lies.on_call LB hB
  replace C2 := C2.below hB
  replace L1 := lies.on_call L1 hB
  clear hB
  clear hp
  clear L1
  obtain ⟨y0, y1, y2, y3, y4⟩ := lies.two LB
  go_wp2_with fail
  clear y0 y1 y2 y3 y4
  have LO := lies.made w13 29 #[.int .i64 1]
  have hB := bound.up1 w13 (.cells #[.int .i64 1] 29)
  replace S0 := S0.trans (hB.mono S0.size)
  replace C1 := C1.below hB
  replace LT := lies.on_call LT hB
  replace LB := lies.on_call LB hB
  replace C2 := C2.below hB
  clear hB
  generalize w13.heap.size = xo at LO ⊢
  generalize w13.alloc (.cells #[.int .i64 1] 29) = uo at LT LB C1 C2 S0 LO ⊢
  have ii := dlaw.own_ints (cap := 4) LT
  have jj := dlaw.own_ints (us := [1]) (cap := 1) LO
  refine (in_any 2 1 _ _ [1, 9223372036854775807, 9223372036854775807, 1] [1] uo ii jj (by decide) (by decide) (by unfold Tops; decide) (by unfold Tops; decide)).mono ?_
  intro e w14 hp
  obtain ⟨rfl, hB⟩ := asks_dim hp (by decide) (by decide) (by decide)
  replace S0 := S0.trans (hB.mono S0.size)
  replace C1 := C1.below hB
  replace LT := lies.on_call LT hB
  replace LB := lies.on_call LB hB
  replace C2 := C2.below hB
  clear hB
  clear hp ii jj LO LT LB
  obtain ⟨z0, z1, z2⟩ := C1
  go_wp2_with fail
  clear z0 z1 z2
  refine (ilaw.alive_yes w14).mono ?_
  rintro e wz ⟨rfl, hB⟩
  replace S0 := S0.trans (hB.mono S0.size)
  replace C2 := C2.below hB
  clear hB
  obtain ⟨z0, z1, z2⟩ := C2
  go_wp2_with fail
  go_ret
  exact ⟨rfl, S0⟩

set_option maxRecDepth 100000 in
theorem lifted (os : Os) (started : os.Started) (H : Type) (enc : TypeId × Value → H) :
    ReturnsInHanded {} Try.checked os 3 .any (Rows.inclNamesSpec.pre6 enc Try.prog Try.f3 Rows.inclNamesRow.domain false) (Rows.inclNamesSpec.post enc Try.prog Try.f3 false true false false) := by
  refine returnsInHanded_of_change (C := Try.checked) law.own started (by kernel_rfl) Try.func3
    (ChangeSpec.witness6 (enc := enc) (C := Try.checked) false ⟨#[], #[], []⟩ 8 (by kernel_rfl) (by kernel_rfl) (by kernel_rfl) (by kernel_rfl)) ?_
  intro W base args ds gs before hval0 hW _ _
  have hW' := hW
  obtain ⟨p, q, hA0, hV, rfl, _, _⟩ := hW
  have hA : DataW.TrodAll enc Try.prog W 0 (fun _ => true) true Try.f3.params.toList args.toList ds p := hA0
  rw [Try.params3] at hA
  obtain ⟨rfl, rfl, rfl⟩ := trodAll_none hA
  refine (walk   W).mono fun e W' ⟨he, hB⟩ => ?_
  subst he
  exact ⟨_, rfl, law.post_true law.laidOut (by kernel_rfl) rfl Try.underlying4 rfl hW' (fun h => by subst h; rfl) hB⟩

theorem proved : Rows.InclNamesSaid :=
  OpenClaim.holds_of_wide 3 Try.f3 rfl rfl rfl rfl rfl rfl rfl ⟨rfl, rfl, rfl, rfl, rfl⟩ rfl rfl rfl rfl rfl (by kernel_rfl) Try.func3 (by kernel_rfl)
    (of_decide_eq_true (by kernel_rfl)) (by unfold Func.isWrapper; first | (rw [if_pos (by decide +kernel)]; kernel_rfl) | (rw [if_neg (by decide +kernel)]; exact ⟨rfl, rfl⟩))
    (fun os started H enc _ => lifted os started H enc)
#print axioms proved
end Go.Proofs.Ytnbpcgkdnkihdaa.inclNames
