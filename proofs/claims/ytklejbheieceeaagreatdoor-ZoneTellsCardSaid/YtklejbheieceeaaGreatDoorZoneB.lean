/-
  Matrices of zones, and zones of matrices: what Matrix and Of of package zone answer; each theorem names its conditions.
-/
import Derived.Test.YtklejbheieceeaaGreatDoorZoneA
import Derived.Test.YtklejbheieceeaaGreatDoorLawA
import Derived.Test.YtklejbheieceeaaGreatDoorZoneO
namespace Go.Proofs.YtklejbheieceeaaGreatDoor.zone
open Go.Joins Go.ChangeShapes Go.WideShapes Go.ChangeAt Go.RowKit num rat dbm Go.Proofs.YtklejbheieceeaaGreatDoor.tight Go.Proofs.YtklejbheieceeaaGreatDoor.incl Go.Proofs.YtklejbheieceeaaGreatDoor.plaw Go.Proofs.YtklejbheieceeaaGreatDoor.zopen
open bound hiding up
set_option linter.unusedVariables false
set_option linter.unusedSimpArgs false

/-- a bound of a zone by value. -/
theorem index_six (z0 z1 z2 z3 z4 z5 : Int) (p : Nat) (hp : p < 6) (W : World) : (Instr.index 24 (.agg #[.int .i64 z0, .int .i64 z1, .int .i64 z2, .int .i64 z3, .int .i64 z4, .int .i64 z5]) (.int .i64 p)).run Tryz.prog W = .ok (.int .i64 ([z0, z1, z2, z3, z4, z5][p]?.getD 0)) W := by
  rcases (by omega : p = 0 ∨ p = 1 ∨ p = 2 ∨ p = 3 ∨ p = 4 ∨ p = 5) with rfl | rfl | rfl | rfl | rfl | rfl <;> kernel_rfl
theorem top3_is (w : World) : Calls Tryz.prog 21 #[.int .i64 3] w fun e w' => Below w.heap.size w w' ∧ ∃ g, w.heap.size ≤ g ∧ e = .returned (.tuple #[.agg #[.int .i64 3, .slice (some ⟨g, 0, none⟩) 9 9], .int .i64 0]) ∧ lies.Lies w' g 22 (cellsOf [1, 9223372036854775807, 9223372036854775807, 9223372036854775807, 1, 9223372036854775807, 9223372036854775807, 9223372036854775807, 1]) := by
  refine (top_ok 3 w (by decide) (by decide)).mono fun e w' h => ?_
  obtain ⟨hB, g, hg, he, hL⟩ := h
  have e1 : topT 3 (by decide) = [1, 9223372036854775807, 9223372036854775807, 9223372036854775807, 1, 9223372036854775807, 9223372036854775807, 9223372036854775807, 1] := by decide +kernel
  rw [e1] at hL
  exact ⟨hB, g, hg, he, hL⟩

/-- where a zone's bound stands in its matrix. -/
def plc (p : Nat) : Nat := [3, 1, 6, 2, 7, 5][p]?.getD 0
theorem plc_lt {p : Nat} (h : p < 6) : plc p < 9 := by
  rcases (by omega : p = 0 ∨ p = 1 ∨ p = 2 ∨ p = 3 ∨ p = 4 ∨ p = 5) with rfl | rfl | rfl | rfl | rfl | rfl <;> decide
theorem pl_cell {W : World} {p : Nat} (h : Pl W) (hp : p < 6) : W.cell? ⟨0, p, none⟩ = some (.int .i64 (plc p : Int)) := by
  obtain ⟨_, h1, h2, h3, h4, h5, h6⟩ := h
  rcases (by omega : p = 0 ∨ p = 1 ∨ p = 2 ∨ p = 3 ∨ p = 4 ∨ p = 5) with rfl | rfl | rfl | rfl | rfl | rfl
  · exact h1
  · exact h2
  · exact h3
  · exact h4
  · exact h5
  · exact h6
/-- a zone's matrix, as far as a place. -/
def partT (z : List Int) : Nat → List Int
  | 0 => [1, 9223372036854775807, 9223372036854775807, 9223372036854775807, 1, 9223372036854775807, 9223372036854775807, 9223372036854775807, 1]
  | p + 1 => (partT z p).set (plc p) (z[p]?.getD 0)
theorem partT_length (z : List Int) : ∀ p, (partT z p).length = 9
  | 0 => rfl
  | p + 1 => by unfold partT; rw [List.length_set]; exact partT_length z p
/-- what Matrix answers. -/
def MatR (z : List Int) (na : Int) (us : List Int) (f : Int) : Prop := (MayD 3 (fullT z) ∧ na = 3 ∧ us = fullT z ∧ f = 0) ∨ (¬ MayD 3 (fullT z) ∧ na = 0 ∧ us = [] ∧ f = 8)
/-- what lies in the round of Matrix. -/
def Mx (g T : Nat) (us : List Int) (w W : World) : Prop :=
  lies.Lies W (w.heap.size + 1) 27 #[.int .i64 0, .slice none 0 0] ∧ lies.Lies W T 27 #[.int .i64 3, .slice (some ⟨g, 0, none⟩) 9 9] ∧ lies.Lies W g 22 (cellsOf us) ∧ Below w.heap.size w W ∧ Pl W
theorem Mx.below {g T : Nat} {us : List Int} {w W X : World} (h : Mx g T us w W) (k : Below W.heap.size W X) : Mx g T us w X :=
  ⟨lies.on_call h.1 k, lies.on_call h.2.1 k, lies.on_call h.2.2.1 k, h.2.2.2.1.trans (k.mono h.2.2.2.1.size), h.2.2.2.2.on k⟩

set_option maxRecDepth 100000 in
set_option maxHeartbeats 8000000 in
theorem matrix_any (z0 z1 z2 z3 z4 z5 : Int) (w : World) (hP : Pl w) (htop : Tops [z0, z1, z2, z3, z4, z5]) :
    Calls Tryz.prog 4 #[.agg #[.int .i64 z0, .int .i64 z1, .int .i64 z2, .int .i64 z3, .int .i64 z4, .int .i64 z5]] w fun e w' => Below w.heap.size w w' ∧ ∃ na aa la ca us f, e = .returned (.tuple #[.agg #[.int .i64 na, .slice aa la ca], .int .i64 f]) ∧ MatR [z0, z1, z2, z3, z4, z5] na us f ∧ Blk w.heap.size w' aa la ca us := by
  have HT := Lib.hid (full_tops htop)
  have DB := bound.up2 w (.cells #[.int .i64 z0, .int .i64 z1, .int .i64 z2, .int .i64 z3, .int .i64 z4, .int .i64 z5] 24) (.cells #[.int .i64 0, .slice none 0 0] 27)
  have D1 := lies.made_at (w.alloc (.cells #[.int .i64 z0, .int .i64 z1, .int .i64 z2, .int .i64 z3, .int .i64 z4, .int .i64 z5] 24)) 27 #[.int .i64 0, .slice none 0 0] (w.heap.size + 1) (by simp)
  have D0 := lies.on_alloc (lies.made w 24 #[.int .i64 z0, .int .i64 z1, .int .i64 z2, .int .i64 z3, .int .i64 z4, .int .i64 z5]) (.cells #[.int .i64 0, .slice none 0 0] 27)
  have PB := hP.on DB
  have HP := Lib.hid hP
  clear htop hP
  go_enter Tryz.func4, Tryz.ntmps4
  go_wp2_with fail
  refine (top3_is _).mono ?_
  rintro e w2 ⟨hB2, g, hg2, rfl, hG⟩
  have E0 := lies.on_call D0 hB2
  have E1 := lies.on_call D1 hB2
  have K2 := DB.trans (hB2.mono DB.size)
  have P2 := PB.on hB2
  have hw1 := lies.lt E1
  clear D0 D1 hB2 PB
  have f0 := lies.cell E0 0
  have f1 := lies.cell E0 1
  have f2 := lies.cell E0 2
  have f3 := lies.cell E0 3
  have f4 := lies.cell E0 4
  have f5 := lies.cell E0 5
  have f6 := lies.lt E0
  have W0 : Mx g w2.heap.size (partT [z0, z1, z2, z3, z4, z5] 0) w (w2.alloc (.cells #[.int .i64 3, .slice (some ⟨g, 0, none⟩) 9 9] 27)) :=
    ⟨lies.on_alloc E1 _, lies.made _ _ _, lies.on_alloc hG _, K2.alloc K2.size _, P2.on (bound.up1 w2 _)⟩
  have hgT : g ≠ w2.heap.size := by have := lies.lt hG; omega
  have hg1 : w.heap.size + 1 < g := by simp at hg2; omega
  have hT1 : w.heap.size + 1 < w2.heap.size := by omega
  have hw0 : 0 < w.heap.size := HP.out.1
  clear E1 K2 hG hw1 DB hg2 P2
  go_wp2_with fail
  clear f0 f1 f2 f3 f4 f5 f6 E0
  generalize w2.heap.size = T at W0 hgT hT1 ⊢
  generalize w2.alloc (.cells #[.int .i64 3, .slice (some ⟨g, 0, none⟩) 9 9] 27) = w3 at W0 ⊢
  go_loopw [14] (fun i wr => ∃ p : Nat, p ≤ 6 ∧ i = .int .i64 p ∧ Mx g T (partT [z0, z1, z2, z3, z4, z5] p) w wr) (fun i _ => 6 - (intOf i).toNat)
  case atStart => exact ⟨0, Nat.zero_le _, rfl, W0⟩
  case round =>
    clear W0
    obtain ⟨p, hp, rfl, hA⟩ := hrel
    by_cases hp6 : p < 6
    · obtain ⟨c0, c1, c2, c3, c4⟩ := lies.two hA.2.1
      have hix := index_six z0 z1 z2 z3 z4 z5 p hp6 wr
      have HX := Lib.hid (show partT [z0, z1, z2, z3, z4, z5] (p + 1) = (partT [z0, z1, z2, z3, z4, z5] p).set (plc p) ([z0, z1, z2, z3, z4, z5][p]?.getD 0) from rfl)
      have hln := partT_length [z0, z1, z2, z3, z4, z5] p
      have hq9 := plc_lt hp6
      have HC := Lib.hid (fun (W : World) (h : Pl W) => pl_cell h hp6)
      generalize partT [z0, z1, z2, z3, z4, z5] p = us at hA hln HX
      generalize [z0, z1, z2, z3, z4, z5][p]?.getD 0 = x at hix HX
      generalize plc p = q at HX hq9 HC
      have HLN := Lib.hid hln
      have hqi : (q : Int) < 9 := by omega
      clear hln
      go_wp2_with fail
      clear c0 c1 c2 c3 c4 hix
      have S0 : ∀ (vs : List Int) W, Mx g T vs w W → W.cell? ⟨T, 1, none⟩ = some (.slice (some ⟨g, 0, none⟩) 9 9) ∧ W.cell? ⟨0, p, none⟩ = some (.int .i64 q) := fun vs W hW => ⟨(lies.pair hW.2.1).2, HC.out W hW.2.2.2.2⟩
      have A3 := hA.below (dbm.drawn1 (Below.refl wr.heap.size wr))
      have HS0 := Lib.hid S0
      have hs3 := S0 _ _ A3
      have hgg := lies.lt hA.2.2.1
      have h00 := hA.2.2.2.2.1
      clear S0
      refine wp_region_held_drew (S := fun W => W.cell? ⟨T, 1, none⟩ = some (.slice (some ⟨g, 0, none⟩) 9 9) ∧ W.cell? ⟨0, p, none⟩ = some (.int .i64 q)) (by kernel_rfl) hs3 (fun hHeld => ?_)
      clear hs3
      refine wpAnyH_take (i := 0) (v := ?_) rfl (by kernel_rfl) (by kernel_rfl) (by kernel_rfl) (fun _ _ _ h => h) (Or.inl ⟨by rfl, ?_⟩) hHeld ?_
      rotate_left
      · intro w hSw; obtain ⟨s1, s2⟩ := hSw; go_simp; try with_reducible rfl
      try simp only [Act.put, List.getElem_toArray, List.getElem_cons_zero, List.getElem_cons_succ, List.setIfInBounds_toArray, List.set_cons_zero, List.set_cons_succ]
      refine wpAnyH_take (i := 1) (v := ?_) rfl (by kernel_rfl) (by kernel_rfl) (by kernel_rfl) (fun _ _ _ h => h) (Or.inl ⟨by rfl, ?_⟩) hHeld ?_
      rotate_left
      · intro w hSw; obtain ⟨s1, s2⟩ := hSw; go_simp; try with_reducible rfl
      try simp only [Act.put, List.getElem_toArray, List.getElem_cons_zero, List.getElem_cons_succ, List.setIfInBounds_toArray, List.set_cons_zero, List.set_cons_succ]
      refine wpAnyH_take (i := 2) (v := ?_) rfl (by kernel_rfl) (by kernel_rfl) (by kernel_rfl) (fun _ _ _ h => h) (Or.inl ⟨by rfl, ?_⟩) hHeld ?_
      rotate_left
      · intro w hSw; obtain ⟨s1, s2⟩ := hSw; go_simp; try with_reducible rfl
      try simp only [Act.put, List.getElem_toArray, List.getElem_cons_zero, List.getElem_cons_succ, List.setIfInBounds_toArray, List.set_cons_zero, List.set_cons_succ]
      refine wpAnyH_take (i := 3) (v := ?_) rfl (by kernel_rfl) (by kernel_rfl) (by kernel_rfl) (fun _ _ _ h => h) (Or.inl ⟨by rfl, ?_⟩) hHeld ?_
      rotate_left
      · intro w hSw; obtain ⟨s1, s2⟩ := hSw; go_simp; try with_reducible rfl
      try simp only [Act.put, List.getElem_toArray, List.getElem_cons_zero, List.getElem_cons_succ, List.setIfInBounds_toArray, List.set_cons_zero, List.set_cons_succ]
      refine wpAnyH_take (i := 4) (v := ?_) rfl (by kernel_rfl) (by kernel_rfl) (by kernel_rfl) (fun _ _ _ h => h) (Or.inl ⟨by rfl, ?_⟩) hHeld ?_
      rotate_left
      · intro w hSw; obtain ⟨s1, s2⟩ := hSw; go_simp; try with_reducible rfl
      try simp only [Act.put, List.getElem_toArray, List.getElem_cons_zero, List.getElem_cons_succ, List.setIfInBounds_toArray, List.set_cons_zero, List.set_cons_succ]
      refine wpAnyH_take (i := 5) (v := ?_) rfl (by kernel_rfl) (by kernel_rfl) (by kernel_rfl) (fun _ _ _ h => h) (Or.inl ⟨by rfl, ?_⟩) hHeld ?_
      rotate_left
      · intro w hSw; obtain ⟨s1, s2⟩ := hSw; go_simp; try with_reducible rfl
      try simp only [Act.put, List.getElem_toArray, List.getElem_cons_zero, List.getElem_cons_succ, List.setIfInBounds_toArray, List.set_cons_zero, List.set_cons_succ]
      refine wpAnyH_take (i := 6) (v := ?_) rfl (by kernel_rfl) (by kernel_rfl) (by kernel_rfl) (fun _ _ _ h => h) (Or.inl ⟨by rfl, ?_⟩) hHeld ?_
      rotate_left
      · intro w hSw; obtain ⟨s1, s2⟩ := hSw; go_simp; try with_reducible rfl
      try simp only [Act.put, List.getElem_toArray, List.getElem_cons_zero, List.getElem_cons_succ, List.setIfInBounds_toArray, List.set_cons_zero, List.set_cons_succ]
      have hcell := (lies.cell hA.2.2.1 q).trans (cells_at us q (by rw [HLN.out]; exact hq9))
      have hfree := lies.free hA.2.2.1 q
      refine wpAnyH_ready (rs := [7]) (by kernel_rfl) (by simp) (AllReadyH.cons rfl (fun K hK => ?_) AllReadyH.nil)
      go_simp
      have A4 : Mx g T (us.set q x) w (wr.setCell ⟨g, q, none⟩ (.int .i64 x)).drew := by
        have Pt := lies.on_put hA.2.2.1 q (.int .i64 x)
        rw [cells_set] at Pt
        have D := fun {bb : Nat} {t : TypeId} {cs : Array Value} (h : lies.Lies wr bb t cs) (hne : bb ≠ g) => lies.on_call (lies.on_far h q hne (.int .i64 x)) (dbm.drawn1 (Below.refl _ _))
        have hBg := hA.2.2.2.1
        exact ⟨D hA.1 (by omega), D hA.2.1 (Ne.symm hgT), lies.on_call Pt (dbm.drawn1 (Below.refl _ _)), dbm.drawn1 (hA.2.2.2.1.setCell (p := ⟨g, q, none⟩) (by dsimp only; omega) _), hA.2.2.2.2.below (dbm.drawn1 ((Below.refl w.heap.size wr).setCell (p := ⟨g, q, none⟩) (by dsimp only; omega) _)) (Nat.lt_of_lt_of_le hw0 (Nat.le_refl _))⟩
      refine hK.out _ _ (HS0.out _ _ A4) (fun hNew => ?_)
      clear hHeld hK K hNew HS0 hcell hfree hA A3
      refine wpAnyH_done (by kernel_rfl) ?_ _
      generalize (wr.setCell ⟨g, q, none⟩ (.int .i64 x)).drew = w6 at A4 ⊢
      go_wp2_with fail
      go_roundw
      case rel => exact ⟨p + 1, by omega, by go_num, by rw [HX.out]; exact A4⟩
      case measure => simp [intOf]; omega
    · obtain rfl : p = 6 := by omega
      have hT6 : partT [z0, z1, z2, z3, z4, z5] 6 = fullT [z0, z1, z2, z3, z4, z5] := rfl
      rw [hT6] at hA
      obtain ⟨c0, c1, c2, c3, c4⟩ := lies.two hA.2.1
      obtain ⟨x0, x1, x2, x3, x4⟩ := lies.two hA.1
      have hI : law.Ints wr.heap.size wr (.slice (some ⟨g, 0, none⟩) 9 9) (fullT [z0, z1, z2, z3, z4, z5]) := dlaw.own_ints (cap := 9) hA.2.2.1
      go_wp2_with fail
      clear c0 c1 c2 c3 c4 x0 x1 x2 x3 x4
      by_cases hm : MayD 3 (fullT [z0, z1, z2, z3, z4, z5])
      · refine (check_ok 3 _ _ _ hI HT.out hm).mono ?_
        rintro e w7 ⟨rfl, hB⟩
        have A7 := hA.below hB
        have HM := Lib.hid hm
        clear hA hB hI hm
        obtain ⟨c0, c1, c2, c3, c4⟩ := lies.two A7.2.1
        obtain ⟨x0, x1, x2, x3, x4⟩ := lies.two A7.1
        go_wp2_with fail
        refine bodyPost_ret (v := .tuple #[.agg #[.int .i64 3, .slice (some ⟨g, 0, none⟩) 9 9], .int .i64 0]) (by simp [results, Tryz.results4, go_sem, x0, x1, x4]) rfl ⟨dref.ret_res A7.2.2.2.1 (by omega) _ _, 3, some ⟨g, 0, none⟩, 9, 9, _, 0, rfl, .inl ⟨HM.out, rfl, rfl, rfl⟩, .inr ⟨g, by omega, rfl, rfl, lies.on_far (lies.on_far A7.2.2.1 (b := w.heap.size + 1) 0 (by omega) _) (b := w.heap.size + 1) 1 (by omega) _⟩⟩
      · refine (check_no 3 _ _ _ hI (show 9 ≤ 1000000 by decide) HT.out hm).mono ?_
        rintro e w7 ⟨rfl, hB⟩
        have A7 := hA.below hB
        have HM := Lib.hid hm
        clear hA hB hI hm
        obtain ⟨x0, x1, x2, x3, x4⟩ := lies.two A7.1
        go_wp2_with fail
        refine bodyPost_ret (v := .tuple #[.agg #[.int .i64 0, .slice none 0 0], .int .i64 8]) (by simp [results, Tryz.results4, go_sem, x0, x1, x4]) rfl ⟨dref.ret_res A7.2.2.2.1 (by omega) _ _, 0, none, 0, 0, _, 8, rfl, .inr ⟨HM.out, rfl, rfl, rfl⟩, .inl ⟨rfl, rfl, rfl, rfl⟩⟩
end Go.Proofs.YtklejbheieceeaaGreatDoor.zone
