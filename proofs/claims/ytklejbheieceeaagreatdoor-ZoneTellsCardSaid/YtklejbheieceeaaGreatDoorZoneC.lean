/-
  Which zone is ahead: what Cmp of package zone answers; each theorem names its conditions.
-/
import Derived.Test.YtklejbheieceeaaGreatDoorZoneA
import Derived.Test.YtklejbheieceeaaGreatDoorZoneO
namespace Go.Proofs.YtklejbheieceeaaGreatDoor.zone
open Go.Joins Go.ChangeShapes Go.WideShapes Go.ChangeAt Go.RowKit num rat dbm Go.Proofs.YtklejbheieceeaaGreatDoor.zopen
open bound hiding up
set_option linter.unusedVariables false
set_option linter.unusedSimpArgs false

theorem nan_is (x : Int) (w : World) : Calls Tryz.prog 100 #[.int .i64 x] w fun e w' => e = .returned (.bool false) ∧ w = w' := by
  have t : (x != x) = false := by simp
  go_enter Tryz.func100, Tryz.ntmps100
  go_wp2
  go_ret
  exact ⟨rfl, rfl⟩
def cmp1 (x y : Int) : Int := if x < y then -1 else if y < x then 1 else 0
theorem compare1_is (x y : Int) (w : World) : Calls Tryz.prog 69 #[.int .i64 x, .int .i64 y] w fun e w' => e = .returned (.int .i64 (cmp1 x y)) ∧ w = w' := by
  have c1 := Lib.hid (nan_is x w)
  have c2 := Lib.hid (nan_is y w)
  unfold cmp1
  by_cases h : x < y
  · rw [if_pos h]
    go_enter Tryz.func69, Tryz.ntmps69
    go_wp2_with fail
    refine c1.out.mono ?_
    rintro e w' ⟨rfl, rfl⟩
    go_wp2_with fail
    refine c2.out.mono ?_
    rintro e w' ⟨rfl, rfl⟩
    go_wp2_with fail
    go_ret
    exact ⟨rfl, rfl⟩
  · rw [if_neg h]
    by_cases k : y < x
    · rw [if_pos k]
      go_enter Tryz.func69, Tryz.ntmps69
      go_wp2_with fail
      refine c1.out.mono ?_
      rintro e w' ⟨rfl, rfl⟩
      go_wp2_with fail
      refine c2.out.mono ?_
      rintro e w' ⟨rfl, rfl⟩
      go_wp2_with fail
      go_ret
      exact ⟨rfl, rfl⟩
    · rw [if_neg k]
      go_enter Tryz.func69, Tryz.ntmps69
      go_wp2_with fail
      refine c1.out.mono ?_
      rintro e w' ⟨rfl, rfl⟩
      go_wp2_with fail
      refine c2.out.mono ?_
      rintro e w' ⟨rfl, rfl⟩
      go_wp2_with fail
      go_ret
      exact ⟨rfl, rfl⟩
theorem cmpL_up (ts us : List Int) (k : Nat) (h : k < ts.length) (h' : k < us.length) : cmpL (ts.drop k) (us.drop k) = if cmp1 (ts[k]?.getD 0) (us[k]?.getD 0) = 0 then cmpL (ts.drop (k + 1)) (us.drop (k + 1)) else cmp1 (ts[k]?.getD 0) (us[k]?.getD 0) := by
  rw [List.drop_eq_getElem_cons h, List.drop_eq_getElem_cons h']
  simp only [List.getElem?_eq_getElem h, List.getElem?_eq_getElem h', Option.getD_some]
  unfold cmp1
  show (if _ then _ else _) = _
  split
  · rfl
  · split
    · rfl
    · rfl

set_option maxRecDepth 100000 in
set_option maxHeartbeats 2000000 in
theorem compare_is (b c : Nat) (ts us : List Int) (w : World) (hr : Row w b 0 ts) (hs : Row w c 0 us) (hb : b < w.heap.size) (hc : c < w.heap.size) (hl : ts.length = 6) (hu : us.length = 6) :
    Calls Tryz.prog 39 #[.slice (some ⟨b, 0, none⟩) 6 6, .slice (some ⟨c, 0, none⟩) 6 6] w fun e w' => e = .returned (.int .i64 (cmpL ts us)) ∧ w = w' := by
  have HR := Lib.hid hr
  have HS := Lib.hid hs
  have HL := Lib.hid hl
  have HU := Lib.hid hu
  clear hr hs hl hu
  go_enter Tryz.func39, Tryz.ntmps39
  go_wp2_with fail
  go_loopw [11] (fun i wr => ∃ k : Nat, k ≤ 6 ∧ i = .int .i64 k ∧ wr = w ∧ RowKit.Hid (cmpL ts us = cmpL (ts.drop k) (us.drop k))) (fun i _ => 6 - (intOf i).toNat)
  case atStart => exact ⟨0, by decide, rfl, rfl, Lib.hid rfl⟩
  case round =>
    obtain ⟨k, hk, rfl, rfl, hA⟩ := hrel
    by_cases hk6 : k < 6
    · have m1 := HR.out k (by rw [HL.out]; exact hk6)
      have m2 := HS.out k (by rw [HU.out]; exact hk6)
      rw [Nat.zero_add] at m1 m2
      have hup := Lib.hid (cmpL_up ts us k (by rw [HL.out]; exact hk6) (by rw [HU.out]; exact hk6))
      generalize ts[k]?.getD 0 = x at m1 hup
      generalize us[k]?.getD 0 = y at m2 hup
      go_wp2_with fail
      refine (compare1_is x y _).mono ?_
      rintro e w' ⟨rfl, rfl⟩
      by_cases h : cmp1 x y = 0
      · have HH := Lib.hid h
        have t : (cmp1 x y != 0) = false := by rw [h]; rfl
        generalize cmp1 x y = v at t HH hup
        clear h
        go_wp2_with fail
        go_roundw
        case rel => exact ⟨k + 1, by omega, by go_num, (by simp), Lib.hid (by rw [hA.out, hup.out, if_pos HH.out])⟩
        case measure => simp [intOf]; omega
      · have HH := Lib.hid h
        have t : (cmp1 x y != 0) = true := by simpa using h
        clear h
        generalize cmp1 x y = v at t HH hup
        go_wp2_with fail
        go_ret
        exact ⟨by rw [hA.out, hup.out, if_neg HH.out]; rfl, rfl⟩
    · obtain rfl : k = 6 := by omega
      go_wp2_with fail
      go_ret
      refine ⟨?_, rfl⟩
      rw [hA.out, List.drop_eq_nil_of_le (by rw [HL.out]; exact Nat.le_refl _), List.drop_eq_nil_of_le (by rw [HU.out]; exact Nat.le_refl _)]
      rfl
theorem row_six {W : World} {g : Nat} {t : TypeId} {a b c d e f : Int} (h : lies.Lies W g t #[.int .i64 a, .int .i64 b, .int .i64 c, .int .i64 d, .int .i64 e, .int .i64 f]) : Row W g 0 [a, b, c, d, e, f] := fun p hp => by
  have hp : p < 6 := hp
  rw [Nat.zero_add, lies.cell h p]
  rcases (by omega : p = 0 ∨ p = 1 ∨ p = 2 ∨ p = 3 ∨ p = 4 ∨ p = 5) with rfl | rfl | rfl | rfl | rfl | rfl <;> rfl
set_option maxRecDepth 100000 in
set_option maxHeartbeats 2000000 in
theorem cmp_is (a0 a1 a2 a3 a4 a5 b0 b1 b2 b3 b4 b5 : Int) (w : World) :
    Calls Tryz.prog 19 #[.agg #[.int .i64 a0, .int .i64 a1, .int .i64 a2, .int .i64 a3, .int .i64 a4, .int .i64 a5], .agg #[.int .i64 b0, .int .i64 b1, .int .i64 b2, .int .i64 b3, .int .i64 b4, .int .i64 b5]] w fun e w' => e = .returned (.int .i64 (cmpL [a0, a1, a2, a3, a4, a5] [b0, b1, b2, b3, b4, b5])) ∧ Below w.heap.size w w' := by
  have DB := bound.up2 w (.cells #[.int .i64 a0, .int .i64 a1, .int .i64 a2, .int .i64 a3, .int .i64 a4, .int .i64 a5] 24) (.cells #[.int .i64 b0, .int .i64 b1, .int .i64 b2, .int .i64 b3, .int .i64 b4, .int .i64 b5] 24)
  have D0 := lies.on_alloc (lies.made w 24 #[.int .i64 a0, .int .i64 a1, .int .i64 a2, .int .i64 a3, .int .i64 a4, .int .i64 a5]) (.cells #[.int .i64 b0, .int .i64 b1, .int .i64 b2, .int .i64 b3, .int .i64 b4, .int .i64 b5] 24)
  have D1 := lies.made_at (w.alloc (.cells #[.int .i64 a0, .int .i64 a1, .int .i64 a2, .int .i64 a3, .int .i64 a4, .int .i64 a5] 24)) 24 #[.int .i64 b0, .int .i64 b1, .int .i64 b2, .int .i64 b3, .int .i64 b4, .int .i64 b5] (w.heap.size + 1) (by simp)
  go_enter Tryz.func19, Tryz.ntmps19
  go_wp2_with fail
  generalize (w.alloc (.cells #[.int .i64 a0, .int .i64 a1, .int .i64 a2, .int .i64 a3, .int .i64 a4, .int .i64 a5] 24)).alloc (.cells #[.int .i64 b0, .int .i64 b1, .int .i64 b2, .int .i64 b3, .int .i64 b4, .int .i64 b5] 24) = w0 at DB D0 D1 ⊢
  refine wp_region_held_drew (S := Below w0.heap.size w0) (by kernel_rfl) (dbm.drawn1 (Below.refl _ _)) (fun hHeld => ?_)
  refine wpAnyH_take (i := 0) (v := ?_) rfl (by kernel_rfl) (by kernel_rfl) (by kernel_rfl) (fun _ _ _ h => h) (Or.inl ⟨by rfl, ?_⟩) hHeld ?_
  rotate_left
  · intro w hSw; skip; go_simp; try with_reducible rfl
  try simp only [Act.put, List.getElem_toArray, List.getElem_cons_zero, List.getElem_cons_succ, List.setIfInBounds_toArray, List.set_cons_zero, List.set_cons_succ]
  refine wpAnyH_take (i := 1) (v := ?_) rfl (by kernel_rfl) (by kernel_rfl) (by kernel_rfl) (fun _ _ _ h => h) (Or.inl ⟨by rfl, ?_⟩) hHeld ?_
  rotate_left
  · intro w hSw; skip; go_simp; try with_reducible rfl
  try simp only [Act.put, List.getElem_toArray, List.getElem_cons_zero, List.getElem_cons_succ, List.setIfInBounds_toArray, List.set_cons_zero, List.set_cons_succ]
  refine wpAnyH_ready (rs := [2]) (by kernel_rfl) (by simp) (AllReadyH.cons rfl (fun K hK => ?_) AllReadyH.nil)
  go_simp
  refine (compare_is w.heap.size (w.heap.size + 1) [a0, a1, a2, a3, a4, a5] [b0, b1, b2, b3, b4, b5] _ (row_six (lies.on_call D0 hHeld)) (row_six (lies.on_call D1 hHeld)) (Nat.lt_of_lt_of_le (lies.lt D0) hHeld.size) (Nat.lt_of_lt_of_le (lies.lt D1) hHeld.size) rfl rfl).mono ?_
  rintro e w' ⟨rfl, rfl⟩
  refine hK.out _ _ hHeld (fun hNew => ?_)
  clear hHeld hK K
  have hHeld := hNew
  clear hNew
  try simp only [Act.put, List.getElem_toArray, List.getElem_cons_zero, List.getElem_cons_succ, List.setIfInBounds_toArray, List.set_cons_zero, List.set_cons_succ]
  refine wpAnyH_take (i := 3) (v := ?_) rfl (by kernel_rfl) (by kernel_rfl) (by kernel_rfl) (fun _ _ _ h => h) (Or.inl ⟨by rfl, ?_⟩) hHeld ?_
  rotate_left
  · intro w hSw; skip; go_simp; try with_reducible rfl
  try simp only [Act.put, List.getElem_toArray, List.getElem_cons_zero, List.getElem_cons_succ, List.setIfInBounds_toArray, List.set_cons_zero, List.set_cons_succ]
  refine wpAnyH_done (by kernel_rfl) ?_ _
  have KZ := DB.trans (hHeld.mono DB.size)
  clear hHeld D0 D1
  go_wp2_with fail
  go_ret
  exact ⟨rfl, KZ⟩
end Go.Proofs.YtklejbheieceeaaGreatDoor.zone
