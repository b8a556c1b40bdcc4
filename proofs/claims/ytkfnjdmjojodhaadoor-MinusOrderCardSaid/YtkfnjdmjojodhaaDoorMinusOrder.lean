/-
  MinusOrder answers true for every two zones, and zones; the listed variable reads as the program lays it.
-/
import Derived.Test.YtkfnjdmjojodhaaDoorMinusG
import Derived.Test.YtkfnjdmjojodhaaDoorCards
import Derived.Test.YtkfnjdmjojodhaaDoorTie
import Derived.BigQuiet
namespace Go.Proofs.YtkfnjdmjojodhaaDoor.minusOrder
open Go.Joins Go.ChangeShapes Go.WideShapes Go.ChangeAt Go.RowKit num rat dbm Go.Proofs.YtkfnjdmjojodhaaDoor.tight Go.Proofs.YtkfnjdmjojodhaaDoor.incl Go.Proofs.YtkfnjdmjojodhaaDoor.plaw Go.Proofs.YtkfnjdmjojodhaaDoor.zopen Go.Proofs.YtkfnjdmjojodhaaDoor.zone Go.Proofs.YtkfnjdmjojodhaaDoor.zlaw Go.Proofs.YtkfnjdmjojodhaaDoor.win Go.Proofs.YtkfnjdmjojodhaaDoor.minus Go.Proofs.YtkfnjdmjojodhaaDoor.mz Go.Proofs.YtkfnjdmjojodhaaDoor.mlaw dref
open bound hiding up
set_option linter.unusedVariables false
set_option linter.unusedSimpArgs false

theorem take_flat {ms : List (List (List Int))} {k : Nat} (h : k < ms.length) : (ms.take (k + 1)).flatten = (ms.take k).flatten ++ (ms[k]?.getD []) := by
  rw [List.take_add_one, List.flatten_append, List.getElem?_eq_getElem h]
  simp
theorem flat_len (ms : List (List (List Int))) (k : Nat) : ((ms.take k).flatten).length ≤ ms.flatten.length := by
  have e : ms.flatten = (ms.take k).flatten ++ (ms.drop k).flatten := by rw [← List.flatten_append, List.take_append_drop]
  rw [e, List.length_append]
  omega
/-- by some, and one more. -/
theorem order_facts {a b : List Int} {l r1 r2 : List (List Int)} (ha : a.length = 6) (ta : Tops a) (hb : b.length = 6) (tb : Tops b) (h6 : Six l) (h1 : LefR a l r1 0) (h2 : LefR a (l ++ [b]) r2 0) :
    MayZ a ∧ Zo b ∧ (∀ z, z ∈ r1 → Zo z) ∧ r1.length ≤ 4096 ∧ ∃ ms : List (List (List Int)), ms.length = r1.length ∧ r2 = ms.flatten ∧ r2.length ≤ 4096 ∧ (∀ z, z ∈ r2 → z.length = 6) ∧ ∀ k, k < r1.length → ∀ x g, MinR (zat r1 k) b x g → x = ms[k]?.getD [] ∧ g = 0 := by
  rcases h1 with ⟨_, _, e⟩ | ⟨k1, k2, k3⟩
  · exact absurd e (by decide)
  rcases h2 with ⟨_, _, e⟩ | ⟨_, j2, j3⟩
  · exact absurd e (by decide)
  have za : ∀ z, z ∈ [a] → Zo z := fun z hz => by rw [List.mem_singleton.1 hz]; exact ⟨k1, ta, ha⟩
  have zl := h6.zo k2
  have zb : Zo b := ⟨j2 b (List.mem_append.2 (.inr List.mem_cons_self)), tb, hb⟩
  have zlb : ∀ z, z ∈ l ++ [b] → Zo z := fun z hz => by
    rcases List.mem_append.1 hz with q | q
    · exact zl z q
    · rw [List.mem_singleton.1 q]; exact zb
  have q1 := restP_ok l zl za k3
  have q2 := restP_ok (l ++ [b]) zlb za j3
  have z1 := rest_zo l zl za q1
  have z2 := rest_zo (l ++ [b]) zlb za q2
  have n1 := restP_len l [a] r1 zl za (by show 1 ≤ 4096; decide) k3
  have n2 := restP_len (l ++ [b]) [a] r2 zlb za (by show 1 ≤ 4096; decide) j3
  obtain ⟨n, e, hn, q⟩ := rest_app l q2
  obtain ⟨rfl, rfl⟩ := rest_same l q1 hn
  rcases q with ⟨e0, _⟩ | ⟨_, q⟩
  · exact (e0 rfl).elim
  obtain ⟨ms, m1, m2, m3⟩ := step_flat n q
  rw [List.nil_append] at m3
  refine ⟨k1, zb, z1, n1, ms, m1, m3, n2, fun z hz => (z2 z hz).2.2, fun k hk x g hx => ?_⟩
  have zk := z1 _ (zat_mem hk)
  rcases hx with ⟨p, _⟩ | ⟨_, _, p⟩
  · exact (p ⟨zk.1, zb.1⟩).elim
  · obtain ⟨e1, e2⟩ := less_same 6 (m2 k hk) (min_less zk zb p)
    exact ⟨e1, e2⟩

set_option maxRecDepth 100000 in
set_option maxHeartbeats 32000000 in
theorem walk (a0 a1 a2 a3 a4 a5 : Int) (v : Value) (l : List (List Int)) (b0 b1 b2 b3 b4 b5 : Int) (w : World) (ha : ∀ x ∈ [a0, a1, a2, a3, a4, a5], -9223372036854775808 ≤ x ∧ x ≤ 9223372036854775807) (hb : ∀ x ∈ [b0, b1, b2, b3, b4, b5], -9223372036854775808 ≤ x ∧ x ≤ 9223372036854775807) (hwf : Wf6 l) (hI : Zs w.heap.size w v l) (hm : l.length ≤ maxLen) (hc : ∀ a l c, v = .slice a l c → l ≤ c) (hP : Pl w) : Calls Tryd.prog 7 #[.agg #[.int .i64 a0, .int .i64 a1, .int .i64 a2, .int .i64 a3, .int .i64 a4, .int .i64 a5], v, .agg #[.int .i64 b0, .int .i64 b1, .int .i64 b2, .int .i64 b3, .int .i64 b4, .int .i64 b5]] w fun e w' => e = .returned (.bool true) ∧ Below w.heap.size w w' := by
  obtain ⟨ao, cap, rfl⟩ := zs_len hI
  have TA := Lib.hid (show Tops [a0, a1, a2, a3, a4, a5] from fun x hx => (ha x hx).2)
  have TB := Lib.hid (show Tops [b0, b1, b2, b3, b4, b5] from fun x hx => (hb x hx).2)
  have H6 := Lib.hid (show Six l from fun z hz => ⟨(hwf z hz).1, hwf.tops hz⟩)
  have H6B := Lib.hid (show Six (l ++ [[b0, b1, b2, b3, b4, b5]]) from fun z hz => by
    rcases List.mem_append.1 hz with q | q
    · exact H6.out z q
    · rw [List.mem_singleton.1 q]; exact ⟨rfl, TB.out⟩)
  have X : ∃ w0, w0 = (w.alloc (.cells #[.int .i64 a0, .int .i64 a1, .int .i64 a2, .int .i64 a3, .int .i64 a4, .int .i64 a5] 24)).alloc (.cells #[.int .i64 b0, .int .i64 b1, .int .i64 b2, .int .i64 b3, .int .i64 b4, .int .i64 b5] 24) := ⟨_, rfl⟩
  obtain ⟨w0, hX⟩ := X
  have DB : Below w.heap.size w w0 := by rw [hX]; exact bound.up2 w _ _
  have D0 : lies.Lies w0 (w.heap.size) 24 #[.int .i64 a0, .int .i64 a1, .int .i64 a2, .int .i64 a3, .int .i64 a4, .int .i64 a5] := by rw [hX]; exact lies.on_alloc (lies.made _ _ _) _
  have D1 : lies.Lies w0 (w.heap.size + 1) 24 #[.int .i64 b0, .int .i64 b1, .int .i64 b2, .int .i64 b3, .int .i64 b4, .int .i64 b5] := by rw [hX]; exact lies.made_at _ _ _ _ (by simp)
  have P0 := hP.on DB
  have HI := Lib.hid ((hI.below DB).mono DB.size)
  clear hP ha hb hwf hI hc hm
  go_enter Tryd.func7, Tryd.ntmps7
  go_wp2_with fail
  rw [← hX]
  clear hX
  refine (alive_yes w0 P0).mono ?_
  rintro e w1 ⟨rfl, hB⟩
  replace D0 := lies.on_call D0 hB
  replace D1 := lies.on_call D1 hB
  replace HI := Lib.hid ((HI.out.below hB).mono hB.size)
  replace P0 := P0.on hB
  replace DB := later DB hB
  clear hB
  by_cases h5 : l.length ≤ 4
  · skip
    have h5i : ¬ (4 : Int) < (l.length : Int) := by omega
    have h5m : l.length ≤ 1000000 := by omega
    have h5n : (l ++ [[b0, b1, b2, b3, b4, b5]]).length ≤ 1000000 := by rw [List.length_append, List.length_singleton]; omega
    obtain ⟨⟨kD0_0, kD0_1, kD0_2, kD0_3, kD0_4, kD0_5⟩, -⟩ := six_cells D0
    have kD0_l := lies.lt D0
    go_wp2_with fail
    clear kD0_0 kD0_1 kD0_2 kD0_3 kD0_4 kD0_5 kD0_l
    clear h5i h5
    refine (left_any a0 a1 a2 a3 a4 a5 ao l.length cap l w1 P0 TA.out HI.out H6.out rfl h5m).mono ?_
    rintro e w2 ⟨hB, v, r1, f1, rfl, hR, hO⟩
    have hO := zs_own hO
    obtain ⟨av, cv, rfl⟩ := zs_len hO
    have HV := Lib.hid hO
    have HR1 := Lib.hid hR
    clear hO hR
    replace D0 := lies.on_call D0 hB
    replace D1 := lies.on_call D1 hB
    replace HI := Lib.hid ((HI.out.below hB).mono hB.size)
    replace P0 := P0.on hB
    replace DB := later DB hB
    clear hB
    go_wp2_with fail
    refine wp_region_held_drew (S := Below w2.heap.size w2) (by kernel_rfl) (dbm.drawn1 (Below.refl _ _)) (fun hHeld => ?_)
    generalize hwD : w2.drew = wD at hHeld ⊢
    clear hwD
    refine wpAnyH_take (i := 0) (v := ?_) rfl (by kernel_rfl) (by kernel_rfl) (by kernel_rfl) (fun _ _ _ h => h) (Or.inl ⟨by rfl, ?_⟩) hHeld ?_
    rotate_left
    · intro w hSw; obtain ⟨⟨x0, x1, x2, x3, x4, x5⟩, _⟩ := six_cells (lies.on_call D0 hSw); go_simp; try with_reducible rfl
    try simp only [Act.put, List.getElem_toArray, List.getElem_cons_zero, List.getElem_cons_succ, List.setIfInBounds_toArray, List.set_cons_zero, List.set_cons_succ]
    refine wpAnyH_take (i := 1) (v := ?_) rfl (by kernel_rfl) (by kernel_rfl) (by kernel_rfl) (fun _ _ _ h => h) (Or.inl ⟨by rfl, ?_⟩) hHeld ?_
    rotate_left
    · intro w hSw; obtain ⟨⟨x0, x1, x2, x3, x4, x5⟩, _⟩ := six_cells (lies.on_call D0 hSw); go_simp; try with_reducible rfl
    try simp only [Act.put, List.getElem_toArray, List.getElem_cons_zero, List.getElem_cons_succ, List.setIfInBounds_toArray, List.set_cons_zero, List.set_cons_succ]
    refine wpAnyH_take (i := 3) (v := ?_) rfl (by kernel_rfl) (by kernel_rfl) (by kernel_rfl) (fun _ _ _ h => h) (Or.inl ⟨by rfl, ?_⟩) hHeld ?_
    rotate_left
    · intro w hSw; obtain ⟨⟨x0, x1, x2, x3, x4, x5⟩, _⟩ := six_cells (lies.on_call D1 hSw); go_simp; try with_reducible rfl
    try simp only [Act.put, List.getElem_toArray, List.getElem_cons_zero, List.getElem_cons_succ, List.setIfInBounds_toArray, List.set_cons_zero, List.set_cons_succ]
    refine wpAnyH_ready (rs := [2, 4]) (by kernel_rfl) (by simp) (AllReadyH.cons rfl (fun K hK => ?_) (AllReadyH.cons rfl (fun K hK => ?_) AllReadyH.nil))
    · skip
      obtain ⟨vp, wp, hrun, hown, hgrow, -⟩ := app_zones w2.heap.size 28 (.slice none 0 0) (.slice ao l.length cap) 0 _ [] l _ (World.ownsRow_nil _ _ _ _) (HI.out.below hHeld) (by omega) hHeld.size
      rw [Nat.zero_add, List.nil_append] at hown
      have hHp : Below w2.heap.size w2 wp := hHeld.grown hgrow hHeld.size (fun _ e => by cases e)
      rw [if_pos (by rfl)]
      refine wp_append_run (.const (.slice none 0 0)) (.tmp 35) 28 rfl _ _ vp wp rfl rfl hrun ?_
      clear hrun
      obtain ⟨bp, cp, rfl⟩ := zs_len (zs_own hown)
      refine hK.out _ _ hHp (fun hNew => ?_)
      clear hHp
      clear hHeld hK K
      have hHeld := hNew
      clear hNew
      try simp only [Act.put, List.getElem_toArray, List.getElem_cons_zero, List.getElem_cons_succ, List.setIfInBounds_toArray, List.set_cons_zero, List.set_cons_succ]
      refine wpAnyH_ready (rs := [4]) (by kernel_rfl) (by simp) (AllReadyH.cons rfl (fun K hK => ?_) AllReadyH.nil)
      go_simp
      have hAl := hHeld.trans ((bound.up1 wp (.cells #[.int .i64 b0, .int .i64 b1, .int .i64 b2, .int .i64 b3, .int .i64 b4, .int .i64 b5] 24)).mono hHeld.size)
      have hbox := zs_box (lies.made wp 24 #[.int .i64 b0, .int .i64 b1, .int .i64 b2, .int .i64 b3, .int .i64 b4, .int .i64 b5])
      replace hown := incl.own_call hown (bound.up1 wp (.cells #[.int .i64 b0, .int .i64 b1, .int .i64 b2, .int .i64 b3, .int .i64 b4, .int .i64 b5] 24))
      refine hK.out _ _ hAl (fun hNew => ?_)
      clear hAl
      clear hHeld hK K
      have hHeld := hNew
      clear hNew
      try simp only [Act.put, List.getElem_toArray, List.getElem_cons_zero, List.getElem_cons_succ, List.setIfInBounds_toArray, List.set_cons_zero, List.set_cons_succ]
      refine wpAnyH_ready (rs := [5]) (by kernel_rfl) (by simp) (AllReadyH.cons rfl (fun K hK => ?_) AllReadyH.nil)
      obtain ⟨vq, wq, hrun, hown2, hgrow2, -⟩ := app_zones w2.heap.size 28 (.slice bp l.length cp) _ l.length _ _ [[b0, b1, b2, b3, b4, b5]] _ hown hbox (by rw [List.length_singleton]; omega) hHeld.size
      have hHp : Below w2.heap.size w2 wq := held_grown hHeld hHeld.size hown (Nat.le_refl _) hgrow2
      rw [if_pos (by rfl)]
      refine wp_append_run (.tmp 36) (.tmp 38) 28 rfl _ _ vq wq rfl rfl hrun ?_
      clear hrun
      have hown3 : wq.ownsRow w2.heap.size 24 6 vq (l ++ [[b0, b1, b2, b3, b4, b5]]).length (flatZ (l ++ [[b0, b1, b2, b3, b4, b5]])) := by
        rw [List.length_append, flatZ_app]; exact hown2
      obtain ⟨bq, cq, eq3⟩ := zs_len (zs_own hown3)
      rw [List.length_append, List.length_singleton] at eq3
      subst eq3
      have HQ := Lib.hid (zs_own hown3)
      clear hown hown2 hown3 hbox hgrow2
      try clear hgrow
      refine hK.out _ _ hHp (fun hNew => ?_)
      clear hHp
      clear hHeld hK K
      have hHeld := hNew
      clear hNew
      try simp only [Act.put, List.getElem_toArray, List.getElem_cons_zero, List.getElem_cons_succ, List.setIfInBounds_toArray, List.set_cons_zero, List.set_cons_succ]
      refine wpAnyH_ready (rs := [6]) (by kernel_rfl) (by simp) (AllReadyH.cons rfl (fun K hK => ?_) AllReadyH.nil)
      go_simp
      refine (left_any a0 a1 a2 a3 a4 a5 bq (l.length + 1) cq (l ++ [[b0, b1, b2, b3, b4, b5]]) _ (P0.on hHeld) TA.out HQ.out H6B.out (by rw [List.length_append, List.length_singleton]) (by omega)).mono ?_
      rintro e wl ⟨hB, v2, r2, f2, rfl, hR, hO⟩
      have hO := zs_own hO
      obtain ⟨av2, cv2, rfl⟩ := zs_len hO
      have HV2 := Lib.hid hO
      have HR2 := Lib.hid hR
      clear hO hR HQ
      refine hK.out _ _ (hHeld.trans (hB.mono hHeld.size)) (fun hNew => ?_)
      clear hB
      clear hHeld hK K
      have hHeld := hNew
      clear hNew
      try simp only [Act.put, List.getElem_toArray, List.getElem_cons_zero, List.getElem_cons_succ, List.setIfInBounds_toArray, List.set_cons_zero, List.set_cons_succ]
      refine wpAnyH_take (i := 7) (v := ?_) rfl (by kernel_rfl) (by kernel_rfl) (by kernel_rfl) (fun _ _ _ h => h) (Or.inl ⟨by rfl, ?_⟩) hHeld ?_
      rotate_left
      · intro w hSw; skip; go_simp; try with_reducible rfl
      try simp only [Act.put, List.getElem_toArray, List.getElem_cons_zero, List.getElem_cons_succ, List.setIfInBounds_toArray, List.set_cons_zero, List.set_cons_succ]
      refine wpAnyH_take (i := 8) (v := ?_) rfl (by kernel_rfl) (by kernel_rfl) (by kernel_rfl) (fun _ _ _ h => h) (Or.inl ⟨by rfl, ?_⟩) hHeld ?_
      rotate_left
      · intro w hSw; skip; go_simp; try with_reducible rfl
      try simp only [Act.put, List.getElem_toArray, List.getElem_cons_zero, List.getElem_cons_succ, List.setIfInBounds_toArray, List.set_cons_zero, List.set_cons_succ]
      refine wpAnyH_take (i := 9) (v := ?_) rfl (by kernel_rfl) (by kernel_rfl) (by kernel_rfl) (fun _ _ _ h => h) (Or.inl ⟨by rfl, ?_⟩) hHeld ?_
      rotate_left
      · intro w hSw; skip; go_simp; try with_reducible rfl
      try simp only [Act.put, List.getElem_toArray, List.getElem_cons_zero, List.getElem_cons_succ, List.setIfInBounds_toArray, List.set_cons_zero, List.set_cons_succ]
      refine wpAnyH_take (i := 10) (v := ?_) rfl (by kernel_rfl) (by kernel_rfl) (by kernel_rfl) (fun _ _ _ h => h) (Or.inl ⟨by rfl, ?_⟩) hHeld ?_
      rotate_left
      · intro w hSw; skip; go_simp; try with_reducible rfl
      try simp only [Act.put, List.getElem_toArray, List.getElem_cons_zero, List.getElem_cons_succ, List.setIfInBounds_toArray, List.set_cons_zero, List.set_cons_succ]
      refine wpAnyH_take (i := 11) (v := ?_) rfl (by kernel_rfl) (by kernel_rfl) (by kernel_rfl) (fun _ _ _ h => h) (Or.inl ⟨by rfl, ?_⟩) hHeld ?_
      rotate_left
      · intro w hSw; skip; go_simp; try with_reducible rfl
      try simp only [Act.put, List.getElem_toArray, List.getElem_cons_zero, List.getElem_cons_succ, List.setIfInBounds_toArray, List.set_cons_zero, List.set_cons_succ]
      refine wpAnyH_done (by kernel_rfl) ?_ _
      replace D0 := lies.on_call D0 hHeld
      replace D1 := lies.on_call D1 hHeld
      replace DB := later DB hHeld
      replace P0 := P0.on hHeld
      replace HV := Lib.hid (HV.out.on hHeld)
      clear hHeld
      by_cases hf : f1 = 0
      · skip
        subst hf
        by_cases hg : f2 = 0
        · skip
          subst hg
          obtain ⟨ma, zb, z1, n1, ms, m1, m2, m3, m4, m5⟩ := order_facts rfl TA.out rfl TB.out H6.out HR1.out HR2.out
          have hfl := flat_len ms
          rw [← m2] at hfl
          have HZB := Lib.hid zb
          have HZ1 := Lib.hid z1
          have HM1 := Lib.hid m1
          have HM2 := Lib.hid m2
          have HM4 := Lib.hid m4
          have HM5 := Lib.hid m5
          have HMA := Lib.hid ma
          have HFL := Lib.hid hfl
          clear zb z1 m1 m2 m4 m5 ma hfl HR1 HR2
          have HN1 := Lib.hid n1
          clear n1
          go_wp2_with fail
          go_loopw [13, 12] (fun i vv wr => ∃ k : Nat, k ≤ r1.length ∧ i = .int .i64 k ∧ Below wl.heap.size wl wr ∧ Pl wr ∧ wr.ownsRow wl.heap.size 24 6 vv ((ms.take k).flatten).length (flatZ (ms.take k).flatten)) (fun i _ _ => r1.length - (intOf i).toNat)
          case atStart => exact ⟨0, Nat.zero_le _, rfl, Below.refl _ _, P0, World.ownsRow_nil _ _ _ _⟩
          case round =>
            clear P0
            obtain ⟨k, hk, rfl, hBl, P0, hown⟩ := hrel
            by_cases hkn : k < r1.length
            · skip
              have hzk := HZ1.out _ (zat_mem hkn)
              obtain ⟨bq, off, x0, x1, x2, x3, x4, x5, rfl, hb, ez⟩ := zs_six HV.out hkn hzk.2.2
              have hmk := HM5.out k hkn
              rw [ez] at hzk hmk
              have hbr : bq < wr.heap.size := Nat.lt_of_lt_of_le hb hBl.size
              have HEZ := Lib.hid ez
              have HZK := Lib.hid hzk
              have HMK := Lib.hid hmk
              have HKN := Lib.hid hkn
              have HOWN := Lib.hid hown
              clear ez hzk hmk hown hb
              obtain ⟨nw, hnw⟩ : ∃ nw, nw = ((ms.take k).flatten).length := ⟨_, rfl⟩
              obtain ⟨bp, cp, ebp⟩ := zs_len (zs_own HOWN.out)
              rw [← hnw] at ebp
              have hown := HOWN.out
              rw [← hnw] at hown
              subst ebp
              have HNW := Lib.hid hnw
              clear HOWN hnw
              have HOWN := Lib.hid hown
              clear hown
              go_wp2_with fail
              refine wp_region_held_drew (S := Below wr.heap.size wr) (by kernel_rfl) (dbm.drawn1 (Below.refl _ _)) (fun hHeld => ?_)
              refine wpAnyH_take (i := 0) (v := ?_) rfl (by kernel_rfl) (by kernel_rfl) (by kernel_rfl) (fun _ _ _ h => h) (Or.inl ⟨by rfl, ?_⟩) hHeld ?_
              rotate_left
              · intro w hSw; obtain ⟨c0, c1, c2, c3, c4, c5⟩ := zs_cells (HV.out.below (hBl.trans (hSw.mono hBl.size))) HKN.out HEZ.out; obtain ⟨⟨y0, y1, y2, y3, y4, y5⟩, _⟩ := six_cells (lies.on_call D1 (hBl.trans (hSw.mono hBl.size))); go_simp; try with_reducible rfl
              try simp only [Act.put, List.getElem_toArray, List.getElem_cons_zero, List.getElem_cons_succ, List.setIfInBounds_toArray, List.set_cons_zero, List.set_cons_succ]
              refine wpAnyH_take (i := 1) (v := ?_) rfl (by kernel_rfl) (by kernel_rfl) (by kernel_rfl) (fun _ _ _ h => h) (Or.inl ⟨by rfl, ?_⟩) hHeld ?_
              rotate_left
              · intro w hSw; obtain ⟨c0, c1, c2, c3, c4, c5⟩ := zs_cells (HV.out.below (hBl.trans (hSw.mono hBl.size))) HKN.out HEZ.out; obtain ⟨⟨y0, y1, y2, y3, y4, y5⟩, _⟩ := six_cells (lies.on_call D1 (hBl.trans (hSw.mono hBl.size))); go_simp; try with_reducible rfl
              try simp only [Act.put, List.getElem_toArray, List.getElem_cons_zero, List.getElem_cons_succ, List.setIfInBounds_toArray, List.set_cons_zero, List.set_cons_succ]
              refine wpAnyH_take (i := 2) (v := ?_) rfl (by kernel_rfl) (by kernel_rfl) (by kernel_rfl) (fun _ _ _ h => h) (Or.inl ⟨by rfl, ?_⟩) hHeld ?_
              rotate_left
              · intro w hSw; obtain ⟨c0, c1, c2, c3, c4, c5⟩ := zs_cells (HV.out.below (hBl.trans (hSw.mono hBl.size))) HKN.out HEZ.out; obtain ⟨⟨y0, y1, y2, y3, y4, y5⟩, _⟩ := six_cells (lies.on_call D1 (hBl.trans (hSw.mono hBl.size))); go_simp; try with_reducible rfl
              try simp only [Act.put, List.getElem_toArray, List.getElem_cons_zero, List.getElem_cons_succ, List.setIfInBounds_toArray, List.set_cons_zero, List.set_cons_succ]
              refine wpAnyH_take (i := 3) (v := ?_) rfl (by kernel_rfl) (by kernel_rfl) (by kernel_rfl) (fun _ _ _ h => h) (Or.inl ⟨by rfl, ?_⟩) hHeld ?_
              rotate_left
              · intro w hSw; obtain ⟨c0, c1, c2, c3, c4, c5⟩ := zs_cells (HV.out.below (hBl.trans (hSw.mono hBl.size))) HKN.out HEZ.out; obtain ⟨⟨y0, y1, y2, y3, y4, y5⟩, _⟩ := six_cells (lies.on_call D1 (hBl.trans (hSw.mono hBl.size))); go_simp; try with_reducible rfl
              try simp only [Act.put, List.getElem_toArray, List.getElem_cons_zero, List.getElem_cons_succ, List.setIfInBounds_toArray, List.set_cons_zero, List.set_cons_succ]
              refine wpAnyH_take (i := 4) (v := ?_) rfl (by kernel_rfl) (by kernel_rfl) (by kernel_rfl) (fun _ _ _ h => h) (Or.inl ⟨by rfl, ?_⟩) hHeld ?_
              rotate_left
              · intro w hSw; obtain ⟨c0, c1, c2, c3, c4, c5⟩ := zs_cells (HV.out.below (hBl.trans (hSw.mono hBl.size))) HKN.out HEZ.out; obtain ⟨⟨y0, y1, y2, y3, y4, y5⟩, _⟩ := six_cells (lies.on_call D1 (hBl.trans (hSw.mono hBl.size))); go_simp; try with_reducible rfl
              try simp only [Act.put, List.getElem_toArray, List.getElem_cons_zero, List.getElem_cons_succ, List.setIfInBounds_toArray, List.set_cons_zero, List.set_cons_succ]
              refine wpAnyH_ready (rs := [5]) (by kernel_rfl) (by simp) (AllReadyH.cons rfl (fun K hK => ?_) AllReadyH.nil)
              go_simp
              refine (minus.minus_any x0 x1 x2 x3 x4 x5 b0 b1 b2 b3 b4 b5 _ (P0.on hHeld) HZK.out.2.1 TB.out).mono ?_
              rintro e u5 ⟨hB, vx, rx, fx, rfl, hR, hO⟩
              obtain ⟨erx, rfl⟩ := HMK.out _ _ hR
              have HRX := Lib.hid erx
              clear erx
              have hO := zs_own hO
              obtain ⟨ax, cx, rfl⟩ := zs_len hO
              have HX := Lib.hid hO
              clear hR hO
              refine hK.out _ _ (hHeld.trans (hB.mono hHeld.size)) (fun hNew => ?_)
              clear hB
              clear hHeld hK K
              have hHeld := hNew
              clear hNew
              try simp only [Act.put, List.getElem_toArray, List.getElem_cons_zero, List.getElem_cons_succ, List.setIfInBounds_toArray, List.set_cons_zero, List.set_cons_succ]
              refine wpAnyH_take (i := 6) (v := ?_) rfl (by kernel_rfl) (by kernel_rfl) (by kernel_rfl) (fun _ _ _ h => h) (Or.inl ⟨by rfl, ?_⟩) hHeld ?_
              rotate_left
              · intro w hSw; skip; go_simp; try with_reducible rfl
              try simp only [Act.put, List.getElem_toArray, List.getElem_cons_zero, List.getElem_cons_succ, List.setIfInBounds_toArray, List.set_cons_zero, List.set_cons_succ]
              refine wpAnyH_take (i := 7) (v := ?_) rfl (by kernel_rfl) (by kernel_rfl) (by kernel_rfl) (fun _ _ _ h => h) (Or.inl ⟨by rfl, ?_⟩) hHeld ?_
              rotate_left
              · intro w hSw; skip; go_simp; try with_reducible rfl
              try simp only [Act.put, List.getElem_toArray, List.getElem_cons_zero, List.getElem_cons_succ, List.setIfInBounds_toArray, List.set_cons_zero, List.set_cons_succ]
              refine wpAnyH_take (i := 8) (v := ?_) rfl (by kernel_rfl) (by kernel_rfl) (by kernel_rfl) (fun _ _ _ h => h) (Or.inl ⟨by rfl, ?_⟩) hHeld ?_
              rotate_left
              · intro w hSw; skip; go_simp; try with_reducible rfl
              try simp only [Act.put, List.getElem_toArray, List.getElem_cons_zero, List.getElem_cons_succ, List.setIfInBounds_toArray, List.set_cons_zero, List.set_cons_succ]
              refine wpAnyH_take (i := 9) (v := ?_) rfl (by kernel_rfl) (by kernel_rfl) (by kernel_rfl) (fun _ _ _ h => h) (Or.inl ⟨by rfl, ?_⟩) hHeld ?_
              rotate_left
              · intro w hSw; skip; go_simp; try with_reducible rfl
              try simp only [Act.put, List.getElem_toArray, List.getElem_cons_zero, List.getElem_cons_succ, List.setIfInBounds_toArray, List.set_cons_zero, List.set_cons_succ]
              refine wpAnyH_take (i := 10) (v := ?_) rfl (by kernel_rfl) (by kernel_rfl) (by kernel_rfl) (fun _ _ _ h => h) (Or.inl ⟨by rfl, ?_⟩) hHeld ?_
              rotate_left
              · intro w hSw; skip; go_simp; try with_reducible rfl
              try simp only [Act.put, List.getElem_toArray, List.getElem_cons_zero, List.getElem_cons_succ, List.setIfInBounds_toArray, List.set_cons_zero, List.set_cons_succ]
              refine wpAnyH_done (by kernel_rfl) ?_ _
              replace hBl := hBl.trans (hHeld.mono hBl.size)
              replace P0 := P0.on hHeld
              have hown := incl.own_call HOWN.out hHeld
              clear hHeld HOWN
              have htk := take_flat (ms := ms) (k := k) (by rw [HM1.out]; exact HKN.out)
              have hle := HFL.out (k + 1)
              rw [htk, List.length_append, ← HNW.out, ← HRX.out] at hle
              obtain ⟨vq, wq, hrun, hown2, hgrow2, -⟩ := app_zones wl.heap.size 28 (.slice bp nw cp) (.slice ax rx.length cx) _ _ _ _ _ hown HX.out (by omega) hBl.size
              have hB2 : Below wl.heap.size wl wq := held_grown hBl hBl.size hown (Nat.le_refl _) hgrow2
              have P2 : Pl wq := P0.below (held_grown (Below.refl wl.heap.size _) hBl.size hown (Nat.le_refl _) hgrow2) (by have := hBl.size; have := D1; exact Nat.lt_of_le_of_lt (Nat.zero_le _) (lies.lt D1))
              have hown3 : wq.ownsRow wl.heap.size 24 6 vq ((ms.take (k + 1)).flatten).length (flatZ (ms.take (k + 1)).flatten) := by
                rw [htk, List.length_append, flatZ_app, ← HNW.out, ← HRX.out]; exact hown2
              have HO3 := Lib.hid hown3
              have HRUN := Lib.hid hrun
              clear hrun
              clear hown hown2 hown3 hgrow2 htk hle HX P0 hBl
              have hn1 := HN1.out
              go_wp2_with (at_builtin; refine dref.append_run2 rfl (.tmp 66) (.tmp 67) 28 rfl _ _ _ _ rfl rfl HRUN.out ?_; clear HRUN)
              go_roundw
              case rel => exact ⟨k + 1, by omega, by go_num, hB2, P2, HO3.out⟩
              case measure => simp [intOf]; omega
            · skip
              obtain rfl : k = r1.length := by omega
              have htk : (ms.take r1.length).flatten = r2 := by rw [← HM1.out, List.take_length, HM2.out]
              rw [htk] at hown
              obtain ⟨bp, cp, rfl⟩ := zs_len (zs_own hown)
              have HW := Lib.hid (zs_own hown)
              clear hown htk hkn
              replace D0 := lies.on_call D0 hBl
              replace D1 := lies.on_call D1 hBl
              replace DB := later DB hBl
              replace HV2 := Lib.hid (HV2.out.on hBl)
              clear hBl HV
              obtain ⟨⟨kD0_0, kD0_1, kD0_2, kD0_3, kD0_4, kD0_5⟩, -⟩ := six_cells D0
              have kD0_l := lies.lt D0
              go_wp2_with fail
              clear kD0_0 kD0_1 kD0_2 kD0_3 kD0_4 kD0_5 kD0_l
              refine (left_any a0 a1 a2 a3 a4 a5 none 0 0 [] wr P0 TA.out (.inl ⟨⟨none, 0, rfl, fun _ => rfl⟩, rfl⟩) (fun z hz => by cases hz) rfl (by decide)).mono ?_
              rintro e w3 ⟨hB, v3, r3, f3, rfl, hR, hO⟩
              replace D0 := lies.on_call D0 hB
              replace D1 := lies.on_call D1 hB
              replace HV2 := Lib.hid ((HV2.out.below hB).mono hB.size)
              replace HW := Lib.hid ((HW.out.below hB).mono hB.size)
              replace P0 := P0.on hB
              replace DB := later DB hB
              clear hB
              obtain ⟨rfl, rfl⟩ : r3 = [[a0, a1, a2, a3, a4, a5]] ∧ f3 = 0 := by
                rcases hR with ⟨n, _⟩ | ⟨_, _, q⟩
                · exact (n ⟨HMA.out, fun z hz => by cases hz⟩).elim
                · exact q
              have hV3 : w3.ownsRow _ 24 6 v3 1 (flatZ [[a0, a1, a2, a3, a4, a5]]) := hO
              obtain ⟨g, cap3, rfl, hg, -⟩ := own1 hV3
              have HV3 := Lib.hid (show Zs w3.heap.size w3 (.slice (some ⟨g, 0, none⟩) 1 cap3) [[a0, a1, a2, a3, a4, a5]] from zs_own hV3)
              clear hR hO hV3
              have hC : ∀ W, Below w3.heap.size w3 W → W.cell? ⟨g, 0, none⟩ = some (.int .i64 a0) ∧ W.cell? ⟨g, 1, none⟩ = some (.int .i64 a1) ∧ W.cell? ⟨g, 2, none⟩ = some (.int .i64 a2) ∧ W.cell? ⟨g, 3, none⟩ = some (.int .i64 a3) ∧ W.cell? ⟨g, 4, none⟩ = some (.int .i64 a4) ∧ W.cell? ⟨g, 5, none⟩ = some (.int .i64 a5) := fun W k => by
                obtain ⟨b, off, e, _, _, c0, c1, c2, c3, c4, c5⟩ := zs_at (HV3.out.below k) (k := 0) (by show 0 < 1; decide)
                cases e
                rw [Nat.zero_mul, Nat.zero_add] at c0 c1 c2 c3 c4 c5
                exact ⟨c0, c1, c2, c3, c4, c5⟩
              have HC := Lib.hid hC
              clear hC HV3
              have hq1 : ∀ W, (Op.equalIn 10000 24 (.agg #[.int .i64 a0, .int .i64 a1, .int .i64 a2, .int .i64 a3, .int .i64 a4, .int .i64 a5]) (.agg #[.int .i64 a0, .int .i64 a1, .int .i64 a2, .int .i64 a3, .int .i64 a4, .int .i64 a5])).run Tryd.prog W = .ok true W := fun W => by rw [eq_zone]; simp
              go_wp2_with fail
              refine wp_region_held_drew (S := Below w3.heap.size w3) (by kernel_rfl) (dbm.drawn1 (Below.refl _ _)) (fun hHeld => ?_)
              generalize hwE : w3.drew = wE at hHeld ⊢
              clear hwE
              refine wpAnyH_take (i := 0) (v := ?_) rfl (by kernel_rfl) (by kernel_rfl) (by kernel_rfl) (fun _ _ _ h => h) (Or.inl ⟨by rfl, ?_⟩) hHeld ?_
              rotate_left
              · intro w hSw; skip; go_simp; try with_reducible rfl
              try simp only [Act.put, List.getElem_toArray, List.getElem_cons_zero, List.getElem_cons_succ, List.setIfInBounds_toArray, List.set_cons_zero, List.set_cons_succ]
              refine wpAnyH_take (i := 1) (v := ?_) rfl (by kernel_rfl) (by kernel_rfl) (by kernel_rfl) (fun _ _ _ h => h) (Or.inl ⟨by rfl, ?_⟩) hHeld ?_
              rotate_left
              · intro w hSw; skip; go_simp; try with_reducible rfl
              try simp only [Act.put, List.getElem_toArray, List.getElem_cons_zero, List.getElem_cons_succ, List.setIfInBounds_toArray, List.set_cons_zero, List.set_cons_succ]
              refine wpAnyH_ready (rs := [2]) (by kernel_rfl) (by simp) (AllReadyH.cons rfl (fun K hK => ?_) AllReadyH.nil)
              go_simp
              refine (same_yes av2 bp r2.length cv2 cp r2 _ ((HV2.out.below hHeld).mono hHeld.size) ((HW.out.below hHeld).mono hHeld.size) rfl (by omega) HM4.out).mono ?_
              rintro e u1 ⟨rfl, hB⟩
              refine hK.out _ _ (hHeld.trans (hB.mono hHeld.size)) (fun hNew => ?_)
              clear hB
              clear hHeld hK K
              have hHeld := hNew
              clear hNew
              try simp only [Act.put, List.getElem_toArray, List.getElem_cons_zero, List.getElem_cons_succ, List.setIfInBounds_toArray, List.set_cons_zero, List.set_cons_succ]
              refine wpAnyH_take (i := 3) (v := ?_) rfl (by kernel_rfl) (by kernel_rfl) (by kernel_rfl) (fun _ _ _ h => h) (Or.inl ⟨by rfl, ?_⟩) hHeld ?_
              rotate_left
              · intro w hSw; obtain ⟨c0, c1, c2, c3, c4, c5⟩ := HC.out _ hSw; obtain ⟨⟨x0, x1, x2, x3, x4, x5⟩, _⟩ := six_cells (lies.on_call D0 hSw); go_simp; try with_reducible rfl
              try simp only [Act.put, List.getElem_toArray, List.getElem_cons_zero, List.getElem_cons_succ, List.setIfInBounds_toArray, List.set_cons_zero, List.set_cons_succ]
              refine wpAnyH_take (i := 4) (v := ?_) rfl (by kernel_rfl) (by kernel_rfl) (by kernel_rfl) (fun _ _ _ h => h) (Or.inl ⟨by rfl, ?_⟩) hHeld ?_
              rotate_left
              · intro w hSw; obtain ⟨c0, c1, c2, c3, c4, c5⟩ := HC.out _ hSw; obtain ⟨⟨x0, x1, x2, x3, x4, x5⟩, _⟩ := six_cells (lies.on_call D0 hSw); go_simp; try with_reducible rfl
              try simp only [Act.put, List.getElem_toArray, List.getElem_cons_zero, List.getElem_cons_succ, List.setIfInBounds_toArray, List.set_cons_zero, List.set_cons_succ]
              refine wpAnyH_take (i := 5) (v := ?_) rfl (by kernel_rfl) (by kernel_rfl) (by kernel_rfl) (fun _ _ _ h => h) (Or.inl ⟨by rfl, ?_⟩) hHeld ?_
              rotate_left
              · intro w hSw; obtain ⟨c0, c1, c2, c3, c4, c5⟩ := HC.out _ hSw; obtain ⟨⟨x0, x1, x2, x3, x4, x5⟩, _⟩ := six_cells (lies.on_call D0 hSw); go_simp; try with_reducible rfl
              try simp only [Act.put, List.getElem_toArray, List.getElem_cons_zero, List.getElem_cons_succ, List.setIfInBounds_toArray, List.set_cons_zero, List.set_cons_succ]
              refine wpAnyH_take (i := 6) (v := ?_) rfl (by kernel_rfl) (by kernel_rfl) (by kernel_rfl) (fun _ _ _ h => h) (Or.inl ⟨by rfl, ?_⟩) hHeld ?_
              rotate_left
              · intro w hSw; obtain ⟨c0, c1, c2, c3, c4, c5⟩ := HC.out _ hSw; obtain ⟨⟨x0, x1, x2, x3, x4, x5⟩, _⟩ := six_cells (lies.on_call D0 hSw); go_simp; try with_reducible rfl
              try simp only [Act.put, List.getElem_toArray, List.getElem_cons_zero, List.getElem_cons_succ, List.setIfInBounds_toArray, List.set_cons_zero, List.set_cons_succ]
              refine wpAnyH_take (i := 7) (v := ?_) rfl (by kernel_rfl) (by kernel_rfl) (by kernel_rfl) (fun _ _ _ h => h) (Or.inl ⟨by rfl, ?_⟩) hHeld ?_
              rotate_left
              · intro w hSw; obtain ⟨c0, c1, c2, c3, c4, c5⟩ := HC.out _ hSw; obtain ⟨⟨x0, x1, x2, x3, x4, x5⟩, _⟩ := six_cells (lies.on_call D0 hSw); go_simp; try with_reducible rfl
              try simp only [Act.put, List.getElem_toArray, List.getElem_cons_zero, List.getElem_cons_succ, List.setIfInBounds_toArray, List.set_cons_zero, List.set_cons_succ]
              refine wpAnyH_take (i := 8) (v := ?_) rfl (by kernel_rfl) (by kernel_rfl) (by kernel_rfl) (fun _ _ _ h => h) (Or.inl ⟨by rfl, ?_⟩) hHeld ?_
              rotate_left
              · intro w hSw; obtain ⟨c0, c1, c2, c3, c4, c5⟩ := HC.out _ hSw; obtain ⟨⟨x0, x1, x2, x3, x4, x5⟩, _⟩ := six_cells (lies.on_call D0 hSw); go_simp; try with_reducible rfl
              try simp only [Act.put, List.getElem_toArray, List.getElem_cons_zero, List.getElem_cons_succ, List.setIfInBounds_toArray, List.set_cons_zero, List.set_cons_succ]
              refine wpAnyH_take (i := 9) (v := ?_) rfl (by kernel_rfl) (by kernel_rfl) (by kernel_rfl) (fun _ _ _ h => h) (Or.inl ⟨by rfl, ?_⟩) hHeld ?_
              rotate_left
              · intro w hSw; obtain ⟨c0, c1, c2, c3, c4, c5⟩ := HC.out _ hSw; obtain ⟨⟨x0, x1, x2, x3, x4, x5⟩, _⟩ := six_cells (lies.on_call D0 hSw); go_simp; try with_reducible rfl
              try simp only [Act.put, List.getElem_toArray, List.getElem_cons_zero, List.getElem_cons_succ, List.setIfInBounds_toArray, List.set_cons_zero, List.set_cons_succ]
              refine wpAnyH_take (i := 10) (v := ?_) rfl (by kernel_rfl) (by kernel_rfl) (by kernel_rfl) (fun _ _ _ h => h) (Or.inl ⟨by rfl, ?_⟩) hHeld ?_
              rotate_left
              · intro w hSw; obtain ⟨c0, c1, c2, c3, c4, c5⟩ := HC.out _ hSw; obtain ⟨⟨x0, x1, x2, x3, x4, x5⟩, _⟩ := six_cells (lies.on_call D0 hSw); go_simp; try with_reducible rfl
              try simp only [Act.put, List.getElem_toArray, List.getElem_cons_zero, List.getElem_cons_succ, List.setIfInBounds_toArray, List.set_cons_zero, List.set_cons_succ]
              refine wpAnyH_take (i := 11) (v := ?_) rfl (by kernel_rfl) (by kernel_rfl) (by kernel_rfl) (fun _ _ _ h => h) (Or.inl ⟨by rfl, ?_⟩) hHeld ?_
              rotate_left
              · intro w hSw; obtain ⟨c0, c1, c2, c3, c4, c5⟩ := HC.out _ hSw; obtain ⟨⟨x0, x1, x2, x3, x4, x5⟩, _⟩ := six_cells (lies.on_call D0 hSw); go_simp; try with_reducible rfl
              try simp only [Act.put, List.getElem_toArray, List.getElem_cons_zero, List.getElem_cons_succ, List.setIfInBounds_toArray, List.set_cons_zero, List.set_cons_succ]
              refine wpAnyH_take (i := 12) (v := ?_) rfl (by kernel_rfl) (by kernel_rfl) (by kernel_rfl) (fun _ _ _ h => h) (Or.inl ⟨by rfl, ?_⟩) hHeld ?_
              rotate_left
              · intro w hSw; obtain ⟨c0, c1, c2, c3, c4, c5⟩ := HC.out _ hSw; obtain ⟨⟨x0, x1, x2, x3, x4, x5⟩, _⟩ := six_cells (lies.on_call D0 hSw); go_simp; try with_reducible rfl
              try simp only [Act.put, List.getElem_toArray, List.getElem_cons_zero, List.getElem_cons_succ, List.setIfInBounds_toArray, List.set_cons_zero, List.set_cons_succ]
              refine wpAnyH_take (i := 13) (v := ?_) rfl (by kernel_rfl) (by kernel_rfl) (by kernel_rfl) (fun _ _ _ h => h) (Or.inl ⟨by rfl, ?_⟩) hHeld ?_
              rotate_left
              · intro w hSw; obtain ⟨c0, c1, c2, c3, c4, c5⟩ := HC.out _ hSw; obtain ⟨⟨x0, x1, x2, x3, x4, x5⟩, _⟩ := six_cells (lies.on_call D0 hSw); go_simp; try with_reducible rfl
              try simp only [Act.put, List.getElem_toArray, List.getElem_cons_zero, List.getElem_cons_succ, List.setIfInBounds_toArray, List.set_cons_zero, List.set_cons_succ]
              refine wpAnyH_take (i := 14) (v := ?_) rfl (by kernel_rfl) (by kernel_rfl) (by kernel_rfl) (fun _ _ _ h => h) (Or.inl ⟨by rfl, ?_⟩) hHeld ?_
              rotate_left
              · intro w hSw; obtain ⟨c0, c1, c2, c3, c4, c5⟩ := HC.out _ hSw; obtain ⟨⟨x0, x1, x2, x3, x4, x5⟩, _⟩ := six_cells (lies.on_call D0 hSw); go_simp; try with_reducible rfl
              try simp only [Act.put, List.getElem_toArray, List.getElem_cons_zero, List.getElem_cons_succ, List.setIfInBounds_toArray, List.set_cons_zero, List.set_cons_succ]
              refine wpAnyH_take (i := 15) (v := ?_) rfl (by kernel_rfl) (by kernel_rfl) (by kernel_rfl) (fun _ _ _ h => h) (Or.inl ⟨by rfl, ?_⟩) hHeld ?_
              rotate_left
              · intro w hSw; obtain ⟨c0, c1, c2, c3, c4, c5⟩ := HC.out _ hSw; obtain ⟨⟨x0, x1, x2, x3, x4, x5⟩, _⟩ := six_cells (lies.on_call D0 hSw); go_simp; try with_reducible rfl
              try simp only [Act.put, List.getElem_toArray, List.getElem_cons_zero, List.getElem_cons_succ, List.setIfInBounds_toArray, List.set_cons_zero, List.set_cons_succ]
              refine wpAnyH_take (i := 16) (v := ?_) rfl (by kernel_rfl) (by kernel_rfl) (by kernel_rfl) (fun _ _ _ h => h) (Or.inl ⟨by rfl, ?_⟩) hHeld ?_
              rotate_left
              · intro w hSw; obtain ⟨c0, c1, c2, c3, c4, c5⟩ := HC.out _ hSw; obtain ⟨⟨x0, x1, x2, x3, x4, x5⟩, _⟩ := six_cells (lies.on_call D0 hSw); go_simp; try with_reducible rfl
              try simp only [Act.put, List.getElem_toArray, List.getElem_cons_zero, List.getElem_cons_succ, List.setIfInBounds_toArray, List.set_cons_zero, List.set_cons_succ]
              refine wpAnyH_take (i := 17) (v := ?_) rfl (by kernel_rfl) (by kernel_rfl) (by kernel_rfl) (fun _ _ _ h => h) (Or.inl ⟨by rfl, ?_⟩) hHeld ?_
              rotate_left
              · intro w hSw; obtain ⟨c0, c1, c2, c3, c4, c5⟩ := HC.out _ hSw; obtain ⟨⟨x0, x1, x2, x3, x4, x5⟩, _⟩ := six_cells (lies.on_call D0 hSw); go_simp; try with_reducible rfl
              try simp only [Act.put, List.getElem_toArray, List.getElem_cons_zero, List.getElem_cons_succ, List.setIfInBounds_toArray, List.set_cons_zero, List.set_cons_succ]
              refine wpAnyH_take (i := 18) (v := ?_) rfl (by kernel_rfl) (by kernel_rfl) (by kernel_rfl) (fun _ _ _ h => h) (Or.inl ⟨by rfl, ?_⟩) hHeld ?_
              rotate_left
              · intro w hSw; obtain ⟨c0, c1, c2, c3, c4, c5⟩ := HC.out _ hSw; obtain ⟨⟨x0, x1, x2, x3, x4, x5⟩, _⟩ := six_cells (lies.on_call D0 hSw); go_simp; try with_reducible rfl
              try simp only [Act.put, List.getElem_toArray, List.getElem_cons_zero, List.getElem_cons_succ, List.setIfInBounds_toArray, List.set_cons_zero, List.set_cons_succ]
              refine wpAnyH_take (i := 19) (v := ?_) rfl (by kernel_rfl) (by kernel_rfl) (by kernel_rfl) (fun _ _ _ h => h) (Or.inl ⟨by rfl, ?_⟩) hHeld ?_
              rotate_left
              · intro w hSw; obtain ⟨c0, c1, c2, c3, c4, c5⟩ := HC.out _ hSw; obtain ⟨⟨x0, x1, x2, x3, x4, x5⟩, _⟩ := six_cells (lies.on_call D0 hSw); go_simp; try with_reducible rfl
              try simp only [Act.put, List.getElem_toArray, List.getElem_cons_zero, List.getElem_cons_succ, List.setIfInBounds_toArray, List.set_cons_zero, List.set_cons_succ]
              refine wpAnyH_done (by kernel_rfl) ?_ _
              replace DB := later DB hHeld
              clear hHeld D0 D1
              go_wp2_with fail
              go_ret
              exact ⟨rfl, DB⟩
        · skip
          have hb2 : (f2 == 0) = false := by simpa using hg
          have hn2 : (f2 != 0) = true := by simpa using hg
          clear hg HR1 HR2
          go_wp2_with fail
          go_ret
          exact ⟨rfl, DB⟩
      · skip
        have hb2 : (f1 == 0) = false := by simpa using hf
        have hn2 : (f1 != 0) = true := by simpa using hf
        clear hf HR1 HR2
        go_wp2_with fail
        go_ret
        exact ⟨rfl, DB⟩
    · go_simp
      have hAl := hHeld.trans ((bound.up1 wD (.cells #[.int .i64 b0, .int .i64 b1, .int .i64 b2, .int .i64 b3, .int .i64 b4, .int .i64 b5] 24)).mono hHeld.size)
      have hbox := zs_box (lies.made wD 24 #[.int .i64 b0, .int .i64 b1, .int .i64 b2, .int .i64 b3, .int .i64 b4, .int .i64 b5])
      have hA2 := bound.up1 wD (.cells #[.int .i64 b0, .int .i64 b1, .int .i64 b2, .int .i64 b3, .int .i64 b4, .int .i64 b5] 24)
      refine hK.out _ _ hAl (fun hNew => ?_)
      clear hAl
      clear hHeld hK K
      have hHeld := hNew
      clear hNew
      try simp only [Act.put, List.getElem_toArray, List.getElem_cons_zero, List.getElem_cons_succ, List.setIfInBounds_toArray, List.set_cons_zero, List.set_cons_succ]
      skip
      refine wpAnyH_ready (rs := [2]) (by kernel_rfl) (by simp) (AllReadyH.cons rfl (fun K hK => ?_) AllReadyH.nil)
      obtain ⟨vp, wp, hrun, hown, hgrow, -⟩ := app_zones w2.heap.size 28 (.slice none 0 0) (.slice ao l.length cap) 0 _ [] l _ (World.ownsRow_nil _ _ _ _) (HI.out.below hHeld) (by omega) hHeld.size
      rw [Nat.zero_add, List.nil_append] at hown
      have hHp : Below w2.heap.size w2 wp := hHeld.grown hgrow hHeld.size (fun _ e => by cases e)
      rw [if_pos (by rfl)]
      refine wp_append_run (.const (.slice none 0 0)) (.tmp 35) 28 rfl _ _ vp wp rfl rfl hrun ?_
      clear hrun
      replace hbox := hbox.below (show Below (wD.alloc (.cells #[.int .i64 b0, .int .i64 b1, .int .i64 b2, .int .i64 b3, .int .i64 b4, .int .i64 b5] 24)).heap.size (wD.alloc (.cells #[.int .i64 b0, .int .i64 b1, .int .i64 b2, .int .i64 b3, .int .i64 b4, .int .i64 b5] 24)) wp from ⟨hgrow.os, hgrow.tape, hgrow.output, hgrow.size, fun k hk => hgrow.block k hk (fun e => by cases e)⟩)
      obtain ⟨bp, cp, rfl⟩ := zs_len (zs_own hown)
      refine hK.out _ _ hHp (fun hNew => ?_)
      clear hHp hA2
      clear hHeld hK K
      have hHeld := hNew
      clear hNew
      try simp only [Act.put, List.getElem_toArray, List.getElem_cons_zero, List.getElem_cons_succ, List.setIfInBounds_toArray, List.set_cons_zero, List.set_cons_succ]
      refine wpAnyH_ready (rs := [5]) (by kernel_rfl) (by simp) (AllReadyH.cons rfl (fun K hK => ?_) AllReadyH.nil)
      obtain ⟨vq, wq, hrun, hown2, hgrow2, -⟩ := app_zones w2.heap.size 28 (.slice bp l.length cp) _ l.length _ _ [[b0, b1, b2, b3, b4, b5]] _ hown hbox (by rw [List.length_singleton]; omega) hHeld.size
      have hHp : Below w2.heap.size w2 wq := held_grown hHeld hHeld.size hown (Nat.le_refl _) hgrow2
      rw [if_pos (by rfl)]
      refine wp_append_run (.tmp 36) (.tmp 38) 28 rfl _ _ vq wq rfl rfl hrun ?_
      clear hrun
      have hown3 : wq.ownsRow w2.heap.size 24 6 vq (l ++ [[b0, b1, b2, b3, b4, b5]]).length (flatZ (l ++ [[b0, b1, b2, b3, b4, b5]])) := by
        rw [List.length_append, flatZ_app]; exact hown2
      obtain ⟨bq, cq, eq3⟩ := zs_len (zs_own hown3)
      rw [List.length_append, List.length_singleton] at eq3
      subst eq3
      have HQ := Lib.hid (zs_own hown3)
      clear hown hown2 hown3 hbox hgrow2
      try clear hgrow
      refine hK.out _ _ hHp (fun hNew => ?_)
      clear hHp
      clear hHeld hK K
      have hHeld := hNew
      clear hNew
      try simp only [Act.put, List.getElem_toArray, List.getElem_cons_zero, List.getElem_cons_succ, List.setIfInBounds_toArray, List.set_cons_zero, List.set_cons_succ]
      refine wpAnyH_ready (rs := [6]) (by kernel_rfl) (by simp) (AllReadyH.cons rfl (fun K hK => ?_) AllReadyH.nil)
      go_simp
      refine (left_any a0 a1 a2 a3 a4 a5 bq (l.length + 1) cq (l ++ [[b0, b1, b2, b3, b4, b5]]) _ (P0.on hHeld) TA.out HQ.out H6B.out (by rw [List.length_append, List.length_singleton]) (by omega)).mono ?_
      rintro e wl ⟨hB, v2, r2, f2, rfl, hR, hO⟩
      have hO := zs_own hO
      obtain ⟨av2, cv2, rfl⟩ := zs_len hO
      have HV2 := Lib.hid hO
      have HR2 := Lib.hid hR
      clear hO hR HQ
      refine hK.out _ _ (hHeld.trans (hB.mono hHeld.size)) (fun hNew => ?_)
      clear hB
      clear hHeld hK K
      have hHeld := hNew
      clear hNew
      try simp only [Act.put, List.getElem_toArray, List.getElem_cons_zero, List.getElem_cons_succ, List.setIfInBounds_toArray, List.set_cons_zero, List.set_cons_succ]
      refine wpAnyH_take (i := 7) (v := ?_) rfl (by kernel_rfl) (by kernel_rfl) (by kernel_rfl) (fun _ _ _ h => h) (Or.inl ⟨by rfl, ?_⟩) hHeld ?_
      rotate_left
      · intro w hSw; skip; go_simp; try with_reducible rfl
      try simp only [Act.put, List.getElem_toArray, List.getElem_cons_zero, List.getElem_cons_succ, List.setIfInBounds_toArray, List.set_cons_zero, List.set_cons_succ]
      refine wpAnyH_take (i := 8) (v := ?_) rfl (by kernel_rfl) (by kernel_rfl) (by kernel_rfl) (fun _ _ _ h => h) (Or.inl ⟨by rfl, ?_⟩) hHeld ?_
      rotate_left
      · intro w hSw; skip; go_simp; try with_reducible rfl
      try simp only [Act.put, List.getElem_toArray, List.getElem_cons_zero, List.getElem_cons_succ, List.setIfInBounds_toArray, List.set_cons_zero, List.set_cons_succ]
      refine wpAnyH_take (i := 9) (v := ?_) rfl (by kernel_rfl) (by kernel_rfl) (by kernel_rfl) (fun _ _ _ h => h) (Or.inl ⟨by rfl, ?_⟩) hHeld ?_
      rotate_left
      · intro w hSw; skip; go_simp; try with_reducible rfl
      try simp only [Act.put, List.getElem_toArray, List.getElem_cons_zero, List.getElem_cons_succ, List.setIfInBounds_toArray, List.set_cons_zero, List.set_cons_succ]
      refine wpAnyH_take (i := 10) (v := ?_) rfl (by kernel_rfl) (by kernel_rfl) (by kernel_rfl) (fun _ _ _ h => h) (Or.inl ⟨by rfl, ?_⟩) hHeld ?_
      rotate_left
      · intro w hSw; skip; go_simp; try with_reducible rfl
      try simp only [Act.put, List.getElem_toArray, List.getElem_cons_zero, List.getElem_cons_succ, List.setIfInBounds_toArray, List.set_cons_zero, List.set_cons_succ]
      refine wpAnyH_take (i := 11) (v := ?_) rfl (by kernel_rfl) (by kernel_rfl) (by kernel_rfl) (fun _ _ _ h => h) (Or.inl ⟨by rfl, ?_⟩) hHeld ?_
      rotate_left
      · intro w hSw; skip; go_simp; try with_reducible rfl
      try simp only [Act.put, List.getElem_toArray, List.getElem_cons_zero, List.getElem_cons_succ, List.setIfInBounds_toArray, List.set_cons_zero, List.set_cons_succ]
      refine wpAnyH_done (by kernel_rfl) ?_ _
      replace D0 := lies.on_call D0 hHeld
      replace D1 := lies.on_call D1 hHeld
      replace DB := later DB hHeld
      replace P0 := P0.on hHeld
      replace HV := Lib.hid (HV.out.on hHeld)
      clear hHeld
      by_cases hf : f1 = 0
      · skip
        subst hf
        by_cases hg : f2 = 0
        · skip
          subst hg
          obtain ⟨ma, zb, z1, n1, ms, m1, m2, m3, m4, m5⟩ := order_facts rfl TA.out rfl TB.out H6.out HR1.out HR2.out
          have hfl := flat_len ms
          rw [← m2] at hfl
          have HZB := Lib.hid zb
          have HZ1 := Lib.hid z1
          have HM1 := Lib.hid m1
          have HM2 := Lib.hid m2
          have HM4 := Lib.hid m4
          have HM5 := Lib.hid m5
          have HMA := Lib.hid ma
          have HFL := Lib.hid hfl
          clear zb z1 m1 m2 m4 m5 ma hfl HR1 HR2
          have HN1 := Lib.hid n1
          clear n1
          go_wp2_with fail
          go_loopw [13, 12] (fun i vv wr => ∃ k : Nat, k ≤ r1.length ∧ i = .int .i64 k ∧ Below wl.heap.size wl wr ∧ Pl wr ∧ wr.ownsRow wl.heap.size 24 6 vv ((ms.take k).flatten).length (flatZ (ms.take k).flatten)) (fun i _ _ => r1.length - (intOf i).toNat)
          case atStart => exact ⟨0, Nat.zero_le _, rfl, Below.refl _ _, P0, World.ownsRow_nil _ _ _ _⟩
          case round =>
            clear P0
            obtain ⟨k, hk, rfl, hBl, P0, hown⟩ := hrel
            by_cases hkn : k < r1.length
            · skip
              have hzk := HZ1.out _ (zat_mem hkn)
              obtain ⟨bq, off, x0, x1, x2, x3, x4, x5, rfl, hb, ez⟩ := zs_six HV.out hkn hzk.2.2
              have hmk := HM5.out k hkn
              rw [ez] at hzk hmk
              have hbr : bq < wr.heap.size := Nat.lt_of_lt_of_le hb hBl.size
              have HEZ := Lib.hid ez
              have HZK := Lib.hid hzk
              have HMK := Lib.hid hmk
              have HKN := Lib.hid hkn
              have HOWN := Lib.hid hown
              clear ez hzk hmk hown hb
              obtain ⟨nw, hnw⟩ : ∃ nw, nw = ((ms.take k).flatten).length := ⟨_, rfl⟩
              obtain ⟨bp, cp, ebp⟩ := zs_len (zs_own HOWN.out)
              rw [← hnw] at ebp
              have hown := HOWN.out
              rw [← hnw] at hown
              subst ebp
              have HNW := Lib.hid hnw
              clear HOWN hnw
              have HOWN := Lib.hid hown
              clear hown
              go_wp2_with fail
              refine wp_region_held_drew (S := Below wr.heap.size wr) (by kernel_rfl) (dbm.drawn1 (Below.refl _ _)) (fun hHeld => ?_)
              refine wpAnyH_take (i := 0) (v := ?_) rfl (by kernel_rfl) (by kernel_rfl) (by kernel_rfl) (fun _ _ _ h => h) (Or.inl ⟨by rfl, ?_⟩) hHeld ?_
              rotate_left
              · intro w hSw; obtain ⟨c0, c1, c2, c3, c4, c5⟩ := zs_cells (HV.out.below (hBl.trans (hSw.mono hBl.size))) HKN.out HEZ.out; obtain ⟨⟨y0, y1, y2, y3, y4, y5⟩, _⟩ := six_cells (lies.on_call D1 (hBl.trans (hSw.mono hBl.size))); go_simp; try with_reducible rfl
              try simp only [Act.put, List.getElem_toArray, List.getElem_cons_zero, List.getElem_cons_succ, List.setIfInBounds_toArray, List.set_cons_zero, List.set_cons_succ]
              refine wpAnyH_take (i := 1) (v := ?_) rfl (by kernel_rfl) (by kernel_rfl) (by kernel_rfl) (fun _ _ _ h => h) (Or.inl ⟨by rfl, ?_⟩) hHeld ?_
              rotate_left
              · intro w hSw; obtain ⟨c0, c1, c2, c3, c4, c5⟩ := zs_cells (HV.out.below (hBl.trans (hSw.mono hBl.size))) HKN.out HEZ.out; obtain ⟨⟨y0, y1, y2, y3, y4, y5⟩, _⟩ := six_cells (lies.on_call D1 (hBl.trans (hSw.mono hBl.size))); go_simp; try with_reducible rfl
              try simp only [Act.put, List.getElem_toArray, List.getElem_cons_zero, List.getElem_cons_succ, List.setIfInBounds_toArray, List.set_cons_zero, List.set_cons_succ]
              refine wpAnyH_take (i := 2) (v := ?_) rfl (by kernel_rfl) (by kernel_rfl) (by kernel_rfl) (fun _ _ _ h => h) (Or.inl ⟨by rfl, ?_⟩) hHeld ?_
              rotate_left
              · intro w hSw; obtain ⟨c0, c1, c2, c3, c4, c5⟩ := zs_cells (HV.out.below (hBl.trans (hSw.mono hBl.size))) HKN.out HEZ.out; obtain ⟨⟨y0, y1, y2, y3, y4, y5⟩, _⟩ := six_cells (lies.on_call D1 (hBl.trans (hSw.mono hBl.size))); go_simp; try with_reducible rfl
              try simp only [Act.put, List.getElem_toArray, List.getElem_cons_zero, List.getElem_cons_succ, List.setIfInBounds_toArray, List.set_cons_zero, List.set_cons_succ]
              refine wpAnyH_take (i := 3) (v := ?_) rfl (by kernel_rfl) (by kernel_rfl) (by kernel_rfl) (fun _ _ _ h => h) (Or.inl ⟨by rfl, ?_⟩) hHeld ?_
              rotate_left
              · intro w hSw; obtain ⟨c0, c1, c2, c3, c4, c5⟩ := zs_cells (HV.out.below (hBl.trans (hSw.mono hBl.size))) HKN.out HEZ.out; obtain ⟨⟨y0, y1, y2, y3, y4, y5⟩, _⟩ := six_cells (lies.on_call D1 (hBl.trans (hSw.mono hBl.size))); go_simp; try with_reducible rfl
              try simp only [Act.put, List.getElem_toArray, List.getElem_cons_zero, List.getElem_cons_succ, List.setIfInBounds_toArray, List.set_cons_zero, List.set_cons_succ]
              refine wpAnyH_take (i := 4) (v := ?_) rfl (by kernel_rfl) (by kernel_rfl) (by kernel_rfl) (fun _ _ _ h => h) (Or.inl ⟨by rfl, ?_⟩) hHeld ?_
              rotate_left
              · intro w hSw; obtain ⟨c0, c1, c2, c3, c4, c5⟩ := zs_cells (HV.out.below (hBl.trans (hSw.mono hBl.size))) HKN.out HEZ.out; obtain ⟨⟨y0, y1, y2, y3, y4, y5⟩, _⟩ := six_cells (lies.on_call D1 (hBl.trans (hSw.mono hBl.size))); go_simp; try with_reducible rfl
              try simp only [Act.put, List.getElem_toArray, List.getElem_cons_zero, List.getElem_cons_succ, List.setIfInBounds_toArray, List.set_cons_zero, List.set_cons_succ]
              refine wpAnyH_ready (rs := [5]) (by kernel_rfl) (by simp) (AllReadyH.cons rfl (fun K hK => ?_) AllReadyH.nil)
              go_simp
              refine (minus.minus_any x0 x1 x2 x3 x4 x5 b0 b1 b2 b3 b4 b5 _ (P0.on hHeld) HZK.out.2.1 TB.out).mono ?_
              rintro e u5 ⟨hB, vx, rx, fx, rfl, hR, hO⟩
              obtain ⟨erx, rfl⟩ := HMK.out _ _ hR
              have HRX := Lib.hid erx
              clear erx
              have hO := zs_own hO
              obtain ⟨ax, cx, rfl⟩ := zs_len hO
              have HX := Lib.hid hO
              clear hR hO
              refine hK.out _ _ (hHeld.trans (hB.mono hHeld.size)) (fun hNew => ?_)
              clear hB
              clear hHeld hK K
              have hHeld := hNew
              clear hNew
              try simp only [Act.put, List.getElem_toArray, List.getElem_cons_zero, List.getElem_cons_succ, List.setIfInBounds_toArray, List.set_cons_zero, List.set_cons_succ]
              refine wpAnyH_take (i := 6) (v := ?_) rfl (by kernel_rfl) (by kernel_rfl) (by kernel_rfl) (fun _ _ _ h => h) (Or.inl ⟨by rfl, ?_⟩) hHeld ?_
              rotate_left
              · intro w hSw; skip; go_simp; try with_reducible rfl
              try simp only [Act.put, List.getElem_toArray, List.getElem_cons_zero, List.getElem_cons_succ, List.setIfInBounds_toArray, List.set_cons_zero, List.set_cons_succ]
              refine wpAnyH_take (i := 7) (v := ?_) rfl (by kernel_rfl) (by kernel_rfl) (by kernel_rfl) (fun _ _ _ h => h) (Or.inl ⟨by rfl, ?_⟩) hHeld ?_
              rotate_left
              · intro w hSw; skip; go_simp; try with_reducible rfl
              try simp only [Act.put, List.getElem_toArray, List.getElem_cons_zero, List.getElem_cons_succ, List.setIfInBounds_toArray, List.set_cons_zero, List.set_cons_succ]
              refine wpAnyH_take (i := 8) (v := ?_) rfl (by kernel_rfl) (by kernel_rfl) (by kernel_rfl) (fun _ _ _ h => h) (Or.inl ⟨by rfl, ?_⟩) hHeld ?_
              rotate_left
              · intro w hSw; skip; go_simp; try with_reducible rfl
              try simp only [Act.put, List.getElem_toArray, List.getElem_cons_zero, List.getElem_cons_succ, List.setIfInBounds_toArray, List.set_cons_zero, List.set_cons_succ]
              refine wpAnyH_take (i := 9) (v := ?_) rfl (by kernel_rfl) (by kernel_rfl) (by kernel_rfl) (fun _ _ _ h => h) (Or.inl ⟨by rfl, ?_⟩) hHeld ?_
              rotate_left
              · intro w hSw; skip; go_simp; try with_reducible rfl
              try simp only [Act.put, List.getElem_toArray, List.getElem_cons_zero, List.getElem_cons_succ, List.setIfInBounds_toArray, List.set_cons_zero, List.set_cons_succ]
              refine wpAnyH_take (i := 10) (v := ?_) rfl (by kernel_rfl) (by kernel_rfl) (by kernel_rfl) (fun _ _ _ h => h) (Or.inl ⟨by rfl, ?_⟩) hHeld ?_
              rotate_left
              · intro w hSw; skip; go_simp; try with_reducible rfl
              try simp only [Act.put, List.getElem_toArray, List.getElem_cons_zero, List.getElem_cons_succ, List.setIfInBounds_toArray, List.set_cons_zero, List.set_cons_succ]
              refine wpAnyH_done (by kernel_rfl) ?_ _
              replace hBl := hBl.trans (hHeld.mono hBl.size)
              replace P0 := P0.on hHeld
              have hown := incl.own_call HOWN.out hHeld
              clear hHeld HOWN
              have htk := take_flat (ms := ms) (k := k) (by rw [HM1.out]; exact HKN.out)
              have hle := HFL.out (k + 1)
              rw [htk, List.length_append, ← HNW.out, ← HRX.out] at hle
              obtain ⟨vq, wq, hrun, hown2, hgrow2, -⟩ := app_zones wl.heap.size 28 (.slice bp nw cp) (.slice ax rx.length cx) _ _ _ _ _ hown HX.out (by omega) hBl.size
              have hB2 : Below wl.heap.size wl wq := held_grown hBl hBl.size hown (Nat.le_refl _) hgrow2
              have P2 : Pl wq := P0.below (held_grown (Below.refl wl.heap.size _) hBl.size hown (Nat.le_refl _) hgrow2) (by have := hBl.size; have := D1; exact Nat.lt_of_le_of_lt (Nat.zero_le _) (lies.lt D1))
              have hown3 : wq.ownsRow wl.heap.size 24 6 vq ((ms.take (k + 1)).flatten).length (flatZ (ms.take (k + 1)).flatten) := by
                rw [htk, List.length_append, flatZ_app, ← HNW.out, ← HRX.out]; exact hown2
              have HO3 := Lib.hid hown3
              have HRUN := Lib.hid hrun
              clear hrun
              clear hown hown2 hown3 hgrow2 htk hle HX P0 hBl
              have hn1 := HN1.out
              go_wp2_with (at_builtin; refine dref.append_run2 rfl (.tmp 66) (.tmp 67) 28 rfl _ _ _ _ rfl rfl HRUN.out ?_; clear HRUN)
              go_roundw
              case rel => exact ⟨k + 1, by omega, by go_num, hB2, P2, HO3.out⟩
              case measure => simp [intOf]; omega
            · skip
              obtain rfl : k = r1.length := by omega
              have htk : (ms.take r1.length).flatten = r2 := by rw [← HM1.out, List.take_length, HM2.out]
              rw [htk] at hown
              obtain ⟨bp, cp, rfl⟩ := zs_len (zs_own hown)
              have HW := Lib.hid (zs_own hown)
              clear hown htk hkn
              replace D0 := lies.on_call D0 hBl
              replace D1 := lies.on_call D1 hBl
              replace DB := later DB hBl
              replace HV2 := Lib.hid (HV2.out.on hBl)
              clear hBl HV
              obtain ⟨⟨kD0_0, kD0_1, kD0_2, kD0_3, kD0_4, kD0_5⟩, -⟩ := six_cells D0
              have kD0_l := lies.lt D0
              go_wp2_with fail
              clear kD0_0 kD0_1 kD0_2 kD0_3 kD0_4 kD0_5 kD0_l
              refine (left_any a0 a1 a2 a3 a4 a5 none 0 0 [] wr P0 TA.out (.inl ⟨⟨none, 0, rfl, fun _ => rfl⟩, rfl⟩) (fun z hz => by cases hz) rfl (by decide)).mono ?_
              rintro e w3 ⟨hB, v3, r3, f3, rfl, hR, hO⟩
              replace D0 := lies.on_call D0 hB
              replace D1 := lies.on_call D1 hB
              replace HV2 := Lib.hid ((HV2.out.below hB).mono hB.size)
              replace HW := Lib.hid ((HW.out.below hB).mono hB.size)
              replace P0 := P0.on hB
              replace DB := later DB hB
              clear hB
              obtain ⟨rfl, rfl⟩ : r3 = [[a0, a1, a2, a3, a4, a5]] ∧ f3 = 0 := by
                rcases hR with ⟨n, _⟩ | ⟨_, _, q⟩
                · exact (n ⟨HMA.out, fun z hz => by cases hz⟩).elim
                · exact q
              have hV3 : w3.ownsRow _ 24 6 v3 1 (flatZ [[a0, a1, a2, a3, a4, a5]]) := hO
              obtain ⟨g, cap3, rfl, hg, -⟩ := own1 hV3
              have HV3 := Lib.hid (show Zs w3.heap.size w3 (.slice (some ⟨g, 0, none⟩) 1 cap3) [[a0, a1, a2, a3, a4, a5]] from zs_own hV3)
              clear hR hO hV3
              have hC : ∀ W, Below w3.heap.size w3 W → W.cell? ⟨g, 0, none⟩ = some (.int .i64 a0) ∧ W.cell? ⟨g, 1, none⟩ = some (.int .i64 a1) ∧ W.cell? ⟨g, 2, none⟩ = some (.int .i64 a2) ∧ W.cell? ⟨g, 3, none⟩ = some (.int .i64 a3) ∧ W.cell? ⟨g, 4, none⟩ = some (.int .i64 a4) ∧ W.cell? ⟨g, 5, none⟩ = some (.int .i64 a5) := fun W k => by
                obtain ⟨b, off, e, _, _, c0, c1, c2, c3, c4, c5⟩ := zs_at (HV3.out.below k) (k := 0) (by show 0 < 1; decide)
                cases e
                rw [Nat.zero_mul, Nat.zero_add] at c0 c1 c2 c3 c4 c5
                exact ⟨c0, c1, c2, c3, c4, c5⟩
              have HC := Lib.hid hC
              clear hC HV3
              have hq1 : ∀ W, (Op.equalIn 10000 24 (.agg #[.int .i64 a0, .int .i64 a1, .int .i64 a2, .int .i64 a3, .int .i64 a4, .int .i64 a5]) (.agg #[.int .i64 a0, .int .i64 a1, .int .i64 a2, .int .i64 a3, .int .i64 a4, .int .i64 a5])).run Tryd.prog W = .ok true W := fun W => by rw [eq_zone]; simp
              go_wp2_with fail
              refine wp_region_held_drew (S := Below w3.heap.size w3) (by kernel_rfl) (dbm.drawn1 (Below.refl _ _)) (fun hHeld => ?_)
              generalize hwE : w3.drew = wE at hHeld ⊢
              clear hwE
              refine wpAnyH_take (i := 0) (v := ?_) rfl (by kernel_rfl) (by kernel_rfl) (by kernel_rfl) (fun _ _ _ h => h) (Or.inl ⟨by rfl, ?_⟩) hHeld ?_
              rotate_left
              · intro w hSw; skip; go_simp; try with_reducible rfl
              try simp only [Act.put, List.getElem_toArray, List.getElem_cons_zero, List.getElem_cons_succ, List.setIfInBounds_toArray, List.set_cons_zero, List.set_cons_succ]
              refine wpAnyH_take (i := 1) (v := ?_) rfl (by kernel_rfl) (by kernel_rfl) (by kernel_rfl) (fun _ _ _ h => h) (Or.inl ⟨by rfl, ?_⟩) hHeld ?_
              rotate_left
              · intro w hSw; skip; go_simp; try with_reducible rfl
              try simp only [Act.put, List.getElem_toArray, List.getElem_cons_zero, List.getElem_cons_succ, List.setIfInBounds_toArray, List.set_cons_zero, List.set_cons_succ]
              refine wpAnyH_ready (rs := [2]) (by kernel_rfl) (by simp) (AllReadyH.cons rfl (fun K hK => ?_) AllReadyH.nil)
              go_simp
              refine (same_yes av2 bp r2.length cv2 cp r2 _ ((HV2.out.below hHeld).mono hHeld.size) ((HW.out.below hHeld).mono hHeld.size) rfl (by omega) HM4.out).mono ?_
              rintro e u1 ⟨rfl, hB⟩
              refine hK.out _ _ (hHeld.trans (hB.mono hHeld.size)) (fun hNew => ?_)
              clear hB
              clear hHeld hK K
              have hHeld := hNew
              clear hNew
              try simp only [Act.put, List.getElem_toArray, List.getElem_cons_zero, List.getElem_cons_succ, List.setIfInBounds_toArray, List.set_cons_zero, List.set_cons_succ]
              refine wpAnyH_take (i := 3) (v := ?_) rfl (by kernel_rfl) (by kernel_rfl) (by kernel_rfl) (fun _ _ _ h => h) (Or.inl ⟨by rfl, ?_⟩) hHeld ?_
              rotate_left
              · intro w hSw; obtain ⟨c0, c1, c2, c3, c4, c5⟩ := HC.out _ hSw; obtain ⟨⟨x0, x1, x2, x3, x4, x5⟩, _⟩ := six_cells (lies.on_call D0 hSw); go_simp; try with_reducible rfl
              try simp only [Act.put, List.getElem_toArray, List.getElem_cons_zero, List.getElem_cons_succ, List.setIfInBounds_toArray, List.set_cons_zero, List.set_cons_succ]
              refine wpAnyH_take (i := 4) (v := ?_) rfl (by kernel_rfl) (by kernel_rfl) (by kernel_rfl) (fun _ _ _ h => h) (Or.inl ⟨by rfl, ?_⟩) hHeld ?_
              rotate_left
              · intro w hSw; obtain ⟨c0, c1, c2, c3, c4, c5⟩ := HC.out _ hSw; obtain ⟨⟨x0, x1, x2, x3, x4, x5⟩, _⟩ := six_cells (lies.on_call D0 hSw); go_simp; try with_reducible rfl
              try simp only [Act.put, List.getElem_toArray, List.getElem_cons_zero, List.getElem_cons_succ, List.setIfInBounds_toArray, List.set_cons_zero, List.set_cons_succ]
              refine wpAnyH_take (i := 5) (v := ?_) rfl (by kernel_rfl) (by kernel_rfl) (by kernel_rfl) (fun _ _ _ h => h) (Or.inl ⟨by rfl, ?_⟩) hHeld ?_
              rotate_left
              · intro w hSw; obtain ⟨c0, c1, c2, c3, c4, c5⟩ := HC.out _ hSw; obtain ⟨⟨x0, x1, x2, x3, x4, x5⟩, _⟩ := six_cells (lies.on_call D0 hSw); go_simp; try with_reducible rfl
              try simp only [Act.put, List.getElem_toArray, List.getElem_cons_zero, List.getElem_cons_succ, List.setIfInBounds_toArray, List.set_cons_zero, List.set_cons_succ]
              refine wpAnyH_take (i := 6) (v := ?_) rfl (by kernel_rfl) (by kernel_rfl) (by kernel_rfl) (fun _ _ _ h => h) (Or.inl ⟨by rfl, ?_⟩) hHeld ?_
              rotate_left
              · intro w hSw; obtain ⟨c0, c1, c2, c3, c4, c5⟩ := HC.out _ hSw; obtain ⟨⟨x0, x1, x2, x3, x4, x5⟩, _⟩ := six_cells (lies.on_call D0 hSw); go_simp; try with_reducible rfl
              try simp only [Act.put, List.getElem_toArray, List.getElem_cons_zero, List.getElem_cons_succ, List.setIfInBounds_toArray, List.set_cons_zero, List.set_cons_succ]
              refine wpAnyH_take (i := 7) (v := ?_) rfl (by kernel_rfl) (by kernel_rfl) (by kernel_rfl) (fun _ _ _ h => h) (Or.inl ⟨by rfl, ?_⟩) hHeld ?_
              rotate_left
              · intro w hSw; obtain ⟨c0, c1, c2, c3, c4, c5⟩ := HC.out _ hSw; obtain ⟨⟨x0, x1, x2, x3, x4, x5⟩, _⟩ := six_cells (lies.on_call D0 hSw); go_simp; try with_reducible rfl
              try simp only [Act.put, List.getElem_toArray, List.getElem_cons_zero, List.getElem_cons_succ, List.setIfInBounds_toArray, List.set_cons_zero, List.set_cons_succ]
              refine wpAnyH_take (i := 8) (v := ?_) rfl (by kernel_rfl) (by kernel_rfl) (by kernel_rfl) (fun _ _ _ h => h) (Or.inl ⟨by rfl, ?_⟩) hHeld ?_
              rotate_left
              · intro w hSw; obtain ⟨c0, c1, c2, c3, c4, c5⟩ := HC.out _ hSw; obtain ⟨⟨x0, x1, x2, x3, x4, x5⟩, _⟩ := six_cells (lies.on_call D0 hSw); go_simp; try with_reducible rfl
              try simp only [Act.put, List.getElem_toArray, List.getElem_cons_zero, List.getElem_cons_succ, List.setIfInBounds_toArray, List.set_cons_zero, List.set_cons_succ]
              refine wpAnyH_take (i := 9) (v := ?_) rfl (by kernel_rfl) (by kernel_rfl) (by kernel_rfl) (fun _ _ _ h => h) (Or.inl ⟨by rfl, ?_⟩) hHeld ?_
              rotate_left
              · intro w hSw; obtain ⟨c0, c1, c2, c3, c4, c5⟩ := HC.out _ hSw; obtain ⟨⟨x0, x1, x2, x3, x4, x5⟩, _⟩ := six_cells (lies.on_call D0 hSw); go_simp; try with_reducible rfl
              try simp only [Act.put, List.getElem_toArray, List.getElem_cons_zero, List.getElem_cons_succ, List.setIfInBounds_toArray, List.set_cons_zero, List.set_cons_succ]
              refine wpAnyH_take (i := 10) (v := ?_) rfl (by kernel_rfl) (by kernel_rfl) (by kernel_rfl) (fun _ _ _ h => h) (Or.inl ⟨by rfl, ?_⟩) hHeld ?_
              rotate_left
              · intro w hSw; obtain ⟨c0, c1, c2, c3, c4, c5⟩ := HC.out _ hSw; obtain ⟨⟨x0, x1, x2, x3, x4, x5⟩, _⟩ := six_cells (lies.on_call D0 hSw); go_simp; try with_reducible rfl
              try simp only [Act.put, List.getElem_toArray, List.getElem_cons_zero, List.getElem_cons_succ, List.setIfInBounds_toArray, List.set_cons_zero, List.set_cons_succ]
              refine wpAnyH_take (i := 11) (v := ?_) rfl (by kernel_rfl) (by kernel_rfl) (by kernel_rfl) (fun _ _ _ h => h) (Or.inl ⟨by rfl, ?_⟩) hHeld ?_
              rotate_left
              · intro w hSw; obtain ⟨c0, c1, c2, c3, c4, c5⟩ := HC.out _ hSw; obtain ⟨⟨x0, x1, x2, x3, x4, x5⟩, _⟩ := six_cells (lies.on_call D0 hSw); go_simp; try with_reducible rfl
              try simp only [Act.put, List.getElem_toArray, List.getElem_cons_zero, List.getElem_cons_succ, List.setIfInBounds_toArray, List.set_cons_zero, List.set_cons_succ]
              refine wpAnyH_take (i := 12) (v := ?_) rfl (by kernel_rfl) (by kernel_rfl) (by kernel_rfl) (fun _ _ _ h => h) (Or.inl ⟨by rfl, ?_⟩) hHeld ?_
              rotate_left
              · intro w hSw; obtain ⟨c0, c1, c2, c3, c4, c5⟩ := HC.out _ hSw; obtain ⟨⟨x0, x1, x2, x3, x4, x5⟩, _⟩ := six_cells (lies.on_call D0 hSw); go_simp; try with_reducible rfl
              try simp only [Act.put, List.getElem_toArray, List.getElem_cons_zero, List.getElem_cons_succ, List.setIfInBounds_toArray, List.set_cons_zero, List.set_cons_succ]
              refine wpAnyH_take (i := 13) (v := ?_) rfl (by kernel_rfl) (by kernel_rfl) (by kernel_rfl) (fun _ _ _ h => h) (Or.inl ⟨by rfl, ?_⟩) hHeld ?_
              rotate_left
              · intro w hSw; obtain ⟨c0, c1, c2, c3, c4, c5⟩ := HC.out _ hSw; obtain ⟨⟨x0, x1, x2, x3, x4, x5⟩, _⟩ := six_cells (lies.on_call D0 hSw); go_simp; try with_reducible rfl
              try simp only [Act.put, List.getElem_toArray, List.getElem_cons_zero, List.getElem_cons_succ, List.setIfInBounds_toArray, List.set_cons_zero, List.set_cons_succ]
              refine wpAnyH_take (i := 14) (v := ?_) rfl (by kernel_rfl) (by kernel_rfl) (by kernel_rfl) (fun _ _ _ h => h) (Or.inl ⟨by rfl, ?_⟩) hHeld ?_
              rotate_left
              · intro w hSw; obtain ⟨c0, c1, c2, c3, c4, c5⟩ := HC.out _ hSw; obtain ⟨⟨x0, x1, x2, x3, x4, x5⟩, _⟩ := six_cells (lies.on_call D0 hSw); go_simp; try with_reducible rfl
              try simp only [Act.put, List.getElem_toArray, List.getElem_cons_zero, List.getElem_cons_succ, List.setIfInBounds_toArray, List.set_cons_zero, List.set_cons_succ]
              refine wpAnyH_take (i := 15) (v := ?_) rfl (by kernel_rfl) (by kernel_rfl) (by kernel_rfl) (fun _ _ _ h => h) (Or.inl ⟨by rfl, ?_⟩) hHeld ?_
              rotate_left
              · intro w hSw; obtain ⟨c0, c1, c2, c3, c4, c5⟩ := HC.out _ hSw; obtain ⟨⟨x0, x1, x2, x3, x4, x5⟩, _⟩ := six_cells (lies.on_call D0 hSw); go_simp; try with_reducible rfl
              try simp only [Act.put, List.getElem_toArray, List.getElem_cons_zero, List.getElem_cons_succ, List.setIfInBounds_toArray, List.set_cons_zero, List.set_cons_succ]
              refine wpAnyH_take (i := 16) (v := ?_) rfl (by kernel_rfl) (by kernel_rfl) (by kernel_rfl) (fun _ _ _ h => h) (Or.inl ⟨by rfl, ?_⟩) hHeld ?_
              rotate_left
              · intro w hSw; obtain ⟨c0, c1, c2, c3, c4, c5⟩ := HC.out _ hSw; obtain ⟨⟨x0, x1, x2, x3, x4, x5⟩, _⟩ := six_cells (lies.on_call D0 hSw); go_simp; try with_reducible rfl
              try simp only [Act.put, List.getElem_toArray, List.getElem_cons_zero, List.getElem_cons_succ, List.setIfInBounds_toArray, List.set_cons_zero, List.set_cons_succ]
              refine wpAnyH_take (i := 17) (v := ?_) rfl (by kernel_rfl) (by kernel_rfl) (by kernel_rfl) (fun _ _ _ h => h) (Or.inl ⟨by rfl, ?_⟩) hHeld ?_
              rotate_left
              · intro w hSw; obtain ⟨c0, c1, c2, c3, c4, c5⟩ := HC.out _ hSw; obtain ⟨⟨x0, x1, x2, x3, x4, x5⟩, _⟩ := six_cells (lies.on_call D0 hSw); go_simp; try with_reducible rfl
              try simp only [Act.put, List.getElem_toArray, List.getElem_cons_zero, List.getElem_cons_succ, List.setIfInBounds_toArray, List.set_cons_zero, List.set_cons_succ]
              refine wpAnyH_take (i := 18) (v := ?_) rfl (by kernel_rfl) (by kernel_rfl) (by kernel_rfl) (fun _ _ _ h => h) (Or.inl ⟨by rfl, ?_⟩) hHeld ?_
              rotate_left
              · intro w hSw; obtain ⟨c0, c1, c2, c3, c4, c5⟩ := HC.out _ hSw; obtain ⟨⟨x0, x1, x2, x3, x4, x5⟩, _⟩ := six_cells (lies.on_call D0 hSw); go_simp; try with_reducible rfl
              try simp only [Act.put, List.getElem_toArray, List.getElem_cons_zero, List.getElem_cons_succ, List.setIfInBounds_toArray, List.set_cons_zero, List.set_cons_succ]
              refine wpAnyH_take (i := 19) (v := ?_) rfl (by kernel_rfl) (by kernel_rfl) (by kernel_rfl) (fun _ _ _ h => h) (Or.inl ⟨by rfl, ?_⟩) hHeld ?_
              rotate_left
              · intro w hSw; obtain ⟨c0, c1, c2, c3, c4, c5⟩ := HC.out _ hSw; obtain ⟨⟨x0, x1, x2, x3, x4, x5⟩, _⟩ := six_cells (lies.on_call D0 hSw); go_simp; try with_reducible rfl
              try simp only [Act.put, List.getElem_toArray, List.getElem_cons_zero, List.getElem_cons_succ, List.setIfInBounds_toArray, List.set_cons_zero, List.set_cons_succ]
              refine wpAnyH_done (by kernel_rfl) ?_ _
              replace DB := later DB hHeld
              clear hHeld D0 D1
              go_wp2_with fail
              go_ret
              exact ⟨rfl, DB⟩
        · skip
          have hb2 : (f2 == 0) = false := by simpa using hg
          have hn2 : (f2 != 0) = true := by simpa using hg
          clear hg HR1 HR2
          go_wp2_with fail
          go_ret
          exact ⟨rfl, DB⟩
      · skip
        have hb2 : (f1 == 0) = false := by simpa using hf
        have hn2 : (f1 != 0) = true := by simpa using hf
        clear hf HR1 HR2
        go_wp2_with fail
        go_ret
        exact ⟨rfl, DB⟩
  · skip
    have h5i : (4 : Int) < (l.length : Int) := by omega
    clear h5
    go_wp2_with fail
    go_ret
    exact ⟨rfl, DB⟩

set_option maxRecDepth 100000 in
theorem lifted (os : Os) (started : os.Started) (H : Type) (enc : TypeId × Value → H) :
    ReturnsInHanded {} Tryd.checked os 7 .any (fun w args => (Rows.minusOrderSpec.pre enc Tryd.prog Tryd.f7 [] false w args ∧ laidMetH Tryd.prog zopen.places w) ∧ sizedMet enc Tryd.prog Tryd.f7 (OpenSpec.ofChange Rows.minusOrderSpec) false w args) (Rows.minusOrderSpec.post enc Tryd.prog Tryd.f7 false true false false) := by
  refine returnsInHanded_of_change_and (C := Tryd.checked) (X := fun w _ => laidMetH Tryd.prog zopen.places w) (fun _ _ _ hh h => h.of_heap hh) law.own started (by kernel_rfl) Tryd.func7
    (ChangeSpec.witness_shaped (enc := enc) (C := Tryd.checked) (os := os) (X := fun w _ => laidMetH Tryd.prog zopen.places w) false (World.doorLaid Tryd.prog 400 os) #[.agg #[.int .i64 0, .int .i64 0, .int .i64 0, .int .i64 0, .int .i64 0, .int .i64 0], .slice none 0 0, .agg #[.int .i64 0, .int .i64 0, .int .i64 0, .int .i64 0, .int .i64 0, .int .i64 0]] 8 rfl (World.shaped_of_RefB (by kernel_rfl) (by kernel_rfl)) (by kernel_rfl) (by kernel_rfl) (by kernel_rfl) (zopen.door_met os _)) ?_
  intro W base args ds gs before hval0 hW _ _ hL _
  have hval : ∀ (j : Nat) t v, Tryd.f7.params[j]? = some t → args[j]? = some v → Value.okWide Tryd.prog W .any base t v := hval0
  have hW' := hW
  obtain ⟨p, q, hA0, hV, rfl, _, _⟩ := hW
  have hA : DataW.TrodAll enc Tryd.prog W 0 (fun _ => true) true Tryd.f7.params.toList args.toList ds p := hA0
  rw [Tryd.params7] at hA hval
  obtain ⟨v0, vs0, d0, ds0, p0, q0, hargs, rfl, rfl, h0, r0⟩ := trodAll_cons hA
  obtain ⟨v1, vs1, d1, ds1, p1, q1, rfl, rfl, rfl, h1, r1⟩ := trodAll_cons r0
  obtain ⟨v2, vs2, d2, ds2, p2, q2, rfl, rfl, rfl, h2, r2⟩ := trodAll_cons r1
  obtain ⟨rfl, rfl, rfl⟩ := trodAll_nil r2
  obtain rfl : args = #[v0, v1, v2] := by cases args; simp_all
  obtain ⟨z00, z01, z02, z03, z04, z05, rfl, w0⟩ := zopen.open_zone (hval 0 24 v0 rfl rfl) h0
  obtain ⟨l1, x1, hI1, m1, c1⟩ := mz.open_zones (hval 1 28 v1 rfl rfl) h1
  obtain ⟨z20, z21, z22, z23, z24, z25, rfl, w2⟩ := zopen.open_zone (hval 2 24 v2 rfl rfl) h2
  refine (walk z00 z01 z02 z03 z04 z05 v1 l1 z20 z21 z22 z23 z24 z25 W (fun x hx => ⟨law.wf_lo (w0 x hx), law.wf_hi (w0 x hx)⟩) (fun x hx => ⟨law.wf_lo (w2 x hx), law.wf_hi (w2 x hx)⟩) x1 hI1 m1 c1 (zopen.laid_pl hL)).mono fun e W' ⟨he, hB⟩ => ?_
  subst he
  exact ⟨_, rfl, law.post_true law.laidOut (by kernel_rfl) rfl Tryd.underlying4 rfl hW' (fun h => by subst h; rfl) hB⟩

theorem proved : Rows.MinusOrderSaid :=
  OpenClaim.holds_of_wide 7 Tryd.f7 rfl rfl rfl rfl rfl rfl rfl ⟨rfl, rfl, rfl, rfl, rfl⟩ rfl rfl rfl rfl rfl (by kernel_rfl) Tryd.func7 (by kernel_rfl)
    (of_decide_eq_true (by kernel_rfl)) (by unfold Func.isWrapper; first | (rw [if_pos (by decide +kernel)]; kernel_rfl) | (rw [if_neg (by decide +kernel)]; exact ⟨rfl, rfl⟩))
    (fun os started H enc _ => lifted os started H enc)
theorem card : Rows.MinusOrderCardSaid :=
  Claim7.holds_tied_plain_at .later [] [.data] true (true, "63052b61decf7e22cc573bd623194e0d9c99a30bfaeca1484cbb133092540983") false
    proved (fun _ h => by cases h) (by kernel_rfl) (fun _ h => by cases h) minusOrder_row_tie rfl ⟨rfl, rfl⟩ (by kernel_rfl) rfl
    (fun f fn hf hfn => by
      obtain rfl : f = 7 := Option.some.inj ((show Tryd.prog.funcNamed "rallentando/rallentandolaw11.MinusOrder" = some 7 by kernel_rfl).symm.trans hf) |>.symm
      obtain rfl : fn = Tryd.f7 := (Option.some.inj (Tryd.func7.symm.trans hfn)).symm
      exact ⟨by kernel_rfl, fun j t ht => by
        rw [Tryd.params7] at ht
        have hm : t ∈ [24, 28, 24] := by simpa using Array.mem_of_getElem? ht
        have hall : ([24, 28, 24].all fun u => !Tryd.prog.wantsStandIn u) = true := by kernel_rfl
        exact (show Tryd.prog.wantsStandIn t = false by simpa using List.all_eq_true.1 hall t hm)⟩)
    (by kernel_rfl)
#print axioms card
end Go.Proofs.YtkfnjdmjojodhaaDoor.minusOrder
