/-
  MinusPoints answers true for every zone, zones and point; the listed variable reads as the program lays it.
-/
import Derived.Test.YtkfnjdmjojodhaaDoorMinusG
import Derived.Test.YtkfnjdmjojodhaaDoorCards
import Derived.Test.YtkfnjdmjojodhaaDoorTie
import Derived.BigQuiet
namespace Go.Proofs.YtkfnjdmjojodhaaDoor.minusPoints
open Go.Joins Go.ChangeShapes Go.WideShapes Go.ChangeAt Go.RowKit num rat dbm Go.Proofs.YtkfnjdmjojodhaaDoor.tight Go.Proofs.YtkfnjdmjojodhaaDoor.incl Go.Proofs.YtkfnjdmjojodhaaDoor.plaw Go.Proofs.YtkfnjdmjojodhaaDoor.zopen Go.Proofs.YtkfnjdmjojodhaaDoor.zone Go.Proofs.YtkfnjdmjojodhaaDoor.zlaw Go.Proofs.YtkfnjdmjojodhaaDoor.win Go.Proofs.YtkfnjdmjojodhaaDoor.minus Go.Proofs.YtkfnjdmjojodhaaDoor.mz Go.Proofs.YtkfnjdmjojodhaaDoor.mlaw
open bound hiding up
set_option linter.unusedVariables false
set_option linter.unusedSimpArgs false

/-- in how many of what is left. -/
theorem left_cnt {a : List Int} {l r : List (List Int)} {pa pb pc pd : Int} (ha : a.length = 6) (ta : Tops a) (h6 : Six l) (m1 : MayR pa pb) (m2 : MayR pc pd) (h : LefR a l r 0) :
    (MayZ a ∧ (∀ z, z ∈ l → Zo z) ∧ (∀ z, z ∈ r → Zo z) ∧ r.length ≤ 1000000) ∧ cnt r pa pb pc pd = if 0 < cnt l pa pb pc pd then 0 else if hasB a pa pb pc pd = true then 1 else 0 := by
  rcases h with ⟨_, _, e⟩ | ⟨k1, k2, k3⟩
  · exact absurd e (by decide)
  · have za : ∀ z, z ∈ [a] → Zo z := fun z hz => by rw [List.mem_singleton.1 hz]; exact ⟨k1, ta, ha⟩
    have zl := h6.zo k2
    have k4 := restP_ok l zl za k3
    have k5 := rest_zo l zl za k4
    refine ⟨⟨k1, zl, k5, ?_⟩, ?_⟩
    · have : ∀ (bs : List (List Int)) (c r : List (List Int)), (∀ b, b ∈ bs → Zo b) → (∀ z, z ∈ c → Zo z) → c.length ≤ 4096 → RestP bs c r 0 → r.length ≤ 4096 := by
        intro bs
        induction bs with
        | nil => intro c r _ _ hc q; rw [q.1]; exact hc
        | cons b bs ih =>
          intro c r hb hz hc q
          obtain ⟨n, e, hn, q⟩ := q
          rcases q with ⟨p1, _, p3⟩ | ⟨p1, p2⟩
          · exact (p1 p3.symm).elim
          · subst p1
            have zb := hb b List.mem_cons_self
            obtain ⟨g1, g2⟩ := stepP_ok zb.2.1 zb.1 c hz (Nat.zero_le _) hn
            exact ih n r (fun x hx => hb x (List.mem_cons_of_mem _ hx)) (step_zo zb.2.1 zb.1 c hz (fun x hx => by cases hx) g1) g2 p2
      exact Nat.le_trans (this l [a] r zl za (by show 1 ≤ 4096; decide) k3) (by decide)
    · rw [rest_cnt m1 m2 l zl za k4, cnt_one]

set_option maxRecDepth 100000 in
set_option maxHeartbeats 16000000 in
theorem walk (a0 a1 a2 a3 a4 a5 : Int) (v : Value) (l : List (List Int)) (pa pb pc pd : Int) (w : World) (ha : ∀ x ∈ [a0, a1, a2, a3, a4, a5], -9223372036854775808 ≤ x ∧ x ≤ 9223372036854775807) (hp : ∀ x ∈ [pa, pb, pc, pd], -9223372036854775808 ≤ x ∧ x ≤ 9223372036854775807) (hwf : Wf6 l) (hI : Zs w.heap.size w v l) (hm : l.length ≤ maxLen) (hc : ∀ a l c, v = .slice a l c → l ≤ c) (hP : Pl w) : Calls Tryd.prog 5 #[.agg #[.int .i64 a0, .int .i64 a1, .int .i64 a2, .int .i64 a3, .int .i64 a4, .int .i64 a5], v, .agg #[.int .i64 pa, .int .i64 pb, .int .i64 pc, .int .i64 pd]] w fun e w' => e = .returned (.bool true) ∧ Below w.heap.size w w' := by
  obtain ⟨ao, cap, rfl⟩ := zs_len hI
  have TA := Lib.hid (show Tops [a0, a1, a2, a3, a4, a5] from fun x hx => (ha x hx).2)
  have HF := Lib.hid (show zone.Fit [pa, pb, pc, pd] from hp)
  have H6 := Lib.hid (show Six l from fun z hz => ⟨(hwf z hz).1, hwf.tops hz⟩)
  have X : ∃ w0, w0 = (w.alloc (.cells #[.int .i64 a0, .int .i64 a1, .int .i64 a2, .int .i64 a3, .int .i64 a4, .int .i64 a5] 24)).alloc (.cells #[.int .i64 pa, .int .i64 pb, .int .i64 pc, .int .i64 pd] 42) := ⟨_, rfl⟩
  obtain ⟨w0, hX⟩ := X
  have DB : Below w.heap.size w w0 := by rw [hX]; exact bound.up2 w _ _
  have D0 : lies.Lies w0 (w.heap.size) 24 #[.int .i64 a0, .int .i64 a1, .int .i64 a2, .int .i64 a3, .int .i64 a4, .int .i64 a5] := by rw [hX]; exact lies.on_alloc (lies.made _ _ _) _
  have D1 : lies.Lies w0 (w.heap.size + 1) 42 #[.int .i64 pa, .int .i64 pb, .int .i64 pc, .int .i64 pd] := by rw [hX]; exact lies.made_at _ _ _ _ (by simp)
  have P0 := hP.on DB
  have HI := Lib.hid ((hI.below DB).mono DB.size)
  clear hP ha hp hwf hI hc hm
  go_enter Tryd.func5, Tryd.ntmps5
  go_wp2_with fail
  rw [← hX]
  clear hX
  refine (alive_yes w0 P0).mono ?_
  rintro e w1 ⟨rfl, hB⟩
  replace D0 := lies.on_call D0 hB
  replace D1 := lies.on_call D1 hB
  replace HI := Lib.hid ((HI.out.below hB).mono hB.size)
  replace P0 := P0.on hB
  replace DB := later DB hB
  clear hB
  by_cases h5 : l.length ≤ 5
  · skip
    have h5i : ¬ (5 : Int) < (l.length : Int) := by omega
    have h5m : l.length ≤ 1000000 := by omega
    obtain ⟨⟨kD0_0, kD0_1, kD0_2, kD0_3, kD0_4, kD0_5⟩, -⟩ := six_cells D0
    have kD0_l := lies.lt D0
    go_wp2_with fail
    clear kD0_0 kD0_1 kD0_2 kD0_3 kD0_4 kD0_5 kD0_l
    clear h5i h5
    refine (left_any a0 a1 a2 a3 a4 a5 ao l.length cap l w1 P0 TA.out HI.out H6.out rfl h5m).mono ?_
    rintro e w2 ⟨hB, v, r, f, rfl, hR, hO⟩
    have hO := zs_own hO
    obtain ⟨av, cv, rfl⟩ := zs_len hO
    have HV := Lib.hid hO
    clear hO
    replace D0 := lies.on_call D0 hB
    replace D1 := lies.on_call D1 hB
    replace HI := Lib.hid ((HI.out.below hB).mono hB.size)
    replace P0 := P0.on hB
    replace DB := later DB hB
    clear hB
    have HR := Lib.hid hR
    clear hR
    obtain ⟨⟨kD0_0, kD0_1, kD0_2, kD0_3, kD0_4, kD0_5⟩, -⟩ := six_cells D0
    have kD0_l := lies.lt D0
    obtain ⟨⟨kD1_0, kD1_1, kD1_2, kD1_3⟩, -⟩ := four_cells D1
    have kD1_l := lies.lt D1
    go_wp2_with fail
    clear kD0_0 kD0_1 kD0_2 kD0_3 kD0_4 kD0_5 kD0_l kD1_0 kD1_1 kD1_2 kD1_3 kD1_l
    refine (has_any a0 a1 a2 a3 a4 a5 pa pb pc pd w2 P0 TA.out HF.out).mono ?_
    rintro e w3 ⟨hB, it, g, rfl, hX1⟩
    replace D0 := lies.on_call D0 hB
    replace D1 := lies.on_call D1 hB
    replace HI := Lib.hid ((HI.out.below hB).mono hB.size)
    replace HV := Lib.hid ((HV.out.below hB).mono hB.size)
    replace P0 := P0.on hB
    replace DB := later DB hB
    clear hB
    have HO := Lib.hid hX1
    clear hX1
    by_cases hf : f = 0
    · skip
      subst hf
      by_cases hg : g = 0
      · skip
        subst hg
        obtain ⟨m1, m2, hit⟩ : MayR pa pb ∧ MayR pc pd ∧ it = hasB [a0, a1, a2, a3, a4, a5] pa pb pc pd := by
          rcases HO.out with ⟨_, _, n⟩ | ⟨p, q, r, _, k⟩
          · exact absurd n (by decide)
          · exact ⟨q, r, by rw [Bool.eq_iff_iff, k, has_kept q r]⟩
        obtain ⟨⟨ma, zl, zr, rl⟩, hcn⟩ := left_cnt rfl TA.out H6.out m1 m2 HR.out
        rw [← hit] at hcn
        have HM1 := Lib.hid m1
        have HM2 := Lib.hid m2
        have ZL := Lib.hid zl
        have ZR := Lib.hid zr
        have HCN := Lib.hid hcn
        clear m1 m2 hit ma zl zr hcn HO HR
        obtain ⟨⟨kD1_0, kD1_1, kD1_2, kD1_3⟩, -⟩ := four_cells D1
        have kD1_l := lies.lt D1
        go_wp2_with fail
        clear kD1_0 kD1_1 kD1_2 kD1_3 kD1_l
        refine (count_is ao l.length cap l pa pb pc pd w3 P0 HI.out rfl h5m ZL.out HM1.out HM2.out HF.out).mono ?_
        rintro e w4 ⟨rfl, hB⟩
        replace D0 := lies.on_call D0 hB
        replace D1 := lies.on_call D1 hB
        replace HI := Lib.hid ((HI.out.below hB).mono hB.size)
        replace HV := Lib.hid ((HV.out.below hB).mono hB.size)
        replace P0 := P0.on hB
        replace DB := later DB hB
        clear hB
        obtain ⟨⟨kD1_0, kD1_1, kD1_2, kD1_3⟩, -⟩ := four_cells D1
        have kD1_l := lies.lt D1
        go_wp2_with fail
        clear kD1_0 kD1_1 kD1_2 kD1_3 kD1_l
        refine (count_is av r.length cv r pa pb pc pd w4 P0 HV.out rfl rl ZR.out HM1.out HM2.out HF.out).mono ?_
        rintro e w5 ⟨rfl, hB⟩
        replace D0 := lies.on_call D0 hB
        replace D1 := lies.on_call D1 hB
        replace HI := Lib.hid ((HI.out.below hB).mono hB.size)
        replace HV := Lib.hid ((HV.out.below hB).mono hB.size)
        replace P0 := P0.on hB
        replace DB := later DB hB
        clear hB
        generalize cnt l pa pb pc pd = no at HCN ⊢
        generalize cnt r pa pb pc pd = nm at HCN ⊢
        have hcn := HCN.out
        clear HCN ZL ZR HM1 HM2 HI HV
        by_cases h0 : no = 0
        · skip
          subst h0
          rw [if_neg (by decide)] at hcn
          cases it with
          | true =>
            rw [if_pos rfl] at hcn
            subst hcn
            go_wp2_with fail
            go_ret
            exact ⟨rfl, DB⟩
          | false =>
            rw [if_neg (by decide)] at hcn
            subst hcn
            go_wp2_with fail
            go_ret
            exact ⟨rfl, DB⟩
        · skip
          rw [if_pos (by omega)] at hcn
          subst hcn
          have h0i : ¬ (no : Int) = 0 := by omega
          have h0p : (0 : Int) < (no : Int) := by omega
          clear h0
          cases it
          all_goals
            go_wp2_with fail
            go_ret
            exact ⟨rfl, DB⟩
      · skip
        have hbg : (g == 0) = false := by simpa using hg
        have hng : (g != 0) = true := by simpa using hg
        clear hg HO HR
        go_wp2_with fail
        go_ret
        exact ⟨rfl, DB⟩
    · skip
      have hbf : (f == 0) = false := by simpa using hf
      have hnf : (f != 0) = true := by simpa using hf
      clear hf HO HR
      go_wp2_with fail
      go_ret
      exact ⟨rfl, DB⟩
  · skip
    have h5i : (5 : Int) < (l.length : Int) := by omega
    clear h5
    go_wp2_with fail
    go_ret
    exact ⟨rfl, DB⟩

set_option maxRecDepth 100000 in
theorem lifted (os : Os) (started : os.Started) (H : Type) (enc : TypeId × Value → H) :
    ReturnsInHanded {} Tryd.checked os 5 .any (fun w args => (Rows.minusPointsSpec.pre enc Tryd.prog Tryd.f5 [] false w args ∧ laidMetH Tryd.prog zopen.places w) ∧ sizedMet enc Tryd.prog Tryd.f5 (OpenSpec.ofChange Rows.minusPointsSpec) false w args) (Rows.minusPointsSpec.post enc Tryd.prog Tryd.f5 false true false false) := by
  refine returnsInHanded_of_change_and (C := Tryd.checked) (X := fun w _ => laidMetH Tryd.prog zopen.places w) (fun _ _ _ hh h => h.of_heap hh) law.own started (by kernel_rfl) Tryd.func5
    (ChangeSpec.witness_shaped (enc := enc) (C := Tryd.checked) (os := os) (X := fun w _ => laidMetH Tryd.prog zopen.places w) false (World.doorLaid Tryd.prog 400 os) #[.agg #[.int .i64 0, .int .i64 0, .int .i64 0, .int .i64 0, .int .i64 0, .int .i64 0], .slice none 0 0, .agg #[.int .i64 0, .int .i64 0, .int .i64 0, .int .i64 0]] 8 rfl (World.shaped_of_RefB (by kernel_rfl) (by kernel_rfl)) (by kernel_rfl) (by kernel_rfl) (by kernel_rfl) (zopen.door_met os _)) ?_
  intro W base args ds gs before hval0 hW _ _ hL _
  have hval : ∀ (j : Nat) t v, Tryd.f5.params[j]? = some t → args[j]? = some v → Value.okWide Tryd.prog W .any base t v := hval0
  have hW' := hW
  obtain ⟨p, q, hA0, hV, rfl, _, _⟩ := hW
  have hA : DataW.TrodAll enc Tryd.prog W 0 (fun _ => true) true Tryd.f5.params.toList args.toList ds p := hA0
  rw [Tryd.params5] at hA hval
  obtain ⟨v0, vs0, d0, ds0, p0, q0, hargs, rfl, rfl, h0, r0⟩ := trodAll_cons hA
  obtain ⟨v1, vs1, d1, ds1, p1, q1, rfl, rfl, rfl, h1, r1⟩ := trodAll_cons r0
  obtain ⟨v2, vs2, d2, ds2, p2, q2, rfl, rfl, rfl, h2, r2⟩ := trodAll_cons r1
  obtain ⟨rfl, rfl, rfl⟩ := trodAll_nil r2
  obtain rfl : args = #[v0, v1, v2] := by cases args; simp_all
  obtain ⟨z00, z01, z02, z03, z04, z05, rfl, w0⟩ := zopen.open_zone (hval 0 24 v0 rfl rfl) h0
  obtain ⟨l1, x1, hI1, m1, c1⟩ := mz.open_zones (hval 1 28 v1 rfl rfl) h1
  obtain ⟨a2, b2, c2, e2, rfl, w2⟩ := zopen.open_point (hval 2 42 v2 rfl rfl) h2
  refine (walk z00 z01 z02 z03 z04 z05 v1 l1 a2 b2 c2 e2 W (fun x hx => ⟨law.wf_lo (w0 x hx), law.wf_hi (w0 x hx)⟩) (fun x hx => ⟨law.wf_lo (w2 x hx), law.wf_hi (w2 x hx)⟩) x1 hI1 m1 c1 (zopen.laid_pl hL)).mono fun e W' ⟨he, hB⟩ => ?_
  subst he
  exact ⟨_, rfl, law.post_true law.laidOut (by kernel_rfl) rfl Tryd.underlying4 rfl hW' (fun h => by subst h; rfl) hB⟩

theorem proved : Rows.MinusPointsSaid :=
  OpenClaim.holds_of_wide 5 Tryd.f5 rfl rfl rfl rfl rfl rfl rfl ⟨rfl, rfl, rfl, rfl, rfl⟩ rfl rfl rfl rfl rfl (by kernel_rfl) Tryd.func5 (by kernel_rfl)
    (of_decide_eq_true (by kernel_rfl)) (by unfold Func.isWrapper; first | (rw [if_pos (by decide +kernel)]; kernel_rfl) | (rw [if_neg (by decide +kernel)]; exact ⟨rfl, rfl⟩))
    (fun os started H enc _ => lifted os started H enc)
theorem card : Rows.MinusPointsCardSaid :=
  Claim7.holds_tied_plain_at .later [] [.data] true (true, "63052b61decf7e22cc573bd623194e0d9c99a30bfaeca1484cbb133092540983") false
    proved (fun _ h => by cases h) (by kernel_rfl) (fun _ h => by cases h) minusPoints_row_tie rfl ⟨rfl, rfl⟩ (by kernel_rfl) rfl
    (fun f fn hf hfn => by
      obtain rfl : f = 5 := Option.some.inj ((show Tryd.prog.funcNamed "rallentando/rallentandolaw11.MinusPoints" = some 5 by kernel_rfl).symm.trans hf) |>.symm
      obtain rfl : fn = Tryd.f5 := (Option.some.inj (Tryd.func5.symm.trans hfn)).symm
      exact ⟨by kernel_rfl, fun j t ht => by
        rw [Tryd.params5] at ht
        have hm : t ∈ [24, 28, 42] := by simpa using Array.mem_of_getElem? ht
        have hall : ([24, 28, 42].all fun u => !Tryd.prog.wantsStandIn u) = true := by kernel_rfl
        exact (show Tryd.prog.wantsStandIn t = false by simpa using List.all_eq_true.1 hall t hm)⟩)
    (by kernel_rfl)
#print axioms card
end Go.Proofs.YtkfnjdmjojodhaaDoor.minusPoints
