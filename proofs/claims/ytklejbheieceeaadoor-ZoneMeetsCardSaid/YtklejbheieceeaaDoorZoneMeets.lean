/-
  ZoneMeets answers true for every two zones and point; the listed variable reads as the program lays it.
-/
import Derived.Test.YtklejbheieceeaaDoorZoneL
import Derived.Test.YtklejbheieceeaaDoorCards
import Derived.Test.YtklejbheieceeaaDoorTie
import Derived.BigQuiet
namespace Go.Proofs.YtklejbheieceeaaDoor.zoneMeets
open Go.Joins Go.ChangeShapes Go.WideShapes Go.ChangeAt Go.RowKit num rat dbm Go.Proofs.YtklejbheieceeaaDoor.tight Go.Proofs.YtklejbheieceeaaDoor.incl Go.Proofs.YtklejbheieceeaaDoor.plaw Go.Proofs.YtklejbheieceeaaDoor.zopen Go.Proofs.YtklejbheieceeaaDoor.zone Go.Proofs.YtklejbheieceeaaDoor.zlaw
open bound hiding up
set_option linter.unusedVariables false
set_option linter.unusedSimpArgs false

theorem meet_good {a b m : List Int} (la : a.length = 6) (ta : Tops a) (tb : Tops b) (ha : MayZ a) (hb : MayZ b) (ho : OkD 3 (lesT (fullT a) (fullT b))) (hm : MayD 3 (clT 3 (lesT (fullT a) (fullT b)))) (e : m = shortT (clT 3 (lesT (fullT a) (fullT b)))) :
    MayZ m ∧ Tops m ∧ (inV 3 (fullT a) (fullT b) ↔ m = a) ∧ ∀ x y u v, MayR x y → MayR u v → (keptAll 3 (fullT m) [(0, 1), (x, y), (u, v)] ↔ keptAll 3 (fullT a) [(0, 1), (x, y), (u, v)] ∧ keptAll 3 (fullT b) [(0, 1), (x, y), (u, v)]) := by
  have tl := lesT_tops (full_tops ta) (fullT b)
  obtain ⟨e1, e2⟩ := of_may (lesT_length _ _) tl ho hm
  have k := in_meet la ta tb ha hb
  rw [← e] at e1 e2 k
  refine ⟨e2, ?_, ?_, fun x y u v hx hu => ?_⟩
  · rw [e]; exact short_tops (clT_tops tl)
  · rw [k]; exact ⟨fun h => h.2.2, fun h => ⟨ho, hm, h⟩⟩
  · have hq := may_three hx hu
    have k1 := tkept.kept_cl (n := 3) (L := lesT (fullT a) (fullT b)) (by decide) (by decide) (lesT_length _ _) tl ho hm hq rfl
    have k2 := tkept.kept_les (n := 3) (ts := fullT a) (us := fullT b) (by decide) rfl rfl ha.may hb.may hq rfl
    rw [e1]
    exact k1.trans k2
theorem meet_none {a b : List Int} (la : a.length = 6) (ta : Tops a) (tb : Tops b) (ha : MayZ a) (hb : MayZ b) (ho : ¬ OkD 3 (lesT (fullT a) (fullT b))) :
    ¬ inV 3 (fullT a) (fullT b) ∧ ∀ x y u v, MayR x y → MayR u v → ¬ (keptAll 3 (fullT a) [(0, 1), (x, y), (u, v)] ∧ keptAll 3 (fullT b) [(0, 1), (x, y), (u, v)]) := by
  refine ⟨fun h => ho ((in_meet la ta tb ha hb).1 h).1, fun x y u v hx hu h => ?_⟩
  have hq := may_three hx hu
  exact tkept.kept_no (n := 3) (L := lesT (fullT a) (fullT b)) (by decide) (by decide) (lesT_length _ _) (lesT_tops (full_tops ta) _) (lesT_may ha.may hb.may) ho hq rfl ((tkept.kept_les (n := 3) (ts := fullT a) (us := fullT b) (by decide) rfl rfl ha.may hb.may hq rfl).2 h)
theorem meet_far {a b : List Int} (la : a.length = 6) (ta : Tops a) (tb : Tops b) (ha : MayZ a) (hb : MayZ b) (hm : ¬ MayD 3 (clT 3 (lesT (fullT a) (fullT b)))) : ¬ inV 3 (fullT a) (fullT b) :=
  fun h => hm ((in_meet la ta tb ha hb).1 h).2.1
theorem zero_is {m0 m1 m2 m3 m4 m5 : Int} (h : [m0, m1, m2, m3, m4, m5] = zero6) : m0 = 0 ∧ m1 = 0 ∧ m2 = 0 ∧ m3 = 0 ∧ m4 = 0 ∧ m5 = 0 := by
  unfold zero6 at h
  simpa using h
theorem bool_no {r : Bool} {p : Prop} (h : r = true ↔ p) (k : ¬ p) : r = false := by
  cases r
  · rfl
  · exact (k (h.1 rfl)).elim

set_option maxRecDepth 100000 in
set_option maxHeartbeats 16000000 in
theorem walk (a0 a1 a2 a3 a4 a5 b0 b1 b2 b3 b4 b5 pa pb pc pd : Int) (w : World) (ha : ∀ x ∈ [a0, a1, a2, a3, a4, a5], -9223372036854775808 ≤ x ∧ x ≤ 9223372036854775807) (hb : ∀ x ∈ [b0, b1, b2, b3, b4, b5], -9223372036854775808 ≤ x ∧ x ≤ 9223372036854775807) (hp : ∀ x ∈ [pa, pb, pc, pd], -9223372036854775808 ≤ x ∧ x ≤ 9223372036854775807) (hP : Pl w) :
    Calls Tryd.prog 5 #[.agg #[.int .i64 a0, .int .i64 a1, .int .i64 a2, .int .i64 a3, .int .i64 a4, .int .i64 a5], .agg #[.int .i64 b0, .int .i64 b1, .int .i64 b2, .int .i64 b3, .int .i64 b4, .int .i64 b5], .agg #[.int .i64 pa, .int .i64 pb, .int .i64 pc, .int .i64 pd]] w fun e w' => e = .returned (.bool true) ∧ Below w.heap.size w w' := by
  have TA := Lib.hid (show Tops [a0, a1, a2, a3, a4, a5] from fun x hx => (ha x hx).2)
  have TB := Lib.hid (show Tops [b0, b1, b2, b3, b4, b5] from fun x hx => (hb x hx).2)
  have HF := Lib.hid (show zone.Fit [pa, pb, pc, pd] from hp)
  have X : ∃ w0, w0 = ((w.alloc (.cells #[.int .i64 a0, .int .i64 a1, .int .i64 a2, .int .i64 a3, .int .i64 a4, .int .i64 a5] 24)).alloc (.cells #[.int .i64 b0, .int .i64 b1, .int .i64 b2, .int .i64 b3, .int .i64 b4, .int .i64 b5] 24)).alloc (.cells #[.int .i64 pa, .int .i64 pb, .int .i64 pc, .int .i64 pd] 31) := ⟨_, rfl⟩
  obtain ⟨w0, hX⟩ := X
  have DB : Below w.heap.size w w0 := by rw [hX]; exact bound.up3 _ _ _ _
  have D0 : lies.Lies w0 w.heap.size 24 #[.int .i64 a0, .int .i64 a1, .int .i64 a2, .int .i64 a3, .int .i64 a4, .int .i64 a5] := by rw [hX]; exact lies.on_alloc (lies.on_alloc (lies.made _ _ _) _) _
  have D1 : lies.Lies w0 (w.heap.size + 1) 24 #[.int .i64 b0, .int .i64 b1, .int .i64 b2, .int .i64 b3, .int .i64 b4, .int .i64 b5] := by rw [hX]; exact lies.on_alloc (lies.made_at _ _ _ _ (by simp)) _
  have D2 : lies.Lies w0 (w.heap.size + 1 + 1) 31 #[.int .i64 pa, .int .i64 pb, .int .i64 pc, .int .i64 pd] := by rw [hX]; exact lies.made_at _ _ _ _ (by simp)
  have P0 := hP.on DB
  clear hP ha hb hp
  go_enter Tryd.func5, Tryd.ntmps5
  go_wp2_with fail
  rw [← hX]
  clear hX
  refine (alive_yes w0 P0).mono ?_
  rintro e w1 ⟨rfl, hB⟩
  replace D0 := lies.on_call D0 hB
  replace D1 := lies.on_call D1 hB
  replace D2 := lies.on_call D2 hB
  replace P0 := P0.on hB
  replace DB := later DB hB
  clear hB
  obtain ⟨⟨d0_0, d0_1, d0_2, d0_3, d0_4, d0_5⟩, _⟩ := six_cells D0
  have d0_l := lies.lt D0
  obtain ⟨⟨d1_0, d1_1, d1_2, d1_3, d1_4, d1_5⟩, _⟩ := six_cells D1
  have d1_l := lies.lt D1
  go_wp2_with fail
  clear d0_0 d0_1 d0_2 d0_3 d0_4 d0_5 d1_0 d1_1 d1_2 d1_3 d1_4 d1_5 d0_l d1_l
  refine (zmeet_any a0 a1 a2 a3 a4 a5 b0 b1 b2 b3 b4 b5 w1 P0 TA.out TB.out).mono ?_
  rintro e w2 ⟨hB, m0, m1, m2, m3, m4, m5, f, rfl, hM⟩
  replace D0 := lies.on_call D0 hB
  replace D1 := lies.on_call D1 hB
  replace D2 := lies.on_call D2 hB
  replace P0 := P0.on hB
  replace DB := later DB hB
  clear hB
  have HM := Lib.hid hM
  clear hM
  obtain ⟨⟨d0_0, d0_1, d0_2, d0_3, d0_4, d0_5⟩, _⟩ := six_cells D0
  have d0_l := lies.lt D0
  obtain ⟨⟨d1_0, d1_1, d1_2, d1_3, d1_4, d1_5⟩, _⟩ := six_cells D1
  have d1_l := lies.lt D1
  go_wp2_with fail
  clear d0_0 d0_1 d0_2 d0_3 d0_4 d0_5 d1_0 d1_1 d1_2 d1_3 d1_4 d1_5 d0_l d1_l
  have hA := bound.up1 w2 (.cells #[.int .i64 m0, .int .i64 m1, .int .i64 m2, .int .i64 m3, .int .i64 m4, .int .i64 m5] 24)
  have D3 := lies.made w2 24 #[.int .i64 m0, .int .i64 m1, .int .i64 m2, .int .i64 m3, .int .i64 m4, .int .i64 m5]
  replace D0 := lies.on_call D0 hA
  replace D1 := lies.on_call D1 hA
  replace D2 := lies.on_call D2 hA
  replace P0 := P0.on hA
  replace DB := later DB hA
  clear hA
  generalize w2.heap.size = XD3 at D3 ⊢
  generalize w2.alloc (.cells #[.int .i64 m0, .int .i64 m1, .int .i64 m2, .int .i64 m3, .int .i64 m4, .int .i64 m5] 24) = w3 at D0 D1 D2 D3 P0 DB ⊢
  refine (zin_any a0 a1 a2 a3 a4 a5 b0 b1 b2 b3 b4 b5 w3 P0 TA.out TB.out).mono ?_
  rintro e w4 ⟨hB, x, fx, rfl, hx⟩
  replace D0 := lies.on_call D0 hB
  replace D1 := lies.on_call D1 hB
  replace D2 := lies.on_call D2 hB
  replace D3 := lies.on_call D3 hB
  replace P0 := P0.on hB
  replace DB := later DB hB
  clear hB
  have HX := Lib.hid hx
  clear hx
  obtain ⟨⟨d0_0, d0_1, d0_2, d0_3, d0_4, d0_5⟩, _⟩ := six_cells D0
  have d0_l := lies.lt D0
  obtain ⟨⟨d1_0, d1_1, d1_2, d1_3, d1_4, d1_5⟩, _⟩ := six_cells D1
  have d1_l := lies.lt D1
  go_wp2_with fail
  clear d0_0 d0_1 d0_2 d0_3 d0_4 d0_5 d1_0 d1_1 d1_2 d1_3 d1_4 d1_5 d0_l d1_l
  refine (zin_any b0 b1 b2 b3 b4 b5 a0 a1 a2 a3 a4 a5 w4 P0 TB.out TA.out).mono ?_
  rintro e w5 ⟨hB, y, fy, rfl, hy⟩
  replace D0 := lies.on_call D0 hB
  replace D1 := lies.on_call D1 hB
  replace D2 := lies.on_call D2 hB
  replace D3 := lies.on_call D3 hB
  replace P0 := P0.on hB
  replace DB := later DB hB
  clear hB
  have HY := Lib.hid hy
  clear hy
  by_cases hz : MayZ [a0, a1, a2, a3, a4, a5] ∧ MayZ [b0, b1, b2, b3, b4, b5]
  · have HA := Lib.hid hz.1
    have HB := Lib.hid hz.2
    clear hz
    obtain ⟨rfl, hxq⟩ : fx = 0 ∧ (x = true ↔ inV 3 (fullT [a0, a1, a2, a3, a4, a5]) (fullT [b0, b1, b2, b3, b4, b5])) := by
      rcases HX.out with ⟨n, _⟩ | ⟨_, _, h, hq⟩
      · exact (n ⟨HA.out, HB.out⟩).elim
      · exact ⟨h, hq⟩
    obtain ⟨rfl, hyq⟩ : fy = 0 ∧ (y = true ↔ inV 3 (fullT [b0, b1, b2, b3, b4, b5]) (fullT [a0, a1, a2, a3, a4, a5])) := by
      rcases HY.out with ⟨n, _⟩ | ⟨_, _, h, hq⟩
      · exact (n ⟨HB.out, HA.out⟩).elim
      · exact ⟨h, hq⟩
    clear HX HY
    rcases HM.out with ⟨n, _⟩ | ⟨_, _, ho, hmz, rfl⟩ | ⟨_, _, ho, hm, hmz, rfl⟩ | ⟨_, _, ho, hm, hmz, rfl⟩
    · exact (n ⟨HA.out, HB.out⟩).elim
    · obtain ⟨k1, k2⟩ := meet_none rfl TA.out TB.out HA.out HB.out ho
      obtain rfl := bool_no hxq k1
      have HK := Lib.hid k2
      clear k1 k2 hxq hyq ho HM hmz
      obtain ⟨⟨d0_0, d0_1, d0_2, d0_3, d0_4, d0_5⟩, _⟩ := six_cells D0
      have d0_l := lies.lt D0
      obtain ⟨⟨d2_0, d2_1, d2_2, d2_3⟩, _⟩ := four_cells D2
      have d2_l := lies.lt D2
      go_wp2_with fail
      clear d0_0 d0_1 d0_2 d0_3 d0_4 d0_5 d2_0 d2_1 d2_2 d2_3 d0_l d2_l
      by_cases hpt : MayR pa pb ∧ MayR pc pd
      · have HPT := Lib.hid hpt
        clear hpt
        refine (has_any a0 a1 a2 a3 a4 a5 pa pb pc pd w5 P0 TA.out HF.out).mono ?_
        rintro e w6 ⟨hB, one, f, rfl, hR⟩
        replace D0 := lies.on_call D0 hB
        replace D1 := lies.on_call D1 hB
        replace D2 := lies.on_call D2 hB
        replace D3 := lies.on_call D3 hB
        replace P0 := P0.on hB
        replace DB := later DB hB
        clear hB
        obtain ⟨rfl, hone⟩ : f = 0 ∧ (one = true ↔ keptAll 3 (fullT [a0, a1, a2, a3, a4, a5]) [(0, 1), (pa, pb), (pc, pd)]) := by
          rcases hR with ⟨n, _⟩ | ⟨_, _, _, h, hq⟩
          · exact (n ⟨HA.out, HPT.out.1, HPT.out.2⟩).elim
          · exact ⟨h, hq⟩
        clear hR
        have Hone := Lib.hid hone
        clear hone
        obtain ⟨⟨d1_0, d1_1, d1_2, d1_3, d1_4, d1_5⟩, _⟩ := six_cells D1
        have d1_l := lies.lt D1
        obtain ⟨⟨d2_0, d2_1, d2_2, d2_3⟩, _⟩ := four_cells D2
        have d2_l := lies.lt D2
        go_wp2_with fail
        clear d1_0 d1_1 d1_2 d1_3 d1_4 d1_5 d2_0 d2_1 d2_2 d2_3 d1_l d2_l
        refine (has_any b0 b1 b2 b3 b4 b5 pa pb pc pd w6 P0 TB.out HF.out).mono ?_
        rintro e w7 ⟨hB, two, f, rfl, hR⟩
        replace D0 := lies.on_call D0 hB
        replace D1 := lies.on_call D1 hB
        replace D2 := lies.on_call D2 hB
        replace D3 := lies.on_call D3 hB
        replace P0 := P0.on hB
        replace DB := later DB hB
        clear hB
        obtain ⟨rfl, htwo⟩ : f = 0 ∧ (two = true ↔ keptAll 3 (fullT [b0, b1, b2, b3, b4, b5]) [(0, 1), (pa, pb), (pc, pd)]) := by
          rcases hR with ⟨n, _⟩ | ⟨_, _, _, h, hq⟩
          · exact (n ⟨HB.out, HPT.out.1, HPT.out.2⟩).elim
          · exact ⟨h, hq⟩
        clear hR
        have Htwo := Lib.hid htwo
        clear htwo
        have hnb : ¬ (one = true ∧ two = true) := fun h => HK.out _ _ _ _ HPT.out.1 HPT.out.2 ⟨Hone.out.1 h.1, Htwo.out.1 h.2⟩
        clear D0 D1 D2 D3
        cases one with
        | false =>
          clear hnb
          go_wp2_with fail
          go_ret
          exact ⟨rfl, DB⟩
        | true =>
          cases two with
          | false =>
            clear hnb
            go_wp2_with fail
            go_ret
            exact ⟨rfl, DB⟩
          | true => exact (hnb ⟨rfl, rfl⟩).elim
      · have HPT := Lib.hid hpt
        clear hpt
        refine (has_any a0 a1 a2 a3 a4 a5 pa pb pc pd w5 P0 TA.out HF.out).mono ?_
        rintro e w6 ⟨hB, one, f, rfl, hR⟩
        replace D0 := lies.on_call D0 hB
        replace D1 := lies.on_call D1 hB
        replace D2 := lies.on_call D2 hB
        replace D3 := lies.on_call D3 hB
        replace P0 := P0.on hB
        replace DB := later DB hB
        clear hB
        obtain ⟨rfl, rfl⟩ : f = 8 ∧ one = false := by
          rcases hR with ⟨_, h1, h2⟩ | ⟨_, h1, h2, _⟩
          · exact ⟨h2, h1⟩
          · exact (HPT.out ⟨h1, h2⟩).elim
        clear hR
        obtain ⟨⟨d1_0, d1_1, d1_2, d1_3, d1_4, d1_5⟩, _⟩ := six_cells D1
        have d1_l := lies.lt D1
        obtain ⟨⟨d2_0, d2_1, d2_2, d2_3⟩, _⟩ := four_cells D2
        have d2_l := lies.lt D2
        go_wp2_with fail
        clear d1_0 d1_1 d1_2 d1_3 d1_4 d1_5 d2_0 d2_1 d2_2 d2_3 d1_l d2_l
        refine (has_any b0 b1 b2 b3 b4 b5 pa pb pc pd w6 P0 TB.out HF.out).mono ?_
        rintro e w7 ⟨hB, two, f, rfl, hR⟩
        have KZ := later DB hB
        clear hB DB D0 D1 D2 D3 hR
        go_wp2_with fail
        go_ret
        exact ⟨rfl, KZ⟩
    · have k1 := meet_far rfl TA.out TB.out HA.out HB.out hm
      obtain rfl := bool_no hxq k1
      clear k1 hxq hyq ho hm HM hmz
      obtain ⟨⟨d0_0, d0_1, d0_2, d0_3, d0_4, d0_5⟩, _⟩ := six_cells D0
      have d0_l := lies.lt D0
      obtain ⟨⟨d2_0, d2_1, d2_2, d2_3⟩, _⟩ := four_cells D2
      have d2_l := lies.lt D2
      go_wp2_with fail
      clear d0_0 d0_1 d0_2 d0_3 d0_4 d0_5 d2_0 d2_1 d2_2 d2_3 d0_l d2_l
      by_cases hpt : MayR pa pb ∧ MayR pc pd
      · have HPT := Lib.hid hpt
        clear hpt
        refine (has_any a0 a1 a2 a3 a4 a5 pa pb pc pd w5 P0 TA.out HF.out).mono ?_
        rintro e w6 ⟨hB, one, f, rfl, hR⟩
        replace D0 := lies.on_call D0 hB
        replace D1 := lies.on_call D1 hB
        replace D2 := lies.on_call D2 hB
        replace D3 := lies.on_call D3 hB
        replace P0 := P0.on hB
        replace DB := later DB hB
        clear hB
        obtain ⟨rfl, hone⟩ : f = 0 ∧ (one = true ↔ keptAll 3 (fullT [a0, a1, a2, a3, a4, a5]) [(0, 1), (pa, pb), (pc, pd)]) := by
          rcases hR with ⟨n, _⟩ | ⟨_, _, _, h, hq⟩
          · exact (n ⟨HA.out, HPT.out.1, HPT.out.2⟩).elim
          · exact ⟨h, hq⟩
        clear hR
        have Hone := Lib.hid hone
        clear hone
        obtain ⟨⟨d1_0, d1_1, d1_2, d1_3, d1_4, d1_5⟩, _⟩ := six_cells D1
        have d1_l := lies.lt D1
        obtain ⟨⟨d2_0, d2_1, d2_2, d2_3⟩, _⟩ := four_cells D2
        have d2_l := lies.lt D2
        go_wp2_with fail
        clear d1_0 d1_1 d1_2 d1_3 d1_4 d1_5 d2_0 d2_1 d2_2 d2_3 d1_l d2_l
        refine (has_any b0 b1 b2 b3 b4 b5 pa pb pc pd w6 P0 TB.out HF.out).mono ?_
        rintro e w7 ⟨hB, two, f, rfl, hR⟩
        replace D0 := lies.on_call D0 hB
        replace D1 := lies.on_call D1 hB
        replace D2 := lies.on_call D2 hB
        replace D3 := lies.on_call D3 hB
        replace P0 := P0.on hB
        replace DB := later DB hB
        clear hB
        obtain ⟨rfl, htwo⟩ : f = 0 ∧ (two = true ↔ keptAll 3 (fullT [b0, b1, b2, b3, b4, b5]) [(0, 1), (pa, pb), (pc, pd)]) := by
          rcases hR with ⟨n, _⟩ | ⟨_, _, _, h, hq⟩
          · exact (n ⟨HB.out, HPT.out.1, HPT.out.2⟩).elim
          · exact ⟨h, hq⟩
        clear hR
        have Htwo := Lib.hid htwo
        clear htwo
        clear D0 D1 D2 D3
        go_wp2_with fail
        go_ret
        exact ⟨rfl, DB⟩
      · have HPT := Lib.hid hpt
        clear hpt
        refine (has_any a0 a1 a2 a3 a4 a5 pa pb pc pd w5 P0 TA.out HF.out).mono ?_
        rintro e w6 ⟨hB, one, f, rfl, hR⟩
        replace D0 := lies.on_call D0 hB
        replace D1 := lies.on_call D1 hB
        replace D2 := lies.on_call D2 hB
        replace D3 := lies.on_call D3 hB
        replace P0 := P0.on hB
        replace DB := later DB hB
        clear hB
        obtain ⟨rfl, rfl⟩ : f = 8 ∧ one = false := by
          rcases hR with ⟨_, h1, h2⟩ | ⟨_, h1, h2, _⟩
          · exact ⟨h2, h1⟩
          · exact (HPT.out ⟨h1, h2⟩).elim
        clear hR
        obtain ⟨⟨d1_0, d1_1, d1_2, d1_3, d1_4, d1_5⟩, _⟩ := six_cells D1
        have d1_l := lies.lt D1
        obtain ⟨⟨d2_0, d2_1, d2_2, d2_3⟩, _⟩ := four_cells D2
        have d2_l := lies.lt D2
        go_wp2_with fail
        clear d1_0 d1_1 d1_2 d1_3 d1_4 d1_5 d2_0 d2_1 d2_2 d2_3 d1_l d2_l
        refine (has_any b0 b1 b2 b3 b4 b5 pa pb pc pd w6 P0 TB.out HF.out).mono ?_
        rintro e w7 ⟨hB, two, f, rfl, hR⟩
        have KZ := later DB hB
        clear hB DB D0 D1 D2 D3 hR
        go_wp2_with fail
        go_ret
        exact ⟨rfl, KZ⟩
    · obtain ⟨k1, k2, k3, k4⟩ := meet_good rfl TA.out TB.out HA.out HB.out ho hm hmz
      have HMZ := Lib.hid k1
      have TM := Lib.hid k2
      have HK := Lib.hid k4
      have hxy := fun (h1 : x = true) (h2 : y = true) => in_two (a := [a0, a1, a2, a3, a4, a5]) (b := [b0, b1, b2, b3, b4, b5]) rfl rfl HA.out HB.out (hxq.1 h1) (hyq.1 h2)
      have hxm := hxq.trans k3
      clear k1 k2 k3 k4 hxq hyq ho hm HM hmz
      cases x with
      | false =>
        have hqm : ¬ ([m0, m1, m2, m3, m4, m5] = [a0, a1, a2, a3, a4, a5]) := fun h => absurd (hxm.2 h) (by decide)
        have q1 : ∀ W, (Op.equalIn 10000 24 (.agg #[.int .i64 m0, .int .i64 m1, .int .i64 m2, .int .i64 m3, .int .i64 m4, .int .i64 m5]) (.agg #[.int .i64 a0, .int .i64 a1, .int .i64 a2, .int .i64 a3, .int .i64 a4, .int .i64 a5])).run Tryd.prog W = .ok false W := fun W => by rw [eq_zone]; exact congrArg (fun b => Result.ok b W) (decide_eq_false hqm)
        clear hxm hxy hqm
        obtain ⟨⟨d3_0, d3_1, d3_2, d3_3, d3_4, d3_5⟩, _⟩ := six_cells D3
        have d3_l := lies.lt D3
        obtain ⟨⟨d0_0, d0_1, d0_2, d0_3, d0_4, d0_5⟩, _⟩ := six_cells D0
        have d0_l := lies.lt D0
        obtain ⟨⟨d0_0, d0_1, d0_2, d0_3, d0_4, d0_5⟩, _⟩ := six_cells D0
        have d0_l := lies.lt D0
        obtain ⟨⟨d2_0, d2_1, d2_2, d2_3⟩, _⟩ := four_cells D2
        have d2_l := lies.lt D2
        go_wp2_with fail
        clear d0_0 d0_1 d0_2 d0_3 d0_4 d0_5 d2_0 d2_1 d2_2 d2_3 d0_l d2_l
        by_cases hpt : MayR pa pb ∧ MayR pc pd
        · have HPT := Lib.hid hpt
          clear hpt
          refine (has_any a0 a1 a2 a3 a4 a5 pa pb pc pd w5 P0 TA.out HF.out).mono ?_
          rintro e w6 ⟨hB, one, f, rfl, hR⟩
          replace D0 := lies.on_call D0 hB
          replace D1 := lies.on_call D1 hB
          replace D2 := lies.on_call D2 hB
          replace D3 := lies.on_call D3 hB
          replace P0 := P0.on hB
          replace DB := later DB hB
          clear hB
          obtain ⟨rfl, hone⟩ : f = 0 ∧ (one = true ↔ keptAll 3 (fullT [a0, a1, a2, a3, a4, a5]) [(0, 1), (pa, pb), (pc, pd)]) := by
            rcases hR with ⟨n, _⟩ | ⟨_, _, _, h, hq⟩
            · exact (n ⟨HA.out, HPT.out.1, HPT.out.2⟩).elim
            · exact ⟨h, hq⟩
          clear hR
          have Hone := Lib.hid hone
          clear hone
          obtain ⟨⟨d1_0, d1_1, d1_2, d1_3, d1_4, d1_5⟩, _⟩ := six_cells D1
          have d1_l := lies.lt D1
          obtain ⟨⟨d2_0, d2_1, d2_2, d2_3⟩, _⟩ := four_cells D2
          have d2_l := lies.lt D2
          go_wp2_with fail
          clear d1_0 d1_1 d1_2 d1_3 d1_4 d1_5 d2_0 d2_1 d2_2 d2_3 d1_l d2_l
          refine (has_any b0 b1 b2 b3 b4 b5 pa pb pc pd w6 P0 TB.out HF.out).mono ?_
          rintro e w7 ⟨hB, two, f, rfl, hR⟩
          replace D0 := lies.on_call D0 hB
          replace D1 := lies.on_call D1 hB
          replace D2 := lies.on_call D2 hB
          replace D3 := lies.on_call D3 hB
          replace P0 := P0.on hB
          replace DB := later DB hB
          clear hB
          obtain ⟨rfl, htwo⟩ : f = 0 ∧ (two = true ↔ keptAll 3 (fullT [b0, b1, b2, b3, b4, b5]) [(0, 1), (pa, pb), (pc, pd)]) := by
            rcases hR with ⟨n, _⟩ | ⟨_, _, _, h, hq⟩
            · exact (n ⟨HB.out, HPT.out.1, HPT.out.2⟩).elim
            · exact ⟨h, hq⟩
          clear hR
          have Htwo := Lib.hid htwo
          clear htwo
          obtain ⟨⟨d3_0, d3_1, d3_2, d3_3, d3_4, d3_5⟩, _⟩ := six_cells D3
          have d3_l := lies.lt D3
          obtain ⟨⟨d2_0, d2_1, d2_2, d2_3⟩, _⟩ := four_cells D2
          have d2_l := lies.lt D2
          go_wp2_with fail
          clear d3_0 d3_1 d3_2 d3_3 d3_4 d3_5 d2_0 d2_1 d2_2 d2_3 d3_l d2_l
          refine (has_any m0 m1 m2 m3 m4 m5 pa pb pc pd w7 P0 TM.out HF.out).mono ?_
          rintro e w8 ⟨hB, bth, f, rfl, hR⟩
          replace D0 := lies.on_call D0 hB
          replace D1 := lies.on_call D1 hB
          replace D2 := lies.on_call D2 hB
          replace D3 := lies.on_call D3 hB
          replace P0 := P0.on hB
          replace DB := later DB hB
          clear hB
          obtain ⟨rfl, hbq⟩ : f = 0 ∧ (bth = true ↔ keptAll 3 (fullT [m0, m1, m2, m3, m4, m5]) [(0, 1), (pa, pb), (pc, pd)]) := by
            rcases hR with ⟨n, _⟩ | ⟨_, _, _, h, hq⟩
            · exact (n ⟨HMZ.out, HPT.out.1, HPT.out.2⟩).elim
            · exact ⟨h, hq⟩
          obtain rfl : bth = (one && two) := by
            rw [Bool.eq_iff_iff, hbq, HK.out _ _ _ _ HPT.out.1 HPT.out.2, Bool.and_eq_true, Hone.out, Htwo.out]
          clear hR hbq
          cases one <;> cases two
          all_goals
            obtain ⟨⟨m_0, m_1, m_2, m_3, m_4, m_5⟩, _⟩ := six_cells D3
            go_wp2_with fail
            clear m_0 m_1 m_2 m_3 m_4 m_5
            refine (check_any m0 m1 m2 m3 m4 m5 _ P0 TM.out).mono ?_
            rintro e w9 ⟨hB, f, rfl, hC⟩
            obtain rfl : f = 0 := by
              rcases hC with ⟨_, h⟩ | ⟨h, _⟩
              · exact h
              · exact (h HMZ.out).elim
            have KZ := later DB hB
            clear hB hC DB D0 D1 D2 D3
            go_wp2_with fail
            go_ret
            exact ⟨rfl, KZ⟩
        · have HPT := Lib.hid hpt
          clear hpt
          refine (has_any a0 a1 a2 a3 a4 a5 pa pb pc pd w5 P0 TA.out HF.out).mono ?_
          rintro e w6 ⟨hB, one, f, rfl, hR⟩
          replace D0 := lies.on_call D0 hB
          replace D1 := lies.on_call D1 hB
          replace D2 := lies.on_call D2 hB
          replace D3 := lies.on_call D3 hB
          replace P0 := P0.on hB
          replace DB := later DB hB
          clear hB
          obtain ⟨rfl, rfl⟩ : f = 8 ∧ one = false := by
            rcases hR with ⟨_, h1, h2⟩ | ⟨_, h1, h2, _⟩
            · exact ⟨h2, h1⟩
            · exact (HPT.out ⟨h1, h2⟩).elim
          clear hR
          obtain ⟨⟨d1_0, d1_1, d1_2, d1_3, d1_4, d1_5⟩, _⟩ := six_cells D1
          have d1_l := lies.lt D1
          obtain ⟨⟨d2_0, d2_1, d2_2, d2_3⟩, _⟩ := four_cells D2
          have d2_l := lies.lt D2
          go_wp2_with fail
          clear d1_0 d1_1 d1_2 d1_3 d1_4 d1_5 d2_0 d2_1 d2_2 d2_3 d1_l d2_l
          refine (has_any b0 b1 b2 b3 b4 b5 pa pb pc pd w6 P0 TB.out HF.out).mono ?_
          rintro e w7 ⟨hB, two, f, rfl, hR⟩
          have KZ := later DB hB
          clear hB DB D0 D1 D2 D3 hR
          go_wp2_with fail
          go_ret
          exact ⟨rfl, KZ⟩
      | true =>
        have hqm := hxm.1 rfl
        have q1 : ∀ W, (Op.equalIn 10000 24 (.agg #[.int .i64 m0, .int .i64 m1, .int .i64 m2, .int .i64 m3, .int .i64 m4, .int .i64 m5]) (.agg #[.int .i64 a0, .int .i64 a1, .int .i64 a2, .int .i64 a3, .int .i64 a4, .int .i64 a5])).run Tryd.prog W = .ok true W := fun W => by rw [eq_zone]; exact congrArg (fun b => Result.ok b W) (decide_eq_true hqm)
        clear hxm hqm
        obtain ⟨⟨d3_0, d3_1, d3_2, d3_3, d3_4, d3_5⟩, _⟩ := six_cells D3
        have d3_l := lies.lt D3
        obtain ⟨⟨d0_0, d0_1, d0_2, d0_3, d0_4, d0_5⟩, _⟩ := six_cells D0
        have d0_l := lies.lt D0
        obtain ⟨⟨d1_0, d1_1, d1_2, d1_3, d1_4, d1_5⟩, _⟩ := six_cells D1
        have d1_l := lies.lt D1
        cases y with
        | false =>
          clear hxy
          obtain ⟨⟨d0_0, d0_1, d0_2, d0_3, d0_4, d0_5⟩, _⟩ := six_cells D0
          have d0_l := lies.lt D0
          obtain ⟨⟨d2_0, d2_1, d2_2, d2_3⟩, _⟩ := four_cells D2
          have d2_l := lies.lt D2
          go_wp2_with fail
          clear d0_0 d0_1 d0_2 d0_3 d0_4 d0_5 d2_0 d2_1 d2_2 d2_3 d0_l d2_l
          by_cases hpt : MayR pa pb ∧ MayR pc pd
          · have HPT := Lib.hid hpt
            clear hpt
            refine (has_any a0 a1 a2 a3 a4 a5 pa pb pc pd w5 P0 TA.out HF.out).mono ?_
            rintro e w6 ⟨hB, one, f, rfl, hR⟩
            replace D0 := lies.on_call D0 hB
            replace D1 := lies.on_call D1 hB
            replace D2 := lies.on_call D2 hB
            replace D3 := lies.on_call D3 hB
            replace P0 := P0.on hB
            replace DB := later DB hB
            clear hB
            obtain ⟨rfl, hone⟩ : f = 0 ∧ (one = true ↔ keptAll 3 (fullT [a0, a1, a2, a3, a4, a5]) [(0, 1), (pa, pb), (pc, pd)]) := by
              rcases hR with ⟨n, _⟩ | ⟨_, _, _, h, hq⟩
              · exact (n ⟨HA.out, HPT.out.1, HPT.out.2⟩).elim
              · exact ⟨h, hq⟩
            clear hR
            have Hone := Lib.hid hone
            clear hone
            obtain ⟨⟨d1_0, d1_1, d1_2, d1_3, d1_4, d1_5⟩, _⟩ := six_cells D1
            have d1_l := lies.lt D1
            obtain ⟨⟨d2_0, d2_1, d2_2, d2_3⟩, _⟩ := four_cells D2
            have d2_l := lies.lt D2
            go_wp2_with fail
            clear d1_0 d1_1 d1_2 d1_3 d1_4 d1_5 d2_0 d2_1 d2_2 d2_3 d1_l d2_l
            refine (has_any b0 b1 b2 b3 b4 b5 pa pb pc pd w6 P0 TB.out HF.out).mono ?_
            rintro e w7 ⟨hB, two, f, rfl, hR⟩
            replace D0 := lies.on_call D0 hB
            replace D1 := lies.on_call D1 hB
            replace D2 := lies.on_call D2 hB
            replace D3 := lies.on_call D3 hB
            replace P0 := P0.on hB
            replace DB := later DB hB
            clear hB
            obtain ⟨rfl, htwo⟩ : f = 0 ∧ (two = true ↔ keptAll 3 (fullT [b0, b1, b2, b3, b4, b5]) [(0, 1), (pa, pb), (pc, pd)]) := by
              rcases hR with ⟨n, _⟩ | ⟨_, _, _, h, hq⟩
              · exact (n ⟨HB.out, HPT.out.1, HPT.out.2⟩).elim
              · exact ⟨h, hq⟩
            clear hR
            have Htwo := Lib.hid htwo
            clear htwo
            obtain ⟨⟨d3_0, d3_1, d3_2, d3_3, d3_4, d3_5⟩, _⟩ := six_cells D3
            have d3_l := lies.lt D3
            obtain ⟨⟨d2_0, d2_1, d2_2, d2_3⟩, _⟩ := four_cells D2
            have d2_l := lies.lt D2
            go_wp2_with fail
            clear d3_0 d3_1 d3_2 d3_3 d3_4 d3_5 d2_0 d2_1 d2_2 d2_3 d3_l d2_l
            refine (has_any m0 m1 m2 m3 m4 m5 pa pb pc pd w7 P0 TM.out HF.out).mono ?_
            rintro e w8 ⟨hB, bth, f, rfl, hR⟩
            replace D0 := lies.on_call D0 hB
            replace D1 := lies.on_call D1 hB
            replace D2 := lies.on_call D2 hB
            replace D3 := lies.on_call D3 hB
            replace P0 := P0.on hB
            replace DB := later DB hB
            clear hB
            obtain ⟨rfl, hbq⟩ : f = 0 ∧ (bth = true ↔ keptAll 3 (fullT [m0, m1, m2, m3, m4, m5]) [(0, 1), (pa, pb), (pc, pd)]) := by
              rcases hR with ⟨n, _⟩ | ⟨_, _, _, h, hq⟩
              · exact (n ⟨HMZ.out, HPT.out.1, HPT.out.2⟩).elim
              · exact ⟨h, hq⟩
            obtain rfl : bth = (one && two) := by
              rw [Bool.eq_iff_iff, hbq, HK.out _ _ _ _ HPT.out.1 HPT.out.2, Bool.and_eq_true, Hone.out, Htwo.out]
            clear hR hbq
            cases one <;> cases two
            all_goals
              obtain ⟨⟨m_0, m_1, m_2, m_3, m_4, m_5⟩, _⟩ := six_cells D3
              go_wp2_with fail
              clear m_0 m_1 m_2 m_3 m_4 m_5
              refine (check_any m0 m1 m2 m3 m4 m5 _ P0 TM.out).mono ?_
              rintro e w9 ⟨hB, f, rfl, hC⟩
              obtain rfl : f = 0 := by
                rcases hC with ⟨_, h⟩ | ⟨h, _⟩
                · exact h
                · exact (h HMZ.out).elim
              have KZ := later DB hB
              clear hB hC DB D0 D1 D2 D3
              go_wp2_with fail
              go_ret
              exact ⟨rfl, KZ⟩
          · have HPT := Lib.hid hpt
            clear hpt
            refine (has_any a0 a1 a2 a3 a4 a5 pa pb pc pd w5 P0 TA.out HF.out).mono ?_
            rintro e w6 ⟨hB, one, f, rfl, hR⟩
            replace D0 := lies.on_call D0 hB
            replace D1 := lies.on_call D1 hB
            replace D2 := lies.on_call D2 hB
            replace D3 := lies.on_call D3 hB
            replace P0 := P0.on hB
            replace DB := later DB hB
            clear hB
            obtain ⟨rfl, rfl⟩ : f = 8 ∧ one = false := by
              rcases hR with ⟨_, h1, h2⟩ | ⟨_, h1, h2, _⟩
              · exact ⟨h2, h1⟩
              · exact (HPT.out ⟨h1, h2⟩).elim
            clear hR
            obtain ⟨⟨d1_0, d1_1, d1_2, d1_3, d1_4, d1_5⟩, _⟩ := six_cells D1
            have d1_l := lies.lt D1
            obtain ⟨⟨d2_0, d2_1, d2_2, d2_3⟩, _⟩ := four_cells D2
            have d2_l := lies.lt D2
            go_wp2_with fail
            clear d1_0 d1_1 d1_2 d1_3 d1_4 d1_5 d2_0 d2_1 d2_2 d2_3 d1_l d2_l
            refine (has_any b0 b1 b2 b3 b4 b5 pa pb pc pd w6 P0 TB.out HF.out).mono ?_
            rintro e w7 ⟨hB, two, f, rfl, hR⟩
            have KZ := later DB hB
            clear hB DB D0 D1 D2 D3 hR
            go_wp2_with fail
            go_ret
            exact ⟨rfl, KZ⟩
        | true =>
          have hqq := hxy rfl rfl
          have q2 : ∀ W, (Op.equalIn 10000 24 (.agg #[.int .i64 a0, .int .i64 a1, .int .i64 a2, .int .i64 a3, .int .i64 a4, .int .i64 a5]) (.agg #[.int .i64 b0, .int .i64 b1, .int .i64 b2, .int .i64 b3, .int .i64 b4, .int .i64 b5])).run Tryd.prog W = .ok true W := fun W => by rw [eq_zone]; exact congrArg (fun b => Result.ok b W) (decide_eq_true hqq)
          clear hxy hqq
          obtain ⟨⟨d0_0, d0_1, d0_2, d0_3, d0_4, d0_5⟩, _⟩ := six_cells D0
          have d0_l := lies.lt D0
          obtain ⟨⟨d2_0, d2_1, d2_2, d2_3⟩, _⟩ := four_cells D2
          have d2_l := lies.lt D2
          go_wp2_with fail
          clear d0_0 d0_1 d0_2 d0_3 d0_4 d0_5 d2_0 d2_1 d2_2 d2_3 d0_l d2_l
          by_cases hpt : MayR pa pb ∧ MayR pc pd
          · have HPT := Lib.hid hpt
            clear hpt
            refine (has_any a0 a1 a2 a3 a4 a5 pa pb pc pd w5 P0 TA.out HF.out).mono ?_
            rintro e w6 ⟨hB, one, f, rfl, hR⟩
            replace D0 := lies.on_call D0 hB
            replace D1 := lies.on_call D1 hB
            replace D2 := lies.on_call D2 hB
            replace D3 := lies.on_call D3 hB
            replace P0 := P0.on hB
            replace DB := later DB hB
            clear hB
            obtain ⟨rfl, hone⟩ : f = 0 ∧ (one = true ↔ keptAll 3 (fullT [a0, a1, a2, a3, a4, a5]) [(0, 1), (pa, pb), (pc, pd)]) := by
              rcases hR with ⟨n, _⟩ | ⟨_, _, _, h, hq⟩
              · exact (n ⟨HA.out, HPT.out.1, HPT.out.2⟩).elim
              · exact ⟨h, hq⟩
            clear hR
            have Hone := Lib.hid hone
            clear hone
            obtain ⟨⟨d1_0, d1_1, d1_2, d1_3, d1_4, d1_5⟩, _⟩ := six_cells D1
            have d1_l := lies.lt D1
            obtain ⟨⟨d2_0, d2_1, d2_2, d2_3⟩, _⟩ := four_cells D2
            have d2_l := lies.lt D2
            go_wp2_with fail
            clear d1_0 d1_1 d1_2 d1_3 d1_4 d1_5 d2_0 d2_1 d2_2 d2_3 d1_l d2_l
            refine (has_any b0 b1 b2 b3 b4 b5 pa pb pc pd w6 P0 TB.out HF.out).mono ?_
            rintro e w7 ⟨hB, two, f, rfl, hR⟩
            replace D0 := lies.on_call D0 hB
            replace D1 := lies.on_call D1 hB
            replace D2 := lies.on_call D2 hB
            replace D3 := lies.on_call D3 hB
            replace P0 := P0.on hB
            replace DB := later DB hB
            clear hB
            obtain ⟨rfl, htwo⟩ : f = 0 ∧ (two = true ↔ keptAll 3 (fullT [b0, b1, b2, b3, b4, b5]) [(0, 1), (pa, pb), (pc, pd)]) := by
              rcases hR with ⟨n, _⟩ | ⟨_, _, _, h, hq⟩
              · exact (n ⟨HB.out, HPT.out.1, HPT.out.2⟩).elim
              · exact ⟨h, hq⟩
            clear hR
            have Htwo := Lib.hid htwo
            clear htwo
            obtain ⟨⟨d3_0, d3_1, d3_2, d3_3, d3_4, d3_5⟩, _⟩ := six_cells D3
            have d3_l := lies.lt D3
            obtain ⟨⟨d2_0, d2_1, d2_2, d2_3⟩, _⟩ := four_cells D2
            have d2_l := lies.lt D2
            go_wp2_with fail
            clear d3_0 d3_1 d3_2 d3_3 d3_4 d3_5 d2_0 d2_1 d2_2 d2_3 d3_l d2_l
            refine (has_any m0 m1 m2 m3 m4 m5 pa pb pc pd w7 P0 TM.out HF.out).mono ?_
            rintro e w8 ⟨hB, bth, f, rfl, hR⟩
            replace D0 := lies.on_call D0 hB
            replace D1 := lies.on_call D1 hB
            replace D2 := lies.on_call D2 hB
            replace D3 := lies.on_call D3 hB
            replace P0 := P0.on hB
            replace DB := later DB hB
            clear hB
            obtain ⟨rfl, hbq⟩ : f = 0 ∧ (bth = true ↔ keptAll 3 (fullT [m0, m1, m2, m3, m4, m5]) [(0, 1), (pa, pb), (pc, pd)]) := by
              rcases hR with ⟨n, _⟩ | ⟨_, _, _, h, hq⟩
              · exact (n ⟨HMZ.out, HPT.out.1, HPT.out.2⟩).elim
              · exact ⟨h, hq⟩
            obtain rfl : bth = (one && two) := by
              rw [Bool.eq_iff_iff, hbq, HK.out _ _ _ _ HPT.out.1 HPT.out.2, Bool.and_eq_true, Hone.out, Htwo.out]
            clear hR hbq
            cases one <;> cases two
            all_goals
              obtain ⟨⟨m_0, m_1, m_2, m_3, m_4, m_5⟩, _⟩ := six_cells D3
              go_wp2_with fail
              clear m_0 m_1 m_2 m_3 m_4 m_5
              refine (check_any m0 m1 m2 m3 m4 m5 _ P0 TM.out).mono ?_
              rintro e w9 ⟨hB, f, rfl, hC⟩
              obtain rfl : f = 0 := by
                rcases hC with ⟨_, h⟩ | ⟨h, _⟩
                · exact h
                · exact (h HMZ.out).elim
              have KZ := later DB hB
              clear hB hC DB D0 D1 D2 D3
              go_wp2_with fail
              go_ret
              exact ⟨rfl, KZ⟩
          · have HPT := Lib.hid hpt
            clear hpt
            refine (has_any a0 a1 a2 a3 a4 a5 pa pb pc pd w5 P0 TA.out HF.out).mono ?_
            rintro e w6 ⟨hB, one, f, rfl, hR⟩
            replace D0 := lies.on_call D0 hB
            replace D1 := lies.on_call D1 hB
            replace D2 := lies.on_call D2 hB
            replace D3 := lies.on_call D3 hB
            replace P0 := P0.on hB
            replace DB := later DB hB
            clear hB
            obtain ⟨rfl, rfl⟩ : f = 8 ∧ one = false := by
              rcases hR with ⟨_, h1, h2⟩ | ⟨_, h1, h2, _⟩
              · exact ⟨h2, h1⟩
              · exact (HPT.out ⟨h1, h2⟩).elim
            clear hR
            obtain ⟨⟨d1_0, d1_1, d1_2, d1_3, d1_4, d1_5⟩, _⟩ := six_cells D1
            have d1_l := lies.lt D1
            obtain ⟨⟨d2_0, d2_1, d2_2, d2_3⟩, _⟩ := four_cells D2
            have d2_l := lies.lt D2
            go_wp2_with fail
            clear d1_0 d1_1 d1_2 d1_3 d1_4 d1_5 d2_0 d2_1 d2_2 d2_3 d1_l d2_l
            refine (has_any b0 b1 b2 b3 b4 b5 pa pb pc pd w6 P0 TB.out HF.out).mono ?_
            rintro e w7 ⟨hB, two, f, rfl, hR⟩
            have KZ := later DB hB
            clear hB DB D0 D1 D2 D3 hR
            go_wp2_with fail
            go_ret
            exact ⟨rfl, KZ⟩
  · have HZ := Lib.hid hz
    clear hz
    obtain ⟨rfl, rfl⟩ : fx = 8 ∧ x = false := by
      rcases HX.out with ⟨_, h1, h2⟩ | ⟨h1, h2, _⟩
      · exact ⟨h2, h1⟩
      · exact (HZ.out ⟨h1, h2⟩).elim
    obtain ⟨rfl, rfl⟩ : fy = 8 ∧ y = false := by
      rcases HY.out with ⟨_, h1, h2⟩ | ⟨h1, h2, _⟩
      · exact ⟨h2, h1⟩
      · exact (HZ.out ⟨h2, h1⟩).elim
    obtain rfl : f = 8 := by
      rcases HM.out with ⟨_, _, h⟩ | ⟨h1, h2, _⟩ | ⟨h1, h2, _⟩ | ⟨h1, h2, _⟩
      · exact h
      · exact (HZ.out ⟨h1, h2⟩).elim
      · exact (HZ.out ⟨h1, h2⟩).elim
      · exact (HZ.out ⟨h1, h2⟩).elim
    clear HX HY HM D0 D1 D2 D3
    go_wp2_with fail
    go_ret
    exact ⟨rfl, DB⟩

set_option maxRecDepth 100000 in
theorem lifted (os : Os) (started : os.Started) (H : Type) (enc : TypeId × Value → H) :
    ReturnsInHanded {} Tryd.checked os 5 .any (fun w args => (Rows.zoneMeetsSpec.pre enc Tryd.prog Tryd.f5 [] false w args ∧ laidMetH Tryd.prog zopen.places w) ∧ sizedMet enc Tryd.prog Tryd.f5 (OpenSpec.ofChange Rows.zoneMeetsSpec) false w args) (Rows.zoneMeetsSpec.post enc Tryd.prog Tryd.f5 false true false false) := by
  refine returnsInHanded_of_change_and (C := Tryd.checked) (X := fun w _ => laidMetH Tryd.prog zopen.places w) (fun _ _ _ hh h => h.of_heap hh) law.own started (by kernel_rfl) Tryd.func5
    (ChangeSpec.witness_shaped (enc := enc) (C := Tryd.checked) (os := os) (X := fun w _ => laidMetH Tryd.prog zopen.places w) false (World.doorLaid Tryd.prog 400 os) #[.agg #[.int .i64 0, .int .i64 0, .int .i64 0, .int .i64 0, .int .i64 0, .int .i64 0], .agg #[.int .i64 0, .int .i64 0, .int .i64 0, .int .i64 0, .int .i64 0, .int .i64 0], .agg #[.int .i64 0, .int .i64 0, .int .i64 0, .int .i64 0]] 8 rfl (World.shaped_of_RefB (by kernel_rfl) (by kernel_rfl)) (by kernel_rfl) (by kernel_rfl) (by kernel_rfl) (zopen.door_met os _)) ?_
  intro W base args ds gs before hval0 hW _ _ hL _
  have hval : ∀ (j : Nat) t v, Tryd.f5.params[j]? = some t → args[j]? = some v → Value.okWide Tryd.prog W .any base t v := hval0
  have hW' := hW
  obtain ⟨p, q, hA0, hV, rfl, _, _⟩ := hW
  have hA : DataW.TrodAll enc Tryd.prog W 0 (fun _ => true) true Tryd.f5.params.toList args.toList ds p := hA0
  rw [Tryd.params5] at hA hval
  obtain ⟨v0, vs0, d0, ds0, p0, q0, hargs, rfl, rfl, h0, r0⟩ := trodAll_cons hA
  obtain ⟨v1, vs1, d1, ds1, p1, q1, rfl, rfl, rfl, h1, r1⟩ := trodAll_cons r0
  obtain ⟨v2, vs2, d2, ds2, p2, q2, rfl, rfl, rfl, h2, r2⟩ := trodAll_cons r1
  obtain ⟨rfl, rfl, rfl⟩ := trodAll_nil r2
  obtain rfl : args = #[v0, v1, v2] := by cases args; simp_all
  obtain ⟨z00, z01, z02, z03, z04, z05, rfl, w0⟩ := zopen.open_zone (hval 0 24 v0 rfl rfl) h0
  obtain ⟨z10, z11, z12, z13, z14, z15, rfl, w1⟩ := zopen.open_zone (hval 1 24 v1 rfl rfl) h1
  obtain ⟨a2, b2, c2, e2, rfl, w2⟩ := zopen.open_point (hval 2 31 v2 rfl rfl) h2
  refine (walk z00 z01 z02 z03 z04 z05 z10 z11 z12 z13 z14 z15 a2 b2 c2 e2 W (fun x hx => ⟨law.wf_lo (w0 x hx), law.wf_hi (w0 x hx)⟩) (fun x hx => ⟨law.wf_lo (w1 x hx), law.wf_hi (w1 x hx)⟩) (fun x hx => ⟨law.wf_lo (w2 x hx), law.wf_hi (w2 x hx)⟩) (zopen.laid_pl hL)).mono fun e W' ⟨he, hB⟩ => ?_
  subst he
  exact ⟨_, rfl, law.post_true law.laidOut (by kernel_rfl) rfl Tryd.underlying4 rfl hW' (fun h => by subst h; rfl) hB⟩

theorem proved : Rows.ZoneMeetsSaid :=
  OpenClaim.holds_of_wide 5 Tryd.f5 rfl rfl rfl rfl rfl rfl rfl ⟨rfl, rfl, rfl, rfl, rfl⟩ rfl rfl rfl rfl rfl (by kernel_rfl) Tryd.func5 (by kernel_rfl)
    (of_decide_eq_true (by kernel_rfl)) (by unfold Func.isWrapper; first | (rw [if_pos (by decide +kernel)]; kernel_rfl) | (rw [if_neg (by decide +kernel)]; exact ⟨rfl, rfl⟩))
    (fun os started H enc _ => lifted os started H enc)
theorem card : Rows.ZoneMeetsCardSaid :=
  Claim7.holds_tied_plain_at .later [] [.data] true (true, "4be1debb0f09659e5460b97b458758f1449b4fc9791f7bbbc4af352f36ab9380") false
    proved (fun _ h => by cases h) (by kernel_rfl) (fun _ h => by cases h) zoneMeets_row_tie rfl ⟨rfl, rfl⟩ (by kernel_rfl) rfl
    (fun f fn hf hfn => by
      obtain rfl : f = 5 := Option.some.inj ((show Tryd.prog.funcNamed "rallentando/rallentandolaw08.ZoneMeets" = some 5 by kernel_rfl).symm.trans hf) |>.symm
      obtain rfl : fn = Tryd.f5 := (Option.some.inj (Tryd.func5.symm.trans hfn)).symm
      exact ⟨by kernel_rfl, fun j t ht => by
        rw [Tryd.params5] at ht
        have hm : t ∈ [24, 24, 31] := by simpa using Array.mem_of_getElem? ht
        have hall : ([24, 24, 31].all fun u => !Tryd.prog.wantsStandIn u) = true := by kernel_rfl
        exact (show Tryd.prog.wantsStandIn t = false by simpa using List.all_eq_true.1 hall t hm)⟩)
    (by kernel_rfl)
#print axioms card
end Go.Proofs.YtklejbheieceeaaDoor.zoneMeets
