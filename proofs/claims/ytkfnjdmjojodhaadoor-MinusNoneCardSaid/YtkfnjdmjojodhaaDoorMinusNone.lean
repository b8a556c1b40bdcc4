/-
  MinusNone answers true for every two zones; the listed variable reads as the program lays it.
-/
import Derived.Test.YtkfnjdmjojodhaaDoorMinusG
import Derived.Test.YtkfnjdmjojodhaaDoorCards
import Derived.Test.YtkfnjdmjojodhaaDoorTie
import Derived.BigQuiet
namespace Go.Proofs.YtkfnjdmjojodhaaDoor.minusNone
open Go.Joins Go.ChangeShapes Go.WideShapes Go.ChangeAt Go.RowKit num rat dbm Go.Proofs.YtkfnjdmjojodhaaDoor.tight Go.Proofs.YtkfnjdmjojodhaaDoor.incl Go.Proofs.YtkfnjdmjojodhaaDoor.plaw Go.Proofs.YtkfnjdmjojodhaaDoor.zopen Go.Proofs.YtkfnjdmjojodhaaDoor.zone Go.Proofs.YtkfnjdmjojodhaaDoor.zlaw Go.Proofs.YtkfnjdmjojodhaaDoor.win Go.Proofs.YtkfnjdmjojodhaaDoor.minus Go.Proofs.YtkfnjdmjojodhaaDoor.mz Go.Proofs.YtkfnjdmjojodhaaDoor.mlaw
open bound hiding up
set_option linter.unusedVariables false
set_option linter.unusedSimpArgs false

theorem meet_six {x y z : List Int} {f : Int} (hx : MayZ x) (hy : MayZ y) (n : ¬ OkD 3 (lesT (fullT x) (fullT y))) (h : MeetR x y z f) : f = 6 := by
  rcases h with ⟨q, _⟩ | ⟨_, _, _, _, e⟩ | ⟨_, _, o, _⟩ | ⟨_, _, o, _⟩
  · exact (q ⟨hx, hy⟩).elim
  · exact e
  · exact (n o).elim
  · exact (n o).elim
/-- what is known of what is left. -/
def Known (a b : List Int) (r : List (List Int)) (k : Nat) : Prop :=
  Zo (zat r k) ∧ (∀ z f, MeetR (zat r k) b z f → f = 6) ∧ (∀ it f, InR (zat r k) a it f → it = true ∧ f = 0) ∧ ∀ j, j < k → ∀ z f, MeetR (zat r k) (zat r j) z f → f = 6
theorem none_facts {a b : List Int} {r : List (List Int)} {it : Bool} (ha : Zo a) (hb : Zo b) (hin : it = true ↔ inV 3 (fullT a) (fullT b)) (h : LessR b 6 a r 0) :
    (it = true → r = []) ∧ (it = false → ¬ r.length = 0) ∧ r.length ≤ 1000000 ∧ ∀ k, k < r.length → Known a b r k := by
  rw [in_six ha.1] at hin
  have zr := less_zo hb.2.1 hb.1 6 (Nat.le_refl _) ha h
  have le := less_le hb.2.1 hb.1 6 (Nat.le_refl _) ha h
  have ap := less_apart hb.2.1 hb.1 6 (Nat.le_refl _) ha h
  have pr := less_pair hb.2.1 hb.1 6 (Nat.le_refl _) ha h
  have len : r.length ≤ 6 := by
    obtain ⟨ys, hy⟩ := pcs_ex b 6 a
    obtain ⟨f', h1, _⟩ := pcs_less hb.2.1 hb.1 6 (Nat.le_refl _) ha hy
    obtain ⟨e1, e2⟩ := less_same 6 h1 h
    subst e2
    rw [if_pos rfl] at e1
    rw [e1]
    exact (pcs_all hb.2.1 hb.1 6 (Nat.le_refl _) ha hy).1
  refine ⟨fun e => (less_in hb.2.1 hb.1 6 (Nat.le_refl _) ha (fun i _ hi => hin.1 e i hi) h).1, fun e n => ?_, by omega, fun k hk => ?_⟩
  · have n : r = [] := List.eq_nil_of_length_eq_zero n
    subst n
    have := hin.2 (fun i hi => less_nil hb.2.1 hb.1 6 (Nat.le_refl _) ha h i (by omega) hi)
    rw [e] at this
    cases this
  · have hm := zat_mem hk
    have zk := zr _ hm
    refine ⟨zk, fun z f hf => ?_, fun it f hf => ?_, fun j hj z f hf => ?_⟩
    · obtain ⟨i, hi, n, q⟩ := ap _ hm
      obtain ⟨s1, s2⟩ := share_none zk.2.1 hb.2.1 hi (comp.six_fine hb.1.may i hi) n q (Int.le_refl _)
      exact meet_six zk.1 hb.1 s1 hf
    · rcases hf with ⟨q, _⟩ | ⟨_, _, e, q⟩
      · exact (q ⟨zk.1, ha.1⟩).elim
      · exact ⟨q.2 ((in_six zk.1).2 (fun i hi => le _ hm i hi)), e⟩
    · have hjr : j < r.length := Nat.lt_trans hj hk
      have p := (List.pairwise_iff_getElem.1 pr) j k hjr hk hj
      have ej : zat r j = r[j] := by unfold zat; rw [List.getElem?_eq_getElem hjr]; rfl
      have ek : zat r k = r[k] := by unfold zat; rw [List.getElem?_eq_getElem hk]; rfl
      obtain ⟨i, hi, n, q1, q2⟩ := p
      have zj := zr _ (zat_mem hjr)
      rw [← ej] at q1
      rw [← ek] at q2
      obtain ⟨s1, s2⟩ := share_none zj.2.1 zk.2.1 hi (comp.six_fine hb.1.may i hi) n q1 q2
      exact meet_six zk.1 zj.1 s2 hf
/-- less itself. -/
theorem less_own {a : List Int} {r : List (List Int)} {f : Int} (ha : a.length = 6) (ta : Tops a) (h : MinR a a r f) : (¬ MayZ a ∧ f = 8 ∧ r = []) ∨ (MayZ a ∧ f = 0 ∧ r = []) := by
  rcases h with ⟨n, e1, e2⟩ | ⟨m, _, hS⟩
  · exact .inl ⟨fun q => n ⟨q, q⟩, e2, e1⟩
  · have z := zo_may ha ta m
    obtain ⟨e1, e2⟩ := less_in z.2.1 z.1 6 (Nat.le_refl _) z (fun i _ _ => Int.le_refl _) (min_less z z hS)
    exact .inr ⟨m, e2, e1⟩

set_option maxRecDepth 100000 in
set_option maxHeartbeats 32000000 in
theorem walk (a0 a1 a2 a3 a4 a5 b0 b1 b2 b3 b4 b5 : Int) (w : World) (ha : ∀ x ∈ [a0, a1, a2, a3, a4, a5], -9223372036854775808 ≤ x ∧ x ≤ 9223372036854775807) (hb : ∀ x ∈ [b0, b1, b2, b3, b4, b5], -9223372036854775808 ≤ x ∧ x ≤ 9223372036854775807) (hP : Pl w) : Calls Tryd.prog 6 #[.agg #[.int .i64 a0, .int .i64 a1, .int .i64 a2, .int .i64 a3, .int .i64 a4, .int .i64 a5], .agg #[.int .i64 b0, .int .i64 b1, .int .i64 b2, .int .i64 b3, .int .i64 b4, .int .i64 b5]] w fun e w' => e = .returned (.bool true) ∧ Below w.heap.size w w' := by
  have TA := Lib.hid (show Tops [a0, a1, a2, a3, a4, a5] from fun x hx => (ha x hx).2)
  have TB := Lib.hid (show Tops [b0, b1, b2, b3, b4, b5] from fun x hx => (hb x hx).2)
  have X : ∃ w0, w0 = (w.alloc (.cells #[.int .i64 a0, .int .i64 a1, .int .i64 a2, .int .i64 a3, .int .i64 a4, .int .i64 a5] 24)).alloc (.cells #[.int .i64 b0, .int .i64 b1, .int .i64 b2, .int .i64 b3, .int .i64 b4, .int .i64 b5] 24) := ⟨_, rfl⟩
  obtain ⟨w0, hX⟩ := X
  have DB : Below w.heap.size w w0 := by rw [hX]; exact bound.up2 w _ _
  have D0 : lies.Lies w0 (w.heap.size) 24 #[.int .i64 a0, .int .i64 a1, .int .i64 a2, .int .i64 a3, .int .i64 a4, .int .i64 a5] := by rw [hX]; exact lies.on_alloc (lies.made _ _ _) _
  have D1 : lies.Lies w0 (w.heap.size + 1) 24 #[.int .i64 b0, .int .i64 b1, .int .i64 b2, .int .i64 b3, .int .i64 b4, .int .i64 b5] := by rw [hX]; exact lies.made_at _ _ _ _ (by simp)
  have P0 := hP.on DB
  clear hP ha hb
  go_enter Tryd.func6, Tryd.ntmps6
  go_wp2_with fail
  rw [← hX]
  clear hX
  refine (alive_yes w0 P0).mono ?_
  rintro e w1 ⟨rfl, hB⟩
  replace D0 := lies.on_call D0 hB
  replace D1 := lies.on_call D1 hB
  replace P0 := P0.on hB
  replace DB := later DB hB
  clear hB
  obtain ⟨⟨kD0_0, kD0_1, kD0_2, kD0_3, kD0_4, kD0_5⟩, -⟩ := six_cells D0
  have kD0_l := lies.lt D0
  go_wp2_with fail
  clear kD0_0 kD0_1 kD0_2 kD0_3 kD0_4 kD0_5 kD0_l
  refine (minus.minus_any a0 a1 a2 a3 a4 a5 a0 a1 a2 a3 a4 a5 w1 P0 TA.out TA.out).mono ?_
  rintro e w2 ⟨hB, v1, r1, f1, rfl, hR, hO⟩
  have hO := zs_own hO
  obtain ⟨o1, e1, rfl⟩ := zs_len hO
  clear hO
  have hR1 := less_own rfl TA.out hR
  clear hR
  replace D0 := lies.on_call D0 hB
  replace D1 := lies.on_call D1 hB
  replace P0 := P0.on hB
  replace DB := later DB hB
  clear hB
  obtain rfl : r1 = [] := by rcases hR1 with ⟨_, _, e⟩ | ⟨_, _, e⟩ <;> exact e
  have HR1 := Lib.hid hR1
  clear hR1
  have e0 : (([] : List (List Int)).length) = 0 := rfl
  rw [e0]
  clear e0
  obtain ⟨⟨kD0_0, kD0_1, kD0_2, kD0_3, kD0_4, kD0_5⟩, -⟩ := six_cells D0
  have kD0_l := lies.lt D0
  obtain ⟨⟨kD1_0, kD1_1, kD1_2, kD1_3, kD1_4, kD1_5⟩, -⟩ := six_cells D1
  have kD1_l := lies.lt D1
  go_wp2_with fail
  clear kD0_0 kD0_1 kD0_2 kD0_3 kD0_4 kD0_5 kD0_l kD1_0 kD1_1 kD1_2 kD1_3 kD1_4 kD1_5 kD1_l
  refine (minus.minus_any a0 a1 a2 a3 a4 a5 b0 b1 b2 b3 b4 b5 w2 P0 TA.out TB.out).mono ?_
  rintro e w3 ⟨hB, v2, r2, f2, rfl, hR, hO⟩
  have hO := zs_own hO
  obtain ⟨o2, e2, rfl⟩ := zs_len hO
  have HV := Lib.hid hO
  have HR2 := Lib.hid hR
  clear hR hO
  replace D0 := lies.on_call D0 hB
  replace D1 := lies.on_call D1 hB
  replace P0 := P0.on hB
  replace DB := later DB hB
  clear hB
  obtain ⟨⟨kD0_0, kD0_1, kD0_2, kD0_3, kD0_4, kD0_5⟩, -⟩ := six_cells D0
  have kD0_l := lies.lt D0
  obtain ⟨⟨kD1_0, kD1_1, kD1_2, kD1_3, kD1_4, kD1_5⟩, -⟩ := six_cells D1
  have kD1_l := lies.lt D1
  go_wp2_with fail
  clear kD0_0 kD0_1 kD0_2 kD0_3 kD0_4 kD0_5 kD0_l kD1_0 kD1_1 kD1_2 kD1_3 kD1_4 kD1_5 kD1_l
  refine (zin_any a0 a1 a2 a3 a4 a5 b0 b1 b2 b3 b4 b5 w3 P0 TA.out TB.out).mono ?_
  rintro e w4 ⟨hB, it, g, rfl, hR⟩
  have HIN := Lib.hid hR
  clear hR
  replace D0 := lies.on_call D0 hB
  replace D1 := lies.on_call D1 hB
  replace HV := Lib.hid ((HV.out.below hB).mono hB.size)
  replace P0 := P0.on hB
  replace DB := later DB hB
  clear hB
  rcases HR1.out with ⟨nm, rfl, _⟩ | ⟨ma, rfl, _⟩
  · skip
    obtain rfl : f2 = 8 := by
      rcases HR2.out with ⟨_, _, e⟩ | ⟨m, _⟩
      · exact e
      · exact (nm m).elim
    have NM := Lib.hid nm
    clear nm HR1 HR2 HIN
    obtain ⟨⟨kD0_0, kD0_1, kD0_2, kD0_3, kD0_4, kD0_5⟩, -⟩ := six_cells D0
    have kD0_l := lies.lt D0
    go_wp2_with fail
    clear kD0_0 kD0_1 kD0_2 kD0_3 kD0_4 kD0_5 kD0_l
    refine (zone.check_any a0 a1 a2 a3 a4 a5 w4 P0 TA.out).mono ?_
    rintro e w5 ⟨hB, f, rfl, hc⟩
    obtain rfl : f = 8 := by
      rcases hc with ⟨m, _⟩ | ⟨_, q⟩
      · exact (NM.out m).elim
      · exact q
    clear hc
    replace D0 := lies.on_call D0 hB
    replace D1 := lies.on_call D1 hB
    replace HV := Lib.hid ((HV.out.below hB).mono hB.size)
    replace P0 := P0.on hB
    replace DB := later DB hB
    clear hB
    go_wp2_with fail
    go_ret
    exact ⟨rfl, DB⟩
  · skip
    have MA := Lib.hid ma
    clear ma HR1
    by_cases hg : g = 0
    · skip
      subst hg
      obtain ⟨mb, hin⟩ : MayZ [b0, b1, b2, b3, b4, b5] ∧ (it = true ↔ inV 3 (fullT [a0, a1, a2, a3, a4, a5]) (fullT [b0, b1, b2, b3, b4, b5])) := by
        rcases HIN.out with ⟨_, _, n⟩ | ⟨_, q, _, r⟩
        · exact absurd n (by decide)
        · exact ⟨q, r⟩
      have MB := Lib.hid mb
      have HI2 := Lib.hid hin
      clear mb hin HIN
      by_cases hf : f2 = 0
      · skip
        subst hf
        have hS : LessR [b0, b1, b2, b3, b4, b5] 6 [a0, a1, a2, a3, a4, a5] r2 0 := by
          rcases HR2.out with ⟨_, _, n⟩ | ⟨_, _, q⟩
          · exact absurd n (by decide)
          · exact min_less (zo_may rfl TA.out MA.out) (zo_may rfl TB.out MB.out) q
        obtain ⟨k1, k2, hlm, k4⟩ := none_facts (zo_may rfl TA.out MA.out) (zo_may rfl TB.out MB.out) HI2.out hS
        have HK := Lib.hid k4
        clear k4 hS HR2 HI2
        cases it with
        | true =>
          obtain rfl := k1 rfl
          clear k1 k2
          have e0 : (([] : List (List Int)).length) = 0 := rfl
          rw [e0]
          clear e0
          go_wp2_with fail
          go_loopw [12] (fun i wr => i = .int .i64 0 ∧ Below w.heap.size w wr) (fun _ _ => 0)
          case atStart => exact ⟨rfl, DB⟩
          case round =>
            obtain ⟨rfl, hB⟩ := hrel
            go_wp2_with fail
            go_ret
            exact ⟨rfl, hB⟩
        | false =>
          have k2 := k2 rfl
          have k2i : ¬ (r2.length : Int) = 0 := by omega
          have k2b : ((r2.length : Int) == 0) = false := by simpa using k2i
          clear k1
          go_wp2_with fail
          try simp only [k2b]
          clear k2 k2i k2b
          go_loopw [12] (fun i wr => ∃ k : Nat, k ≤ r2.length ∧ i = .int .i64 k ∧ lies.Lies wr w.heap.size 24 #[.int .i64 a0, .int .i64 a1, .int .i64 a2, .int .i64 a3, .int .i64 a4, .int .i64 a5] ∧ lies.Lies wr (w.heap.size + 1) 24 #[.int .i64 b0, .int .i64 b1, .int .i64 b2, .int .i64 b3, .int .i64 b4, .int .i64 b5] ∧ Below w.heap.size w wr ∧ Pl wr ∧ RowKit.Hid (Zs wr.heap.size wr (.slice o2 r2.length e2) r2)) (fun i _ => r2.length - (intOf i).toNat)
          case atStart => exact ⟨0, Nat.zero_le _, rfl, D0, D1, DB, P0, HV⟩
          case round =>
            clear D0 D1 DB P0 HV
            obtain ⟨k, hk, rfl, D0, D1, DB, P0, HV⟩ := hrel
            by_cases hkn : k < r2.length
            · skip
              obtain ⟨hzk, hkm, hki, hkp⟩ := HK.out k hkn
              obtain ⟨bq, off, x0, x1, x2, x3, x4, x5, rfl, hb, ez⟩ := zs_six HV.out hkn hzk.2.2
              rw [ez] at hzk hkm hki hkp
              have HEZ := Lib.hid ez
              have HZK := Lib.hid hzk
              have HKM := Lib.hid hkm
              have HKI := Lib.hid hki
              have HKP := Lib.hid hkp
              have HKN := Lib.hid hkn
              clear hzk hkm hki hkp ez
              have hk2 := hkn
              clear hkn
              go_wp2_with fail
              refine wp_region_held_drew (S := Below wr.heap.size wr) (by kernel_rfl) (dbm.drawn1 (Below.refl _ _)) (fun hHeld => ?_)
              have hkn := hk2
              clear hk2
              refine wpAnyH_take (i := 0) (v := ?_) rfl (by kernel_rfl) (by kernel_rfl) (by kernel_rfl) (fun _ _ _ h => h) (Or.inl ⟨by rfl, ?_⟩) hHeld ?_
              rotate_left
              · intro w hSw; obtain ⟨c0, c1, c2, c3, c4, c5⟩ := zs_cells (HV.out.below hSw) HKN.out HEZ.out; obtain ⟨⟨y0, y1, y2, y3, y4, y5⟩, _⟩ := six_cells (lies.on_call D1 hSw); go_simp; try with_reducible rfl
              try simp only [Act.put, List.getElem_toArray, List.getElem_cons_zero, List.getElem_cons_succ, List.setIfInBounds_toArray, List.set_cons_zero, List.set_cons_succ]
              refine wpAnyH_take (i := 1) (v := ?_) rfl (by kernel_rfl) (by kernel_rfl) (by kernel_rfl) (fun _ _ _ h => h) (Or.inl ⟨by rfl, ?_⟩) hHeld ?_
              rotate_left
              · intro w hSw; obtain ⟨c0, c1, c2, c3, c4, c5⟩ := zs_cells (HV.out.below hSw) HKN.out HEZ.out; obtain ⟨⟨y0, y1, y2, y3, y4, y5⟩, _⟩ := six_cells (lies.on_call D1 hSw); go_simp; try with_reducible rfl
              try simp only [Act.put, List.getElem_toArray, List.getElem_cons_zero, List.getElem_cons_succ, List.setIfInBounds_toArray, List.set_cons_zero, List.set_cons_succ]
              refine wpAnyH_take (i := 2) (v := ?_) rfl (by kernel_rfl) (by kernel_rfl) (by kernel_rfl) (fun _ _ _ h => h) (Or.inl ⟨by rfl, ?_⟩) hHeld ?_
              rotate_left
              · intro w hSw; obtain ⟨c0, c1, c2, c3, c4, c5⟩ := zs_cells (HV.out.below hSw) HKN.out HEZ.out; obtain ⟨⟨y0, y1, y2, y3, y4, y5⟩, _⟩ := six_cells (lies.on_call D1 hSw); go_simp; try with_reducible rfl
              try simp only [Act.put, List.getElem_toArray, List.getElem_cons_zero, List.getElem_cons_succ, List.setIfInBounds_toArray, List.set_cons_zero, List.set_cons_succ]
              refine wpAnyH_take (i := 3) (v := ?_) rfl (by kernel_rfl) (by kernel_rfl) (by kernel_rfl) (fun _ _ _ h => h) (Or.inl ⟨by rfl, ?_⟩) hHeld ?_
              rotate_left
              · intro w hSw; obtain ⟨c0, c1, c2, c3, c4, c5⟩ := zs_cells (HV.out.below hSw) HKN.out HEZ.out; obtain ⟨⟨y0, y1, y2, y3, y4, y5⟩, _⟩ := six_cells (lies.on_call D1 hSw); go_simp; try with_reducible rfl
              try simp only [Act.put, List.getElem_toArray, List.getElem_cons_zero, List.getElem_cons_succ, List.setIfInBounds_toArray, List.set_cons_zero, List.set_cons_succ]
              refine wpAnyH_take (i := 4) (v := ?_) rfl (by kernel_rfl) (by kernel_rfl) (by kernel_rfl) (fun _ _ _ h => h) (Or.inl ⟨by rfl, ?_⟩) hHeld ?_
              rotate_left
              · intro w hSw; obtain ⟨c0, c1, c2, c3, c4, c5⟩ := zs_cells (HV.out.below hSw) HKN.out HEZ.out; obtain ⟨⟨y0, y1, y2, y3, y4, y5⟩, _⟩ := six_cells (lies.on_call D1 hSw); go_simp; try with_reducible rfl
              try simp only [Act.put, List.getElem_toArray, List.getElem_cons_zero, List.getElem_cons_succ, List.setIfInBounds_toArray, List.set_cons_zero, List.set_cons_succ]
              generalize hwD : wr.drew = wD at hHeld ⊢
              clear hwD
              refine wpAnyH_ready (rs := [5, 9]) (by kernel_rfl) (by simp) (AllReadyH.cons rfl (fun K hK => ?_) (AllReadyH.cons rfl (fun K hK => ?_) AllReadyH.nil))
              · go_simp
                refine (zmeet_any x0 x1 x2 x3 x4 x5 b0 b1 b2 b3 b4 b5 _ (P0.on hHeld) HZK.out.2.1 TB.out).mono ?_
                rintro e uM ⟨hB, m0, m1, m2, m3, m4, m5, fm, rfl, hR⟩
                obtain rfl := HKM.out _ _ hR
                clear hR
                refine hK.out _ _ (hHeld.trans (hB.mono hHeld.size)) (fun hNew => ?_)
                clear hB
                clear hHeld hK K
                have hHeld := hNew
                clear hNew
                try simp only [Act.put, List.getElem_toArray, List.getElem_cons_zero, List.getElem_cons_succ, List.setIfInBounds_toArray, List.set_cons_zero, List.set_cons_succ]
                refine wpAnyH_take (i := 6) (v := ?_) rfl (by kernel_rfl) (by kernel_rfl) (by kernel_rfl) (fun _ _ _ h => h) (Or.inl ⟨by rfl, ?_⟩) hHeld ?_
                rotate_left
                · intro w hSw; skip; go_simp; try with_reducible rfl
                try simp only [Act.put, List.getElem_toArray, List.getElem_cons_zero, List.getElem_cons_succ, List.setIfInBounds_toArray, List.set_cons_zero, List.set_cons_succ]
                refine wpAnyH_take (i := 7) (v := ?_) rfl (by kernel_rfl) (by kernel_rfl) (by kernel_rfl) (fun _ _ _ h => h) (Or.inl ⟨by rfl, ?_⟩) hHeld ?_
                rotate_left
                · intro w hSw; skip; go_simp; try with_reducible rfl
                try simp only [Act.put, List.getElem_toArray, List.getElem_cons_zero, List.getElem_cons_succ, List.setIfInBounds_toArray, List.set_cons_zero, List.set_cons_succ]
                refine wpAnyH_take (i := 8) (v := ?_) rfl (by kernel_rfl) (by kernel_rfl) (by kernel_rfl) (fun _ _ _ h => h) (Or.inl ⟨by rfl, ?_⟩) hHeld ?_
                rotate_left
                · intro w hSw; skip; go_simp; try with_reducible rfl
                try simp only [Act.put, List.getElem_toArray, List.getElem_cons_zero, List.getElem_cons_succ, List.setIfInBounds_toArray, List.set_cons_zero, List.set_cons_succ]
                refine wpAnyH_ready (rs := [9]) (by kernel_rfl) (by simp) (AllReadyH.cons rfl (fun K hK => ?_) AllReadyH.nil)
                go_simp
                have hT := hHeld.size
                have L := lies.made uM 24 #[.int .i64 0, .int .i64 0, .int .i64 0, .int .i64 0, .int .i64 0, .int .i64 0]
                have hAl := hHeld.trans ((bound.up1 uM (.cells #[.int .i64 0, .int .i64 0, .int .i64 0, .int .i64 0, .int .i64 0, .int .i64 0] 24)).mono hHeld.size)
                refine hK.out _ _ hAl (fun hNew => ?_)
                clear hAl
                clear hHeld hK K
                have hHeld := hNew
                clear hNew
                try simp only [Act.put, List.getElem_toArray, List.getElem_cons_zero, List.getElem_cons_succ, List.setIfInBounds_toArray, List.set_cons_zero, List.set_cons_succ]
                generalize (World.heap uM).size = T at hT L ⊢
                generalize World.alloc uM (.cells #[.int .i64 0, .int .i64 0, .int .i64 0, .int .i64 0, .int .i64 0, .int .i64 0] 24) = wA at L hHeld ⊢
                obtain ⟨⟨p0, p1, p2, p3, p4, p5⟩, ⟨q0, q1, q2, q3, q4, q5⟩, ql⟩ := six_cells L
                refine wpAnyH_ready (rs := [10]) (by kernel_rfl) (by simp) (AllReadyH.cons rfl (fun K hK => ?_) AllReadyH.nil)
                go_simp
                replace hHeld := put_six hHeld hT (.int .i64 m0) (.int .i64 m1) (.int .i64 m2) (.int .i64 m3) (.int .i64 m4) (.int .i64 m5)
                replace L := zref.put_sixL L (.int .i64 m0) (.int .i64 m1) (.int .i64 m2) (.int .i64 m3) (.int .i64 m4) (.int .i64 m5)
                refine hK.out _ _ hHeld (fun hNew => ?_)
                clear hHeld hK K
                have hHeld := hNew
                clear hNew
                try simp only [Act.put, List.getElem_toArray, List.getElem_cons_zero, List.getElem_cons_succ, List.setIfInBounds_toArray, List.set_cons_zero, List.set_cons_succ]
                generalize World.setCell (World.setCell (World.setCell (World.setCell (World.setCell (World.setCell (wA) ⟨T, 0, none⟩ (.int .i64 m0)) ⟨T, 1, none⟩ (.int .i64 m1)) ⟨T, 2, none⟩ (.int .i64 m2)) ⟨T, 3, none⟩ (.int .i64 m3)) ⟨T, 4, none⟩ (.int .i64 m4)) ⟨T, 5, none⟩ (.int .i64 m5) = wB at L hHeld ⊢
                refine wpAnyH_take (i := 11) (v := ?_) rfl (by kernel_rfl) (by kernel_rfl) (by kernel_rfl) (fun _ _ _ h => h) (Or.inl ⟨by rfl, ?_⟩) hHeld ?_
                rotate_left
                · intro w hSw; skip; go_simp; try with_reducible rfl
                try simp only [Act.put, List.getElem_toArray, List.getElem_cons_zero, List.getElem_cons_succ, List.setIfInBounds_toArray, List.set_cons_zero, List.set_cons_succ]
                refine wpAnyH_done (by kernel_rfl) ?_ _
                replace D0 := lies.on_call D0 hHeld
                replace D1 := lies.on_call D1 hHeld
                replace DB := later DB hHeld
                replace P0 := P0.on hHeld
                replace HV := Lib.hid (HV.out.on hHeld)
                clear hHeld L
                try clear p0 p1 p2 p3 p4 p5 q0 q1 q2 q3 q4 q5 ql
                have hk2 := hkn
                clear hkn
                go_wp2_with fail
                refine wp_region_held_drew (S := Below wB.heap.size wB) (by kernel_rfl) (dbm.drawn1 (Below.refl _ _)) (fun hHeld => ?_)
                have hkn := hk2
                clear hk2
                refine wpAnyH_take (i := 0) (v := ?_) rfl (by kernel_rfl) (by kernel_rfl) (by kernel_rfl) (fun _ _ _ h => h) (Or.inl ⟨by rfl, ?_⟩) hHeld ?_
                rotate_left
                · intro w hSw; obtain ⟨c0, c1, c2, c3, c4, c5⟩ := zs_cells (HV.out.below hSw) HKN.out HEZ.out; obtain ⟨⟨y0, y1, y2, y3, y4, y5⟩, _⟩ := six_cells (lies.on_call D0 hSw); go_simp; try with_reducible rfl
                try simp only [Act.put, List.getElem_toArray, List.getElem_cons_zero, List.getElem_cons_succ, List.setIfInBounds_toArray, List.set_cons_zero, List.set_cons_succ]
                refine wpAnyH_take (i := 1) (v := ?_) rfl (by kernel_rfl) (by kernel_rfl) (by kernel_rfl) (fun _ _ _ h => h) (Or.inl ⟨by rfl, ?_⟩) hHeld ?_
                rotate_left
                · intro w hSw; obtain ⟨c0, c1, c2, c3, c4, c5⟩ := zs_cells (HV.out.below hSw) HKN.out HEZ.out; obtain ⟨⟨y0, y1, y2, y3, y4, y5⟩, _⟩ := six_cells (lies.on_call D0 hSw); go_simp; try with_reducible rfl
                try simp only [Act.put, List.getElem_toArray, List.getElem_cons_zero, List.getElem_cons_succ, List.setIfInBounds_toArray, List.set_cons_zero, List.set_cons_succ]
                refine wpAnyH_take (i := 2) (v := ?_) rfl (by kernel_rfl) (by kernel_rfl) (by kernel_rfl) (fun _ _ _ h => h) (Or.inl ⟨by rfl, ?_⟩) hHeld ?_
                rotate_left
                · intro w hSw; obtain ⟨c0, c1, c2, c3, c4, c5⟩ := zs_cells (HV.out.below hSw) HKN.out HEZ.out; obtain ⟨⟨y0, y1, y2, y3, y4, y5⟩, _⟩ := six_cells (lies.on_call D0 hSw); go_simp; try with_reducible rfl
                try simp only [Act.put, List.getElem_toArray, List.getElem_cons_zero, List.getElem_cons_succ, List.setIfInBounds_toArray, List.set_cons_zero, List.set_cons_succ]
                refine wpAnyH_take (i := 3) (v := ?_) rfl (by kernel_rfl) (by kernel_rfl) (by kernel_rfl) (fun _ _ _ h => h) (Or.inl ⟨by rfl, ?_⟩) hHeld ?_
                rotate_left
                · intro w hSw; obtain ⟨c0, c1, c2, c3, c4, c5⟩ := zs_cells (HV.out.below hSw) HKN.out HEZ.out; obtain ⟨⟨y0, y1, y2, y3, y4, y5⟩, _⟩ := six_cells (lies.on_call D0 hSw); go_simp; try with_reducible rfl
                try simp only [Act.put, List.getElem_toArray, List.getElem_cons_zero, List.getElem_cons_succ, List.setIfInBounds_toArray, List.set_cons_zero, List.set_cons_succ]
                refine wpAnyH_take (i := 4) (v := ?_) rfl (by kernel_rfl) (by kernel_rfl) (by kernel_rfl) (fun _ _ _ h => h) (Or.inl ⟨by rfl, ?_⟩) hHeld ?_
                rotate_left
                · intro w hSw; obtain ⟨c0, c1, c2, c3, c4, c5⟩ := zs_cells (HV.out.below hSw) HKN.out HEZ.out; obtain ⟨⟨y0, y1, y2, y3, y4, y5⟩, _⟩ := six_cells (lies.on_call D0 hSw); go_simp; try with_reducible rfl
                try simp only [Act.put, List.getElem_toArray, List.getElem_cons_zero, List.getElem_cons_succ, List.setIfInBounds_toArray, List.set_cons_zero, List.set_cons_succ]
                refine wpAnyH_ready (rs := [5]) (by kernel_rfl) (by simp) (AllReadyH.cons rfl (fun K hK => ?_) AllReadyH.nil)
                go_simp
                refine (zin_any x0 x1 x2 x3 x4 x5 a0 a1 a2 a3 a4 a5 _ (P0.on hHeld) HZK.out.2.1 TA.out).mono ?_
                rintro e u5 ⟨hB, it, f, rfl, hR⟩
                obtain ⟨rfl, rfl⟩ := HKI.out _ _ hR
                clear hR
                refine hK.out _ _ (hHeld.trans (hB.mono hHeld.size)) (fun hNew => ?_)
                clear hB
                clear hHeld hK K
                have hHeld := hNew
                clear hNew
                try simp only [Act.put, List.getElem_toArray, List.getElem_cons_zero, List.getElem_cons_succ, List.setIfInBounds_toArray, List.set_cons_zero, List.set_cons_succ]
                refine wpAnyH_take (i := 6) (v := ?_) rfl (by kernel_rfl) (by kernel_rfl) (by kernel_rfl) (fun _ _ _ h => h) (Or.inl ⟨by rfl, ?_⟩) hHeld ?_
                rotate_left
                · intro w hSw; skip; go_simp; try with_reducible rfl
                try simp only [Act.put, List.getElem_toArray, List.getElem_cons_zero, List.getElem_cons_succ, List.setIfInBounds_toArray, List.set_cons_zero, List.set_cons_succ]
                refine wpAnyH_take (i := 7) (v := ?_) rfl (by kernel_rfl) (by kernel_rfl) (by kernel_rfl) (fun _ _ _ h => h) (Or.inl ⟨by rfl, ?_⟩) hHeld ?_
                rotate_left
                · intro w hSw; skip; go_simp; try with_reducible rfl
                try simp only [Act.put, List.getElem_toArray, List.getElem_cons_zero, List.getElem_cons_succ, List.setIfInBounds_toArray, List.set_cons_zero, List.set_cons_succ]
                refine wpAnyH_take (i := 8) (v := ?_) rfl (by kernel_rfl) (by kernel_rfl) (by kernel_rfl) (fun _ _ _ h => h) (Or.inl ⟨by rfl, ?_⟩) hHeld ?_
                rotate_left
                · intro w hSw; skip; go_simp; try with_reducible rfl
                try simp only [Act.put, List.getElem_toArray, List.getElem_cons_zero, List.getElem_cons_succ, List.setIfInBounds_toArray, List.set_cons_zero, List.set_cons_succ]
                refine wpAnyH_take (i := 9) (v := ?_) rfl (by kernel_rfl) (by kernel_rfl) (by kernel_rfl) (fun _ _ _ h => h) (Or.inl ⟨by rfl, ?_⟩) hHeld ?_
                rotate_left
                · intro w hSw; skip; go_simp; try with_reducible rfl
                try simp only [Act.put, List.getElem_toArray, List.getElem_cons_zero, List.getElem_cons_succ, List.setIfInBounds_toArray, List.set_cons_zero, List.set_cons_succ]
                refine wpAnyH_take (i := 10) (v := ?_) rfl (by kernel_rfl) (by kernel_rfl) (by kernel_rfl) (fun _ _ _ h => h) (Or.inl ⟨by rfl, ?_⟩) hHeld ?_
                rotate_left
                · intro w hSw; skip; go_simp; try with_reducible rfl
                try simp only [Act.put, List.getElem_toArray, List.getElem_cons_zero, List.getElem_cons_succ, List.setIfInBounds_toArray, List.set_cons_zero, List.set_cons_succ]
                refine wpAnyH_done (by kernel_rfl) ?_ _
                replace D0 := lies.on_call D0 hHeld
                replace D1 := lies.on_call D1 hHeld
                replace DB := later DB hHeld
                replace P0 := P0.on hHeld
                replace HV := Lib.hid (HV.out.on hHeld)
                clear hHeld
                go_wp2_with fail
                go_loopw [17] (fun i wq => ∃ j : Nat, j ≤ k ∧ i = .int .i64 j ∧ lies.Lies wq w.heap.size 24 #[.int .i64 a0, .int .i64 a1, .int .i64 a2, .int .i64 a3, .int .i64 a4, .int .i64 a5] ∧ lies.Lies wq (w.heap.size + 1) 24 #[.int .i64 b0, .int .i64 b1, .int .i64 b2, .int .i64 b3, .int .i64 b4, .int .i64 b5] ∧ Below w.heap.size w wq ∧ Pl wq ∧ RowKit.Hid (Zs wq.heap.size wq (.slice (some ⟨bq, off, none⟩) r2.length e2) r2)) (fun i _ => k - (intOf i).toNat)
                case atStart => exact ⟨0, Nat.zero_le _, rfl, D0, D1, DB, P0, HV⟩
                case round =>
                  clear D0 D1 DB P0 HV
                  obtain ⟨j, hj, rfl, D0, D1, DB, P0, HV⟩ := hrel
                  by_cases hjk : j < k
                  · skip
                    have hjn : j < r2.length := by omega
                    obtain ⟨hzj, -⟩ := HK.out j hjn
                    obtain ⟨bj, offj, y0, y1, y2, y3, y4, y5, ebj, hb2, ej⟩ := zs_six HV.out hjn hzj.2.2
                    cases ebj
                    rw [ej] at hzj
                    have hmj := HKP.out j hjk
                    rw [ej] at hmj
                    have HEJ := Lib.hid ej
                    have HZJ := Lib.hid hzj
                    have HMJ := Lib.hid hmj
                    have HJN := Lib.hid hjn
                    clear ej hzj hmj
                    have hrw : bq < wr.heap.size := hb2
                    have hk2 := hkn
                    clear hkn
                    go_wp2_with fail
                    refine wp_region_held_drew (S := Below wr.heap.size wr) (by kernel_rfl) (dbm.drawn1 (Below.refl _ _)) (fun hHeld => ?_)
                    have hkn := hk2
                    clear hk2
                    refine wpAnyH_take (i := 0) (v := ?_) rfl (by kernel_rfl) (by kernel_rfl) (by kernel_rfl) (fun _ _ _ h => h) (Or.inl ⟨by rfl, ?_⟩) hHeld ?_
                    rotate_left
                    · intro w hSw; obtain ⟨c0, c1, c2, c3, c4, c5⟩ := zs_cells (HV.out.below hSw) HKN.out HEZ.out; obtain ⟨d0, d1, d2, d3, d4, d5⟩ := zs_cells (HV.out.below hSw) HJN.out HEJ.out; go_simp; try with_reducible rfl
                    try simp only [Act.put, List.getElem_toArray, List.getElem_cons_zero, List.getElem_cons_succ, List.setIfInBounds_toArray, List.set_cons_zero, List.set_cons_succ]
                    refine wpAnyH_take (i := 1) (v := ?_) rfl (by kernel_rfl) (by kernel_rfl) (by kernel_rfl) (fun _ _ _ h => h) (Or.inl ⟨by rfl, ?_⟩) hHeld ?_
                    rotate_left
                    · intro w hSw; obtain ⟨c0, c1, c2, c3, c4, c5⟩ := zs_cells (HV.out.below hSw) HKN.out HEZ.out; obtain ⟨d0, d1, d2, d3, d4, d5⟩ := zs_cells (HV.out.below hSw) HJN.out HEJ.out; go_simp; try with_reducible rfl
                    try simp only [Act.put, List.getElem_toArray, List.getElem_cons_zero, List.getElem_cons_succ, List.setIfInBounds_toArray, List.set_cons_zero, List.set_cons_succ]
                    refine wpAnyH_take (i := 2) (v := ?_) rfl (by kernel_rfl) (by kernel_rfl) (by kernel_rfl) (fun _ _ _ h => h) (Or.inl ⟨by rfl, ?_⟩) hHeld ?_
                    rotate_left
                    · intro w hSw; obtain ⟨c0, c1, c2, c3, c4, c5⟩ := zs_cells (HV.out.below hSw) HKN.out HEZ.out; obtain ⟨d0, d1, d2, d3, d4, d5⟩ := zs_cells (HV.out.below hSw) HJN.out HEJ.out; go_simp; try with_reducible rfl
                    try simp only [Act.put, List.getElem_toArray, List.getElem_cons_zero, List.getElem_cons_succ, List.setIfInBounds_toArray, List.set_cons_zero, List.set_cons_succ]
                    refine wpAnyH_take (i := 3) (v := ?_) rfl (by kernel_rfl) (by kernel_rfl) (by kernel_rfl) (fun _ _ _ h => h) (Or.inl ⟨by rfl, ?_⟩) hHeld ?_
                    rotate_left
                    · intro w hSw; obtain ⟨c0, c1, c2, c3, c4, c5⟩ := zs_cells (HV.out.below hSw) HKN.out HEZ.out; obtain ⟨d0, d1, d2, d3, d4, d5⟩ := zs_cells (HV.out.below hSw) HJN.out HEJ.out; go_simp; try with_reducible rfl
                    try simp only [Act.put, List.getElem_toArray, List.getElem_cons_zero, List.getElem_cons_succ, List.setIfInBounds_toArray, List.set_cons_zero, List.set_cons_succ]
                    refine wpAnyH_take (i := 4) (v := ?_) rfl (by kernel_rfl) (by kernel_rfl) (by kernel_rfl) (fun _ _ _ h => h) (Or.inl ⟨by rfl, ?_⟩) hHeld ?_
                    rotate_left
                    · intro w hSw; obtain ⟨c0, c1, c2, c3, c4, c5⟩ := zs_cells (HV.out.below hSw) HKN.out HEZ.out; obtain ⟨d0, d1, d2, d3, d4, d5⟩ := zs_cells (HV.out.below hSw) HJN.out HEJ.out; go_simp; try with_reducible rfl
                    try simp only [Act.put, List.getElem_toArray, List.getElem_cons_zero, List.getElem_cons_succ, List.setIfInBounds_toArray, List.set_cons_zero, List.set_cons_succ]
                    refine wpAnyH_take (i := 5) (v := ?_) rfl (by kernel_rfl) (by kernel_rfl) (by kernel_rfl) (fun _ _ _ h => h) (Or.inl ⟨by rfl, ?_⟩) hHeld ?_
                    rotate_left
                    · intro w hSw; obtain ⟨c0, c1, c2, c3, c4, c5⟩ := zs_cells (HV.out.below hSw) HKN.out HEZ.out; obtain ⟨d0, d1, d2, d3, d4, d5⟩ := zs_cells (HV.out.below hSw) HJN.out HEJ.out; go_simp; try with_reducible rfl
                    try simp only [Act.put, List.getElem_toArray, List.getElem_cons_zero, List.getElem_cons_succ, List.setIfInBounds_toArray, List.set_cons_zero, List.set_cons_succ]
                    refine wpAnyH_take (i := 6) (v := ?_) rfl (by kernel_rfl) (by kernel_rfl) (by kernel_rfl) (fun _ _ _ h => h) (Or.inl ⟨by rfl, ?_⟩) hHeld ?_
                    rotate_left
                    · intro w hSw; obtain ⟨c0, c1, c2, c3, c4, c5⟩ := zs_cells (HV.out.below hSw) HKN.out HEZ.out; obtain ⟨d0, d1, d2, d3, d4, d5⟩ := zs_cells (HV.out.below hSw) HJN.out HEJ.out; go_simp; try with_reducible rfl
                    try simp only [Act.put, List.getElem_toArray, List.getElem_cons_zero, List.getElem_cons_succ, List.setIfInBounds_toArray, List.set_cons_zero, List.set_cons_succ]
                    refine wpAnyH_take (i := 7) (v := ?_) rfl (by kernel_rfl) (by kernel_rfl) (by kernel_rfl) (fun _ _ _ h => h) (Or.inl ⟨by rfl, ?_⟩) hHeld ?_
                    rotate_left
                    · intro w hSw; obtain ⟨c0, c1, c2, c3, c4, c5⟩ := zs_cells (HV.out.below hSw) HKN.out HEZ.out; obtain ⟨d0, d1, d2, d3, d4, d5⟩ := zs_cells (HV.out.below hSw) HJN.out HEJ.out; go_simp; try with_reducible rfl
                    try simp only [Act.put, List.getElem_toArray, List.getElem_cons_zero, List.getElem_cons_succ, List.setIfInBounds_toArray, List.set_cons_zero, List.set_cons_succ]
                    generalize hwD : wr.drew = wD at hHeld ⊢
                    clear hwD
                    refine wpAnyH_ready (rs := [8, 12]) (by kernel_rfl) (by simp) (AllReadyH.cons rfl (fun K hK => ?_) (AllReadyH.cons rfl (fun K hK => ?_) AllReadyH.nil))
                    · go_simp
                      refine (zmeet_any x0 x1 x2 x3 x4 x5 y0 y1 y2 y3 y4 y5 _ (P0.on hHeld) HZK.out.2.1 HZJ.out.2.1).mono ?_
                      rintro e uM ⟨hB, m0, m1, m2, m3, m4, m5, fm, rfl, hR⟩
                      obtain rfl := HMJ.out _ _ hR
                      clear hR
                      refine hK.out _ _ (hHeld.trans (hB.mono hHeld.size)) (fun hNew => ?_)
                      clear hB
                      clear hHeld hK K
                      have hHeld := hNew
                      clear hNew
                      try simp only [Act.put, List.getElem_toArray, List.getElem_cons_zero, List.getElem_cons_succ, List.setIfInBounds_toArray, List.set_cons_zero, List.set_cons_succ]
                      refine wpAnyH_take (i := 9) (v := ?_) rfl (by kernel_rfl) (by kernel_rfl) (by kernel_rfl) (fun _ _ _ h => h) (Or.inl ⟨by rfl, ?_⟩) hHeld ?_
                      rotate_left
                      · intro w hSw; skip; go_simp; try with_reducible rfl
                      try simp only [Act.put, List.getElem_toArray, List.getElem_cons_zero, List.getElem_cons_succ, List.setIfInBounds_toArray, List.set_cons_zero, List.set_cons_succ]
                      refine wpAnyH_take (i := 10) (v := ?_) rfl (by kernel_rfl) (by kernel_rfl) (by kernel_rfl) (fun _ _ _ h => h) (Or.inl ⟨by rfl, ?_⟩) hHeld ?_
                      rotate_left
                      · intro w hSw; skip; go_simp; try with_reducible rfl
                      try simp only [Act.put, List.getElem_toArray, List.getElem_cons_zero, List.getElem_cons_succ, List.setIfInBounds_toArray, List.set_cons_zero, List.set_cons_succ]
                      refine wpAnyH_take (i := 11) (v := ?_) rfl (by kernel_rfl) (by kernel_rfl) (by kernel_rfl) (fun _ _ _ h => h) (Or.inl ⟨by rfl, ?_⟩) hHeld ?_
                      rotate_left
                      · intro w hSw; skip; go_simp; try with_reducible rfl
                      try simp only [Act.put, List.getElem_toArray, List.getElem_cons_zero, List.getElem_cons_succ, List.setIfInBounds_toArray, List.set_cons_zero, List.set_cons_succ]
                      refine wpAnyH_ready (rs := [12]) (by kernel_rfl) (by simp) (AllReadyH.cons rfl (fun K hK => ?_) AllReadyH.nil)
                      go_simp
                      have hT := hHeld.size
                      have L := lies.made uM 24 #[.int .i64 0, .int .i64 0, .int .i64 0, .int .i64 0, .int .i64 0, .int .i64 0]
                      have hAl := hHeld.trans ((bound.up1 uM (.cells #[.int .i64 0, .int .i64 0, .int .i64 0, .int .i64 0, .int .i64 0, .int .i64 0] 24)).mono hHeld.size)
                      refine hK.out _ _ hAl (fun hNew => ?_)
                      clear hAl
                      clear hHeld hK K
                      have hHeld := hNew
                      clear hNew
                      try simp only [Act.put, List.getElem_toArray, List.getElem_cons_zero, List.getElem_cons_succ, List.setIfInBounds_toArray, List.set_cons_zero, List.set_cons_succ]
                      generalize (World.heap uM).size = T at hT L ⊢
                      generalize World.alloc uM (.cells #[.int .i64 0, .int .i64 0, .int .i64 0, .int .i64 0, .int .i64 0, .int .i64 0] 24) = wA at L hHeld ⊢
                      obtain ⟨⟨p0, p1, p2, p3, p4, p5⟩, ⟨q0, q1, q2, q3, q4, q5⟩, ql⟩ := six_cells L
                      refine wpAnyH_ready (rs := [13]) (by kernel_rfl) (by simp) (AllReadyH.cons rfl (fun K hK => ?_) AllReadyH.nil)
                      go_simp
                      replace hHeld := put_six hHeld hT (.int .i64 m0) (.int .i64 m1) (.int .i64 m2) (.int .i64 m3) (.int .i64 m4) (.int .i64 m5)
                      replace L := zref.put_sixL L (.int .i64 m0) (.int .i64 m1) (.int .i64 m2) (.int .i64 m3) (.int .i64 m4) (.int .i64 m5)
                      refine hK.out _ _ hHeld (fun hNew => ?_)
                      clear hHeld hK K
                      have hHeld := hNew
                      clear hNew
                      try simp only [Act.put, List.getElem_toArray, List.getElem_cons_zero, List.getElem_cons_succ, List.setIfInBounds_toArray, List.set_cons_zero, List.set_cons_succ]
                      generalize World.setCell (World.setCell (World.setCell (World.setCell (World.setCell (World.setCell (wA) ⟨T, 0, none⟩ (.int .i64 m0)) ⟨T, 1, none⟩ (.int .i64 m1)) ⟨T, 2, none⟩ (.int .i64 m2)) ⟨T, 3, none⟩ (.int .i64 m3)) ⟨T, 4, none⟩ (.int .i64 m4)) ⟨T, 5, none⟩ (.int .i64 m5) = wB at L hHeld ⊢
                      refine wpAnyH_take (i := 14) (v := ?_) rfl (by kernel_rfl) (by kernel_rfl) (by kernel_rfl) (fun _ _ _ h => h) (Or.inl ⟨by rfl, ?_⟩) hHeld ?_
                      rotate_left
                      · intro w hSw; skip; go_simp; try with_reducible rfl
                      try simp only [Act.put, List.getElem_toArray, List.getElem_cons_zero, List.getElem_cons_succ, List.setIfInBounds_toArray, List.set_cons_zero, List.set_cons_succ]
                      refine wpAnyH_done (by kernel_rfl) ?_ _
                      replace D0 := lies.on_call D0 hHeld
                      replace D1 := lies.on_call D1 hHeld
                      replace DB := later DB hHeld
                      replace P0 := P0.on hHeld
                      replace HV := Lib.hid (HV.out.on hHeld)
                      clear hHeld L
                      try clear p0 p1 p2 p3 p4 p5 q0 q1 q2 q3 q4 q5 ql
                      go_wp2_with fail
                      go_roundw
                      case rel => exact ⟨j + 1, by omega, by go_num, D0, D1, DB, P0, HV⟩
                      case measure => simp [intOf]; omega
                    · go_simp
                      have hT := hHeld.size
                      have L := lies.made wD 24 #[.int .i64 0, .int .i64 0, .int .i64 0, .int .i64 0, .int .i64 0, .int .i64 0]
                      have hAl := hHeld.trans ((bound.up1 wD (.cells #[.int .i64 0, .int .i64 0, .int .i64 0, .int .i64 0, .int .i64 0, .int .i64 0] 24)).mono hHeld.size)
                      refine hK.out _ _ hAl (fun hNew => ?_)
                      clear hAl
                      clear hHeld hK K
                      have hHeld := hNew
                      clear hNew
                      try simp only [Act.put, List.getElem_toArray, List.getElem_cons_zero, List.getElem_cons_succ, List.setIfInBounds_toArray, List.set_cons_zero, List.set_cons_succ]
                      generalize (World.heap wD).size = T at hT L ⊢
                      generalize World.alloc wD (.cells #[.int .i64 0, .int .i64 0, .int .i64 0, .int .i64 0, .int .i64 0, .int .i64 0] 24) = wA at L hHeld ⊢
                      refine wpAnyH_ready (rs := [8]) (by kernel_rfl) (by simp) (AllReadyH.cons rfl (fun K hK => ?_) AllReadyH.nil)
                      go_simp
                      refine (zmeet_any x0 x1 x2 x3 x4 x5 y0 y1 y2 y3 y4 y5 _ (P0.on hHeld) HZK.out.2.1 HZJ.out.2.1).mono ?_
                      rintro e uM ⟨hB, m0, m1, m2, m3, m4, m5, fm, rfl, hR⟩
                      obtain rfl := HMJ.out _ _ hR
                      clear hR
                      replace L := lies.on_call L hB
                      refine hK.out _ _ (hHeld.trans (hB.mono hHeld.size)) (fun hNew => ?_)
                      clear hB
                      clear hHeld hK K
                      have hHeld := hNew
                      clear hNew
                      try simp only [Act.put, List.getElem_toArray, List.getElem_cons_zero, List.getElem_cons_succ, List.setIfInBounds_toArray, List.set_cons_zero, List.set_cons_succ]
                      refine wpAnyH_take (i := 9) (v := ?_) rfl (by kernel_rfl) (by kernel_rfl) (by kernel_rfl) (fun _ _ _ h => h) (Or.inl ⟨by rfl, ?_⟩) hHeld ?_
                      rotate_left
                      · intro w hSw; skip; go_simp; try with_reducible rfl
                      try simp only [Act.put, List.getElem_toArray, List.getElem_cons_zero, List.getElem_cons_succ, List.setIfInBounds_toArray, List.set_cons_zero, List.set_cons_succ]
                      refine wpAnyH_take (i := 10) (v := ?_) rfl (by kernel_rfl) (by kernel_rfl) (by kernel_rfl) (fun _ _ _ h => h) (Or.inl ⟨by rfl, ?_⟩) hHeld ?_
                      rotate_left
                      · intro w hSw; skip; go_simp; try with_reducible rfl
                      try simp only [Act.put, List.getElem_toArray, List.getElem_cons_zero, List.getElem_cons_succ, List.setIfInBounds_toArray, List.set_cons_zero, List.set_cons_succ]
                      refine wpAnyH_take (i := 11) (v := ?_) rfl (by kernel_rfl) (by kernel_rfl) (by kernel_rfl) (fun _ _ _ h => h) (Or.inl ⟨by rfl, ?_⟩) hHeld ?_
                      rotate_left
                      · intro w hSw; skip; go_simp; try with_reducible rfl
                      try simp only [Act.put, List.getElem_toArray, List.getElem_cons_zero, List.getElem_cons_succ, List.setIfInBounds_toArray, List.set_cons_zero, List.set_cons_succ]
                      obtain ⟨⟨p0, p1, p2, p3, p4, p5⟩, ⟨q0, q1, q2, q3, q4, q5⟩, ql⟩ := six_cells L
                      refine wpAnyH_ready (rs := [13]) (by kernel_rfl) (by simp) (AllReadyH.cons rfl (fun K hK => ?_) AllReadyH.nil)
                      go_simp
                      replace hHeld := put_six hHeld hT (.int .i64 m0) (.int .i64 m1) (.int .i64 m2) (.int .i64 m3) (.int .i64 m4) (.int .i64 m5)
                      replace L := zref.put_sixL L (.int .i64 m0) (.int .i64 m1) (.int .i64 m2) (.int .i64 m3) (.int .i64 m4) (.int .i64 m5)
                      refine hK.out _ _ hHeld (fun hNew => ?_)
                      clear hHeld hK K
                      have hHeld := hNew
                      clear hNew
                      try simp only [Act.put, List.getElem_toArray, List.getElem_cons_zero, List.getElem_cons_succ, List.setIfInBounds_toArray, List.set_cons_zero, List.set_cons_succ]
                      generalize World.setCell (World.setCell (World.setCell (World.setCell (World.setCell (World.setCell (uM) ⟨T, 0, none⟩ (.int .i64 m0)) ⟨T, 1, none⟩ (.int .i64 m1)) ⟨T, 2, none⟩ (.int .i64 m2)) ⟨T, 3, none⟩ (.int .i64 m3)) ⟨T, 4, none⟩ (.int .i64 m4)) ⟨T, 5, none⟩ (.int .i64 m5) = wB at L hHeld ⊢
                      refine wpAnyH_take (i := 14) (v := ?_) rfl (by kernel_rfl) (by kernel_rfl) (by kernel_rfl) (fun _ _ _ h => h) (Or.inl ⟨by rfl, ?_⟩) hHeld ?_
                      rotate_left
                      · intro w hSw; skip; go_simp; try with_reducible rfl
                      try simp only [Act.put, List.getElem_toArray, List.getElem_cons_zero, List.getElem_cons_succ, List.setIfInBounds_toArray, List.set_cons_zero, List.set_cons_succ]
                      refine wpAnyH_done (by kernel_rfl) ?_ _
                      replace D0 := lies.on_call D0 hHeld
                      replace D1 := lies.on_call D1 hHeld
                      replace DB := later DB hHeld
                      replace P0 := P0.on hHeld
                      replace HV := Lib.hid (HV.out.on hHeld)
                      clear hHeld L
                      try clear p0 p1 p2 p3 p4 p5 q0 q1 q2 q3 q4 q5 ql
                      go_wp2_with fail
                      go_roundw
                      case rel => exact ⟨j + 1, by omega, by go_num, D0, D1, DB, P0, HV⟩
                      case measure => simp [intOf]; omega
                  · skip
                    obtain rfl : k = j := by omega
                    go_wp2_with fail
                    go_roundw
                    case rel => exact ⟨k + 1, by omega, by go_num, D0, D1, DB, P0, HV⟩
                    case measure => simp [intOf]; omega
              · go_simp
                have hT := hHeld.size
                have L := lies.made wD 24 #[.int .i64 0, .int .i64 0, .int .i64 0, .int .i64 0, .int .i64 0, .int .i64 0]
                have hAl := hHeld.trans ((bound.up1 wD (.cells #[.int .i64 0, .int .i64 0, .int .i64 0, .int .i64 0, .int .i64 0, .int .i64 0] 24)).mono hHeld.size)
                refine hK.out _ _ hAl (fun hNew => ?_)
                clear hAl
                clear hHeld hK K
                have hHeld := hNew
                clear hNew
                try simp only [Act.put, List.getElem_toArray, List.getElem_cons_zero, List.getElem_cons_succ, List.setIfInBounds_toArray, List.set_cons_zero, List.set_cons_succ]
                generalize (World.heap wD).size = T at hT L ⊢
                generalize World.alloc wD (.cells #[.int .i64 0, .int .i64 0, .int .i64 0, .int .i64 0, .int .i64 0, .int .i64 0] 24) = wA at L hHeld ⊢
                refine wpAnyH_ready (rs := [5]) (by kernel_rfl) (by simp) (AllReadyH.cons rfl (fun K hK => ?_) AllReadyH.nil)
                go_simp
                refine (zmeet_any x0 x1 x2 x3 x4 x5 b0 b1 b2 b3 b4 b5 _ (P0.on hHeld) HZK.out.2.1 TB.out).mono ?_
                rintro e uM ⟨hB, m0, m1, m2, m3, m4, m5, fm, rfl, hR⟩
                obtain rfl := HKM.out _ _ hR
                clear hR
                replace L := lies.on_call L hB
                refine hK.out _ _ (hHeld.trans (hB.mono hHeld.size)) (fun hNew => ?_)
                clear hB
                clear hHeld hK K
                have hHeld := hNew
                clear hNew
                try simp only [Act.put, List.getElem_toArray, List.getElem_cons_zero, List.getElem_cons_succ, List.setIfInBounds_toArray, List.set_cons_zero, List.set_cons_succ]
                refine wpAnyH_take (i := 6) (v := ?_) rfl (by kernel_rfl) (by kernel_rfl) (by kernel_rfl) (fun _ _ _ h => h) (Or.inl ⟨by rfl, ?_⟩) hHeld ?_
                rotate_left
                · intro w hSw; skip; go_simp; try with_reducible rfl
                try simp only [Act.put, List.getElem_toArray, List.getElem_cons_zero, List.getElem_cons_succ, List.setIfInBounds_toArray, List.set_cons_zero, List.set_cons_succ]
                refine wpAnyH_take (i := 7) (v := ?_) rfl (by kernel_rfl) (by kernel_rfl) (by kernel_rfl) (fun _ _ _ h => h) (Or.inl ⟨by rfl, ?_⟩) hHeld ?_
                rotate_left
                · intro w hSw; skip; go_simp; try with_reducible rfl
                try simp only [Act.put, List.getElem_toArray, List.getElem_cons_zero, List.getElem_cons_succ, List.setIfInBounds_toArray, List.set_cons_zero, List.set_cons_succ]
                refine wpAnyH_take (i := 8) (v := ?_) rfl (by kernel_rfl) (by kernel_rfl) (by kernel_rfl) (fun _ _ _ h => h) (Or.inl ⟨by rfl, ?_⟩) hHeld ?_
                rotate_left
                · intro w hSw; skip; go_simp; try with_reducible rfl
                try simp only [Act.put, List.getElem_toArray, List.getElem_cons_zero, List.getElem_cons_succ, List.setIfInBounds_toArray, List.set_cons_zero, List.set_cons_succ]
                obtain ⟨⟨p0, p1, p2, p3, p4, p5⟩, ⟨q0, q1, q2, q3, q4, q5⟩, ql⟩ := six_cells L
                refine wpAnyH_ready (rs := [10]) (by kernel_rfl) (by simp) (AllReadyH.cons rfl (fun K hK => ?_) AllReadyH.nil)
                go_simp
                replace hHeld := put_six hHeld hT (.int .i64 m0) (.int .i64 m1) (.int .i64 m2) (.int .i64 m3) (.int .i64 m4) (.int .i64 m5)
                replace L := zref.put_sixL L (.int .i64 m0) (.int .i64 m1) (.int .i64 m2) (.int .i64 m3) (.int .i64 m4) (.int .i64 m5)
                refine hK.out _ _ hHeld (fun hNew => ?_)
                clear hHeld hK K
                have hHeld := hNew
                clear hNew
                try simp only [Act.put, List.getElem_toArray, List.getElem_cons_zero, List.getElem_cons_succ, List.setIfInBounds_toArray, List.set_cons_zero, List.set_cons_succ]
                generalize World.setCell (World.setCell (World.setCell (World.setCell (World.setCell (World.setCell (uM) ⟨T, 0, none⟩ (.int .i64 m0)) ⟨T, 1, none⟩ (.int .i64 m1)) ⟨T, 2, none⟩ (.int .i64 m2)) ⟨T, 3, none⟩ (.int .i64 m3)) ⟨T, 4, none⟩ (.int .i64 m4)) ⟨T, 5, none⟩ (.int .i64 m5) = wB at L hHeld ⊢
                refine wpAnyH_take (i := 11) (v := ?_) rfl (by kernel_rfl) (by kernel_rfl) (by kernel_rfl) (fun _ _ _ h => h) (Or.inl ⟨by rfl, ?_⟩) hHeld ?_
                rotate_left
                · intro w hSw; skip; go_simp; try with_reducible rfl
                try simp only [Act.put, List.getElem_toArray, List.getElem_cons_zero, List.getElem_cons_succ, List.setIfInBounds_toArray, List.set_cons_zero, List.set_cons_succ]
                refine wpAnyH_done (by kernel_rfl) ?_ _
                replace D0 := lies.on_call D0 hHeld
                replace D1 := lies.on_call D1 hHeld
                replace DB := later DB hHeld
                replace P0 := P0.on hHeld
                replace HV := Lib.hid (HV.out.on hHeld)
                clear hHeld L
                try clear p0 p1 p2 p3 p4 p5 q0 q1 q2 q3 q4 q5 ql
                have hk2 := hkn
                clear hkn
                go_wp2_with fail
                refine wp_region_held_drew (S := Below wB.heap.size wB) (by kernel_rfl) (dbm.drawn1 (Below.refl _ _)) (fun hHeld => ?_)
                have hkn := hk2
                clear hk2
                refine wpAnyH_take (i := 0) (v := ?_) rfl (by kernel_rfl) (by kernel_rfl) (by kernel_rfl) (fun _ _ _ h => h) (Or.inl ⟨by rfl, ?_⟩) hHeld ?_
                rotate_left
                · intro w hSw; obtain ⟨c0, c1, c2, c3, c4, c5⟩ := zs_cells (HV.out.below hSw) HKN.out HEZ.out; obtain ⟨⟨y0, y1, y2, y3, y4, y5⟩, _⟩ := six_cells (lies.on_call D0 hSw); go_simp; try with_reducible rfl
                try simp only [Act.put, List.getElem_toArray, List.getElem_cons_zero, List.getElem_cons_succ, List.setIfInBounds_toArray, List.set_cons_zero, List.set_cons_succ]
                refine wpAnyH_take (i := 1) (v := ?_) rfl (by kernel_rfl) (by kernel_rfl) (by kernel_rfl) (fun _ _ _ h => h) (Or.inl ⟨by rfl, ?_⟩) hHeld ?_
                rotate_left
                · intro w hSw; obtain ⟨c0, c1, c2, c3, c4, c5⟩ := zs_cells (HV.out.below hSw) HKN.out HEZ.out; obtain ⟨⟨y0, y1, y2, y3, y4, y5⟩, _⟩ := six_cells (lies.on_call D0 hSw); go_simp; try with_reducible rfl
                try simp only [Act.put, List.getElem_toArray, List.getElem_cons_zero, List.getElem_cons_succ, List.setIfInBounds_toArray, List.set_cons_zero, List.set_cons_succ]
                refine wpAnyH_take (i := 2) (v := ?_) rfl (by kernel_rfl) (by kernel_rfl) (by kernel_rfl) (fun _ _ _ h => h) (Or.inl ⟨by rfl, ?_⟩) hHeld ?_
                rotate_left
                · intro w hSw; obtain ⟨c0, c1, c2, c3, c4, c5⟩ := zs_cells (HV.out.below hSw) HKN.out HEZ.out; obtain ⟨⟨y0, y1, y2, y3, y4, y5⟩, _⟩ := six_cells (lies.on_call D0 hSw); go_simp; try with_reducible rfl
                try simp only [Act.put, List.getElem_toArray, List.getElem_cons_zero, List.getElem_cons_succ, List.setIfInBounds_toArray, List.set_cons_zero, List.set_cons_succ]
                refine wpAnyH_take (i := 3) (v := ?_) rfl (by kernel_rfl) (by kernel_rfl) (by kernel_rfl) (fun _ _ _ h => h) (Or.inl ⟨by rfl, ?_⟩) hHeld ?_
                rotate_left
                · intro w hSw; obtain ⟨c0, c1, c2, c3, c4, c5⟩ := zs_cells (HV.out.below hSw) HKN.out HEZ.out; obtain ⟨⟨y0, y1, y2, y3, y4, y5⟩, _⟩ := six_cells (lies.on_call D0 hSw); go_simp; try with_reducible rfl
                try simp only [Act.put, List.getElem_toArray, List.getElem_cons_zero, List.getElem_cons_succ, List.setIfInBounds_toArray, List.set_cons_zero, List.set_cons_succ]
                refine wpAnyH_take (i := 4) (v := ?_) rfl (by kernel_rfl) (by kernel_rfl) (by kernel_rfl) (fun _ _ _ h => h) (Or.inl ⟨by rfl, ?_⟩) hHeld ?_
                rotate_left
                · intro w hSw; obtain ⟨c0, c1, c2, c3, c4, c5⟩ := zs_cells (HV.out.below hSw) HKN.out HEZ.out; obtain ⟨⟨y0, y1, y2, y3, y4, y5⟩, _⟩ := six_cells (lies.on_call D0 hSw); go_simp; try with_reducible rfl
                try simp only [Act.put, List.getElem_toArray, List.getElem_cons_zero, List.getElem_cons_succ, List.setIfInBounds_toArray, List.set_cons_zero, List.set_cons_succ]
                refine wpAnyH_ready (rs := [5]) (by kernel_rfl) (by simp) (AllReadyH.cons rfl (fun K hK => ?_) AllReadyH.nil)
                go_simp
                refine (zin_any x0 x1 x2 x3 x4 x5 a0 a1 a2 a3 a4 a5 _ (P0.on hHeld) HZK.out.2.1 TA.out).mono ?_
                rintro e u5 ⟨hB, it, f, rfl, hR⟩
                obtain ⟨rfl, rfl⟩ := HKI.out _ _ hR
                clear hR
                refine hK.out _ _ (hHeld.trans (hB.mono hHeld.size)) (fun hNew => ?_)
                clear hB
                clear hHeld hK K
                have hHeld := hNew
                clear hNew
                try simp only [Act.put, List.getElem_toArray, List.getElem_cons_zero, List.getElem_cons_succ, List.setIfInBounds_toArray, List.set_cons_zero, List.set_cons_succ]
                refine wpAnyH_take (i := 6) (v := ?_) rfl (by kernel_rfl) (by kernel_rfl) (by kernel_rfl) (fun _ _ _ h => h) (Or.inl ⟨by rfl, ?_⟩) hHeld ?_
                rotate_left
                · intro w hSw; skip; go_simp; try with_reducible rfl
                try simp only [Act.put, List.getElem_toArray, List.getElem_cons_zero, List.getElem_cons_succ, List.setIfInBounds_toArray, List.set_cons_zero, List.set_cons_succ]
                refine wpAnyH_take (i := 7) (v := ?_) rfl (by kernel_rfl) (by kernel_rfl) (by kernel_rfl) (fun _ _ _ h => h) (Or.inl ⟨by rfl, ?_⟩) hHeld ?_
                rotate_left
                · intro w hSw; skip; go_simp; try with_reducible rfl
                try simp only [Act.put, List.getElem_toArray, List.getElem_cons_zero, List.getElem_cons_succ, List.setIfInBounds_toArray, List.set_cons_zero, List.set_cons_succ]
                refine wpAnyH_take (i := 8) (v := ?_) rfl (by kernel_rfl) (by kernel_rfl) (by kernel_rfl) (fun _ _ _ h => h) (Or.inl ⟨by rfl, ?_⟩) hHeld ?_
                rotate_left
                · intro w hSw; skip; go_simp; try with_reducible rfl
                try simp only [Act.put, List.getElem_toArray, List.getElem_cons_zero, List.getElem_cons_succ, List.setIfInBounds_toArray, List.set_cons_zero, List.set_cons_succ]
                refine wpAnyH_take (i := 9) (v := ?_) rfl (by kernel_rfl) (by kernel_rfl) (by kernel_rfl) (fun _ _ _ h => h) (Or.inl ⟨by rfl, ?_⟩) hHeld ?_
                rotate_left
                · intro w hSw; skip; go_simp; try with_reducible rfl
                try simp only [Act.put, List.getElem_toArray, List.getElem_cons_zero, List.getElem_cons_succ, List.setIfInBounds_toArray, List.set_cons_zero, List.set_cons_succ]
                refine wpAnyH_take (i := 10) (v := ?_) rfl (by kernel_rfl) (by kernel_rfl) (by kernel_rfl) (fun _ _ _ h => h) (Or.inl ⟨by rfl, ?_⟩) hHeld ?_
                rotate_left
                · intro w hSw; skip; go_simp; try with_reducible rfl
                try simp only [Act.put, List.getElem_toArray, List.getElem_cons_zero, List.getElem_cons_succ, List.setIfInBounds_toArray, List.set_cons_zero, List.set_cons_succ]
                refine wpAnyH_done (by kernel_rfl) ?_ _
                replace D0 := lies.on_call D0 hHeld
                replace D1 := lies.on_call D1 hHeld
                replace DB := later DB hHeld
                replace P0 := P0.on hHeld
                replace HV := Lib.hid (HV.out.on hHeld)
                clear hHeld
                go_wp2_with fail
                go_loopw [17] (fun i wq => ∃ j : Nat, j ≤ k ∧ i = .int .i64 j ∧ lies.Lies wq w.heap.size 24 #[.int .i64 a0, .int .i64 a1, .int .i64 a2, .int .i64 a3, .int .i64 a4, .int .i64 a5] ∧ lies.Lies wq (w.heap.size + 1) 24 #[.int .i64 b0, .int .i64 b1, .int .i64 b2, .int .i64 b3, .int .i64 b4, .int .i64 b5] ∧ Below w.heap.size w wq ∧ Pl wq ∧ RowKit.Hid (Zs wq.heap.size wq (.slice (some ⟨bq, off, none⟩) r2.length e2) r2)) (fun i _ => k - (intOf i).toNat)
                case atStart => exact ⟨0, Nat.zero_le _, rfl, D0, D1, DB, P0, HV⟩
                case round =>
                  clear D0 D1 DB P0 HV
                  obtain ⟨j, hj, rfl, D0, D1, DB, P0, HV⟩ := hrel
                  by_cases hjk : j < k
                  · skip
                    have hjn : j < r2.length := by omega
                    obtain ⟨hzj, -⟩ := HK.out j hjn
                    obtain ⟨bj, offj, y0, y1, y2, y3, y4, y5, ebj, hb2, ej⟩ := zs_six HV.out hjn hzj.2.2
                    cases ebj
                    rw [ej] at hzj
                    have hmj := HKP.out j hjk
                    rw [ej] at hmj
                    have HEJ := Lib.hid ej
                    have HZJ := Lib.hid hzj
                    have HMJ := Lib.hid hmj
                    have HJN := Lib.hid hjn
                    clear ej hzj hmj
                    have hrw : bq < wr.heap.size := hb2
                    have hk2 := hkn
                    clear hkn
                    go_wp2_with fail
                    refine wp_region_held_drew (S := Below wr.heap.size wr) (by kernel_rfl) (dbm.drawn1 (Below.refl _ _)) (fun hHeld => ?_)
                    have hkn := hk2
                    clear hk2
                    refine wpAnyH_take (i := 0) (v := ?_) rfl (by kernel_rfl) (by kernel_rfl) (by kernel_rfl) (fun _ _ _ h => h) (Or.inl ⟨by rfl, ?_⟩) hHeld ?_
                    rotate_left
                    · intro w hSw; obtain ⟨c0, c1, c2, c3, c4, c5⟩ := zs_cells (HV.out.below hSw) HKN.out HEZ.out; obtain ⟨d0, d1, d2, d3, d4, d5⟩ := zs_cells (HV.out.below hSw) HJN.out HEJ.out; go_simp; try with_reducible rfl
                    try simp only [Act.put, List.getElem_toArray, List.getElem_cons_zero, List.getElem_cons_succ, List.setIfInBounds_toArray, List.set_cons_zero, List.set_cons_succ]
                    refine wpAnyH_take (i := 1) (v := ?_) rfl (by kernel_rfl) (by kernel_rfl) (by kernel_rfl) (fun _ _ _ h => h) (Or.inl ⟨by rfl, ?_⟩) hHeld ?_
                    rotate_left
                    · intro w hSw; obtain ⟨c0, c1, c2, c3, c4, c5⟩ := zs_cells (HV.out.below hSw) HKN.out HEZ.out; obtain ⟨d0, d1, d2, d3, d4, d5⟩ := zs_cells (HV.out.below hSw) HJN.out HEJ.out; go_simp; try with_reducible rfl
                    try simp only [Act.put, List.getElem_toArray, List.getElem_cons_zero, List.getElem_cons_succ, List.setIfInBounds_toArray, List.set_cons_zero, List.set_cons_succ]
                    refine wpAnyH_take (i := 2) (v := ?_) rfl (by kernel_rfl) (by kernel_rfl) (by kernel_rfl) (fun _ _ _ h => h) (Or.inl ⟨by rfl, ?_⟩) hHeld ?_
                    rotate_left
                    · intro w hSw; obtain ⟨c0, c1, c2, c3, c4, c5⟩ := zs_cells (HV.out.below hSw) HKN.out HEZ.out; obtain ⟨d0, d1, d2, d3, d4, d5⟩ := zs_cells (HV.out.below hSw) HJN.out HEJ.out; go_simp; try with_reducible rfl
                    try simp only [Act.put, List.getElem_toArray, List.getElem_cons_zero, List.getElem_cons_succ, List.setIfInBounds_toArray, List.set_cons_zero, List.set_cons_succ]
                    refine wpAnyH_take (i := 3) (v := ?_) rfl (by kernel_rfl) (by kernel_rfl) (by kernel_rfl) (fun _ _ _ h => h) (Or.inl ⟨by rfl, ?_⟩) hHeld ?_
                    rotate_left
                    · intro w hSw; obtain ⟨c0, c1, c2, c3, c4, c5⟩ := zs_cells (HV.out.below hSw) HKN.out HEZ.out; obtain ⟨d0, d1, d2, d3, d4, d5⟩ := zs_cells (HV.out.below hSw) HJN.out HEJ.out; go_simp; try with_reducible rfl
                    try simp only [Act.put, List.getElem_toArray, List.getElem_cons_zero, List.getElem_cons_succ, List.setIfInBounds_toArray, List.set_cons_zero, List.set_cons_succ]
                    refine wpAnyH_take (i := 4) (v := ?_) rfl (by kernel_rfl) (by kernel_rfl) (by kernel_rfl) (fun _ _ _ h => h) (Or.inl ⟨by rfl, ?_⟩) hHeld ?_
                    rotate_left
                    · intro w hSw; obtain ⟨c0, c1, c2, c3, c4, c5⟩ := zs_cells (HV.out.below hSw) HKN.out HEZ.out; obtain ⟨d0, d1, d2, d3, d4, d5⟩ := zs_cells (HV.out.below hSw) HJN.out HEJ.out; go_simp; try with_reducible rfl
                    try simp only [Act.put, List.getElem_toArray, List.getElem_cons_zero, List.getElem_cons_succ, List.setIfInBounds_toArray, List.set_cons_zero, List.set_cons_succ]
                    refine wpAnyH_take (i := 5) (v := ?_) rfl (by kernel_rfl) (by kernel_rfl) (by kernel_rfl) (fun _ _ _ h => h) (Or.inl ⟨by rfl, ?_⟩) hHeld ?_
                    rotate_left
                    · intro w hSw; obtain ⟨c0, c1, c2, c3, c4, c5⟩ := zs_cells (HV.out.below hSw) HKN.out HEZ.out; obtain ⟨d0, d1, d2, d3, d4, d5⟩ := zs_cells (HV.out.below hSw) HJN.out HEJ.out; go_simp; try with_reducible rfl
                    try simp only [Act.put, List.getElem_toArray, List.getElem_cons_zero, List.getElem_cons_succ, List.setIfInBounds_toArray, List.set_cons_zero, List.set_cons_succ]
                    refine wpAnyH_take (i := 6) (v := ?_) rfl (by kernel_rfl) (by kernel_rfl) (by kernel_rfl) (fun _ _ _ h => h) (Or.inl ⟨by rfl, ?_⟩) hHeld ?_
                    rotate_left
                    · intro w hSw; obtain ⟨c0, c1, c2, c3, c4, c5⟩ := zs_cells (HV.out.below hSw) HKN.out HEZ.out; obtain ⟨d0, d1, d2, d3, d4, d5⟩ := zs_cells (HV.out.below hSw) HJN.out HEJ.out; go_simp; try with_reducible rfl
                    try simp only [Act.put, List.getElem_toArray, List.getElem_cons_zero, List.getElem_cons_succ, List.setIfInBounds_toArray, List.set_cons_zero, List.set_cons_succ]
                    refine wpAnyH_take (i := 7) (v := ?_) rfl (by kernel_rfl) (by kernel_rfl) (by kernel_rfl) (fun _ _ _ h => h) (Or.inl ⟨by rfl, ?_⟩) hHeld ?_
                    rotate_left
                    · intro w hSw; obtain ⟨c0, c1, c2, c3, c4, c5⟩ := zs_cells (HV.out.below hSw) HKN.out HEZ.out; obtain ⟨d0, d1, d2, d3, d4, d5⟩ := zs_cells (HV.out.below hSw) HJN.out HEJ.out; go_simp; try with_reducible rfl
                    try simp only [Act.put, List.getElem_toArray, List.getElem_cons_zero, List.getElem_cons_succ, List.setIfInBounds_toArray, List.set_cons_zero, List.set_cons_succ]
                    generalize hwD : wr.drew = wD at hHeld ⊢
                    clear hwD
                    refine wpAnyH_ready (rs := [8, 12]) (by kernel_rfl) (by simp) (AllReadyH.cons rfl (fun K hK => ?_) (AllReadyH.cons rfl (fun K hK => ?_) AllReadyH.nil))
                    · go_simp
                      refine (zmeet_any x0 x1 x2 x3 x4 x5 y0 y1 y2 y3 y4 y5 _ (P0.on hHeld) HZK.out.2.1 HZJ.out.2.1).mono ?_
                      rintro e uM ⟨hB, m0, m1, m2, m3, m4, m5, fm, rfl, hR⟩
                      obtain rfl := HMJ.out _ _ hR
                      clear hR
                      refine hK.out _ _ (hHeld.trans (hB.mono hHeld.size)) (fun hNew => ?_)
                      clear hB
                      clear hHeld hK K
                      have hHeld := hNew
                      clear hNew
                      try simp only [Act.put, List.getElem_toArray, List.getElem_cons_zero, List.getElem_cons_succ, List.setIfInBounds_toArray, List.set_cons_zero, List.set_cons_succ]
                      refine wpAnyH_take (i := 9) (v := ?_) rfl (by kernel_rfl) (by kernel_rfl) (by kernel_rfl) (fun _ _ _ h => h) (Or.inl ⟨by rfl, ?_⟩) hHeld ?_
                      rotate_left
                      · intro w hSw; skip; go_simp; try with_reducible rfl
                      try simp only [Act.put, List.getElem_toArray, List.getElem_cons_zero, List.getElem_cons_succ, List.setIfInBounds_toArray, List.set_cons_zero, List.set_cons_succ]
                      refine wpAnyH_take (i := 10) (v := ?_) rfl (by kernel_rfl) (by kernel_rfl) (by kernel_rfl) (fun _ _ _ h => h) (Or.inl ⟨by rfl, ?_⟩) hHeld ?_
                      rotate_left
                      · intro w hSw; skip; go_simp; try with_reducible rfl
                      try simp only [Act.put, List.getElem_toArray, List.getElem_cons_zero, List.getElem_cons_succ, List.setIfInBounds_toArray, List.set_cons_zero, List.set_cons_succ]
                      refine wpAnyH_take (i := 11) (v := ?_) rfl (by kernel_rfl) (by kernel_rfl) (by kernel_rfl) (fun _ _ _ h => h) (Or.inl ⟨by rfl, ?_⟩) hHeld ?_
                      rotate_left
                      · intro w hSw; skip; go_simp; try with_reducible rfl
                      try simp only [Act.put, List.getElem_toArray, List.getElem_cons_zero, List.getElem_cons_succ, List.setIfInBounds_toArray, List.set_cons_zero, List.set_cons_succ]
                      refine wpAnyH_ready (rs := [12]) (by kernel_rfl) (by simp) (AllReadyH.cons rfl (fun K hK => ?_) AllReadyH.nil)
                      go_simp
                      have hT := hHeld.size
                      have L := lies.made uM 24 #[.int .i64 0, .int .i64 0, .int .i64 0, .int .i64 0, .int .i64 0, .int .i64 0]
                      have hAl := hHeld.trans ((bound.up1 uM (.cells #[.int .i64 0, .int .i64 0, .int .i64 0, .int .i64 0, .int .i64 0, .int .i64 0] 24)).mono hHeld.size)
                      refine hK.out _ _ hAl (fun hNew => ?_)
                      clear hAl
                      clear hHeld hK K
                      have hHeld := hNew
                      clear hNew
                      try simp only [Act.put, List.getElem_toArray, List.getElem_cons_zero, List.getElem_cons_succ, List.setIfInBounds_toArray, List.set_cons_zero, List.set_cons_succ]
                      generalize (World.heap uM).size = T at hT L ⊢
                      generalize World.alloc uM (.cells #[.int .i64 0, .int .i64 0, .int .i64 0, .int .i64 0, .int .i64 0, .int .i64 0] 24) = wA at L hHeld ⊢
                      obtain ⟨⟨p0, p1, p2, p3, p4, p5⟩, ⟨q0, q1, q2, q3, q4, q5⟩, ql⟩ := six_cells L
                      refine wpAnyH_ready (rs := [13]) (by kernel_rfl) (by simp) (AllReadyH.cons rfl (fun K hK => ?_) AllReadyH.nil)
                      go_simp
                      replace hHeld := put_six hHeld hT (.int .i64 m0) (.int .i64 m1) (.int .i64 m2) (.int .i64 m3) (.int .i64 m4) (.int .i64 m5)
                      replace L := zref.put_sixL L (.int .i64 m0) (.int .i64 m1) (.int .i64 m2) (.int .i64 m3) (.int .i64 m4) (.int .i64 m5)
                      refine hK.out _ _ hHeld (fun hNew => ?_)
                      clear hHeld hK K
                      have hHeld := hNew
                      clear hNew
                      try simp only [Act.put, List.getElem_toArray, List.getElem_cons_zero, List.getElem_cons_succ, List.setIfInBounds_toArray, List.set_cons_zero, List.set_cons_succ]
                      generalize World.setCell (World.setCell (World.setCell (World.setCell (World.setCell (World.setCell (wA) ⟨T, 0, none⟩ (.int .i64 m0)) ⟨T, 1, none⟩ (.int .i64 m1)) ⟨T, 2, none⟩ (.int .i64 m2)) ⟨T, 3, none⟩ (.int .i64 m3)) ⟨T, 4, none⟩ (.int .i64 m4)) ⟨T, 5, none⟩ (.int .i64 m5) = wB at L hHeld ⊢
                      refine wpAnyH_take (i := 14) (v := ?_) rfl (by kernel_rfl) (by kernel_rfl) (by kernel_rfl) (fun _ _ _ h => h) (Or.inl ⟨by rfl, ?_⟩) hHeld ?_
                      rotate_left
                      · intro w hSw; skip; go_simp; try with_reducible rfl
                      try simp only [Act.put, List.getElem_toArray, List.getElem_cons_zero, List.getElem_cons_succ, List.setIfInBounds_toArray, List.set_cons_zero, List.set_cons_succ]
                      refine wpAnyH_done (by kernel_rfl) ?_ _
                      replace D0 := lies.on_call D0 hHeld
                      replace D1 := lies.on_call D1 hHeld
                      replace DB := later DB hHeld
                      replace P0 := P0.on hHeld
                      replace HV := Lib.hid (HV.out.on hHeld)
                      clear hHeld L
                      try clear p0 p1 p2 p3 p4 p5 q0 q1 q2 q3 q4 q5 ql
                      go_wp2_with fail
                      go_roundw
                      case rel => exact ⟨j + 1, by omega, by go_num, D0, D1, DB, P0, HV⟩
                      case measure => simp [intOf]; omega
                    · go_simp
                      have hT := hHeld.size
                      have L := lies.made wD 24 #[.int .i64 0, .int .i64 0, .int .i64 0, .int .i64 0, .int .i64 0, .int .i64 0]
                      have hAl := hHeld.trans ((bound.up1 wD (.cells #[.int .i64 0, .int .i64 0, .int .i64 0, .int .i64 0, .int .i64 0, .int .i64 0] 24)).mono hHeld.size)
                      refine hK.out _ _ hAl (fun hNew => ?_)
                      clear hAl
                      clear hHeld hK K
                      have hHeld := hNew
                      clear hNew
                      try simp only [Act.put, List.getElem_toArray, List.getElem_cons_zero, List.getElem_cons_succ, List.setIfInBounds_toArray, List.set_cons_zero, List.set_cons_succ]
                      generalize (World.heap wD).size = T at hT L ⊢
                      generalize World.alloc wD (.cells #[.int .i64 0, .int .i64 0, .int .i64 0, .int .i64 0, .int .i64 0, .int .i64 0] 24) = wA at L hHeld ⊢
                      refine wpAnyH_ready (rs := [8]) (by kernel_rfl) (by simp) (AllReadyH.cons rfl (fun K hK => ?_) AllReadyH.nil)
                      go_simp
                      refine (zmeet_any x0 x1 x2 x3 x4 x5 y0 y1 y2 y3 y4 y5 _ (P0.on hHeld) HZK.out.2.1 HZJ.out.2.1).mono ?_
                      rintro e uM ⟨hB, m0, m1, m2, m3, m4, m5, fm, rfl, hR⟩
                      obtain rfl := HMJ.out _ _ hR
                      clear hR
                      replace L := lies.on_call L hB
                      refine hK.out _ _ (hHeld.trans (hB.mono hHeld.size)) (fun hNew => ?_)
                      clear hB
                      clear hHeld hK K
                      have hHeld := hNew
                      clear hNew
                      try simp only [Act.put, List.getElem_toArray, List.getElem_cons_zero, List.getElem_cons_succ, List.setIfInBounds_toArray, List.set_cons_zero, List.set_cons_succ]
                      refine wpAnyH_take (i := 9) (v := ?_) rfl (by kernel_rfl) (by kernel_rfl) (by kernel_rfl) (fun _ _ _ h => h) (Or.inl ⟨by rfl, ?_⟩) hHeld ?_
                      rotate_left
                      · intro w hSw; skip; go_simp; try with_reducible rfl
                      try simp only [Act.put, List.getElem_toArray, List.getElem_cons_zero, List.getElem_cons_succ, List.setIfInBounds_toArray, List.set_cons_zero, List.set_cons_succ]
                      refine wpAnyH_take (i := 10) (v := ?_) rfl (by kernel_rfl) (by kernel_rfl) (by kernel_rfl) (fun _ _ _ h => h) (Or.inl ⟨by rfl, ?_⟩) hHeld ?_
                      rotate_left
                      · intro w hSw; skip; go_simp; try with_reducible rfl
                      try simp only [Act.put, List.getElem_toArray, List.getElem_cons_zero, List.getElem_cons_succ, List.setIfInBounds_toArray, List.set_cons_zero, List.set_cons_succ]
                      refine wpAnyH_take (i := 11) (v := ?_) rfl (by kernel_rfl) (by kernel_rfl) (by kernel_rfl) (fun _ _ _ h => h) (Or.inl ⟨by rfl, ?_⟩) hHeld ?_
                      rotate_left
                      · intro w hSw; skip; go_simp; try with_reducible rfl
                      try simp only [Act.put, List.getElem_toArray, List.getElem_cons_zero, List.getElem_cons_succ, List.setIfInBounds_toArray, List.set_cons_zero, List.set_cons_succ]
                      obtain ⟨⟨p0, p1, p2, p3, p4, p5⟩, ⟨q0, q1, q2, q3, q4, q5⟩, ql⟩ := six_cells L
                      refine wpAnyH_ready (rs := [13]) (by kernel_rfl) (by simp) (AllReadyH.cons rfl (fun K hK => ?_) AllReadyH.nil)
                      go_simp
                      replace hHeld := put_six hHeld hT (.int .i64 m0) (.int .i64 m1) (.int .i64 m2) (.int .i64 m3) (.int .i64 m4) (.int .i64 m5)
                      replace L := zref.put_sixL L (.int .i64 m0) (.int .i64 m1) (.int .i64 m2) (.int .i64 m3) (.int .i64 m4) (.int .i64 m5)
                      refine hK.out _ _ hHeld (fun hNew => ?_)
                      clear hHeld hK K
                      have hHeld := hNew
                      clear hNew
                      try simp only [Act.put, List.getElem_toArray, List.getElem_cons_zero, List.getElem_cons_succ, List.setIfInBounds_toArray, List.set_cons_zero, List.set_cons_succ]
                      generalize World.setCell (World.setCell (World.setCell (World.setCell (World.setCell (World.setCell (uM) ⟨T, 0, none⟩ (.int .i64 m0)) ⟨T, 1, none⟩ (.int .i64 m1)) ⟨T, 2, none⟩ (.int .i64 m2)) ⟨T, 3, none⟩ (.int .i64 m3)) ⟨T, 4, none⟩ (.int .i64 m4)) ⟨T, 5, none⟩ (.int .i64 m5) = wB at L hHeld ⊢
                      refine wpAnyH_take (i := 14) (v := ?_) rfl (by kernel_rfl) (by kernel_rfl) (by kernel_rfl) (fun _ _ _ h => h) (Or.inl ⟨by rfl, ?_⟩) hHeld ?_
                      rotate_left
                      · intro w hSw; skip; go_simp; try with_reducible rfl
                      try simp only [Act.put, List.getElem_toArray, List.getElem_cons_zero, List.getElem_cons_succ, List.setIfInBounds_toArray, List.set_cons_zero, List.set_cons_succ]
                      refine wpAnyH_done (by kernel_rfl) ?_ _
                      replace D0 := lies.on_call D0 hHeld
                      replace D1 := lies.on_call D1 hHeld
                      replace DB := later DB hHeld
                      replace P0 := P0.on hHeld
                      replace HV := Lib.hid (HV.out.on hHeld)
                      clear hHeld L
                      try clear p0 p1 p2 p3 p4 p5 q0 q1 q2 q3 q4 q5 ql
                      go_wp2_with fail
                      go_roundw
                      case rel => exact ⟨j + 1, by omega, by go_num, D0, D1, DB, P0, HV⟩
                      case measure => simp [intOf]; omega
                  · skip
                    obtain rfl : k = j := by omega
                    go_wp2_with fail
                    go_roundw
                    case rel => exact ⟨k + 1, by omega, by go_num, D0, D1, DB, P0, HV⟩
                    case measure => simp [intOf]; omega
            · skip
              obtain rfl : k = r2.length := by omega
              go_wp2_with fail
              go_ret
              exact ⟨rfl, DB⟩
      · skip
        have hbf2 : (f2 == 0) = false := by simpa using hf
        have hnf2 : (f2 != 0) = true := by simpa using hf
        clear hf HR2 HI2
        go_wp2_with fail
        go_ret
        exact ⟨rfl, DB⟩
    · skip
      have hbg : (g == 0) = false := by simpa using hg
      have hng : (g != 0) = true := by simpa using hg
      clear hg HR2 HIN
      go_wp2_with fail
      go_ret
      exact ⟨rfl, DB⟩

set_option maxRecDepth 100000 in
theorem lifted (os : Os) (started : os.Started) (H : Type) (enc : TypeId × Value → H) :
    ReturnsInHanded {} Tryd.checked os 6 .any (fun w args => (Rows.minusNoneSpec.pre enc Tryd.prog Tryd.f6 [] false w args ∧ laidMetH Tryd.prog zopen.places w) ∧ sizedMet enc Tryd.prog Tryd.f6 (OpenSpec.ofChange Rows.minusNoneSpec) false w args) (Rows.minusNoneSpec.post enc Tryd.prog Tryd.f6 false true false false) := by
  refine returnsInHanded_of_change_and (C := Tryd.checked) (X := fun w _ => laidMetH Tryd.prog zopen.places w) (fun _ _ _ hh h => h.of_heap hh) law.own started (by kernel_rfl) Tryd.func6
    (ChangeSpec.witness_shaped (enc := enc) (C := Tryd.checked) (os := os) (X := fun w _ => laidMetH Tryd.prog zopen.places w) false (World.doorLaid Tryd.prog 400 os) #[.agg #[.int .i64 0, .int .i64 0, .int .i64 0, .int .i64 0, .int .i64 0, .int .i64 0], .agg #[.int .i64 0, .int .i64 0, .int .i64 0, .int .i64 0, .int .i64 0, .int .i64 0]] 8 rfl (World.shaped_of_RefB (by kernel_rfl) (by kernel_rfl)) (by kernel_rfl) (by kernel_rfl) (by kernel_rfl) (zopen.door_met os _)) ?_
  intro W base args ds gs before hval0 hW _ _ hL _
  have hval : ∀ (j : Nat) t v, Tryd.f6.params[j]? = some t → args[j]? = some v → Value.okWide Tryd.prog W .any base t v := hval0
  have hW' := hW
  obtain ⟨p, q, hA0, hV, rfl, _, _⟩ := hW
  have hA : DataW.TrodAll enc Tryd.prog W 0 (fun _ => true) true Tryd.f6.params.toList args.toList ds p := hA0
  rw [Tryd.params6] at hA hval
  obtain ⟨v0, vs0, d0, ds0, p0, q0, hargs, rfl, rfl, h0, r0⟩ := trodAll_cons hA
  obtain ⟨v1, vs1, d1, ds1, p1, q1, rfl, rfl, rfl, h1, r1⟩ := trodAll_cons r0
  obtain ⟨rfl, rfl, rfl⟩ := trodAll_nil r1
  obtain rfl : args = #[v0, v1] := by cases args; simp_all
  obtain ⟨z00, z01, z02, z03, z04, z05, rfl, w0⟩ := zopen.open_zone (hval 0 24 v0 rfl rfl) h0
  obtain ⟨z10, z11, z12, z13, z14, z15, rfl, w1⟩ := zopen.open_zone (hval 1 24 v1 rfl rfl) h1
  refine (walk z00 z01 z02 z03 z04 z05 z10 z11 z12 z13 z14 z15 W (fun x hx => ⟨law.wf_lo (w0 x hx), law.wf_hi (w0 x hx)⟩) (fun x hx => ⟨law.wf_lo (w1 x hx), law.wf_hi (w1 x hx)⟩) (zopen.laid_pl hL)).mono fun e W' ⟨he, hB⟩ => ?_
  subst he
  exact ⟨_, rfl, law.post_true law.laidOut (by kernel_rfl) rfl Tryd.underlying4 rfl hW' (fun h => by subst h; rfl) hB⟩

theorem proved : Rows.MinusNoneSaid :=
  OpenClaim.holds_of_wide 6 Tryd.f6 rfl rfl rfl rfl rfl rfl rfl ⟨rfl, rfl, rfl, rfl, rfl⟩ rfl rfl rfl rfl rfl (by kernel_rfl) Tryd.func6 (by kernel_rfl)
    (of_decide_eq_true (by kernel_rfl)) (by unfold Func.isWrapper; first | (rw [if_pos (by decide +kernel)]; kernel_rfl) | (rw [if_neg (by decide +kernel)]; exact ⟨rfl, rfl⟩))
    (fun os started H enc _ => lifted os started H enc)
theorem card : Rows.MinusNoneCardSaid :=
  Claim7.holds_tied_plain_at .later [] [.data] true (true, "63052b61decf7e22cc573bd623194e0d9c99a30bfaeca1484cbb133092540983") false
    proved (fun _ h => by cases h) (by kernel_rfl) (fun _ h => by cases h) minusNone_row_tie rfl ⟨rfl, rfl⟩ (by kernel_rfl) rfl
    (fun f fn hf hfn => by
      obtain rfl : f = 6 := Option.some.inj ((show Tryd.prog.funcNamed "rallentando/rallentandolaw11.MinusNone" = some 6 by kernel_rfl).symm.trans hf) |>.symm
      obtain rfl : fn = Tryd.f6 := (Option.some.inj (Tryd.func6.symm.trans hfn)).symm
      exact ⟨by kernel_rfl, fun j t ht => by
        rw [Tryd.params6] at ht
        have hm : t ∈ [24, 24] := by simpa using Array.mem_of_getElem? ht
        have hall : ([24, 24].all fun u => !Tryd.prog.wantsStandIn u) = true := by kernel_rfl
        exact (show Tryd.prog.wantsStandIn t = false by simpa using List.all_eq_true.1 hall t hm)⟩)
    (by kernel_rfl)
#print axioms card
end Go.Proofs.YtkfnjdmjojodhaaDoor.minusNone
