/-
  MinusTells answers true for every two zones, and zones; the listed variable reads as the program lays it.
-/
import Derived.Test.YtkfnjdmjojodhaaDoorMinusT
import Derived.Test.YtkfnjdmjojodhaaDoorCards
import Derived.Test.YtkfnjdmjojodhaaDoorTie
import Derived.BigQuiet
namespace Go.Proofs.YtkfnjdmjojodhaaDoor.minusTells
open Go.Joins Go.ChangeShapes Go.WideShapes Go.ChangeAt Go.RowKit num rat dbm Go.Proofs.YtkfnjdmjojodhaaDoor.tight Go.Proofs.YtkfnjdmjojodhaaDoor.incl Go.Proofs.YtkfnjdmjojodhaaDoor.plaw Go.Proofs.YtkfnjdmjojodhaaDoor.zopen Go.Proofs.YtkfnjdmjojodhaaDoor.zone Go.Proofs.YtkfnjdmjojodhaaDoor.zlaw Go.Proofs.YtkfnjdmjojodhaaDoor.win Go.Proofs.YtkfnjdmjojodhaaDoor.minus Go.Proofs.YtkfnjdmjojodhaaDoor.mz Go.Proofs.YtkfnjdmjojodhaaDoor.mlaw dref mref
open bound hiding up
set_option linter.unusedVariables false
set_option linter.unusedSimpArgs false

theorem min_one {a b : List Int} {r r' : List (List Int)} {f f' : Int} (ha : a.length = 6) (ta : Tops a) (hb : b.length = 6) (tb : Tops b) (h : MinR a b r f) (k : RMin a b r' f') : (r' = r ∧ f' = f) ∧ (∀ z, z ∈ r → z.length = 6) ∧ r.length ≤ 1000000 := by
  rcases h with ⟨n, rfl, rfl⟩ | ⟨ma, mb, hS⟩
  · rcases k with ⟨_, rfl, rfl⟩ | ⟨ma, mb, _⟩
    · exact ⟨⟨rfl, rfl⟩, (fun z hz => by cases hz), Nat.zero_le _⟩
    · exact (n ⟨ma, mb⟩).elim
  · rcases k with ⟨n, _⟩ | ⟨_, _, kL⟩
    · exact (n ⟨ma, mb⟩).elim
    · have za := zo_may ha ta ma
      have zb := zo_may hb tb mb
      have hL := min_less za zb hS
      refine ⟨less_same 6 hL kL, fun z hz => ?_, Nat.le_trans (less_len za zb hL) (by decide)⟩
      rcases less_err 6 hL with e | ⟨_, e⟩
      · subst e; exact (less_zo zb.2.1 zb.1 6 (Nat.le_refl _) za hL z hz).2.2
      · rw [e] at hz; cases hz
theorem rest_err : ∀ (bs : List (List Int)) {l r : List (List Int)} {f : Int}, RestR bs l r f → f ≠ 0 → r = []
  | [], _, _, _, h, n => (n h.2).elim
  | b :: bs, l, r, f, h, n => by
    unfold RestR at h
    obtain ⟨_, e, _, q⟩ := h
    rcases q with ⟨_, p2, _⟩ | ⟨_, p2⟩
    · exact p2
    · exact rest_err bs p2 n
theorem left_one {a : List Int} {l r r' : List (List Int)} {f f' : Int} (ha : a.length = 6) (ta : Tops a) (h6 : Six l) (h5 : l.length ≤ 5) (h : LefR a l r f) (k : RLef a l r' f') : (r' = r ∧ f' = f) ∧ (∀ z, z ∈ r → z.length = 6) ∧ r.length ≤ 1000000 := by
  rcases h with ⟨n, rfl, rfl⟩ | ⟨ma, ml, hS⟩
  · rcases k with ⟨_, rfl, rfl⟩ | ⟨ma, ml, _⟩
    · exact ⟨⟨rfl, rfl⟩, (fun z hz => by cases hz), Nat.zero_le _⟩
    · exact (n ⟨ma, ml⟩).elim
  · rcases k with ⟨n, _⟩ | ⟨_, _, kL⟩
    · exact (n ⟨ma, ml⟩).elim
    · have za := zo_may ha ta ma
      have zl := h6.zo ml
      have zs : ∀ z, z ∈ [a] → Zo z := fun z hz => by rw [List.mem_singleton.1 hz]; exact za
      have hL := restP_five h5 zl za hS
      refine ⟨rest_same l hL kL, fun z hz => ?_, ?_⟩
      · by_cases e : f = 0
        · subst e; exact (rest_zo l zl zs hL z hz).2.2
        · rw [rest_err l hL e] at hz; cases hz
      · by_cases e : f = 0
        · subst e; exact Nat.le_trans (restP_len l [a] r zl zs (by show 1 ≤ 4096; decide) hS) (by decide)
        · rw [rest_err l hL e]; exact Nat.zero_le _
/-- a row whose first bounds may be turned. -/
def Bump (W : World) (v : Value) (n : Nat) : Prop := ∀ k, k < n → ∃ g cap cur, v = .slice (some ⟨g, 0, none⟩) n cap ∧ W.heap[g]? = some (.cells cur 24 (0, 0)) ∧ ∀ j, j < n → ∃ x : Int, cur[j * 6]? = some (.int .i64 x)
theorem bump_of {W : World} {base : Nat} {v : Value} {zs : List (List Int)} (h : W.ownsRow base 24 6 v zs.length (flatZ zs)) : Bump W v zs.length := fun k hk => by
  have hx := h.1
  rcases h.2 with ⟨_, h0⟩ | ⟨g, cap, cur, rfl, h1, h2, h3, h4, h5, h6⟩
  · omega
  · refine ⟨g, cap, cur, rfl, h2, fun j hj => ⟨(zat zs j)[0]?.getD 0, ?_⟩⟩
    have e := flatZ_at zs j 0 hj (by decide)
    rw [← h6, List.getElem?_take, if_pos (by omega), Nat.add_zero, Array.getElem?_toList] at e
    exact e
theorem bump_put {W : World} {g n cap k : Nat} {cur : Array Value} {x : Int} (h : W.heap[g]? = some (.cells cur 24 (0, 0))) (hc : ∀ j, j < n → ∃ x : Int, cur[j * 6]? = some (.int .i64 x)) : Bump (W.setCell ⟨g, k * 6, none⟩ (.int .i64 x)) (.slice (some ⟨g, 0, none⟩) n cap) n := fun m hm => by
  have h' : lies.Lies W g 24 cur := h
  refine ⟨g, cap, _, rfl, lies.on_put h' (k * 6) (.int .i64 x), fun j hj => ?_⟩
  obtain ⟨y, hy⟩ := hc j hj
  have hlt := (Array.getElem?_eq_some_iff.1 hy).1
  by_cases e : k * 6 = j * 6
  · exact ⟨x, by rw [e, Array.getElem?_setIfInBounds_self_of_lt hlt]⟩
  · exact ⟨y, by rw [Array.getElem?_setIfInBounds_ne e]; exact hy⟩
theorem cell_is {W : World} {g i : Nat} {cur : Array Value} {t : TypeId} {u : Value} (h : W.heap[g]? = some (.cells cur t (0, 0))) (hi : cur[i]? = some u) : W.cell? ⟨g, i, none⟩ = some u ∧ W.frozen? ⟨g, i, none⟩ = false ∧ g < W.heap.size := by
  refine ⟨by simp [World.cell?, h, hi], by simp [World.frozen?, h], (Array.getElem?_eq_some_iff.1 h).1⟩

set_option maxRecDepth 100000 in
set_option maxHeartbeats 32000000 in
theorem walk (a0 a1 a2 a3 a4 a5 b0 b1 b2 b3 b4 b5 : Int) (v : Value) (l : List (List Int)) (w : World) (ha : ∀ x ∈ [a0, a1, a2, a3, a4, a5], -9223372036854775808 ≤ x ∧ x ≤ 9223372036854775807) (hb : ∀ x ∈ [b0, b1, b2, b3, b4, b5], -9223372036854775808 ≤ x ∧ x ≤ 9223372036854775807) (hwf : Wf6 l) (hI : Zs w.heap.size w v l) (hm : l.length ≤ maxLen) (hc : ∀ a l c, v = .slice a l c → l ≤ c) (hP : Pl w) : Calls Tryd.prog 4 #[.agg #[.int .i64 a0, .int .i64 a1, .int .i64 a2, .int .i64 a3, .int .i64 a4, .int .i64 a5], .agg #[.int .i64 b0, .int .i64 b1, .int .i64 b2, .int .i64 b3, .int .i64 b4, .int .i64 b5], v] w fun e w' => e = .returned (.bool true) ∧ Below w.heap.size w w' := by
  obtain ⟨ao, cap, rfl⟩ := zs_len hI
  have TA := Lib.hid (show Tops [a0, a1, a2, a3, a4, a5] from fun x hx => (ha x hx).2)
  have TB := Lib.hid (show Tops [b0, b1, b2, b3, b4, b5] from fun x hx => (hb x hx).2)
  have LA := Lib.hid (show Low [a0, a1, a2, a3, a4, a5] from fun x hx => (ha x hx).1)
  have LB := Lib.hid (show Low [b0, b1, b2, b3, b4, b5] from fun x hx => (hb x hx).1)
  have H6 := Lib.hid (show Six l from fun z hz => ⟨(hwf z hz).1, hwf.tops hz⟩)
  have HLO := Lib.hid (show ∀ z, z ∈ l → Low z from fun z hz x hx => ((hwf z hz).2 x hx).1)
  have H66 := Lib.hid (show ∀ z, z ∈ l → z.length = 6 from fun z hz => (hwf z hz).1)
  have X : ∃ w0, w0 = (w.alloc (.cells #[.int .i64 a0, .int .i64 a1, .int .i64 a2, .int .i64 a3, .int .i64 a4, .int .i64 a5] 24)).alloc (.cells #[.int .i64 b0, .int .i64 b1, .int .i64 b2, .int .i64 b3, .int .i64 b4, .int .i64 b5] 24) := ⟨_, rfl⟩
  obtain ⟨w0, hX⟩ := X
  have DB : Below w.heap.size w w0 := by rw [hX]; exact bound.up2 w _ _
  have D0 : lies.Lies w0 (w.heap.size) 24 #[.int .i64 a0, .int .i64 a1, .int .i64 a2, .int .i64 a3, .int .i64 a4, .int .i64 a5] := by rw [hX]; exact lies.on_alloc (lies.made _ _ _) _
  have D1 : lies.Lies w0 (w.heap.size + 1) 24 #[.int .i64 b0, .int .i64 b1, .int .i64 b2, .int .i64 b3, .int .i64 b4, .int .i64 b5] := by rw [hX]; exact lies.made_at _ _ _ _ (by simp)
  have P0 := hP.on DB
  have HI := Lib.hid ((hI.below DB).mono DB.size)
  clear hP ha hb hwf hI hc hm
  by_cases h5 : l.length ≤ 5
  · skip
    have h5i : ¬ (5 : Int) < (l.length : Int) := by omega
    have h5m : l.length ≤ 1000000 := by omega
    obtain ⟨vq, wq, hrun, hown, hgrow, -⟩ := app_zones w0.heap.size 28 (.slice none 0 0) (.slice ao l.length cap) 0 _ [] l _ (World.ownsRow_nil _ _ _ _) HI.out (by omega) (Nat.le_refl _)
    rw [Nat.zero_add, List.nil_append] at hown
    have hBq : Below w0.heap.size w0 wq := ⟨hgrow.os, hgrow.tape, hgrow.output, hgrow.size, fun k hk => hgrow.block k hk (fun e => by cases e)⟩
    obtain ⟨vw, cw, rfl⟩ := zs_len (zs_own hown)
    have HW := Lib.hid (zs_own hown)
    rw [hX] at hrun
    have HRUN := Lib.hid hrun
    clear hrun hown hgrow
    replace D0 := lies.on_call D0 hBq
    replace D1 := lies.on_call D1 hBq
    replace HI := Lib.hid ((HI.out.below hBq).mono hBq.size)
    replace P0 := P0.on hBq
    replace DB := later DB hBq
    clear hBq
    go_enter Tryd.func4, Tryd.ntmps4
    obtain ⟨⟨kD0_0, kD0_1, kD0_2, kD0_3, kD0_4, kD0_5⟩, -⟩ := six_cells D0
    have kD0_l := lies.lt D0
    obtain ⟨⟨kD1_0, kD1_1, kD1_2, kD1_3, kD1_4, kD1_5⟩, -⟩ := six_cells D1
    have kD1_l := lies.lt D1
    go_wp2_with (at_builtin; refine dref.append_run2 rfl (.const (.slice none 0 0)) (.tmp 21) 28 rfl _ _ _ _ rfl rfl HRUN.out ?_; clear HRUN)
    clear hX h5i kD0_0 kD0_1 kD0_2 kD0_3 kD0_4 kD0_5 kD0_l kD1_0 kD1_1 kD1_2 kD1_3 kD1_4 kD1_5 kD1_l
    refine (minus.minus_any a0 a1 a2 a3 a4 a5 b0 b1 b2 b3 b4 b5 wq P0 TA.out TB.out).mono ?_
    rintro e w1 ⟨hB, v1, r1, f1, rfl, hR, hO⟩
    have hZ := zs_own hO
    obtain ⟨p1, q1, rfl⟩ := zs_len hZ
    have HV1 := Lib.hid hZ
    have HR1 := Lib.hid hR
    clear hZ hO hR
    replace D0 := lies.on_call D0 hB
    replace D1 := lies.on_call D1 hB
    replace HI := Lib.hid ((HI.out.below hB).mono hB.size)
    replace HW := Lib.hid ((HW.out.below hB).mono hB.size)
    replace P0 := P0.on hB
    replace DB := later DB hB
    clear hB
    obtain ⟨⟨kD0_0, kD0_1, kD0_2, kD0_3, kD0_4, kD0_5⟩, -⟩ := six_cells D0
    have kD0_l := lies.lt D0
    obtain ⟨⟨kD1_0, kD1_1, kD1_2, kD1_3, kD1_4, kD1_5⟩, -⟩ := six_cells D1
    have kD1_l := lies.lt D1
    go_wp2_with fail
    clear kD0_0 kD0_1 kD0_2 kD0_3 kD0_4 kD0_5 kD0_l kD1_0 kD1_1 kD1_2 kD1_3 kD1_4 kD1_5 kD1_l
    refine (rminus_any a0 a1 a2 a3 a4 a5 b0 b1 b2 b3 b4 b5 w1 LA.out LB.out TA.out TB.out).mono ?_
    rintro e w2 ⟨hB, v2, r2, f2, rfl, hR, hO⟩
    obtain ⟨⟨rfl, rfl⟩, k6, kl⟩ := min_one rfl TA.out rfl TB.out HR1.out hR
    have hZ := zs_own hO
    obtain ⟨p2, q2, rfl⟩ := zs_len hZ
    have HV2 := Lib.hid hZ
    have HK6 := Lib.hid k6
    clear hZ hO hR HR1 k6
    replace D0 := lies.on_call D0 hB
    replace D1 := lies.on_call D1 hB
    replace HI := Lib.hid ((HI.out.below hB).mono hB.size)
    replace HW := Lib.hid ((HW.out.below hB).mono hB.size)
    replace HV1 := Lib.hid ((HV1.out.below hB).mono hB.size)
    replace P0 := P0.on hB
    replace DB := later DB hB
    clear hB
    obtain ⟨⟨kD0_0, kD0_1, kD0_2, kD0_3, kD0_4, kD0_5⟩, -⟩ := six_cells D0
    have kD0_l := lies.lt D0
    go_wp2_with fail
    clear kD0_0 kD0_1 kD0_2 kD0_3 kD0_4 kD0_5 kD0_l
    obtain ⟨WB, hWB⟩ : ∃ WB, WB = w2 := ⟨_, rfl⟩
    have HWB := HW
    rw [← hWB] at HWB
    have HIB := HI
    rw [← hWB] at HIB
    have hwb := DB.size
    rw [← hWB] at hwb
    refine (left_any a0 a1 a2 a3 a4 a5 vw l.length cw l w2 P0 TA.out HW.out H6.out rfl h5m).mono ?_
    rintro e w3 ⟨hB, v3, r3, f3, rfl, hR, hO⟩
    have hBB := hB
    rw [← hWB] at hBB hO
    have HBB := Lib.hid hBB
    have hZ := zs_own hO
    obtain ⟨p3, q3, rfl⟩ := zs_len hZ
    have HV3 := Lib.hid hZ
    have HR3 := Lib.hid hR
    have HO3 := Lib.hid hO
    clear hZ hO hR hBB
    replace D0 := lies.on_call D0 hB
    replace D1 := lies.on_call D1 hB
    replace HI := Lib.hid ((HI.out.below hB).mono hB.size)
    replace HW := Lib.hid ((HW.out.below hB).mono hB.size)
    replace HV1 := Lib.hid ((HV1.out.below hB).mono hB.size)
    replace HV2 := Lib.hid ((HV2.out.below hB).mono hB.size)
    replace P0 := P0.on hB
    replace DB := later DB hB
    clear hB
    obtain ⟨⟨kD0_0, kD0_1, kD0_2, kD0_3, kD0_4, kD0_5⟩, -⟩ := six_cells D0
    have kD0_l := lies.lt D0
    go_wp2_with fail
    clear kD0_0 kD0_1 kD0_2 kD0_3 kD0_4 kD0_5 kD0_l
    refine (rleft_any a0 a1 a2 a3 a4 a5 ao l.length cap l w3 LA.out TA.out HI.out H6.out HLO.out rfl h5m).mono ?_
    rintro e w4 ⟨hB, v4, r4, f4, rfl, hR, hO⟩
    replace HBB := Lib.hid (HBB.out.trans (hB.mono HBB.out.size))
    replace HO3 := Lib.hid (incl.own_call HO3.out hB)
    obtain ⟨⟨rfl, rfl⟩, k6, kl3⟩ := left_one rfl TA.out H6.out h5 HR3.out hR
    have hZ := zs_own hO
    obtain ⟨p4, q4, rfl⟩ := zs_len hZ
    have HV4 := Lib.hid hZ
    have HK63 := Lib.hid k6
    clear hZ hO hR HR3 k6
    replace D0 := lies.on_call D0 hB
    replace D1 := lies.on_call D1 hB
    replace HI := Lib.hid ((HI.out.below hB).mono hB.size)
    replace HW := Lib.hid ((HW.out.below hB).mono hB.size)
    replace HV1 := Lib.hid ((HV1.out.below hB).mono hB.size)
    replace HV2 := Lib.hid ((HV2.out.below hB).mono hB.size)
    replace HV3 := Lib.hid ((HV3.out.below hB).mono hB.size)
    replace P0 := P0.on hB
    replace DB := later DB hB
    clear hB
    clear h5 D0 D1
    go_wp2_with fail
    refine (same_yes p1 p2 r2.length q1 q2 r2 w4 HV1.out HV2.out rfl kl HK6.out).mono ?_
    rintro e w5 ⟨rfl, hB⟩
    replace HBB := Lib.hid (HBB.out.trans (hB.mono HBB.out.size))
    replace HO3 := Lib.hid (incl.own_call HO3.out hB)
    replace HI := Lib.hid ((HI.out.below hB).mono hB.size)
    replace HW := Lib.hid ((HW.out.below hB).mono hB.size)
    replace HV1 := Lib.hid ((HV1.out.below hB).mono hB.size)
    replace HV2 := Lib.hid ((HV2.out.below hB).mono hB.size)
    replace HV3 := Lib.hid ((HV3.out.below hB).mono hB.size)
    replace HV4 := Lib.hid ((HV4.out.below hB).mono hB.size)
    replace P0 := P0.on hB
    replace DB := later DB hB
    clear hB
    go_wp2_with fail
    refine (same_yes p3 p4 r4.length q3 q4 r4 w5 HV3.out HV4.out rfl kl3 HK63.out).mono ?_
    rintro e w6 ⟨rfl, hB⟩
    replace HBB := Lib.hid (HBB.out.trans (hB.mono HBB.out.size))
    replace HO3 := Lib.hid (incl.own_call HO3.out hB)
    replace HI := Lib.hid ((HI.out.below hB).mono hB.size)
    replace HW := Lib.hid ((HW.out.below hB).mono hB.size)
    replace HV1 := Lib.hid ((HV1.out.below hB).mono hB.size)
    replace HV2 := Lib.hid ((HV2.out.below hB).mono hB.size)
    replace HV3 := Lib.hid ((HV3.out.below hB).mono hB.size)
    replace HV4 := Lib.hid ((HV4.out.below hB).mono hB.size)
    replace P0 := P0.on hB
    replace DB := later DB hB
    clear hB
    have hbump := bump_of HO3.out
    have hline : ∀ g, (Value.slice p3 r4.length q3).ownBlock = some g → WB.heap.size ≤ g := fun g e => (HO3.out.lt g e).1
    have HBU := Lib.hid hbump
    have HLI := Lib.hid hline
    have hBB := HBB.out
    clear hbump hline HO3 HBB HV1 HV2 HV3 HV4 HI HW
    go_wp2_with fail
    go_loopw [17] (fun i wr => ∃ k : Nat, k ≤ r4.length ∧ i = .int .i64 k ∧ Below WB.heap.size WB wr ∧ Below w.heap.size w wr ∧ Bump wr (.slice p3 r4.length q3) r4.length) (fun i _ => r4.length - (intOf i).toNat)
    case atStart => exact ⟨0, Nat.zero_le _, rfl, hBB, DB, HBU.out⟩
    case round =>
      clear hBB DB P0 HBU
      obtain ⟨k, hk, rfl, hBB, DB, hbu⟩ := hrel
      by_cases hkn : k < r4.length
      · skip
        obtain ⟨g, c3, cur, e3, hgc, hcc⟩ := hbu k hkn
        cases e3
        obtain ⟨x, hx⟩ := hcc k hkn
        obtain ⟨k0, k1, k2⟩ := cell_is hgc hx
        have hgl := HLI.out g rfl
        have HGC := Lib.hid hgc
        have HCC := Lib.hid hcc
        clear hgc hcc hx hbu
        have DB0 := DB
        have hBB0 := hBB
        go_wp2_with fail
        have d0 : wr.drew.cell? ⟨g, k * 6, none⟩ = some (.int .i64 x) := k0
        have d1 : wr.drew.frozen? ⟨g, k * 6, none⟩ = false := k1
        have d2 : g < wr.drew.heap.size := k2
        refine wp_region_held_drew (S := Below WB.heap.size WB) (by kernel_rfl) (dbm.drawn1 hBB0) (fun hHeld => ?_)
        refine wpAnyH_take (i := 0) (v := ?_) rfl (by kernel_rfl) (by kernel_rfl) (by kernel_rfl) (fun _ _ _ h => h) (Or.inl ⟨by rfl, ?_⟩) hHeld ?_
        rotate_left
        · intro w hSw; skip; go_simp; try with_reducible rfl
        try simp only [Act.put, List.getElem_toArray, List.getElem_cons_zero, List.getElem_cons_succ, List.setIfInBounds_toArray, List.set_cons_zero, List.set_cons_succ]
        refine wpAnyH_take (i := 1) (v := ?_) rfl (by kernel_rfl) (by kernel_rfl) (by kernel_rfl) (fun _ _ _ h => h) (Or.inl ⟨by rfl, ?_⟩) hHeld ?_
        rotate_left
        · intro w hSw; skip; go_simp; try with_reducible rfl
        try simp only [Act.put, List.getElem_toArray, List.getElem_cons_zero, List.getElem_cons_succ, List.setIfInBounds_toArray, List.set_cons_zero, List.set_cons_succ]
        refine wpAnyH_take (i := 2) (v := ?_) rfl (by kernel_rfl) (by kernel_rfl) (by kernel_rfl) (fun _ _ _ h => h) (Or.inl ⟨by rfl, ?_⟩) hHeld ?_
        rotate_left
        · intro w hSw; skip; go_simp; try with_reducible rfl
        try simp only [Act.put, List.getElem_toArray, List.getElem_cons_zero, List.getElem_cons_succ, List.setIfInBounds_toArray, List.set_cons_zero, List.set_cons_succ]
        refine wpAnyH_take (i := 3) (v := ?_) rfl (by kernel_rfl) (by kernel_rfl) (by kernel_rfl) (fun _ _ _ h => h) (Or.inl ⟨by rfl, ?_⟩) hHeld ?_
        rotate_left
        · intro w hSw; skip; go_simp; try with_reducible rfl
        try simp only [Act.put, List.getElem_toArray, List.getElem_cons_zero, List.getElem_cons_succ, List.setIfInBounds_toArray, List.set_cons_zero, List.set_cons_succ]
        refine wpAnyH_take (i := 6) (v := ?_) rfl (by kernel_rfl) (by kernel_rfl) (by kernel_rfl) (fun _ _ _ h => h) (Or.inl ⟨by rfl, ?_⟩) hHeld ?_
        rotate_left
        · intro w hSw; skip; go_simp; try with_reducible rfl
        try simp only [Act.put, List.getElem_toArray, List.getElem_cons_zero, List.getElem_cons_succ, List.setIfInBounds_toArray, List.set_cons_zero, List.set_cons_succ]
        refine wpAnyH_ready (rs := [4]) (by kernel_rfl) (by simp) (AllReadyH.cons rfl (fun K hK => ?_) AllReadyH.nil)
        go_simp
        refine hK.out _ _ hHeld (fun hNew => ?_)
        clear hHeld hK K
        have hHeld := hNew
        clear hNew
        try simp only [Act.put, List.getElem_toArray, List.getElem_cons_zero, List.getElem_cons_succ, List.setIfInBounds_toArray, List.set_cons_zero, List.set_cons_succ]
        refine wpAnyH_take (i := 5) (v := ?_) rfl (by kernel_rfl) (by kernel_rfl) (by kernel_rfl) (fun _ _ _ h => h) (Or.inl ⟨by rfl, ?_⟩) hHeld ?_
        rotate_left
        · intro w hSw; skip; go_simp; try with_reducible rfl
        try simp only [Act.put, List.getElem_toArray, List.getElem_cons_zero, List.getElem_cons_succ, List.setIfInBounds_toArray, List.set_cons_zero, List.set_cons_succ]
        refine wpAnyH_take (i := 7) (v := ?_) rfl (by kernel_rfl) (by kernel_rfl) (by kernel_rfl) (fun _ _ _ h => h) (Or.inl ⟨by rfl, ?_⟩) hHeld ?_
        rotate_left
        · intro w hSw; skip; go_simp; try with_reducible rfl
        try simp only [Act.put, List.getElem_toArray, List.getElem_cons_zero, List.getElem_cons_succ, List.setIfInBounds_toArray, List.set_cons_zero, List.set_cons_succ]
        refine wpAnyH_ready (rs := [8]) (by kernel_rfl) (by simp) (AllReadyH.cons rfl (fun K hK => ?_) AllReadyH.nil)
        go_simp
        refine hK.out _ _ (hHeld.setCell (p := ⟨g, k * 6, none⟩) hgl _) (fun hNew => ?_)
        clear hHeld hK K
        have hHeld := hNew
        clear hNew
        try simp only [Act.put, List.getElem_toArray, List.getElem_cons_zero, List.getElem_cons_succ, List.setIfInBounds_toArray, List.set_cons_zero, List.set_cons_succ]
        refine wpAnyH_done (by kernel_rfl) ?_ _
        have DB2 := dbm.drawn1 (DB0.setCell (p := ⟨g, k * 6, none⟩) (Nat.le_trans hwb hgl) (.int .i64 (IntKind.i64.wrap (x + 1))))
        have hbu2 : Bump (wr.setCell ⟨g, k * 6, none⟩ (.int .i64 (IntKind.i64.wrap (x + 1)))).drew (.slice (some ⟨g, 0, none⟩) r4.length q3) r4.length := bump_put (W := wr) (k := k) (cap := q3) (x := IntKind.i64.wrap (x + 1)) HGC.out HCC.out
        generalize (wr.setCell ⟨g, k * 6, none⟩ (.int .i64 (IntKind.i64.wrap (x + 1)))).drew = wZ at hHeld DB2 hbu2 ⊢
        clear d0 d1 d2 k0 k1 k2 DB DB0 hBB hBB0
        go_wp2_with fail
        go_roundw
        case rel => exact ⟨k + 1, by omega, by go_num, hHeld, DB2, hbu2⟩
        case measure => simp [intOf]; omega
      · skip
        obtain rfl : k = r4.length := by omega
        clear hbu
        have HI2 := Lib.hid ((HIB.out.below hBB).mono hBB.size)
        have HW2 := Lib.hid ((HWB.out.below hBB).mono hBB.size)
        clear hBB HIB HWB
        go_wp2_with fail
        refine (same_yes vw ao l.length cw cap l wr HW2.out HI2.out rfl h5m H66.out).mono ?_
        rintro e w7 ⟨rfl, hB⟩
        replace DB := later DB hB
        clear hB
        go_wp2_with fail
        go_ret
        exact ⟨rfl, DB⟩
  · skip
    have h5i : (5 : Int) < (l.length : Int) := by omega
    clear h5
    go_enter Tryd.func4, Tryd.ntmps4
    go_wp2_with fail
    go_ret
    exact ⟨rfl, hX ▸ DB⟩

set_option maxRecDepth 100000 in
theorem lifted (os : Os) (started : os.Started) (H : Type) (enc : TypeId × Value → H) :
    ReturnsInHanded {} Tryd.checked os 4 .any (fun w args => (Rows.minusTellsSpec.pre enc Tryd.prog Tryd.f4 [] false w args ∧ laidMetH Tryd.prog zopen.places w) ∧ sizedMet enc Tryd.prog Tryd.f4 (OpenSpec.ofChange Rows.minusTellsSpec) false w args) (Rows.minusTellsSpec.post enc Tryd.prog Tryd.f4 false true false false) := by
  refine returnsInHanded_of_change_and (C := Tryd.checked) (X := fun w _ => laidMetH Tryd.prog zopen.places w) (fun _ _ _ hh h => h.of_heap hh) law.own started (by kernel_rfl) Tryd.func4
    (ChangeSpec.witness_shaped (enc := enc) (C := Tryd.checked) (os := os) (X := fun w _ => laidMetH Tryd.prog zopen.places w) false (World.doorLaid Tryd.prog 400 os) #[.agg #[.int .i64 0, .int .i64 0, .int .i64 0, .int .i64 0, .int .i64 0, .int .i64 0], .agg #[.int .i64 0, .int .i64 0, .int .i64 0, .int .i64 0, .int .i64 0, .int .i64 0], .slice none 0 0] 8 rfl (World.shaped_of_RefB (by kernel_rfl) (by kernel_rfl)) (by kernel_rfl) (by kernel_rfl) (by kernel_rfl) (zopen.door_met os _)) ?_
  intro W base args ds gs before hval0 hW _ _ hL _
  have hval : ∀ (j : Nat) t v, Tryd.f4.params[j]? = some t → args[j]? = some v → Value.okWide Tryd.prog W .any base t v := hval0
  have hW' := hW
  obtain ⟨p, q, hA0, hV, rfl, _, _⟩ := hW
  have hA : DataW.TrodAll enc Tryd.prog W 0 (fun _ => true) true Tryd.f4.params.toList args.toList ds p := hA0
  rw [Tryd.params4] at hA hval
  obtain ⟨v0, vs0, d0, ds0, p0, q0, hargs, rfl, rfl, h0, r0⟩ := trodAll_cons hA
  obtain ⟨v1, vs1, d1, ds1, p1, q1, rfl, rfl, rfl, h1, r1⟩ := trodAll_cons r0
  obtain ⟨v2, vs2, d2, ds2, p2, q2, rfl, rfl, rfl, h2, r2⟩ := trodAll_cons r1
  obtain ⟨rfl, rfl, rfl⟩ := trodAll_nil r2
  obtain rfl : args = #[v0, v1, v2] := by cases args; simp_all
  obtain ⟨z00, z01, z02, z03, z04, z05, rfl, w0⟩ := zopen.open_zone (hval 0 24 v0 rfl rfl) h0
  obtain ⟨z10, z11, z12, z13, z14, z15, rfl, w1⟩ := zopen.open_zone (hval 1 24 v1 rfl rfl) h1
  obtain ⟨l2, x2, hI2, m2, c2⟩ := mz.open_zones (hval 2 28 v2 rfl rfl) h2
  refine (walk z00 z01 z02 z03 z04 z05 z10 z11 z12 z13 z14 z15 v2 l2 W (fun x hx => ⟨law.wf_lo (w0 x hx), law.wf_hi (w0 x hx)⟩) (fun x hx => ⟨law.wf_lo (w1 x hx), law.wf_hi (w1 x hx)⟩) x2 hI2 m2 c2 (zopen.laid_pl hL)).mono fun e W' ⟨he, hB⟩ => ?_
  subst he
  exact ⟨_, rfl, law.post_true law.laidOut (by kernel_rfl) rfl Tryd.underlying4 rfl hW' (fun h => by subst h; rfl) hB⟩

theorem proved : Rows.MinusTellsSaid :=
  OpenClaim.holds_of_wide 4 Tryd.f4 rfl rfl rfl rfl rfl rfl rfl ⟨rfl, rfl, rfl, rfl, rfl⟩ rfl rfl rfl rfl rfl (by kernel_rfl) Tryd.func4 (by kernel_rfl)
    (of_decide_eq_true (by kernel_rfl)) (by unfold Func.isWrapper; first | (rw [if_pos (by decide +kernel)]; kernel_rfl) | (rw [if_neg (by decide +kernel)]; exact ⟨rfl, rfl⟩))
    (fun os started H enc _ => lifted os started H enc)
theorem card : Rows.MinusTellsCardSaid :=
  Claim7.holds_tied_plain_at .later [] [.data] true (true, "63052b61decf7e22cc573bd623194e0d9c99a30bfaeca1484cbb133092540983") false
    proved (fun _ h => by cases h) (by kernel_rfl) (fun _ h => by cases h) minusTells_row_tie rfl ⟨rfl, rfl⟩ (by kernel_rfl) rfl
    (fun f fn hf hfn => by
      obtain rfl : f = 4 := Option.some.inj ((show Tryd.prog.funcNamed "rallentando/rallentandolaw11.MinusTells" = some 4 by kernel_rfl).symm.trans hf) |>.symm
      obtain rfl : fn = Tryd.f4 := (Option.some.inj (Tryd.func4.symm.trans hfn)).symm
      exact ⟨by kernel_rfl, fun j t ht => by
        rw [Tryd.params4] at ht
        have hm : t ∈ [24, 24, 28] := by simpa using Array.mem_of_getElem? ht
        have hall : ([24, 24, 28].all fun u => !Tryd.prog.wantsStandIn u) = true := by kernel_rfl
        exact (show Tryd.prog.wantsStandIn t = false by simpa using List.all_eq_true.1 hall t hm)⟩)
    (by kernel_rfl)
#print axioms card
end Go.Proofs.YtkfnjdmjojodhaaDoor.minusTells
