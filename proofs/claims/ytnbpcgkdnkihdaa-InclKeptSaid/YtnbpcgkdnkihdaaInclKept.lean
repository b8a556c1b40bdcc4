/-
  InclKept answers true for every two matrices and times; no condition.
-/
import Derived.Test.YtnbpcgkdnkihdaaInclF
import Derived.Test.YtnbpcgkdnkihdaaInclH
import Derived.BigQuiet
namespace Go.Proofs.Ytnbpcgkdnkihdaa.inclKept
open Go.Joins Go.ChangeShapes Go.WideShapes Go.ChangeAt Go.RowKit num dbm Go.Proofs.Ytnbpcgkdnkihdaa.incl ilaw Go.Proofs.Ytnbpcgkdnkihdaa.tlaw Go.Proofs.Ytnbpcgkdnkihdaa.tkept
open bound hiding up
set_option linter.unusedVariables false
set_option linter.unusedSimpArgs false

theorem askE_comm (n m : Int) (ts us : List Int) : askE m n us ts = askE n m ts us := by
  unfold askE
  by_cases h : MayD n ts ∧ MayD m us
  · rw [if_pos h, if_pos ⟨h.2, h.1⟩]
    by_cases e : n = m
    · rw [if_pos e, if_pos e.symm]
    · rw [if_neg e, if_neg (fun k => e k.symm)]
  · rw [if_neg h, if_neg (fun k => h ⟨k.2, k.1⟩)]
set_option maxRecDepth 100000 in
set_option maxHeartbeats 2000000 in
theorem walk_far (n m : Int) (sv tv rv : Value) (ts us : List Int) (rs : List (Int × Int)) (w : World) (hI : law.Ints w.heap.size w sv ts) (hJ : law.Ints w.heap.size w tv us) (hR : Rats w.heap.size w rv rs) (h : 1000 < ts.length ∨ (ts.length ≤ 1000 ∧ 1000 < us.length) ∨ (ts.length ≤ 1000 ∧ us.length ≤ 1000 ∧ 100 < rs.length)) :
    Calls Try.prog 6 #[.agg #[.int .i64 n, sv], .agg #[.int .i64 m, tv], rv] w fun e w' => e = .returned (.bool true) ∧ Below w.heap.size w w' := by
  have S := st2 n m sv tv ts us w hI hJ
  obtain ⟨ad, cap, rfl⟩ := ints_len hI
  obtain ⟨bd, dap, rfl⟩ := ints_len hJ
  obtain ⟨rd, rap, rfl⟩ := rats_len hR
  clear hI hJ hR
  rcases h with h | ⟨h1, h⟩ | ⟨h1, h2, h⟩
  · have t9 : (1000 : Int) < ts.length := by omega
    clear h
    go_enter Try.func6, Try.ntmps6
    go_wp2_with fail
    generalize (w.alloc (.cells #[.int .i64 n, .slice ad ts.length cap] 27)).alloc (.cells #[.int .i64 m, .slice bd us.length dap] 27) = v0 at S ⊢
    refine (alive_yes _).mono ?_
    rintro e v1 ⟨rfl, hB⟩
    replace S := S.below hB
    clear hB
    obtain ⟨x0, x1, x2, x3, x4⟩ := lies.two S.tail.head.1
    obtain ⟨y0, y1, y2, y3, y4⟩ := lies.two S.head.1
    go_wp2_with fail
    clear x0 x1 x2 x3 x4 y0 y1 y2 y3 y4
    go_ret
    exact ⟨rfl, S.1⟩
  · have t1 : ¬ (1000 : Int) < ts.length := by omega
    have t9 : (1000 : Int) < us.length := by omega
    clear h h1
    go_enter Try.func6, Try.ntmps6
    go_wp2_with fail
    generalize (w.alloc (.cells #[.int .i64 n, .slice ad ts.length cap] 27)).alloc (.cells #[.int .i64 m, .slice bd us.length dap] 27) = v0 at S ⊢
    refine (alive_yes _).mono ?_
    rintro e v1 ⟨rfl, hB⟩
    replace S := S.below hB
    clear hB
    obtain ⟨x0, x1, x2, x3, x4⟩ := lies.two S.tail.head.1
    obtain ⟨y0, y1, y2, y3, y4⟩ := lies.two S.head.1
    go_wp2_with fail
    clear x0 x1 x2 x3 x4 y0 y1 y2 y3 y4
    go_ret
    exact ⟨rfl, S.1⟩
  · have t1 : ¬ (1000 : Int) < ts.length := by omega
    have t2 : ¬ (1000 : Int) < us.length := by omega
    have t9 : (100 : Int) < rs.length := by omega
    clear h h1 h2
    go_enter Try.func6, Try.ntmps6
    go_wp2_with fail
    generalize (w.alloc (.cells #[.int .i64 n, .slice ad ts.length cap] 27)).alloc (.cells #[.int .i64 m, .slice bd us.length dap] 27) = v0 at S ⊢
    refine (alive_yes _).mono ?_
    rintro e v1 ⟨rfl, hB⟩
    replace S := S.below hB
    clear hB
    obtain ⟨x0, x1, x2, x3, x4⟩ := lies.two S.tail.head.1
    obtain ⟨y0, y1, y2, y3, y4⟩ := lies.two S.head.1
    go_wp2_with fail
    clear x0 x1 x2 x3 x4 y0 y1 y2 y3 y4
    go_ret
    exact ⟨rfl, S.1⟩
set_option maxRecDepth 100000 in
set_option maxHeartbeats 8000000 in
theorem walk_in (n m : Int) (sv tv rv : Value) (ts us : List Int) (rs : List (Int × Int)) (w : World) (hI : law.Ints w.heap.size w sv ts) (hJ : law.Ints w.heap.size w tv us) (hR : Rats w.heap.size w rv rs) (hi : IntsR rs) (h1 : ts.length ≤ 1000) (h2 : us.length ≤ 1000) (h3 : rs.length ≤ 100) (htop : Tops ts) (hto : Tops us) :
    Calls Try.prog 6 #[.agg #[.int .i64 n, sv], .agg #[.int .i64 m, tv], rv] w fun e w' => e = .returned (.bool true) ∧ Below w.heap.size w w' := by
  have S := st2 n m sv tv ts us w hI hJ
  obtain ⟨ad, cap, rfl⟩ := ints_len hI
  obtain ⟨bd, dap, rfl⟩ := ints_len hJ
  obtain ⟨rd, rap, rfl⟩ := rats_len hR
  have t1 : ¬ (1000 : Int) < ts.length := by omega
  have t2 : ¬ (1000 : Int) < us.length := by omega
  have t3 : ¬ (100 : Int) < rs.length := by omega
  have HT := Lib.hid htop
  have HU := Lib.hid hto
  have HR := Lib.hid hR
  have HII := Lib.hid hi
  clear hI hJ hR htop hto hi
  obtain ⟨ev, hev⟩ : ∃ z, askE n m ts us = z := ⟨_, rfl⟩
  have HE := Lib.hid hev
  clear hev
  go_enter Try.func6, Try.ntmps6
  go_wp2_with fail
  generalize (w.alloc (.cells #[.int .i64 n, .slice ad ts.length cap] 27)).alloc (.cells #[.int .i64 m, .slice bd us.length dap] 27) = v0 at S ⊢
  refine (alive_yes _).mono ?_
  rintro e v1 ⟨rfl, hB⟩
  replace S := S.below hB
  clear hB
  obtain ⟨x0, x1, x2, x3, x4⟩ := lies.two S.tail.head.1
  obtain ⟨y0, y1, y2, y3, y4⟩ := lies.two S.head.1
  go_wp2_with fail
  clear x0 x1 x2 x3 x4 y0 y1 y2 y3 y4
  refine (in_any n m _ _ ts us _ S.tail.head.2 S.head.2 (by omega) (by omega) HT.out HU.out).mono ?_
  intro e v hp
  obtain ⟨hB, x, rfl, hx⟩ := asks_told hp
  replace S := S.below hB
  rw [HE.out] at hx ⊢
  have HX := Lib.hid hx
  clear hB hp hx
  obtain ⟨x0, x1, x2, x3, x4⟩ := lies.two S.tail.head.1
  obtain ⟨y0, y1, y2, y3, y4⟩ := lies.two S.head.1
  go_wp2_with fail
  clear x0 x1 x2 x3 x4 y0 y1 y2 y3 y4
  refine (in_any m n _ _ us ts _ S.head.2 S.tail.head.2 (by omega) (by omega) HU.out HT.out).mono ?_
  intro e v hp
  obtain ⟨hB, y, rfl, hy⟩ := asks_told hp
  replace S := S.below hB
  rw [askE_comm, HE.out] at hy ⊢
  have HY := Lib.hid hy
  clear hB hp hy
  obtain ⟨x0, x1, x2, x3, x4⟩ := lies.two S.tail.head.1
  obtain ⟨y0, y1, y2, y3, y4⟩ := lies.two S.head.1
  go_wp2_with fail
  clear x0 x1 x2 x3 x4 y0 y1 y2 y3 y4
  refine (ap_any n m _ _ ts us _ S.tail.head.2 S.head.2 (by omega) (by omega) HT.out HU.out).mono ?_
  intro e v hp
  obtain ⟨hB, z, rfl, hz⟩ := asks_told hp
  replace S := S.below hB
  rw [HE.out] at hz ⊢
  have HZ := Lib.hid hz
  clear hB hp hz
  by_cases c1 : ev = 0
  · subst c1
    obtain ⟨ma, mb, e1, hx⟩ := HX.out rfl
    obtain ⟨_, _, _, hy⟩ := HY.out rfl
    obtain ⟨_, _, _, hz⟩ := HZ.out rfl
    subst e1
    have HMA := Lib.hid ma
    have HMB := Lib.hid mb
    have HXX := Lib.hid hx
    have HYY := Lib.hid hy
    have HZZ := Lib.hid hz
    clear ma mb hx hy hz HX HY HZ HE
    obtain ⟨x0, x1, x2, x3, x4⟩ := lies.two S.tail.head.1
    obtain ⟨y0, y1, y2, y3, y4⟩ := lies.two S.head.1
    go_wp2_with fail
    clear x0 x1 x2 x3 x4 y0 y1 y2 y3 y4
    refine (dkeeps_any n _ _ ts rs _ S.tail.head.2 (by omega) HT.out ((HR.out.below S.1).mono S.1.size) HII.out (by omega)).mono ?_
    rintro e v ⟨hB, r1, k1, rfl, hc⟩
    replace S := S.below hB
    have HC1 := Lib.hid hc
    clear hB hc
    obtain ⟨x0, x1, x2, x3, x4⟩ := lies.two S.tail.head.1
    obtain ⟨y0, y1, y2, y3, y4⟩ := lies.two S.head.1
    go_wp2_with fail
    clear x0 x1 x2 x3 x4 y0 y1 y2 y3 y4
    refine (dkeeps_any n _ _ us rs _ S.head.2 (by omega) HU.out ((HR.out.below S.1).mono S.1.size) HII.out (by omega)).mono ?_
    rintro e v ⟨hB, r2, k2, rfl, hc⟩
    replace S := S.below hB
    have HC2 := Lib.hid hc
    clear hB hc
    by_cases d1 : k1 = 0
    · by_cases d2 : k2 = 0
      · subst d1 d2
        obtain ⟨mt, hl, hr1⟩ : MayT rs ∧ (rs.length : Int) = n - 1 ∧ (r1 = true ↔ keptAll n.toNat ts ((0, 1) :: rs)) := by
          rcases HC1.out with ⟨h, _⟩ | ⟨h, _⟩ | ⟨_, _, h⟩
          · exact absurd h (by decide)
          · exact absurd h (by decide)
          · exact h
        have hr2 : r2 = true ↔ keptAll n.toNat us ((0, 1) :: rs) := by
          rcases HC2.out with ⟨h, _⟩ | ⟨h, _⟩ | ⟨_, _, _, _, h⟩
          · exact absurd h (by decide)
          · exact absurd h (by decide)
          · exact h
        obtain ⟨q, rfl, h0, hn, hlt⟩ := may_nat HMA.out
        have hlu := may_len HMB.out
        rw [Int.toNat_natCast] at hr1 hr2
        have hqm := (with_zero HII.out mt).2
        have hqn : ((0, 1) :: rs).length = q := by simp; omega
        have hfin : (r1 = false ∧ r2 = false) ∨ (r1 = true ∧ r2 = true ∧ z = false) ∨ (r1 = true ∧ r2 = false ∧ x = false) ∨ (r1 = false ∧ r2 = true ∧ y = false) := by
          cases r1 with
          | false => cases r2 with
            | false => exact .inl ⟨rfl, rfl⟩
            | true =>
              refine .inr (.inr (.inr ⟨rfl, rfl, ?_⟩))
              cases y with
              | false => rfl
              | true =>
                have hk := hr2.1 rfl
                have ho : OkD q us := Classical.byContradiction fun hno => kept_no h0 hn hlu HU.out HMB.out hno hqm hqn hk
                have := hr1.2 (in_kept h0 hn hlu hlt HU.out HT.out ho HMA.out hqm hqn (HYY.out.1 rfl) hk)
                cases this
          | true =>
            have hk := hr1.1 rfl
            cases r2 with
            | true =>
              refine .inr (.inl ⟨rfl, rfl, ?_⟩)
              cases z with
              | false => rfl
              | true => exact (ap_kept h0 hn hlt hlu HT.out HU.out HMA.out HMB.out hqm hqn (HZZ.out.1 rfl) ⟨hk, hr2.1 rfl⟩).elim
            | false =>
              refine .inr (.inr (.inl ⟨rfl, rfl, ?_⟩))
              cases x with
              | false => rfl
              | true =>
                have ho : OkD q ts := Classical.byContradiction fun hno => kept_no h0 hn hlt HT.out HMA.out hno hqm hqn hk
                have := hr2.2 (in_kept h0 hn hlt hlu HT.out HU.out ho HMB.out hqm hqn (HXX.out.1 rfl) hk)
                cases this
        have HFIN := Lib.hid hfin
        have HLT := Lib.hid hlt
        have HLU := Lib.hid hlu
        clear hl hr1 hr2 hqm hqn hfin mt HC1 HC2 hlt hlu HYY HII HR
        go_upto_region 13 with fail
        go_cut [123] from 22 (fun s123 wx => s123 = .bool false ∧ v = wx)
        case first =>
          have hf := HFIN.out
          clear HFIN HXX HZZ
          rcases hf with ⟨rfl, rfl⟩ | ⟨rfl, rfl, rfl⟩ | ⟨rfl, rfl, rfl⟩ | ⟨rfl, rfl, rfl⟩ <;> (try cases x) <;> (try cases y) <;> (try cases z) <;>
            (go_wp2_with fail
             go_meet
             exact ⟨rfl, rfl⟩)
        case rest =>
          obtain ⟨hs, hw⟩ := hcut
          subst hs
          subst hw
          clear HFIN
          obtain ⟨x0, x1, x2, x3, x4⟩ := lies.two S.tail.head.1
          obtain ⟨y0, y1, y2, y3, y4⟩ := lies.two S.head.1
          go_wp2_with fail
          clear x0 x1 x2 x3 x4 y0 y1 y2 y3 y4
          refine (pick_any q _ ts _ S.tail.head.2 (by omega) HT.out).mono ?_
          rintro e v2 ⟨hB, pv, pf, rfl, hP⟩
          replace S := S.below hB
          have HP := Lib.hid hP
          clear hB hP
          by_cases hok : OkD q ts
          · obtain ⟨rfl, hRR⟩ : pf = 0 ∧ Rats v2.heap.size v2 pv (pks q ts) := by
              rcases HP.out with ⟨k, _⟩ | ⟨_, h, q', e, h'⟩
              · exact (k hok).elim
              · obtain rfl : q = q' := by omega
                exact ⟨h, h'⟩
            obtain ⟨p1, p2, p3⟩ := pks_may h0 hn HLT.out HT.out hok
            have hIR : IntsR (pks q ts) := fun j hj => by have := p2 (j + 1) (by simpa using hj); rwa [pr_cons] at this
            have hMR : MayT (pks q ts) := fun j hj => by have := p1 (j + 1) (by simpa using hj); rwa [pr_cons] at this
            have hlen := pks_length q ts
            have hka := pks_kept h0 hn HLT.out HT.out hok
            have hin : x = true → keptAll q us ((0, 1) :: pks q ts) := fun k => pks_in h0 hn HLT.out HT.out hok HLU.out HU.out HMB.out (HXX.out.1 k)
            have hap : z = true → ¬ keptAll q us ((0, 1) :: pks q ts) := fun k k' => ap_kept h0 hn HLT.out HLU.out HT.out HU.out HMA.out HMB.out p1 p3 (HZZ.out.1 k) ⟨hka, k'⟩
            obtain ⟨va, vc, rfl⟩ := rats_len hRR
            have HRR := Lib.hid hRR
            have HIR := Lib.hid hIR
            have HMR := Lib.hid hMR
            have HLEN := Lib.hid hlen
            have HIN := Lib.hid hin
            have HAP := Lib.hid hap
            clear hok hRR hIR hMR hlen hka hin hap p1 p2 p3 HP HXX HZZ
            obtain ⟨x0, x1, x2, x3, x4⟩ := lies.two S.tail.head.1
            obtain ⟨y0, y1, y2, y3, y4⟩ := lies.two S.head.1
            go_wp2_with fail
            clear x0 x1 x2 x3 x4 y0 y1 y2 y3 y4
            refine (dkeeps_any q _ _ us (pks q ts) _ S.head.2 (by omega) HU.out HRR.out HIR.out (by rw [HLEN.out]; omega)).mono ?_
            rintro e v3 ⟨hB, r3, k3, rfl, hc⟩
            replace S := S.below hB
            obtain ⟨rfl, hr3⟩ : k3 = 0 ∧ (r3 = true ↔ keptAll q us ((0, 1) :: pks q ts)) := by
              rcases hc with ⟨_, _, h⟩ | ⟨_, _, _, _, h⟩ | ⟨h1, _, _, _, h2⟩
              · exact (h ⟨HMB.out, HMR.out⟩).elim
              · exact (h (by rw [HLEN.out]; omega)).elim
              · exact ⟨h1, h2⟩
            have hfin : (x = true ∧ r3 = true ∧ z = false) ∨ (x = false ∧ z = true ∧ r3 = false) ∨ (x = false ∧ z = false) := by
              cases x with
              | true =>
                have hk := HIN.out rfl
                refine .inl ⟨rfl, hr3.2 hk, ?_⟩
                cases z with
                | false => rfl
                | true => exact (HAP.out rfl hk).elim
              | false => cases z with
                | false => exact .inr (.inr ⟨rfl, rfl⟩)
                | true =>
                  refine .inr (.inl ⟨rfl, rfl, ?_⟩)
                  cases r3 with
                  | false => rfl
                  | true => exact (HAP.out rfl (hr3.1 rfl)).elim
            have hBB := S.1
            clear hB hc hr3 HIN HAP HRR HIR HMR HLEN S
            rcases hfin with ⟨rfl, rfl, rfl⟩ | ⟨rfl, rfl, rfl⟩ | ⟨rfl, rfl⟩ <;>
              (go_wp2_with fail
               all_goals
                 go_ret
                 exact ⟨rfl, hBB⟩)
          · obtain ⟨rfl, rfl⟩ : pv = .slice none 0 0 ∧ pf = 6 := by
              rcases HP.out with ⟨_, h, h'⟩ | ⟨k, _⟩
              · rw [if_pos HMA.out] at h'
                exact ⟨h, h'⟩
              · exact (hok k).elim
            obtain rfl : x = true := HXX.out.2 fun k => (hok k).elim
            obtain rfl : z = true := HZZ.out.2 fun k => hok (les_left HMA.out HMB.out HT.out HU.out k)
            have hBB := S.1
            clear hok HP HXX HZZ S
            go_wp2_with fail
            go_ret
            exact ⟨rfl, hBB⟩
      · have u1 : (k2 != 0) = true := by simpa using d2
        have u2 : (k2 == 0) = false := by simpa using d2
        subst d1
        have hBB := S.1
        clear HC1 HC2 S HXX HYY HZZ HMA HMB
        go_wp2_with fail
        go_ret
        exact ⟨rfl, hBB⟩
    · have u1 : (k1 != 0) = true := by simpa using d1
      have u2 : (k1 == 0) = false := by simpa using d1
      have hBB := S.1
      clear HC1 HC2 S HXX HYY HZZ HMA HMB
      go_wp2_with fail
      go_ret
      exact ⟨rfl, hBB⟩
  · have u1 : (ev != 0) = true := by simpa using c1
    have u2 : (ev == 0) = false := by simpa using c1
    have hBB := S.1
    clear HX HY HZ HE S
    go_wp2_with fail
    go_ret
    exact ⟨rfl, hBB⟩

theorem walk (n m : Int) (sv tv rv : Value) (ts us : List Int) (rs : List (Int × Int)) (w : World) (hI : law.Ints w.heap.size w sv ts) (hJ : law.Ints w.heap.size w tv us) (hR : Rats w.heap.size w rv rs) (hi : IntsR rs) (htop : Tops ts) (hto : Tops us) :
    Calls Try.prog 6 #[.agg #[.int .i64 n, sv], .agg #[.int .i64 m, tv], rv] w fun e w' => e = .returned (.bool true) ∧ Below w.heap.size w w' := by
  by_cases h : 1000 < ts.length ∨ (ts.length ≤ 1000 ∧ 1000 < us.length) ∨ (ts.length ≤ 1000 ∧ us.length ≤ 1000 ∧ 100 < rs.length)
  · exact walk_far n m sv tv rv ts us rs w hI hJ hR h
  · exact walk_in n m sv tv rv ts us rs w hI hJ hR hi (by omega) (by omega) (by omega) htop hto

set_option maxRecDepth 100000 in
theorem lifted (os : Os) (started : os.Started) (H : Type) (enc : TypeId × Value → H) :
    ReturnsInHanded {} Try.checked os 6 .any (Rows.inclKeptSpec.pre6 enc Try.prog Try.f6 Rows.inclKeptRow.domain false) (Rows.inclKeptSpec.post enc Try.prog Try.f6 false true false false) := by
  refine returnsInHanded_of_change (C := Try.checked) law.own started (by kernel_rfl) Try.func6
    (ChangeSpec.witness6 (enc := enc) (C := Try.checked) false ⟨#[], #[.agg #[.int .i64 0, .slice none 0 0], .agg #[.int .i64 0, .slice none 0 0], .slice none 0 0], []⟩ 8 (by kernel_rfl) (by kernel_rfl) (by kernel_rfl) (by kernel_rfl)) ?_
  intro W base args ds gs before hval0 hW _ _
  have hval : ∀ (j : Nat) t v, Try.f6.params[j]? = some t → args[j]? = some v → Value.okWide Try.prog W .any base t v := hval0
  have hW' := hW
  obtain ⟨p, q, hA0, hV, rfl, _, _⟩ := hW
  have hA : DataW.TrodAll enc Try.prog W 0 (fun _ => true) true Try.f6.params.toList args.toList ds p := hA0
  rw [Try.params6] at hA hval
  obtain ⟨v0, vs0, d0, ds0, p0, q0, hargs, rfl, rfl, h0, r0⟩ := trodAll_cons hA
  obtain ⟨v1, vs1, d1, ds1, p1, q1, rfl, rfl, rfl, h1, r1⟩ := trodAll_cons r0
  obtain ⟨v2, vs2, d2, ds2, p2, q2, rfl, rfl, rfl, h2, r2⟩ := trodAll_cons r1
  obtain ⟨rfl, rfl, rfl⟩ := trodAll_nil r2
  obtain rfl : args = #[v0, v1, v2] := by cases args; simp_all
  obtain ⟨n0, sv0, ts0, rfl, _, hwf0, hI0, _⟩ := dlaw.open_dbm (hval 0 27 v0 rfl rfl) h0
  obtain ⟨n1, sv1, ts1, rfl, _, hwf1, hI1, _⟩ := dlaw.open_dbm (hval 1 27 v1 rfl rfl) h1
  obtain ⟨rs2, hi2, hR2, _⟩ := open_rats (hval 2 30 v2 rfl rfl) h2
  refine (walk n0 n1 sv0 sv1 v2 ts0 ts1 rs2 W hI0 hI1 hR2 hi2 (fun z hz => law.wf_hi (hwf0 z hz)) (fun z hz => law.wf_hi (hwf1 z hz))).mono fun e W' ⟨he, hB⟩ => ?_
  subst he
  exact ⟨_, rfl, law.post_true law.laidOut (by kernel_rfl) rfl Try.underlying4 rfl hW' (fun h => by subst h; rfl) hB⟩

theorem proved : Rows.InclKeptSaid :=
  OpenClaim.holds_of_wide 6 Try.f6 rfl rfl rfl rfl rfl rfl rfl ⟨rfl, rfl, rfl, rfl, rfl⟩ rfl rfl rfl rfl rfl (by kernel_rfl) Try.func6 (by kernel_rfl)
    (of_decide_eq_true (by kernel_rfl)) (by unfold Func.isWrapper; first | (rw [if_pos (by decide +kernel)]; kernel_rfl) | (rw [if_neg (by decide +kernel)]; exact ⟨rfl, rfl⟩))
    (fun os started H enc _ => lifted os started H enc)
#print axioms proved
end Go.Proofs.Ytnbpcgkdnkihdaa.inclKept
