/-
  InclCommon answers true for every three matrices; no condition.
-/
import Derived.Test.YtnbpcgkdnkihdaaInclF
import Derived.Test.YtnbpcgkdnkihdaaInclH
import Derived.BigQuiet
namespace Go.Proofs.Ytnbpcgkdnkihdaa.inclCommon
open Go.Joins Go.ChangeShapes Go.WideShapes Go.ChangeAt Go.RowKit num dbm Go.Proofs.Ytnbpcgkdnkihdaa.incl ilaw Go.Proofs.Ytnbpcgkdnkihdaa.tlaw
open bound hiding up
set_option linter.unusedVariables false
set_option linter.unusedSimpArgs false

set_option maxRecDepth 100000 in
set_option maxHeartbeats 2000000 in
theorem walk_far (n m l : Int) (sv tv uv : Value) (ts us vs : List Int) (w : World) (hI : law.Ints w.heap.size w sv ts) (hJ : law.Ints w.heap.size w tv us) (hK : law.Ints w.heap.size w uv vs) (h : 1000 < ts.length ∨ (ts.length ≤ 1000 ∧ 1000 < us.length) ∨ (ts.length ≤ 1000 ∧ us.length ≤ 1000 ∧ 1000 < vs.length)) :
    Calls Try.prog 7 #[.agg #[.int .i64 n, sv], .agg #[.int .i64 m, tv], .agg #[.int .i64 l, uv]] w fun e w' => e = .returned (.bool true) ∧ Below w.heap.size w w' := by
  have S := st3 n m l sv tv uv ts us vs w hI hJ hK
  obtain ⟨ad, cap, rfl⟩ := ints_len hI
  obtain ⟨bd, dap, rfl⟩ := ints_len hJ
  obtain ⟨fd, fap, rfl⟩ := ints_len hK
  clear hI hJ hK
  rcases h with h | ⟨h1, h⟩ | ⟨h1, h2, h⟩
  · have t9 : (1000 : Int) < ts.length := by omega
    clear h
    go_enter Try.func7, Try.ntmps7
    go_wp2_with fail
    generalize ((w.alloc (.cells #[.int .i64 n, .slice ad ts.length cap] 27)).alloc (.cells #[.int .i64 m, .slice bd us.length dap] 27)).alloc (.cells #[.int .i64 l, .slice fd vs.length fap] 27) = v0 at S ⊢
    refine (alive_yes _).mono ?_
    rintro e v1 ⟨rfl, hB⟩
    replace S := S.below hB
    clear hB
    obtain ⟨x0, x1, x2, x3, x4⟩ := lies.two S.tail.tail.head.1
    obtain ⟨y0, y1, y2, y3, y4⟩ := lies.two S.tail.head.1
    obtain ⟨z0, z1, z2, z3, z4⟩ := lies.two S.head.1
    go_wp2_with fail
    clear x0 x1 x2 x3 x4 y0 y1 y2 y3 y4 z0 z1 z2 z3 z4
    go_ret
    exact ⟨rfl, S.1⟩
  · have t1 : ¬ (1000 : Int) < ts.length := by omega
    have t9 : (1000 : Int) < us.length := by omega
    clear h h1
    go_enter Try.func7, Try.ntmps7
    go_wp2_with fail
    generalize ((w.alloc (.cells #[.int .i64 n, .slice ad ts.length cap] 27)).alloc (.cells #[.int .i64 m, .slice bd us.length dap] 27)).alloc (.cells #[.int .i64 l, .slice fd vs.length fap] 27) = v0 at S ⊢
    refine (alive_yes _).mono ?_
    rintro e v1 ⟨rfl, hB⟩
    replace S := S.below hB
    clear hB
    obtain ⟨x0, x1, x2, x3, x4⟩ := lies.two S.tail.tail.head.1
    obtain ⟨y0, y1, y2, y3, y4⟩ := lies.two S.tail.head.1
    obtain ⟨z0, z1, z2, z3, z4⟩ := lies.two S.head.1
    go_wp2_with fail
    clear x0 x1 x2 x3 x4 y0 y1 y2 y3 y4 z0 z1 z2 z3 z4
    go_ret
    exact ⟨rfl, S.1⟩
  · have t1 : ¬ (1000 : Int) < ts.length := by omega
    have t2 : ¬ (1000 : Int) < us.length := by omega
    have t9 : (1000 : Int) < vs.length := by omega
    clear h h1 h2
    go_enter Try.func7, Try.ntmps7
    go_wp2_with fail
    generalize ((w.alloc (.cells #[.int .i64 n, .slice ad ts.length cap] 27)).alloc (.cells #[.int .i64 m, .slice bd us.length dap] 27)).alloc (.cells #[.int .i64 l, .slice fd vs.length fap] 27) = v0 at S ⊢
    refine (alive_yes _).mono ?_
    rintro e v1 ⟨rfl, hB⟩
    replace S := S.below hB
    clear hB
    obtain ⟨x0, x1, x2, x3, x4⟩ := lies.two S.tail.tail.head.1
    obtain ⟨y0, y1, y2, y3, y4⟩ := lies.two S.tail.head.1
    obtain ⟨z0, z1, z2, z3, z4⟩ := lies.two S.head.1
    go_wp2_with fail
    clear x0 x1 x2 x3 x4 y0 y1 y2 y3 y4 z0 z1 z2 z3 z4
    go_ret
    exact ⟨rfl, S.1⟩
set_option maxRecDepth 100000 in
set_option maxHeartbeats 8000000 in
theorem walk_in (n m l : Int) (sv tv uv : Value) (ts us vs : List Int) (w : World) (hI : law.Ints w.heap.size w sv ts) (hJ : law.Ints w.heap.size w tv us) (hK : law.Ints w.heap.size w uv vs) (h1 : ts.length ≤ 1000) (h2 : us.length ≤ 1000) (h3 : vs.length ≤ 1000) (htop : Tops ts) (hto : Tops us) (htv : Tops vs) :
    Calls Try.prog 7 #[.agg #[.int .i64 n, sv], .agg #[.int .i64 m, tv], .agg #[.int .i64 l, uv]] w fun e w' => e = .returned (.bool true) ∧ Below w.heap.size w w' := by
  have S := st3 n m l sv tv uv ts us vs w hI hJ hK
  obtain ⟨ad, cap, rfl⟩ := ints_len hI
  obtain ⟨bd, dap, rfl⟩ := ints_len hJ
  obtain ⟨fd, fap, rfl⟩ := ints_len hK
  have t1 : ¬ (1000 : Int) < ts.length := by omega
  have t2 : ¬ (1000 : Int) < us.length := by omega
  have t3 : ¬ (1000 : Int) < vs.length := by omega
  have HT := Lib.hid htop
  have HU := Lib.hid hto
  have HV := Lib.hid htv
  clear hI hJ hK htop hto htv
  obtain ⟨eab, heab⟩ : ∃ z, askE n m ts us = z := ⟨_, rfl⟩
  have Heab := Lib.hid heab
  clear heab
  go_enter Try.func7, Try.ntmps7
  go_wp2_with fail
  generalize ((w.alloc (.cells #[.int .i64 n, .slice ad ts.length cap] 27)).alloc (.cells #[.int .i64 m, .slice bd us.length dap] 27)).alloc (.cells #[.int .i64 l, .slice fd vs.length fap] 27) = v0 at S ⊢
  refine (alive_yes _).mono ?_
  rintro e v1 ⟨rfl, hB⟩
  replace S := S.below hB
  clear hB
  obtain ⟨x0, x1, x2, x3, x4⟩ := lies.two S.tail.tail.head.1
  obtain ⟨y0, y1, y2, y3, y4⟩ := lies.two S.tail.head.1
  obtain ⟨z0, z1, z2, z3, z4⟩ := lies.two S.head.1
  go_wp2_with fail
  clear x0 x1 x2 x3 x4 y0 y1 y2 y3 y4 z0 z1 z2 z3 z4
  refine (tight.meet_any n m _ _ ts us _ S.tail.tail.head.2 S.tail.head.2 (by omega) (by omega) HT.out HU.out).mono ?_
  rintro e v2 ⟨hB, mn, ma, ml, mc, ms, mf, rfl, hR, hK⟩
  replace S := S.below hB
  have S4 := S.add mn _ ms hK.ints
  have HM := Lib.hid hR
  clear hB hK hR
  obtain ⟨x0, x1, x2, x3, x4⟩ := lies.two S.tail.tail.head.1
  obtain ⟨y0, y1, y2, y3, y4⟩ := lies.two S.tail.head.1
  go_wp2_with fail
  clear x0 x1 x2 x3 x4 y0 y1 y2 y3 y4 S
  generalize v2.heap.size = MB at S4 ⊢
  generalize v2.alloc (.cells #[.int .i64 mn, .slice ma ml mc] 27) = v3 at S4 ⊢
  refine (ap_any n m _ _ ts us _ S4.tail.tail.tail.head.2 S4.tail.tail.head.2 (by omega) (by omega) HT.out HU.out).mono ?_
  intro e v hp
  obtain ⟨hB, ap, rfl, hap⟩ := asks_told hp
  replace S4 := S4.below hB
  rw [Heab.out] at hap ⊢
  have HAP := Lib.hid hap
  clear hB hp hap
  obtain ⟨a00, a01, a02, a03, a04⟩ := lies.two S4.tail.tail.tail.head.1
  obtain ⟨a10, a11, a12, a13, a14⟩ := lies.two S4.tail.tail.head.1
  go_wp2_with fail
  clear a00 a01 a02 a03 a04 a10 a11 a12 a13 a14
  refine (in_any n m _ _ ts us _ S4.tail.tail.tail.head.2 S4.tail.tail.head.2 (by omega) (by omega) HT.out HU.out).mono ?_
  intro e v hp
  obtain ⟨hB, ii, rfl, hii⟩ := asks_told hp
  replace S4 := S4.below hB
  rw [Heab.out] at hii ⊢
  have HII := Lib.hid hii
  clear hB hp hii
  by_cases c1 : eab = 0
  · subst c1
    obtain ⟨ma', mb', e1, hap⟩ := HAP.out rfl
    obtain ⟨_, _, _, hii⟩ := HII.out rfl
    subst e1
    have hA : tight.Ans n (lesT ts us) mn ms mf := by
      rcases HM.out with ⟨h, _⟩ | ⟨q, h, h'⟩
      · unfold tight.meetQ at h
        rw [if_pos ⟨ma', mb', rfl⟩] at h
        cases h
      · unfold tight.meetQ at h
        rw [if_pos ⟨ma', mb', rfl⟩] at h
        cases h
        exact h'
    have HMA := Lib.hid ma'
    have HMB := Lib.hid mb'
    clear HM HAP HII ma' mb' Heab
    by_cases hok : OkD n (lesT ts us)
    · obtain ⟨e2, e3, e4⟩ : mn = n ∧ ms = clT n (lesT ts us) ∧ mf = 0 := by
        rcases hA with ⟨k, _⟩ | ⟨_, h⟩
        · exact (k hok).elim
        · exact h
      clear hA
      subst e2
      subst e4
      obtain rfl : ap = false := by
        cases ap with
        | false => rfl
        | true => exact (hap.1 rfl hok).elim
      have hmt : Tops ms := by rw [e3]; exact clT_tops (lesT_tops HT.out us)
      have hml : ms.length ≤ 1000 := by rw [e3, clT_length hok, lesT_length]; exact h1
      have HMT := Lib.hid hmt
      have HOK := Lib.hid hok
      have HE3 := Lib.hid e3
      have HI := Lib.hid hii
      clear hap hmt hok e3 hii
      by_cases hmm : MayD mn ms
      · have HMM := Lib.hid hmm
        clear hmm
        cases ii with
        | false =>
          obtain ⟨a00, a01, a02, a03, a04⟩ := lies.two S4.head.1
          go_wp2_with fail
          clear a00 a01 a02 a03 a04
          refine (check_ok mn _ ms _ S4.head.2 HMT.out HMM.out).mono ?_
          rintro e v ⟨rfl, hB⟩
          replace S4 := S4.below hB
          clear hB
          obtain ⟨a00, a01, a02, a03, a04⟩ := lies.two S4.head.1
          obtain ⟨a10, a11, a12, a13, a14⟩ := lies.two S4.tail.tail.tail.head.1
          go_wp2_with fail
          clear a00 a01 a02 a03 a04 a10 a11 a12 a13 a14
          refine (in_any mn mn _ _ ms ts _ S4.head.2 S4.tail.tail.tail.head.2 (by omega) (by omega) HMT.out HT.out).mono ?_
          intro e v hp
          obtain ⟨rfl, hB⟩ := asks_yes hp HMM.out HMA.out (by have := m_in HMA.out HMB.out HT.out HU.out HOK.out (HE3.out ▸ HMM.out); rw [HE3.out]; exact this.1)
          replace S4 := S4.below hB
          clear hB hp
          obtain ⟨a00, a01, a02, a03, a04⟩ := lies.two S4.head.1
          obtain ⟨a10, a11, a12, a13, a14⟩ := lies.two S4.tail.tail.head.1
          go_wp2_with fail
          clear a00 a01 a02 a03 a04 a10 a11 a12 a13 a14
          refine (in_any mn mn _ _ ms us _ S4.head.2 S4.tail.tail.head.2 (by omega) (by omega) HMT.out HU.out).mono ?_
          intro e v hp
          obtain ⟨rfl, hB⟩ := asks_yes hp HMM.out HMB.out (by have := m_in HMA.out HMB.out HT.out HU.out HOK.out (HE3.out ▸ HMM.out); rw [HE3.out]; exact this.2)
          replace S4 := S4.below hB
          clear hB hp
          obtain ⟨a00, a01, a02, a03, a04⟩ := lies.two S4.tail.tail.tail.head.1
          go_wp2_with fail
          clear a00 a01 a02 a03 a04
          refine (tight.close_g mn _ ts _ S4.tail.tail.tail.head.2 (by omega) HT.out).mono ?_
          rintro e v4 ⟨hB, on, oa, ol, oc, os, of, rfl, hA, hK⟩
          have ho := les_left HMA.out HMB.out HT.out HU.out HOK.out
          obtain ⟨e2, e3, e4⟩ : on = mn ∧ os = clT mn ts ∧ of = 0 := by
            rcases hA with ⟨k, _⟩ | ⟨_, h⟩
            · exact (k ho).elim
            · exact h
          subst e2
          subst e4
          have hsame : ¬ ms = os := by
            have := in_iff_m HMA.out HMB.out HT.out HU.out HOK.out
            rw [← HE3.out, ← e3] at this
            have h2 := HI.out
            intro h
            have := h2.2 (this.2 h)
            cases this
          have HSAME := Lib.hid hsame
          have S6 := S4.below hB
          have S5 := S6.add on _ os hK.ints
          have HE4 := Lib.hid HE3.out
          clear hB hA hK ho e3 hsame S4 HE3 HI
          obtain ⟨a00, a01, a02, a03, a04⟩ := lies.two S6.head.1
          go_wp2_with fail
          clear a00 a01 a02 a03 a04 S6
          generalize v4.heap.size = OB at S5 ⊢
          generalize v4.alloc (.cells #[.int .i64 on, .slice oa ol oc] 27) = v5 at S5 ⊢
          refine (dbm.same4_any on on _ _ ms os _ S5.tail.head.2 S5.head.2 (by omega)).mono ?_
          rintro e v6 ⟨he, hB⟩
          obtain rfl : e = .returned (.bool false) := he.trans (by simp [HSAME.out])
          replace S5 := (S5.below hB).tail
          clear hB HSAME
          obtain ⟨a00, a01, a02, a03, a04⟩ := lies.two S5.tail.head.1
          obtain ⟨a10, a11, a12, a13, a14⟩ := lies.two S5.tail.tail.tail.head.1
          go_wp2_with fail
          clear a00 a01 a02 a03 a04 a10 a11 a12 a13 a14
          obtain ⟨ja, hja⟩ : ∃ z, askE l on vs ts = z := ⟨_, rfl⟩
          refine (in_any l on _ _ vs ts _ S5.tail.head.2 S5.tail.tail.tail.head.2 (by omega) (by omega) HV.out HT.out).mono ?_
          intro e v hpp
          obtain ⟨hB, p, rfl, hp⟩ := asks_told hpp
          replace S5 := S5.below hB
          rw [hja] at hp ⊢
          have HP := Lib.hid hp
          clear hB hpp hp hja
          obtain ⟨a00, a01, a02, a03, a04⟩ := lies.two S5.tail.head.1
          obtain ⟨a10, a11, a12, a13, a14⟩ := lies.two S5.tail.tail.head.1
          go_wp2_with fail
          clear a00 a01 a02 a03 a04 a10 a11 a12 a13 a14
          obtain ⟨jb, hjb⟩ : ∃ z, askE l on vs us = z := ⟨_, rfl⟩
          refine (in_any l on _ _ vs us _ S5.tail.head.2 S5.tail.tail.head.2 (by omega) (by omega) HV.out HU.out).mono ?_
          intro e v hpp
          obtain ⟨hB, q, rfl, hq⟩ := asks_told hpp
          replace S5 := S5.below hB
          rw [hjb] at hq ⊢
          have HQ := Lib.hid hq
          clear hB hpp hq hjb
          obtain ⟨a00, a01, a02, a03, a04⟩ := lies.two S5.tail.head.1
          obtain ⟨a10, a11, a12, a13, a14⟩ := lies.two S5.head.1
          go_wp2_with fail
          clear a00 a01 a02 a03 a04 a10 a11 a12 a13 a14
          obtain ⟨jm, hjm⟩ : ∃ z, askE l on vs ms = z := ⟨_, rfl⟩
          refine (in_any l on _ _ vs ms _ S5.tail.head.2 S5.head.2 (by omega) (by omega) HV.out HMT.out).mono ?_
          intro e v hpp
          obtain ⟨hB, r, rfl, hr⟩ := asks_told hpp
          replace S5 := S5.below hB
          rw [hjm] at hr ⊢
          have HR := Lib.hid hr
          clear hB hpp hr hjm
          have hBB := S5.1
          clear S5
          by_cases c2 : ja = 0
          · by_cases c3 : jb = 0
            · by_cases c4 : jm = 0
              · subst c2 c3 c4
                have hfin : r = (p && q) := by
                  obtain ⟨mv, _, e5, hp⟩ := HP.out rfl
                  obtain ⟨_, _, _, hq⟩ := HQ.out rfl
                  obtain ⟨_, _, _, hr⟩ := HR.out rfl
                  subst e5
                  have hm2 := HMM.out
                  rw [HE4.out] at hm2 hr
                  have := in_both HMA.out HMB.out HT.out HU.out mv HV.out HOK.out hm2
                  rw [← hp, ← hq, ← hr] at this
                  rw [Bool.eq_iff_iff, Bool.and_eq_true]
                  exact this
                subst hfin
                clear HP HQ HR HE4
                cases p <;> cases q <;>
                  (go_wp2_with fail
                   go_ret
                   exact ⟨rfl, hBB⟩)
              · have u1 : (jm != 0) = true := by simpa using c4
                have u2 : (jm == 0) = false := by simpa using c4
                subst c2 c3
                clear HP HQ HR HE4
                go_wp2_with fail
                go_ret
                exact ⟨rfl, hBB⟩
            · have u1 : (jb != 0) = true := by simpa using c3
              have u2 : (jb == 0) = false := by simpa using c3
              subst c2
              clear HP HQ HR HE4
              go_wp2_with fail
              go_ret
              exact ⟨rfl, hBB⟩
          · have u1 : (ja != 0) = true := by simpa using c2
            have u2 : (ja == 0) = false := by simpa using c2
            clear HP HQ HR HE4
            go_wp2_with fail
            go_ret
            exact ⟨rfl, hBB⟩
        | true =>
          obtain ⟨a00, a01, a02, a03, a04⟩ := lies.two S4.head.1
          go_wp2_with fail
          clear a00 a01 a02 a03 a04
          refine (check_ok mn _ ms _ S4.head.2 HMT.out HMM.out).mono ?_
          rintro e v ⟨rfl, hB⟩
          replace S4 := S4.below hB
          clear hB
          obtain ⟨a00, a01, a02, a03, a04⟩ := lies.two S4.head.1
          obtain ⟨a10, a11, a12, a13, a14⟩ := lies.two S4.tail.tail.tail.head.1
          go_wp2_with fail
          clear a00 a01 a02 a03 a04 a10 a11 a12 a13 a14
          refine (in_any mn mn _ _ ms ts _ S4.head.2 S4.tail.tail.tail.head.2 (by omega) (by omega) HMT.out HT.out).mono ?_
          intro e v hp
          obtain ⟨rfl, hB⟩ := asks_yes hp HMM.out HMA.out (by have := m_in HMA.out HMB.out HT.out HU.out HOK.out (HE3.out ▸ HMM.out); rw [HE3.out]; exact this.1)
          replace S4 := S4.below hB
          clear hB hp
          obtain ⟨a00, a01, a02, a03, a04⟩ := lies.two S4.head.1
          obtain ⟨a10, a11, a12, a13, a14⟩ := lies.two S4.tail.tail.head.1
          go_wp2_with fail
          clear a00 a01 a02 a03 a04 a10 a11 a12 a13 a14
          refine (in_any mn mn _ _ ms us _ S4.head.2 S4.tail.tail.head.2 (by omega) (by omega) HMT.out HU.out).mono ?_
          intro e v hp
          obtain ⟨rfl, hB⟩ := asks_yes hp HMM.out HMB.out (by have := m_in HMA.out HMB.out HT.out HU.out HOK.out (HE3.out ▸ HMM.out); rw [HE3.out]; exact this.2)
          replace S4 := S4.below hB
          clear hB hp
          obtain ⟨a00, a01, a02, a03, a04⟩ := lies.two S4.tail.tail.tail.head.1
          go_wp2_with fail
          clear a00 a01 a02 a03 a04
          refine (tight.close_g mn _ ts _ S4.tail.tail.tail.head.2 (by omega) HT.out).mono ?_
          rintro e v4 ⟨hB, on, oa, ol, oc, os, of, rfl, hA, hK⟩
          have ho := les_left HMA.out HMB.out HT.out HU.out HOK.out
          obtain ⟨e2, e3, e4⟩ : on = mn ∧ os = clT mn ts ∧ of = 0 := by
            rcases hA with ⟨k, _⟩ | ⟨_, h⟩
            · exact (k ho).elim
            · exact h
          subst e2
          subst e4
          have hsame : ms = os := by
            have := in_iff_m HMA.out HMB.out HT.out HU.out HOK.out
            rw [← HE3.out, ← e3] at this
            have h2 := HI.out
            exact this.1 (h2.1 (by simp))
          have HSAME := Lib.hid hsame
          have S6 := S4.below hB
          have S5 := S6.add on _ os hK.ints
          have HE4 := Lib.hid HE3.out
          clear hB hA hK ho e3 hsame S4 HE3 HI
          obtain ⟨a00, a01, a02, a03, a04⟩ := lies.two S6.head.1
          go_wp2_with fail
          clear a00 a01 a02 a03 a04 S6
          generalize v4.heap.size = OB at S5 ⊢
          generalize v4.alloc (.cells #[.int .i64 on, .slice oa ol oc] 27) = v5 at S5 ⊢
          refine (dbm.same4_any on on _ _ ms os _ S5.tail.head.2 S5.head.2 (by omega)).mono ?_
          rintro e v6 ⟨he, hB⟩
          obtain rfl : e = .returned (.bool true) := he.trans (by simp [HSAME.out])
          replace S5 := (S5.below hB).tail
          clear hB HSAME
          obtain ⟨a00, a01, a02, a03, a04⟩ := lies.two S5.tail.head.1
          obtain ⟨a10, a11, a12, a13, a14⟩ := lies.two S5.tail.tail.tail.head.1
          go_wp2_with fail
          clear a00 a01 a02 a03 a04 a10 a11 a12 a13 a14
          obtain ⟨ja, hja⟩ : ∃ z, askE l on vs ts = z := ⟨_, rfl⟩
          refine (in_any l on _ _ vs ts _ S5.tail.head.2 S5.tail.tail.tail.head.2 (by omega) (by omega) HV.out HT.out).mono ?_
          intro e v hpp
          obtain ⟨hB, p, rfl, hp⟩ := asks_told hpp
          replace S5 := S5.below hB
          rw [hja] at hp ⊢
          have HP := Lib.hid hp
          clear hB hpp hp hja
          obtain ⟨a00, a01, a02, a03, a04⟩ := lies.two S5.tail.head.1
          obtain ⟨a10, a11, a12, a13, a14⟩ := lies.two S5.tail.tail.head.1
          go_wp2_with fail
          clear a00 a01 a02 a03 a04 a10 a11 a12 a13 a14
          obtain ⟨jb, hjb⟩ : ∃ z, askE l on vs us = z := ⟨_, rfl⟩
          refine (in_any l on _ _ vs us _ S5.tail.head.2 S5.tail.tail.head.2 (by omega) (by omega) HV.out HU.out).mono ?_
          intro e v hpp
          obtain ⟨hB, q, rfl, hq⟩ := asks_told hpp
          replace S5 := S5.below hB
          rw [hjb] at hq ⊢
          have HQ := Lib.hid hq
          clear hB hpp hq hjb
          obtain ⟨a00, a01, a02, a03, a04⟩ := lies.two S5.tail.head.1
          obtain ⟨a10, a11, a12, a13, a14⟩ := lies.two S5.head.1
          go_wp2_with fail
          clear a00 a01 a02 a03 a04 a10 a11 a12 a13 a14
          obtain ⟨jm, hjm⟩ : ∃ z, askE l on vs ms = z := ⟨_, rfl⟩
          refine (in_any l on _ _ vs ms _ S5.tail.head.2 S5.head.2 (by omega) (by omega) HV.out HMT.out).mono ?_
          intro e v hpp
          obtain ⟨hB, r, rfl, hr⟩ := asks_told hpp
          replace S5 := S5.below hB
          rw [hjm] at hr ⊢
          have HR := Lib.hid hr
          clear hB hpp hr hjm
          have hBB := S5.1
          clear S5
          by_cases c2 : ja = 0
          · by_cases c3 : jb = 0
            · by_cases c4 : jm = 0
              · subst c2 c3 c4
                have hfin : r = (p && q) := by
                  obtain ⟨mv, _, e5, hp⟩ := HP.out rfl
                  obtain ⟨_, _, _, hq⟩ := HQ.out rfl
                  obtain ⟨_, _, _, hr⟩ := HR.out rfl
                  subst e5
                  have hm2 := HMM.out
                  rw [HE4.out] at hm2 hr
                  have := in_both HMA.out HMB.out HT.out HU.out mv HV.out HOK.out hm2
                  rw [← hp, ← hq, ← hr] at this
                  rw [Bool.eq_iff_iff, Bool.and_eq_true]
                  exact this
                subst hfin
                clear HP HQ HR HE4
                cases p <;> cases q <;>
                  (go_wp2_with fail
                   go_ret
                   exact ⟨rfl, hBB⟩)
              · have u1 : (jm != 0) = true := by simpa using c4
                have u2 : (jm == 0) = false := by simpa using c4
                subst c2 c3
                clear HP HQ HR HE4
                go_wp2_with fail
                go_ret
                exact ⟨rfl, hBB⟩
            · have u1 : (jb != 0) = true := by simpa using c3
              have u2 : (jb == 0) = false := by simpa using c3
              subst c2
              clear HP HQ HR HE4
              go_wp2_with fail
              go_ret
              exact ⟨rfl, hBB⟩
          · have u1 : (ja != 0) = true := by simpa using c2
            have u2 : (ja == 0) = false := by simpa using c2
            clear HP HQ HR HE4
            go_wp2_with fail
            go_ret
            exact ⟨rfl, hBB⟩
      · have HMM := Lib.hid hmm
        clear hmm
        obtain ⟨a00, a01, a02, a03, a04⟩ := lies.two S4.head.1
        go_wp2_with fail
        clear a00 a01 a02 a03 a04
        refine (check_no mn _ ms _ S4.head.2 (by omega) HMT.out HMM.out).mono ?_
        rintro e v ⟨rfl, hB⟩
        have hBB := (S4.below hB).1
        clear hB S4 HI
        go_wp2_with fail
        go_ret
        exact ⟨rfl, hBB⟩
    · obtain rfl : mf = 6 := by
        rcases hA with ⟨_, _, _, h⟩ | ⟨k, _⟩
        · rw [if_pos (lesT_may HMA.out HMB.out)] at h
          exact h
        · exact (hok k).elim
      obtain rfl : ap = true := hap.2 hok
      have hBB := S4.1
      clear hA hok hap hii S4
      go_wp2_with fail
      go_ret
      exact ⟨rfl, hBB⟩
  · have hmf : mf = eab := by
      have he := Heab.out
      unfold askE at he
      rcases HM.out with ⟨h, _, _, hf⟩ | ⟨q, h, h'⟩
      · rw [hf]
        unfold tight.meetQ at h
        unfold tight.meetE
        by_cases k : MayD n ts ∧ MayD m us
        · rw [if_pos k] at he ⊢
          by_cases e : n = m
          · rw [if_pos ⟨k.1, k.2, e⟩] at h
            cases h
          · rw [if_neg e] at he
            exact he
        · rw [if_neg k] at he ⊢
          exact he
      · unfold tight.meetQ at h
        by_cases k : MayD n ts ∧ MayD m us ∧ n = m
        · rw [if_pos ⟨k.1, k.2.1⟩, if_pos k.2.2] at he
          exact (c1 he.symm).elim
        · rw [if_neg k] at h
          cases h
    subst hmf
    have u1 : (mf != 0) = true := by simpa using c1
    have u2 : (mf == 0) = false := by simpa using c1
    have hBB := S4.1
    clear HM HAP HII Heab S4
    go_wp2_with fail
    go_ret
    exact ⟨rfl, hBB⟩

theorem walk (n m l : Int) (sv tv uv : Value) (ts us vs : List Int) (w : World) (hI : law.Ints w.heap.size w sv ts) (hJ : law.Ints w.heap.size w tv us) (hK : law.Ints w.heap.size w uv vs) (htop : Tops ts) (hto : Tops us) (htv : Tops vs) :
    Calls Try.prog 7 #[.agg #[.int .i64 n, sv], .agg #[.int .i64 m, tv], .agg #[.int .i64 l, uv]] w fun e w' => e = .returned (.bool true) ∧ Below w.heap.size w w' := by
  by_cases h : 1000 < ts.length ∨ (ts.length ≤ 1000 ∧ 1000 < us.length) ∨ (ts.length ≤ 1000 ∧ us.length ≤ 1000 ∧ 1000 < vs.length)
  · exact walk_far n m l sv tv uv ts us vs w hI hJ hK h
  · exact walk_in n m l sv tv uv ts us vs w hI hJ hK (by omega) (by omega) (by omega) htop hto htv

set_option maxRecDepth 100000 in
theorem lifted (os : Os) (started : os.Started) (H : Type) (enc : TypeId × Value → H) :
    ReturnsInHanded {} Try.checked os 7 .any (Rows.inclCommonSpec.pre6 enc Try.prog Try.f7 Rows.inclCommonRow.domain false) (Rows.inclCommonSpec.post enc Try.prog Try.f7 false true false false) := by
  refine returnsInHanded_of_change (C := Try.checked) law.own started (by kernel_rfl) Try.func7
    (ChangeSpec.witness6 (enc := enc) (C := Try.checked) false ⟨#[], #[.agg #[.int .i64 0, .slice none 0 0], .agg #[.int .i64 0, .slice none 0 0], .agg #[.int .i64 0, .slice none 0 0]], []⟩ 8 (by kernel_rfl) (by kernel_rfl) (by kernel_rfl) (by kernel_rfl)) ?_
  intro W base args ds gs before hval0 hW _ _
  have hval : ∀ (j : Nat) t v, Try.f7.params[j]? = some t → args[j]? = some v → Value.okWide Try.prog W .any base t v := hval0
  have hW' := hW
  obtain ⟨p, q, hA0, hV, rfl, _, _⟩ := hW
  have hA : DataW.TrodAll enc Try.prog W 0 (fun _ => true) true Try.f7.params.toList args.toList ds p := hA0
  rw [Try.params7] at hA hval
  obtain ⟨v0, vs0, d0, ds0, p0, q0, hargs, rfl, rfl, h0, r0⟩ := trodAll_cons hA
  obtain ⟨v1, vs1, d1, ds1, p1, q1, rfl, rfl, rfl, h1, r1⟩ := trodAll_cons r0
  obtain ⟨v2, vs2, d2, ds2, p2, q2, rfl, rfl, rfl, h2, r2⟩ := trodAll_cons r1
  obtain ⟨rfl, rfl, rfl⟩ := trodAll_nil r2
  obtain rfl : args = #[v0, v1, v2] := by cases args; simp_all
  obtain ⟨n0, sv0, ts0, rfl, _, hwf0, hI0, _⟩ := dlaw.open_dbm (hval 0 27 v0 rfl rfl) h0
  obtain ⟨n1, sv1, ts1, rfl, _, hwf1, hI1, _⟩ := dlaw.open_dbm (hval 1 27 v1 rfl rfl) h1
  obtain ⟨n2, sv2, ts2, rfl, _, hwf2, hI2, _⟩ := dlaw.open_dbm (hval 2 27 v2 rfl rfl) h2
  refine (walk n0 n1 n2 sv0 sv1 sv2 ts0 ts1 ts2 W hI0 hI1 hI2 (fun z hz => law.wf_hi (hwf0 z hz)) (fun z hz => law.wf_hi (hwf1 z hz)) (fun z hz => law.wf_hi (hwf2 z hz))).mono fun e W' ⟨he, hB⟩ => ?_
  subst he
  exact ⟨_, rfl, law.post_true law.laidOut (by kernel_rfl) rfl Try.underlying4 rfl hW' (fun h => by subst h; rfl) hB⟩

theorem proved : Rows.InclCommonSaid :=
  OpenClaim.holds_of_wide 7 Try.f7 rfl rfl rfl rfl rfl rfl rfl ⟨rfl, rfl, rfl, rfl, rfl⟩ rfl rfl rfl rfl rfl (by kernel_rfl) Try.func7 (by kernel_rfl)
    (of_decide_eq_true (by kernel_rfl)) (by unfold Func.isWrapper; first | (rw [if_pos (by decide +kernel)]; kernel_rfl) | (rw [if_neg (by decide +kernel)]; exact ⟨rfl, rfl⟩))
    (fun os started H enc _ => lifted os started H enc)
#print axioms proved
end Go.Proofs.Ytnbpcgkdnkihdaa.inclCommon
