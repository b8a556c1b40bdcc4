/-
  What rallentandoref06's pick answers; each theorem names its conditions.
-/
import Derived.Test.YtnbpcgkdnkihdaaInclR5
namespace Go.Proofs.Ytnbpcgkdnkihdaa.iref
open Go.ChangeShapes Go.WideShapes Go.ChangeAt Go.RowKit num rat dbm way Go.Proofs.Ytnbpcgkdnkihdaa.tight Go.Proofs.Ytnbpcgkdnkihdaa.incl Go.Proofs.Ytnbpcgkdnkihdaa.tlaw
open bound hiding up
set_option linter.unusedVariables false
set_option linter.unusedSimpArgs false

theorem fit_neg {x z : Int} (h : Fit 1 x z) : Fit (-1) (-x) z := by
  rcases h with h | ⟨h1, h2, h3⟩
  · exact .inl h
  · refine .inr ⟨h1, near_neg h2, ?_⟩
    have := near_neg h3
    rw [show -(x + 8 * (1 * (z / 2))) = -x + 8 * (-1 * (z / 2)) by omega] at this
    exact this
set_option maxRecDepth 100000 in
set_option maxHeartbeats 16000000 in
theorem pick_is (n i b off cap tb toff tcap : Nat) (X : Nat → Int) (ts : List Int) (rs : List (Int × Int)) (w : World) (hn : n ≤ 4) (h1 : 0 < i) (hi : i < n) (hr : Row w b off ts) (hb : b < w.heap.size) (hl : ts.length = n * n)
    (hR : RowR w tb toff rs) (htb : tb < w.heap.size) (hrs : rs.length = i) (hpr : ∀ j, j < i → pr rs j = (p8 (X j), q8 (X j))) (hnX : ∀ j, j < i → Near (X j)) (hlo : ∀ j, j < i → Fit (-1) (X j) (ts[j * n + i]?.getD 0)) (hhi : ∀ j, j < i → Fit 1 (X j) (ts[i * n + j]?.getD 0))
    (L H : Option Int) (hL : endC (-1) X (fun j => cod (ts[j * n + i]?.getD 0)) i = L) (hH : endC 1 X (fun j => cod (ts[i * n + j]?.getD 0)) i = H) (hbt : Near (btw L H)) (he : ∀ l e, L = some l → H = some e → (l / 2) % 2 = 0 ∧ (e / 2) % 2 = 0) :
    Calls Try.prog 64 #[.agg #[.int .i64 n, .slice (some ⟨b, off, none⟩) (n * n) cap], .slice (some ⟨tb, toff, none⟩) i tcap] w fun e w' => Below w.heap.size w w' ∧ e = .returned (.agg #[.int .i64 (p8 (btw L H)), .int .i64 (q8 (btw L H))]) := by
  have h0 : 0 < n := by omega
  have nlo := endC_near (s := -1) (.inr rfl) (X := X) (t := fun j => ts[j * n + i]?.getD 0) (k := i) (fun j hj => (hlo j hj).imp id fun h => h.2.2) i (Nat.le_refl _)
  have nhi := endC_near (s := 1) (.inl rfl) (X := X) (t := fun j => ts[i * n + j]?.getD 0) (k := i) (fun j hj => (hhi j hj).imp id fun h => h.2.2) i (Nat.le_refl _)
  rw [hL] at nlo
  rw [hH] at nhi
  have hH2 : endC (-1) (fun j => -(X j)) (fun j => cod ((trT n ts (n * n))[j * n + i]?.getD 0)) i = H := by
    rw [← hH, ← endC_neg]
    exact endC_same i (fun _ _ => rfl) (fun j hj => congrArg cod (trT_tat ts hn (by omega) hi))
  have hfit2 : ∀ j, j < i → Fit (-1) (-(X j)) ((trT n ts (n * n))[j * n + i]?.getD 0) := fun j hj => by
    have e : (trT n ts (n * n))[j * n + i]?.getD 0 = ts[i * n + j]?.getD 0 := trT_tat ts hn (by omega) hi
    rw [e]
    exact fit_neg (hhi j hj)
  obtain ⟨zp, hzp⟩ : ∃ z, p8 (btw L H) = z := ⟨_, rfl⟩
  obtain ⟨zq, hzq⟩ : ∃ z, q8 (btw L H) = z := ⟨_, rfl⟩
  rw [hzp, hzq]
  have HZ := Lib.hid (And.intro hzp hzq)
  have HNL := Lib.hid nlo
  have HNH := Lib.hid nhi
  have HLL := Lib.hid hL
  have HH2 := Lib.hid hH2
  have HF2 := Lib.hid hfit2
  have HR := Lib.hid hr
  have HL := Lib.hid hl
  have HRR := Lib.hid hR
  have HRS := Lib.hid hrs
  have HPR := Lib.hid hpr
  have HNX := Lib.hid hnX
  have HLO := Lib.hid hlo
  have HBT := Lib.hid hbt
  have HHE := Lib.hid he
  clear hzp hzq nlo nhi hL hH hH2 hfit2 hr hl hR hrs hpr hnX hlo hhi hbt he
  have L0 := lies.on_alloc (lies.made w 27 #[.int .i64 n, .slice (some ⟨b, off, none⟩) (n * n) cap]) (.cells #[.int .i64 0, .int .i64 0] 36)
  have LR := lies.made_at (w.alloc (.cells #[.int .i64 n, .slice (some ⟨b, off, none⟩) (n * n) cap] 27)) 36 #[.int .i64 0, .int .i64 0] (w.heap.size + 1) (World.size_alloc _ _)
  have LB := bound.up2 w (.cells #[.int .i64 n, .slice (some ⟨b, off, none⟩) (n * n) cap] 27) (.cells #[.int .i64 0, .int .i64 0] 36)
  go_enter Try.func64, Try.ntmps64
  go_wp2_with fail
  generalize (w.alloc (.cells #[.int .i64 n, .slice (some ⟨b, off, none⟩) (n * n) cap] 27)).alloc (.cells #[.int .i64 0, .int .i64 0] 36) = w0 at L0 LR LB ⊢
  refine (low_is n i b off cap tb toff tcap X ts rs w0 hn hi (HR.out.below LB hb) (Nat.lt_of_lt_of_le hb LB.size) HL.out (HRR.out.below LB htb) (Nat.lt_of_lt_of_le htb LB.size) HRS.out HPR.out HLO.out).mono ?_
  rintro e w1 ⟨hB, rfl⟩
  rw [HLL.out]
  generalize hT1 : lowT L = T1
  obtain ⟨a, A, B, one⟩ := T1
  dsimp only
  have HT1 := Lib.hid hT1
  have hlt := lies.lt LR
  have hs1 := hB.size
  replace L0 := lies.on_call L0 hB
  replace LR := lies.on_alloc (lies.on_call LR hB) (.cells #[.int .i64 A, .int .i64 B] 36)
  have LF := lies.made w1 36 #[.int .i64 A, .int .i64 B]
  replace LB := lies.frame_up (later LB hB) (.cells #[.int .i64 A, .int .i64 B] 36)
  obtain ⟨x0, x1, x2, x3, x4⟩ := lies.two L0
  clear hT1 hB L0
  go_wp2_with fail
  clear x0 x1 x2 x3 x4
  have hFX : w.heap.size + 1 < w1.heap.size := by omega
  generalize w1.heap.size = FX at LF hFX ⊢
  generalize w1.alloc (.cells #[.int .i64 A, .int .i64 B] 36) = w1' at LF LR LB ⊢
  clear hs1 hlt
  refine (other_is n b off cap ts w1' h0 hn (HR.out.below LB hb) (Nat.lt_of_lt_of_le hb LB.size) HL.out).mono ?_
  rintro e w2 ⟨hB, g, gc, rfl, hrow, hgl⟩
  replace LF := lies.on_call LF hB
  replace LR := lies.on_call LR hB
  replace LB := later LB hB
  have HROW := Lib.hid hrow
  clear hB hrow
  go_wp2_with fail
  refine (turned_is tb toff tcap i X rs w2 (by omega) (HRR.out.below LB htb) (Nat.lt_of_lt_of_le htb LB.size) HRS.out HPR.out HNX.out).mono ?_
  rintro e w3 ⟨hB, v, rfl, hO⟩
  replace LF := lies.on_call LF hB
  replace LR := lies.on_call LR hB
  replace LB := later LB hB
  have hrow3 := HROW.out.below hB hgl
  have hgl3 := Nat.lt_of_lt_of_le hgl hB.size
  obtain ⟨g2, c2, rfl⟩ : ∃ g2 c2, v = .slice (some ⟨g2, 0, none⟩) i c2 := by
    rcases Go.Joins.ownsRow_forms hO with ⟨_, h⟩ | ⟨g2, c2, h⟩
    · omega
    · exact ⟨g2, c2, h⟩
  have hg2 := (hO.lt g2 rfl).2
  have hrat := own_rowR hO
  have HROW3 := Lib.hid hrow3
  have HRAT := Lib.hid hrat
  clear hB hO hrow3 hrat HROW hgl
  go_wp2_with fail
  refine (low_is n i g 0 gc g2 0 c2 (fun j => -(X j)) (trT n ts (n * n)) (negs X i) w3 hn hi HROW3.out hgl3 (trT_length _ _ _) HRAT.out hg2 (negs_length _ _) (fun j hj => negs_at X hj) HF2.out).mono ?_
  rintro e w4 ⟨hB, rfl⟩
  rw [HH2.out]
  have hnC : NearE (-1) H := by
    have := HNH.out
    cases H with
    | none => trivial
    | some h =>
      have h' : Near (1 * (h / 2)) := this
      have := near_neg h'
      rw [show -(1 * (h / 2)) = -1 * (h / 2) by omega] at this
      exact this
  obtain ⟨hc1, hc2, hc3⟩ := lowT_near hnC
  generalize hT2 : lowT H = T2 at hc2 hc3
  obtain ⟨a2, C, D, two⟩ := T2
  dsimp only at hc2 hc3 ⊢
  have hcn := near_fits (near_neg hc1)
  have hpn := p8_neg (lowY H)
  rw [hpn.1, hpn.2, ← hc2, ← hc3] at hcn
  have g1 : IntKind.i64.wrap (0 - C) = -C := by rw [Int.zero_sub]; exact IntWalk.i64_in _ (by omega)
  have g2' : IntKind.i64.wrap (-C) = -C := IntWalk.i64_in _ (by omega)
  have hlt := lies.lt LR
  have hltF := lies.lt LF
  have hs4 := hB.size
  replace LF := lies.on_alloc (lies.on_alloc (lies.on_call LF hB) (.cells #[.int .i64 C, .int .i64 D] 36)) (.cells #[.int .i64 (-C), .int .i64 D] 36)
  replace LR := lies.on_alloc (lies.on_alloc (lies.on_call LR hB) (.cells #[.int .i64 C, .int .i64 D] 36)) (.cells #[.int .i64 (-C), .int .i64 D] 36)
  have LT := lies.made_at (w4.alloc (.cells #[.int .i64 C, .int .i64 D] 36)) 36 #[.int .i64 (-C), .int .i64 D] (w4.heap.size + 1) (World.size_alloc _ _)
  replace LB := lies.frame_up (lies.frame_up (later LB hB) (.cells #[.int .i64 C, .int .i64 D] 36)) (.cells #[.int .i64 (-C), .int .i64 D] 36)
  have HT2 := Lib.hid hT2
  clear hB hT2 hc1 hc2 hc3 hcn hpn HROW3 HRAT HF2 HLO HNX HPR HRS HRR HR HL HLL HH2
  go_upto_region 4 with fail
  clear g1 g2'
  have hTX : w.heap.size + 1 < w4.heap.size + 1 := by omega
  generalize w4.heap.size + 1 = TX at LT hTX ⊢
  generalize (w4.alloc (.cells #[.int .i64 C, .int .i64 D] 36)).alloc (.cells #[.int .i64 (-C), .int .i64 D] 36) = w5 at LF LR LT LB ⊢
  clear hs4 hlt hltF hgl3 hg2
  have low1 : ∀ l, L = some l → l % 2 = 1 → btw L H = -1 * (l / 2) := fun l h k => by
    subst h
    cases H <;> dsimp only [btw] <;> rw [if_pos k] <;> omega
  cases L with
  | none =>
    have e1 := HT1.out
    simp only [lowT, Prod.mk.injEq] at e1
    obtain ⟨e1, e2, e3, e4⟩ := e1
    subst e1 e2 e3 e4
    cases H with
    | none =>
      have e1 := HT2.out
      simp only [lowT, Prod.mk.injEq] at e1
      obtain ⟨e1, e2, e3, e4⟩ := e1
      subst e1 e2 e3 e4
      have HV := Lib.hid (show 0 = zp ∧ 1 = zq from ⟨eight_zero.1.symm.trans HZ.out.1, eight_zero.2.symm.trans HZ.out.2⟩)
      clear low1 HT1 HT2 HZ HNL HNH HBT HHE hnC
      obtain ⟨f0, f1, f2, f3, f4⟩ := lies.two LF
      obtain ⟨t0, t1, t2, t3, t4⟩ := lies.two LT
      obtain ⟨r0, r1, r2, r3, r4⟩ := lies.two LR
      clear LF LT LR
      go_wp2_with fail
      refine bodyPost_ret (v := .agg #[.int .i64 (0), .int .i64 (1)]) (by simp [results, Try.results64, go_sem, r0, r1, r4, Nat.ne_of_lt r4, Nat.ne_of_gt r4]) rfl ⟨?_, by rw [HV.out.1, HV.out.2]⟩
      repeat (first | with_reducible exact LB | with_reducible refine lies.frame_up ?_ _ | with_reducible refine Below.setCell ?_ (by dsimp only; omega) _)
    | some h =>
      have hH' : Near (1 * (h / 2)) := HNH.out
      have hto := p8_neg (1 * (h / 2))
      rw [show -(1 * (h / 2)) = -1 * (h / 2) by omega] at hto
      have e1 := HT2.out
      simp only [lowT, Prod.mk.injEq] at e1
      obtain ⟨e1, e2, e3, e4⟩ := e1
      have eC : -C = p8 (1 * (h / 2)) := by rw [← e2, hto.1, Int.neg_neg]
      have eD : D = q8 (1 * (h / 2)) := by rw [← e3, hto.2]
      rw [eC, eD] at LT
      subst e1
      obtain ⟨c1, c2⟩ := near_fits hH'
      by_cases p : h % 2 = 1
      · have e : btw none (some h) = 1 * (h / 2) := by dsimp only [btw]; rw [if_pos p]; omega
        have hV := HZ.out
        rw [e] at hV
        have HV := Lib.hid hV
        obtain rfl : two = false := by rw [← e4]; simp; omega
        clear low1 HT1 HT2 HZ HNL HNH HBT HHE hnC hto e2 e3 e4 eC eD hV e c1 c2 hH'
        generalize p8 (1 * (h / 2)) = P at LT HV
        generalize q8 (1 * (h / 2)) = Q at LT HV
        obtain ⟨f0, f1, f2, f3, f4⟩ := lies.two LF
        obtain ⟨t0, t1, t2, t3, t4⟩ := lies.two LT
        obtain ⟨r0, r1, r2, r3, r4⟩ := lies.two LR
        clear LF LT LR
        go_wp2_with fail
        refine bodyPost_ret (v := .agg #[.int .i64 (P), .int .i64 (Q)]) (by simp [results, Try.results64, go_sem, r0, r1, r4, Nat.ne_of_lt r4, Nat.ne_of_gt r4]) rfl ⟨?_, by rw [HV.out.1, HV.out.2]⟩
        repeat (first | with_reducible exact LB | with_reducible refine lies.frame_up ?_ _ | with_reducible refine Below.setCell ?_ (by dsimp only; omega) _)
      · have e : btw none (some h) = 1 * (h / 2) + 8 * (-1) := by dsimp only [btw]; rw [if_neg p]; omega
        have hV := HZ.out
        have hb' := HBT.out
        rw [e] at hV hb'
        have HV := Lib.hid hV
        have HSH := Lib.hid (fun W => shift_is W hH' (show May (-1) by decide) hb')
        obtain rfl : two = true := by rw [← e4]; simp; omega
        clear low1 HT1 HT2 HZ HNL HNH HBT HHE hnC hto e2 e3 e4 eC eD hV e c1 c2 hH' hb'
        generalize p8 (1 * (h / 2)) = P0 at LT HSH
        generalize q8 (1 * (h / 2)) = Q0 at LT HSH
        generalize p8 (1 * (h / 2) + 8 * -1) = P at HV HSH
        generalize q8 (1 * (h / 2) + 8 * -1) = Q at HV HSH
        obtain ⟨f0, f1, f2, f3, f4⟩ := lies.two LF
        obtain ⟨t0, t1, t2, t3, t4⟩ := lies.two LT
        go_wp2_with fail
        clear f0 f1 f2 f3 f4 t0 t1 t2 t3 t4
        refine (HSH.out _).mono ?_
        rintro e w6 ⟨rfl, hB⟩
        replace LR := lies.on_call LR hB
        replace LB := later LB hB
        clear hB LF LT
        obtain ⟨r0, r1, r2, r3, r4⟩ := lies.two LR
        go_wp2_with fail
        refine bodyPost_ret (v := .agg #[.int .i64 (P), .int .i64 (Q)]) (by simp [results, Try.results64, go_sem, r0, r1, r4, Nat.ne_of_lt r4, Nat.ne_of_gt r4]) rfl ⟨?_, by rw [HV.out.1, HV.out.2]⟩
        repeat (first | with_reducible exact LB | with_reducible refine lies.frame_up ?_ _ | with_reducible refine Below.setCell ?_ (by dsimp only; omega) _)
  | some l =>
    have hL' : Near (-1 * (l / 2)) := HNL.out
    obtain ⟨b1, b2⟩ := near_fits hL'
    have e1 := HT1.out
    simp only [lowT, Prod.mk.injEq] at e1
    obtain ⟨e1, e2, e3, e4⟩ := e1
    subst e1
    by_cases p : l % 2 = 1
    · have hV := HZ.out
      rw [low1 l rfl p, e2, e3] at hV
      have HV := Lib.hid hV
      obtain rfl : one = false := by rw [← e4]; simp; omega
      clear low1 HT1 HT2 HZ HNL HNH HBT HHE hnC e2 e3 e4 hV b1 b2 hL'
      obtain ⟨f0, f1, f2, f3, f4⟩ := lies.two LF
      obtain ⟨t0, t1, t2, t3, t4⟩ := lies.two LT
      obtain ⟨r0, r1, r2, r3, r4⟩ := lies.two LR
      clear LF LT LR
      go_wp2_with fail
      refine bodyPost_ret (v := .agg #[.int .i64 (A), .int .i64 (B)]) (by simp [results, Try.results64, go_sem, r0, r1, r4, Nat.ne_of_lt r4, Nat.ne_of_gt r4]) rfl ⟨?_, by rw [HV.out.1, HV.out.2]⟩
      repeat (first | with_reducible exact LB | with_reducible refine lies.frame_up ?_ _ | with_reducible refine Below.setCell ?_ (by dsimp only; omega) _)
    · obtain rfl : one = true := by rw [← e4]; simp; omega
      rw [← e2, ← e3] at LF
      cases H with
      | none =>
        have f1 := HT2.out
        simp only [lowT, Prod.mk.injEq] at f1
        obtain ⟨f1, f2, f3, f4⟩ := f1
        subst f1 f4
        have e : btw (some l) none = -1 * (l / 2) + 8 * 1 := by dsimp only [btw]; rw [if_neg p]; omega
        have hV := HZ.out
        have hb' := HBT.out
        rw [e] at hV hb'
        have HV := Lib.hid hV
        have HSH := Lib.hid (fun W => shift_is W hL' (show May 1 by decide) hb')
        clear low1 HT1 HT2 HZ HNL HNH HBT HHE hnC e2 e3 e4 f2 f3 hV e b1 b2 hL' hb'
        generalize p8 (-1 * (l / 2)) = P0 at LF HSH
        generalize q8 (-1 * (l / 2)) = Q0 at LF HSH
        generalize p8 (-1 * (l / 2) + 8 * 1) = P at HV HSH
        generalize q8 (-1 * (l / 2) + 8 * 1) = Q at HV HSH
        obtain ⟨f0, f1, f2, f3, f4⟩ := lies.two LF
        obtain ⟨t0, t1, t2, t3, t4⟩ := lies.two LT
        go_wp2_with fail
        clear f0 f1 f2 f3 f4 t0 t1 t2 t3 t4
        refine (HSH.out _).mono ?_
        rintro e w6 ⟨rfl, hB⟩
        replace LR := lies.on_call LR hB
        replace LB := later LB hB
        clear hB LF LT
        obtain ⟨r0, r1, r2, r3, r4⟩ := lies.two LR
        go_wp2_with fail
        refine bodyPost_ret (v := .agg #[.int .i64 (P), .int .i64 (Q)]) (by simp [results, Try.results64, go_sem, r0, r1, r4, Nat.ne_of_lt r4, Nat.ne_of_gt r4]) rfl ⟨?_, by rw [HV.out.1, HV.out.2]⟩
        repeat (first | with_reducible exact LB | with_reducible refine lies.frame_up ?_ _ | with_reducible refine Below.setCell ?_ (by dsimp only; omega) _)
      | some h =>
        have hH' : Near (1 * (h / 2)) := HNH.out
        have hto := p8_neg (1 * (h / 2))
        rw [show -(1 * (h / 2)) = -1 * (h / 2) by omega] at hto
        have f1 := HT2.out
        simp only [lowT, Prod.mk.injEq] at f1
        obtain ⟨f1, f2, f3, f4⟩ := f1
        have eC : -C = p8 (1 * (h / 2)) := by rw [← f2, hto.1, Int.neg_neg]
        have eD : D = q8 (1 * (h / 2)) := by rw [← f3, hto.2]
        rw [eC, eD] at LT
        subst f1
        obtain ⟨c1, c2⟩ := near_fits hH'
        by_cases q : h % 2 = 1
        · have e : btw (some l) (some h) = 1 * (h / 2) := by dsimp only [btw]; rw [if_neg p, if_pos q]; omega
          have hV := HZ.out
          rw [e] at hV
          have HV := Lib.hid hV
          obtain rfl : two = false := by rw [← f4]; simp; omega
          clear low1 HT1 HT2 HZ HNL HNH HBT HHE hnC hto e2 e3 e4 f2 f3 f4 eC eD hV e b1 b2 c1 c2 hH' hL'
          generalize p8 (1 * (h / 2)) = P at LT HV
          generalize q8 (1 * (h / 2)) = Q at LT HV
          generalize p8 (-1 * (l / 2)) = P0 at LF
          generalize q8 (-1 * (l / 2)) = Q0 at LF
          obtain ⟨f0, f1, f2, f3, f4⟩ := lies.two LF
          obtain ⟨t0, t1, t2, t3, t4⟩ := lies.two LT
          obtain ⟨r0, r1, r2, r3, r4⟩ := lies.two LR
          clear LF LT LR
          go_wp2_with fail
          refine bodyPost_ret (v := .agg #[.int .i64 (P), .int .i64 (Q)]) (by simp [results, Try.results64, go_sem, r0, r1, r4, Nat.ne_of_lt r4, Nat.ne_of_gt r4]) rfl ⟨?_, by rw [HV.out.1, HV.out.2]⟩
          repeat (first | with_reducible exact LB | with_reducible refine lies.frame_up ?_ _ | with_reducible refine Below.setCell ?_ (by dsimp only; omega) _)
        · have e : btw (some l) (some h) = (-1 * (l / 2) + 1 * (h / 2)) / 2 := by dsimp only [btw]; rw [if_neg p, if_neg q]; congr 1; omega
          have hV := HZ.out
          have hb' := HBT.out
          have hev := HHE.out l h rfl rfl
          rw [e] at hV hb'
          have HV := Lib.hid hV
          obtain ⟨m1, m2, m3⟩ := mid8 hL' hH' (by omega) hb'
          have hmid := fun W => rref.mid_any (p8 (-1 * (l / 2))) (q8 (-1 * (l / 2))) (p8 (1 * (h / 2))) (q8 (1 * (h / 2))) W b1.1 b1.2 c1.1 c1.2
          rw [m1, m2, m3] at hmid
          have HSH := Lib.hid hmid
          obtain rfl : two = true := by rw [← f4]; simp; omega
          clear low1 HT1 HT2 HZ HNL HNH HBT HHE hnC hto e2 e3 e4 f2 f3 f4 eC eD hV e b1 b2 c1 c2 hH' hL' hb' hev m1 m2 m3 hmid
          generalize p8 (1 * (h / 2)) = P1 at LT HSH
          generalize q8 (1 * (h / 2)) = Q1 at LT HSH
          generalize p8 (-1 * (l / 2)) = P0 at LF HSH
          generalize q8 (-1 * (l / 2)) = Q0 at LF HSH
          generalize p8 ((-1 * (l / 2) + 1 * (h / 2)) / 2) = P at HV HSH
          generalize q8 ((-1 * (l / 2) + 1 * (h / 2)) / 2) = Q at HV HSH
          obtain ⟨f0, f1, f2, f3, f4⟩ := lies.two LF
          obtain ⟨t0, t1, t2, t3, t4⟩ := lies.two LT
          go_wp2_with fail
          clear f0 f1 f2 f3 f4 t0 t1 t2 t3 t4
          refine (HSH.out _).mono ?_
          rintro e w6 ⟨rfl, hB⟩
          replace LR := lies.on_call LR hB
          replace LB := later LB hB
          clear hB LF LT
          obtain ⟨r0, r1, r2, r3, r4⟩ := lies.two LR
          go_wp2_with fail
          refine bodyPost_ret (v := .agg #[.int .i64 (P), .int .i64 (Q)]) (by simp [results, Try.results64, go_sem, r0, r1, r4, Nat.ne_of_lt r4, Nat.ne_of_gt r4]) rfl ⟨?_, by rw [HV.out.1, HV.out.2]⟩
          repeat (first | with_reducible exact LB | with_reducible refine lies.frame_up ?_ _ | with_reducible refine Below.setCell ?_ (by dsimp only; omega) _)
end Go.Proofs.Ytnbpcgkdnkihdaa.iref
