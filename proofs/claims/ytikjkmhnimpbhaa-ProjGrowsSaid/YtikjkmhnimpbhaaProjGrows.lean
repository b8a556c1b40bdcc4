/-
  ProjGrows answers true for every matrix, times and one time more; no condition.
-/
import Derived.Test.YtikjkmhnimpbhaaProjG
import Derived.BigQuiet
namespace Go.Proofs.Ytikjkmhnimpbhaa.projGrows
open Go.Joins Go.ChangeShapes Go.WideShapes Go.ChangeAt Go.RowKit num dbm Go.Proofs.Ytikjkmhnimpbhaa.tight Go.Proofs.Ytikjkmhnimpbhaa.tlaw Go.Proofs.Ytikjkmhnimpbhaa.proj plaw rat
open bound hiding up
set_option linter.unusedVariables false
set_option linter.unusedSimpArgs false

theorem mayt_cons {rs : List (Int × Int)} (hm : MayT rs) : MayT ((0, 1) :: rs) := fun k hk => by
  cases k with
  | zero => exact (show MayR 0 1 from ⟨by decide, by decide, by decide, by decide, by decide⟩)
  | succ k => rw [pr_cons]; exact hm k (by simpa using hk)
/-- what both answers are, put together. -/
theorem grows_told {m m2 : Nat} {ts us : List Int} {rs : List (Int × Int)} {a b c1 c2 : Int} {r1 r2 : Bool} (h0 : 0 < m) (e2 : m2 = m + 1) (h4 : m < 4) (hus : us = growT m ts) (hi : IntsR rs)
    (k1 : (c1 = 8 ∧ r1 = false ∧ ¬ (MayD (m : Int) ts ∧ MayT rs)) ∨ (c1 = 40 ∧ r1 = false ∧ MayD (m : Int) ts ∧ MayT rs ∧ ¬ (rs.length : Int) = (m : Int) - 1) ∨ (c1 = 0 ∧ MayD (m : Int) ts ∧ MayT rs ∧ (rs.length : Int) = (m : Int) - 1 ∧ (r1 = true ↔ keptAll (m : Int).toNat ts ((0, 1) :: rs))))
    (k2 : (c2 = 8 ∧ r2 = false ∧ ¬ (MayD (m2 : Int) us ∧ MayT (rs ++ [(a, b)]))) ∨ (c2 = 40 ∧ r2 = false ∧ MayD (m2 : Int) us ∧ MayT (rs ++ [(a, b)]) ∧ ¬ ((rs ++ [(a, b)]).length : Int) = (m2 : Int) - 1) ∨ (c2 = 0 ∧ MayD (m2 : Int) us ∧ MayT (rs ++ [(a, b)]) ∧ ((rs ++ [(a, b)]).length : Int) = (m2 : Int) - 1 ∧ (r2 = true ↔ keptAll (m2 : Int).toNat us ((0, 1) :: (rs ++ [(a, b)]))))) :
    c1 ≠ 0 ∨ (c1 = 0 ∧ c2 ≠ 0) ∨ (c1 = 0 ∧ c2 = 0 ∧ r1 = r2) := by
  rcases k1 with ⟨rfl, _⟩ | ⟨rfl, _⟩ | ⟨rfl, _, ht1, hl1, hk1⟩
  · exact .inl (by decide)
  · exact .inl (by decide)
  · rcases k2 with ⟨rfl, _⟩ | ⟨rfl, _⟩ | ⟨rfl, _, ht2, hl2, hk2⟩
    · exact .inr (.inl ⟨rfl, by decide⟩)
    · exact .inr (.inl ⟨rfl, by decide⟩)
    · refine .inr (.inr ⟨rfl, rfl, Bool.eq_iff_iff.2 (hk1.trans (Iff.trans ?_ hk2.symm))⟩)
      rw [Int.toNat_natCast, Int.toNat_natCast, hus, e2]
      have hz : MayT ((0, 1) :: rs) := (with_zero hi ht1).2
      have hz2 : MayT ((0, 1) :: (rs ++ [(a, b)])) := mayt_cons ht2
      refine (grow_kept h0 h4 hz (by simp; omega) hz2 (by simp; omega) (fun i hin => ?_)).symm
      have : ((0, 1) :: (rs ++ [(a, b)]) : List (Int × Int)) = ((0, 1) :: rs) ++ [(a, b)] := rfl
      rw [this]
      unfold pr
      rw [List.getElem?_append_left (by simp; omega)]

set_option maxRecDepth 100000 in
set_option maxHeartbeats 2000000 in
theorem walk_far (n a b : Int) (sv tv : Value) (ts : List Int) (rs : List (Int × Int)) (w : World) (hI : law.Ints w.heap.size w sv ts) (hR : Rats w.heap.size w tv rs) (h : 1000 < ts.length ∨ (ts.length ≤ 1000 ∧ 100 < rs.length)) :
    Calls Try.prog 6 #[.agg #[.int .i64 n, sv], tv, .agg #[.int .i64 (a), .int .i64 (b)]] w fun e w' => e = .returned (.bool true) ∧ Below w.heap.size w w' := by
  have S := ((St.start w).add n sv ts hI).alloc (.cells #[.int .i64 a, .int .i64 b] 51)
  have X := lies.made_at (w.alloc (.cells #[.int .i64 n, sv] 24)) 51 #[.int .i64 a, .int .i64 b] (w.heap.size + 1) (World.size_alloc _ _)
  obtain ⟨ad, cap, rfl⟩ := ints_len hI
  obtain ⟨ad', cap', rfl⟩ := rats_len hR
  clear hI hR
  rcases h with h | ⟨h, h2⟩
  · have t1 : (1000 : Int) < ts.length := by omega
    go_enter Try.func6, Try.ntmps6
    go_wp2_with fail
    generalize (w.alloc (.cells #[.int .i64 n, .slice ad ts.length cap] 24)).alloc (.cells #[.int .i64 a, .int .i64 b] 51) = w0 at S X ⊢
    refine (alive_yes _).mono ?_
    rintro e w1 ⟨rfl, hB⟩
    replace S := S.below hB
    replace X := lies.on_call X hB
    clear hB
    obtain ⟨x0, x1, x2, x3, x4⟩ := lies.two S.head.1
    go_wp2_with fail
    go_ret
    exact ⟨rfl, S.1⟩
  · have t1 : ¬ (1000 : Int) < ts.length := by omega
    have t2 : (100 : Int) < rs.length := by omega
    go_enter Try.func6, Try.ntmps6
    go_wp2_with fail
    generalize (w.alloc (.cells #[.int .i64 n, .slice ad ts.length cap] 24)).alloc (.cells #[.int .i64 a, .int .i64 b] 51) = w0 at S X ⊢
    refine (alive_yes _).mono ?_
    rintro e w1 ⟨rfl, hB⟩
    replace S := S.below hB
    replace X := lies.on_call X hB
    clear hB
    obtain ⟨x0, x1, x2, x3, x4⟩ := lies.two S.head.1
    go_wp2_with fail
    go_ret
    exact ⟨rfl, S.1⟩

set_option maxRecDepth 100000 in
set_option maxHeartbeats 8000000 in
theorem walk_in (n a b : Int) (sv tv : Value) (ts : List Int) (rs : List (Int × Int)) (w : World) (hI : law.Ints w.heap.size w sv ts) (htop : Tops ts) (hR : Rats w.heap.size w tv rs) (hi : IntsR rs) (h : ts.length ≤ 1000) (h2 : rs.length ≤ 100) (a1 : -9223372036854775808 ≤ a) (a2 : a ≤ 9223372036854775807) (b1 : -9223372036854775808 ≤ b) (b2 : b ≤ 9223372036854775807) :
    Calls Try.prog 6 #[.agg #[.int .i64 n, sv], tv, .agg #[.int .i64 (a), .int .i64 (b)]] w fun e w' => e = .returned (.bool true) ∧ Below w.heap.size w w' := by
  have S := ((St.start w).add n sv ts hI).alloc (.cells #[.int .i64 a, .int .i64 b] 51)
  have X := lies.made_at (w.alloc (.cells #[.int .i64 n, sv] 24)) 51 #[.int .i64 a, .int .i64 b] (w.heap.size + 1) (World.size_alloc _ _)
  obtain ⟨ad, cap, rfl⟩ := ints_len hI
  obtain ⟨ad', cap', rfl⟩ := rats_len hR
  have HT := Lib.hid htop
  have HRR := Lib.hid hR
  have HII := Lib.hid hi
  have HAB : RowKit.Hid ((-9223372036854775808 ≤ a ∧ a ≤ 9223372036854775807) ∧ (-9223372036854775808 ≤ b ∧ b ≤ 9223372036854775807)) := Lib.hid ⟨⟨a1, a2⟩, b1, b2⟩
  have t1 : ¬ (1000 : Int) < ts.length := by omega
  have t2 : ¬ (100 : Int) < rs.length := by omega
  clear hI hR htop hi a1 a2 b1 b2
  go_enter Try.func6, Try.ntmps6
  go_wp2_with fail
  generalize (w.alloc (.cells #[.int .i64 n, .slice ad ts.length cap] 24)).alloc (.cells #[.int .i64 a, .int .i64 b] 51) = w0 at S X ⊢
  refine (alive_yes _).mono ?_
  rintro e w1 ⟨rfl, hB⟩
  replace S := S.below hB
  replace X := lies.on_call X hB
  clear hB
  obtain ⟨x0, x1, x2, x3, x4⟩ := lies.two S.head.1
  go_wp2_with fail
  clear x0 x1 x2 x3 x4
  refine (grow_any n _ ts _ S.head.2 (by omega) HT.out).mono ?_
  rintro e w2 ⟨hB, na, aa, la, ca, us, f, rfl, hG, hK⟩
  have hla := blk_len hK
  replace X := lies.on_alloc (lies.on_call X hB) (.cells #[.int .i64 na, .slice aa la ca] 24)
  have D2 := (S.below hB).head.1
  replace S := (S.below hB).add na _ us hK.ints
  have HG := Lib.hid hG
  clear hB hK hG
  by_cases hf : f = 0
  · subst hf
    obtain ⟨hm, h4, hna, hus⟩ := grow_zero HG.out
    obtain ⟨m, rfl, h0, hn, hl⟩ := may_nat hm
    rw [Int.toNat_natCast] at hna hus
    obtain ⟨m2, hm2⟩ : ∃ m2, m2 = m + 1 := ⟨_, rfl⟩
    rw [← hm2] at hna
    subst hna
    have hlus : us.length = m2 * m2 := by rw [hus, growT_length, hm2]
    have hl16 := sq_le (n := m2) (by omega)
    have HTU : RowKit.Hid (Tops us) := Lib.hid (by rw [hus]; exact grow_tops h0 (by omega) hl HT.out hm)
    have hmu : MayD (m2 : Int) us := by rw [hus, hm2]; exact grow_may h0 (by omega) hl HT.out hm
    have HKC : RowKit.Hid (Kc (m2 : Int) (m : Int)) := Lib.hid ⟨by omega, by omega⟩
    have HMU := Lib.hid hmu
    have HM := Lib.hid hm
    have HUS := Lib.hid hus
    have HM2 := Lib.hid hm2
    have HL := Lib.hid hl
    have hlu : us.length ≤ 1000 := by omega
    have hm4 : m < 4 := by omega
    clear hm hus hmu hm2 hl hlus hl16 HG h4 hla
    obtain ⟨x0, x1, x2, x3, x4⟩ := lies.two S.tail.head.1
    obtain ⟨y0, y1, y2, y3, y4⟩ := lies.two D2
    go_wp2_with fail
    clear x0 x1 x2 x3 x4 y0 y1 y2 y3 y4 D2
    generalize w2.alloc (.cells #[.int .i64 m2, .slice aa la ca] 24) = u2 at S X ⊢
    generalize w2.heap.size = B2 at S ⊢
    refine (drop_any (m2 : Int) (m : Int) _ us _ S.head.2 (by omega) HTU.out).mono ?_
    rintro e w3 ⟨hB, nb, ab, lb, cb, vs, f2, rfl, hR2, hK⟩
    replace X := lies.on_alloc (lies.on_call X hB) (.cells #[.int .i64 nb, .slice ab lb cb] 24)
    replace S := (S.below hB).add nb _ vs hK.ints
    have HR2 := Lib.hid hR2
    clear hB hK hR2
    obtain ⟨x0, x1, x2, x3, x4⟩ := lies.two S.tail.tail.head.1
    go_wp2_with fail
    clear x0 x1 x2 x3 x4
    generalize w3.alloc (.cells #[.int .i64 nb, .slice ab lb cb] 24) = u3 at S X ⊢
    generalize w3.heap.size = B3 at S ⊢
    refine (close_g (m : Int) _ ts _ S.tail.tail.head.2 (by omega) HT.out).mono ?_
    rintro e w4 ⟨hB, nc, ac, lc, cc, ws, f3, rfl, hR3, hK⟩
    obtain ⟨rfl, rfl, rfl⟩ : nb = nc ∧ vs = ws ∧ f2 = f3 := by
      rcases hR3 with ⟨hno, rfl, rfl, rfl⟩ | ⟨hok, rfl, rfl, rfl⟩
      · rw [if_pos HM.out]
        refine drop_none HR2.out HMU.out HKC.out (fun k => hno ?_)
        have := HM2.out
        have e := HUS.out
        rw [e, this] at k
        exact (grow_ok h0 (by omega) HL.out HT.out HM.out).1 k
      · have e := HUS.out
        have e2 := HM2.out
        have k : OkD (m2 : Int) us := by
          rw [e, e2]
          exact (grow_ok h0 (by omega) HL.out HT.out HM.out).2 hok
        obtain ⟨k1, k2, k3⟩ := drop_yes HR2.out k HKC.out
        rw [Int.toNat_natCast] at k1
        rw [Int.toNat_natCast, Int.toNat_natCast] at k2
        refine ⟨k1.trans (by rw [e2]; rfl), k2.trans ?_, k3⟩
        rw [e, e2]
        exact grow_drop h0 (by omega) HL.out HT.out HM.out hok
    have hlv : vs.length ≤ 1000 := by
      rcases hR3 with ⟨_, _, h, _⟩ | ⟨hok, _, h, _⟩
      · rw [h]; simp
      · rw [h, clT_length hok]; omega
    replace X := lies.on_alloc (lies.on_call X hB) (.cells #[.int .i64 nb, .slice ac lc cc] 24)
    replace S := (S.below hB).add nb _ vs hK.ints
    clear hB hK hR3 HR2
    have t4 : (f2 != f2) = false := by simp
    obtain ⟨x0, x1, x2, x3, x4⟩ := lies.two S.tail.head.1
    go_wp2_with fail
    clear x0 x1 x2 x3 x4 t4
    generalize w4.alloc (.cells #[.int .i64 nb, .slice ac lc cc] 24) = u4 at S X ⊢
    generalize w4.heap.size = B4 at S ⊢
    refine (dref.same_true nb _ _ vs vs _ S.tail.head.2 S.head.2 (by omega) rfl).mono ?_
    rintro e w5 ⟨rfl, hB⟩
    replace S := S.below hB
    replace X := lies.on_call X hB
    clear hB
    obtain ⟨x0, x1, x2, x3, x4⟩ := lies.two S.tail.tail.tail.head.1
    go_wp2_with fail
    clear x0 x1 x2 x3 x4
    refine (dkeeps_any (m : Int) _ _ ts rs _ S.tail.tail.tail.head.2 (by omega) HT.out ((HRR.out.below S.1).mono S.1.size) HII.out (by omega)).mono ?_
    rintro e w6 ⟨hB, r1, c1, rfl, hc⟩
    have HC1 := Lib.hid hc
    replace S := S.below hB
    replace X := lies.on_call X hB
    clear hB hc
    go_wp2_with fail
    obtain ⟨HG1, IG⟩ := S.tail.tail.head
    have K0 := S.1
    clear S
    refine wp_region_held_drew (S := Below w6.heap.size w6) (by kernel_rfl) (dbm.drawn1 (Below.refl _ _)) (fun hHeld => ?_)
    refine wpAnyH_take (i := 0) (v := ?_) rfl (by kernel_rfl) (by kernel_rfl) (by kernel_rfl) (fun _ _ _ h => h) (Or.inl ⟨by rfl, ?_⟩) hHeld ?_
    rotate_left
    · intro w hSw; obtain ⟨a0, a1⟩ := dlaw.at_s HG1 hSw; go_simp; try with_reducible rfl
    try simp only [Act.put, List.getElem_toArray, List.getElem_cons_zero, List.getElem_cons_succ, List.setIfInBounds_toArray, List.set_cons_zero, List.set_cons_succ]
    refine wpAnyH_take (i := 2) (v := ?_) rfl (by kernel_rfl) (by kernel_rfl) (by kernel_rfl) (fun _ _ _ h => h) (Or.inl ⟨by rfl, ?_⟩) hHeld ?_
    rotate_left
    · intro w hSw; skip; go_simp; try with_reducible rfl
    try simp only [Act.put, List.getElem_toArray, List.getElem_cons_zero, List.getElem_cons_succ, List.setIfInBounds_toArray, List.set_cons_zero, List.set_cons_succ]
    refine wpAnyH_take (i := 4) (v := ?_) rfl (by kernel_rfl) (by kernel_rfl) (by kernel_rfl) (fun _ _ _ h => h) (Or.inl ⟨by rfl, ?_⟩) hHeld ?_
    rotate_left
    · intro w hSw; obtain ⟨a0, a1⟩ := dlaw.at_s X hSw; go_simp; try with_reducible rfl
    try simp only [Act.put, List.getElem_toArray, List.getElem_cons_zero, List.getElem_cons_succ, List.setIfInBounds_toArray, List.set_cons_zero, List.set_cons_succ]
    refine wpAnyH_ready (rs := [1, 5]) (by kernel_rfl) (by simp) (AllReadyH.cons rfl (fun K hK => ?_) (AllReadyH.cons rfl (fun K hK => ?_) AllReadyH.nil))
    · go_simp
      have O := own_nil_at (w6.drew) 51 (w6.heap.size) (by simp)
      refine hK.out _ _ (hHeld.trans ((bound.up1 (w6.drew) (.cells #[] 51)).mono hHeld.size)) (fun hNew => ?_)
      clear hHeld hK K
      have hHeld := hNew
      clear hNew
      try simp only [Act.put, List.getElem_toArray, List.getElem_cons_zero, List.getElem_cons_succ, List.setIfInBounds_toArray, List.set_cons_zero, List.set_cons_succ]
      refine wpAnyH_ready (rs := [3, 5]) (by kernel_rfl) (by simp) (AllReadyH.cons rfl (fun K hK => ?_) (AllReadyH.cons rfl (fun K hK => ?_) AllReadyH.nil))
      · have RR : Rats w.heap.size ((w6.drew).alloc (.cells #[] 51)) (.slice ad' rs.length cap') rs := HRR.out.below (K0.trans (hHeld.mono K0.size))
        obtain ⟨v3, w7, hrun, O3, hgrow⟩ := app_any (w6.heap.size) 42 (.slice (some ⟨w6.heap.size, 0, none⟩) 0 0) (.slice ad' rs.length cap') 0 w.heap.size [] rs ((w6.drew).alloc (.cells #[] 51)) O RR (by omega) (by first | (simp; done) | (simp; omega))
        rw [if_pos (by rfl)]
        refine wp_append_run (.tmp 73) (.tmp 74) 42 rfl _ _ _ _ rfl rfl hrun ?_
        have hS7 := held_grown hHeld hHeld.size O (by omega) hgrow
        have hs7 := hgrow.size
        simp only [World.size_alloc, World.size_drew] at hs7
        clear hrun hgrow RR O
        refine hK.out _ _ hS7 (fun hNew => ?_)
        clear hS7
        have O := O3
        clear O3
        clear hHeld hK K
        have hHeld := hNew
        clear hNew
        try simp only [Act.put, List.getElem_toArray, List.getElem_cons_zero, List.getElem_cons_succ, List.setIfInBounds_toArray, List.set_cons_zero, List.set_cons_succ]
        refine wpAnyH_ready (rs := [5]) (by kernel_rfl) (by simp) (AllReadyH.cons rfl (fun K hK => ?_) AllReadyH.nil)
        go_simp
        have N := lies.made_at (w7) 51 #[.int .i64 a, .int .i64 b] (w7.heap.size) (by simp)
        refine hK.out _ _ (hHeld.trans ((bound.up1 (w7) (.cells #[.int .i64 a, .int .i64 b] 51)).mono hHeld.size)) (fun hNew => ?_)
        replace O := O.alloc (.cells #[.int .i64 a, .int .i64 b] 51)
        clear hHeld hK K
        have hHeld := hNew
        clear hNew
        try simp only [Act.put, List.getElem_toArray, List.getElem_cons_zero, List.getElem_cons_succ, List.setIfInBounds_toArray, List.set_cons_zero, List.set_cons_succ]
        refine wpAnyH_ready (rs := [6]) (by kernel_rfl) (by simp) (AllReadyH.cons rfl (fun K hK => ?_) AllReadyH.nil)
        obtain ⟨v8, w8, hrun, O8, hgrow⟩ := app_any (w6.heap.size) 42 v3 (.slice (some ⟨w7.heap.size, 0, none⟩) 1 1) (0 + rs.length) _ ([] ++ flat rs) [(a, b)] ((w7).alloc (.cells #[.int .i64 a, .int .i64 b] 51)) O (rats_one N) (by simp; omega) (by have := hHeld.size; first | omega | (simp only [World.size_alloc] at *; omega))
        rw [if_pos (by rfl)]
        refine wp_append_run (.tmp 75) (.tmp 77) 42 rfl _ _ _ _ rfl rfl hrun ?_
        have hS8 := held_grown hHeld hHeld.size O (by omega) hgrow
        refine hK.out _ _ hS8 (fun hNew => ?_)
        have hR8 : Rats w8.heap.size w8 v8 (rs ++ [(a, b)]) := rats_own (by simpa [flat_app] using O8) (by simp)
        clear hS8 hrun hgrow O O8 N
        clear hHeld hK K
        have hHeld := hNew
        clear hNew
        try simp only [Act.put, List.getElem_toArray, List.getElem_cons_zero, List.getElem_cons_succ, List.setIfInBounds_toArray, List.set_cons_zero, List.set_cons_succ]
        refine wpAnyH_ready (rs := [7]) (by kernel_rfl) (by simp) (AllReadyH.cons rfl (fun K hK => ?_) AllReadyH.nil)
        go_simp
        obtain ⟨va8, vc8, rfl⟩ := rats_len hR8
        refine (dkeeps_any (m2 : Int) _ _ us (rs ++ [(a, b)]) _ ((IG.below hHeld).mono hHeld.size) (by omega) HTU.out hR8 (ints_app HII.out HAB.out.1 HAB.out.2) (by simp; omega)).mono ?_
        rintro e w9 ⟨hB, r2, c2, rfl, hc⟩
        have HC2 := Lib.hid hc
        refine hK.out _ _ (hHeld.trans (hB.mono hHeld.size)) (fun hNew => ?_)
        clear hB hc hR8
        clear hHeld hK K
        have hHeld := hNew
        clear hNew
        try simp only [Act.put, List.getElem_toArray, List.getElem_cons_zero, List.getElem_cons_succ, List.setIfInBounds_toArray, List.set_cons_zero, List.set_cons_succ]
        refine wpAnyH_take (i := 8) (v := ?_) rfl (by kernel_rfl) (by kernel_rfl) (by kernel_rfl) (fun _ _ _ h => h) (Or.inl ⟨by rfl, ?_⟩) hHeld ?_
        rotate_left
        · intro w hSw; skip; go_simp; try with_reducible rfl
        try simp only [Act.put, List.getElem_toArray, List.getElem_cons_zero, List.getElem_cons_succ, List.setIfInBounds_toArray, List.set_cons_zero, List.set_cons_succ]
        refine wpAnyH_take (i := 9) (v := ?_) rfl (by kernel_rfl) (by kernel_rfl) (by kernel_rfl) (fun _ _ _ h => h) (Or.inl ⟨by rfl, ?_⟩) hHeld ?_
        rotate_left
        · intro w hSw; skip; go_simp; try with_reducible rfl
        try simp only [Act.put, List.getElem_toArray, List.getElem_cons_zero, List.getElem_cons_succ, List.setIfInBounds_toArray, List.set_cons_zero, List.set_cons_succ]
        refine wpAnyH_take (i := 10) (v := ?_) rfl (by kernel_rfl) (by kernel_rfl) (by kernel_rfl) (fun _ _ _ h => h) (Or.inl ⟨by rfl, ?_⟩) hHeld ?_
        rotate_left
        · intro w hSw; skip; go_simp; try with_reducible rfl
        try simp only [Act.put, List.getElem_toArray, List.getElem_cons_zero, List.getElem_cons_succ, List.setIfInBounds_toArray, List.set_cons_zero, List.set_cons_succ]
        refine wpAnyH_take (i := 11) (v := ?_) rfl (by kernel_rfl) (by kernel_rfl) (by kernel_rfl) (fun _ _ _ h => h) (Or.inl ⟨by rfl, ?_⟩) hHeld ?_
        rotate_left
        · intro w hSw; skip; go_simp; try with_reducible rfl
        try simp only [Act.put, List.getElem_toArray, List.getElem_cons_zero, List.getElem_cons_succ, List.setIfInBounds_toArray, List.set_cons_zero, List.set_cons_succ]
        refine wpAnyH_take (i := 12) (v := ?_) rfl (by kernel_rfl) (by kernel_rfl) (by kernel_rfl) (fun _ _ _ h => h) (Or.inl ⟨by rfl, ?_⟩) hHeld ?_
        rotate_left
        · intro w hSw; skip; go_simp; try with_reducible rfl
        try simp only [Act.put, List.getElem_toArray, List.getElem_cons_zero, List.getElem_cons_succ, List.setIfInBounds_toArray, List.set_cons_zero, List.set_cons_succ]
        refine wpAnyH_done (by kernel_rfl) ?_ _
        have KZ := K0.trans (hHeld.mono K0.size)
        have hcase := grows_told h0 HM2.out hm4 HUS.out HII.out HC1.out HC2.out
        clear hHeld HC1 HC2 HG1 IG X HUS HM2 HL HM HMU HKC HTU
        rcases hcase with h1 | ⟨rfl, h1⟩ | ⟨rfl, rfl, rfl⟩
        · have t6 : (c1 != 0) = true := by simpa using h1
          go_wp2_with fail
          go_ret
          exact ⟨rfl, KZ⟩
        · have t6 : (c2 != 0) = true := by simpa using h1
          go_wp2_with fail
          go_ret
          exact ⟨rfl, KZ⟩
        · have t6 : (r1 == r1) = true := by simp
          go_wp2_with fail
          go_ret
          exact ⟨rfl, KZ⟩
      · go_simp
        have N := lies.made_at ((w6.drew).alloc (.cells #[] 51)) 51 #[.int .i64 a, .int .i64 b] (w6.heap.size + 1) (by simp)
        refine hK.out _ _ (hHeld.trans ((bound.up1 ((w6.drew).alloc (.cells #[] 51)) (.cells #[.int .i64 a, .int .i64 b] 51)).mono hHeld.size)) (fun hNew => ?_)
        replace O := O.alloc (.cells #[.int .i64 a, .int .i64 b] 51)
        clear hHeld hK K
        have hHeld := hNew
        clear hNew
        try simp only [Act.put, List.getElem_toArray, List.getElem_cons_zero, List.getElem_cons_succ, List.setIfInBounds_toArray, List.set_cons_zero, List.set_cons_succ]
        refine wpAnyH_ready (rs := [3]) (by kernel_rfl) (by simp) (AllReadyH.cons rfl (fun K hK => ?_) AllReadyH.nil)
        have RR : Rats w.heap.size (((w6.drew).alloc (.cells #[] 51)).alloc (.cells #[.int .i64 a, .int .i64 b] 51)) (.slice ad' rs.length cap') rs := HRR.out.below (K0.trans (hHeld.mono K0.size))
        obtain ⟨v3, w7, hrun, O3, hgrow⟩ := app_any (w6.heap.size) 42 (.slice (some ⟨w6.heap.size, 0, none⟩) 0 0) (.slice ad' rs.length cap') 0 w.heap.size [] rs (((w6.drew).alloc (.cells #[] 51)).alloc (.cells #[.int .i64 a, .int .i64 b] 51)) O RR (by omega) (by first | (simp; done) | (simp; omega))
        rw [if_pos (by rfl)]
        refine wp_append_run (.tmp 73) (.tmp 74) 42 rfl _ _ _ _ rfl rfl hrun ?_
        have hS7 := held_grown hHeld hHeld.size O (by omega) hgrow
        have hs7 := hgrow.size
        simp only [World.size_alloc, World.size_drew] at hs7
        replace N := grown_lies N hgrow (by simp [Value.ownBlock])
        clear hrun hgrow RR O
        refine hK.out _ _ hS7 (fun hNew => ?_)
        clear hS7
        have O := O3
        clear O3
        clear hHeld hK K
        have hHeld := hNew
        clear hNew
        try simp only [Act.put, List.getElem_toArray, List.getElem_cons_zero, List.getElem_cons_succ, List.setIfInBounds_toArray, List.set_cons_zero, List.set_cons_succ]
        refine wpAnyH_ready (rs := [6]) (by kernel_rfl) (by simp) (AllReadyH.cons rfl (fun K hK => ?_) AllReadyH.nil)
        obtain ⟨v8, w8, hrun, O8, hgrow⟩ := app_any (w6.heap.size) 42 v3 (.slice (some ⟨w6.heap.size + 1, 0, none⟩) 1 1) (0 + rs.length) _ ([] ++ flat rs) [(a, b)] (w7) O (rats_one N) (by simp; omega) (by have := hHeld.size; first | omega | (simp only [World.size_alloc] at *; omega))
        rw [if_pos (by rfl)]
        refine wp_append_run (.tmp 75) (.tmp 77) 42 rfl _ _ _ _ rfl rfl hrun ?_
        have hS8 := held_grown hHeld hHeld.size O (by omega) hgrow
        refine hK.out _ _ hS8 (fun hNew => ?_)
        have hR8 : Rats w8.heap.size w8 v8 (rs ++ [(a, b)]) := rats_own (by simpa [flat_app] using O8) (by simp)
        clear hS8 hrun hgrow O O8 N
        clear hHeld hK K
        have hHeld := hNew
        clear hNew
        try simp only [Act.put, List.getElem_toArray, List.getElem_cons_zero, List.getElem_cons_succ, List.setIfInBounds_toArray, List.set_cons_zero, List.set_cons_succ]
        refine wpAnyH_ready (rs := [7]) (by kernel_rfl) (by simp) (AllReadyH.cons rfl (fun K hK => ?_) AllReadyH.nil)
        go_simp
        obtain ⟨va8, vc8, rfl⟩ := rats_len hR8
        refine (dkeeps_any (m2 : Int) _ _ us (rs ++ [(a, b)]) _ ((IG.below hHeld).mono hHeld.size) (by omega) HTU.out hR8 (ints_app HII.out HAB.out.1 HAB.out.2) (by simp; omega)).mono ?_
        rintro e w9 ⟨hB, r2, c2, rfl, hc⟩
        have HC2 := Lib.hid hc
        refine hK.out _ _ (hHeld.trans (hB.mono hHeld.size)) (fun hNew => ?_)
        clear hB hc hR8
        clear hHeld hK K
        have hHeld := hNew
        clear hNew
        try simp only [Act.put, List.getElem_toArray, List.getElem_cons_zero, List.getElem_cons_succ, List.setIfInBounds_toArray, List.set_cons_zero, List.set_cons_succ]
        refine wpAnyH_take (i := 8) (v := ?_) rfl (by kernel_rfl) (by kernel_rfl) (by kernel_rfl) (fun _ _ _ h => h) (Or.inl ⟨by rfl, ?_⟩) hHeld ?_
        rotate_left
        · intro w hSw; skip; go_simp; try with_reducible rfl
        try simp only [Act.put, List.getElem_toArray, List.getElem_cons_zero, List.getElem_cons_succ, List.setIfInBounds_toArray, List.set_cons_zero, List.set_cons_succ]
        refine wpAnyH_take (i := 9) (v := ?_) rfl (by kernel_rfl) (by kernel_rfl) (by kernel_rfl) (fun _ _ _ h => h) (Or.inl ⟨by rfl, ?_⟩) hHeld ?_
        rotate_left
        · intro w hSw; skip; go_simp; try with_reducible rfl
        try simp only [Act.put, List.getElem_toArray, List.getElem_cons_zero, List.getElem_cons_succ, List.setIfInBounds_toArray, List.set_cons_zero, List.set_cons_succ]
        refine wpAnyH_take (i := 10) (v := ?_) rfl (by kernel_rfl) (by kernel_rfl) (by kernel_rfl) (fun _ _ _ h => h) (Or.inl ⟨by rfl, ?_⟩) hHeld ?_
        rotate_left
        · intro w hSw; skip; go_simp; try with_reducible rfl
        try simp only [Act.put, List.getElem_toArray, List.getElem_cons_zero, List.getElem_cons_succ, List.setIfInBounds_toArray, List.set_cons_zero, List.set_cons_succ]
        refine wpAnyH_take (i := 11) (v := ?_) rfl (by kernel_rfl) (by kernel_rfl) (by kernel_rfl) (fun _ _ _ h => h) (Or.inl ⟨by rfl, ?_⟩) hHeld ?_
        rotate_left
        · intro w hSw; skip; go_simp; try with_reducible rfl
        try simp only [Act.put, List.getElem_toArray, List.getElem_cons_zero, List.getElem_cons_succ, List.setIfInBounds_toArray, List.set_cons_zero, List.set_cons_succ]
        refine wpAnyH_take (i := 12) (v := ?_) rfl (by kernel_rfl) (by kernel_rfl) (by kernel_rfl) (fun _ _ _ h => h) (Or.inl ⟨by rfl, ?_⟩) hHeld ?_
        rotate_left
        · intro w hSw; skip; go_simp; try with_reducible rfl
        try simp only [Act.put, List.getElem_toArray, List.getElem_cons_zero, List.getElem_cons_succ, List.setIfInBounds_toArray, List.set_cons_zero, List.set_cons_succ]
        refine wpAnyH_done (by kernel_rfl) ?_ _
        have KZ := K0.trans (hHeld.mono K0.size)
        have hcase := grows_told h0 HM2.out hm4 HUS.out HII.out HC1.out HC2.out
        clear hHeld HC1 HC2 HG1 IG X HUS HM2 HL HM HMU HKC HTU
        rcases hcase with h1 | ⟨rfl, h1⟩ | ⟨rfl, rfl, rfl⟩
        · have t6 : (c1 != 0) = true := by simpa using h1
          go_wp2_with fail
          go_ret
          exact ⟨rfl, KZ⟩
        · have t6 : (c2 != 0) = true := by simpa using h1
          go_wp2_with fail
          go_ret
          exact ⟨rfl, KZ⟩
        · have t6 : (r1 == r1) = true := by simp
          go_wp2_with fail
          go_ret
          exact ⟨rfl, KZ⟩
    · go_simp
      have N := lies.made_at (w6.drew) 51 #[.int .i64 a, .int .i64 b] (w6.heap.size) (by simp)
      refine hK.out _ _ (hHeld.trans ((bound.up1 (w6.drew) (.cells #[.int .i64 a, .int .i64 b] 51)).mono hHeld.size)) (fun hNew => ?_)
      clear hHeld hK K
      have hHeld := hNew
      clear hNew
      try simp only [Act.put, List.getElem_toArray, List.getElem_cons_zero, List.getElem_cons_succ, List.setIfInBounds_toArray, List.set_cons_zero, List.set_cons_succ]
      refine wpAnyH_ready (rs := [1]) (by kernel_rfl) (by simp) (AllReadyH.cons rfl (fun K hK => ?_) AllReadyH.nil)
      go_simp
      have O := own_nil_at ((w6.drew).alloc (.cells #[.int .i64 a, .int .i64 b] 51)) 51 (w6.heap.size + 1) (by simp)
      refine hK.out _ _ (hHeld.trans ((bound.up1 ((w6.drew).alloc (.cells #[.int .i64 a, .int .i64 b] 51)) (.cells #[] 51)).mono hHeld.size)) (fun hNew => ?_)
      replace N := lies.on_alloc N (.cells #[] 51)
      clear hHeld hK K
      have hHeld := hNew
      clear hNew
      try simp only [Act.put, List.getElem_toArray, List.getElem_cons_zero, List.getElem_cons_succ, List.setIfInBounds_toArray, List.set_cons_zero, List.set_cons_succ]
      refine wpAnyH_ready (rs := [3]) (by kernel_rfl) (by simp) (AllReadyH.cons rfl (fun K hK => ?_) AllReadyH.nil)
      have RR : Rats w.heap.size (((w6.drew).alloc (.cells #[.int .i64 a, .int .i64 b] 51)).alloc (.cells #[] 51)) (.slice ad' rs.length cap') rs := HRR.out.below (K0.trans (hHeld.mono K0.size))
      obtain ⟨v3, w7, hrun, O3, hgrow⟩ := app_any (w6.heap.size + 1) 42 (.slice (some ⟨w6.heap.size + 1, 0, none⟩) 0 0) (.slice ad' rs.length cap') 0 w.heap.size [] rs (((w6.drew).alloc (.cells #[.int .i64 a, .int .i64 b] 51)).alloc (.cells #[] 51)) O RR (by omega) (by first | (simp; done) | (simp; omega))
      rw [if_pos (by rfl)]
      refine wp_append_run (.tmp 73) (.tmp 74) 42 rfl _ _ _ _ rfl rfl hrun ?_
      have hS7 := held_grown hHeld hHeld.size O (by omega) hgrow
      have hs7 := hgrow.size
      simp only [World.size_alloc, World.size_drew] at hs7
      replace N := grown_lies N hgrow (by simp [Value.ownBlock])
      clear hrun hgrow RR O
      refine hK.out _ _ hS7 (fun hNew => ?_)
      clear hS7
      have O := O3
      clear O3
      clear hHeld hK K
      have hHeld := hNew
      clear hNew
      try simp only [Act.put, List.getElem_toArray, List.getElem_cons_zero, List.getElem_cons_succ, List.setIfInBounds_toArray, List.set_cons_zero, List.set_cons_succ]
      refine wpAnyH_ready (rs := [6]) (by kernel_rfl) (by simp) (AllReadyH.cons rfl (fun K hK => ?_) AllReadyH.nil)
      obtain ⟨v8, w8, hrun, O8, hgrow⟩ := app_any (w6.heap.size + 1) 42 v3 (.slice (some ⟨w6.heap.size, 0, none⟩) 1 1) (0 + rs.length) _ ([] ++ flat rs) [(a, b)] (w7) O (rats_one N) (by simp; omega) (by have := hHeld.size; first | omega | (simp only [World.size_alloc] at *; omega))
      rw [if_pos (by rfl)]
      refine wp_append_run (.tmp 75) (.tmp 77) 42 rfl _ _ _ _ rfl rfl hrun ?_
      have hS8 := held_grown hHeld hHeld.size O (by omega) hgrow
      refine hK.out _ _ hS8 (fun hNew => ?_)
      have hR8 : Rats w8.heap.size w8 v8 (rs ++ [(a, b)]) := rats_own (by simpa [flat_app] using O8) (by simp)
      clear hS8 hrun hgrow O O8 N
      clear hHeld hK K
      have hHeld := hNew
      clear hNew
      try simp only [Act.put, List.getElem_toArray, List.getElem_cons_zero, List.getElem_cons_succ, List.setIfInBounds_toArray, List.set_cons_zero, List.set_cons_succ]
      refine wpAnyH_ready (rs := [7]) (by kernel_rfl) (by simp) (AllReadyH.cons rfl (fun K hK => ?_) AllReadyH.nil)
      go_simp
      obtain ⟨va8, vc8, rfl⟩ := rats_len hR8
      refine (dkeeps_any (m2 : Int) _ _ us (rs ++ [(a, b)]) _ ((IG.below hHeld).mono hHeld.size) (by omega) HTU.out hR8 (ints_app HII.out HAB.out.1 HAB.out.2) (by simp; omega)).mono ?_
      rintro e w9 ⟨hB, r2, c2, rfl, hc⟩
      have HC2 := Lib.hid hc
      refine hK.out _ _ (hHeld.trans (hB.mono hHeld.size)) (fun hNew => ?_)
      clear hB hc hR8
      clear hHeld hK K
      have hHeld := hNew
      clear hNew
      try simp only [Act.put, List.getElem_toArray, List.getElem_cons_zero, List.getElem_cons_succ, List.setIfInBounds_toArray, List.set_cons_zero, List.set_cons_succ]
      refine wpAnyH_take (i := 8) (v := ?_) rfl (by kernel_rfl) (by kernel_rfl) (by kernel_rfl) (fun _ _ _ h => h) (Or.inl ⟨by rfl, ?_⟩) hHeld ?_
      rotate_left
      · intro w hSw; skip; go_simp; try with_reducible rfl
      try simp only [Act.put, List.getElem_toArray, List.getElem_cons_zero, List.getElem_cons_succ, List.setIfInBounds_toArray, List.set_cons_zero, List.set_cons_succ]
      refine wpAnyH_take (i := 9) (v := ?_) rfl (by kernel_rfl) (by kernel_rfl) (by kernel_rfl) (fun _ _ _ h => h) (Or.inl ⟨by rfl, ?_⟩) hHeld ?_
      rotate_left
      · intro w hSw; skip; go_simp; try with_reducible rfl
      try simp only [Act.put, List.getElem_toArray, List.getElem_cons_zero, List.getElem_cons_succ, List.setIfInBounds_toArray, List.set_cons_zero, List.set_cons_succ]
      refine wpAnyH_take (i := 10) (v := ?_) rfl (by kernel_rfl) (by kernel_rfl) (by kernel_rfl) (fun _ _ _ h => h) (Or.inl ⟨by rfl, ?_⟩) hHeld ?_
      rotate_left
      · intro w hSw; skip; go_simp; try with_reducible rfl
      try simp only [Act.put, List.getElem_toArray, List.getElem_cons_zero, List.getElem_cons_succ, List.setIfInBounds_toArray, List.set_cons_zero, List.set_cons_succ]
      refine wpAnyH_take (i := 11) (v := ?_) rfl (by kernel_rfl) (by kernel_rfl) (by kernel_rfl) (fun _ _ _ h => h) (Or.inl ⟨by rfl, ?_⟩) hHeld ?_
      rotate_left
      · intro w hSw; skip; go_simp; try with_reducible rfl
      try simp only [Act.put, List.getElem_toArray, List.getElem_cons_zero, List.getElem_cons_succ, List.setIfInBounds_toArray, List.set_cons_zero, List.set_cons_succ]
      refine wpAnyH_take (i := 12) (v := ?_) rfl (by kernel_rfl) (by kernel_rfl) (by kernel_rfl) (fun _ _ _ h => h) (Or.inl ⟨by rfl, ?_⟩) hHeld ?_
      rotate_left
      · intro w hSw; skip; go_simp; try with_reducible rfl
      try simp only [Act.put, List.getElem_toArray, List.getElem_cons_zero, List.getElem_cons_succ, List.setIfInBounds_toArray, List.set_cons_zero, List.set_cons_succ]
      refine wpAnyH_done (by kernel_rfl) ?_ _
      have KZ := K0.trans (hHeld.mono K0.size)
      have hcase := grows_told h0 HM2.out hm4 HUS.out HII.out HC1.out HC2.out
      clear hHeld HC1 HC2 HG1 IG X HUS HM2 HL HM HMU HKC HTU
      rcases hcase with h1 | ⟨rfl, h1⟩ | ⟨rfl, rfl, rfl⟩
      · have t6 : (c1 != 0) = true := by simpa using h1
        go_wp2_with fail
        go_ret
        exact ⟨rfl, KZ⟩
      · have t6 : (c2 != 0) = true := by simpa using h1
        go_wp2_with fail
        go_ret
        exact ⟨rfl, KZ⟩
      · have t6 : (r1 == r1) = true := by simp
        go_wp2_with fail
        go_ret
        exact ⟨rfl, KZ⟩
  · have hnil := grow_nil HG.out hf
    have t5 : (f != 0) = true := by simpa using hf
    rw [hnil] at hla
    obtain rfl : la = 0 := hla
    clear hnil hf HG
    go_wp2_with fail
    go_ret
    exact ⟨rfl, S.1⟩

theorem walk (n a b : Int) (sv tv : Value) (ts : List Int) (rs : List (Int × Int)) (w : World) (hI : law.Ints w.heap.size w sv ts) (htop : Tops ts) (hR : Rats w.heap.size w tv rs) (hi : IntsR rs) (a1 : -9223372036854775808 ≤ a) (a2 : a ≤ 9223372036854775807) (b1 : -9223372036854775808 ≤ b) (b2 : b ≤ 9223372036854775807) :
    Calls Try.prog 6 #[.agg #[.int .i64 n, sv], tv, .agg #[.int .i64 (a), .int .i64 (b)]] w fun e w' => e = .returned (.bool true) ∧ Below w.heap.size w w' := by
  by_cases h : 1000 < ts.length ∨ (ts.length ≤ 1000 ∧ 100 < rs.length)
  · exact walk_far n a b sv tv ts rs w hI hR h
  · exact walk_in n a b sv tv ts rs w hI htop hR hi (by omega) (by omega) a1 a2 b1 b2

set_option maxRecDepth 100000 in
theorem lifted (os : Os) (started : os.Started) (H : Type) (enc : TypeId × Value → H) :
    ReturnsInHanded {} Try.checked os 6 .any (Rows.projGrowsSpec.pre6 enc Try.prog Try.f6 Rows.projGrowsRow.domain false) (Rows.projGrowsSpec.post enc Try.prog Try.f6 false true false false) := by
  refine returnsInHanded_of_change (C := Try.checked) law.own started (by kernel_rfl) Try.func6
    (ChangeSpec.witness6 (enc := enc) (C := Try.checked) false ⟨#[], #[.agg #[.int .i64 0, .slice none 0 0], .slice none 0 0, .agg #[.int .i64 0, .int .i64 0]], []⟩ 8 (by kernel_rfl) (by kernel_rfl) (by kernel_rfl) (by kernel_rfl)) ?_
  intro W base args ds gs before hval0 hW _ _
  have hval : ∀ (j : Nat) t v, Try.f6.params[j]? = some t → args[j]? = some v → Value.okWide Try.prog W .any base t v := hval0
  have hW' := hW
  obtain ⟨p, q, hA0, hV, rfl, _, _⟩ := hW
  have hA : DataW.TrodAll enc Try.prog W 0 (fun _ => true) true Try.f6.params.toList args.toList ds p := hA0
  rw [Try.params6] at hA hval
  obtain ⟨v0, vs0, d0, ds0, p0, q0, hargs, rfl, rfl, h0, r0⟩ := trodAll_cons hA
  obtain ⟨v1, vs1, d1, ds1, p1, q1, rfl, rfl, rfl, h1, r1⟩ := trodAll_cons r0
  obtain ⟨v2, vs2, d2, ds2, p2, q2, rfl, rfl, rfl, h2, r2⟩ := trodAll_cons r1
  obtain ⟨rfl, rfl, rfl⟩ := trodAll_nil r2
  obtain rfl : args = #[v0, v1, v2] := by cases args; simp_all
  obtain ⟨n0, sv0, ts0, rfl, _, hwf0, hI0, _⟩ := dlaw.open_dbm (hval 0 24 v0 rfl rfl) h0
  obtain ⟨rs1, hi1, hR1, _⟩ := open_rats (hval 1 42 v1 rfl rfl) h1
  obtain ⟨a2, b2, rfl, x2, y2⟩ := plaw.open_rat (hval 2 51 v2 rfl rfl) h2
  refine (walk n0 a2 b2 sv0 v1 ts0 rs1 W hI0 (fun z hz => law.wf_hi (hwf0 z hz)) hR1 hi1 (law.wf_lo x2) (law.wf_hi x2) (law.wf_lo y2) (law.wf_hi y2)).mono fun e W' ⟨he, hB⟩ => ?_
  subst he
  exact ⟨_, rfl, law.post_true law.laidOut (by kernel_rfl) rfl Try.underlying4 rfl hW' (fun h => by subst h; rfl) hB⟩

theorem proved : Rows.ProjGrowsSaid :=
  OpenClaim.holds_of_wide 6 Try.f6 rfl rfl rfl rfl rfl rfl rfl ⟨rfl, rfl, rfl, rfl, rfl⟩ rfl rfl rfl rfl rfl (by kernel_rfl) Try.func6 (by kernel_rfl)
    (of_decide_eq_true (by kernel_rfl)) (by unfold Func.isWrapper; first | (rw [if_pos (by decide +kernel)]; kernel_rfl) | (rw [if_neg (by decide +kernel)]; exact ⟨rfl, rfl⟩))
    (fun os started H enc _ => lifted os started H enc)
#print axioms proved
end Go.Proofs.Ytikjkmhnimpbhaa.projGrows
