/-
  ProjDrops answers true for every matrix, clock and times; no condition.
-/
import Derived.Test.YtikjkmhnimpbhaaProjG
import Derived.BigQuiet
namespace Go.Proofs.Ytikjkmhnimpbhaa.projDrops
open Go.Joins Go.ChangeShapes Go.WideShapes Go.ChangeAt Go.RowKit num dbm Go.Proofs.Ytikjkmhnimpbhaa.tight Go.Proofs.Ytikjkmhnimpbhaa.tlaw Go.Proofs.Ytikjkmhnimpbhaa.proj plaw rat Go.Proofs.Ytikjkmhnimpbhaa.incl
open bound hiding up
set_option linter.unusedVariables false
set_option linter.unusedSimpArgs false

/-- the order that brings each clock back. -/
def upL (m q k : Nat) : List Int := (List.range k).map fun i => (upT m q i : Int)
theorem upL_length (m q k : Nat) : (upL m q k).length = k := by simp [upL]
theorem upL_up (m q k : Nat) : upL m q (k + 1) = upL m q k ++ [(upT m q k : Int)] := by
  unfold upL
  rw [List.range_succ, List.map_append]
  rfl
theorem upL_at {m q k i : Nat} (h : i < k) : (upL m q k)[i]?.getD 0 = (upT m q i : Int) := by simp [upL, h]
theorem upL_ordF {m q i : Nat} (h : i < m) : ordF (upL m q m) i = upT m q i := by
  unfold ordF
  rw [upL_at h]
  exact Int.toNat_natCast _
theorem upL_one {m q : Nat} (h : 1 ≤ q) : upL m q 1 = [0] := by
  have : upT m q 0 = 0 := by unfold upT; rw [if_neg (by omega), if_neg (by omega)]
  unfold upL
  simp [this]
theorem upL_ord {m q : Nat} (h1 : 1 ≤ q) (h2 : q < m) : proj.Ord m (upL m q m) := by
  refine ⟨upL_length _ _ _, ?_, fun v hv => ?_⟩
  · rw [upL_at (by omega)]
    have : upT m q 0 = 0 := by unfold upT; rw [if_neg (by omega), if_neg (by omega)]
    rw [this]; rfl
  · obtain ⟨i, hi, e⟩ : ∃ i, i < m ∧ upT m q i = v := by
      unfold upT
      by_cases e1 : v = m - 1
      · exact ⟨q, h2, by rw [if_pos rfl, e1]⟩
      · by_cases e2 : v < q
        · exact ⟨v, hv, by rw [if_neg (by omega), if_neg (by omega)]⟩
        · exact ⟨v + 1, by omega, by rw [if_neg (by omega), if_pos (by omega)]; omega⟩
    exact List.mem_map.2 ⟨i, List.mem_range.2 hi, by rw [e]⟩
theorem move_like {m : Nat} {o p : Nat → Nat} (ts : List Int) (h0 : 0 < m) (h : ∀ i, i < m → o i = p i) : moveT m o ts = moveT m p ts := by
  unfold moveT laidT
  refine List.map_congr_left fun x hx => ?_
  have hx := List.mem_range.1 hx
  rw [h _ ((Nat.div_lt_iff_lt_mul h0).2 hx), h _ (Nat.mod_lt x h0)]
/-- what is free of a clock lies around the matrix. -/
theorem free_in {m q : Nat} {ts : List Int} (hn : m ≤ 4) (h2 : 2 ≤ m) (hq : q < m) (hl : ts.length = m * m) (htop : Tops ts) (h : OkD m ts) : inV (m : Int) ts (freeT m q ts) := fun _ p hp => by
  have h0 : 0 < m := by omega
  rw [hl] at hp
  have hi : p / m < m := (Nat.div_lt_iff_lt_mul h0).2 hp
  have hj : p % m < m := Nat.mod_lt p h0
  have e : p / m * m + p % m = p := by rw [Nat.mul_comm]; exact Nat.div_add_mod p m
  have ef := free_at hn h2 hq hl htop h hi hj
  have et : tat (clT (m : Int) ts) m (p / m) (p % m) = (clT (m : Int) ts)[p]?.getD 0 := by unfold tat; rw [e]
  have ef' : tat (freeT m q ts) m (p / m) (p % m) = (freeT m q ts)[p]?.getD 0 := by unfold tat; rw [e]
  rw [← et, ← ef', ef]
  by_cases c : p / m ≠ q ∧ p % m ≠ q
  · rw [if_pos c]
    exact Int.le_refl _
  · rw [if_neg c]
    by_cases d : p / m = p % m
    · rw [if_pos d, clT_nat h0, ← d]
      rw [closed_diag h0 hn hl htop h.1.2.2.2 (fun k hk => h.2.2 k (by simpa using hk)) hi]
      exact Int.le_refl _
    · rw [if_neg d]
      exact tat_top (clT_tops htop) m _ _
/-- the times without one. -/
def lessT (q : Nat) (rs : List (Int × Int)) : List (Int × Int) := rs.take (q - 1) ++ rs.drop q
theorem lessT_length {q : Nat} {rs : List (Int × Int)} (h1 : 1 ≤ q) (h2 : q ≤ rs.length) : (lessT q rs).length + 1 = rs.length := by
  unfold lessT
  simp
  omega
theorem lessT_pr {q i : Nat} {rs : List (Int × Int)} (h1 : 1 ≤ q) (h2 : q ≤ rs.length) : pr (lessT q rs) i = pr rs (sk q (i + 1) - 1) := by
  unfold pr lessT sk
  by_cases h : i < q - 1
  · rw [List.getElem?_append_left (by simp; omega), List.getElem?_take, if_pos h, if_pos (by omega)]
    rfl
  · rw [List.getElem?_append_right (by simp; omega), if_neg (by omega), List.getElem?_drop]
    have : q + (i - (List.take (q - 1) rs).length) = i + 1 + 1 - 1 := by simp; omega
    rw [this]
theorem less_all {P : Int × Int → Prop} {q : Nat} {rs : List (Int × Int)} (h1 : 1 ≤ q) (h2 : q ≤ rs.length) (h : ∀ k, k < rs.length → P (pr rs k)) : ∀ k, k < (lessT q rs).length → P (pr (lessT q rs) k) := fun k hk => by
  have := lessT_length h1 h2
  rw [lessT_pr h1 h2]
  refine h _ ?_
  unfold sk
  split <;> omega
theorem less_kept {m q : Nat} {ts : List Int} {rs : List (Int × Int)} (hn : m ≤ 4) (h1 : 1 ≤ q) (hq : q < m) (hl : ts.length = m * m) (htop : Tops ts) (h : OkD m ts) (hm : MayD ((m - 1 : Nat) : Int) (dropT m q ts)) (hi : IntsR rs) (ht : MayT rs) (hr : rs.length + 1 = m) (hk : keptAll m ts ((0, 1) :: rs)) : keptAll (m - 1) (dropT m q ts) ((0, 1) :: lessT q rs) := by
  have hll := lessT_length (rs := rs) h1 (by omega)
  refine drop_kept (by omega) hn hl htop h hm (with_zero hi ht).2 (by simp; omega) (with_zero (less_all (P := fun x => (-9223372036854775808 ≤ x.1 ∧ x.1 ≤ 9223372036854775807) ∧ (-9223372036854775808 ≤ x.2 ∧ x.2 ≤ 9223372036854775807)) h1 (by omega) hi) (less_all (P := fun x => MayR x.1 x.2) h1 (by omega) ht)).2 (by simp; omega) (fun i hi' => ?_) hk
  cases i with
  | zero =>
    have : sk q 0 = 0 := by unfold sk; rw [if_pos (by omega)]
    rw [this]; rfl
  | succ i =>
    rw [pr_cons, lessT_pr h1 (by omega)]
    obtain ⟨x, hx⟩ : ∃ x, sk q (i + 1) = x + 1 := ⟨sk q (i + 1) - 1, by unfold sk; split <;> omega⟩
    rw [hx, pr_cons]
    rfl

set_option maxRecDepth 100000 in
set_option maxHeartbeats 2000000 in
theorem walk_far (n k : Int) (sv tv : Value) (ts : List Int) (rs : List (Int × Int)) (w : World) (hI : law.Ints w.heap.size w sv ts) (hR : Rats w.heap.size w tv rs) (h : 1000 < ts.length ∨ (ts.length ≤ 1000 ∧ 100 < rs.length)) :
    Calls Try.prog 5 #[.agg #[.int .i64 n, sv], .int .i64 k, tv] w fun e w' => e = .returned (.bool true) ∧ Below w.heap.size w w' := by
  have S := (St.start w).add n sv ts hI
  obtain ⟨ad, cap, rfl⟩ := ints_len hI
  obtain ⟨ad', cap', rfl⟩ := rats_len hR
  clear hI hR
  rcases h with h | ⟨h, h2⟩
  · have t1 : (1000 : Int) < ts.length := by omega
    go_enter Try.func5, Try.ntmps5
    go_wp2_with fail
    generalize w.alloc (.cells #[.int .i64 n, .slice ad ts.length cap] 24) = w0 at S ⊢
    refine (alive_yes _).mono ?_
    rintro e w1 ⟨rfl, hB⟩
    replace S := S.below hB
    clear hB
    obtain ⟨x0, x1, x2, x3, x4⟩ := lies.two S.head.1
    go_wp2_with fail
    go_ret
    exact ⟨rfl, S.1⟩
  · have t1 : ¬ (1000 : Int) < ts.length := by omega
    have t2 : (100 : Int) < rs.length := by omega
    go_enter Try.func5, Try.ntmps5
    go_wp2_with fail
    generalize w.alloc (.cells #[.int .i64 n, .slice ad ts.length cap] 24) = w0 at S ⊢
    refine (alive_yes _).mono ?_
    rintro e w1 ⟨rfl, hB⟩
    replace S := S.below hB
    clear hB
    obtain ⟨x0, x1, x2, x3, x4⟩ := lies.two S.head.1
    go_wp2_with fail
    go_ret
    exact ⟨rfl, S.1⟩

set_option maxRecDepth 100000 in
set_option maxHeartbeats 8000000 in
theorem walk_in (n k : Int) (sv tv : Value) (ts : List Int) (rs : List (Int × Int)) (w : World) (hI : law.Ints w.heap.size w sv ts) (htop : Tops ts) (hR : Rats w.heap.size w tv rs) (hi : IntsR rs) (hcp : ∀ a l c, tv = .slice a l c → l ≤ c) (h : ts.length ≤ 1000) (h2 : rs.length ≤ 100) :
    Calls Try.prog 5 #[.agg #[.int .i64 n, sv], .int .i64 k, tv] w fun e w' => e = .returned (.bool true) ∧ Below w.heap.size w w' := by
  have S := (St.start w).add n sv ts hI
  obtain ⟨ad, cap, rfl⟩ := ints_len hI
  obtain ⟨ad', cap', rfl⟩ := rats_len hR
  have hcp' : rs.length ≤ cap' := hcp _ _ _ rfl
  clear hcp
  have HT := Lib.hid htop
  have HRR := Lib.hid hR
  have HII := Lib.hid hi
  have t1 : ¬ (1000 : Int) < ts.length := by omega
  have t2 : ¬ (100 : Int) < rs.length := by omega
  clear hI hR htop hi
  go_enter Try.func5, Try.ntmps5
  go_wp2_with fail
  generalize w.alloc (.cells #[.int .i64 n, .slice ad ts.length cap] 24) = w0 at S ⊢
  refine (alive_yes _).mono ?_
  rintro e w1 ⟨rfl, hB⟩
  replace S := S.below hB
  clear hB
  obtain ⟨x0, x1, x2, x3, x4⟩ := lies.two S.head.1
  go_wp2_with fail
  clear x0 x1 x2 x3 x4
  refine (drop_any n k _ ts _ S.head.2 (by omega) HT.out).mono ?_
  rintro e w2 ⟨hB, na, aa, la, ca, us, f, rfl, hR, hK⟩
  replace S := (S.below hB).add na _ us hK.ints
  have HR := Lib.hid hR
  clear hB hK hR
  by_cases hf : f = 0
  · subst hf
    obtain ⟨hok, hkj, hna, hus⟩ := drop_zero HR.out
    obtain ⟨m, rfl, h0, hn, hl⟩ := may_nat hok.1
    rw [Int.toNat_natCast] at hna hus
    obtain ⟨q, rfl⟩ : ∃ q : Nat, k = q := ⟨k.toNat, by have := hkj.1; omega⟩
    rw [Int.toNat_natCast] at hus
    obtain ⟨m1, hm1⟩ : ∃ m1, m1 = m - 1 := ⟨_, rfl⟩
    rw [← hm1] at hna
    subst hna
    obtain ⟨kj1, kj2⟩ := hkj
    have q1 : 1 ≤ q := by omega
    have q2 : q < m := by omega
    have hla : us.length ≤ 1000 := by
      rw [hus, dropT_length]
      have := sq_le (n := m - 1) (by omega)
      omega
    have HTU : RowKit.Hid (Tops us) := Lib.hid (by rw [hus]; exact dropT_tops h0 hn hl HT.out hok)
    clear HR
    by_cases ha : MayD (m1 : Int) us
    · have hoa : OkD (m1 : Int) us := by
        rw [hus, hm1] at ha ⊢
        exact (dropT_own h0 hn hl HT.out hok (by omega) ha).1
      have HMU := Lib.hid ha
      have HOK := Lib.hid hok
      have HOA := Lib.hid hoa
      have HUS := Lib.hid hus
      have HL := Lib.hid hl
      have HM1 := Lib.hid hm1
      have m1l : m1 < 4 := by omega
      clear ha hok hoa hus hl hm1 kj1 kj2
      go_wp2_with fail
      generalize w2.alloc (.cells #[.int .i64 m1, .slice aa la ca] 24) = u2 at S ⊢
      generalize w2.heap.size = B2 at S ⊢
      refine (check4_any (m1 : Int) _ us _ S.head.2 (by omega) HTU.out).mono ?_
      rintro e w3 ⟨rfl, hB⟩
      replace S := S.below hB
      clear hB
      have e2 : chkD (m1 : Int) us = 0 := if_pos HMU.out
      rw [e2]
      clear e2
      obtain ⟨x0, x1, x2, x3, x4⟩ := lies.two S.tail.head.1
      go_wp2_with fail
      clear x0 x1 x2 x3 x4
      refine (dkeeps_any (m : Int) _ _ ts rs _ S.tail.head.2 (by omega) HT.out ((HRR.out.below S.1).mono S.1.size) HII.out (by omega)).mono ?_
      rintro e w4 ⟨hB, r1, c1, rfl, hc⟩
      replace S := S.below hB
      have HC1 := Lib.hid hc
      clear hB hc
      by_cases hkept : c1 = 0 ∧ r1 = true
      · obtain ⟨rfl, rfl⟩ := hkept
        obtain ⟨hmt, hlr, hk1⟩ : MayT rs ∧ rs.length + 1 = m ∧ keptAll m ts ((0, 1) :: rs) := by
          rcases HC1.out with ⟨h, _⟩ | ⟨h, _⟩ | ⟨_, _, h, h', h''⟩
          · exact absurd h (by decide)
          · exact absurd h (by decide)
          · rw [Int.toNat_natCast] at h''
            exact ⟨h, by omega, h''.1 rfl⟩
        have HMT := Lib.hid hmt
        have HK1 := Lib.hid hk1
        have hlr' := hlr
        have HLR := Lib.hid hlr
        clear hmt hk1 HC1 hlr
        obtain ⟨qb, qo, qc, eo, htb, htr⟩ : ∃ b off c, Value.slice ad' rs.length cap' = .slice (some ⟨b, off, none⟩) rs.length c ∧ b < w.heap.size ∧ RowR w b off rs := by
          rcases HRR.out with ⟨_, h⟩ | h
          · rw [h] at hlr'; simp at hlr'; omega
          · exact h
        injection eo with eo1 eo2 eo3
        subst eo1
        subst eo3
        clear eo2
        have z1 : wrap64 ((q : Int) - 1) = ((q - 1 : Nat) : Int) := by rw [IntWalk.wrap64_in _ ⟨by omega, by omega⟩]; omega
        have z2 : IntKind.i64.wrap ((q : Int) - 1) = ((q - 1 : Nat) : Int) := by rw [IntWalk.i64_in _ ⟨by omega, by omega⟩]; omega
        have z3 : q ≤ cap' + 1 := by omega
        have z4 : q ≤ rs.length := by omega
        obtain ⟨v5, w5, hrun, hown, hgrow⟩ := app_any w4.heap.size 42 (.slice none 0 0) (.slice (some ⟨qb, qo, none⟩) (q - 1) cap') 0 w.heap.size [] (rs.take (q - 1)) w4 (World.ownsRow_nil _ _ _ _) (rats_take (htr.below S.1 htb) htb (q - 1) (by omega)) (by simp; omega) (Nat.le_refl _)
        have HB5 := held_grown (Below.refl w4.heap.size w4) (Nat.le_refl _) (World.ownsRow_nil w4 w4.heap.size 51 2) (Nat.le_refl _) hgrow
        have HRUN := Lib.hid hrun
        have S5 := S.below HB5
        have HTR := Lib.hid htr
        clear hrun hgrow htr
        obtain ⟨va5, vl5, vc5, rfl⟩ := own_slice hown
        by_cases hcq : cap' = q
        · have hql : q = rs.length := by omega
          have hd0 : Rats w.heap.size w5 (.slice (some ⟨qb, qo, none⟩) 0 0) (rs.drop q) := .inl ⟨⟨_, 0, rfl, fun h => by cases h⟩, List.drop_eq_nil_of_le (by omega)⟩
          obtain ⟨v6, w6, hrun2, hown2, hgrow2⟩ := app_any w4.heap.size 42 (.slice va5 vl5 vc5) (.slice (some ⟨qb, qo, none⟩) 0 0) (0 + (rs.take (q - 1)).length) w.heap.size ([] ++ flat (rs.take (q - 1))) (rs.drop q) w5 hown hd0 (by simp; omega) HB5.size
          have HRUN2 := Lib.hid hrun2
          have HB6 := held_grown HB5 HB5.size hown (Nat.le_refl _) hgrow2
          have S6 := S.below HB6
          have hR6 : Rats w6.heap.size w6 v6 (lessT q rs) := rats_own (by unfold lessT; simpa [flat_app] using hown2) (by unfold lessT; simp)
          clear hrun2 hown2 hgrow2 hown hd0 hql HB5 HB6 S S5
          obtain rfl : q = cap' := hcq.symm
          clear hcq
          obtain ⟨va6, vc6, rfl⟩ := rats_len hR6
          obtain ⟨x0, x1, x2, x3, x4⟩ := lies.two S6.head.1
          go_wp2_with (first | (at_builtin; refine dref.append_run2 rfl (.tmp 65) (.tmp 69) 42 rfl _ _ _ _ rfl rfl HRUN.out ?_; clear HRUN) | (at_builtin; refine dref.append_run2 rfl (.tmp 71) (.tmp 74) 42 rfl _ _ _ _ rfl rfl HRUN2.out ?_; clear HRUN2))
          clear x0 x1 x2 x3 x4 z1 z2 z3
          have hll := lessT_length (rs := rs) q1 z4
          refine (dkeeps_any (m1 : Int) _ _ us (lessT q rs) _ S6.head.2 (by omega) HTU.out hR6 (less_all (P := fun x => (-9223372036854775808 ≤ x.1 ∧ x.1 ≤ 9223372036854775807) ∧ (-9223372036854775808 ≤ x.2 ∧ x.2 ≤ 9223372036854775807)) q1 z4 HII.out) (by omega)).mono ?_
          rintro e w7 ⟨hB, r2, c2, rfl, hc⟩
          have S := S6.below hB
          obtain ⟨rfl, rfl⟩ : c2 = 0 ∧ r2 = true := by
            have em := HM1.out
            rcases hc with ⟨_, _, h⟩ | ⟨_, _, _, _, h⟩ | ⟨h, _, _, _, h'⟩
            · exact (h ⟨HMU.out, less_all (P := fun x => MayR x.1 x.2) q1 z4 HMT.out⟩).elim
            · exact (h (by omega)).elim
            · refine ⟨h, h'.2 ?_⟩
              have hmm := HMU.out
              rw [HUS.out, em] at hmm
              rw [Int.toNat_natCast, HUS.out, em]
              exact less_kept hn q1 q2 HL.out HT.out HOK.out hmm HII.out HMT.out HLR.out HK1.out
          clear hB hc hR6 S6 hll z4 HK1 HMT HLR HTR hlr' hcp'
          obtain ⟨x0, x1, x2, x3, x4⟩ := lies.two S.head.1
          go_wp2_with fail
          clear x0 x1 x2 x3 x4
          refine (pick_any (m1 : Int) _ us _ S.head.2 (by omega) HTU.out).mono ?_
          rintro e w8 ⟨hB, lv, f3, rfl, hP⟩
          replace S := S.below hB
          obtain ⟨rfl, hRP⟩ : f3 = 0 ∧ Rats w8.heap.size w8 lv (pks m1 us) := by
            rcases hP with ⟨k, _⟩ | ⟨_, h1, mm, h2, h3⟩
            · exact (k HOA.out).elim
            · obtain rfl : m1 = mm := by omega
              exact ⟨h1, h3⟩
          obtain ⟨pa, pc, rfl⟩ := rats_len hRP
          rw [pks_length]
          clear hB hP hRP
          obtain ⟨x0, x1, x2, x3, x4⟩ := lies.two S.head.1
          go_wp2_with fail
          clear x0 x1 x2 x3 x4
          refine (grow_any (m1 : Int) _ us _ S.head.2 (by omega) HTU.out).mono ?_
          rintro e w9 ⟨hB, nb, ab, lb, cb, vs, f4, rfl, hG, hK⟩
          obtain ⟨hg1, hg2, rfl⟩ := grow_yes hG HMU.out (by omega)
          obtain rfl : nb = (m : Int) := by rw [hg1, Int.toNat_natCast]; have := HM1.out; omega
          rw [Int.toNat_natCast] at hg2
          replace S := (S.below hB).add (m : Int) _ _ hK.ints
          have e3 : m1 + 1 = m := by have := HM1.out; omega
          have hlus : us.length = m1 * m1 := by rw [HUS.out, dropT_length, HM1.out]
          have hlv : vs.length ≤ 1000 := by
            rw [hg2, growT_length, e3]
            have := sq_le hn
            omega
          have HTV : RowKit.Hid (Tops vs) := Lib.hid (by rw [hg2]; exact grow_tops (by omega) m1l hlus HTU.out HMU.out)
          have HMV : RowKit.Hid (MayD (m : Int) vs) := Lib.hid (by rw [hg2, ← e3]; exact grow_may (by omega) m1l hlus HTU.out HMU.out)
          have HVS := Lib.hid hg2
          clear hB hK hG hg1 hg2 hlus e3
          go_wp2_with fail
          have N := StN.of S
          rw [World.size_alloc] at N
          replace N := N.below (show Below (w9.heap.size + 1) _ _ from (Below.refl _ _).alloc (by simp) (.cells #[.int .i64 0] 3))
          have O : World.ownsRow ((w9.alloc (.cells #[.int .i64 m, .slice ab lb cb] 24)).alloc (.cells #[.int .i64 0] 3)) (w9.heap.size + 1) 3 1 (.slice (some ⟨w9.heap.size + 1, 0, none⟩) 1 1) 1 ((upL m q 1).map (Value.int .i64)) := by
            rw [upL_one q1]
            have := World.ownsRow_lit (base := w9.heap.size + 1) (e := 3) (size := 1) (w9.alloc (.cells #[.int .i64 m, .slice ab lb cb] 24)) #[.int .i64 0] 1 (by simp) (by decide) rfl
            rw [World.size_alloc] at this
            exact this
          clear S
          generalize (w9.alloc (.cells #[.int .i64 m, .slice ab lb cb] 24)).alloc (.cells #[.int .i64 0] 3) = u9 at N O ⊢
          generalize w9.heap.size = B9 at N O ⊢
          go_loopw [19, 20] (fun ov iv wr => ∃ k : Nat, 1 ≤ k ∧ k ≤ m ∧ iv = .int .i64 k ∧ StN (B9 + 1) [(B9, (m : Int), .slice ab lb cb, vs), (B2, (m1 : Int), .slice aa la ca, us), (w.heap.size, (m : Int), .slice ad ts.length cap, ts)] w wr ∧ wr.ownsRow (B9 + 1) 3 1 ov k ((upL m q k).map (Value.int .i64))) (fun _ iv _ => m - (intOf iv).toNat)
          case atStart => exact ⟨1, Nat.le_refl _, by omega, rfl, N, O⟩
          case round =>
            clear N O
            obtain ⟨k, hk1, hk2, rfl, N, O⟩ := hrel
            obtain ⟨oa, ol, oc, rfl⟩ := own_slice O
            obtain ⟨y0, y1, y2, y3, y4⟩ := lies.two N.back.tail.tail.head.1
            by_cases hkm : k < m
            · have hup := upL_up m q k
              obtain ⟨x, hx⟩ : ∃ x, x = upT m q k := ⟨_, rfl⟩
              rw [← hx] at hup
              obtain ⟨v', w', hrun, own, hgrow⟩ := app_int (B9 + 1) 30 (.slice oa ol oc) k wr.heap.size x _ (wr.alloc (.cells #[.int .i64 x] 3)) (O.alloc _) (lies.made wr 3 #[.int .i64 x]) (by omega) (by have := N.2.2.1; simp; omega)
              have HRUN := Lib.hid hrun
              have HB : RowKit.Hid (Below (B9 + 1) wr w') := Lib.hid (held_grown ((Below.refl _ wr).alloc N.2.2.1 _) (by have := N.2.2.1; simp; omega) (O.alloc _) (Nat.le_refl _) hgrow)
              have HOW : RowKit.Hid (w'.ownsRow (B9 + 1) 3 1 v' (k + 1) ((upL m q (k + 1)).map (Value.int .i64))) := Lib.hid (by rw [hup, List.map_append]; exact own)
              clear hrun own hgrow hup O
              by_cases c1 : k = q
              · have hx' : x = m - 1 := by rw [hx]; unfold upT; rw [if_pos c1]
                have t7 : ((k : Int) == (q : Int)) = true := by rw [c1]; simp
                have z1 : wrap64 ((m : Int) - 1) = (x : Int) := by rw [IntWalk.wrap64_in _ ⟨by omega, by omega⟩]; omega
                have z2 : IntKind.i64.wrap ((m : Int) - 1) = (x : Int) := by rw [IntWalk.i64_in _ ⟨by omega, by omega⟩]; omega
                clear hx hx' c1
                go_wp2_with (at_builtin; refine dref.append_run2 rfl (.tmp 123) (.tmp 125) 30 rfl _ _ _ _ rfl rfl HRUN.out ?_; clear HRUN)
                go_roundw
                case rel => exact ⟨k + 1, by omega, by omega, by go_num, N.below HB.out, HOW.out⟩
                case measure => simp [intOf]; omega
              · have t7 : ((k : Int) == (q : Int)) = false := by simp; omega
                by_cases c2 : q < k
                · have hx' : x = k - 1 := by rw [hx]; unfold upT; rw [if_neg c1, if_pos c2]
                  have t8 : (q : Int) < (k : Int) := by omega
                  have z1 : wrap64 ((k : Int) - 1) = (x : Int) := by rw [IntWalk.wrap64_in _ ⟨by omega, by omega⟩]; omega
                  have z2 : IntKind.i64.wrap ((k : Int) - 1) = (x : Int) := by rw [IntWalk.i64_in _ ⟨by omega, by omega⟩]; omega
                  clear hx hx' c1 c2
                  go_wp2_with (at_builtin; refine dref.append_run2 rfl (.tmp 123) (.tmp 125) 30 rfl _ _ _ _ rfl rfl HRUN.out ?_; clear HRUN)
                  go_roundw
                  case rel => exact ⟨k + 1, by omega, by omega, by go_num, N.below HB.out, HOW.out⟩
                  case measure => simp [intOf]; omega
                · have hx' : x = k := by rw [hx]; unfold upT; rw [if_neg c1, if_neg c2]
                  have t8 : ¬ (q : Int) < (k : Int) := by omega
                  clear hx c1 c2
                  subst hx'
                  go_wp2_with (at_builtin; refine dref.append_run2 rfl (.tmp 123) (.tmp 125) 30 rfl _ _ _ _ rfl rfl HRUN.out ?_; clear HRUN)
                  go_roundw
                  case rel => exact ⟨x + 1, by omega, by omega, by go_num, N.below HB.out, HOW.out⟩
                  case measure => simp [intOf]; omega
            · obtain rfl : m = k := by omega
              have S := N.back
              have hIO := ints_row O (upL_length m q m)
              clear N O
              obtain ⟨x0, x1, x2, x3, x4⟩ := lies.two S.head.1
              go_wp2_with fail
              clear x0 x1 x2 x3 x4 y0 y1 y2 y3 y4
              refine (move_any (m : Int) _ _ vs (upL m q m) _ S.head.2 (by omega) HTV.out hIO).mono ?_
              rintro e wa ⟨hB, nc, ac, lc, cc, fs, f5, rfl, hR5, hK⟩
              obtain ⟨hg1, hg2, rfl⟩ := move_yes hR5 HMV.out (by rw [Int.toNat_natCast]; exact upL_ord q1 q2)
              obtain rfl : fs = freeT m q ts := by
                rw [hg2, Int.toNat_natCast, move_like vs h0 (fun i hi => upL_ordF hi), HVS.out, HUS.out, HM1.out]
                rfl
              subst hg1
              replace S := (S.below hB).add (m : Int) _ _ hK.ints
              have e5 : moveT m (upT m q) vs = freeT m q ts := by rw [HVS.out, HUS.out, HM1.out]; rfl
              have hmf : MayD (m : Int) (freeT m q ts) := by rw [← e5]; exact laidT_may HMV.out h0 hn
              have hlf : (freeT m q ts).length ≤ 1000 := by
                show (laidT m m (upT m q) _).length ≤ 1000
                rw [laidT_length]
                have := sq_le hn
                omega
              have HMF := Lib.hid hmf
              have htf : Tops (freeT m q ts) := by rw [← e5]; exact laidT_tops (may_len HMV.out) hn HTV.out
              have HTF := Lib.hid htf
              have hfi := free_in hn (by omega) q2 HL.out HT.out HOK.out
              have HFI := Lib.hid hfi
              clear hB hR5 hK hg2 hIO hmf htf hfi e5
              obtain ⟨x0, x1, x2, x3, x4⟩ := lies.two S.tail.tail.tail.head.1
              go_wp2_with fail
              clear x0 x1 x2 x3 x4
              generalize wa.alloc (.cells #[.int .i64 m, .slice ac lc cc] 24) = ua at S ⊢
              generalize wa.heap.size = Ba at S ⊢
              refine (in_any (m : Int) (m : Int) _ _ ts (freeT m q ts) _ S.tail.tail.tail.head.2 S.head.2 (by omega) (by omega) HT.out HTF.out).mono ?_
              intro e wb hp
              obtain ⟨rfl, hB⟩ := ilaw.asks_yes hp HOK.out.1 HMF.out HFI.out
              replace S := S.below hB
              have z1 : wrap64 ((m : Int) - 2) = ((m1 - 1 : Nat) : Int) := by have := HM1.out; rw [IntWalk.wrap64_in _ ⟨by omega, by omega⟩]; omega
              have z2 : IntKind.i64.wrap ((m : Int) - 2) = ((m1 - 1 : Nat) : Int) := by have := HM1.out; rw [IntWalk.i64_in _ ⟨by omega, by omega⟩]; omega
              clear hp hB
              obtain ⟨x0, x1, x2, x3, x4⟩ := lies.two S.tail.tail.tail.head.1
              go_wp2_with fail
              go_ret
              exact ⟨rfl, S.1⟩
        · obtain ⟨v6, w6, hrun2, hown2, hgrow2⟩ := app_any w4.heap.size 42 (.slice va5 vl5 vc5) (.slice (some ⟨qb, qo + q * 2, none⟩) (rs.length - q) (cap' - q)) (0 + (rs.take (q - 1)).length) w.heap.size ([] ++ flat (rs.take (q - 1))) (rs.drop q) w5 hown (rats_drop (HTR.out.below S5.1 htb) htb q) (by simp; omega) HB5.size
          have HRUN2 := Lib.hid hrun2
          have HB6 := held_grown HB5 HB5.size hown (Nat.le_refl _) hgrow2
          have S6 := S.below HB6
          have hR6 : Rats w6.heap.size w6 v6 (lessT q rs) := rats_own (by unfold lessT; simpa [flat_app] using hown2) (by unfold lessT; simp)
          clear hrun2 hown2 hgrow2 hown HB5 HB6 S S5
          obtain ⟨va6, vc6, rfl⟩ := rats_len hR6
          obtain ⟨x0, x1, x2, x3, x4⟩ := lies.two S6.head.1
          go_wp2_with (first | (at_builtin; refine dref.append_run2 rfl (.tmp 65) (.tmp 69) 42 rfl _ _ _ _ rfl rfl HRUN.out ?_; clear HRUN) | (at_builtin; refine dref.append_run2 rfl (.tmp 71) (.tmp 74) 42 rfl _ _ _ _ rfl rfl HRUN2.out ?_; clear HRUN2))
          clear x0 x1 x2 x3 x4 z1 z2 z3
          have hll := lessT_length (rs := rs) q1 z4
          refine (dkeeps_any (m1 : Int) _ _ us (lessT q rs) _ S6.head.2 (by omega) HTU.out hR6 (less_all (P := fun x => (-9223372036854775808 ≤ x.1 ∧ x.1 ≤ 9223372036854775807) ∧ (-9223372036854775808 ≤ x.2 ∧ x.2 ≤ 9223372036854775807)) q1 z4 HII.out) (by omega)).mono ?_
          rintro e w7 ⟨hB, r2, c2, rfl, hc⟩
          have S := S6.below hB
          obtain ⟨rfl, rfl⟩ : c2 = 0 ∧ r2 = true := by
            have em := HM1.out
            rcases hc with ⟨_, _, h⟩ | ⟨_, _, _, _, h⟩ | ⟨h, _, _, _, h'⟩
            · exact (h ⟨HMU.out, less_all (P := fun x => MayR x.1 x.2) q1 z4 HMT.out⟩).elim
            · exact (h (by omega)).elim
            · refine ⟨h, h'.2 ?_⟩
              have hmm := HMU.out
              rw [HUS.out, em] at hmm
              rw [Int.toNat_natCast, HUS.out, em]
              exact less_kept hn q1 q2 HL.out HT.out HOK.out hmm HII.out HMT.out HLR.out HK1.out
          clear hB hc hR6 S6 hll z4 HK1 HMT HLR HTR hlr' hcp'
          obtain ⟨x0, x1, x2, x3, x4⟩ := lies.two S.head.1
          go_wp2_with fail
          clear x0 x1 x2 x3 x4
          refine (pick_any (m1 : Int) _ us _ S.head.2 (by omega) HTU.out).mono ?_
          rintro e w8 ⟨hB, lv, f3, rfl, hP⟩
          replace S := S.below hB
          obtain ⟨rfl, hRP⟩ : f3 = 0 ∧ Rats w8.heap.size w8 lv (pks m1 us) := by
            rcases hP with ⟨k, _⟩ | ⟨_, h1, mm, h2, h3⟩
            · exact (k HOA.out).elim
            · obtain rfl : m1 = mm := by omega
              exact ⟨h1, h3⟩
          obtain ⟨pa, pc, rfl⟩ := rats_len hRP
          rw [pks_length]
          clear hB hP hRP
          obtain ⟨x0, x1, x2, x3, x4⟩ := lies.two S.head.1
          go_wp2_with fail
          clear x0 x1 x2 x3 x4
          refine (grow_any (m1 : Int) _ us _ S.head.2 (by omega) HTU.out).mono ?_
          rintro e w9 ⟨hB, nb, ab, lb, cb, vs, f4, rfl, hG, hK⟩
          obtain ⟨hg1, hg2, rfl⟩ := grow_yes hG HMU.out (by omega)
          obtain rfl : nb = (m : Int) := by rw [hg1, Int.toNat_natCast]; have := HM1.out; omega
          rw [Int.toNat_natCast] at hg2
          replace S := (S.below hB).add (m : Int) _ _ hK.ints
          have e3 : m1 + 1 = m := by have := HM1.out; omega
          have hlus : us.length = m1 * m1 := by rw [HUS.out, dropT_length, HM1.out]
          have hlv : vs.length ≤ 1000 := by
            rw [hg2, growT_length, e3]
            have := sq_le hn
            omega
          have HTV : RowKit.Hid (Tops vs) := Lib.hid (by rw [hg2]; exact grow_tops (by omega) m1l hlus HTU.out HMU.out)
          have HMV : RowKit.Hid (MayD (m : Int) vs) := Lib.hid (by rw [hg2, ← e3]; exact grow_may (by omega) m1l hlus HTU.out HMU.out)
          have HVS := Lib.hid hg2
          clear hB hK hG hg1 hg2 hlus e3
          go_wp2_with fail
          have N := StN.of S
          rw [World.size_alloc] at N
          replace N := N.below (show Below (w9.heap.size + 1) _ _ from (Below.refl _ _).alloc (by simp) (.cells #[.int .i64 0] 3))
          have O : World.ownsRow ((w9.alloc (.cells #[.int .i64 m, .slice ab lb cb] 24)).alloc (.cells #[.int .i64 0] 3)) (w9.heap.size + 1) 3 1 (.slice (some ⟨w9.heap.size + 1, 0, none⟩) 1 1) 1 ((upL m q 1).map (Value.int .i64)) := by
            rw [upL_one q1]
            have := World.ownsRow_lit (base := w9.heap.size + 1) (e := 3) (size := 1) (w9.alloc (.cells #[.int .i64 m, .slice ab lb cb] 24)) #[.int .i64 0] 1 (by simp) (by decide) rfl
            rw [World.size_alloc] at this
            exact this
          clear S
          generalize (w9.alloc (.cells #[.int .i64 m, .slice ab lb cb] 24)).alloc (.cells #[.int .i64 0] 3) = u9 at N O ⊢
          generalize w9.heap.size = B9 at N O ⊢
          go_loopw [19, 20] (fun ov iv wr => ∃ k : Nat, 1 ≤ k ∧ k ≤ m ∧ iv = .int .i64 k ∧ StN (B9 + 1) [(B9, (m : Int), .slice ab lb cb, vs), (B2, (m1 : Int), .slice aa la ca, us), (w.heap.size, (m : Int), .slice ad ts.length cap, ts)] w wr ∧ wr.ownsRow (B9 + 1) 3 1 ov k ((upL m q k).map (Value.int .i64))) (fun _ iv _ => m - (intOf iv).toNat)
          case atStart => exact ⟨1, Nat.le_refl _, by omega, rfl, N, O⟩
          case round =>
            clear N O
            obtain ⟨k, hk1, hk2, rfl, N, O⟩ := hrel
            obtain ⟨oa, ol, oc, rfl⟩ := own_slice O
            obtain ⟨y0, y1, y2, y3, y4⟩ := lies.two N.back.tail.tail.head.1
            by_cases hkm : k < m
            · have hup := upL_up m q k
              obtain ⟨x, hx⟩ : ∃ x, x = upT m q k := ⟨_, rfl⟩
              rw [← hx] at hup
              obtain ⟨v', w', hrun, own, hgrow⟩ := app_int (B9 + 1) 30 (.slice oa ol oc) k wr.heap.size x _ (wr.alloc (.cells #[.int .i64 x] 3)) (O.alloc _) (lies.made wr 3 #[.int .i64 x]) (by omega) (by have := N.2.2.1; simp; omega)
              have HRUN := Lib.hid hrun
              have HB : RowKit.Hid (Below (B9 + 1) wr w') := Lib.hid (held_grown ((Below.refl _ wr).alloc N.2.2.1 _) (by have := N.2.2.1; simp; omega) (O.alloc _) (Nat.le_refl _) hgrow)
              have HOW : RowKit.Hid (w'.ownsRow (B9 + 1) 3 1 v' (k + 1) ((upL m q (k + 1)).map (Value.int .i64))) := Lib.hid (by rw [hup, List.map_append]; exact own)
              clear hrun own hgrow hup O
              by_cases c1 : k = q
              · have hx' : x = m - 1 := by rw [hx]; unfold upT; rw [if_pos c1]
                have t7 : ((k : Int) == (q : Int)) = true := by rw [c1]; simp
                have z1 : wrap64 ((m : Int) - 1) = (x : Int) := by rw [IntWalk.wrap64_in _ ⟨by omega, by omega⟩]; omega
                have z2 : IntKind.i64.wrap ((m : Int) - 1) = (x : Int) := by rw [IntWalk.i64_in _ ⟨by omega, by omega⟩]; omega
                clear hx hx' c1
                go_wp2_with (at_builtin; refine dref.append_run2 rfl (.tmp 123) (.tmp 125) 30 rfl _ _ _ _ rfl rfl HRUN.out ?_; clear HRUN)
                go_roundw
                case rel => exact ⟨k + 1, by omega, by omega, by go_num, N.below HB.out, HOW.out⟩
                case measure => simp [intOf]; omega
              · have t7 : ((k : Int) == (q : Int)) = false := by simp; omega
                by_cases c2 : q < k
                · have hx' : x = k - 1 := by rw [hx]; unfold upT; rw [if_neg c1, if_pos c2]
                  have t8 : (q : Int) < (k : Int) := by omega
                  have z1 : wrap64 ((k : Int) - 1) = (x : Int) := by rw [IntWalk.wrap64_in _ ⟨by omega, by omega⟩]; omega
                  have z2 : IntKind.i64.wrap ((k : Int) - 1) = (x : Int) := by rw [IntWalk.i64_in _ ⟨by omega, by omega⟩]; omega
                  clear hx hx' c1 c2
                  go_wp2_with (at_builtin; refine dref.append_run2 rfl (.tmp 123) (.tmp 125) 30 rfl _ _ _ _ rfl rfl HRUN.out ?_; clear HRUN)
                  go_roundw
                  case rel => exact ⟨k + 1, by omega, by omega, by go_num, N.below HB.out, HOW.out⟩
                  case measure => simp [intOf]; omega
                · have hx' : x = k := by rw [hx]; unfold upT; rw [if_neg c1, if_neg c2]
                  have t8 : ¬ (q : Int) < (k : Int) := by omega
                  clear hx c1 c2
                  subst hx'
                  go_wp2_with (at_builtin; refine dref.append_run2 rfl (.tmp 123) (.tmp 125) 30 rfl _ _ _ _ rfl rfl HRUN.out ?_; clear HRUN)
                  go_roundw
                  case rel => exact ⟨x + 1, by omega, by omega, by go_num, N.below HB.out, HOW.out⟩
                  case measure => simp [intOf]; omega
            · obtain rfl : m = k := by omega
              have S := N.back
              have hIO := ints_row O (upL_length m q m)
              clear N O
              obtain ⟨x0, x1, x2, x3, x4⟩ := lies.two S.head.1
              go_wp2_with fail
              clear x0 x1 x2 x3 x4 y0 y1 y2 y3 y4
              refine (move_any (m : Int) _ _ vs (upL m q m) _ S.head.2 (by omega) HTV.out hIO).mono ?_
              rintro e wa ⟨hB, nc, ac, lc, cc, fs, f5, rfl, hR5, hK⟩
              obtain ⟨hg1, hg2, rfl⟩ := move_yes hR5 HMV.out (by rw [Int.toNat_natCast]; exact upL_ord q1 q2)
              obtain rfl : fs = freeT m q ts := by
                rw [hg2, Int.toNat_natCast, move_like vs h0 (fun i hi => upL_ordF hi), HVS.out, HUS.out, HM1.out]
                rfl
              subst hg1
              replace S := (S.below hB).add (m : Int) _ _ hK.ints
              have e5 : moveT m (upT m q) vs = freeT m q ts := by rw [HVS.out, HUS.out, HM1.out]; rfl
              have hmf : MayD (m : Int) (freeT m q ts) := by rw [← e5]; exact laidT_may HMV.out h0 hn
              have hlf : (freeT m q ts).length ≤ 1000 := by
                show (laidT m m (upT m q) _).length ≤ 1000
                rw [laidT_length]
                have := sq_le hn
                omega
              have HMF := Lib.hid hmf
              have htf : Tops (freeT m q ts) := by rw [← e5]; exact laidT_tops (may_len HMV.out) hn HTV.out
              have HTF := Lib.hid htf
              have hfi := free_in hn (by omega) q2 HL.out HT.out HOK.out
              have HFI := Lib.hid hfi
              clear hB hR5 hK hg2 hIO hmf htf hfi e5
              obtain ⟨x0, x1, x2, x3, x4⟩ := lies.two S.tail.tail.tail.head.1
              go_wp2_with fail
              clear x0 x1 x2 x3 x4
              generalize wa.alloc (.cells #[.int .i64 m, .slice ac lc cc] 24) = ua at S ⊢
              generalize wa.heap.size = Ba at S ⊢
              refine (in_any (m : Int) (m : Int) _ _ ts (freeT m q ts) _ S.tail.tail.tail.head.2 S.head.2 (by omega) (by omega) HT.out HTF.out).mono ?_
              intro e wb hp
              obtain ⟨rfl, hB⟩ := ilaw.asks_yes hp HOK.out.1 HMF.out HFI.out
              replace S := S.below hB
              have z1 : wrap64 ((m : Int) - 2) = ((m1 - 1 : Nat) : Int) := by have := HM1.out; rw [IntWalk.wrap64_in _ ⟨by omega, by omega⟩]; omega
              have z2 : IntKind.i64.wrap ((m : Int) - 2) = ((m1 - 1 : Nat) : Int) := by have := HM1.out; rw [IntWalk.i64_in _ ⟨by omega, by omega⟩]; omega
              clear hp hB
              obtain ⟨x0, x1, x2, x3, x4⟩ := lies.two S.tail.tail.tail.head.1
              go_wp2_with fail
              go_ret
              exact ⟨rfl, S.1⟩
      · have hkk : (c1 ≠ 0) ∨ (c1 = 0 ∧ r1 = false) := by
          by_cases e : c1 = 0
          · exact .inr ⟨e, by cases r1 with | false => rfl | true => exact (hkept ⟨e, rfl⟩).elim⟩
          · exact .inl e
        clear hkept HC1
        rcases hkk with hkk | ⟨rfl, rfl⟩
        · have t6 : (c1 == 0) = false := by simpa using hkk
          clear hkk
          obtain ⟨x0, x1, x2, x3, x4⟩ := lies.two S.head.1
          go_wp2_with fail
          clear x0 x1 x2 x3 x4 t6
          refine (pick_any (m1 : Int) _ us _ S.head.2 (by omega) HTU.out).mono ?_
          rintro e w8 ⟨hB, lv, f3, rfl, hP⟩
          replace S := S.below hB
          obtain ⟨rfl, hRP⟩ : f3 = 0 ∧ Rats w8.heap.size w8 lv (pks m1 us) := by
            rcases hP with ⟨k, _⟩ | ⟨_, h1, mm, h2, h3⟩
            · exact (k HOA.out).elim
            · obtain rfl : m1 = mm := by omega
              exact ⟨h1, h3⟩
          obtain ⟨pa, pc, rfl⟩ := rats_len hRP
          rw [pks_length]
          clear hB hP hRP
          obtain ⟨x0, x1, x2, x3, x4⟩ := lies.two S.head.1
          go_wp2_with fail
          clear x0 x1 x2 x3 x4
          refine (grow_any (m1 : Int) _ us _ S.head.2 (by omega) HTU.out).mono ?_
          rintro e w9 ⟨hB, nb, ab, lb, cb, vs, f4, rfl, hG, hK⟩
          obtain ⟨hg1, hg2, rfl⟩ := grow_yes hG HMU.out (by omega)
          obtain rfl : nb = (m : Int) := by rw [hg1, Int.toNat_natCast]; have := HM1.out; omega
          rw [Int.toNat_natCast] at hg2
          replace S := (S.below hB).add (m : Int) _ _ hK.ints
          have e3 : m1 + 1 = m := by have := HM1.out; omega
          have hlus : us.length = m1 * m1 := by rw [HUS.out, dropT_length, HM1.out]
          have hlv : vs.length ≤ 1000 := by
            rw [hg2, growT_length, e3]
            have := sq_le hn
            omega
          have HTV : RowKit.Hid (Tops vs) := Lib.hid (by rw [hg2]; exact grow_tops (by omega) m1l hlus HTU.out HMU.out)
          have HMV : RowKit.Hid (MayD (m : Int) vs) := Lib.hid (by rw [hg2, ← e3]; exact grow_may (by omega) m1l hlus HTU.out HMU.out)
          have HVS := Lib.hid hg2
          clear hB hK hG hg1 hg2 hlus e3
          go_wp2_with fail
          have N := StN.of S
          rw [World.size_alloc] at N
          replace N := N.below (show Below (w9.heap.size + 1) _ _ from (Below.refl _ _).alloc (by simp) (.cells #[.int .i64 0] 3))
          have O : World.ownsRow ((w9.alloc (.cells #[.int .i64 m, .slice ab lb cb] 24)).alloc (.cells #[.int .i64 0] 3)) (w9.heap.size + 1) 3 1 (.slice (some ⟨w9.heap.size + 1, 0, none⟩) 1 1) 1 ((upL m q 1).map (Value.int .i64)) := by
            rw [upL_one q1]
            have := World.ownsRow_lit (base := w9.heap.size + 1) (e := 3) (size := 1) (w9.alloc (.cells #[.int .i64 m, .slice ab lb cb] 24)) #[.int .i64 0] 1 (by simp) (by decide) rfl
            rw [World.size_alloc] at this
            exact this
          clear S
          generalize (w9.alloc (.cells #[.int .i64 m, .slice ab lb cb] 24)).alloc (.cells #[.int .i64 0] 3) = u9 at N O ⊢
          generalize w9.heap.size = B9 at N O ⊢
          go_loopw [19, 20] (fun ov iv wr => ∃ k : Nat, 1 ≤ k ∧ k ≤ m ∧ iv = .int .i64 k ∧ StN (B9 + 1) [(B9, (m : Int), .slice ab lb cb, vs), (B2, (m1 : Int), .slice aa la ca, us), (w.heap.size, (m : Int), .slice ad ts.length cap, ts)] w wr ∧ wr.ownsRow (B9 + 1) 3 1 ov k ((upL m q k).map (Value.int .i64))) (fun _ iv _ => m - (intOf iv).toNat)
          case atStart => exact ⟨1, Nat.le_refl _, by omega, rfl, N, O⟩
          case round =>
            clear N O
            obtain ⟨k, hk1, hk2, rfl, N, O⟩ := hrel
            obtain ⟨oa, ol, oc, rfl⟩ := own_slice O
            obtain ⟨y0, y1, y2, y3, y4⟩ := lies.two N.back.tail.tail.head.1
            by_cases hkm : k < m
            · have hup := upL_up m q k
              obtain ⟨x, hx⟩ : ∃ x, x = upT m q k := ⟨_, rfl⟩
              rw [← hx] at hup
              obtain ⟨v', w', hrun, own, hgrow⟩ := app_int (B9 + 1) 30 (.slice oa ol oc) k wr.heap.size x _ (wr.alloc (.cells #[.int .i64 x] 3)) (O.alloc _) (lies.made wr 3 #[.int .i64 x]) (by omega) (by have := N.2.2.1; simp; omega)
              have HRUN := Lib.hid hrun
              have HB : RowKit.Hid (Below (B9 + 1) wr w') := Lib.hid (held_grown ((Below.refl _ wr).alloc N.2.2.1 _) (by have := N.2.2.1; simp; omega) (O.alloc _) (Nat.le_refl _) hgrow)
              have HOW : RowKit.Hid (w'.ownsRow (B9 + 1) 3 1 v' (k + 1) ((upL m q (k + 1)).map (Value.int .i64))) := Lib.hid (by rw [hup, List.map_append]; exact own)
              clear hrun own hgrow hup O
              by_cases c1 : k = q
              · have hx' : x = m - 1 := by rw [hx]; unfold upT; rw [if_pos c1]
                have t7 : ((k : Int) == (q : Int)) = true := by rw [c1]; simp
                have z1 : wrap64 ((m : Int) - 1) = (x : Int) := by rw [IntWalk.wrap64_in _ ⟨by omega, by omega⟩]; omega
                have z2 : IntKind.i64.wrap ((m : Int) - 1) = (x : Int) := by rw [IntWalk.i64_in _ ⟨by omega, by omega⟩]; omega
                clear hx hx' c1
                go_wp2_with (at_builtin; refine dref.append_run2 rfl (.tmp 123) (.tmp 125) 30 rfl _ _ _ _ rfl rfl HRUN.out ?_; clear HRUN)
                go_roundw
                case rel => exact ⟨k + 1, by omega, by omega, by go_num, N.below HB.out, HOW.out⟩
                case measure => simp [intOf]; omega
              · have t7 : ((k : Int) == (q : Int)) = false := by simp; omega
                by_cases c2 : q < k
                · have hx' : x = k - 1 := by rw [hx]; unfold upT; rw [if_neg c1, if_pos c2]
                  have t8 : (q : Int) < (k : Int) := by omega
                  have z1 : wrap64 ((k : Int) - 1) = (x : Int) := by rw [IntWalk.wrap64_in _ ⟨by omega, by omega⟩]; omega
                  have z2 : IntKind.i64.wrap ((k : Int) - 1) = (x : Int) := by rw [IntWalk.i64_in _ ⟨by omega, by omega⟩]; omega
                  clear hx hx' c1 c2
                  go_wp2_with (at_builtin; refine dref.append_run2 rfl (.tmp 123) (.tmp 125) 30 rfl _ _ _ _ rfl rfl HRUN.out ?_; clear HRUN)
                  go_roundw
                  case rel => exact ⟨k + 1, by omega, by omega, by go_num, N.below HB.out, HOW.out⟩
                  case measure => simp [intOf]; omega
                · have hx' : x = k := by rw [hx]; unfold upT; rw [if_neg c1, if_neg c2]
                  have t8 : ¬ (q : Int) < (k : Int) := by omega
                  clear hx c1 c2
                  subst hx'
                  go_wp2_with (at_builtin; refine dref.append_run2 rfl (.tmp 123) (.tmp 125) 30 rfl _ _ _ _ rfl rfl HRUN.out ?_; clear HRUN)
                  go_roundw
                  case rel => exact ⟨x + 1, by omega, by omega, by go_num, N.below HB.out, HOW.out⟩
                  case measure => simp [intOf]; omega
            · obtain rfl : m = k := by omega
              have S := N.back
              have hIO := ints_row O (upL_length m q m)
              clear N O
              obtain ⟨x0, x1, x2, x3, x4⟩ := lies.two S.head.1
              go_wp2_with fail
              clear x0 x1 x2 x3 x4 y0 y1 y2 y3 y4
              refine (move_any (m : Int) _ _ vs (upL m q m) _ S.head.2 (by omega) HTV.out hIO).mono ?_
              rintro e wa ⟨hB, nc, ac, lc, cc, fs, f5, rfl, hR5, hK⟩
              obtain ⟨hg1, hg2, rfl⟩ := move_yes hR5 HMV.out (by rw [Int.toNat_natCast]; exact upL_ord q1 q2)
              obtain rfl : fs = freeT m q ts := by
                rw [hg2, Int.toNat_natCast, move_like vs h0 (fun i hi => upL_ordF hi), HVS.out, HUS.out, HM1.out]
                rfl
              subst hg1
              replace S := (S.below hB).add (m : Int) _ _ hK.ints
              have e5 : moveT m (upT m q) vs = freeT m q ts := by rw [HVS.out, HUS.out, HM1.out]; rfl
              have hmf : MayD (m : Int) (freeT m q ts) := by rw [← e5]; exact laidT_may HMV.out h0 hn
              have hlf : (freeT m q ts).length ≤ 1000 := by
                show (laidT m m (upT m q) _).length ≤ 1000
                rw [laidT_length]
                have := sq_le hn
                omega
              have HMF := Lib.hid hmf
              have htf : Tops (freeT m q ts) := by rw [← e5]; exact laidT_tops (may_len HMV.out) hn HTV.out
              have HTF := Lib.hid htf
              have hfi := free_in hn (by omega) q2 HL.out HT.out HOK.out
              have HFI := Lib.hid hfi
              clear hB hR5 hK hg2 hIO hmf htf hfi e5
              obtain ⟨x0, x1, x2, x3, x4⟩ := lies.two S.tail.tail.tail.head.1
              go_wp2_with fail
              clear x0 x1 x2 x3 x4
              generalize wa.alloc (.cells #[.int .i64 m, .slice ac lc cc] 24) = ua at S ⊢
              generalize wa.heap.size = Ba at S ⊢
              refine (in_any (m : Int) (m : Int) _ _ ts (freeT m q ts) _ S.tail.tail.tail.head.2 S.head.2 (by omega) (by omega) HT.out HTF.out).mono ?_
              intro e wb hp
              obtain ⟨rfl, hB⟩ := ilaw.asks_yes hp HOK.out.1 HMF.out HFI.out
              replace S := S.below hB
              have z1 : wrap64 ((m : Int) - 2) = ((m1 - 1 : Nat) : Int) := by have := HM1.out; rw [IntWalk.wrap64_in _ ⟨by omega, by omega⟩]; omega
              have z2 : IntKind.i64.wrap ((m : Int) - 2) = ((m1 - 1 : Nat) : Int) := by have := HM1.out; rw [IntWalk.i64_in _ ⟨by omega, by omega⟩]; omega
              clear hp hB
              obtain ⟨x0, x1, x2, x3, x4⟩ := lies.two S.tail.tail.tail.head.1
              go_wp2_with fail
              go_ret
              exact ⟨rfl, S.1⟩
        · obtain ⟨x0, x1, x2, x3, x4⟩ := lies.two S.head.1
          go_wp2_with fail
          clear x0 x1 x2 x3 x4
          refine (pick_any (m1 : Int) _ us _ S.head.2 (by omega) HTU.out).mono ?_
          rintro e w8 ⟨hB, lv, f3, rfl, hP⟩
          replace S := S.below hB
          obtain ⟨rfl, hRP⟩ : f3 = 0 ∧ Rats w8.heap.size w8 lv (pks m1 us) := by
            rcases hP with ⟨k, _⟩ | ⟨_, h1, mm, h2, h3⟩
            · exact (k HOA.out).elim
            · obtain rfl : m1 = mm := by omega
              exact ⟨h1, h3⟩
          obtain ⟨pa, pc, rfl⟩ := rats_len hRP
          rw [pks_length]
          clear hB hP hRP
          obtain ⟨x0, x1, x2, x3, x4⟩ := lies.two S.head.1
          go_wp2_with fail
          clear x0 x1 x2 x3 x4
          refine (grow_any (m1 : Int) _ us _ S.head.2 (by omega) HTU.out).mono ?_
          rintro e w9 ⟨hB, nb, ab, lb, cb, vs, f4, rfl, hG, hK⟩
          obtain ⟨hg1, hg2, rfl⟩ := grow_yes hG HMU.out (by omega)
          obtain rfl : nb = (m : Int) := by rw [hg1, Int.toNat_natCast]; have := HM1.out; omega
          rw [Int.toNat_natCast] at hg2
          replace S := (S.below hB).add (m : Int) _ _ hK.ints
          have e3 : m1 + 1 = m := by have := HM1.out; omega
          have hlus : us.length = m1 * m1 := by rw [HUS.out, dropT_length, HM1.out]
          have hlv : vs.length ≤ 1000 := by
            rw [hg2, growT_length, e3]
            have := sq_le hn
            omega
          have HTV : RowKit.Hid (Tops vs) := Lib.hid (by rw [hg2]; exact grow_tops (by omega) m1l hlus HTU.out HMU.out)
          have HMV : RowKit.Hid (MayD (m : Int) vs) := Lib.hid (by rw [hg2, ← e3]; exact grow_may (by omega) m1l hlus HTU.out HMU.out)
          have HVS := Lib.hid hg2
          clear hB hK hG hg1 hg2 hlus e3
          go_wp2_with fail
          have N := StN.of S
          rw [World.size_alloc] at N
          replace N := N.below (show Below (w9.heap.size + 1) _ _ from (Below.refl _ _).alloc (by simp) (.cells #[.int .i64 0] 3))
          have O : World.ownsRow ((w9.alloc (.cells #[.int .i64 m, .slice ab lb cb] 24)).alloc (.cells #[.int .i64 0] 3)) (w9.heap.size + 1) 3 1 (.slice (some ⟨w9.heap.size + 1, 0, none⟩) 1 1) 1 ((upL m q 1).map (Value.int .i64)) := by
            rw [upL_one q1]
            have := World.ownsRow_lit (base := w9.heap.size + 1) (e := 3) (size := 1) (w9.alloc (.cells #[.int .i64 m, .slice ab lb cb] 24)) #[.int .i64 0] 1 (by simp) (by decide) rfl
            rw [World.size_alloc] at this
            exact this
          clear S
          generalize (w9.alloc (.cells #[.int .i64 m, .slice ab lb cb] 24)).alloc (.cells #[.int .i64 0] 3) = u9 at N O ⊢
          generalize w9.heap.size = B9 at N O ⊢
          go_loopw [19, 20] (fun ov iv wr => ∃ k : Nat, 1 ≤ k ∧ k ≤ m ∧ iv = .int .i64 k ∧ StN (B9 + 1) [(B9, (m : Int), .slice ab lb cb, vs), (B2, (m1 : Int), .slice aa la ca, us), (w.heap.size, (m : Int), .slice ad ts.length cap, ts)] w wr ∧ wr.ownsRow (B9 + 1) 3 1 ov k ((upL m q k).map (Value.int .i64))) (fun _ iv _ => m - (intOf iv).toNat)
          case atStart => exact ⟨1, Nat.le_refl _, by omega, rfl, N, O⟩
          case round =>
            clear N O
            obtain ⟨k, hk1, hk2, rfl, N, O⟩ := hrel
            obtain ⟨oa, ol, oc, rfl⟩ := own_slice O
            obtain ⟨y0, y1, y2, y3, y4⟩ := lies.two N.back.tail.tail.head.1
            by_cases hkm : k < m
            · have hup := upL_up m q k
              obtain ⟨x, hx⟩ : ∃ x, x = upT m q k := ⟨_, rfl⟩
              rw [← hx] at hup
              obtain ⟨v', w', hrun, own, hgrow⟩ := app_int (B9 + 1) 30 (.slice oa ol oc) k wr.heap.size x _ (wr.alloc (.cells #[.int .i64 x] 3)) (O.alloc _) (lies.made wr 3 #[.int .i64 x]) (by omega) (by have := N.2.2.1; simp; omega)
              have HRUN := Lib.hid hrun
              have HB : RowKit.Hid (Below (B9 + 1) wr w') := Lib.hid (held_grown ((Below.refl _ wr).alloc N.2.2.1 _) (by have := N.2.2.1; simp; omega) (O.alloc _) (Nat.le_refl _) hgrow)
              have HOW : RowKit.Hid (w'.ownsRow (B9 + 1) 3 1 v' (k + 1) ((upL m q (k + 1)).map (Value.int .i64))) := Lib.hid (by rw [hup, List.map_append]; exact own)
              clear hrun own hgrow hup O
              by_cases c1 : k = q
              · have hx' : x = m - 1 := by rw [hx]; unfold upT; rw [if_pos c1]
                have t7 : ((k : Int) == (q : Int)) = true := by rw [c1]; simp
                have z1 : wrap64 ((m : Int) - 1) = (x : Int) := by rw [IntWalk.wrap64_in _ ⟨by omega, by omega⟩]; omega
                have z2 : IntKind.i64.wrap ((m : Int) - 1) = (x : Int) := by rw [IntWalk.i64_in _ ⟨by omega, by omega⟩]; omega
                clear hx hx' c1
                go_wp2_with (at_builtin; refine dref.append_run2 rfl (.tmp 123) (.tmp 125) 30 rfl _ _ _ _ rfl rfl HRUN.out ?_; clear HRUN)
                go_roundw
                case rel => exact ⟨k + 1, by omega, by omega, by go_num, N.below HB.out, HOW.out⟩
                case measure => simp [intOf]; omega
              · have t7 : ((k : Int) == (q : Int)) = false := by simp; omega
                by_cases c2 : q < k
                · have hx' : x = k - 1 := by rw [hx]; unfold upT; rw [if_neg c1, if_pos c2]
                  have t8 : (q : Int) < (k : Int) := by omega
                  have z1 : wrap64 ((k : Int) - 1) = (x : Int) := by rw [IntWalk.wrap64_in _ ⟨by omega, by omega⟩]; omega
                  have z2 : IntKind.i64.wrap ((k : Int) - 1) = (x : Int) := by rw [IntWalk.i64_in _ ⟨by omega, by omega⟩]; omega
                  clear hx hx' c1 c2
                  go_wp2_with (at_builtin; refine dref.append_run2 rfl (.tmp 123) (.tmp 125) 30 rfl _ _ _ _ rfl rfl HRUN.out ?_; clear HRUN)
                  go_roundw
                  case rel => exact ⟨k + 1, by omega, by omega, by go_num, N.below HB.out, HOW.out⟩
                  case measure => simp [intOf]; omega
                · have hx' : x = k := by rw [hx]; unfold upT; rw [if_neg c1, if_neg c2]
                  have t8 : ¬ (q : Int) < (k : Int) := by omega
                  clear hx c1 c2
                  subst hx'
                  go_wp2_with (at_builtin; refine dref.append_run2 rfl (.tmp 123) (.tmp 125) 30 rfl _ _ _ _ rfl rfl HRUN.out ?_; clear HRUN)
                  go_roundw
                  case rel => exact ⟨x + 1, by omega, by omega, by go_num, N.below HB.out, HOW.out⟩
                  case measure => simp [intOf]; omega
            · obtain rfl : m = k := by omega
              have S := N.back
              have hIO := ints_row O (upL_length m q m)
              clear N O
              obtain ⟨x0, x1, x2, x3, x4⟩ := lies.two S.head.1
              go_wp2_with fail
              clear x0 x1 x2 x3 x4 y0 y1 y2 y3 y4
              refine (move_any (m : Int) _ _ vs (upL m q m) _ S.head.2 (by omega) HTV.out hIO).mono ?_
              rintro e wa ⟨hB, nc, ac, lc, cc, fs, f5, rfl, hR5, hK⟩
              obtain ⟨hg1, hg2, rfl⟩ := move_yes hR5 HMV.out (by rw [Int.toNat_natCast]; exact upL_ord q1 q2)
              obtain rfl : fs = freeT m q ts := by
                rw [hg2, Int.toNat_natCast, move_like vs h0 (fun i hi => upL_ordF hi), HVS.out, HUS.out, HM1.out]
                rfl
              subst hg1
              replace S := (S.below hB).add (m : Int) _ _ hK.ints
              have e5 : moveT m (upT m q) vs = freeT m q ts := by rw [HVS.out, HUS.out, HM1.out]; rfl
              have hmf : MayD (m : Int) (freeT m q ts) := by rw [← e5]; exact laidT_may HMV.out h0 hn
              have hlf : (freeT m q ts).length ≤ 1000 := by
                show (laidT m m (upT m q) _).length ≤ 1000
                rw [laidT_length]
                have := sq_le hn
                omega
              have HMF := Lib.hid hmf
              have htf : Tops (freeT m q ts) := by rw [← e5]; exact laidT_tops (may_len HMV.out) hn HTV.out
              have HTF := Lib.hid htf
              have hfi := free_in hn (by omega) q2 HL.out HT.out HOK.out
              have HFI := Lib.hid hfi
              clear hB hR5 hK hg2 hIO hmf htf hfi e5
              obtain ⟨x0, x1, x2, x3, x4⟩ := lies.two S.tail.tail.tail.head.1
              go_wp2_with fail
              clear x0 x1 x2 x3 x4
              generalize wa.alloc (.cells #[.int .i64 m, .slice ac lc cc] 24) = ua at S ⊢
              generalize wa.heap.size = Ba at S ⊢
              refine (in_any (m : Int) (m : Int) _ _ ts (freeT m q ts) _ S.tail.tail.tail.head.2 S.head.2 (by omega) (by omega) HT.out HTF.out).mono ?_
              intro e wb hp
              obtain ⟨rfl, hB⟩ := ilaw.asks_yes hp HOK.out.1 HMF.out HFI.out
              replace S := S.below hB
              have z1 : wrap64 ((m : Int) - 2) = ((m1 - 1 : Nat) : Int) := by have := HM1.out; rw [IntWalk.wrap64_in _ ⟨by omega, by omega⟩]; omega
              have z2 : IntKind.i64.wrap ((m : Int) - 2) = ((m1 - 1 : Nat) : Int) := by have := HM1.out; rw [IntWalk.i64_in _ ⟨by omega, by omega⟩]; omega
              clear hp hB
              obtain ⟨x0, x1, x2, x3, x4⟩ := lies.two S.tail.tail.tail.head.1
              go_wp2_with fail
              go_ret
              exact ⟨rfl, S.1⟩
    · clear hok hus hl hm1 kj1 kj2
      go_wp2_with fail
      generalize w2.alloc (.cells #[.int .i64 m1, .slice aa la ca] 24) = u2 at S ⊢
      generalize w2.heap.size = B2 at S ⊢
      refine (check4_any (m1 : Int) _ us _ S.head.2 (by omega) HTU.out).mono ?_
      rintro e w3 ⟨rfl, hB⟩
      replace S := S.below hB
      clear hB
      have e2 : chkD (m1 : Int) us = 8 := if_neg ha
      rw [e2]
      clear e2 ha
      go_wp2_with fail
      go_ret
      exact ⟨rfl, S.1⟩
  · have t5 : (f != 0) = true := by simpa using hf
    clear hf HR
    go_wp2_with fail
    go_ret
    exact ⟨rfl, S.1⟩

theorem walk (n k : Int) (sv tv : Value) (ts : List Int) (rs : List (Int × Int)) (w : World) (hI : law.Ints w.heap.size w sv ts) (htop : Tops ts) (hR : Rats w.heap.size w tv rs) (hi : IntsR rs) (hcp : ∀ a l c, tv = .slice a l c → l ≤ c) :
    Calls Try.prog 5 #[.agg #[.int .i64 n, sv], .int .i64 k, tv] w fun e w' => e = .returned (.bool true) ∧ Below w.heap.size w w' := by
  by_cases h : 1000 < ts.length ∨ (ts.length ≤ 1000 ∧ 100 < rs.length)
  · exact walk_far n k sv tv ts rs w hI hR h
  · exact walk_in n k sv tv ts rs w hI htop hR hi hcp (by omega) (by omega)

set_option maxRecDepth 100000 in
theorem lifted (os : Os) (started : os.Started) (H : Type) (enc : TypeId × Value → H) :
    ReturnsInHanded {} Try.checked os 5 .any (Rows.projDropsSpec.pre6 enc Try.prog Try.f5 Rows.projDropsRow.domain false) (Rows.projDropsSpec.post enc Try.prog Try.f5 false true false false) := by
  refine returnsInHanded_of_change (C := Try.checked) law.own started (by kernel_rfl) Try.func5
    (ChangeSpec.witness6 (enc := enc) (C := Try.checked) false ⟨#[], #[.agg #[.int .i64 0, .slice none 0 0], .int .i64 0, .slice none 0 0], []⟩ 8 (by kernel_rfl) (by kernel_rfl) (by kernel_rfl) (by kernel_rfl)) ?_
  intro W base args ds gs before hval0 hW _ _
  have hval : ∀ (j : Nat) t v, Try.f5.params[j]? = some t → args[j]? = some v → Value.okWide Try.prog W .any base t v := hval0
  have hW' := hW
  obtain ⟨p, q, hA0, hV, rfl, _, _⟩ := hW
  have hA : DataW.TrodAll enc Try.prog W 0 (fun _ => true) true Try.f5.params.toList args.toList ds p := hA0
  rw [Try.params5] at hA hval
  obtain ⟨v0, vs0, d0, ds0, p0, q0, hargs, rfl, rfl, h0, r0⟩ := trodAll_cons hA
  obtain ⟨v1, vs1, d1, ds1, p1, q1, rfl, rfl, rfl, h1, r1⟩ := trodAll_cons r0
  obtain ⟨v2, vs2, d2, ds2, p2, q2, rfl, rfl, rfl, h2, r2⟩ := trodAll_cons r1
  obtain ⟨rfl, rfl, rfl⟩ := trodAll_nil r2
  obtain rfl : args = #[v0, v1, v2] := by cases args; simp_all
  obtain ⟨n0, sv0, ts0, rfl, _, hwf0, hI0, _⟩ := dlaw.open_dbm (hval 0 24 v0 rfl rfl) h0
  obtain ⟨a1, rfl, rfl, rfl, x1⟩ := open_int Try.underlying3 (hval 1 3 v1 rfl rfl) h1
  obtain ⟨rs2, hi2, hR2, _⟩ := open_rats (hval 2 42 v2 rfl rfl) h2
  refine (walk n0 a1 sv0 v2 ts0 rs2 W hI0 (fun z hz => law.wf_hi (hwf0 z hz)) hR2 hi2 (rats_cap (hval 2 42 v2 rfl rfl) h2)).mono fun e W' ⟨he, hB⟩ => ?_
  subst he
  exact ⟨_, rfl, law.post_true law.laidOut (by kernel_rfl) rfl Try.underlying4 rfl hW' (fun h => by subst h; rfl) hB⟩

theorem proved : Rows.ProjDropsSaid :=
  OpenClaim.holds_of_wide 5 Try.f5 rfl rfl rfl rfl rfl rfl rfl ⟨rfl, rfl, rfl, rfl, rfl⟩ rfl rfl rfl rfl rfl (by kernel_rfl) Try.func5 (by kernel_rfl)
    (of_decide_eq_true (by kernel_rfl)) (by unfold Func.isWrapper; first | (rw [if_pos (by decide +kernel)]; kernel_rfl) | (rw [if_neg (by decide +kernel)]; exact ⟨rfl, rfl⟩))
    (fun os started H enc _ => lifted os started H enc)
#print axioms proved
end Go.Proofs.Ytikjkmhnimpbhaa.projDrops
