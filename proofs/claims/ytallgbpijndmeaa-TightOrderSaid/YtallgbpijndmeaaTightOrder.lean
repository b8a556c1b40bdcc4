/-
  TightOrder answers true for every two matrices, clocks and bounds; no condition.
-/
import Derived.Test.YtallgbpijndmeaaTightLaw
import Derived.Test.YtallgbpijndmeaaTightOpen
import Derived.Test.YtallgbpijndmeaaTightLike
import Derived.OpenShut
import Derived.BigQuiet
namespace Go.Proofs.Ytallgbpijndmeaa.tightOrder
open Go.ChangeShapes Go.WideShapes Go.ChangeAt Go.RowKit num dbm dref Go.Proofs.Ytallgbpijndmeaa.tight tlaw
open bound hiding up
set_option linter.unusedVariables false
set_option linter.unusedSimpArgs false

set_option maxRecDepth 100000 in
set_option maxHeartbeats 1000000 in
theorem walk_far (n m i j x k y : Int) (sv tv : Value) (ts us : List Int) (w : World) (hI : law.Ints w.heap.size w sv ts) (hJ : law.Ints w.heap.size w tv us) (h : 1000 < ts.length ∨ (ts.length ≤ 1000 ∧ 1000 < us.length)) :
    Calls Try.prog 6 #[.agg #[.int .i64 n, sv], .agg #[.int .i64 m, tv], .int .i64 i, .int .i64 j, .int .i64 x, .int .i64 k, .int .i64 y] w fun e w' => e = .returned (.bool true) ∧ Below w.heap.size w w' := by
  obtain ⟨ad, cap, rfl⟩ := ints_len hI
  obtain ⟨bd, dap, rfl⟩ := ints_len hJ
  have D0 := lies.on_alloc (lies.made w 24 #[.int .i64 n, .slice ad ts.length cap]) (.cells #[.int .i64 m, .slice bd us.length dap] 24)
  have D1 := lies.made_at (w.alloc (.cells #[.int .i64 n, .slice ad ts.length cap] 24)) 24 #[.int .i64 m, .slice bd us.length dap] (w.heap.size + 1) (by simp)
  have K0 := bound.up2 w (.cells #[.int .i64 n, .slice ad ts.length cap] 24) (.cells #[.int .i64 m, .slice bd us.length dap] 24)
  clear hI hJ
  rcases h with h | ⟨h, h2⟩
  · have t1 : (1000 : Int) < ts.length := by omega
    go_enter Try.func6, Try.ntmps6
    go_wp2_with fail
    refine (alive_yes _).mono ?_
    rintro e w1 ⟨rfl, hB⟩
    obtain ⟨x0, x1, x2, x3, x4⟩ := lies.two (lies.on_call D0 hB)
    have K := K0.trans (hB.mono K0.size)
    clear hB D0 D1 K0
    go_wp2_with fail
    go_ret
    exact ⟨rfl, K⟩
  · have t1 : ¬ (1000 : Int) < ts.length := by omega
    have t2 : (1000 : Int) < us.length := by omega
    go_enter Try.func6, Try.ntmps6
    go_wp2_with fail
    refine (alive_yes _).mono ?_
    rintro e w1 ⟨rfl, hB⟩
    obtain ⟨x0, x1, x2, x3, x4⟩ := lies.two (lies.on_call D0 hB)
    obtain ⟨y0, y1, y2, y3, y4⟩ := lies.two (lies.on_call D1 hB)
    have K := K0.trans (hB.mono K0.size)
    clear hB D0 D1 K0
    go_wp2_with fail
    go_ret
    exact ⟨rfl, K⟩

/-- which comes first turns nothing. -/
theorem meet_swap {n m : Int} {ts us : List Int} {na nb f g : Int} {vs ws : List Int} (h : Res n (meetQ n m ts us) (meetE n m ts us) na vs f) (k : Res m (meetQ m n us ts) (meetE m n us ts) nb ws g) : nb = na ∧ ws = vs ∧ g = f := by
  have e1 : meetE m n us ts = meetE n m ts us := by unfold meetE; simp only [and_comm]
  have e2 : meetQ m n us ts = meetQ n m ts us := by
    unfold meetQ
    by_cases p : MayD n ts ∧ MayD m us ∧ n = m
    · have hl : ts.length = us.length := by
        have h1 := p.1.2.2.1
        have h2 := p.2.1.2.2.1
        rw [← p.2.2] at h2
        omega
      rw [if_pos p, if_pos ⟨p.2.1, p.1, p.2.2.symm⟩, lesT_comm hl]
    · rw [if_neg p, if_neg (fun q => p ⟨q.2.1, q.1, q.2.2.symm⟩)]
  rw [e1, e2] at k
  by_cases p : n = m
  · subst p
    exact Res.one h k
  · have e3 : meetQ n m ts us = none := if_neg (fun q => p q.2.2)
    rw [e3] at h k
    rcases h with ⟨_, rfl, rfl, rfl⟩ | ⟨_, h, _⟩
    · rcases k with ⟨_, rfl, rfl, rfl⟩ | ⟨_, k, _⟩
      · exact ⟨rfl, rfl, rfl⟩
      · cases k
    · cases h
/-- one and itself. -/
theorem meet_own {n : Int} {ts : List Int} {na nb f g : Int} {vs ws : List Int} (h : Res n (meetQ n n ts ts) (meetE n n ts ts) na vs f) (k : Ans n ts nb ws g) : nb = na ∧ ws = vs ∧ g = f := by
  by_cases p : MayD n ts
  · have e2 : meetQ n n ts ts = some ts := (if_pos ⟨p, p, rfl⟩).trans (by rw [lesT_self])
    rw [e2] at h
    rcases h with ⟨h, _⟩ | ⟨L, h, h'⟩
    · cases h
    · cases h; exact Ans.one h' k
  · have e1 : meetE n n ts ts = 8 := if_neg (fun q => p q.1)
    have e2 : meetQ n n ts ts = none := if_neg (fun q => p q.1)
    rw [e1, e2] at h
    rcases h with ⟨_, rfl, rfl, rfl⟩ | ⟨_, h, _⟩
    · rcases k with ⟨_, rfl, rfl, rfl⟩ | ⟨hok, _⟩
      · exact ⟨rfl, rfl, if_neg p⟩
      · exact (p hok.1).elim
    · cases h

/-- an answer of Set that is none of the errors. -/
theorem set_told {n i j x na f : Int} {ts us : List Int} (h : Res n (setQ n ts i j x) (setE n ts i j) na us f) (hf : f = 0) : MayD n ts ∧ Clk n i ∧ Clk n j ∧ Fine x ∧ na = n ∧ OkD n (setT ts (i.toNat * n.toNat + j.toNat) x) ∧ us = clT n (setT ts (i.toNat * n.toNat + j.toNat) x) := by
  subst hf
  by_cases p : MayD n ts ∧ Clk n i ∧ Clk n j ∧ Fine x
  · have e2 : setQ n ts i j x = some (setT ts (i.toNat * n.toNat + j.toNat) x) := if_pos p
    rw [e2] at h
    rcases h with ⟨h, _⟩ | ⟨L, h, h'⟩
    · cases h
    · cases h
      rcases h' with ⟨_, _, _, h0⟩ | ⟨hok, rfl, rfl, _⟩
      · rw [if_pos (setT_may p.1 _ p.2.2.2)] at h0
        exact absurd h0 (by decide)
      · exact ⟨p.1, p.2.1, p.2.2.1, p.2.2.2, rfl, hok, rfl⟩
  · have e2 : setQ n ts i j x = none := if_neg p
    rw [e2] at h
    rcases h with ⟨_, _, _, h0⟩ | ⟨_, h, _⟩
    · have : setE n ts i j ≠ 0 := by unfold setE; split <;> decide
      exact absurd h0.symm this
    · cases h

theorem setQ_some {m a b : Nat} {x : Int} {ts : List Int} (h : MayD m ts ∧ Clk m a ∧ Clk m b ∧ Fine x) : setQ m ts a b x = some (setT ts (a * m + b) x) := by
  unfold setQ
  rw [if_pos h]
  simp only [Int.toNat_natCast]
theorem Res.len {n : Int} {q : Option (List Int)} {err na f : Int} {us : List Int} (h : Res n q err na us f) (k : ∀ ts, q = some ts → ts.length ≤ 1000) : us.length ≤ 1000 := by
  rcases h with ⟨_, _, rfl, _⟩ | ⟨ts, h0, h⟩
  · simp
  · exact Nat.le_trans (tlaw.Ans.len h) (k ts h0)
theorem setQ_len {n i j x : Int} {ts q : List Int} (h : setQ n ts i j x = some q) : q.length = ts.length := by
  unfold setQ at h
  split at h
  · cases h; exact setT_length _ _ _
  · cases h
theorem meetQ_len {n m : Int} {ts us q : List Int} (h : meetQ n m ts us = some q) : q.length = ts.length := by
  unfold meetQ at h
  split at h
  · cases h; exact lesT_length _ _
  · cases h
/-- two bounds more, in either order. -/
theorem sets_swap {n i j x k y nr ns f g : Int} {ts vs ws P Q : List Int} (htop : Tops ts) (hm : MayD n ts) (hi : Clk n i) (hj : Clk n j) (hk : Clk n k) (hx : Fine x) (hy : Fine y) (x2 : x ≤ 9223372036854775807) (y2 : y ≤ 9223372036854775807)
    (hP : P = clT n (setT ts (i.toNat * n.toNat + j.toNat) x)) (okP : OkD n (setT ts (i.toNat * n.toNat + j.toNat) x)) (mP : MayD n P)
    (hQ : Q = clT n (setT ts (j.toNat * n.toNat + k.toNat) y)) (okQ : OkD n (setT ts (j.toNat * n.toNat + k.toNat) y)) (mQ : MayD n Q)
    (hr : Res n (setQ n P j k y) (setE n P j k) nr vs f) (hs : Res n (setQ n Q i j x) (setE n Q i j) ns ws g) : ns = nr ∧ ws = vs ∧ g = f := by
  obtain ⟨m, rfl, h0, hn, hl⟩ := may_nat hm
  obtain ⟨a, rfl⟩ : ∃ a : Nat, i = a := ⟨i.toNat, by have := hi.1; omega⟩
  obtain ⟨b, rfl⟩ : ∃ b : Nat, j = b := ⟨j.toNat, by have := hj.1; omega⟩
  obtain ⟨c, rfl⟩ : ∃ c : Nat, k = c := ⟨k.toNat, by have := hk.1; omega⟩
  have ha : a < m := by have := hi.2; omega
  have hb : b < m := by have := hj.2; omega
  have hc : c < m := by have := hk.2; omega
  simp only [Int.toNat_natCast] at hP okP hQ okQ
  subst hP hQ
  have e1 := setQ_some (ts := clT m (setT ts (a * m + b) x)) ⟨mP, hj, hk, hy⟩
  have e2 := setQ_some (ts := clT m (setT ts (b * m + c) y)) ⟨mQ, hi, hj, hx⟩
  rw [e1] at hr
  rw [e2] at hs
  have A1 : Ans m (setT (clT m (setT ts (a * m + b) x)) (b * m + c) y) nr vs f := by
    rcases hr with ⟨h, _⟩ | ⟨L, h, h'⟩
    · cases h
    · cases h; exact h'
  have A2 : Ans m (setT (clT m (setT ts (b * m + c) y)) (a * m + b) x) ns ws g := by
    rcases hs with ⟨h, _⟩ | ⟨L, h, h'⟩
    · cases h
    · cases h; exact h'
  have l1 : (setT ts (a * m + b) x).length = m * m := (setT_length _ _ _).trans hl
  have l2 : (setT ts (b * m + c) y).length = m * m := (setT_length _ _ _).trans hl
  have k1 := cl_set h0 hn l1 (setT_tops htop _ _) okP mP hb hc hy y2
  have k2 := cl_set h0 hn l2 (setT_tops htop _ _) okQ mQ ha hb hx x2
  have B1 := tref.Ans.like A1 k1
  have B2 := tref.Ans.like A2 k2
  rw [setT_comm] at B2
  exact Ans.one B1 B2

set_option maxRecDepth 100000 in
set_option maxHeartbeats 8000000 in
theorem walk_in (n m i j x k y : Int) (sv tv : Value) (ts us : List Int) (w : World) (hI : law.Ints w.heap.size w sv ts) (hJ : law.Ints w.heap.size w tv us) (h1 : ts.length ≤ 1000) (h2 : us.length ≤ 1000) (htop : Tops ts) (hto : Tops us) (x2 : x ≤ 9223372036854775807) (y2 : y ≤ 9223372036854775807) :
    Calls Try.prog 6 #[.agg #[.int .i64 n, sv], .agg #[.int .i64 m, tv], .int .i64 i, .int .i64 j, .int .i64 x, .int .i64 k, .int .i64 y] w fun e w' => e = .returned (.bool true) ∧ Below w.heap.size w w' := by
  obtain ⟨ad, cap, rfl⟩ := ints_len hI
  obtain ⟨bd, dap, rfl⟩ := ints_len hJ
  have t1 : ¬ (1000 : Int) < ts.length := by omega
  have t2 : ¬ (1000 : Int) < us.length := by omega
  have S0 : St [(w.heap.size + 1, m, .slice bd us.length dap, us), (w.heap.size, n, .slice ad ts.length cap, ts)] w ((w.alloc (.cells #[.int .i64 n, .slice ad ts.length cap] 24)).alloc (.cells #[.int .i64 m, .slice bd us.length dap] 24)) := by
    have K : Below w.heap.size w ((w.alloc (.cells #[.int .i64 n, .slice ad ts.length cap] 24)).alloc (.cells #[.int .i64 m, .slice bd us.length dap] 24)) := bound.up2 _ _ _
    refine ⟨K, fun b hb => ?_⟩
    rcases List.mem_cons.1 hb with rfl | hb
    · exact ⟨lies.made_at _ _ _ _ (World.size_alloc _ _), (hJ.below K).mono K.size⟩
    · obtain rfl := List.mem_singleton.1 hb
      exact ⟨lies.on_alloc (lies.made _ _ _) _, (hI.below K).mono K.size⟩
  have HT := Lib.hid htop
  have HU := Lib.hid hto
  clear hI hJ htop hto
  go_enter Try.func6, Try.ntmps6
  go_wp2_with fail
  generalize (w.alloc (.cells #[.int .i64 n, .slice ad ts.length cap] 24)).alloc (.cells #[.int .i64 m, .slice bd us.length dap] 24) = v0 at S0 ⊢
  refine (alive_yes _).mono ?_
  rintro e v1 ⟨rfl, hB⟩
  have S1 := S0.below hB
  clear S0 hB
  obtain ⟨x0, x1, x2', x3, x4⟩ := lies.two S1.tail.head.1
  obtain ⟨y0, y1, y2', y3, y4⟩ := lies.two S1.head.1
  go_wp2_with fail
  clear x0 x1 x2' x3 x4 y0 y1 y2' y3 y4
  refine (meet_any n m _ _ ts us _ S1.tail.head.2 S1.head.2 (by omega) (by omega) HT.out HU.out).mono ?_
  rintro e v3 ⟨hB, n3, a3, l3, c3, us3, f3, rfl, hR, hK⟩
  have S3 := (S1.below hB).add n3 _ us3 hK.ints
  have HR3 := Lib.hid hR
  clear S1 hB hK hR
  obtain ⟨x0, x1, x2', x3, x4⟩ := lies.two S3.tail.tail.head.1
  obtain ⟨y0, y1, y2', y3, y4⟩ := lies.two S3.tail.head.1
  go_wp2_with fail
  clear x0 x1 x2' x3 x4 y0 y1 y2' y3 y4
  generalize v3.heap.size = B3 at S3 ⊢
  generalize v3.alloc (.cells #[.int .i64 n3, .slice a3 l3 c3] 24) = w3 at S3 ⊢
  refine (meet_any m n _ _ us ts _ S3.tail.head.2 S3.tail.tail.head.2 (by omega) (by omega) HU.out HT.out).mono ?_
  rintro e v4 ⟨hB, n4, a4, l4, c4, us4, f4, rfl, hR, hK⟩
  obtain ⟨rfl, rfl, rfl⟩ := meet_swap HR3.out hR
  have S4 := (S3.below hB).add n4 _ us4 hK.ints
  clear S3 hB hK hR
  obtain ⟨x0, x1, x2', x3, x4⟩ := lies.two S4.tail.tail.tail.head.1
  go_wp2_with fail
  clear x0 x1 x2' x3 x4
  generalize v4.heap.size = B4 at S4 ⊢
  generalize v4.alloc (.cells #[.int .i64 n4, .slice a4 l4 c4] 24) = w4 at S4 ⊢
  refine (meet_any n n _ _ ts ts _ S4.tail.tail.tail.head.2 S4.tail.tail.tail.head.2 (by omega) (by omega) HT.out HT.out).mono ?_
  rintro e v5 ⟨hB, n5, a5, l5, c5, us5, f5, rfl, hR, hK⟩
  have S5 := (S4.below hB).add n5 _ us5 hK.ints
  have HR5 := Lib.hid hR
  clear S4 hB hK hR
  obtain ⟨x0, x1, x2', x3, x4⟩ := lies.two S5.tail.tail.tail.tail.head.1
  go_wp2_with fail
  clear x0 x1 x2' x3 x4
  generalize v5.heap.size = B5 at S5 ⊢
  generalize v5.alloc (.cells #[.int .i64 n5, .slice a5 l5 c5] 24) = w5 at S5 ⊢
  refine (close_g n _ ts _ S5.tail.tail.tail.tail.head.2 (by omega) HT.out).mono ?_
  rintro e v6 ⟨hB, n6, a6, l6, c6, us6, f6, rfl, hA, hK⟩
  obtain ⟨rfl, rfl, rfl⟩ := meet_own HR5.out hA
  have S6 := (S5.below hB).add n6 _ us6 hK.ints
  have hl4 : us4.length ≤ 1000 := Res.len HR3.out (fun q hq => by rw [meetQ_len hq]; exact h1)
  have hl6 : us6.length ≤ 1000 := Res.len HR5.out (fun q hq => by rw [meetQ_len hq]; exact h1)
  have hf4 : (f4 != f4) = false := by simp
  have hf6 : (f6 != f6) = false := by simp
  clear S5 hB hK hA HR3 HR5
  obtain ⟨x0, x1, x2', x3, x4⟩ := lies.two S6.tail.tail.tail.head.1
  obtain ⟨y0, y1, y2', y3, y4⟩ := lies.two S6.tail.tail.head.1
  go_wp2_with fail
  clear x0 x1 x2' x3 x4 y0 y1 y2' y3 y4
  generalize v6.heap.size = B6 at S6 ⊢
  generalize v6.alloc (.cells #[.int .i64 n6, .slice a6 l6 c6] 24) = w6 at S6 ⊢
  refine (dref.same_true n4 _ _ us4 us4 _ S6.tail.tail.tail.head.2 S6.tail.tail.head.2 (by omega) rfl).mono ?_
  rintro e w7 ⟨rfl, hB⟩
  have S7 := S6.below hB
  clear S6 hB
  obtain ⟨x0, x1, x2', x3, x4⟩ := lies.two S7.tail.head.1
  obtain ⟨y0, y1, y2', y3, y4⟩ := lies.two S7.head.1
  go_wp2_with fail
  clear x0 x1 x2' x3 x4 y0 y1 y2' y3 y4
  refine (dref.same_true n6 _ _ us6 us6 _ S7.tail.head.2 S7.head.2 (by omega) rfl).mono ?_
  rintro e w8 ⟨rfl, hB⟩
  have S8 := (S7.below hB).tail.tail.tail.tail.tail
  clear S7 hB hf4 hf6 hl4 hl6
  obtain ⟨x0, x1, x2', x3, x4⟩ := lies.two S8.head.1
  go_wp2_with fail
  clear x0 x1 x2' x3 x4
  refine (set_any n i j x _ ts _ S8.head.2 (by omega) HT.out x2).mono ?_
  rintro e v9 ⟨hB, n9, a9, l9, c9, us9, f9, rfl, hR, hK⟩
  have S9 := (S8.below hB).add n9 _ us9 hK.ints
  have HR9 := Lib.hid hR
  clear S8 hB hK hR
  obtain ⟨x0, x1, x2', x3, x4⟩ := lies.two S9.tail.head.1
  go_wp2_with fail
  clear x0 x1 x2' x3 x4
  generalize v9.heap.size = B9 at S9 ⊢
  generalize v9.alloc (.cells #[.int .i64 n9, .slice a9 l9 c9] 24) = w9 at S9 ⊢
  refine (set_any n j k y _ ts _ S9.tail.head.2 (by omega) HT.out y2).mono ?_
  rintro e v10 ⟨hB, n10, a10, l10, c10, us10, f10, rfl, hR, hK⟩
  have S10 := (S9.below hB).add n10 _ us10 hK.ints
  have HR10 := Lib.hid hR
  clear S9 hB hK hR
  by_cases hf9 : f9 = 0
  · by_cases hf10 : f10 = 0
    · obtain ⟨hm, hi, hj, hx, rfl, ok9, hu9⟩ := set_told HR9.out hf9
      obtain ⟨_, _, hk, hy, rfl, ok10, hu10⟩ := set_told HR10.out hf10
      have hl9 : us9.length ≤ 1000 := Res.len HR9.out (fun q hq => by rw [setQ_len hq]; exact h1)
      have hl10 : us10.length ≤ 1000 := Res.len HR10.out (fun q hq => by rw [setQ_len hq]; exact h1)
      have ht9 : Tops us9 := by rw [hu9]; exact clT_tops (setT_tops HT.out _ _)
      have ht10 : Tops us10 := by rw [hu10]; exact clT_tops (setT_tops HT.out _ _)
      have H9 := Lib.hid (And.intro ok9 hu9)
      have H10 := Lib.hid (And.intro ok10 hu10)
      have HC := Lib.hid (And.intro hm (And.intro hi (And.intro hj (And.intro hk (And.intro hx hy)))))
      have HT9 := Lib.hid ht9
      have HT10 := Lib.hid ht10
      subst hf9 hf10
      clear HR9 HR10 ok9 hu9 ok10 hu10 hm hi hj hk hx hy ht9 ht10
      obtain ⟨x0, x1, x2', x3, x4⟩ := lies.two S10.tail.head.1
      go_wp2_with fail
      clear x0 x1 x2' x3 x4
      generalize v10.heap.size = B10 at S10 ⊢
      generalize v10.alloc (.cells #[.int .i64 n10, .slice a10 l10 c10] 24) = w10 at S10 ⊢
      by_cases m9 : MayD n10 us9
      · have M9 := Lib.hid m9
        clear m9
        refine (check_ok n10 _ us9 _ S10.tail.head.2 HT9.out M9.out).mono ?_
        rintro e w11 ⟨rfl, hB⟩
        have S11 := S10.below hB
        clear S10 hB
        obtain ⟨x0, x1, x2', x3, x4⟩ := lies.two S11.head.1
        go_wp2_with fail
        clear x0 x1 x2' x3 x4
        by_cases m10 : MayD n10 us10
        · have M10 := Lib.hid m10
          clear m10
          refine (check_ok n10 _ us10 _ S11.head.2 HT10.out M10.out).mono ?_
          rintro e w12 ⟨rfl, hB⟩
          have S12 := S11.below hB
          clear S11 hB
          obtain ⟨x0, x1, x2', x3, x4⟩ := lies.two S12.tail.head.1
          go_wp2_with fail
          clear x0 x1 x2' x3 x4
          refine (set_any n10 j k y _ us9 _ S12.tail.head.2 (by omega) HT9.out y2).mono ?_
          rintro e v13 ⟨hB, n13, a13, l13, c13, us13, f13, rfl, hR, hK⟩
          have S13 := (S12.below hB).add n13 _ us13 hK.ints
          have HR13 := Lib.hid hR
          clear S12 hB hK hR
          obtain ⟨x0, x1, x2', x3, x4⟩ := lies.two S13.tail.head.1
          go_wp2_with fail
          clear x0 x1 x2' x3 x4
          generalize v13.heap.size = B13 at S13 ⊢
          generalize v13.alloc (.cells #[.int .i64 n13, .slice a13 l13 c13] 24) = w13 at S13 ⊢
          refine (set_any n10 i j x _ us10 _ S13.tail.head.2 (by omega) HT10.out x2).mono ?_
          rintro e v14 ⟨hB, n14, a14, l14, c14, us14, f14, rfl, hR, hK⟩
          obtain ⟨rfl, rfl, rfl⟩ := sets_swap HT.out HC.out.1 HC.out.2.1 HC.out.2.2.1 HC.out.2.2.2.1 HC.out.2.2.2.2.1 HC.out.2.2.2.2.2 x2 y2 H9.out.2 H9.out.1 M9.out H10.out.2 H10.out.1 M10.out HR13.out hR
          have S14 := (S13.below hB).add n14 _ us14 hK.ints
          have hl14 : us14.length ≤ 1000 := Res.len HR13.out (fun q hq => by rw [setQ_len hq]; exact hl9)
          have hf14 : (f14 == f14) = true := by simp
          clear S13 hB hK hR HR13 H9 H10 HC
          obtain ⟨x0, x1, x2', x3, x4⟩ := lies.two S14.tail.head.1
          obtain ⟨y0, y1, y2', y3, y4⟩ := lies.two S14.head.1
          go_wp2_with fail
          clear x0 x1 x2' x3 x4 y0 y1 y2' y3 y4
          refine (dref.same_true n14 _ _ us14 us14 _ S14.tail.head.2 S14.head.2 (by omega) rfl).mono ?_
          rintro e w15 ⟨rfl, hB⟩
          have K := (S14.below hB).1
          clear S14 hB
          go_wp2_with fail
          go_ret
          exact ⟨rfl, K⟩
        · have M10 := Lib.hid m10
          clear m10
          refine (check_no n10 _ us10 _ S11.head.2 (by omega) HT10.out M10.out).mono ?_
          rintro e w12 ⟨rfl, hB⟩
          have K := (S11.below hB).1
          clear S11 hB H9 H10 HC
          go_wp2_with fail
          go_ret
          exact ⟨rfl, K⟩
      · have M9 := Lib.hid m9
        clear m9
        refine (check_no n10 _ us9 _ S10.tail.head.2 (by omega) HT9.out M9.out).mono ?_
        rintro e w11 ⟨rfl, hB⟩
        have K := (S10.below hB).1
        clear S10 hB H9 H10 HC
        go_wp2_with fail
        go_ret
        exact ⟨rfl, K⟩
    · have t6 : (f10 != 0) = true := by simpa using hf10
      have K := S10.1
      subst hf9
      clear S10 HR9 HR10
      go_wp2_with fail
      go_ret
      exact ⟨rfl, K⟩
  · have t6 : (f9 != 0) = true := by simpa using hf9
    have K := S10.1
    clear S10 HR9 HR10
    go_wp2_with fail
    go_ret
    exact ⟨rfl, K⟩

theorem walk (n m i j x k y : Int) (sv tv : Value) (ts us : List Int) (w : World) (hI : law.Ints w.heap.size w sv ts) (hJ : law.Ints w.heap.size w tv us) (htop : Tops ts) (hto : Tops us) (x2 : x ≤ 9223372036854775807) (y2 : y ≤ 9223372036854775807) :
    Calls Try.prog 6 #[.agg #[.int .i64 n, sv], .agg #[.int .i64 m, tv], .int .i64 i, .int .i64 j, .int .i64 x, .int .i64 k, .int .i64 y] w fun e w' => e = .returned (.bool true) ∧ Below w.heap.size w w' := by
  by_cases h : 1000 < ts.length ∨ (ts.length ≤ 1000 ∧ 1000 < us.length)
  · exact walk_far n m i j x k y sv tv ts us w hI hJ h
  · exact walk_in n m i j x k y sv tv ts us w hI hJ (by omega) (by omega) htop hto x2 y2

set_option maxRecDepth 100000 in
theorem lifted (os : Os) (started : os.Started) (H : Type) (enc : TypeId × Value → H) :
    ReturnsInHanded {} Try.checked os 6 .any (Rows.tightOrderSpec.pre6 enc Try.prog Try.f6 Rows.tightOrderRow.domain false) (Rows.tightOrderSpec.post enc Try.prog Try.f6 false true false false) := by
  refine returnsInHanded_of_change (C := Try.checked) law.own started (by kernel_rfl) Try.func6
    (ChangeSpec.witness6 (enc := enc) (C := Try.checked) false ⟨#[], #[.agg #[.int .i64 0, .slice none 0 0], .agg #[.int .i64 0, .slice none 0 0], .int .i64 0, .int .i64 0, .int .i64 0, .int .i64 0, .int .i64 0], []⟩ 8 (by kernel_rfl) (by kernel_rfl) (by kernel_rfl) (by kernel_rfl)) ?_
  intro W base args ds gs before hval0 hW _ _
  have hval : ∀ (j : Nat) t v, Try.f6.params[j]? = some t → args[j]? = some v → Value.okWide Try.prog W .any base t v := hval0
  have hW' := hW
  obtain ⟨p, q, hA0, hV, rfl, _, _⟩ := hW
  have hA : DataW.TrodAll enc Try.prog W 0 (fun _ => true) true Try.f6.params.toList args.toList ds p := hA0
  rw [Try.params6] at hA hval
  obtain ⟨v0, vs0, d0, ds0, p0, q0, hargs, rfl, rfl, h0, r0⟩ := trodAll_cons hA
  obtain ⟨v1, vs1, d1, ds1, p1, q1, rfl, rfl, rfl, h1, r1⟩ := trodAll_cons r0
  obtain ⟨v2, vs2, d2, ds2, p2, q2, rfl, rfl, rfl, h2, r2⟩ := trodAll_cons r1
  obtain ⟨v3, vs3, d3, ds3, p3, q3, rfl, rfl, rfl, h3, r3⟩ := trodAll_cons r2
  obtain ⟨v4, vs4, d4, ds4, p4, q4, rfl, rfl, rfl, h4, r4⟩ := trodAll_cons r3
  obtain ⟨v5, vs5, d5, ds5, p5, q5, rfl, rfl, rfl, h5, r5⟩ := trodAll_cons r4
  obtain ⟨v6, vs6, d6, ds6, p6, q6, rfl, rfl, rfl, h6, r6⟩ := trodAll_cons r5
  obtain ⟨rfl, rfl, rfl⟩ := trodAll_nil r6
  obtain rfl : args = #[v0, v1, v2, v3, v4, v5, v6] := by cases args; simp_all
  obtain ⟨n, sv, ts, rfl, _, hwf, hI, _⟩ := dlaw.open_dbm (hval 0 24 v0 rfl rfl) h0
  obtain ⟨m, tv, us, rfl, _, hwf', hJ, _⟩ := dlaw.open_dbm (hval 1 24 v1 rfl rfl) h1
  obtain ⟨i, rfl, rfl, rfl, _⟩ := open_int Try.underlying3 (hval 2 3 v2 rfl rfl) h2
  obtain ⟨j, rfl, rfl, rfl, _⟩ := open_int Try.underlying3 (hval 3 3 v3 rfl rfl) h3
  obtain ⟨x, rfl, rfl, rfl, hx⟩ := open_int Try.underlying26 (hval 4 26 v4 rfl rfl) h4
  obtain ⟨k, rfl, rfl, rfl, _⟩ := open_int Try.underlying3 (hval 5 3 v5 rfl rfl) h5
  obtain ⟨y, rfl, rfl, rfl, hy⟩ := open_int Try.underlying26 (hval 6 26 v6 rfl rfl) h6
  refine (walk n m i j x k y sv tv ts us W hI hJ (fun z hz => law.wf_hi (hwf z hz)) (fun z hz => law.wf_hi (hwf' z hz)) (law.wf_hi hx) (law.wf_hi hy)).mono fun e W' ⟨he, hB⟩ => ?_
  subst he
  exact ⟨_, rfl, law.post_true law.laidOut (by kernel_rfl) rfl Try.underlying4 rfl hW' (fun h => by subst h; rfl) hB⟩

theorem proved : Rows.TightOrderSaid :=
  OpenClaim.holds_of_wide 6 Try.f6 rfl rfl rfl rfl rfl rfl rfl ⟨rfl, rfl, rfl, rfl, rfl⟩ rfl rfl rfl rfl rfl (by kernel_rfl) Try.func6 (by kernel_rfl)
    (of_decide_eq_true (by kernel_rfl)) (by unfold Func.isWrapper; first | (rw [if_pos (by decide +kernel)]; kernel_rfl) | (rw [if_neg (by decide +kernel)]; exact ⟨rfl, rfl⟩))
    (fun os started H enc _ => lifted os started H enc)
#print axioms proved
end Go.Proofs.Ytallgbpijndmeaa.tightOrder
