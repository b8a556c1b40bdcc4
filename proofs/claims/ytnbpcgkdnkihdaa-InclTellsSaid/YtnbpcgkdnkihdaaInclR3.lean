/-
  What rallentandoref06's In, Apart, shift, turned and other answer; each theorem names its conditions.
-/
import Derived.Test.YtnbpcgkdnkihdaaInclR2
namespace Go.Proofs.Ytnbpcgkdnkihdaa.iref
open Go.ChangeShapes Go.WideShapes Go.ChangeAt Go.RowKit num rat dbm way Go.Proofs.Ytnbpcgkdnkihdaa.tight Go.Proofs.Ytnbpcgkdnkihdaa.incl Go.Proofs.Ytnbpcgkdnkihdaa.tref Go.Proofs.Ytnbpcgkdnkihdaa.tlaw
open bound hiding up
set_option linter.unusedVariables false
set_option linter.unusedSimpArgs false

set_option maxRecDepth 100000 in
set_option maxHeartbeats 2000000 in
theorem rin_any (n m : Int) (sv tv : Value) (ts us : List Int) (w : World) (hI : law.Ints w.heap.size w sv ts) (hJ : law.Ints w.heap.size w tv us) (hm : ts.length ≤ 1000000) (hm2 : us.length ≤ 1000000) (hlo : dref.Low ts) (hlu : dref.Low us) (htop : Tops ts) (hto : Tops us) :
    Calls Try.prog 16 #[.agg #[.int .i64 n, sv], .agg #[.int .i64 m, tv]] w (Asks n m ts us (inV n ts us) w) := by
  have S := ilaw.st2 n m sv tv ts us w hI hJ
  obtain ⟨ad, cap, rfl⟩ := ints_len hI
  obtain ⟨bd, dap, rfl⟩ := ints_len hJ
  have HT := Lib.hid htop
  have HO := Lib.hid hto
  have HLO := Lib.hid hlo
  have HLU := Lib.hid hlu
  obtain ⟨ev, hev⟩ : ∃ z, askE n m ts us = z := ⟨_, rfl⟩
  have HE := Lib.hid hev
  clear hI hJ htop hto hlo hlu hev
  go_enter Try.func16, Try.ntmps16
  obtain ⟨x0, x1, x2, x3, x4⟩ := lies.two S.tail.head.1
  obtain ⟨y0, y1, y2, y3, y4⟩ := lies.two S.head.1
  go_wp2_with fail
  clear x0 x1 x2 x3 x4 y0 y1 y2 y3 y4
  generalize (w.alloc (.cells #[.int .i64 n, .slice ad ts.length cap] 27)).alloc (.cells #[.int .i64 m, .slice bd us.length dap] 27) = w0 at S ⊢
  refine (two_any n m _ _ ts us _ S.tail.head.2 S.head.2 hm hm2 HLO.out HLU.out HT.out HO.out).mono ?_
  rintro e w1 ⟨rfl, hB⟩
  rw [HE.out]
  replace S := S.below hB
  clear hB
  have hE := HE.out
  unfold askE at hE
  by_cases hk : MayD n ts ∧ MayD m us
  · rw [if_pos hk] at hE
    obtain ⟨h, k⟩ := hk
    by_cases hnm : n = m
    · rw [if_pos hnm] at hE
      subst hE
      subst hnm
      have H := Lib.hid h
      have K := Lib.hid k
      clear h k HE
      obtain ⟨x0, x1, x2, x3, x4⟩ := lies.two S.tail.head.1
      obtain ⟨y0, y1, y2, y3, y4⟩ := lies.two S.head.1
      go_wp2_with fail
      clear x0 x1 x2 x3 x4 y0 y1 y2 y3 y4
      have hcall : Calls Try.prog 35 #[.agg #[.int .i64 n, .slice ad ts.length cap], .agg #[.int .i64 n, .slice bd us.length dap]] w1 (Tell (inV n ts us) w1) := by
        obtain ⟨q, rfl, h0, hn, hl⟩ := may_nat H.out
        have hu := may_len K.out
        have hpp : 0 < q * q := Nat.mul_pos h0 h0
        rcases S.head.2 with ⟨_, e⟩ | ⟨c, pff, dap', e, hc, hs⟩
        · rw [e] at hu; simp at hu; omega
        · cases e
          rw [hu]
          exact inside_is q _ c pff dap ts us w1 h0 hn S.tail.head.2 hs hc hl hu HT.out HO.out H.out K.out
      refine hcall.mono ?_
      rintro e w2 ⟨hB, r, rfl, hr⟩
      have EB := S.1.trans (hB.mono S.1.size)
      have HR := Lib.hid hr
      clear hcall hB hr S
      go_wp2_with fail
      exact bodyPost_ret (v := .tuple #[.bool r, .int .i64 0]) (by simp [results, Try.results16, go_sem]) rfl ⟨EB, r, 0, rfl, .inr (.inr ⟨H.out, K.out, rfl, HR.out, rfl⟩)⟩
    · rw [if_neg hnm] at hE
      subst hE
      have HH := Lib.hid (And.intro h (And.intro k hnm))
      have EB := S.1
      clear h k HE hnm S
      go_wp2_with fail
      exact bodyPost_ret (v := .tuple #[.bool false, .int .i64 40]) (by simp [results, Try.results16, go_sem]) rfl ⟨EB, false, 40, rfl, .inr (.inl ⟨HH.out.1, HH.out.2.1, HH.out.2.2, rfl, rfl⟩)⟩
  · rw [if_neg hk] at hE
    subst hE
    have HH := Lib.hid hk
    have EB := S.1
    clear hk HE S
    go_wp2_with fail
    exact bodyPost_ret (v := .tuple #[.bool false, .int .i64 8]) (by simp [results, Try.results16, go_sem]) rfl ⟨EB, false, 8, rfl, .inl ⟨HH.out, rfl, rfl⟩⟩
set_option maxRecDepth 100000 in
set_option maxHeartbeats 2000000 in
theorem rap_any (n m : Int) (sv tv : Value) (ts us : List Int) (w : World) (hI : law.Ints w.heap.size w sv ts) (hJ : law.Ints w.heap.size w tv us) (hm : ts.length ≤ 1000000) (hm2 : us.length ≤ 1000000) (hlo : dref.Low ts) (hlu : dref.Low us) (htop : Tops ts) (hto : Tops us) :
    Calls Try.prog 17 #[.agg #[.int .i64 n, sv], .agg #[.int .i64 m, tv]] w (Asks n m ts us (apV n ts us) w) := by
  have S := ilaw.st2 n m sv tv ts us w hI hJ
  obtain ⟨ad, cap, rfl⟩ := ints_len hI
  obtain ⟨bd, dap, rfl⟩ := ints_len hJ
  have HT := Lib.hid htop
  have HO := Lib.hid hto
  have HLO := Lib.hid hlo
  have HLU := Lib.hid hlu
  obtain ⟨ev, hev⟩ : ∃ z, askE n m ts us = z := ⟨_, rfl⟩
  have HE := Lib.hid hev
  clear hI hJ htop hto hlo hlu hev
  go_enter Try.func17, Try.ntmps17
  obtain ⟨x0, x1, x2, x3, x4⟩ := lies.two S.tail.head.1
  obtain ⟨y0, y1, y2, y3, y4⟩ := lies.two S.head.1
  go_wp2_with fail
  clear x0 x1 x2 x3 x4 y0 y1 y2 y3 y4
  generalize (w.alloc (.cells #[.int .i64 n, .slice ad ts.length cap] 27)).alloc (.cells #[.int .i64 m, .slice bd us.length dap] 27) = w0 at S ⊢
  refine (two_any n m _ _ ts us _ S.tail.head.2 S.head.2 hm hm2 HLO.out HLU.out HT.out HO.out).mono ?_
  rintro e w1 ⟨rfl, hB⟩
  rw [HE.out]
  replace S := S.below hB
  clear hB
  have hE := HE.out
  unfold askE at hE
  by_cases hk : MayD n ts ∧ MayD m us
  · rw [if_pos hk] at hE
    obtain ⟨h, k⟩ := hk
    by_cases hnm : n = m
    · rw [if_pos hnm] at hE
      subst hE
      subst hnm
      have H := Lib.hid h
      have K := Lib.hid k
      clear h k HE
      obtain ⟨x0, x1, x2, x3, x4⟩ := lies.two S.tail.head.1
      obtain ⟨y0, y1, y2, y3, y4⟩ := lies.two S.head.1
      go_wp2_with fail
      clear x0 x1 x2 x3 x4 y0 y1 y2 y3 y4
      have hcall : Calls Try.prog 36 #[.agg #[.int .i64 n, .slice ad ts.length cap], .agg #[.int .i64 n, .slice bd us.length dap]] w1 (Tell (apV n ts us) w1) := by
        obtain ⟨q, rfl, h0, hn, hl⟩ := may_nat H.out
        have hu := may_len K.out
        have hpp : 0 < q * q := Nat.mul_pos h0 h0
        rcases S.head.2 with ⟨_, e⟩ | ⟨c, pff, dap', e, hc, hs⟩
        · rw [e] at hu; simp at hu; omega
        · cases e
          rw [hu]
          exact away_is q _ c pff dap ts us w1 h0 hn S.tail.head.2 hs hc hl hu HT.out (lesT_may H.out K.out)
      refine hcall.mono ?_
      rintro e w2 ⟨hB, r, rfl, hr⟩
      have EB := S.1.trans (hB.mono S.1.size)
      have HR := Lib.hid hr
      clear hcall hB hr S
      go_wp2_with fail
      exact bodyPost_ret (v := .tuple #[.bool r, .int .i64 0]) (by simp [results, Try.results17, go_sem]) rfl ⟨EB, r, 0, rfl, .inr (.inr ⟨H.out, K.out, rfl, HR.out, rfl⟩)⟩
    · rw [if_neg hnm] at hE
      subst hE
      have HH := Lib.hid (And.intro h (And.intro k hnm))
      have EB := S.1
      clear h k HE hnm S
      go_wp2_with fail
      exact bodyPost_ret (v := .tuple #[.bool false, .int .i64 40]) (by simp [results, Try.results17, go_sem]) rfl ⟨EB, false, 40, rfl, .inr (.inl ⟨HH.out.1, HH.out.2.1, HH.out.2.2, rfl, rfl⟩)⟩
  · rw [if_neg hk] at hE
    subst hE
    have HH := Lib.hid hk
    have EB := S.1
    clear hk HE S
    go_wp2_with fail
    exact bodyPost_ret (v := .tuple #[.bool false, .int .i64 8]) (by simp [results, Try.results17, go_sem]) rfl ⟨EB, false, 8, rfl, .inl ⟨HH.out, rfl, rfl⟩⟩

/-! a time and a number more -/
set_option maxHeartbeats 1000000 in
theorem shift_k (a b n P Q E : Int) (w : World) (a1 : -9223372036854775808 ≤ a) (a2 : a ≤ 9223372036854775807) (n1 : -9223372036854775808 ≤ n) (n2 : n ≤ 9223372036854775807) (eP : partN 1 a b n 1 = P) (eQ : partD 1 a b n 1 = Q) (eE : partE 1 a b n 1 = E) :
    Calls Try.prog 90 #[.agg #[.int .i64 (a), .int .i64 (b)], .int .i64 n] w fun e w' => e = .returned (.agg #[.int .i64 (P), .int .i64 (Q)]) ∧ Below w.heap.size w w' := by
  have C := Lib.hid (fun W => rref.add_any a b n 1 W a1 a2 n1 n2)
  rw [eP, eQ, eE] at C
  have D1 := lies.made_at (w.alloc (.cells #[.int .i64 a, .int .i64 b] 36)) 36 #[.int .i64 0, .int .i64 0] (w.heap.size + 1) (World.size_alloc _ _)
  have DB := bound.up2 w (.cells #[.int .i64 a, .int .i64 b] 36) (.cells #[.int .i64 0, .int .i64 0] 36)
  clear eP eQ eE
  go_enter Try.func90, Try.ntmps90
  go_wp2_with fail
  generalize (w.alloc (.cells #[.int .i64 a, .int .i64 b] 36)).alloc (.cells #[.int .i64 0, .int .i64 0] 36) = w0 at D1 DB ⊢
  refine (C.out _).mono ?_
  rintro e w1 ⟨rfl, hB⟩
  replace D1 := lies.on_call D1 hB
  replace DB := later DB hB
  clear hB C
  obtain ⟨y0, y1, y2, y3, y4⟩ := lies.two D1
  go_wp2_with fail
  refine bodyPost_ret (v := .agg #[.int .i64 (P), .int .i64 (Q)]) (by simp [results, Try.results90, go_sem, y0, y1, y4, Nat.ne_of_lt y4, Nat.ne_of_gt y4]) rfl ⟨rfl, ?_⟩
  repeat (first | with_reducible exact DB | with_reducible refine lies.frame_up ?_ _ | with_reducible refine Below.setCell ?_ (by dsimp only; omega) _)
theorem shift_is {X n : Int} (w : World) (hX : Near X) (hn : May n) (h : Near (X + 8 * n)) :
    Calls Try.prog 90 #[.agg #[.int .i64 (p8 X), .int .i64 (q8 X)], .int .i64 n] w fun e w' => e = .returned (.agg #[.int .i64 (p8 (X + 8 * n)), .int .i64 (q8 (X + 8 * n))]) ∧ Below w.heap.size w w' := by
  obtain ⟨e1, e2, e3⟩ := add8 hX hn h
  have := near_fits hX
  exact shift_k (p8 X) (q8 X) n _ _ _ w this.1.1 this.1.2 (by have := hn.1; omega) (by have := hn.2; omega) e1 e2 e3

/-! the times the other way round -/
theorem p8_neg (X : Int) : p8 (-X) = -(p8 X) ∧ q8 (-X) = q8 X := by
  have h1 := low_parts X 8 (by decide)
  have h2 := low_parts (-X) 8 (by decide)
  have h3 := cross8 X
  have h4 := cross8 (-X)
  refine low_unique (p := p8 (-X)) (q := q8 (-X)) (p' := -(p8 X)) (q' := q8 X) h2.2.2.2 (by rw [Int.neg_gcd]; exact h1.2.2.2) (q8_in _).1 (q8_in _).1 ?_
  have e1 : (p8 (-X) * q8 X) * 8 = (-X * q8 (-X)) * q8 X := by rw [← h4]; ac_rfl
  have e2 : (-(p8 X) * q8 (-X)) * 8 = -(X * q8 X) * q8 (-X) := by rw [← h3]; rw [Int.neg_mul, Int.neg_mul, Int.neg_mul]; congr 1; ac_rfl
  have e3 : -X * q8 (-X) * q8 X = -(X * q8 X) * q8 (-X) := by rw [Int.neg_mul, Int.neg_mul, Int.neg_mul]; congr 1; ac_rfl
  omega
theorem near_neg {X : Int} (h : Near X) : Near (-X) := by
  obtain ⟨⟨h1, h2⟩, h3⟩ := h
  refine ⟨⟨by omega, by omega⟩, ?_⟩
  rcases h3 with h | h
  · exact .inl (by omega)
  · exact .inr (by omega)
theorem endC_neg {X : Nat → Int} {t : Nat → B} : ∀ k, endC (-1) (fun j => -(X j)) t k = endC 1 X t k := by
  intro k
  induction k with
  | zero => rfl
  | succ k ih =>
    show mnE _ _ = mnE _ _
    rw [ih]
    congr 1
    unfold cand
    cases t k with
    | none => rfl
    | some a =>
      show some (2 * (-1 * -(X k)) + 16 * (a / 2) + a % 2) = some (2 * (1 * X k) + 16 * (a / 2) + a % 2)
      congr 1
      omega
end Go.Proofs.Ytnbpcgkdnkihdaa.iref
