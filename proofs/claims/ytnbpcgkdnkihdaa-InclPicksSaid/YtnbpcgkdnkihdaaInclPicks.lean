/-
  InclPicks answers true for every matrix; no condition.
-/
import Derived.Test.YtnbpcgkdnkihdaaInclF
import Derived.Test.YtnbpcgkdnkihdaaInclG
import Derived.BigQuiet
namespace Go.Proofs.Ytnbpcgkdnkihdaa.inclPicks
open Go.Joins Go.ChangeShapes Go.WideShapes Go.ChangeAt Go.RowKit num dbm Go.Proofs.Ytnbpcgkdnkihdaa.incl ilaw Go.Proofs.Ytnbpcgkdnkihdaa.tlaw
open bound hiding up
set_option linter.unusedVariables false
set_option linter.unusedSimpArgs false

set_option maxRecDepth 100000 in
set_option maxHeartbeats 2000000 in
theorem walk_far (n : Int) (sv : Value) (ts : List Int) (w : World) (hI : law.Ints w.heap.size w sv ts) (h : 1000 < ts.length) :
    Calls Try.prog 5 #[.agg #[.int .i64 n, sv]] w fun e w' => e = .returned (.bool true) ∧ Below w.heap.size w w' := by
  have S0 := (St.start w).add n sv ts hI
  obtain ⟨ad, cap, rfl⟩ := ints_len hI
  have t1 : (1000 : Int) < ts.length := by omega
  clear hI h
  go_enter Try.func5, Try.ntmps5
  go_wp2_with fail
  refine (alive_yes _).mono ?_
  rintro e w1 ⟨rfl, hB⟩
  replace S0 := S0.below hB
  clear hB
  obtain ⟨x0, x1, x2, x3, x4⟩ := lies.two S0.head.1
  go_wp2_with fail
  go_ret
  exact ⟨rfl, S0.1⟩
set_option maxRecDepth 100000 in
set_option maxHeartbeats 4000000 in
theorem walk_in (n : Int) (sv : Value) (ts : List Int) (w : World) (hI : law.Ints w.heap.size w sv ts) (htop : Tops ts) (h : ts.length ≤ 1000) :
    Calls Try.prog 5 #[.agg #[.int .i64 n, sv]] w fun e w' => e = .returned (.bool true) ∧ Below w.heap.size w w' := by
  have S0 := (St.start w).add n sv ts hI
  obtain ⟨ad, cap, rfl⟩ := ints_len hI
  have t1 : ¬ (1000 : Int) < ts.length := by omega
  have HT := Lib.hid htop
  clear hI htop
  go_enter Try.func5, Try.ntmps5
  go_wp2_with fail
  generalize w.alloc (.cells #[.int .i64 n, .slice ad ts.length cap] 27) = w0 at S0 ⊢
  refine (alive_yes _).mono ?_
  rintro e w1 ⟨rfl, hB⟩
  replace S0 := S0.below hB
  clear hB
  obtain ⟨x0, x1, x2, x3, x4⟩ := lies.two S0.head.1
  go_wp2_with fail
  clear x0 x1 x2 x3 x4
  refine (pick_any n _ ts _ S0.head.2 (by omega) HT.out).mono ?_
  rintro e w2 ⟨hB, v, f, rfl, hP⟩
  replace S0 := S0.below hB
  clear hB
  have HP := Lib.hid hP
  clear hP
  obtain ⟨x0, x1, x2, x3, x4⟩ := lies.two S0.head.1
  go_wp2_with fail
  clear x0 x1 x2 x3 x4
  refine (tight.close_g n _ ts _ S0.head.2 (by omega) HT.out).mono ?_
  rintro e w3 ⟨hB, na, aa, la, ca, us, f2, rfl, hA, hK⟩
  have S3 := S0.below hB
  replace S0 := S3.alloc (.cells #[.int .i64 na, .slice aa la ca] 27)
  have hBB := hB.trans ((bound.up1 w3 (.cells #[.int .i64 na, .slice aa la ca] 27)).mono hB.size)
  clear hK hB
  by_cases hok : OkD n ts
  · obtain ⟨rfl, m, rfl, hR⟩ : f = 0 ∧ ∃ m : Nat, n = (m : Int) ∧ Rats w2.heap.size w2 v (pks m ts) := by
      rcases HP.out with ⟨k, _⟩ | ⟨_, h1, m, h2, h3⟩
      · exact (k hok).elim
      · exact ⟨h1, m, h2, h3⟩
    obtain rfl : f2 = 0 := by
      rcases hA with ⟨k, _⟩ | ⟨_, _, _, h⟩
      · exact (k hok).elim
      · exact h
    obtain ⟨m', e, h0, hn, hl⟩ := may_nat hok.1
    obtain rfl : m = m' := by omega
    obtain ⟨k1, k2, k3⟩ := pks_may h0 hn hl HT.out hok
    have hkept := pks_kept h0 hn hl HT.out hok
    have hR' := (hR.below hBB).mono hBB.size
    have hlen := pks_length m ts
    have hIR : IntsR (pks m ts) := fun j hj => by have := k2 (j + 1) (by simpa using hj); rwa [pr_cons] at this
    have hMR : MayT (pks m ts) := fun j hj => by have := k1 (j + 1) (by simpa using hj); rwa [pr_cons] at this
    obtain ⟨va, vc, rfl⟩ := rats_len hR'
    rw [hlen] at hR' ⊢
    have HOK := Lib.hid hok
    have HKP := Lib.hid hkept
    have HR := Lib.hid hR'
    have HIR := Lib.hid hIR
    have HMR := Lib.hid hMR
    have HLEN := Lib.hid hlen
    clear hA hok hkept hR hR' hIR hMR hlen k1 k2 k3 e hBB HP hl
    obtain ⟨x0, x1, x2, x3, x4⟩ := lies.two S3.head.1
    go_wp2_with fail
    clear x0 x1 x2 x3 x4 S3
    generalize w3.alloc (.cells #[.int .i64 na, .slice aa la ca] 27) = w4 at S0 HR ⊢
    refine (dkeeps_any m _ _ ts (pks m ts) _ S0.head.2 (by omega) HT.out HR.out HIR.out (by rw [HLEN.out]; omega)).mono ?_
    rintro e w5 ⟨hB, r, c, rfl, hc⟩
    replace S0 := S0.below hB
    obtain ⟨rfl, rfl⟩ : c = 0 ∧ r = true := by
      rcases hc with ⟨_, _, h⟩ | ⟨_, _, _, _, h⟩ | ⟨h1, _, _, _, h2⟩
      · exact (h ⟨HOK.out.1, HMR.out⟩).elim
      · exact (h (by rw [HLEN.out]; omega)).elim
      · exact ⟨h1, h2.2 HKP.out⟩
    obtain ⟨z1, z2⟩ := less_one h0 hn
    have z3 : ((m - 1 : Nat) : Int) = (m : Int) - 1 := by omega
    clear hB hc
    obtain ⟨x0, x1, x2, x3, x4⟩ := lies.two S0.head.1
    go_wp2_with fail
    go_ret
    exact ⟨rfl, S0.1⟩
  · obtain ⟨rfl, hf⟩ : v = .slice none 0 0 ∧ f = if MayD n ts then 6 else 8 := by
      rcases HP.out with ⟨_, h1, h2⟩ | ⟨k, _⟩
      · exact ⟨h1, h2⟩
      · exact (hok k).elim
    have hf2 : f2 = if MayD n ts then 6 else 8 := by
      rcases hA with ⟨_, _, _, h⟩ | ⟨k, _⟩
      · exact h
      · exact (hok k).elim
    clear hA hok HP hBB
    have : (f = 6 ∧ f2 = 6) ∨ (f = 8 ∧ f2 = 8) := by
      by_cases hm : MayD n ts
      · rw [if_pos hm] at hf hf2; exact .inl ⟨hf, hf2⟩
      · rw [if_neg hm] at hf hf2; exact .inr ⟨hf, hf2⟩
    clear hf hf2
    rcases this with ⟨rfl, rfl⟩ | ⟨rfl, rfl⟩
    · go_wp2_with fail
      go_ret
      exact ⟨rfl, S0.1⟩
    · go_wp2_with fail
      go_ret
      exact ⟨rfl, S0.1⟩

theorem walk (n : Int) (sv : Value) (ts : List Int) (w : World) (hI : law.Ints w.heap.size w sv ts) (htop : Tops ts) :
    Calls Try.prog 5 #[.agg #[.int .i64 n, sv]] w fun e w' => e = .returned (.bool true) ∧ Below w.heap.size w w' := by
  by_cases h : 1000 < ts.length
  · exact walk_far n sv ts w hI h
  · exact walk_in n sv ts w hI htop (by omega)

set_option maxRecDepth 100000 in
theorem lifted (os : Os) (started : os.Started) (H : Type) (enc : TypeId × Value → H) :
    ReturnsInHanded {} Try.checked os 5 .any (Rows.inclPicksSpec.pre6 enc Try.prog Try.f5 Rows.inclPicksRow.domain false) (Rows.inclPicksSpec.post enc Try.prog Try.f5 false true false false) := by
  refine returnsInHanded_of_change (C := Try.checked) law.own started (by kernel_rfl) Try.func5
    (ChangeSpec.witness6 (enc := enc) (C := Try.checked) false ⟨#[], #[.agg #[.int .i64 0, .slice none 0 0]], []⟩ 8 (by kernel_rfl) (by kernel_rfl) (by kernel_rfl) (by kernel_rfl)) ?_
  intro W base args ds gs before hval0 hW _ _
  have hval : ∀ (j : Nat) t v, Try.f5.params[j]? = some t → args[j]? = some v → Value.okWide Try.prog W .any base t v := hval0
  have hW' := hW
  obtain ⟨p, q, hA0, hV, rfl, _, _⟩ := hW
  have hA : DataW.TrodAll enc Try.prog W 0 (fun _ => true) true Try.f5.params.toList args.toList ds p := hA0
  rw [Try.params5] at hA hval
  obtain ⟨v0, vs0, d0, ds0, p0, q0, hargs, rfl, rfl, h0, r0⟩ := trodAll_cons hA
  obtain ⟨rfl, rfl, rfl⟩ := trodAll_nil r0
  obtain rfl : args = #[v0] := by cases args; simp_all
  obtain ⟨n0, sv0, ts0, rfl, _, hwf0, hI0, _⟩ := dlaw.open_dbm (hval 0 27 v0 rfl rfl) h0
  refine (walk n0 sv0 ts0 W hI0 (fun z hz => law.wf_hi (hwf0 z hz))).mono fun e W' ⟨he, hB⟩ => ?_
  subst he
  exact ⟨_, rfl, law.post_true law.laidOut (by kernel_rfl) rfl Try.underlying4 rfl hW' (fun h => by subst h; rfl) hB⟩

theorem proved : Rows.InclPicksSaid :=
  OpenClaim.holds_of_wide 5 Try.f5 rfl rfl rfl rfl rfl rfl rfl ⟨rfl, rfl, rfl, rfl, rfl⟩ rfl rfl rfl rfl rfl (by kernel_rfl) Try.func5 (by kernel_rfl)
    (of_decide_eq_true (by kernel_rfl)) (by unfold Func.isWrapper; first | (rw [if_pos (by decide +kernel)]; kernel_rfl) | (rw [if_neg (by decide +kernel)]; exact ⟨rfl, rfl⟩))
    (fun os started H enc _ => lifted os started H enc)
#print axioms proved
end Go.Proofs.Ytnbpcgkdnkihdaa.inclPicks
