/-
  InclChain answers true for every three matrices; no condition.
-/
import Derived.Test.YtnbpcgkdnkihdaaInclF
import Derived.Test.YtnbpcgkdnkihdaaInclH
import Derived.BigQuiet
namespace Go.Proofs.Ytnbpcgkdnkihdaa.inclChain
open Go.Joins Go.ChangeShapes Go.WideShapes Go.ChangeAt Go.RowKit num dbm Go.Proofs.Ytnbpcgkdnkihdaa.incl ilaw Go.Proofs.Ytnbpcgkdnkihdaa.tlaw
open bound hiding up
set_option linter.unusedVariables false
set_option linter.unusedSimpArgs false

set_option maxRecDepth 100000 in
set_option maxHeartbeats 2000000 in
theorem walk_far (n m l : Int) (sv tv uv : Value) (ts us vs : List Int) (w : World) (hI : law.Ints w.heap.size w sv ts) (hJ : law.Ints w.heap.size w tv us) (hK : law.Ints w.heap.size w uv vs) (h : 1000 < ts.length ∨ (ts.length ≤ 1000 ∧ 1000 < us.length) ∨ (ts.length ≤ 1000 ∧ us.length ≤ 1000 ∧ 1000 < vs.length)) :
    Calls Try.prog 8 #[.agg #[.int .i64 n, sv], .agg #[.int .i64 m, tv], .agg #[.int .i64 l, uv]] w fun e w' => e = .returned (.bool true) ∧ Below w.heap.size w w' := by
  have S := st3 n m l sv tv uv ts us vs w hI hJ hK
  obtain ⟨ad, cap, rfl⟩ := ints_len hI
  obtain ⟨bd, dap, rfl⟩ := ints_len hJ
  obtain ⟨fd, fap, rfl⟩ := ints_len hK
  clear hI hJ hK
  rcases h with h | ⟨h1, h⟩ | ⟨h1, h2, h⟩
  · have t9 : (1000 : Int) < ts.length := by omega
    clear h
    go_enter Try.func8, Try.ntmps8
    go_wp2_with fail
    generalize ((w.alloc (.cells #[.int .i64 n, .slice ad ts.length cap] 27)).alloc (.cells #[.int .i64 m, .slice bd us.length dap] 27)).alloc (.cells #[.int .i64 l, .slice fd vs.length fap] 27) = v0 at S ⊢
    refine (alive_yes _).mono ?_
    rintro e v1 ⟨rfl, hB⟩
    replace S := S.below hB
    clear hB
    obtain ⟨x0, x1, x2, x3, x4⟩ := lies.two S.tail.tail.head.1
    obtain ⟨y0, y1, y2, y3, y4⟩ := lies.two S.tail.head.1
    obtain ⟨z0, z1, z2, z3, z4⟩ := lies.two S.head.1
    go_wp2_with fail
    clear x0 x1 x2 x3 x4 y0 y1 y2 y3 y4 z0 z1 z2 z3 z4
    go_ret
    exact ⟨rfl, S.1⟩
  · have t1 : ¬ (1000 : Int) < ts.length := by omega
    have t9 : (1000 : Int) < us.length := by omega
    clear h h1
    go_enter Try.func8, Try.ntmps8
    go_wp2_with fail
    generalize ((w.alloc (.cells #[.int .i64 n, .slice ad ts.length cap] 27)).alloc (.cells #[.int .i64 m, .slice bd us.length dap] 27)).alloc (.cells #[.int .i64 l, .slice fd vs.length fap] 27) = v0 at S ⊢
    refine (alive_yes _).mono ?_
    rintro e v1 ⟨rfl, hB⟩
    replace S := S.below hB
    clear hB
    obtain ⟨x0, x1, x2, x3, x4⟩ := lies.two S.tail.tail.head.1
    obtain ⟨y0, y1, y2, y3, y4⟩ := lies.two S.tail.head.1
    obtain ⟨z0, z1, z2, z3, z4⟩ := lies.two S.head.1
    go_wp2_with fail
    clear x0 x1 x2 x3 x4 y0 y1 y2 y3 y4 z0 z1 z2 z3 z4
    go_ret
    exact ⟨rfl, S.1⟩
  · have t1 : ¬ (1000 : Int) < ts.length := by omega
    have t2 : ¬ (1000 : Int) < us.length := by omega
    have t9 : (1000 : Int) < vs.length := by omega
    clear h h1 h2
    go_enter Try.func8, Try.ntmps8
    go_wp2_with fail
    generalize ((w.alloc (.cells #[.int .i64 n, .slice ad ts.length cap] 27)).alloc (.cells #[.int .i64 m, .slice bd us.length dap] 27)).alloc (.cells #[.int .i64 l, .slice fd vs.length fap] 27) = v0 at S ⊢
    refine (alive_yes _).mono ?_
    rintro e v1 ⟨rfl, hB⟩
    replace S := S.below hB
    clear hB
    obtain ⟨x0, x1, x2, x3, x4⟩ := lies.two S.tail.tail.head.1
    obtain ⟨y0, y1, y2, y3, y4⟩ := lies.two S.tail.head.1
    obtain ⟨z0, z1, z2, z3, z4⟩ := lies.two S.head.1
    go_wp2_with fail
    clear x0 x1 x2 x3 x4 y0 y1 y2 y3 y4 z0 z1 z2 z3 z4
    go_ret
    exact ⟨rfl, S.1⟩
set_option maxRecDepth 100000 in
set_option maxHeartbeats 8000000 in
theorem walk_in (n m l : Int) (sv tv uv : Value) (ts us vs : List Int) (w : World) (hI : law.Ints w.heap.size w sv ts) (hJ : law.Ints w.heap.size w tv us) (hK : law.Ints w.heap.size w uv vs) (h1 : ts.length ≤ 1000) (h2 : us.length ≤ 1000) (h3 : vs.length ≤ 1000) (htop : Tops ts) (hto : Tops us) (htv : Tops vs) :
    Calls Try.prog 8 #[.agg #[.int .i64 n, sv], .agg #[.int .i64 m, tv], .agg #[.int .i64 l, uv]] w fun e w' => e = .returned (.bool true) ∧ Below w.heap.size w w' := by
  have S := st3 n m l sv tv uv ts us vs w hI hJ hK
  obtain ⟨ad, cap, rfl⟩ := ints_len hI
  obtain ⟨bd, dap, rfl⟩ := ints_len hJ
  obtain ⟨fd, fap, rfl⟩ := ints_len hK
  have t1 : ¬ (1000 : Int) < ts.length := by omega
  have t2 : ¬ (1000 : Int) < us.length := by omega
  have t3 : ¬ (1000 : Int) < vs.length := by omega
  have HT := Lib.hid htop
  have HU := Lib.hid hto
  have HV := Lib.hid htv
  clear hI hJ hK htop hto htv
  obtain ⟨eab, heab⟩ : ∃ z, askE n m ts us = z := ⟨_, rfl⟩
  have Heab := Lib.hid heab
  clear heab
  obtain ⟨ebc, hebc⟩ : ∃ z, askE m l us vs = z := ⟨_, rfl⟩
  have Hebc := Lib.hid hebc
  clear hebc
  obtain ⟨eac, heac⟩ : ∃ z, askE n l ts vs = z := ⟨_, rfl⟩
  have Heac := Lib.hid heac
  clear heac
  go_enter Try.func8, Try.ntmps8
  go_wp2_with fail
  generalize ((w.alloc (.cells #[.int .i64 n, .slice ad ts.length cap] 27)).alloc (.cells #[.int .i64 m, .slice bd us.length dap] 27)).alloc (.cells #[.int .i64 l, .slice fd vs.length fap] 27) = v0 at S ⊢
  refine (alive_yes _).mono ?_
  rintro e v1 ⟨rfl, hB⟩
  replace S := S.below hB
  clear hB
  obtain ⟨x0, x1, x2, x3, x4⟩ := lies.two S.tail.tail.head.1
  obtain ⟨y0, y1, y2, y3, y4⟩ := lies.two S.tail.head.1
  obtain ⟨z0, z1, z2, z3, z4⟩ := lies.two S.head.1
  go_wp2_with fail
  clear x0 x1 x2 x3 x4 y0 y1 y2 y3 y4 z0 z1 z2 z3 z4
  refine (in_any n m _ _ ts us _ S.tail.tail.head.2 S.tail.head.2 (by omega) (by omega) HT.out HU.out).mono ?_
  intro e v hp
  obtain ⟨hB, x, rfl, hx⟩ := asks_told hp
  replace S := S.below hB
  rw [Heab.out] at hx ⊢
  have HX := Lib.hid hx
  clear hB hp hx
  obtain ⟨x0, x1, x2, x3, x4⟩ := lies.two S.tail.tail.head.1
  obtain ⟨y0, y1, y2, y3, y4⟩ := lies.two S.tail.head.1
  obtain ⟨z0, z1, z2, z3, z4⟩ := lies.two S.head.1
  go_wp2_with fail
  clear x0 x1 x2 x3 x4 y0 y1 y2 y3 y4 z0 z1 z2 z3 z4
  refine (in_any m l _ _ us vs _ S.tail.head.2 S.head.2 (by omega) (by omega) HU.out HV.out).mono ?_
  intro e v hp
  obtain ⟨hB, y, rfl, hy⟩ := asks_told hp
  replace S := S.below hB
  rw [Hebc.out] at hy ⊢
  have HY := Lib.hid hy
  clear hB hp hy
  obtain ⟨x0, x1, x2, x3, x4⟩ := lies.two S.tail.tail.head.1
  obtain ⟨y0, y1, y2, y3, y4⟩ := lies.two S.tail.head.1
  obtain ⟨z0, z1, z2, z3, z4⟩ := lies.two S.head.1
  go_wp2_with fail
  clear x0 x1 x2 x3 x4 y0 y1 y2 y3 y4 z0 z1 z2 z3 z4
  refine (in_any n l _ _ ts vs _ S.tail.tail.head.2 S.head.2 (by omega) (by omega) HT.out HV.out).mono ?_
  intro e v hp
  obtain ⟨hB, z, rfl, hz⟩ := asks_told hp
  replace S := S.below hB
  rw [Heac.out] at hz ⊢
  have HZ := Lib.hid hz
  clear hB hp hz
  obtain ⟨x0, x1, x2, x3, x4⟩ := lies.two S.tail.tail.head.1
  obtain ⟨y0, y1, y2, y3, y4⟩ := lies.two S.tail.head.1
  obtain ⟨z0, z1, z2, z3, z4⟩ := lies.two S.head.1
  go_wp2_with fail
  clear x0 x1 x2 x3 x4 y0 y1 y2 y3 y4 z0 z1 z2 z3 z4
  refine (ap_any m l _ _ us vs _ S.tail.head.2 S.head.2 (by omega) (by omega) HU.out HV.out).mono ?_
  intro e v hp
  obtain ⟨hB, f, rfl, hf⟩ := asks_told hp
  replace S := S.below hB
  rw [Hebc.out] at hf ⊢
  have HF := Lib.hid hf
  clear hB hp hf
  obtain ⟨x0, x1, x2, x3, x4⟩ := lies.two S.tail.tail.head.1
  obtain ⟨y0, y1, y2, y3, y4⟩ := lies.two S.tail.head.1
  obtain ⟨z0, z1, z2, z3, z4⟩ := lies.two S.head.1
  go_wp2_with fail
  clear x0 x1 x2 x3 x4 y0 y1 y2 y3 y4 z0 z1 z2 z3 z4
  refine (ap_any n l _ _ ts vs _ S.tail.tail.head.2 S.head.2 (by omega) (by omega) HT.out HV.out).mono ?_
  intro e v hp
  obtain ⟨hB, g, rfl, hg⟩ := asks_told hp
  replace S := S.below hB
  rw [Heac.out] at hg ⊢
  have HG := Lib.hid hg
  clear hB hp hg
  have hB := S.1
  clear S
  by_cases c1 : eab = 0
  · by_cases c2 : ebc = 0
    · by_cases c3 : eac = 0
      · subst c1 c2 c3
        have hfin : x = false ∨ (x = true ∧ (y = false ∨ z = true) ∧ (f = false ∨ g = true)) := by
          obtain ⟨ma, mb, e1, hx⟩ := HX.out rfl
          obtain ⟨_, mc, e2, hy⟩ := HY.out rfl
          obtain ⟨_, _, e3, hz⟩ := HZ.out rfl
          obtain ⟨_, _, _, hf⟩ := HF.out rfl
          obtain ⟨_, _, _, hg⟩ := HG.out rfl
          subst e1
          subst e2
          cases x with
          | false => exact .inl rfl
          | true =>
            have hi := hx.1 rfl
            refine .inr ⟨rfl, ?_, ?_⟩
            · cases y with
              | false => exact .inl rfl
              | true => exact .inr (hz.2 (in_chain ma mb mc HT.out HU.out HV.out hi (hy.1 rfl)))
            · cases f with
              | false => exact .inl rfl
              | true => exact .inr (hg.2 (ap_chain ma mb mc HT.out HU.out HV.out hi (hf.1 rfl)))
        clear HX HY HZ HF HG Heab Hebc Heac
        rcases hfin with rfl | ⟨rfl, rfl | rfl, rfl | rfl⟩ <;>
          (go_wp2_with fail
           all_goals
             go_ret
             exact ⟨rfl, hB⟩)
      · have u1 : (eac != 0) = true := by simpa using c3
        have u2 : (eac == 0) = false := by simpa using c3
        subst c1 c2
        clear HX HY HZ HF HG Heab Hebc Heac
        go_wp2_with fail
        go_ret
        exact ⟨rfl, hB⟩
    · have u1 : (ebc != 0) = true := by simpa using c2
      have u2 : (ebc == 0) = false := by simpa using c2
      subst c1
      clear HX HY HZ HF HG Heab Hebc Heac
      go_wp2_with fail
      go_ret
      exact ⟨rfl, hB⟩
  · have u1 : (eab != 0) = true := by simpa using c1
    have u2 : (eab == 0) = false := by simpa using c1
    clear HX HY HZ HF HG Heab Hebc Heac
    go_wp2_with fail
    go_ret
    exact ⟨rfl, hB⟩

theorem walk (n m l : Int) (sv tv uv : Value) (ts us vs : List Int) (w : World) (hI : law.Ints w.heap.size w sv ts) (hJ : law.Ints w.heap.size w tv us) (hK : law.Ints w.heap.size w uv vs) (htop : Tops ts) (hto : Tops us) (htv : Tops vs) :
    Calls Try.prog 8 #[.agg #[.int .i64 n, sv], .agg #[.int .i64 m, tv], .agg #[.int .i64 l, uv]] w fun e w' => e = .returned (.bool true) ∧ Below w.heap.size w w' := by
  by_cases h : 1000 < ts.length ∨ (ts.length ≤ 1000 ∧ 1000 < us.length) ∨ (ts.length ≤ 1000 ∧ us.length ≤ 1000 ∧ 1000 < vs.length)
  · exact walk_far n m l sv tv uv ts us vs w hI hJ hK h
  · exact walk_in n m l sv tv uv ts us vs w hI hJ hK (by omega) (by omega) (by omega) htop hto htv

set_option maxRecDepth 100000 in
theorem lifted (os : Os) (started : os.Started) (H : Type) (enc : TypeId × Value → H) :
    ReturnsInHanded {} Try.checked os 8 .any (Rows.inclChainSpec.pre6 enc Try.prog Try.f8 Rows.inclChainRow.domain false) (Rows.inclChainSpec.post enc Try.prog Try.f8 false true false false) := by
  refine returnsInHanded_of_change (C := Try.checked) law.own started (by kernel_rfl) Try.func8
    (ChangeSpec.witness6 (enc := enc) (C := Try.checked) false ⟨#[], #[.agg #[.int .i64 0, .slice none 0 0], .agg #[.int .i64 0, .slice none 0 0], .agg #[.int .i64 0, .slice none 0 0]], []⟩ 8 (by kernel_rfl) (by kernel_rfl) (by kernel_rfl) (by kernel_rfl)) ?_
  intro W base args ds gs before hval0 hW _ _
  have hval : ∀ (j : Nat) t v, Try.f8.params[j]? = some t → args[j]? = some v → Value.okWide Try.prog W .any base t v := hval0
  have hW' := hW
  obtain ⟨p, q, hA0, hV, rfl, _, _⟩ := hW
  have hA : DataW.TrodAll enc Try.prog W 0 (fun _ => true) true Try.f8.params.toList args.toList ds p := hA0
  rw [Try.params8] at hA hval
  obtain ⟨v0, vs0, d0, ds0, p0, q0, hargs, rfl, rfl, h0, r0⟩ := trodAll_cons hA
  obtain ⟨v1, vs1, d1, ds1, p1, q1, rfl, rfl, rfl, h1, r1⟩ := trodAll_cons r0
  obtain ⟨v2, vs2, d2, ds2, p2, q2, rfl, rfl, rfl, h2, r2⟩ := trodAll_cons r1
  obtain ⟨rfl, rfl, rfl⟩ := trodAll_nil r2
  obtain rfl : args = #[v0, v1, v2] := by cases args; simp_all
  obtain ⟨n0, sv0, ts0, rfl, _, hwf0, hI0, _⟩ := dlaw.open_dbm (hval 0 27 v0 rfl rfl) h0
  obtain ⟨n1, sv1, ts1, rfl, _, hwf1, hI1, _⟩ := dlaw.open_dbm (hval 1 27 v1 rfl rfl) h1
  obtain ⟨n2, sv2, ts2, rfl, _, hwf2, hI2, _⟩ := dlaw.open_dbm (hval 2 27 v2 rfl rfl) h2
  refine (walk n0 n1 n2 sv0 sv1 sv2 ts0 ts1 ts2 W hI0 hI1 hI2 (fun z hz => law.wf_hi (hwf0 z hz)) (fun z hz => law.wf_hi (hwf1 z hz)) (fun z hz => law.wf_hi (hwf2 z hz))).mono fun e W' ⟨he, hB⟩ => ?_
  subst he
  exact ⟨_, rfl, law.post_true law.laidOut (by kernel_rfl) rfl Try.underlying4 rfl hW' (fun h => by subst h; rfl) hB⟩

theorem proved : Rows.InclChainSaid :=
  OpenClaim.holds_of_wide 8 Try.f8 rfl rfl rfl rfl rfl rfl rfl ⟨rfl, rfl, rfl, rfl, rfl⟩ rfl rfl rfl rfl rfl (by kernel_rfl) Try.func8 (by kernel_rfl)
    (of_decide_eq_true (by kernel_rfl)) (by unfold Func.isWrapper; first | (rw [if_pos (by decide +kernel)]; kernel_rfl) | (rw [if_neg (by decide +kernel)]; exact ⟨rfl, rfl⟩))
    (fun os started H enc _ => lifted os started H enc)
#print axioms proved
end Go.Proofs.Ytnbpcgkdnkihdaa.inclChain
