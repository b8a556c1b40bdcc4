/-
  InclTells answers true for every two matrices; no condition.
-/
import Derived.Test.YtnbpcgkdnkihdaaInclR7
import Derived.BigQuiet
namespace Go.Proofs.Ytnbpcgkdnkihdaa.inclTells
open Go.Joins Go.ChangeShapes Go.WideShapes Go.ChangeAt Go.RowKit num dbm Go.Proofs.Ytnbpcgkdnkihdaa.incl Go.Proofs.Ytnbpcgkdnkihdaa.iref Go.Proofs.Ytnbpcgkdnkihdaa.tlaw
open bound hiding up
set_option linter.unusedVariables false
set_option linter.unusedSimpArgs false

theorem asks_one {n m : Int} {ts us : List Int} {V : Prop} {r r' : Bool} {f f' : Int}
    (h : (¬ (MayD n ts ∧ MayD m us) ∧ r = false ∧ f = 8) ∨ (MayD n ts ∧ MayD m us ∧ n ≠ m ∧ r = false ∧ f = 40) ∨ (MayD n ts ∧ MayD m us ∧ n = m ∧ (r = true ↔ V) ∧ f = 0))
    (k : (¬ (MayD n ts ∧ MayD m us) ∧ r' = false ∧ f' = 8) ∨ (MayD n ts ∧ MayD m us ∧ n ≠ m ∧ r' = false ∧ f' = 40) ∨ (MayD n ts ∧ MayD m us ∧ n = m ∧ (r' = true ↔ V) ∧ f' = 0)) : r' = r ∧ f' = f := by
  rcases h with ⟨h1, h2, h3⟩ | ⟨h1, h2, h3, h4, h5⟩ | ⟨h1, h2, h3, h4, h5⟩ <;> rcases k with ⟨k1, k2, k3⟩ | ⟨k1, k2, k3, k4, k5⟩ | ⟨k1, k2, k3, k4, k5⟩
  · exact ⟨k2.trans h2.symm, k3.trans h3.symm⟩
  · exact (h1 ⟨k1, k2⟩).elim
  · exact (h1 ⟨k1, k2⟩).elim
  · exact (k1 ⟨h1, h2⟩).elim
  · exact ⟨k4.trans h4.symm, k5.trans h5.symm⟩
  · exact (h3 k3).elim
  · exact (k1 ⟨h1, h2⟩).elim
  · exact (k3 h3).elim
  · exact ⟨Bool.eq_iff_iff.2 (k4.trans h4.symm), k5.trans h5.symm⟩
/-- the list that is picked, and the error. -/
def PkR (n : Int) (ts : List Int) (rs : List (Int × Int)) (f : Int) : Prop := (¬ OkD n ts ∧ rs = [] ∧ f = if MayD n ts then 6 else 8) ∨ (OkD n ts ∧ f = 0 ∧ ∃ m : Nat, n = (m : Int) ∧ rs = pks m ts)
theorem pk_told {n : Int} {ts : List Int} {w w' : World} {e : Ending} (h : Pk n ts w e w') : Below w.heap.size w w' ∧ ∃ v rs f, e = .returned (.tuple #[v, .int .i64 f]) ∧ PkR n ts rs f ∧ Rats w'.heap.size w' v rs := by
  obtain ⟨hB, v, f, rfl, ⟨h1, rfl, h3⟩ | ⟨h1, h2, m, h3, h4⟩⟩ := h
  · exact ⟨hB, _, [], f, rfl, .inl ⟨h1, rfl, h3⟩, .inl ⟨⟨none, 0, rfl, fun _ => rfl⟩, rfl⟩⟩
  · exact ⟨hB, _, _, f, rfl, .inr ⟨h1, h2, m, h3, rfl⟩, h4⟩
theorem pk_one {n : Int} {ts : List Int} {rs rs' : List (Int × Int)} {f f' : Int} (h : PkR n ts rs f) (k : PkR n ts rs' f') : rs' = rs ∧ f' = f := by
  rcases h with ⟨h1, h2, h3⟩ | ⟨h1, h2, m, h3, h4⟩ <;> rcases k with ⟨k1, k2, k3⟩ | ⟨k1, k2, m', k3, k4⟩
  · exact ⟨k2.trans h2.symm, k3.trans h3.symm⟩
  · exact (h1 k1).elim
  · exact (k1 h1).elim
  · obtain rfl : m = m' := by omega
    exact ⟨k4.trans h4.symm, k2.trans h2.symm⟩
theorem pk_len {n : Int} {ts : List Int} {rs : List (Int × Int)} {f : Int} (h : PkR n ts rs f) : rs.length ≤ 1000 := by
  rcases h with ⟨_, rfl, _⟩ | ⟨h1, _, m, rfl, rfl⟩
  · simp
  · rw [pks_length]
    obtain ⟨q, e, _, hq, _⟩ := may_nat h1.1
    omega
set_option maxRecDepth 100000 in
set_option maxHeartbeats 2000000 in
theorem walk_far (n m : Int) (sv tv : Value) (ts us : List Int) (w : World) (hI : law.Ints w.heap.size w sv ts) (hJ : law.Ints w.heap.size w tv us) (h : 1000 < ts.length ∨ (ts.length ≤ 1000 ∧ 1000 < us.length)) :
    Calls Try.prog 4 #[.agg #[.int .i64 n, sv], .agg #[.int .i64 m, tv]] w fun e w' => e = .returned (.bool true) ∧ Below w.heap.size w w' := by
  have S := ilaw.st2 n m sv tv ts us w hI hJ
  obtain ⟨ad, cap, rfl⟩ := ints_len hI
  obtain ⟨bd, dap, rfl⟩ := ints_len hJ
  clear hI hJ
  rcases h with h | ⟨h1, h⟩
  · have t9 : (1000 : Int) < ts.length := by omega
    clear h
    go_enter Try.func4, Try.ntmps4
    obtain ⟨x0, x1, x2, x3, x4⟩ := lies.two S.tail.head.1
    obtain ⟨y0, y1, y2, y3, y4⟩ := lies.two S.head.1
    go_wp2_with fail
    clear x0 x1 x2 x3 x4 y0 y1 y2 y3 y4
    go_ret
    exact ⟨rfl, S.1⟩
  · have t1 : ¬ (1000 : Int) < ts.length := by omega
    have t9 : (1000 : Int) < us.length := by omega
    clear h h1
    go_enter Try.func4, Try.ntmps4
    obtain ⟨x0, x1, x2, x3, x4⟩ := lies.two S.tail.head.1
    obtain ⟨y0, y1, y2, y3, y4⟩ := lies.two S.head.1
    go_wp2_with fail
    clear x0 x1 x2 x3 x4 y0 y1 y2 y3 y4
    go_ret
    exact ⟨rfl, S.1⟩
set_option maxRecDepth 100000 in
set_option maxHeartbeats 8000000 in
theorem walk_in (n m : Int) (sv tv : Value) (ts us : List Int) (w : World) (hI : law.Ints w.heap.size w sv ts) (hJ : law.Ints w.heap.size w tv us) (h1 : ts.length ≤ 1000) (h2 : us.length ≤ 1000) (hlo : dref.Low ts) (hlu : dref.Low us) (htop : Tops ts) (hto : Tops us) :
    Calls Try.prog 4 #[.agg #[.int .i64 n, sv], .agg #[.int .i64 m, tv]] w fun e w' => e = .returned (.bool true) ∧ Below w.heap.size w w' := by
  have S := ilaw.st2 n m sv tv ts us w hI hJ
  obtain ⟨ad, cap, rfl⟩ := ints_len hI
  obtain ⟨bd, dap, rfl⟩ := ints_len hJ
  have t1 : ¬ (1000 : Int) < ts.length := by omega
  have t2 : ¬ (1000 : Int) < us.length := by omega
  have HLO := Lib.hid hlo
  have HLU := Lib.hid hlu
  have HT := Lib.hid htop
  have HU := Lib.hid hto
  clear hI hJ hlo hlu htop hto
  go_enter Try.func4, Try.ntmps4
  obtain ⟨x0, x1, x2, x3, x4⟩ := lies.two S.tail.head.1
  obtain ⟨y0, y1, y2, y3, y4⟩ := lies.two S.head.1
  go_wp2_with fail
  clear x0 x1 x2 x3 x4 y0 y1 y2 y3 y4
  generalize (w.alloc (.cells #[.int .i64 n, .slice ad ts.length cap] 27)).alloc (.cells #[.int .i64 m, .slice bd us.length dap] 27) = v0 at S ⊢
  refine (dref.twin_ref n _ ts _ S.tail.head.2 (by omega)).mono ?_
  rintro e v1 ⟨hB, ov, rfl, hO⟩
  have hI1 := dref.ints_own hO
  obtain ⟨a1, c1, rfl⟩ := ints_len hI1
  have S9 := S.below hB
  replace S := S9.add n _ ts hI1
  obtain ⟨a00, a01, a02, a03, a04⟩ := lies.two S9.head.1
  clear hB hO hI1 S9
  go_wp2_with fail
  clear a00 a01 a02 a03 a04
  generalize v1.heap.size = OB at S ⊢
  generalize v1.alloc (.cells #[.int .i64 n, .slice a1 ts.length c1] 27) = v2 at S ⊢
  refine (in_any n m _ _ ts us _ S.head.2 S.tail.head.2 (by omega) (by omega) HT.out HU.out).mono ?_
  rintro e v ⟨hB, r1, f1, rfl, hc⟩
  have HC := Lib.hid hc
  replace S := S.below hB
  clear hB hc
  obtain ⟨a00, a01, a02, a03, a04⟩ := lies.two S.tail.tail.head.1
  obtain ⟨a10, a11, a12, a13, a14⟩ := lies.two S.tail.head.1
  go_wp2_with fail
  clear a00 a01 a02 a03 a04 a10 a11 a12 a13 a14
  refine (rin_any n m _ _ ts us _ S.tail.tail.head.2 S.tail.head.2 (by omega) (by omega) HLO.out HLU.out HT.out HU.out).mono ?_
  rintro e v ⟨hB, r', f', rfl, hc⟩
  obtain ⟨rfl, rfl⟩ := asks_one HC.out hc
  replace S := S.below hB
  clear hB hc HC
  obtain ⟨a00, a01, a02, a03, a04⟩ := lies.two S.head.1
  obtain ⟨a10, a11, a12, a13, a14⟩ := lies.two S.tail.head.1
  go_wp2_with fail
  clear a00 a01 a02 a03 a04 a10 a11 a12 a13 a14
  refine (ap_any n m _ _ ts us _ S.head.2 S.tail.head.2 (by omega) (by omega) HT.out HU.out).mono ?_
  rintro e v ⟨hB, r2, f2, rfl, hc⟩
  have HC := Lib.hid hc
  replace S := S.below hB
  clear hB hc
  obtain ⟨a00, a01, a02, a03, a04⟩ := lies.two S.tail.tail.head.1
  obtain ⟨a10, a11, a12, a13, a14⟩ := lies.two S.tail.head.1
  go_wp2_with fail
  clear a00 a01 a02 a03 a04 a10 a11 a12 a13 a14
  refine (rap_any n m _ _ ts us _ S.tail.tail.head.2 S.tail.head.2 (by omega) (by omega) HLO.out HLU.out HT.out HU.out).mono ?_
  rintro e v ⟨hB, r', f', rfl, hc⟩
  obtain ⟨rfl, rfl⟩ := asks_one HC.out hc
  replace S := S.below hB
  clear hB hc HC
  obtain ⟨a00, a01, a02, a03, a04⟩ := lies.two S.head.1
  go_wp2_with fail
  clear a00 a01 a02 a03 a04
  refine (incl.pick_any n _ ts _ S.head.2 (by omega) HT.out).mono ?_
  intro e v hp
  obtain ⟨hB, pv, rs, f3, rfl, hP, hR⟩ := pk_told hp
  replace S := S.below hB
  have HP := Lib.hid hP
  have HR := Lib.hid hR
  clear hB hp hP hR
  obtain ⟨a00, a01, a02, a03, a04⟩ := lies.two S.tail.tail.head.1
  go_wp2_with fail
  clear a00 a01 a02 a03 a04
  refine (rpick_any n _ ts _ S.tail.tail.head.2 (by omega) HLO.out HT.out).mono ?_
  intro e w8 hp
  obtain ⟨hB, qv, rs', f3', rfl, hP, hR'⟩ := pk_told hp
  obtain ⟨rfl, rfl⟩ := pk_one HP.out hP
  replace S := S.below hB
  have hRA := (HR.out.below hB).mono hB.size
  have hlen := pk_len hP
  obtain ⟨va, vc, rfl⟩ := rats_len hRA
  obtain ⟨qa, qc, rfl⟩ := rats_len hR'
  have HRA := Lib.hid hRA
  have HRB := Lib.hid hR'
  clear hB hp hP hR' hRA HP HR
  go_wp2_with fail
  refine (same_times _ _ _ _ HRA.out HRB.out hlen).mono ?_
  rintro e w9 ⟨rfl, hB⟩
  replace S := S.below hB
  clear hB HRA HRB
  obtain ⟨a00, a01, a02, a03, a04⟩ := lies.two S.head.1
  obtain ⟨a10, a11, a12, a13, a14⟩ := lies.two S.tail.tail.head.1
  go_wp2_with fail
  clear a00 a01 a02 a03 a04 a10 a11 a12 a13 a14
  refine (dref.same_true n _ _ ts ts _ S.head.2 S.tail.tail.head.2 (by omega) rfl).mono ?_
  rintro e w10 ⟨rfl, hB⟩
  replace S := S.below hB
  clear hB
  go_wp2_with fail
  go_ret
  exact ⟨rfl, S.1⟩

theorem walk (n m : Int) (sv tv : Value) (ts us : List Int) (w : World) (hI : law.Ints w.heap.size w sv ts) (hJ : law.Ints w.heap.size w tv us) (hlo : dref.Low ts) (hlu : dref.Low us) (htop : Tops ts) (hto : Tops us) :
    Calls Try.prog 4 #[.agg #[.int .i64 n, sv], .agg #[.int .i64 m, tv]] w fun e w' => e = .returned (.bool true) ∧ Below w.heap.size w w' := by
  by_cases h : 1000 < ts.length ∨ (ts.length ≤ 1000 ∧ 1000 < us.length)
  · exact walk_far n m sv tv ts us w hI hJ h
  · exact walk_in n m sv tv ts us w hI hJ (by omega) (by omega) hlo hlu htop hto

set_option maxRecDepth 100000 in
theorem lifted (os : Os) (started : os.Started) (H : Type) (enc : TypeId × Value → H) :
    ReturnsInHanded {} Try.checked os 4 .any (Rows.inclTellsSpec.pre6 enc Try.prog Try.f4 Rows.inclTellsRow.domain false) (Rows.inclTellsSpec.post enc Try.prog Try.f4 false true false false) := by
  refine returnsInHanded_of_change (C := Try.checked) law.own started (by kernel_rfl) Try.func4
    (ChangeSpec.witness6 (enc := enc) (C := Try.checked) false ⟨#[], #[.agg #[.int .i64 0, .slice none 0 0], .agg #[.int .i64 0, .slice none 0 0]], []⟩ 8 (by kernel_rfl) (by kernel_rfl) (by kernel_rfl) (by kernel_rfl)) ?_
  intro W base args ds gs before hval0 hW _ _
  have hval : ∀ (j : Nat) t v, Try.f4.params[j]? = some t → args[j]? = some v → Value.okWide Try.prog W .any base t v := hval0
  have hW' := hW
  obtain ⟨p, q, hA0, hV, rfl, _, _⟩ := hW
  have hA : DataW.TrodAll enc Try.prog W 0 (fun _ => true) true Try.f4.params.toList args.toList ds p := hA0
  rw [Try.params4] at hA hval
  obtain ⟨v0, vs0, d0, ds0, p0, q0, hargs, rfl, rfl, h0, r0⟩ := trodAll_cons hA
  obtain ⟨v1, vs1, d1, ds1, p1, q1, rfl, rfl, rfl, h1, r1⟩ := trodAll_cons r0
  obtain ⟨rfl, rfl, rfl⟩ := trodAll_nil r1
  obtain rfl : args = #[v0, v1] := by cases args; simp_all
  obtain ⟨n0, sv0, ts0, rfl, _, hwf0, hI0, _⟩ := dlaw.open_dbm (hval 0 27 v0 rfl rfl) h0
  obtain ⟨n1, sv1, ts1, rfl, _, hwf1, hI1, _⟩ := dlaw.open_dbm (hval 1 27 v1 rfl rfl) h1
  refine (walk n0 n1 sv0 sv1 ts0 ts1 W hI0 hI1 (fun z hz => law.wf_lo (hwf0 z hz)) (fun z hz => law.wf_lo (hwf1 z hz)) (fun z hz => law.wf_hi (hwf0 z hz)) (fun z hz => law.wf_hi (hwf1 z hz))).mono fun e W' ⟨he, hB⟩ => ?_
  subst he
  exact ⟨_, rfl, law.post_true law.laidOut (by kernel_rfl) rfl Try.underlying4 rfl hW' (fun h => by subst h; rfl) hB⟩

theorem proved : Rows.InclTellsSaid :=
  OpenClaim.holds_of_wide 4 Try.f4 rfl rfl rfl rfl rfl rfl rfl ⟨rfl, rfl, rfl, rfl, rfl⟩ rfl rfl rfl rfl rfl (by kernel_rfl) Try.func4 (by kernel_rfl)
    (of_decide_eq_true (by kernel_rfl)) (by unfold Func.isWrapper; first | (rw [if_pos (by decide +kernel)]; kernel_rfl) | (rw [if_neg (by decide +kernel)]; exact ⟨rfl, rfl⟩))
    (fun os started H enc _ => lifted os started H enc)
#print axioms proved
end Go.Proofs.Ytnbpcgkdnkihdaa.inclTells
