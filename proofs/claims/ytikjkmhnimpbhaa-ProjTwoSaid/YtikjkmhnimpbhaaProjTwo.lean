/-
  ProjTwo answers true for every matrix and two clocks; no condition.
-/
import Derived.Test.YtikjkmhnimpbhaaProjF
import Derived.BigQuiet
namespace Go.Proofs.Ytikjkmhnimpbhaa.projTwo
open Go.Joins Go.ChangeShapes Go.WideShapes Go.ChangeAt Go.RowKit num dbm Go.Proofs.Ytikjkmhnimpbhaa.tight Go.Proofs.Ytikjkmhnimpbhaa.tlaw Go.Proofs.Ytikjkmhnimpbhaa.proj plaw
open bound hiding up
set_option linter.unusedVariables false
set_option linter.unusedSimpArgs false

set_option maxRecDepth 100000 in
set_option maxHeartbeats 2000000 in
theorem walk_far (n j k : Int) (sv : Value) (ts : List Int) (w : World) (hI : law.Ints w.heap.size w sv ts) (h : 1000 < ts.length ∨ (ts.length ≤ 1000 ∧ k ≤ j)) :
    Calls Try.prog 8 #[.agg #[.int .i64 n, sv], .int .i64 j, .int .i64 k] w fun e w' => e = .returned (.bool true) ∧ Below w.heap.size w w' := by
  have S := (St.start w).add n sv ts hI
  obtain ⟨ad, cap, rfl⟩ := ints_len hI
  clear hI
  rcases h with h | ⟨h, h2⟩
  · have t1 : (1000 : Int) < ts.length := by omega
    go_enter Try.func8, Try.ntmps8
    go_wp2_with fail
    generalize w.alloc (.cells #[.int .i64 n, .slice ad ts.length cap] 24) = w0 at S ⊢
    refine (alive_yes _).mono ?_
    rintro e w1 ⟨rfl, hB⟩
    replace S := S.below hB
    clear hB
    obtain ⟨x0, x1, x2, x3, x4⟩ := lies.two S.head.1
    go_wp2_with fail
    go_ret
    exact ⟨rfl, S.1⟩
  · have t1 : ¬ (1000 : Int) < ts.length := by omega
    go_enter Try.func8, Try.ntmps8
    go_wp2_with fail
    generalize w.alloc (.cells #[.int .i64 n, .slice ad ts.length cap] 24) = w0 at S ⊢
    refine (alive_yes _).mono ?_
    rintro e w1 ⟨rfl, hB⟩
    replace S := S.below hB
    clear hB
    obtain ⟨x0, x1, x2, x3, x4⟩ := lies.two S.head.1
    go_wp2_with fail
    go_ret
    exact ⟨rfl, S.1⟩
set_option maxRecDepth 100000 in
set_option maxHeartbeats 4000000 in
theorem walk_in (n j k : Int) (sv : Value) (ts : List Int) (w : World) (hI : law.Ints w.heap.size w sv ts) (htop : Tops ts) (h : ts.length ≤ 1000) (hjk : j < k) :
    Calls Try.prog 8 #[.agg #[.int .i64 n, sv], .int .i64 j, .int .i64 k] w fun e w' => e = .returned (.bool true) ∧ Below w.heap.size w w' := by
  have S := (St.start w).add n sv ts hI
  obtain ⟨ad, cap, rfl⟩ := ints_len hI
  have t1 : ¬ (1000 : Int) < ts.length := by omega
  have t2 : ¬ k ≤ j := by omega
  have HT := Lib.hid htop
  clear hI htop
  go_enter Try.func8, Try.ntmps8
  go_wp2_with fail
  generalize w.alloc (.cells #[.int .i64 n, .slice ad ts.length cap] 24) = w0 at S ⊢
  refine (alive_yes _).mono ?_
  rintro e w1 ⟨rfl, hB⟩
  replace S := S.below hB
  clear hB
  obtain ⟨x0, x1, x2, x3, x4⟩ := lies.two S.head.1
  go_wp2_with fail
  clear x0 x1 x2 x3 x4
  refine (drop_any n j _ ts _ S.head.2 (by omega) HT.out).mono ?_
  rintro e w2 ⟨hB, na, aa, la, ca, us, f, rfl, hR, hK⟩
  replace S := (S.below hB).add na _ us hK.ints
  have HR := Lib.hid hR
  clear hB hK hR
  obtain ⟨x0, x1, x2, x3, x4⟩ := lies.two S.tail.head.1
  go_wp2_with fail
  clear x0 x1 x2 x3 x4
  generalize w2.heap.size = B2 at S ⊢
  generalize w2.alloc (.cells #[.int .i64 na, .slice aa la ca] 24) = u2 at S ⊢
  refine (drop_any n k _ ts _ S.tail.head.2 (by omega) HT.out).mono ?_
  rintro e w3 ⟨hB, nb, ab, lb, cb, vs, f2, rfl, hR2, hK⟩
  replace S := (S.below hB).add nb _ vs hK.ints
  have HR2 := Lib.hid hR2
  clear hB hK hR2
  by_cases hf : f = 0
  · subst hf
    by_cases hf2 : f2 = 0
    · subst hf2
      obtain ⟨hok, hkj, hna, hus⟩ := drop_zero HR.out
      obtain ⟨_, hkk, hnb, hvs⟩ := drop_zero HR2.out
      obtain ⟨m, rfl, h0, hn, hl⟩ := may_nat hok.1
      rw [Int.toNat_natCast] at hna hnb hus hvs
      obtain ⟨q, rfl⟩ : ∃ q : Nat, j = q := ⟨j.toNat, by have := hkj.1; omega⟩
      obtain ⟨r, rfl⟩ : ∃ r : Nat, k = r := ⟨k.toNat, by have := hkk.1; omega⟩
      rw [Int.toNat_natCast] at hus hvs
      obtain ⟨m1, hm1⟩ : ∃ m1, m1 = m - 1 := ⟨_, rfl⟩
      rw [← hm1] at hna hnb
      subst hna
      subst hnb
      obtain ⟨kj1, kj2⟩ := hkj
      obtain ⟨kk1, kk2⟩ := hkk
      have hla : us.length ≤ 1000 := by
        rw [hus, dropT_length]
        have := sq_le (n := m - 1) (by omega)
        omega
      have hlb : vs.length ≤ 1000 := by
        rw [hvs, dropT_length]
        have := sq_le (n := m - 1) (by omega)
        omega
      have HTA : RowKit.Hid (Tops us) := Lib.hid (by rw [hus]; exact dropT_tops h0 hn hl HT.out hok)
      have HTB : RowKit.Hid (Tops vs) := Lib.hid (by rw [hvs]; exact dropT_tops h0 hn hl HT.out hok)
      have C1 := Lib.hid (check4_any (m1 : Int) _ us _ S.tail.head.2 (by omega) HTA.out)
      by_cases ha : MayD (m1 : Int) us
      · have e1 : chkD (m1 : Int) us = 0 := if_pos ha
        rw [e1] at C1
        by_cases hb : MayD (m1 : Int) vs
        · have z1 : wrap64 ((r : Int) - 1) = ((r - 1 : Nat) : Int) := by rw [IntWalk.wrap64_in _ ⟨by omega, by omega⟩]; omega
          have z2 : IntKind.i64.wrap ((r : Int) - 1) = ((r - 1 : Nat) : Int) := by rw [IntWalk.i64_in _ ⟨by omega, by omega⟩]; omega
          have hoa : OkD (m1 : Int) us := by
            rw [hus, hm1] at ha ⊢
            exact (dropT_own h0 hn hl HT.out hok (by omega) ha).1
          have hob : OkD (m1 : Int) vs := by
            rw [hvs, hm1] at hb ⊢
            exact (dropT_own h0 hn hl HT.out hok (by omega) hb).1
          have heq : dropT m1 (r - 1) us = dropT m1 q vs := by
            rw [hus, hvs, hm1]
            rw [hus, hm1] at ha
            rw [hvs, hm1] at hb
            exact drop_two hn (by omega) (by omega) hl HT.out hok ha hb
          have hk1 : Kc (m1 : Int) ((r - 1 : Nat) : Int) := ⟨by omega, by omega⟩
          have hk2 : Kc (m1 : Int) (q : Int) := ⟨by omega, by omega⟩
          have HOA := Lib.hid hoa
          have HOB := Lib.hid hob
          have HEQ := Lib.hid heq
          have HK1 := Lib.hid hk1
          have HK2 := Lib.hid hk2
          have HMB := Lib.hid hb
          have hls : (dropT m1 q vs).length ≤ 1000 := by
            rw [dropT_length]
            have := sq_le (n := m1 - 1) (by omega)
            omega
          clear ha hb e1 hus hvs hm1 hoa hob heq hk1 hk2 hok HR HR2 hl
          obtain ⟨x0, x1, x2, x3, x4⟩ := lies.two S.tail.head.1
          go_wp2_with fail
          clear x0 x1 x2 x3 x4
          generalize w3.heap.size = B3 at S ⊢
          generalize w3.alloc (.cells #[.int .i64 m1, .slice ab lb cb] 24) = u3 at S C1 ⊢
          refine C1.out.mono ?_
          rintro e w4 ⟨rfl, hB⟩
          replace S := S.below hB
          clear hB C1
          obtain ⟨x0, x1, x2, x3, x4⟩ := lies.two S.head.1
          go_wp2_with fail
          clear x0 x1 x2 x3 x4
          refine (check4_any (m1 : Int) _ vs _ S.head.2 (by omega) HTB.out).mono ?_
          rintro e w5 ⟨rfl, hB⟩
          replace S := S.below hB
          clear hB
          have e2 : chkD (m1 : Int) vs = 0 := if_pos HMB.out
          rw [e2]
          clear e2
          obtain ⟨x0, x1, x2, x3, x4⟩ := lies.two S.tail.head.1
          go_wp2_with fail
          clear x0 x1 x2 x3 x4
          refine (drop_any (m1 : Int) ((r - 1 : Nat) : Int) _ us _ S.tail.head.2 (by omega) HTA.out).mono ?_
          rintro e w6 ⟨hB, nx, ax, lx, cx, xs, fx, rfl, hRx, hK⟩
          obtain ⟨h1, h2, rfl⟩ := drop_yes hRx HOA.out HK1.out
          rw [Int.toNat_natCast] at h1
          rw [Int.toNat_natCast, Int.toNat_natCast, HEQ.out] at h2
          subst h1
          subst h2
          replace S := (S.below hB).add ((m1 - 1 : Nat) : Int) _ _ hK.ints
          clear hB hK hRx HEQ
          obtain ⟨x0, x1, x2, x3, x4⟩ := lies.two S.tail.head.1
          go_wp2_with fail
          clear x0 x1 x2 x3 x4
          generalize w6.heap.size = B6 at S ⊢
          generalize w6.alloc (.cells #[.int .i64 ((m1 - 1 : Nat) : Int), .slice ax lx cx] 24) = u6 at S ⊢
          refine (drop_any (m1 : Int) (q : Int) _ vs _ S.tail.head.2 (by omega) HTB.out).mono ?_
          rintro e w7 ⟨hB, ny, ay, ly, cy, ys, fy, rfl, hRy, hK⟩
          obtain ⟨h1, h2, rfl⟩ := drop_yes hRy HOB.out HK2.out
          rw [Int.toNat_natCast] at h1
          rw [Int.toNat_natCast, Int.toNat_natCast] at h2
          subst h1
          subst h2
          replace S := (S.below hB).add ((m1 - 1 : Nat) : Int) _ _ hK.ints
          clear hB hK hRy
          obtain ⟨x0, x1, x2, x3, x4⟩ := lies.two S.tail.head.1
          go_wp2_with fail
          clear x0 x1 x2 x3 x4
          generalize w7.heap.size = B7 at S ⊢
          generalize w7.alloc (.cells #[.int .i64 ((m1 - 1 : Nat) : Int), .slice ay ly cy] 24) = u7 at S ⊢
          refine (dref.same_true _ _ _ (dropT m1 q vs) (dropT m1 q vs) _ S.tail.head.2 S.head.2 (by omega) rfl).mono ?_
          rintro e w8 ⟨rfl, hB⟩
          replace S := S.below hB
          clear hB
          go_wp2_with fail
          go_ret
          exact ⟨rfl, S.1⟩
        · have HMB := Lib.hid hb
          clear ha hb e1 hus hvs hm1 hok HR HR2 hl
          obtain ⟨x0, x1, x2, x3, x4⟩ := lies.two S.tail.head.1
          go_wp2_with fail
          clear x0 x1 x2 x3 x4
          generalize w3.heap.size = B3 at S ⊢
          generalize w3.alloc (.cells #[.int .i64 m1, .slice ab lb cb] 24) = u3 at S C1 ⊢
          refine C1.out.mono ?_
          rintro e w4 ⟨rfl, hB⟩
          replace S := S.below hB
          clear hB C1
          obtain ⟨x0, x1, x2, x3, x4⟩ := lies.two S.head.1
          go_wp2_with fail
          clear x0 x1 x2 x3 x4
          refine (check4_any (m1 : Int) _ vs _ S.head.2 (by omega) HTB.out).mono ?_
          rintro e w5 ⟨rfl, hB⟩
          replace S := S.below hB
          clear hB
          have e2 : chkD (m1 : Int) vs = 8 := if_neg HMB.out
          rw [e2]
          clear e2
          go_wp2_with fail
          go_ret
          exact ⟨rfl, S.1⟩
      · have e1 : chkD (m1 : Int) us = 8 := if_neg ha
        rw [e1] at C1
        clear ha e1 hus hvs hm1 hok HR HR2 hl
        obtain ⟨x0, x1, x2, x3, x4⟩ := lies.two S.tail.head.1
        go_wp2_with fail
        clear x0 x1 x2 x3 x4
        refine C1.out.mono ?_
        rintro e w4 ⟨rfl, hB⟩
        replace S := S.below hB
        clear hB C1
        go_wp2_with fail
        go_ret
        exact ⟨rfl, S.1⟩
    · have t6 : (f2 != 0) = true := by simpa using hf2
      go_wp2_with fail
      go_ret
      exact ⟨rfl, S.1⟩
  · have t6 : (f != 0) = true := by simpa using hf
    go_wp2_with fail
    go_ret
    exact ⟨rfl, S.1⟩
theorem walk (n j k : Int) (sv : Value) (ts : List Int) (w : World) (hI : law.Ints w.heap.size w sv ts) (htop : Tops ts) :
    Calls Try.prog 8 #[.agg #[.int .i64 n, sv], .int .i64 j, .int .i64 k] w fun e w' => e = .returned (.bool true) ∧ Below w.heap.size w w' := by
  by_cases h : 1000 < ts.length ∨ (ts.length ≤ 1000 ∧ k ≤ j)
  · exact walk_far n j k sv ts w hI h
  · exact walk_in n j k sv ts w hI htop (by omega) (by omega)

set_option maxRecDepth 100000 in
theorem lifted (os : Os) (started : os.Started) (H : Type) (enc : TypeId × Value → H) :
    ReturnsInHanded {} Try.checked os 8 .any (Rows.projTwoSpec.pre6 enc Try.prog Try.f8 Rows.projTwoRow.domain false) (Rows.projTwoSpec.post enc Try.prog Try.f8 false true false false) := by
  refine returnsInHanded_of_change (C := Try.checked) law.own started (by kernel_rfl) Try.func8
    (ChangeSpec.witness6 (enc := enc) (C := Try.checked) false ⟨#[], #[.agg #[.int .i64 0, .slice none 0 0], .int .i64 0, .int .i64 0], []⟩ 8 (by kernel_rfl) (by kernel_rfl) (by kernel_rfl) (by kernel_rfl)) ?_
  intro W base args ds gs before hval0 hW _ _
  have hval : ∀ (j : Nat) t v, Try.f8.params[j]? = some t → args[j]? = some v → Value.okWide Try.prog W .any base t v := hval0
  have hW' := hW
  obtain ⟨p, q, hA0, hV, rfl, _, _⟩ := hW
  have hA : DataW.TrodAll enc Try.prog W 0 (fun _ => true) true Try.f8.params.toList args.toList ds p := hA0
  rw [Try.params8] at hA hval
  obtain ⟨v0, vs0, d0, ds0, p0, q0, hargs, rfl, rfl, h0, r0⟩ := trodAll_cons hA
  obtain ⟨v1, vs1, d1, ds1, p1, q1, rfl, rfl, rfl, h1, r1⟩ := trodAll_cons r0
  obtain ⟨v2, vs2, d2, ds2, p2, q2, rfl, rfl, rfl, h2, r2⟩ := trodAll_cons r1
  obtain ⟨rfl, rfl, rfl⟩ := trodAll_nil r2
  obtain rfl : args = #[v0, v1, v2] := by cases args; simp_all
  obtain ⟨n0, sv0, ts0, rfl, _, hwf0, hI0, _⟩ := dlaw.open_dbm (hval 0 24 v0 rfl rfl) h0
  obtain ⟨a1, rfl, rfl, rfl, x1⟩ := open_int Try.underlying3 (hval 1 3 v1 rfl rfl) h1
  obtain ⟨a2, rfl, rfl, rfl, x2⟩ := open_int Try.underlying3 (hval 2 3 v2 rfl rfl) h2
  refine (walk n0 a1 a2 sv0 ts0 W hI0 (fun z hz => law.wf_hi (hwf0 z hz))).mono fun e W' ⟨he, hB⟩ => ?_
  subst he
  exact ⟨_, rfl, law.post_true law.laidOut (by kernel_rfl) rfl Try.underlying4 rfl hW' (fun h => by subst h; rfl) hB⟩

theorem proved : Rows.ProjTwoSaid :=
  OpenClaim.holds_of_wide 8 Try.f8 rfl rfl rfl rfl rfl rfl rfl ⟨rfl, rfl, rfl, rfl, rfl⟩ rfl rfl rfl rfl rfl (by kernel_rfl) Try.func8 (by kernel_rfl)
    (of_decide_eq_true (by kernel_rfl)) (by unfold Func.isWrapper; first | (rw [if_pos (by decide +kernel)]; kernel_rfl) | (rw [if_neg (by decide +kernel)]; exact ⟨rfl, rfl⟩))
    (fun os started H enc _ => lifted os started H enc)
#print axioms proved
end Go.Proofs.Ytikjkmhnimpbhaa.projTwo
