/-
  DbmTop answers true for every number of clocks; no condition.
-/
import Derived.Test.YtlagnbbbokgdfaaDbmTopLaw
import Derived.OpenShut
namespace Go.Proofs.Ytlagnbbbokgdfaa.dbmTop
open Go.ChangeShapes Go.WideShapes Go.ChangeAt Go.RowKit num dbm dlaw
open bound hiding up
set_option linter.unusedVariables false

theorem walk_no (n : Int) (h : n < 1 ∨ 4 < n) (w : World) : Calls Try.prog 5 #[.int .i64 n] w fun e w' => e = .returned (.bool true) ∧ Below w.heap.size w w' := by
  have H := Lib.hid h
  clear h
  go_enter Try.func5, Try.ntmps5
  go_wp2_with fail
  refine (top_no n w H.out).mono ?_
  rintro e w1 ⟨rfl, hB1⟩
  go_wp2_with fail
  have A1 := lies.made w1 27 #[.int .i64 0, .slice none 0 0]
  have K1 := hB1.alloc hB1.size (.cells #[.int .i64 0, .slice none 0 0] 27)
  refine (dref.rtop_no n _ H.out).mono ?_
  rintro e w2 ⟨rfl, hB2⟩
  replace A1 := lies.on_call A1 hB2
  replace K1 := K1.trans (hB2.mono K1.size)
  clear hB1 hB2
  obtain ⟨c0, c1, c2, c3, c4⟩ := lies.two A1
  go_wp2_with fail
  refine (dref.same_any 0 0 (.slice none 0 0) (.slice none 0 0) [] [] _ (.inl ⟨⟨_, _, rfl, fun _ => rfl⟩, rfl⟩) (.inl ⟨⟨_, _, rfl, fun _ => rfl⟩, rfl⟩) (by decide)).mono ?_
  rintro e w3 ⟨rfl, hB3⟩
  have K3 := (K1.alloc K1.size _).trans (hB3.mono (K1.alloc K1.size (.cells #[.int .i64 0, .slice none 0 0] 27)).size)
  clear c0 c1 c2 c3 c4 hB3 A1
  go_wp2_with fail
  go_ret
  exact ⟨rfl, K3⟩
theorem walk_ok (n : Nat) (h0 : 0 < n) (hn : n ≤ 4) (w : World) : Calls Try.prog 5 #[.int .i64 n] w fun e w' => e = .returned (.bool true) ∧ Below w.heap.size w w' := by
  go_enter Try.func5, Try.ntmps5
  go_wp2_with fail
  refine (top_ok n w h0 hn).mono ?_
  rintro e w1 ⟨hB1, g, hg, rfl, hG⟩
  go_wp2_with fail
  have A1 := lies.made w1 27 #[.int .i64 n, .slice (some ⟨g, 0, none⟩) (n * n) (n * n)]
  have M1 := lies.on_alloc hG (.cells #[.int .i64 n, .slice (some ⟨g, 0, none⟩) (n * n) (n * n)] 27)
  have K1 := hB1.alloc hB1.size (.cells #[.int .i64 n, .slice (some ⟨g, 0, none⟩) (n * n) (n * n)] 27)
  clear hG hB1
  refine (dref.rtop_ok n _ h0 hn).mono ?_
  rintro e w2 ⟨hB2, a, l, c, rfl, hI⟩
  replace A1 := lies.on_call A1 hB2
  replace M1 := lies.on_call M1 hB2
  replace K1 := K1.trans (hB2.mono K1.size)
  clear hB2
  have A2 := lies.made w2 27 #[.int .i64 n, .slice a l c]
  replace A1 := lies.on_alloc A1 (.cells #[.int .i64 n, .slice a l c] 27)
  replace M1 := lies.on_alloc M1 (.cells #[.int .i64 n, .slice a l c] 27)
  have hI2 := (hI.below ((Below.refl w2.heap.size w2).alloc (Nat.le_refl _) (.cells #[.int .i64 n, .slice a l c] 27))).mono (n₁ := (w2.alloc (.cells #[.int .i64 n, .slice a l c] 27)).heap.size) (by simp)
  replace K1 := K1.alloc K1.size (.cells #[.int .i64 n, .slice a l c] 27)
  have hlen : (topT n h0).length = n * n := by unfold topT; rw [tpl_length]; simp
  have hJ : law.Ints (w2.alloc (.cells #[.int .i64 n, .slice a l c] 27)).heap.size (w2.alloc (.cells #[.int .i64 n, .slice a l c] 27)) (.slice (some ⟨g, 0, none⟩) (n * n) (n * n)) (topT n h0) := by
    have := own_ints (cap := n * n) M1
    rwa [hlen] at this
  have hsq := sq_le hn
  have HC := Lib.hid (dref.same_true n _ _ _ _ _ hJ hI2 (by omega) (dref.top_same n h0 hn))
  obtain ⟨c0, c1, c2, c3, c4⟩ := lies.two A1
  clear hI hI2 hJ M1 hlen
  go_wp2_with fail
  refine HC.out.mono ?_
  rintro e w3 ⟨rfl, hB3⟩
  have K3 := K1.trans (hB3.mono K1.size)
  clear HC c0 c1 c2 c3 c4 hB3 A1 A2 K1
  go_wp2_with fail
  go_ret
  exact ⟨rfl, K3⟩
theorem walk (n : Int) (l0 : -9223372036854775808 ≤ n) (u0 : n ≤ 9223372036854775807) (w : World) : Calls Try.prog 5 #[.int .i64 n] w fun e w' => e = .returned (.bool true) ∧ Below w.heap.size w w' := by
  by_cases h : n < 1 ∨ 4 < n
  · exact walk_no n h w
  · obtain ⟨m, rfl⟩ : ∃ m : Nat, n = m := ⟨n.toNat, by omega⟩
    exact walk_ok m (by omega) (by omega) w

set_option maxRecDepth 100000 in
theorem lifted (os : Os) (started : os.Started) (H : Type) (enc : TypeId × Value → H) :
    ReturnsInHanded {} Try.checked os 5 .any (Rows.dbmTopSpec.pre6 enc Try.prog Try.f5 Rows.dbmTopRow.domain false) (Rows.dbmTopSpec.post enc Try.prog Try.f5 false true false false) := by
  refine returnsInHanded_of_change (C := Try.checked) law.own started (by kernel_rfl) Try.func5
    (ChangeSpec.witness6 (enc := enc) (C := Try.checked) false ⟨#[], #[.int .i64 0], []⟩ 8 (by kernel_rfl) (by kernel_rfl) (by kernel_rfl) (by kernel_rfl)) ?_
  intro W base args ds gs before hval0 hW _ _
  have hval : ∀ (j : Nat) t v, Try.f5.params[j]? = some t → args[j]? = some v → Value.okWide Try.prog W .any base t v := hval0
  have hW' := hW
  obtain ⟨p, q, hA0, hV, rfl, _, _⟩ := hW
  have hA : DataW.TrodAll enc Try.prog W 0 (fun _ => true) true Try.f5.params.toList args.toList ds p := hA0
  rw [Try.params5] at hA hval
  obtain ⟨v0, vs0, d0, ds0, p0, q0, hargs, rfl, rfl, h0, r0⟩ := trodAll_cons hA
  obtain ⟨rfl, rfl, rfl⟩ := trodAll_nil r0
  obtain rfl : args = #[v0] := by cases args; simp_all
  obtain ⟨a0, rfl, rfl, rfl, w0⟩ := open_int Try.underlying3 (hval 0 3 v0 rfl rfl) h0
  refine (walk a0 (law.wf_lo w0) (law.wf_hi w0) W).mono fun e W' ⟨he, hB⟩ => ?_
  subst he
  exact ⟨_, rfl, law.post_true law.laidOut (by kernel_rfl) rfl Try.underlying4 rfl hW' (fun h => by subst h; rfl) hB⟩

theorem proved : Rows.DbmTopSaid :=
  OpenClaim.holds_of_wide 5 Try.f5 rfl rfl rfl rfl rfl rfl rfl ⟨rfl, rfl, rfl, rfl, rfl⟩ rfl rfl rfl rfl rfl (by kernel_rfl) Try.func5 (by kernel_rfl)
    (of_decide_eq_true (by kernel_rfl)) (by unfold Func.isWrapper; first | (rw [if_pos (by decide +kernel)]; kernel_rfl) | (rw [if_neg (by decide +kernel)]; exact ⟨rfl, rfl⟩))
    (fun os started H enc _ => lifted os started H enc)
#print axioms proved
end Go.Proofs.Ytlagnbbbokgdfaa.dbmTop
