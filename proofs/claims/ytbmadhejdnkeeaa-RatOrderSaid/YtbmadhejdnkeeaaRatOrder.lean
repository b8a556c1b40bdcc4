/-
  The law RatOrder answers true for every three fractions, and leaves them as they are; no conditions.
-/
import Derived.Test.YtbmadhejdnkeeaaRatOrder1
namespace Go.Proofs.Ytbmadhejdnkeeaa.ratOrder
open Go.ChangeShapes Go.WideShapes Go.ChangeAt Go.RowKit rmath bound num rat ratlaw
set_option linter.unusedVariables false

theorem lt_trans {a b c d p q : Int} (hb : 1 ≤ b) (hd : 1 ≤ d) (hq : 1 ≤ q) (h : a * d < c * b) (k : c * q ≤ p * d) : a * q < p * b := by
  have x := Int.mul_lt_mul_of_pos_right h (show 0 < q by omega)
  have y := Int.mul_le_mul_of_nonneg_right k (show 0 ≤ b by omega)
  have e1 : a * d * q = d * (a * q) := by ac_rfl
  have e2 : c * b * q = c * q * b := by ac_rfl
  have e3 : p * d * b = d * (p * b) := by ac_rfl
  rw [e1, e2] at x
  rw [e3] at y
  exact Int.lt_of_mul_lt_mul_left (Int.lt_of_lt_of_le x y) (by omega)
theorem sums {a b c d p q X Y Z T : Int} (hb : 1 ≤ b) (hd : 1 ≤ d) (hq : 1 ≤ q) (hY : 1 ≤ Y) (hT : 1 ≤ T) (e : X * (b * q * 1) = (a * q + p * b) * Y) (f : Z * (d * q * 1) = (c * q + p * d) * T) : cmp0 (X * T) (Z * Y) = cmp0 (a * d) (c * b) := by
  rw [Int.mul_one] at e f
  refine cmp0_scale (k := b * d * q) (j := Y * T * q) (Int.mul_pos (Int.mul_pos (by omega) (by omega)) (by omega)) (Int.mul_pos (Int.mul_pos (by omega) (by omega)) (by omega)) ?_
  have e1 : b * d * q * (X * T) = X * (b * q) * (d * T) := by ac_rfl
  have e2 : b * d * q * (Z * Y) = Z * (d * q) * (b * Y) := by ac_rfl
  rw [e1, e2, e, f, Int.add_mul, Int.add_mul, Int.add_mul, Int.add_mul]
  have g1 : a * q * Y * (d * T) = Y * T * q * (a * d) := by ac_rfl
  have g2 : c * q * T * (b * Y) = Y * T * q * (c * b) := by ac_rfl
  have g3 : p * d * T * (b * Y) = p * b * Y * (d * T) := by ac_rfl
  rw [g1, g2, g3]
  omega
theorem apart {a b c d : Int} (h : Both a b c d) (k : ¬ (a = c ∧ b = d)) : ¬ a * d = c * b := fun e => k (low_unique h.1.2.2.2.2 h.2.2.2.2.2 h.1.1 h.2.1 e)
theorem cmp0_self (x : Int) : cmp0 x x = 0 := by unfold cmp0; rw [if_neg (by omega), if_neg (by omega)]

theorem walk (a b c d p q : Int) (a1 : -9223372036854775808 ≤ a) (a2 : a ≤ 9223372036854775807) (b1 : -9223372036854775808 ≤ b) (b2 : b ≤ 9223372036854775807) (c1 : -9223372036854775808 ≤ c) (c2 : c ≤ 9223372036854775807) (d1 : -9223372036854775808 ≤ d) (d2 : d ≤ 9223372036854775807) (p1 : -9223372036854775808 ≤ p) (p2 : p ≤ 9223372036854775807) (q1 : -9223372036854775808 ≤ q) (q2 : q ≤ 9223372036854775807) (w : World) :
    Calls Try.prog 6 #[.agg #[.int .i64 (a), .int .i64 (b)], .agg #[.int .i64 (c), .int .i64 (d)], .agg #[.int .i64 (p), .int .i64 (q)]] w fun e w' => e = .returned (.bool true) ∧ Below w.heap.size w w' := by
  have k3 := Lib.hid (cmp_at c d p q _ _ c1 c2 p1 p2 ⟨rfl, rfl⟩)
  have k4 := Lib.hid (cmp_at a b p q _ _ a1 a2 p1 p2 ⟨rfl, rfl⟩)
  have k5 := Lib.hid (add_at a b p q _ _ _ a1 a2 p1 p2 ⟨rfl, rfl, rfl⟩)
  have k6 := Lib.hid (add_at c d p q _ _ _ c1 c2 p1 p2 ⟨rfl, rfl, rfl⟩)
  by_cases g : Both a b c d
  · obtain ⟨n1, n2⟩ := cmpV_is g
    obtain ⟨m1, m2⟩ := cmpV_is (both_comm.1 g)
    by_cases s : a = c ∧ b = d
    · obtain ⟨rfl, rfl⟩ := s
      refine same a b p q _ _ _ _ _ w ?_ (Lib.hid (cmp_at a b a b _ _ a1 a2 a1 a2 ⟨n1.trans (cmp0_self _), n2⟩)) k4 k5 (Lib.hid (fun z => ?_))
      · by_cases m : MayR p q
        · obtain ⟨v, e⟩ := cmpV_is (show Both a b p q from ⟨g.1, m⟩)
          rw [v, e]
          rcases cmp0_cases (a * q) (p * b) with ⟨_, r⟩ | ⟨_, r⟩ | ⟨_, r⟩
          · exact .inr (.inl ⟨rfl, r⟩)
          · exact .inr (.inr (.inr ⟨rfl, r⟩))
          · exact .inr (.inr (.inl ⟨rfl, r⟩))
        · rw [(cmpV_not (fun k : Both a b p q => m k.2)).2]
          exact .inl rfl
      · obtain ⟨_, x, _, y1, y2⟩ := part_good (by omega) z
        obtain ⟨v, e⟩ := cmpV_is (show Both _ _ _ _ from ⟨x, x⟩)
        exact cmp_at _ _ _ _ _ _ y1 y2 y1 y2 ⟨v.trans (cmp0_self _), e⟩
    · have u := apart g s
      have hn : (cmp0 (a * d) (c * b) = 1 ∧ cmp0 (c * b) (a * d) = -1) ∨ (a * d < c * b ∧ cmp0 (a * d) (c * b) = -1 ∧ cmp0 (c * b) (a * d) = 1) := by
        have y := cmp0_back (a * d) (c * b)
        rcases cmp0_cases (a * d) (c * b) with ⟨x, r⟩ | ⟨x, r⟩ | ⟨x, r⟩
        · exact .inl ⟨r, by omega⟩
        · exact .inr ⟨x, r, by omega⟩
        · exact absurd x u
      have l1 := Lib.hid (cmp_at a b c d _ _ a1 a2 c1 c2 ⟨n1, n2⟩)
      have l2 := Lib.hid (cmp_at c d a b _ _ c1 c2 a1 a2 ⟨m1, m2⟩)
      by_cases m : MayR p q
      · obtain ⟨v3, e3⟩ := cmpV_is (show Both c d p q from ⟨g.2, m⟩)
        obtain ⟨v4, e4⟩ := cmpV_is (show Both a b p q from ⟨g.1, m⟩)
        rw [v3, e3] at k3
        rw [v4, e4] at k4
        have hh : (cmp0 (a * d) (c * b) = 1 ∧ cmp0 (c * b) (a * d) = -1) ∨ (cmp0 (a * d) (c * b) = -1 ∧ cmp0 (c * b) (a * d) = 1 ∧ cmp0 (c * q) (p * d) = 1) ∨ (cmp0 (a * d) (c * b) = -1 ∧ cmp0 (c * b) (a * d) = 1 ∧ cmp0 (c * q) (p * d) = 0 ∧ cmp0 (a * q) (p * b) = -1) ∨ (cmp0 (a * d) (c * b) = -1 ∧ cmp0 (c * b) (a * d) = 1 ∧ cmp0 (c * q) (p * d) = -1 ∧ cmp0 (a * q) (p * b) = -1) := by
          rcases hn with x | ⟨x, y, z⟩
          · exact .inl x
          · have tr : c * q ≤ p * d → cmp0 (a * q) (p * b) = -1 := fun k => by
              have := lt_trans g.1.1 g.2.1 m.1 x k
              unfold cmp0
              rw [if_neg (by omega), if_pos this]
            rcases cmp0_cases (c * q) (p * d) with ⟨k, r⟩ | ⟨k, r⟩ | ⟨k, r⟩
            · exact .inr (.inl ⟨y, z, r⟩)
            · exact .inr (.inr (.inr ⟨y, z, r, tr (by omega)⟩))
            · exact .inr (.inr (.inl ⟨y, z, r, tr (by omega)⟩))
        have k7 : RowKit.Hid (partE 1 a b p q = 0 → partE 1 c d p q = 0 → law.Says 16 #[.agg #[.int .i64 (partN 1 a b p q), .int .i64 (partD 1 a b p q)], .agg #[.int .i64 (partN 1 c d p q), .int .i64 (partD 1 c d p q)]] (.tuple #[.int .i64 (cmp0 (a * d) (c * b)), .int .i64 0])) := Lib.hid (fun z1 z2 => by
          obtain ⟨_, x1, x2, x3, x4⟩ := part_good (by omega) z1
          obtain ⟨_, y1, y2, y3, y4⟩ := part_good (by omega) z2
          obtain ⟨v, e⟩ := cmpV_is (show Both _ _ _ _ from ⟨x1, y1⟩)
          exact cmp_at _ _ _ _ _ _ x3 x4 y3 y4 ⟨v.trans (sums g.1.1 g.2.1 m.1 x1.1 y1.1 x2 y2), e⟩)
        by_cases ac : a = c
        · subst ac
          exact ne2_ok a b d p q _ _ _ _ _ _ _ _ _ _ w (fun e => s ⟨rfl, e⟩) hh l1 l2 k3 k4 k5 k6 k7
        · exact ne1_ok a b c d p q _ _ _ _ _ _ _ _ _ _ w ac hh l1 l2 k3 k4 k5 k6 k7
      · have hg : (cmpE c d p q != 0) = true := by rw [(cmpV_not (fun k : Both c d p q => m k.2)).2]; rfl
        have hh : (cmp0 (a * d) (c * b) = 1 ∧ cmp0 (c * b) (a * d) = -1) ∨ (cmp0 (a * d) (c * b) = -1 ∧ cmp0 (c * b) (a * d) = 1) := hn.elim .inl (fun x => .inr x.2)
        by_cases ac : a = c
        · subst ac
          exact ne2_bad a b d p q _ _ _ _ _ _ w (fun e => s ⟨rfl, e⟩) hh hg l1 l2 k3 k4
        · exact ne1_bad a b c d p q _ _ _ _ _ _ w ac hh hg l1 l2 k3 k4
  · obtain ⟨n1, n2⟩ := cmpV_not g
    obtain ⟨m1, m2⟩ := cmpV_not (fun k : Both c d a b => g (both_comm.1 k))
    exact walk_no a b c d p q _ _ _ _ w (Lib.hid (cmp_at a b c d _ _ a1 a2 c1 c2 ⟨n1, n2⟩)) (Lib.hid (cmp_at c d a b _ _ c1 c2 a1 a2 ⟨m1, m2⟩)) k3 k4

set_option maxRecDepth 100000 in
theorem lifted (os : Os) (started : os.Started) (H : Type) (enc : TypeId × Value → H) :
    ReturnsInHanded {} Try.checked os 6 .any (Rows.ratOrderSpec.pre6 enc Try.prog Try.f6 Rows.ratOrderRow.domain false) (Rows.ratOrderSpec.post enc Try.prog Try.f6 false true false false) := by
  refine returnsInHanded_of_change (C := Try.checked) law.own started (by kernel_rfl) Try.func6
    (ChangeSpec.witness6 (enc := enc) (C := Try.checked) false ⟨#[], #[.agg #[.int .i64 0, .int .i64 0], .agg #[.int .i64 0, .int .i64 0], .agg #[.int .i64 0, .int .i64 0]], []⟩ 8 (by kernel_rfl) (by kernel_rfl) (by kernel_rfl) (by kernel_rfl)) ?_
  intro W base args ds gs before hval0 hW _ _
  have hval : ∀ (j : Nat) t v, Try.f6.params[j]? = some t → args[j]? = some v → Value.okWide Try.prog W .any base t v := hval0
  have hW' := hW
  obtain ⟨p, q, hA0, hV, rfl, _, _⟩ := hW
  have hA : DataW.TrodAll enc Try.prog W 0 (fun _ => true) true Try.f6.params.toList args.toList ds p := hA0
  rw [Try.params6] at hA hval
  obtain ⟨v0, vs0, d0, ds0, p0, q0, hargs, rfl, rfl, h0, r0⟩ := trodAll_cons hA
  obtain ⟨v1, vs1, d1, ds1, p1, q1, rfl, rfl, rfl, h1, r1⟩ := trodAll_cons r0
  obtain ⟨v2, vs2, d2, ds2, p2, q2, rfl, rfl, rfl, h2, r2⟩ := trodAll_cons r1
  obtain ⟨rfl, rfl, rfl⟩ := trodAll_nil r2
  obtain rfl : args = #[v0, v1, v2] := by cases args; simp_all
  obtain ⟨a0, b0, rfl, x0, y0⟩ := ratlaw.open_rat (hval 0 23 v0 rfl rfl) h0
  obtain ⟨a1, b1, rfl, x1, y1⟩ := ratlaw.open_rat (hval 1 23 v1 rfl rfl) h1
  obtain ⟨a2, b2, rfl, x2, y2⟩ := ratlaw.open_rat (hval 2 23 v2 rfl rfl) h2
  refine (walk a0 b0 a1 b1 a2 b2 (law.wf_lo x0) (law.wf_hi x0) (law.wf_lo y0) (law.wf_hi y0) (law.wf_lo x1) (law.wf_hi x1) (law.wf_lo y1) (law.wf_hi y1) (law.wf_lo x2) (law.wf_hi x2) (law.wf_lo y2) (law.wf_hi y2) W).mono fun e W' ⟨he, hB⟩ => ?_
  subst he
  exact ⟨_, rfl, law.post_true law.laidOut (by kernel_rfl) rfl Try.underlying4 rfl hW' (fun h => by subst h; rfl) hB⟩

theorem proved : Rows.RatOrderSaid :=
  OpenClaim.holds_of_wide 6 Try.f6 rfl rfl rfl rfl rfl rfl rfl ⟨rfl, rfl, rfl, rfl, rfl⟩ rfl rfl rfl rfl rfl (by kernel_rfl) Try.func6 (by kernel_rfl)
    (of_decide_eq_true (by kernel_rfl)) (by unfold Func.isWrapper; first | (rw [if_pos (by decide +kernel)]; kernel_rfl) | (rw [if_neg (by decide +kernel)]; exact ⟨rfl, rfl⟩))
    (fun os started H enc _ => lifted os started H enc)
#print axioms proved
end Go.Proofs.Ytbmadhejdnkeeaa.ratOrder
