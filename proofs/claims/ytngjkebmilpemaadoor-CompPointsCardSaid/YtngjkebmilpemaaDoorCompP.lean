/-
  Points of zones one behind the other: a time between makes a pair of what is composed; a pair of what is composed has a time between, among the ends that bounds make, and the middles of these; each theorem names its conditions.
-/
import Derived.Test.YtngjkebmilpemaaDoorCompA
import Derived.Test.YtngjkebmilpemaaDoorRatC
namespace Go.Proofs.YtngjkebmilpemaaDoor.comp
open way num rat dbm Go.Proofs.YtngjkebmilpemaaDoor.tight Go.Proofs.YtngjkebmilpemaaDoor.tkept Go.Proofs.YtngjkebmilpemaaDoor.incl Go.Proofs.YtngjkebmilpemaaDoor.zone
open bound hiding up
open proj (sk sk_lt dropT dropT_length dropT_at cl_cod dropT_tops dropT_own drop_kept)
set_option linter.unusedVariables false
set_option linter.unusedSimpArgs false

theorem may_four {a b c d e f : Int} (h : MayR a b) (k : MayR c d) (l : MayR e f) : MayT [(0, 1), (a, b), (c, d), (e, f)] := fun i hi => by
  have hi : i < 4 := hi
  rcases (by omega : i = 0 ∨ i = 1 ∨ i = 2 ∨ i = 3) with rfl | rfl | rfl | rfl
  · exact zero_may
  · exact h
  · exact k
  · exact l
theorem kp_none {a b c d : Int} (h : MayR a b) (k : MayR c d) : kpV a b c d 9223372036854775807 = true := (kp_kB h k (.inl rfl)).2 (.inl rfl)
/-- three times, two of which each zone keeps, keep both zones' matrix. -/
theorem kept_both {a b : List Int} {ta tb sa sb ua ub : Int} (hT : MayR ta tb) (hS : MayR sa sb) (hU : MayR ua ub) (ha : keptAll 3 (fullT a) [(0, 1), (ta, tb), (sa, sb)]) (hb : keptAll 3 (fullT b) [(0, 1), (sa, sb), (ua, ub)]) : keptAll 4 (bothT a b) [(0, 1), (ta, tb), (sa, sb), (ua, ub)] := by
  have h0 : MayR 0 1 := zero_may
  have hl : ∀ p q r s x y, kpV p q r s x = true → kpV p q r s y = true → kpV p q r s (lsr x y) = true := fun p q r s x y h k => by rcases lsr_is x y with e | e <;> rw [e] <;> assumption
  intro i j hi hj
  rcases (by omega : i = 0 ∨ i = 1 ∨ i = 2 ∨ i = 3) with rfl | rfl | rfl | rfl <;> rcases (by omega : j = 0 ∨ j = 1 ∨ j = 2 ∨ j = 3) with rfl | rfl | rfl | rfl
  · exact kp_own h0
  · exact ha 0 1 (by decide) (by decide)
  · exact hl _ _ _ _ _ _ (ha 0 2 (by decide) (by decide)) (hb 0 1 (by decide) (by decide))
  · exact hb 0 2 (by decide) (by decide)
  · exact ha 1 0 (by decide) (by decide)
  · exact kp_own hT
  · exact ha 1 2 (by decide) (by decide)
  · exact kp_none hT hU
  · exact hl _ _ _ _ _ _ (ha 2 0 (by decide) (by decide)) (hb 1 0 (by decide) (by decide))
  · exact ha 2 1 (by decide) (by decide)
  · exact kp_own hS
  · exact hb 1 2 (by decide) (by decide)
  · exact hb 2 0 (by decide) (by decide)
  · exact kp_none hU hT
  · exact hb 2 1 (by decide) (by decide)
  · exact kp_own hU
/-- with a time between there is such a zone, and the pair is in it. -/
theorem there_in {a b : List Int} {ta tb sa sb ua ub : Int} (tA : Tops a) (tB : Tops b) (mA : MayD 3 (fullT a)) (mB : MayD 3 (fullT b)) (hT : MayR ta tb) (hS : MayR sa sb) (hU : MayR ua ub) (ha : keptAll 3 (fullT a) [(0, 1), (ta, tb), (sa, sb)]) (hb : keptAll 3 (fullT b) [(0, 1), (sa, sb), (ua, ub)]) :
    OkD 4 (bothT a b) ∧ (MayD 3 (fullT (compT a b)) → keptAll 3 (fullT (compT a b)) [(0, 1), (ta, tb), (ua, ub)]) := by
  have tt := both_tops tA tB
  have hm := both_may mA mB
  have hk := kept_both hT hS hU ha hb
  have hok : OkD 4 (bothT a b) := ⟨hm, by decide, fun k hk' => kept_closed (n := 4) (by decide) (by decide) rfl tt hm.2.2.2 (may_four hT hS hU) rfl hk k hk'⟩
  refine ⟨hok, fun hmd => ?_⟩
  rw [comp_full tA tB hok] at hmd ⊢
  exact drop_kept (n := 4) (k := 2) (by decide) (by decide) rfl tt hok hmd (may_four hT hS hU) rfl (may_three hT hU) rfl (fun i hi => by
    rcases (by omega : i = 0 ∨ i = 1 ∨ i = 2) with rfl | rfl | rfl <;> rfl) hk

/-! a pair of what is composed -/
/-- a kept bound, by whole numbers at one scale. -/
theorem kept_scale {a b c d x va vc K : Int} (hb : 0 < b) (hd : 0 < d) (hK : 0 < K) (ea : va * b = a * K) (ec : vc * d = c * K) : keptR a b c d x = true ↔ 2 * (va - vc) + 1 ≤ 2 * (K * (x / 2)) + x % 2 := by
  have e : (va - vc) * (b * d) = (a * d - c * b) * K := by
    rw [Int.sub_mul, Int.sub_mul]
    have h1 : va * (b * d) = a * d * K := by rw [← Int.mul_assoc, ea]; ac_rfl
    have h2 : vc * (b * d) = c * b * K := by rw [Int.mul_comm b d, ← Int.mul_assoc, ec]; ac_rfl
    rw [h1, h2]
  have k := (kept_diff (a := c) (b := d) (c := a) (d := b) (p := va - vc) (q := K) (x := x) hd hb hK e).1
  rw [k]
  have m : x / 2 * (K * 1) = K * (x / 2) := by rw [Int.mul_one, Int.mul_comm]
  by_cases s : bS x = true
  · rw [keptR_lt s, m]
    have : x % 2 = 0 := by unfold bS at s; simpa using s
    omega
  · rw [keptR_ge s, m]
    have : x % 2 = 1 := by unfold bS at s; simp at s; omega
    omega
theorem most4 (L : Nat → Int) : ∃ l, l < 4 ∧ ∀ k, k < 4 → L k ≤ L l := by
  have h : ∀ n, 0 < n → ∃ l, l < n ∧ ∀ k, k < n → L k ≤ L l := by
    intro n
    induction n with
    | zero => intro h; omega
    | succ n ih =>
      intro _
      by_cases hn : n = 0
      · subst hn; exact ⟨0, by omega, fun k hk => by obtain rfl : k = 0 := by omega
                                                     exact Int.le_refl _⟩
      · obtain ⟨l, hl, h⟩ := ih (by omega)
        by_cases c : L l ≤ L n
        · exact ⟨n, by omega, fun k hk => by
            by_cases e : k = n
            · subst e; exact Int.le_refl _
            · exact Int.le_trans (h k (by omega)) c⟩
        · exact ⟨l, by omega, fun k hk => by
            by_cases e : k = n
            · subst e; omega
            · exact h k (by omega)⟩
  exact h 4 (by decide)
/-- between four low ends and four high ones there is room at a middle of two. -/
theorem room4 {L H xb yb : Nat → Int} (hx : ∀ l, l < 4 → 0 ≤ xb l ∧ xb l ≤ 1) (hy : ∀ l, l < 4 → 0 ≤ yb l ∧ yb l ≤ 1) (pair : ∀ l h, l < 4 → h < 4 → 2 * (L l - H h) + 1 ≤ min (xb l) (yb h)) :
    ∃ l h, l < 4 ∧ h < 4 ∧ ∀ m, 2 * m = L l + H h → (∀ k, k < 4 → 2 * (L k - m) + 1 ≤ xb k) ∧ ∀ k, k < 4 → 2 * (m - H k) + 1 ≤ yb k := by
  obtain ⟨l, hl, h1⟩ := most4 L
  obtain ⟨h, hh, h2⟩ := most4 fun k => -(H k)
  refine ⟨l, h, hl, hh, fun m hm => ⟨fun k hk => ?_, fun k hk => ?_⟩⟩
  · have p1 := pair k h hk hh
    have p2 := pair l h hl hh
    have := h1 k hk
    have := hx k hk
    have := hx l hl
    have := hy h hh
    omega
  · have p1 := pair l k hl hk
    have p2 := pair l h hl hh
    have := h2 k hk
    have := hy k hk
    have := hx l hl
    have := hy h hh
    omega

/-- a fraction whose parts fit. -/
theorem low_fits {V D : Int} (d1 : 1 ≤ D) (d2 : D ≤ 1048576) (v1 : -(2305843009213693952 * D) ≤ V) (v2 : V ≤ 2305843009213693952 * D) (v3 : -4611686018427387904 ≤ V) (v4 : V ≤ 4611686018427387904) : lowOk V D := by
  obtain ⟨h1, h2, h3, h4⟩ := low_parts V D d1
  have g := gcd_pos V D d1
  obtain ⟨q1, q2⟩ := lowQ_in V D d1
  unfold lowOk MayR
  generalize lowP V D = P at *
  generalize lowQ V D = Q at *
  generalize gcdI V D = G at *
  have hP1 : P ≤ 2305843009213693952 * Q := by
    refine Decidable.byContradiction fun k => ?_
    have := Int.mul_lt_mul_of_pos_right (show 2305843009213693952 * Q < P by omega) (show 0 < G by omega)
    rw [Int.mul_assoc, h2, h1] at this
    omega
  have hP2 : -(2305843009213693952 * Q) ≤ P := by
    refine Decidable.byContradiction fun k => ?_
    have := Int.mul_lt_mul_of_pos_right (show P < -(2305843009213693952 * Q) by omega) (show 0 < G by omega)
    rw [Int.neg_mul, Int.mul_assoc, h2, h1] at this
    omega
  have hP3 : P ≤ 4611686018427387904 := by
    refine Decidable.byContradiction fun k => ?_
    have := Int.mul_le_mul_of_nonneg_left (show 1 ≤ G by omega) (show 0 ≤ P by omega)
    omega
  have hP4 : -4611686018427387904 ≤ P := by
    refine Decidable.byContradiction fun k => ?_
    have := Int.mul_le_mul_of_nonneg_left (show 1 ≤ G by omega) (show 0 ≤ -P by omega)
    simp only [Int.neg_mul] at this
    omega
  exact ⟨by omega, by omega, q1, by omega, hP2, hP1, h4⟩
/-- a time that is not far, and no fine one. -/
def Near7 (a b : Int) : Prop := MayR a b ∧ b ≤ 700 ∧ -1125899906842624 ≤ a ∧ a ≤ 1125899906842624
theorem zero_near : Near7 0 1 := ⟨zero_may, by decide, by decide, by decide⟩
/-- such a time, and a number more. -/
theorem end_near {a b c : Int} (h : Near7 a b) (c1 : -549755813888 ≤ c) (c2 : c ≤ 549755813888) : ofE c 1 = 0 ∧ partE 1 a b (ofN c 1) (ofD c 1) = 0 ∧ partN 1 a b (ofN c 1) (ofD c 1) = a + c * b ∧ partD 1 a b (ofN c 1) (ofD c 1) = b ∧ MayR (a + c * b) b ∧ -2251799813685248 ≤ a + c * b ∧ a + c * b ≤ 2251799813685248 := by
  obtain ⟨hm, h2, h3, h4⟩ := h
  have hc : MayR c 1 := ⟨by decide, by decide, by omega, by omega, by simp⟩
  obtain ⟨o1, o2, o3⟩ : ofN c 1 = c ∧ ofD c 1 = 1 ∧ ofE c 1 = 0 := by
    unfold ofN ofD ofE
    rw [if_neg (by decide), if_neg (by decide), if_neg (by decide)]
    exact low_is hc (by omega) (by omega) (by decide) rfl
  rw [o1, o2]
  have hb := hm.1
  have l1 : c * b ≤ 549755813888 * 700 := Int.le_trans (Int.mul_le_mul_of_nonneg_right c2 (by omega)) (Int.mul_le_mul_of_nonneg_left h2 (by decide))
  have l2 : -(549755813888 * 700) ≤ c * b := by
    have := Int.le_trans (Int.mul_le_mul_of_nonneg_right (show -c ≤ 549755813888 by omega) (show 0 ≤ b by omega)) (Int.mul_le_mul_of_nonneg_left h2 (by decide))
    rw [Int.neg_mul] at this
    omega
  have hg : Int.gcd (a + c * b) b = 1 := by
    rw [← hm.2.2.2.2]
    exact Int.gcd_add_mul_right_left b a c
  have hM : MayR (a + c * b) b := ⟨hb, by omega, by omega, by omega, hg⟩
  have hB : Both a b c 1 := ⟨hm, hc⟩
  have hl := low_is (p := a + c * b) (q := b) (V := a * 1 + c * b) (D := b * 1 * 1) hM (by omega) (by omega) (by omega) (by simp)
  refine ⟨o3, ?_, ?_, ?_, hM, by omega, by omega⟩
  · unfold partE; rw [if_pos hB]; exact hl.2.2
  · unfold partN; rw [if_pos hB]; exact hl.1
  · unfold partD; rw [if_pos hB]; exact hl.2.1
/-- the middle of two such ends, at a scale. -/
theorem mid_near {a b c d K va vc m : Int} (hK : 0 < K) (hA : MayR a b) (hC : MayR c d) (b2 : b ≤ 700) (d2 : d ≤ 700) (a1 : -2251799813685248 ≤ a) (a2 : a ≤ 2251799813685248) (c1 : -2251799813685248 ≤ c) (c2 : c ≤ 2251799813685248) (ea : va * b = a * K) (ec : vc * d = c * K) (hm : 2 * m = va + vc) :
    partE 2 a b c d = 0 ∧ MayR (partN 2 a b c d) (partD 2 a b c d) ∧ m * partD 2 a b c d = partN 2 a b c d * K := by
  have hB : Both a b c d := ⟨hA, hC⟩
  have b1 := hA.1
  have d1 := hC.1
  have k1 : 1 ≤ b * d := by have := Int.mul_le_mul_of_nonneg_right b1 (show 0 ≤ d by omega); omega
  have k2 : b * d ≤ 490000 := Int.le_trans (Int.mul_le_mul_of_nonneg_right b2 (by omega)) (Int.mul_le_mul_of_nonneg_left d2 (by decide))
  have m1 : ∀ x y : Int, -2251799813685248 ≤ x → x ≤ 2251799813685248 → 1 ≤ y → y ≤ 700 → -(2251799813685248 * 700) ≤ x * y ∧ x * y ≤ 2251799813685248 * 700 := fun x y x1 x2 y1 y2 => by
    have q1 := Int.le_trans (Int.mul_le_mul_of_nonneg_right x2 (show 0 ≤ y by omega)) (Int.mul_le_mul_of_nonneg_left y2 (by decide))
    have q2 := Int.le_trans (Int.mul_le_mul_of_nonneg_right (show -x ≤ 2251799813685248 by omega) (show 0 ≤ y by omega)) (Int.mul_le_mul_of_nonneg_left y2 (by decide))
    rw [Int.neg_mul] at q2
    omega
  have n1 := m1 a d a1 a2 d1 d2
  have n2 := m1 c b c1 c2 b1 b2
  have hk : lowOk (a * d + c * b) (b * d * 2) := low_fits (by omega) (by omega) (by omega) (by omega) (by omega) (by omega)
  obtain ⟨y1, y2, y3⟩ := low_yes hk
  have hlo := low_ok (V := a * d + c * b) (D := b * d * 2) (by omega) y3
  have eN : partN 2 a b c d = lowN (a * d + c * b) (b * d * 2) := if_pos hB
  have eD : partD 2 a b c d = lowD (a * d + c * b) (b * d * 2) := if_pos hB
  have eE : partE 2 a b c d = lowE (a * d + c * b) (b * d * 2) := if_pos hB
  rw [eN, eD, eE]
  refine ⟨y3, hlo.1, ?_⟩
  have hx := hlo.2.1
  generalize lowN (a * d + c * b) (b * d * 2) = P at *
  generalize lowD (a * d + c * b) (b * d * 2) = Q at *
  have e1 : m * (b * d * 2) = (a * d + c * b) * K := by
    have e2 : m * (b * d * 2) = (2 * m) * (b * d) := by rw [← Int.mul_assoc, Int.mul_comm (m * (b * d)) 2, ← Int.mul_assoc]
    rw [e2, hm, Int.add_mul, Int.add_mul]
    have h1 : va * (b * d) = a * d * K := by rw [← Int.mul_assoc, ea]; ac_rfl
    have h2 : vc * (b * d) = c * b * K := by rw [Int.mul_comm b d, ← Int.mul_assoc, ec]; ac_rfl
    rw [h1, h2]
  have hD0 : b * d * 2 ≠ 0 := by omega
  refine Int.eq_of_mul_eq_mul_right hD0 ?_
  have e3 : m * Q * (b * d * 2) = m * (b * d * 2) * Q := by ac_rfl
  have e4 : P * K * (b * d * 2) = P * (b * d * 2) * K := by ac_rfl
  rw [e3, e4, e1, hx]
  ac_rfl

/-- has a zone small numbers alone? -/
def Small (a : List Int) : Prop := ∀ i, i < 6 → -1099511627776 ≤ a[i]?.getD 0 ∧ a[i]?.getD 0 ≤ 1099511627776
theorem kp_of {Q : Nat → Int × Int} {i j : Nat} {x : Int} (h : MayR (Q i).1 (Q i).2) (k : MayR (Q j).1 (Q j).2) (hx : Fine x) (hk : kB Q i j (cod x)) : kpV (Q i).1 (Q i).2 (Q j).1 (Q j).2 x = true := by
  rw [kp_kB h k hx]
  unfold cod at hk
  by_cases e : x = 9223372036854775807
  · exact .inl e
  · rw [if_neg e] at hk; exact .inr hk
theorem six_of {P : Int → Prop} {z : List Int} (h : ∀ i j, i < 3 → j < 3 → P (tat (fullT z) 3 i j)) : ∀ i, i < 6 → P (z[i]?.getD 0) := fun i hi => by
  rcases (by omega : i = 0 ∨ i = 1 ∨ i = 2 ∨ i = 3 ∨ i = 4 ∨ i = 5) with rfl | rfl | rfl | rfl | rfl | rfl
  · exact h 1 0 (by decide) (by decide)
  · exact h 0 1 (by decide) (by decide)
  · exact h 2 0 (by decide) (by decide)
  · exact h 0 2 (by decide) (by decide)
  · exact h 2 1 (by decide) (by decide)
  · exact h 1 2 (by decide) (by decide)
/-- what composes of small numbers may be. -/
theorem small_may {a b : List Int} (tA : Tops a) (tB : Tops b) (mA : MayD 3 (fullT a)) (mB : MayD 3 (fullT b)) (sA : Small a) (sB : Small b) (hok : OkD 4 (bothT a b)) : MayD 3 (fullT (compT a b)) := by
  have tt := both_tops tA tB
  have g : way.Good (beg 4 (bothT a b)) 4 := (okD_good (n := 4) (by decide) (by decide) rfl tt hok.1).1 hok
  have hall := both_all (P := fun x => x = 9223372036854775807 ∨ (-549755813888 ≤ x / 2 ∧ x / 2 ≤ 549755813888)) (a := a) (b := b) (fun i hi => .inr (by have := sA i hi; omega)) (fun i hi => .inr (by have := sB i hi; omega)) (.inr (by decide)) (.inl rfl)
  have wi : ∀ x : Int, (x = 9223372036854775807 ∨ (-549755813888 ≤ x / 2 ∧ x / 2 ≤ 549755813888)) → Wi 549755813888 1 (cod x) := fun x h => by
    unfold cod
    split
    · trivial
    · rcases h with h | h
      · contradiction
      · exact ⟨by omega, by omega⟩
  have hd : ∀ i j, Wi 549755813888 1 (beg 4 (bothT a b) i j) := fun i j => by
    by_cases hi : i < 4
    · by_cases hj : j < 4
      · unfold beg
        rw [wts_in hi hj, beg_at (n := 4) rfl (by decide) hi hj]
        have hx := hall (i * 4 + j) (by omega)
        split
        · refine wi _ ?_
          rcases lsr_is (tat (bothT a b) 4 i i) 1 with e | e
          · rw [e]; exact hall (i * 4 + i) (by omega)
          · rw [e]; exact .inr (by decide)
        · exact wi _ hx
      · rw [show beg 4 (bothT a b) i j = none from wts_out2 hj]; trivial
    · rw [show beg 4 (bothT a b) i j = none from wts_out hi]; trivial
  have fin : ∀ i j, i < 3 → j < 3 → Fine (tat (fullT (compT a b)) 3 i j) := fun i j hi hj => by
    have e := comp_at tA tB hok hi hj
    have w := F_within (M := 549755813888) (by decide) hd g (sk 2 i) (sk 2 j)
    rw [← e] at w
    unfold zw cod at w
    split at w
    · rename_i h; exact .inl h
    · have h1 := w.1
      have h2 := w.2
      have hc : (((4 : Nat) : Int) + 1) = 5 := rfl
      rw [hc] at h1 h2
      exact .inr ⟨by omega, by omega⟩
  exact full_may (six_of fin)

/-- the times that ends are reckoned from, the bounds, and which way. -/
def frm (ta tb ua ub : Int) (i : Nat) : Int × Int := [(0, 1), (0, 1), (ta, tb), (ta, tb), (0, 1), (0, 1), (ua, ub), (ua, ub)][i]?.getD (0, 0)
def byb (a b : List Int) (i : Nat) : Int := [a[2]?.getD 0, a[3]?.getD 0, a[4]?.getD 0, a[5]?.getD 0, b[0]?.getD 0, b[1]?.getD 0, b[4]?.getD 0, b[5]?.getD 0][i]?.getD 0
def sgn (i : Nat) : Int := [1, -1, 1, -1, 1, -1, -1, 1][i]?.getD 0
/-- an end. -/
def endF (a b : List Int) (ta tb ua ub : Int) (i : Nat) : Int × Int := ((frm ta tb ua ub i).1 + sgn i * (byb a b i / 2) * (frm ta tb ua ub i).2, (frm ta tb ua ub i).2)
/-- is a middle a time between? -/
def FitsR (a b : List Int) (ta tb ua ub : Int) (e f : Int × Int) : Prop := partE 2 e.1 e.2 f.1 f.2 = 0 ∧ MayR (partN 2 e.1 e.2 f.1 f.2) (partD 2 e.1 e.2 f.1 f.2) ∧
  keptAll 3 (fullT a) [(0, 1), (ta, tb), (partN 2 e.1 e.2 f.1 f.2, partD 2 e.1 e.2 f.1 f.2)] ∧ keptAll 3 (fullT b) [(0, 1), (partN 2 e.1 e.2 f.1 f.2, partD 2 e.1 e.2 f.1 f.2), (ua, ub)]
def pcl (l : Nat) : Nat := [0, 1, 0, 2][l]?.getD 0
def xlo (a b : List Int) (l : Nat) : Int := [a[3]?.getD 0, a[5]?.getD 0, b[1]?.getD 0, b[4]?.getD 0][l]?.getD 0
def yhi (a b : List Int) (l : Nat) : Int := [a[2]?.getD 0, a[4]?.getD 0, b[0]?.getD 0, b[5]?.getD 0][l]?.getD 0
def clo (l : Nat) : Nat := [1, 3, 5, 6][l]?.getD 0
def chi (l : Nat) : Nat := [0, 2, 4, 7][l]?.getD 0
def qtm (ta tb ua ub : Int) (i : Nat) : Int × Int := if i = 0 then (0, 1) else if i = 1 then (ta, tb) else (ua, ub)

section
variable {a b : List Int} {ta tb ua ub : Int} (tA : Tops a) (tB : Tops b) (mA : MayD 3 (fullT a)) (mB : MayD 3 (fullT b)) (hT : MayR ta tb) (hU : MayR ua ub) (hok : OkD 4 (bothT a b)) (hmd : MayD 3 (fullT (compT a b))) (hk : keptAll 3 (fullT (compT a b)) [(0, 1), (ta, tb), (ua, ub)])
include tA tB hT hU hok hmd hk
theorem in_kB (i j : Nat) (hi : i < 3) (hj : j < 3) : kB (qtm ta tb ua ub) i j (F (beg 4 (bothT a b)) 4 (sk 2 i) (sk 2 j)) := by
  have hf : Fine (tat (fullT (compT a b)) 3 i j) := hmd.2.2.2 _ (show i * 3 + j < 9 by omega)
  have k := (kp_iff (n := 3) (may_three hT hU) rfl hi hj hf).1 (hk i j hi hj)
  rw [show cod (tat (fullT (compT a b)) 3 i j) = F (beg 4 (bothT a b)) 4 (sk 2 i) (sk 2 j) from comp_at tA tB hok hi hj] at k
  have e : ∀ i, i < 3 → qtm ta tb ua ub i = tms 3 [(0, 1), (ta, tb), (ua, ub)] i := fun i hi => by
    rcases (by omega : i = 0 ∨ i = 1 ∨ i = 2) with rfl | rfl | rfl <;> rfl
  exact proj.kB_like (e i hi) (e j hj) k
include mA mB
/-- each of both keeps its own time. -/
theorem in_own : (kpV ta tb 0 1 (a[0]?.getD 0) = true ∧ kpV 0 1 ta tb (a[1]?.getD 0) = true) ∧ kpV ua ub 0 1 (b[2]?.getD 0) = true ∧ kpV 0 1 ua ub (b[3]?.getD 0) = true := by
  obtain ⟨l1, l2, l3⟩ := comp_down tA tB hok
  have K := in_kB tA tB hT hU hok hmd hk
  have hq : ∀ i, 0 < (qtm ta tb ua ub i).2 := fun i => by
    unfold qtm
    repeat' split
    · decide
    · exact hT.1
    · exact hU.1
  have fa := six_fine mA
  have fb := six_fine mB
  refine ⟨⟨?_, ?_⟩, ?_, ?_⟩
  · exact kp_of (Q := qtm ta tb ua ub) (i := 1) (j := 0) hT zero_may (fa 0 (by decide)) (kB_up hq (K 1 0 (by decide) (by decide)) (l2 1 0 (by decide) (by decide)))
  · exact kp_of (Q := qtm ta tb ua ub) (i := 0) (j := 1) zero_may hT (fa 1 (by decide)) (kB_up hq (K 0 1 (by decide) (by decide)) (l2 0 1 (by decide) (by decide)))
  · exact kp_of (Q := qtm ta tb ua ub) (i := 2) (j := 0) hU zero_may (fb 2 (by decide)) (kB_up hq (K 2 0 (by decide) (by decide)) (l3 2 0 (by decide) (by decide)))
  · exact kp_of (Q := qtm ta tb ua ub) (i := 0) (j := 2) zero_may hU (fb 3 (by decide)) (kB_up hq (K 0 2 (by decide) (by decide)) (l3 0 2 (by decide) (by decide)))
theorem in_near (sA : Small a) (sB : Small b) (dT : tb ≤ 700) (dU : ub ≤ 700) : Near7 ta tb ∧ Near7 ua ub := by
  obtain ⟨⟨k1, k2⟩, k3, k4⟩ := in_own tA tB mA mB hT hU hok hmd hk
  have fa := six_fine mA
  have fb := six_fine mB
  have key : ∀ p q x y, MayR p q → q ≤ 700 → Fine x → Fine y → kpV p q 0 1 x = true → kpV 0 1 p q y = true → x ≤ 1099511627776 → y ≤ 1099511627776 → Near7 p q := fun p q x y hm hq fx fy h1 h2 hx hy => by
    have hp := hm.1
    have m : ∀ z : Int, z ≤ 1099511627776 → z / 2 * q ≤ 549755813888 * 700 := fun z hz => Int.le_trans (Int.mul_le_mul_of_nonneg_right (show z / 2 ≤ 549755813888 by omega) (by omega)) (Int.mul_le_mul_of_nonneg_left hq (by decide))
    rcases (kp_kB hm zero_may fx).1 h1 with e | h1
    · omega
    rcases (kp_kB zero_may hm fy).1 h2 with e | h2
    · omega
    have g1 := keptR_le h1
    have g2 := keptR_le h2
    have m1 := m x hx
    have m2 := m y hy
    rw [show x / 2 * (q * 1) = x / 2 * q by rw [Int.mul_one]] at g1
    rw [show y / 2 * (1 * q) = y / 2 * q by rw [Int.one_mul]] at g2
    exact ⟨hm, hq, by omega, by omega⟩
  exact ⟨key _ _ _ _ hT dT (fa 0 (by decide)) (fa 1 (by decide)) k1 k2 (sA 0 (by decide)).2 (sA 1 (by decide)).2, key _ _ _ _ hU dU (fb 2 (by decide)) (fb 3 (by decide)) k3 k4 (sB 2 (by decide)).2 (sB 3 (by decide)).2⟩
/-- a pair of what is composed has a time between among the middles of ends. -/
theorem in_there (sA : Small a) (sB : Small b) (dT : tb ≤ 700) (dU : ub ≤ 700) : ∃ i k, k ≤ i ∧ i < 8 ∧ FitsR a b ta tb ua ub (endF a b ta tb ua ub i) (endF a b ta tb ua ub k) := by
  obtain ⟨nT, nU⟩ := in_near tA tB mA mB hT hU hok hmd hk sA sB dT dU
  obtain ⟨⟨k1, k2⟩, k3, k4⟩ := in_own tA tB mA mB hT hU hok hmd hk
  obtain ⟨l1, l2, l3⟩ := comp_down tA tB hok
  have hK := in_kB tA tB hT hU hok hmd hk
  have fa := six_fine mA
  have fb := six_fine mB
  generalize F (beg 4 (bothT a b)) 4 = D at l1 l2 l3 hK
  have hq : ∀ i, 0 < (qtm ta tb ua ub i).2 := fun i => by
    unfold qtm
    repeat' split
    · decide
    · exact hT.1
    · exact hU.1
  have hlow : ∀ l, l < 4 → le (D (sk 2 (pcl l)) 2) (cod (xlo a b l)) := fun l hl => by
    rcases (by omega : l = 0 ∨ l = 1 ∨ l = 2 ∨ l = 3) with rfl | rfl | rfl | rfl
    · exact l2 0 2 (by decide) (by decide)
    · exact l2 1 2 (by decide) (by decide)
    · exact l3 0 1 (by decide) (by decide)
    · exact l3 2 1 (by decide) (by decide)
  have hhigh : ∀ l, l < 4 → le (D 2 (sk 2 (pcl l))) (cod (yhi a b l)) := fun l hl => by
    rcases (by omega : l = 0 ∨ l = 1 ∨ l = 2 ∨ l = 3) with rfl | rfl | rfl | rfl
    · exact l2 2 0 (by decide) (by decide)
    · exact l2 2 1 (by decide) (by decide)
    · exact l3 1 0 (by decide) (by decide)
    · exact l3 1 2 (by decide) (by decide)
  have hxs : ∀ l, l < 4 → -1099511627776 ≤ xlo a b l ∧ xlo a b l ≤ 1099511627776 := fun l hl => by
    rcases (by omega : l = 0 ∨ l = 1 ∨ l = 2 ∨ l = 3) with rfl | rfl | rfl | rfl
    · exact sA 3 (by decide)
    · exact sA 5 (by decide)
    · exact sB 1 (by decide)
    · exact sB 4 (by decide)
  have hys : ∀ l, l < 4 → -1099511627776 ≤ yhi a b l ∧ yhi a b l ≤ 1099511627776 := fun l hl => by
    rcases (by omega : l = 0 ∨ l = 1 ∨ l = 2 ∨ l = 3) with rfl | rfl | rfl | rfl
    · exact sA 2 (by decide)
    · exact sA 4 (by decide)
    · exact sB 0 (by decide)
    · exact sB 5 (by decide)
  have hpc : ∀ l, l < 4 → pcl l < 3 ∧ sk 2 (pcl l) < 4 := fun l hl => by
    rcases (by omega : l = 0 ∨ l = 1 ∨ l = 2 ∨ l = 3) with rfl | rfl | rfl | rfl <;> decide
  -- at one scale
  have hK0 : 0 < tb * ub := Int.mul_pos hT.1 hU.1
  have hK2 : 0 < 2 * (tb * ub) := by omega
  have V : ∃ v : Nat → Int, ∀ i, i < 3 → 2 * v i * (qtm ta tb ua ub i).2 = (qtm ta tb ua ub i).1 * (2 * (tb * ub)) := ⟨fun i => if i = 0 then 0 else if i = 1 then ta * ub else ua * tb, fun i hi => by
    rcases (by omega : i = 0 ∨ i = 1 ∨ i = 2) with rfl | rfl | rfl
    · show 2 * 0 * 1 = 0 * (2 * (tb * ub)); simp
    · show 2 * (ta * ub) * tb = ta * (2 * (tb * ub)); ac_rfl
    · show 2 * (ua * tb) * ub = ua * (2 * (tb * ub)); ac_rfl⟩
  obtain ⟨v, hv⟩ := V
  generalize hKK : tb * ub = K at hK0 hK2 hv
  have pair : ∀ l h, l < 4 → h < 4 → 2 * ((2 * v (pcl l) - 2 * (K * (xlo a b l / 2))) - (2 * v (pcl h) + 2 * (K * (yhi a b h / 2)))) + 1 ≤ min (xlo a b l % 2) (yhi a b h % 2) := fun l h hl hh => by
    have p := kB_up hq (hK (pcl l) (pcl h) (hpc l hl).1 (hpc h hh).1) (le_trans (l1.1 _ _ 2 (hpc l hl).2 (hpc h hh).2 (by decide)) (ad_mono (hlow l hl) (hhigh h hh)))
    have hx := hxs l hl
    have hy := hys h hh
    rw [cod_some (by omega), cod_some (by omega), ad_some] at p
    have q := (kept_scale (hq _) (hq _) hK2 (hv _ (hpc l hl).1) (hv _ (hpc h hh).1)).1 p
    have e1 : (2 * (xlo a b l / 2 + yhi a b h / 2) + min (xlo a b l % 2) (yhi a b h % 2)) / 2 = xlo a b l / 2 + yhi a b h / 2 := by omega
    have e2 : (2 * (xlo a b l / 2 + yhi a b h / 2) + min (xlo a b l % 2) (yhi a b h % 2)) % 2 = min (xlo a b l % 2) (yhi a b h % 2) := by omega
    rw [e1, e2, Int.mul_assoc, Int.mul_add] at q
    omega
  obtain ⟨l, h, hl, hh, hm⟩ := room4 (L := fun l => 2 * v (pcl l) - 2 * (K * (xlo a b l / 2))) (H := fun h => 2 * v (pcl h) + 2 * (K * (yhi a b h / 2))) (xb := fun l => xlo a b l % 2) (yb := fun h => yhi a b h % 2) (fun l _ => by constructor <;> omega) (fun l _ => by constructor <;> omega) pair
  obtain ⟨ML, MH⟩ := hm (v (pcl l) - K * (xlo a b l / 2) + (v (pcl h) + K * (yhi a b h / 2))) (by omega)
  generalize hmm : v (pcl l) - K * (xlo a b l / 2) + (v (pcl h) + K * (yhi a b h / 2)) = m at ML MH
  -- the ends
  have eL : endF a b ta tb ua ub (clo l) = ((qtm ta tb ua ub (pcl l)).1 + -1 * (xlo a b l / 2) * (qtm ta tb ua ub (pcl l)).2, (qtm ta tb ua ub (pcl l)).2) := by
    rcases (by omega : l = 0 ∨ l = 1 ∨ l = 2 ∨ l = 3) with rfl | rfl | rfl | rfl <;> rfl
  have eH : endF a b ta tb ua ub (chi h) = ((qtm ta tb ua ub (pcl h)).1 + 1 * (yhi a b h / 2) * (qtm ta tb ua ub (pcl h)).2, (qtm ta tb ua ub (pcl h)).2) := by
    rcases (by omega : h = 0 ∨ h = 1 ∨ h = 2 ∨ h = 3) with rfl | rfl | rfl | rfl <;> rfl
  have near : ∀ i, i < 3 → Near7 (qtm ta tb ua ub i).1 (qtm ta tb ua ub i).2 := fun i hi => by
    rcases (by omega : i = 0 ∨ i = 1 ∨ i = 2) with rfl | rfl | rfl
    · exact zero_near
    · exact nT
    · exact nU
  have NL := end_near (c := -1 * (xlo a b l / 2)) (near _ (hpc l hl).1) (by have := hxs l hl; omega) (by have := hxs l hl; omega)
  have NH := end_near (c := 1 * (yhi a b h / 2)) (near _ (hpc h hh).1) (by have := hys h hh; omega) (by have := hys h hh; omega)
  have vL : (2 * v (pcl l) - 2 * (K * (xlo a b l / 2))) * (qtm ta tb ua ub (pcl l)).2 = ((qtm ta tb ua ub (pcl l)).1 + -1 * (xlo a b l / 2) * (qtm ta tb ua ub (pcl l)).2) * (2 * K) := by
    rw [Int.sub_mul, hv _ (hpc l hl).1, Int.add_mul, Int.neg_mul, Int.one_mul, Int.neg_mul, Int.neg_mul, Int.sub_eq_add_neg]
    congr 2
    ac_rfl
  have vH : (2 * v (pcl h) + 2 * (K * (yhi a b h / 2))) * (qtm ta tb ua ub (pcl h)).2 = ((qtm ta tb ua ub (pcl h)).1 + 1 * (yhi a b h / 2) * (qtm ta tb ua ub (pcl h)).2) * (2 * K) := by
    rw [Int.add_mul, hv _ (hpc h hh).1, Int.add_mul, Int.one_mul]
    congr 1
    ac_rfl
  have fin : ∀ P Q : Int, MayR P Q → m * Q = P * (2 * K) → keptAll 3 (fullT a) [(0, 1), (ta, tb), (P, Q)] ∧ keptAll 3 (fullT b) [(0, 1), (P, Q), (ua, ub)] := fun P Q hM he => by
    have up : ∀ i x, i < 3 → Fine x → MayR (qtm ta tb ua ub i).1 (qtm ta tb ua ub i).2 → 2 * ((2 * v i - 2 * (K * (x / 2))) - m) + 1 ≤ x % 2 → kpV (qtm ta tb ua ub i).1 (qtm ta tb ua ub i).2 P Q x = true := fun i x hi fx hmi hx => by
      refine (kp_kB hmi hM fx).2 (.inr ((kept_scale (hq i) hM.1 hK2 (hv i hi) he).2 ?_))
      rw [Int.mul_assoc]
      omega
    have dn : ∀ i x, i < 3 → Fine x → MayR (qtm ta tb ua ub i).1 (qtm ta tb ua ub i).2 → 2 * (m - (2 * v i + 2 * (K * (x / 2)))) + 1 ≤ x % 2 → kpV P Q (qtm ta tb ua ub i).1 (qtm ta tb ua ub i).2 x = true := fun i x hi fx hmi hx => by
      refine (kp_kB hM hmi fx).2 (.inr ((kept_scale hM.1 (hq i) hK2 he (hv i hi)).2 ?_))
      rw [Int.mul_assoc]
      omega
    refine ⟨(kept_six hT hM).2 ⟨k1, k2, ?_, ?_, ?_, ?_⟩, (kept_six hM hU).2 ⟨?_, ?_, k3, k4, ?_, ?_⟩⟩
    · exact dn 0 _ (by decide) (fa 2 (by decide)) zero_may (MH 0 (by decide))
    · exact up 0 _ (by decide) (fa 3 (by decide)) zero_may (ML 0 (by decide))
    · exact dn 1 _ (by decide) (fa 4 (by decide)) hT (MH 1 (by decide))
    · exact up 1 _ (by decide) (fa 5 (by decide)) hT (ML 1 (by decide))
    · exact dn 0 _ (by decide) (fb 0 (by decide)) zero_may (MH 2 (by decide))
    · exact up 0 _ (by decide) (fb 1 (by decide)) zero_may (ML 2 (by decide))
    · exact up 2 _ (by decide) (fb 4 (by decide)) hU (ML 3 (by decide))
    · exact dn 2 _ (by decide) (fb 5 (by decide)) hU (MH 3 (by decide))
  have hcl : clo l < 8 := by rcases (by omega : l = 0 ∨ l = 1 ∨ l = 2 ∨ l = 3) with rfl | rfl | rfl | rfl <;> decide
  have hch : chi h < 8 := by rcases (by omega : h = 0 ∨ h = 1 ∨ h = 2 ∨ h = 3) with rfl | rfl | rfl | rfl <;> decide
  by_cases hlt : chi h ≤ clo l
  · refine ⟨clo l, chi h, hlt, hcl, ?_⟩
    rw [eL, eH]
    obtain ⟨x1, x2, x3⟩ := mid_near hK2 NL.2.2.2.2.1 NH.2.2.2.2.1 (near _ (hpc l hl).1).2.1 (near _ (hpc h hh).1).2.1 NL.2.2.2.2.2.1 NL.2.2.2.2.2.2 NH.2.2.2.2.2.1 NH.2.2.2.2.2.2 vL vH (m := m) (by omega)
    exact ⟨x1, x2, fin _ _ x2 x3⟩
  · refine ⟨chi h, clo l, by omega, hch, ?_⟩
    rw [eL, eH]
    obtain ⟨x1, x2, x3⟩ := mid_near hK2 NH.2.2.2.2.1 NL.2.2.2.2.1 (near _ (hpc h hh).1).2.1 (near _ (hpc l hl).1).2.1 NH.2.2.2.2.2.1 NH.2.2.2.2.2.2 NL.2.2.2.2.2.1 NL.2.2.2.2.2.2 vH vL (m := m) (by omega)
    exact ⟨x1, x2, fin _ _ x2 x3⟩
end
end Go.Proofs.YtngjkebmilpemaaDoor.comp
