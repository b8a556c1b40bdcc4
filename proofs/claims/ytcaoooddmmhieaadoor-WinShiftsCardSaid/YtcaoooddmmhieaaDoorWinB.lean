/-
  Zones so much later: weights turned by a potential; what is closed stays closed; as much sooner is the zone; points; each theorem names its conditions.
-/
import Derived.Test.YtcaoooddmmhieaaDoorCompA
namespace Go.Proofs.YtcaoooddmmhieaaDoor.way
set_option linter.unusedVariables false

/-- a weight with so much more. -/
def sh : B → Int → B
  | none, _ => none
  | some a, k => some (a + 2 * k)
theorem sh_zero (x : B) : sh x 0 = x := by
  cases x with
  | none => rfl
  | some a => exact congrArg some (by omega)
theorem ad_sh (x y : B) (k l : Int) : ad (sh x k) (sh y l) = sh (ad x y) (k + l) := by
  cases x with
  | none => simp only [sh, none_ad]
  | some a => cases y with
    | none => simp only [sh, ad_none]
    | some b =>
      simp only [sh, ad_some]
      have e1 : (a + 2 * k) / 2 = a / 2 + k := by omega
      have e2 : (b + 2 * l) / 2 = b / 2 + l := by omega
      have e3 : (a + 2 * k) % 2 = a % 2 := by omega
      have e4 : (b + 2 * l) % 2 = b % 2 := by omega
      rw [e1, e2, e3, e4]
      generalize min (a % 2) (b % 2) = m
      exact congrArg some (by omega)
theorem le_sh {x y : B} {k : Int} (h : le x y) : le (sh x k) (sh y k) := by
  cases y with
  | none => exact le_none _
  | some b => cases x with
    | none => exact h.elim
    | some a => exact Int.add_le_add_right h _
end Go.Proofs.YtcaoooddmmhieaaDoor.way

namespace Go.Proofs.YtcaoooddmmhieaaDoor.win
open way num rat dbm Go.Proofs.YtcaoooddmmhieaaDoor.tight Go.Proofs.YtcaoooddmmhieaaDoor.tkept Go.Proofs.YtcaoooddmmhieaaDoor.incl Go.Proofs.YtcaoooddmmhieaaDoor.zone Go.Proofs.YtcaoooddmmhieaaDoor.comp
open bound hiding up
set_option linter.unusedVariables false
set_option linter.unusedSimpArgs false
set_option linter.unusedSectionVars false

/-- a bound with so much more: none stays none. -/
def shB (b k : Int) : Int := if b = 9223372036854775807 then b else b + 2 * k
/-- a zone, so much later. -/
def laterT (z : List Int) (k : Int) : List Int := [shB (z[0]?.getD 0) k, shB (z[1]?.getD 0) (-k), shB (z[2]?.getD 0) k, shB (z[3]?.getD 0) (-k), z[4]?.getD 0, z[5]?.getD 0]
theorem later_length (z : List Int) (k : Int) : (laterT z k).length = 6 := rfl
theorem shB_zero (b : Int) : shB b 0 = b := by unfold shB; split <;> omega
theorem shB_back {b k : Int} (h : Fine b) (hk : In k) : shB (shB b k) (-k) = b := by
  unfold shB
  unfold Fine at h
  unfold In at hk
  by_cases e : b = 9223372036854775807
  · rw [if_pos e, if_pos e]
  · rw [if_neg e, if_neg (by omega)]; omega
theorem shB_top {b k : Int} (h : Fine b) (hk : In k) : shB b k ≤ 9223372036854775807 := by
  unfold shB
  unfold Fine at h
  unfold In at hk
  split <;> omega
theorem cod_shB {b k : Int} (h : Fine b) (hk : In k) : cod (shB b k) = sh (cod b) k := by
  unfold shB
  unfold Fine at h
  unfold In at hk
  by_cases e : b = 9223372036854775807
  · rw [if_pos e, e, cod_none]; rfl
  · rw [if_neg e, cod_some e, cod_some (by omega)]; rfl
theorem in_neg {k : Int} (h : In k) : In (-k) := ⟨by unfold In at h; omega, by unfold In at h; omega⟩
/-- a time's place: 0 has none. -/
def pt (i : Nat) : Int := if i = 0 then 0 else 1
theorem later_zw {z : List Int} {k : Int} (h : MayD 3 (fullT z)) (hk : In k) : ∀ i j, i < 3 → j < 3 → zw (laterT z k) i j = sh (zw z i j) (k * (pt i - pt j)) := fun i j hi hj => by
  have f := six_fine h
  have p : k * (pt 1 - pt 0) = k := by show k * (1 - 0) = k; omega
  have q : k * (pt 0 - pt 1) = -k := by show k * (0 - 1) = -k; omega
  have o : ∀ i, k * (pt i - pt i) = 0 := fun i => by rw [Int.sub_self, Int.mul_zero]
  rcases (by omega : i = 0 ∨ i = 1 ∨ i = 2) with rfl | rfl | rfl <;> rcases (by omega : j = 0 ∨ j = 1 ∨ j = 2) with rfl | rfl | rfl
  · rw [o, sh_zero]; rfl
  · rw [q]; exact cod_shB (f 1 (by decide)) (in_neg hk)
  · rw [show pt 2 = pt 1 from rfl, q]; exact cod_shB (f 3 (by decide)) (in_neg hk)
  · rw [p]; exact cod_shB (f 0 (by decide)) hk
  · rw [o, sh_zero]; rfl
  · rw [show pt 2 = pt 1 from rfl, o, sh_zero]; rfl
  · rw [show pt 2 = pt 1 from rfl, p]; exact cod_shB (f 2 (by decide)) hk
  · rw [show pt 2 = pt 1 from rfl, o, sh_zero]; rfl
  · rw [o, sh_zero]; rfl
theorem later_tops {z : List Int} {k : Int} (h : MayD 3 (fullT z)) (hk : In k) : Tops (laterT z k) := tops_at fun p hp => by
  have f := six_fine h
  have hp : p < 6 := hp
  rcases (by omega : p = 0 ∨ p = 1 ∨ p = 2 ∨ p = 3 ∨ p = 4 ∨ p = 5) with rfl | rfl | rfl | rfl | rfl | rfl
  · exact shB_top (f 0 (by decide)) hk
  · exact shB_top (f 1 (by decide)) (in_neg hk)
  · exact shB_top (f 2 (by decide)) hk
  · exact shB_top (f 3 (by decide)) (in_neg hk)
  · exact fine_le (f 4 (by decide))
  · exact fine_le (f 5 (by decide))
/-- closed stays closed. -/
theorem later_cl {z : List Int} {k : Int} (h : MayD 3 (fullT z)) (hk : In k) (hc : Cl (fun i => i < 3) (zw z)) : Cl (fun i => i < 3) (zw (laterT z k)) := by
  refine ⟨fun i j m hi hj hm => ?_, fun i hi => ?_⟩
  · rw [later_zw h hk i j hi hj, later_zw h hk i m hi hm, later_zw h hk m j hm hj, ad_sh, ← Int.mul_add, show pt i - pt m + (pt m - pt j) = pt i - pt j by omega]
    exact le_sh (hc.1 i j m hi hj hm)
  · rw [later_zw h hk i i hi hi, Int.sub_self, Int.mul_zero, sh_zero]; exact hc.2 i hi
theorem later_may {z : List Int} {k : Int} (tz : Tops z) (h : MayZ z) (hk : In k) (hm : MayD 3 (fullT (laterT z k))) : MayZ (laterT z k) :=
  cl_may (later_tops h.may hk) hm (later_cl h.may hk (may_cl tz h))
/-- as much sooner is the zone. -/
theorem later_back {z : List Int} {k : Int} (l : z.length = 6) (h : MayD 3 (fullT z)) (hk : In k) : laterT (laterT z k) (-k) = z := by
  have f := six_fine h
  obtain ⟨a, b, c, d, e, g, rfl⟩ := six l
  have f0 : Fine a := f 0 (by decide)
  have f1 : Fine b := f 1 (by decide)
  have f2 : Fine c := f 2 (by decide)
  have f3 : Fine d := f 3 (by decide)
  show [shB (shB a k) (-k), shB (shB b (-k)) (- -k), shB (shB c k) (-k), shB (shB d (-k)) (- -k), e, g] = [a, b, c, d, e, g]
  rw [shB_back f0 hk, shB_back f1 (in_neg hk), shB_back f2 hk, shB_back f3 (in_neg hk)]
/-- points, so much later. -/
theorem keptR_hi {a b x k : Int} : keptR (a + k * b) b 0 1 (x + 2 * k) = keptR a b 0 1 x := by
  unfold keptR
  have e : bS (x + 2 * k) = bS x := by unfold bS; exact decide_eq_decide.2 (by omega)
  have e2 : (x + 2 * k) / 2 = x / 2 + k := by omega
  have u : ∀ p q r : Int, ltB (p + r) (q + r) = ltB p q := fun p q r => by unfold ltB; exact decide_eq_decide.2 (by omega)
  rw [e, e2, show (a + k * b) * 1 - 0 * b = (a * 1 - 0 * b) + k * b by omega, show (x / 2 + k) * (b * 1) = x / 2 * (b * 1) + k * b by rw [Int.add_mul, Int.mul_one], u, u]
theorem keptR_lo {a b x k : Int} : keptR 0 1 (a + k * b) b (x + 2 * -k) = keptR 0 1 a b x := by
  unfold keptR
  have e : bS (x + 2 * -k) = bS x := by unfold bS; exact decide_eq_decide.2 (by omega)
  have e2 : (x + 2 * -k) / 2 = x / 2 + -k := by omega
  have u : ∀ p q r : Int, ltB (p + r) (q + r) = ltB p q := fun p q r => by unfold ltB; exact decide_eq_decide.2 (by omega)
  rw [e, e2, show 0 * b - (a + k * b) * 1 = (0 * b - a * 1) + -(k * b) by omega, show (x / 2 + -k) * (1 * b) = x / 2 * (1 * b) + -(k * b) by rw [Int.add_mul, Int.one_mul, Int.neg_mul], u, u]
theorem keptR_both {a b c d x k : Int} : keptR (a + k * b) b (c + k * d) d x = keptR a b c d x := by
  unfold keptR
  rw [show (a + k * b) * d - (c + k * d) * b = a * d - c * b by rw [Int.add_mul, Int.add_mul, Int.mul_assoc k b d, Int.mul_assoc k d b, Int.mul_comm b d]; omega]
theorem shB_none {x k : Int} (hx : Fine x) (hk : In k) : shB x k = 9223372036854775807 ↔ x = 9223372036854775807 := by
  unfold shB
  unfold Fine at hx
  unfold In at hk
  split <;> omega
theorem kp_hi {a b x k : Int} (h : MayR a b) (h' : MayR (a + k * b) b) (hx : Fine x) (hk : In k) (hy : Fine (shB x k)) : kpV (a + k * b) b 0 1 (shB x k) = kpV a b 0 1 x := by
  rw [Bool.eq_iff_iff, kp_kB h' zero_may hy, kp_kB h zero_may hx, shB_none hx hk]
  unfold shB
  by_cases e : x = 9223372036854775807
  · exact ⟨fun _ => .inl e, fun _ => .inl e⟩
  · rw [if_neg e, keptR_hi]
theorem kp_lo {a b x k : Int} (h : MayR a b) (h' : MayR (a + k * b) b) (hx : Fine x) (hk : In k) (hy : Fine (shB x (-k))) : kpV 0 1 (a + k * b) b (shB x (-k)) = kpV 0 1 a b x := by
  rw [Bool.eq_iff_iff, kp_kB zero_may h' hy, kp_kB zero_may h hx, shB_none hx (in_neg hk)]
  unfold shB
  by_cases e : x = 9223372036854775807
  · exact ⟨fun _ => .inl e, fun _ => .inl e⟩
  · rw [if_neg e, keptR_lo]
theorem kp_two {a b c d x k : Int} (h : MayR a b) (h' : MayR (a + k * b) b) (m : MayR c d) (m' : MayR (c + k * d) d) (hx : Fine x) : kpV (a + k * b) b (c + k * d) d x = kpV a b c d x := by
  rw [Bool.eq_iff_iff, kp_kB h' m' hx, kp_kB h m hx, keptR_both]
/-- both times, so much later, are in the zone so much later just if they are in the zone. -/
theorem later_kept {z : List Int} {k a b c d : Int} (hz : MayD 3 (fullT z)) (hk : In k) (hm : MayD 3 (fullT (laterT z k))) (h : MayR a b) (h' : MayR (a + k * b) b) (m : MayR c d) (m' : MayR (c + k * d) d) :
    keptAll 3 (fullT (laterT z k)) [(0, 1), (a + k * b, b), (c + k * d, d)] ↔ keptAll 3 (fullT z) [(0, 1), (a, b), (c, d)] := by
  have f := six_fine hz
  have g := six_fine hm
  rw [kept_six h' m', kept_six h m]
  show kpV (a + k * b) b 0 1 (shB (z[0]?.getD 0) k) = true ∧ kpV 0 1 (a + k * b) b (shB (z[1]?.getD 0) (-k)) = true ∧ kpV (c + k * d) d 0 1 (shB (z[2]?.getD 0) k) = true ∧ kpV 0 1 (c + k * d) d (shB (z[3]?.getD 0) (-k)) = true ∧ kpV (c + k * d) d (a + k * b) b (z[4]?.getD 0) = true ∧ kpV (a + k * b) b (c + k * d) d (z[5]?.getD 0) = true ↔ _
  rw [kp_hi h h' (f 0 (by decide)) hk (g 0 (by decide)), kp_lo h h' (f 1 (by decide)) hk (g 1 (by decide)), kp_hi m m' (f 2 (by decide)) hk (g 2 (by decide)), kp_lo m m' (f 3 (by decide)) hk (g 3 (by decide)), kp_two m m' h h' (f 4 (by decide)), kp_two h h' m m' (f 5 (by decide))]
end Go.Proofs.YtcaoooddmmhieaaDoor.win
