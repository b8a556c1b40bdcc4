/-
  What the answers of package incl mean: one in another one, two apart, times that are picked; the pure mathematics; each theorem names its conditions.
-/
import Derived.Test.YtnbpcgkdnkihdaaInclD
import Derived.Test.YtnbpcgkdnkihdaaInclE
import Derived.Test.YtnbpcgkdnkihdaaTightD
namespace Go.Proofs.Ytnbpcgkdnkihdaa.incl
open num rat dbm way Go.Proofs.Ytnbpcgkdnkihdaa.tight Go.Proofs.Ytnbpcgkdnkihdaa.tkept
open bound hiding up
set_option linter.unusedVariables false
set_option linter.unusedSectionVars false

section
variable {n : Nat} {ts us : List Int} (h0 : 0 < n) (hn : n ≤ 4) (hl : ts.length = n * n) (hu : us.length = n * n) (htop : Tops ts) (hto : Tops us)
include h0 hn hl hu htop hto
theorem beg_le_cod (i j : Nat) (hi : i < n) (hj : j < n) : way.le (beg n us i j) (cod (tat us n i j)) := by
  unfold beg
  rw [wts_in hi hj]
  refine (cod_le (tat_top (lows_tops hto n) n i j) (tat_top hto n i j)).2 ?_
  rw [beg_at hu hn hi hj]
  by_cases e : i = j
  · subst e; rw [if_pos rfl]; exact (lsr_le _ _).1
  · rw [if_neg e]; exact Int.le_refl _
/-- one that is not empty lies in another one just if what is closed of it is nowhere greater. -/
theorem lie_iff (h : OkD n ts) : inV n ts us ↔ Lie (beg n ts) (beg n us) n := by
  have hw := wts_closed h0 hn hl htop h
  have hc : Tops (clT n ts) := clT_tops htop
  have hne : ∀ k, k ≤ n → ¬ emp n (tabs n h0 ts k) := fun k hk => h.2.2 k (by simpa using hk)
  constructor
  · intro k i j
    rw [← hw]
    by_cases hij : i < n ∧ j < n
    · obtain ⟨hi, hj⟩ := hij
      have hp := k h (i * n + j) (by rw [hl]; exact place_le hn hi hj)
      have hp' : tat (clT n ts) n i j ≤ tat us n i j := hp
      rw [wts_in hi hj]
      unfold beg
      rw [wts_in hi hj]
      refine (cod_le (tat_top hc n i j) (tat_top (lows_tops hto n) n i j)).2 ?_
      rw [beg_at hu hn hi hj]
      by_cases e : i = j
      · subst e
        have hd : tat (clT n ts) n i i = 1 := by rw [clT_nat h0]; exact closed_diag h0 hn hl htop h.1.2.2.2 hne hi
        rw [if_pos rfl]
        unfold lsr
        split <;> omega
      · rw [if_neg e]; exact hp'
    · have e1 : wts n (clT n ts) i j = none := if_neg hij
      have e2 : beg n us i j = none := if_neg hij
      rw [e1, e2]
      exact le_refl _
  · intro k _ p hp
    have hp' : p < n * n := by rw [← hl]; exact hp
    have hi := (Nat.div_lt_iff_lt_mul h0).2 hp'
    have hj := Nat.mod_lt p h0
    have := le_trans (k (p / n) (p % n)) (beg_le_cod h0 hn hl hu htop hto _ _ hi hj)
    rw [← hw, wts_in hi hj] at this
    have := (cod_le (tat_top hc n _ _) (tat_top hto n _ _)).1 this
    unfold tat at this
    have e : p / n * n + p % n = p := by rw [Nat.mul_comm]; exact Nat.div_add_mod p n
    rwa [e] at this
/-- the weights of what two have in common. -/
theorem beg_les : beg n (lesT ts us) = both (beg n ts) (beg n us) := by
  have hll : (lesT ts us).length = n * n := (lesT_length _ _).trans hl
  funext i j
  show _ = mn _ _
  by_cases hij : i < n ∧ j < n
  · obtain ⟨hi, hj⟩ := hij
    unfold beg
    rw [wts_in hi hj, wts_in hi hj, wts_in hi hj, ← cod_lsr (tat_top (lows_tops htop n) n i j) (tat_top (lows_tops hto n) n i j)]
    congr 1
    rw [beg_at hll hn hi hj, beg_at hl hn hi hj, beg_at hu hn hi hj]
    have e : ∀ i j, i < n → j < n → tat (lesT ts us) n i j = lsr (tat ts n i j) (tat us n i j) := fun i j hi hj => lesT_at _ _ (by rw [hl]; exact place_le hn hi hj)
    by_cases h : i = j
    · subst h
      rw [if_pos rfl, if_pos rfl, if_pos rfl, e i i hi hi]
      unfold lsr
      repeat' split <;> omega
    · rw [if_neg h, if_neg h, if_neg h, e i j hi hj]
  · have e1 : beg n (lesT ts us) i j = none := if_neg hij
    have e2 : beg n ts i j = none := if_neg hij
    have e3 : beg n us i j = none := if_neg hij
    rw [e1, e2, e3]
    rfl
/-- times keep a matrix in which one lies that they keep. -/
theorem in_kept {qs : List (Int × Int)} (h : OkD n ts) (hm : MayD n us) (hq : MayT qs) (hqn : qs.length = n) (k : inV n ts us) (hk : keptAll n ts qs) : keptAll n us qs := fun i j hi hj => by
  have hL := (lie_iff h0 hn hl hu htop hto h).1 k
  have k1 := kept_beg hn hl htop h.1.2.2.2 hq hqn hk
  have k2 := kB_F (tms_pos hq hqn) k1 n i j
  have k3 := kB_up (tms_pos hq hqn) k2 (le_trans (hL i j) (beg_le_cod h0 hn hl hu htop hto i j hi hj))
  exact (kp_iff hq hqn hi hj (fine_at hu hn hm.2.2.2 hi hj)).2 k3
theorem ap_kept {qs : List (Int × Int)} (h : MayD n ts) (hm : MayD n us) (hq : MayT qs) (hqn : qs.length = n) (k : apV n ts us) : ¬ (keptAll n ts qs ∧ keptAll n us qs) := fun hk =>
  kept_no h0 hn ((lesT_length _ _).trans hl) (lesT_tops htop us) (lesT_may h hm) k hq hqn ((kept_les hn hl hu h hm hq hqn).2 hk)
end

/-! times that are picked keep the matrix -/
theorem keptR8 {X Y x : Int} (h : 2 * (X - Y) + 1 ≤ 16 * (x / 2) + x % 2) : keptR (p8 X) (q8 X) (p8 Y) (q8 Y) x = true := by
  have h1 := cross8 X
  have h2 := cross8 Y
  have q1 := (q8_in X).1
  have q2 := (q8_in Y).1
  have hm : 0 < q8 X * q8 Y := Int.mul_pos (by omega) (by omega)
  generalize p8 X = p at *
  generalize q8 X = q at *
  generalize p8 Y = r at *
  generalize q8 Y = s at *
  have e1 : 8 * (p * s) = X * (q * s) := by
    rw [show 8 * (p * s) = p * 8 * s by ac_rfl, h1]; ac_rfl
  have e2 : 8 * (r * q) = Y * (q * s) := by
    rw [show 8 * (r * q) = r * 8 * q by ac_rfl, h2]; ac_rfl
  have e3 : 8 * (p * s - r * q) = (X - Y) * (q * s) := by rw [Int.mul_sub, e1, e2, Int.sub_mul]
  by_cases hs : bS x = true
  · rw [keptR_lt hs]
    generalize q * s = m at *
    generalize p * s - r * q = u at *
    have hs' : x % 2 = 0 := by unfold bS at hs; exact of_decide_eq_true hs
    have h3 : (X - Y) * m < 8 * (x / 2) * m := Int.mul_lt_mul_of_pos_right (by omega) hm
    rw [Int.mul_assoc] at h3
    omega
  · rw [keptR_ge hs]
    generalize q * s = m at *
    generalize p * s - r * q = u at *
    have h3 : (X - Y) * m ≤ 8 * (x / 2) * m := Int.mul_le_mul_of_nonneg_right (by omega) (by omega)
    rw [Int.mul_assoc] at h3
    omega
section
variable {n : Nat} {ts : List Int} (h0 : 0 < n) (hn : n ≤ 4) (hl : ts.length = n * n) (htop : Tops ts) (h : OkD n ts)
include h0 hn hl htop h
theorem all_pks : (0, 1) :: pks n ts = rsOf (wts n (clT n ts)) (n - 1) := by
  have hlen : 0 < (rsOf (wts n (clT n ts)) (n - 1)).length := by rw [rsOf_length]; omega
  have h1 := rsOf_at (wts n (clT n ts)) (Nat.zero_le (n - 1))
  rw [px_zero, eight_zero.1, eight_zero.2] at h1
  unfold pks
  generalize rsOf (wts n (clT n ts)) (n - 1) = l at *
  cases l with
  | nil => simp at hlen
  | cons a l =>
    have : a = (0, 1) := by simpa [pr] using h1
    rw [this]
    rfl
theorem pks_may : MayT ((0, 1) :: pks n ts) ∧ IntsR ((0, 1) :: pks n ts) ∧ ((0, 1) :: pks n ts).length = n := by
  rw [all_pks h0 hn hl htop h]
  refine ⟨fun k hk => ?_, fun k hk => ?_, by rw [rsOf_length]; omega⟩
  · rw [rsOf_length] at hk
    rw [rsOf_at _ (by omega)]
    exact near_may (clo_near h0 hn hl htop h (by omega))
  · rw [rsOf_length] at hk
    rw [rsOf_at _ (by omega)]
    exact near_fits (clo_near h0 hn hl htop h (by omega))
theorem pks_all {us : List Int} (hu : us.length = n * n) (hm : MayD n us) (hk : ∀ i j, i < n → j < n → way.le (F (beg n ts) n i j) (cod (tat us n i j))) : keptAll n us ((0, 1) :: pks n ts) := fun i j hi hj => by
  obtain ⟨k1, k2, k3⟩ := pks_may h0 hn hl htop h
  unfold kp
  rw [kp_kB (k1 i (by omega)) (k1 j (by omega)) (fine_at hu hn hm.2.2.2 hi hj), all_pks h0 hn hl htop h, rsOf_at _ (by omega), rsOf_at _ (by omega)]
  by_cases hz : tat us n i j = 9223372036854775807
  · exact .inl hz
  · refine .inr (keptR8 ?_)
    have hg := good_tri (clo_good h0 hn hl htop h)
    have := kx_up (px_kept hn hg (clo_one h0 hn hl htop h) n (Nat.le_refl _) i j hi hj) (hk i j hi hj)
    rw [← wts_closed h0 hn hl htop h, cod_some hz] at this
    exact this
theorem pks_kept : keptAll n ts ((0, 1) :: pks n ts) := pks_all h0 hn hl htop h hl h.1 fun i j hi hj => le_trans (F_le _ _ _ _) (beg_le_cod h0 hn hl hl htop htop i j hi hj)
theorem pks_in {us : List Int} (hu : us.length = n * n) (hto : Tops us) (hm : MayD n us) (k : inV n ts us) : keptAll n us ((0, 1) :: pks n ts) := pks_all h0 hn hl htop h hu hm fun i j hi hj => le_trans ((lie_iff h0 hn hl hu htop hto h).1 k i j) (beg_le_cod h0 hn hl hu htop hto i j hi hj)
end
end Go.Proofs.Ytnbpcgkdnkihdaa.incl
