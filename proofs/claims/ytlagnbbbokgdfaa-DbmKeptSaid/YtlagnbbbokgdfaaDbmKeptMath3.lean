/-
  Times keep a matrix just if they keep the closed one, an empty one none; the conditions: the matrix, the times and the closed one may be.
-/
import Derived.Test.YtlagnbbbokgdfaaDbmKeptMath2
import Derived.Test.YtlagnbbbokgdfaaDbmKeeps3
namespace Go.Proofs.Ytlagnbbbokgdfaa.dbm
open num rat way
open bound hiding up
set_option linter.unusedVariables false

theorem kp_kB {a b c d x : Int} (h : MayR a b) (h' : MayR c d) (hx : Fine x) : kpV a b c d x = true ↔ (x = 9223372036854775807 ∨ keptR a b c d x = true) := by
  unfold kpV
  rw [if_pos ⟨h, h'⟩]
  by_cases e : x = 9223372036854775807
  · rw [if_pos e]; exact ⟨fun _ => .inl e, fun _ => rfl⟩
  · rw [if_neg e, if_pos (by unfold Fine at hx; unfold May; omega)]
    exact ⟨fun k => .inr k, fun k => k.resolve_left e⟩
/-- the times, with one above 0 below for what is none of the clocks. -/
def tms (n : Nat) (qs : List (Int × Int)) (i : Nat) : Int × Int := if i < n then pr qs i else (0, 1)
theorem tms_pos {n : Nat} {qs : List (Int × Int)} (hm : MayT qs) (hl : qs.length = n) (i : Nat) : 0 < (tms n qs i).2 := by
  unfold tms
  by_cases h : i < n
  · rw [if_pos h]
    have := (hm i (by omega)).1
    omega
  · rw [if_neg h]; decide
theorem kp_iff {n : Nat} {us : List Int} {qs : List (Int × Int)} (hm : MayT qs) (hl : qs.length = n) {i j : Nat} (hi : i < n) (hj : j < n) (hx : Fine (tat us n i j)) : kp n us qs i j = true ↔ kB (tms n qs) i j (cod (tat us n i j)) := by
  unfold kp
  rw [kp_kB (hm i (by omega)) (hm j (by omega)) hx]
  unfold cod
  by_cases e : tat us n i j = 9223372036854775807
  · rw [if_pos e]; exact ⟨fun _ => trivial, fun _ => .inl e⟩
  · rw [if_neg e]
    have e1 : tms n qs i = pr qs i := if_pos hi
    have e2 : tms n qs j = pr qs j := if_pos hj
    unfold kB
    rw [e1, e2]
    exact ⟨fun k => k.resolve_left e, fun k => .inr k⟩
theorem kept_beg {n : Nat} {ts : List Int} {qs : List (Int × Int)} (hn : n ≤ 4) (hl : ts.length = n * n) (htop : Tops ts) (hf : ∀ p, p < ts.length → Fine (ts[p]?.getD 0)) (hm : MayT qs) (hq : qs.length = n) (h : keptAll n ts qs) (i j : Nat) : kB (tms n qs) i j (beg n ts i j) := by
  by_cases hij : i < n ∧ j < n
  · obtain ⟨hi, hj⟩ := hij
    unfold beg
    rw [wts_in hi hj, beg_at hl hn hi hj]
    have k := (kp_iff hm hq hi hj (fine_at hl hn hf hi hj)).1 (h i j hi hj)
    by_cases e : i = j
    · subst e
      rw [if_pos rfl, cod_lsr (tat_top htop n i i) (by decide)]
      rcases mn_is (cod (tat ts n i i)) (cod 1) with e | e
      · rw [e]; exact k
      · rw [e]; exact kB_one i
    · rw [if_neg e]; exact k
  · have : beg n ts i j = none := if_neg hij
    rw [this]; trivial
/-- what keeps a matrix keeps the closed one, and it is not empty. -/
theorem kept_closed {n : Nat} {ts : List Int} {qs : List (Int × Int)} (h0 : 0 < n) (hn : n ≤ 4) (hl : ts.length = n * n) (htop : Tops ts) (hf : ∀ p, p < ts.length → Fine (ts[p]?.getD 0)) (hm : MayT qs) (hq : qs.length = n) (h : keptAll n ts qs) :
    ∀ k, k ≤ n → ¬ emp n (tabs n h0 ts k) := by
  intro k
  induction k using Nat.strongRecOn with
  | _ k ih =>
    rintro hk ⟨i, hi, he⟩
    have e := tabs_is h0 hn hl htop hf k hk (fun m hmk => ih m hmk (by omega)) i i hi hi
    have := kB_self (tms_pos hm hq) (kB_F (tms_pos hm hq) (kept_beg hn hl htop hf hm hq h) k i i)
    rw [← e] at this
    have := (cod_le (by decide) (tat_top (tabs_tops h0 htop k) n i i)).1 (show le (cod 1) _ from this)
    omega
theorem kept_same {n : Nat} {ts : List Int} {qs : List (Int × Int)} (h0 : 0 < n) (hn : n ≤ 4) (hl : ts.length = n * n) (htop : Tops ts) (hf : ∀ p, p < ts.length → Fine (ts[p]?.getD 0)) (hm : MayT qs) (hq : qs.length = n)
    (hne : ∀ k, k ≤ n → ¬ emp n (tabs n h0 ts k)) (hc : ∀ i j, i < n → j < n → Fine (tat (tabs n h0 ts n) n i j)) : keptAll n ts qs ↔ keptAll n (tabs n h0 ts n) qs := by
  have he := tabs_is h0 hn hl htop hf n (Nat.le_refl _) (fun m hm => hne m (by omega))
  refine ⟨fun h i j hi hj => ?_, fun h i j hi hj => ?_⟩
  · rw [kp_iff hm hq hi hj (hc i j hi hj), he i j hi hj]
    exact kB_F (tms_pos hm hq) (kept_beg hn hl htop hf hm hq h) n i j
  · have k := (kp_iff hm hq hi hj (hc i j hi hj)).1 (h i j hi hj)
    rw [kp_iff hm hq hi hj (fine_at hl hn hf hi hj)]
    exact kB_up (tms_pos hm hq) k ((cod_le (tat_top (tabs_tops h0 htop n) n i j) (tat_top htop n i j)).2 (closed_le h0 hn hl htop hf hne hi hj))
end Go.Proofs.Ytlagnbbbokgdfaa.dbm
