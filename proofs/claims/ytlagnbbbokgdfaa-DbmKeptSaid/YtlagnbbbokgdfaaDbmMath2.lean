/-
  What is closed is closed by it to itself; a lesser matrix has a closed one that is nowhere greater. No program's run in this text; each theorem names its conditions.
-/
import Derived.Test.YtlagnbbbokgdfaaDbmMath
namespace Go.Proofs.Ytlagnbbbokgdfaa.dbm
open num way
open bound hiding up
set_option linter.unusedVariables false

theorem list_ext {n : Nat} (h0 : 0 < n) {us vs : List Int} (hu : us.length = n * n) (hv : vs.length = n * n) (h : ∀ i j, i < n → j < n → tat us n i j = tat vs n i j) : us = vs := by
  refine List.ext_getElem (by rw [hu, hv]) fun p h1 h2 => ?_
  have hp : p < n * n := by rw [← hu]; exact h1
  have := h (p / n) (p % n) ((Nat.div_lt_iff_lt_mul h0).2 hp) (Nat.mod_lt _ h0)
  unfold tat at this
  have e : p / n * n + p % n = p := by rw [Nat.mul_comm]; exact Nat.div_add_mod p n
  rw [e, List.getElem?_eq_getElem h1, List.getElem?_eq_getElem h2] at this
  exact this
theorem fine_rng {b : Int} (h : Fine b) : Rng b := h.imp id fun h => ⟨by omega, by omega⟩

section
variable {n : Nat} (h0 : 0 < n) {ts : List Int}
/-- closed anew it is the same, behind every clock. -/
theorem again (hn : n ≤ 4) (hl : ts.length = n * n) (htop : Tops ts) (hf : ∀ p, p < ts.length → Fine (ts[p]?.getD 0)) (hne : ∀ k, k ≤ n → ¬ emp n (tabs n h0 ts k)) (hc : ∀ p, p < (tabs n h0 ts n).length → Fine ((tabs n h0 ts n)[p]?.getD 0)) :
    ∀ k, k ≤ n → tabs n h0 (tabs n h0 ts n) k = tabs n h0 ts n := by
  have hlc : (tabs n h0 ts n).length = n * n := (tabs_length n h0 ts n).trans hl
  intro k
  induction k with
  | zero =>
    intro _
    refine list_ext h0 ((lows_length n _ n).trans hlc) hlc fun i j hi hj => ?_
    show tat (lows n (tabs n h0 ts n) n) n i j = _
    rw [beg_at hlc hn hi hj]
    by_cases h : i = j
    · subst h
      rw [if_pos rfl, closed_diag h0 hn hl htop hf hne hi]
      decide
    · rw [if_neg h]
  | succ k ih =>
    intro hk
    have e := ih (by omega)
    show ovl n k (tabs n h0 (tabs n h0 ts n) k) (upto (nth n h0) (n * n)) = _
    rw [e]
    refine list_ext h0 ((ovl_length _ _ _ _).trans hlc) hlc fun i j hi hj => ?_
    have hr : ∀ i j, i < n → j < n → Rng (tat (tabs n h0 ts n) n i j) := fun i j hi hj => fine_rng (fine_at hlc hn hc hi hj)
    have hkk : k < n := by omega
    rw [tat_ovl h0 hn hkk hlc hr (closed_diag h0 hn hl htop hf hne hkk) hi hj]
    have := closed_tri h0 hn hl htop hf hne hi hj hkk (rng_sum (hr i k hi hkk) (hr k j hkk hj)).2
    unfold lsr
    rw [if_neg (by omega)]
theorem again_alive (hn : n ≤ 4) (hl : ts.length = n * n) (htop : Tops ts) (hf : ∀ p, p < ts.length → Fine (ts[p]?.getD 0)) (hne : ∀ k, k ≤ n → ¬ emp n (tabs n h0 ts k)) (hc : ∀ p, p < (tabs n h0 ts n).length → Fine ((tabs n h0 ts n)[p]?.getD 0)) :
    ∀ k, k ≤ n → ¬ emp n (tabs n h0 (tabs n h0 ts n) k) := fun k hk => by
  rw [again h0 hn hl htop hf hne hc k hk]
  rintro ⟨i, hi, h⟩
  rw [closed_diag h0 hn hl htop hf hne hi] at h
  exact absurd h (by decide)

/-- a lesser one. -/
theorem beg_mono {us : List Int} (hn : n ≤ 4) (hl : ts.length = n * n) (hu : us.length = n * n) (htop : Tops ts) (hto : Tops us) (h : ∀ i j, i < n → j < n → tat us n i j ≤ tat ts n i j) (i j : Nat) : way.le (beg n us i j) (beg n ts i j) := by
  unfold beg
  by_cases hi : i < n
  · by_cases hj : j < n
    · rw [wts_in hi hj, wts_in hi hj]
      refine (cod_le (tat_top (lows_tops hto n) n i j) (tat_top (lows_tops htop n) n i j)).2 ?_
      rw [beg_at hu hn hi hj, beg_at hl hn hi hj]
      have h1 := h i j hi hj
      have h2 := h i i hi hi
      by_cases e : i = j
      · rw [if_pos e, if_pos e]
        unfold lsr
        split <;> split <;> omega
      · rw [if_neg e, if_neg e]; exact h1
    · rw [wts_out2 hj, wts_out2 hj]; exact le_refl _
  · rw [wts_out hi, wts_out hi]; exact le_refl _
theorem less_alive {us : List Int} (hn : n ≤ 4) (hl : ts.length = n * n) (hu : us.length = n * n) (htop : Tops ts) (hto : Tops us) (hf : ∀ p, p < ts.length → Fine (ts[p]?.getD 0)) (hg : ∀ p, p < us.length → Fine (us[p]?.getD 0))
    (h : ∀ i j, i < n → j < n → tat us n i j ≤ tat ts n i j) (hne : ∀ k, k ≤ n → ¬ emp n (tabs n h0 us k)) : ∀ k, k ≤ n → ¬ emp n (tabs n h0 ts k) := by
  intro k
  induction k using Nat.strongRecOn with
  | _ k ih =>
    intro hk
    rintro ⟨i, hi, hem⟩
    have e1 := tabs_is h0 hn hl htop hf k hk (fun m hm => ih m hm (by omega)) i i hi hi
    have e2 := tabs_is h0 hn hu hto hg k hk (fun m hm => hne m (by omega)) i i hi hi
    have hm := F_mono (beg_mono hn hl hu htop hto h) k i i
    rw [← e1, ← e2] at hm
    have := (cod_le (tat_top (tabs_tops h0 hto k) n i i) (tat_top (tabs_tops h0 htop k) n i i)).1 hm
    exact hne k hk ⟨i, hi, by omega⟩
theorem less_le {us : List Int} (hn : n ≤ 4) (hl : ts.length = n * n) (hu : us.length = n * n) (htop : Tops ts) (hto : Tops us) (hf : ∀ p, p < ts.length → Fine (ts[p]?.getD 0)) (hg : ∀ p, p < us.length → Fine (us[p]?.getD 0))
    (h : ∀ i j, i < n → j < n → tat us n i j ≤ tat ts n i j) (hne : ∀ k, k ≤ n → ¬ emp n (tabs n h0 us k)) {i j : Nat} (hi : i < n) (hj : j < n) : tat (tabs n h0 us n) n i j ≤ tat (tabs n h0 ts n) n i j := by
  have hnt := less_alive h0 hn hl hu htop hto hf hg h hne
  have e1 := tabs_is h0 hn hl htop hf n (Nat.le_refl _) (fun m hm => hnt m (by omega)) i j hi hj
  have e2 := tabs_is h0 hn hu hto hg n (Nat.le_refl _) (fun m hm => hne m (by omega)) i j hi hj
  have hm := F_mono (beg_mono hn hl hu htop hto h) n i j
  rw [← e1, ← e2] at hm
  exact (cod_le (tat_top (tabs_tops h0 hto n) n i j) (tat_top (tabs_tops h0 htop n) n i j)).1 hm
end
end Go.Proofs.Ytlagnbbbokgdfaa.dbm
