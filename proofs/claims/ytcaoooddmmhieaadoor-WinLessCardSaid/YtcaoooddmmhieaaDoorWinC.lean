/-
  A wider window of a zone: each of its bounds is the zone's, or that of one of two narrower windows that make it; each theorem names its conditions.
-/
import Derived.Test.YtcaoooddmmhieaaDoorWinA
import Derived.Test.YtcaoooddmmhieaaDoorCompA
namespace Go.Proofs.YtcaoooddmmhieaaDoor.way
set_option linter.unusedVariables false

/-- a closed table with one weight more. -/
theorem put_tri {D : Tab} {n x y : Nat} (t : Tri D n) {v : B} (g : le one (ad (D y x) v)) : Tri (fun i j => mn (D i j) (ad (ad (D i x) v) (D y j))) n := by
  intro m hm i j
  have hr : ∀ i j, le (mn (D i j) (ad (ad (D i x) v) (D y j))) (ad (ad (D i x) v) (D y j)) := fun i j => mn_right _ _
  have hl : ∀ i j, le (mn (D i j) (ad (ad (D i x) v) (D y j))) (D i j) := fun i j => mn_left _ _
  rcases mn_is (D i m) (ad (ad (D i x) v) (D y m)) with e | e <;> rcases mn_is (D m j) (ad (ad (D m x) v) (D y j)) with f | f <;> (show le _ (ad (mn _ _) (mn _ _))) <;> rw [e, f]
  · exact le_trans (hl i j) (t m hm i j)
  · refine le_trans (hr i j) ?_
    rw [← ad_assoc, ← ad_assoc]
    exact ad_mono (ad_mono (t m hm i x) (le_refl _)) (le_refl _)
  · refine le_trans (hr i j) ?_
    rw [ad_assoc (ad (D i x) v)]
    exact ad_mono (le_refl _) (t m hm y j)
  · refine le_trans (hr i j) ?_
    rw [ad_assoc (ad (D i x) v)]
    refine ad_mono (le_refl _) ?_
    rw [← ad_assoc, ← ad_assoc]
    refine le_ad_left ?_
    exact le_trans g (ad_mono (t m hm y x) (le_refl _))
theorem F_put {D : Tab} {n x y : Nat} (hx : x < n) (hy : y < n) (t : Tri D n) (p : Pos D) (hd : ∀ i, i < n → le (D i i) one) (o : ∀ i, ¬ i < n → ∀ j, D i j = none) {v : B} (g : Good (put D x y v) n) (i j : Nat) : F (put D x y v) n i j = mn (D i j) (ad (ad (D i x) v) (D y j)) := by
  have g1 := (put_iff hx hy t p hd o v).1 g
  have t' := put_tri t g1
  have hl : ∀ i j, le (F (put D x y v) n i j) (D i j) := fun i j => le_trans (F_le _ _ _ _) (put_le _ _ _ _ _ _)
  refine le_antisymm (le_mn (hl i j) ?_) ?_
  · refine le_trans (good_tri g x hx i j) (le_trans (ad_mono (le_refl _) (good_tri g y hy x j)) ?_)
    rw [← ad_assoc]
    exact ad_mono (ad_mono (hl i x) (le_trans (F_le _ _ _ _) (put_at _ _ _ _))) (hl y j)
  · have hp : ∀ i j, le (mn (D i j) (ad (ad (D i x) v) (D y j))) (put D x y v i j) := le_put (e := fun i j => mn (D i j) (ad (ad (D i x) v) (D y j))) (fun i j => mn_left _ _) (by
      have := ad_mono (ad_mono (hd x hx) (le_refl v)) (hd y hy)
      rw [one_ad, ad_one] at this
      exact le_trans (mn_right _ _) this)
    have := F_mono hp n i j
    rwa [F_id t' n (Nat.le_refl _)] at this
/-- two weights more, one the other way round of the other. -/
def win2 (D : Tab) (H L : B) : Tab := put (put D 2 0 H) 0 2 L
section
variable {D : Tab} (t : Tri D 3) (p : Pos D) (hd : ∀ i, i < 3 → D i i = one) (o : ∀ i, ¬ i < 3 → ∀ j, D i j = none)
include t p hd o
theorem win2_F {H L : B} (g : Good (win2 D H L) 3) (i j : Nat) :
    F (win2 D H L) 3 i j = mn (mn (D i j) (ad (ad (D i 2) H) (D 0 j))) (ad (ad (mn (D i 0) (ad (D i 2) H)) L) (mn (D 2 j) (ad H (D 0 j)))) ∧ le one (ad H L) := by
  have hd' : ∀ i, i < 3 → le (D i i) one := fun i hi => by rw [hd i hi]; exact le_refl _
  have g1 : Good (put D 2 0 H) 3 := good_mono (put_le _ _ _ _) g
  have e1 := F_put (by decide) (by decide) t p hd' o g1
  have o1 : ∀ i, ¬ i < 3 → ∀ j, F (put D 2 0 H) 3 i j = none := fun i hi j => by rw [e1, o i hi, o i hi, none_ad, none_ad]; exact mn_none _
  have g2 : Good (put (F (put D 2 0 H) 3) 0 2 L) 3 := (put_good 0 2 L).2 g
  have d1 : ∀ i, i < 3 → le (F (put D 2 0 H) 3 i i) one := fun i hi => le_trans (F_le _ _ _ _) (le_trans (put_le _ _ _ _ _ _) (hd' i hi))
  have e2 := F_put (by decide) (by decide) (good_tri g1) (g1 3 (Nat.le_refl _)) d1 o1 g2 i j
  have e3 := (put_iff (x := 0) (y := 2) (by decide) (by decide) (good_tri g1) (g1 3 (Nat.le_refl _)) d1 o1 L).1 g2
  constructor
  · have e4 : F (put (F (put D 2 0 H) 3) 0 2 L) 3 i j = F (win2 D H L) 3 i j := put_F 0 2 L g i j
    rw [← e4, e2, e1, e1, e1, hd 0 (by decide), hd 2 (by decide), ad_one, one_ad]
  · refine le_trans e3 (ad_mono ?_ (le_refl _))
    exact le_trans (F_le _ _ _ _) (put_at _ _ _ _)
/-- where the zone has no bound, a wider window's bound is one of the narrower ones'. -/
theorem win2_wide {H L H' L' : B} (g : Good (win2 D H L) 3) (gb : Good (win2 D H' L) 3) (gx : Good (win2 D H L') 3) (h' : H' ≠ none) {i j : Nat} (hD : D i j = none) :
    F (win2 D H L) 3 i j = none ∨ F (win2 D H L) 3 i j = F (win2 D H L') 3 i j ∨ F (win2 D H L) 3 i j = F (win2 D H' L) 3 i j := by
  obtain ⟨e, k⟩ := win2_F t p hd o g i j
  obtain ⟨eb, kb⟩ := win2_F t p hd o gb i j
  obtain ⟨ex, kx⟩ := win2_F t p hd o gx i j
  have t2 := t 2 (by decide) i j
  have t0 := t 0 (by decide) i j
  rw [hD] at e eb ex t2 t0
  rw [e, eb, ex]
  clear e eb ex
  cases h2 : D i 2 with
  | none =>
    simp only [h2, none_ad, ad_none, mn_none] at *
    cases h0 : D i 0 with
    | none => left; simp only [none_ad, mn_none]
    | some a =>
      have z : D 0 j = none := by
        cases hz : D 0 j with
        | none => rfl
        | some b => rw [h0, hz, ad_some] at t0; exact t0.elim
      right; right
      simp only [z, ad_none]
  | some a =>
    have z2 : D 2 j = none := by
      cases hz : D 2 j with
      | none => rfl
      | some b => rw [h2, hz, ad_some] at t2; exact t2.elim
    cases z0 : D 0 j with
    | none => left; simp only [z2, ad_none, mn_none]
    | some c =>
      have h0 : D i 0 = none := by
        cases hz : D i 0 with
        | none => rfl
        | some b => rw [z0, hz, ad_some] at t0; exact t0.elim
      have key : ∀ K : B, le one (ad H K) → mn (mn none (ad (ad (some a) H) (some c))) (ad (ad (mn none (ad (some a) H)) K) (mn none (ad H (some c)))) = ad (ad (some a) H) (some c) := fun K hK => by
        rw [mn_none, mn_none, mn_none]
        refine mn_eq_left ?_
        rw [ad_assoc (ad (some a) H), ← ad_assoc K, ad_comm K]
        exact ad_mono (le_refl _) (le_ad_left hK)
      right; left
      rw [h0, z2, key L k, key L' kx]
end
end Go.Proofs.YtcaoooddmmhieaaDoor.way
