/-
  Zones one behind the other, as tables of weights: what is composed, which two of three come first, the other way round, lesser ones; then Comp, Back and Firsts, each in one form; each theorem names its conditions.
-/
import Derived.Test.YtkfnjdmjojodhaaDoorZoneA
import Derived.Test.YtkfnjdmjojodhaaDoorProjA
import Derived.Test.YtkfnjdmjojodhaaDoorZoneF
namespace Go.Proofs.YtkfnjdmjojodhaaDoor.way
set_option linter.unusedVariables false
set_option linter.unusedSectionVars false
set_option linter.unusedSimpArgs false

/-- closed, of some clocks. -/
def Cl (S : Nat → Prop) (G : Tab) : Prop := (∀ i j m, S i → S j → S m → le (G i j) (ad (G i m) (G m j))) ∧ ∀ i, S i → G i i = one
/-- the least of some weights. -/
def mns : List B → B
  | [] => none
  | x :: l => mn x (mns l)
theorem mns_le {f : Nat → B} : ∀ {ys : List Nat} {k : Nat}, k ∈ ys → le (mns (ys.map f)) (f k)
  | y :: ys, k, h => by
    rcases List.mem_cons.1 h with rfl | h
    · exact mn_left _ _
    · exact le_trans (mn_right _ _) (mns_le h)
theorem mns_is (f : Nat → B) : ∀ ys : List Nat, mns (ys.map f) = none ∨ ∃ k ∈ ys, mns (ys.map f) = f k
  | [] => .inl rfl
  | y :: ys => by
    show mn (f y) (mns (ys.map f)) = none ∨ ∃ k ∈ y :: ys, mn (f y) (mns (ys.map f)) = f k
    rcases mn_is (f y) (mns (ys.map f)) with e | e
    · exact .inr ⟨y, List.mem_cons_self, e⟩
    · rw [e]
      rcases mns_is f ys with h | ⟨k, h, h'⟩
      · exact .inl h
      · exact .inr ⟨k, List.mem_cons_of_mem _ h, h'⟩
theorem mns_ad {f : Nat → B} {ys : List Nat} {x y : B} (h : ∀ k ∈ ys, le x (ad (f k) y)) : le x (ad (mns (ys.map f)) y) := by
  rcases mns_is f ys with e | ⟨k, hk, e⟩
  · rw [e, none_ad]; exact le_none _
  · rw [e]; exact h k hk
theorem mns_ad2 {f : Nat → B} {ys : List Nat} {x y : B} (h : ∀ k ∈ ys, le x (ad y (f k))) : le x (ad y (mns (ys.map f))) := by
  rw [ad_comm]
  exact mns_ad fun k hk => by rw [ad_comm]; exact h k hk

/-- a table with a clock more, that another one knows of beside some of its clocks. -/
def ext (L Z : Tab) (s : Nat) (ys : List Nat) : Tab := fun i j =>
  if i = s then (if j = s then one else mns (ys.map fun k => ad (Z s k) (L k j))) else if j = s then mns (ys.map fun k => ad (L i k) (Z k s)) else L i j
theorem ext_ss (L Z : Tab) (s : Nat) (ys : List Nat) : ext L Z s ys s s = one := by unfold ext; rw [if_pos rfl, if_pos rfl]
theorem ext_sj (L Z : Tab) {s j : Nat} (ys : List Nat) (h : j ≠ s) : ext L Z s ys s j = mns (ys.map fun k => ad (Z s k) (L k j)) := by unfold ext; rw [if_pos rfl, if_neg h]
theorem ext_is (L Z : Tab) {s i : Nat} (ys : List Nat) (h : i ≠ s) : ext L Z s ys i s = mns (ys.map fun k => ad (L i k) (Z k s)) := by unfold ext; rw [if_neg h, if_pos rfl]
theorem ext_ij (L Z : Tab) {s i j : Nat} (ys : List Nat) (h : i ≠ s) (k : j ≠ s) : ext L Z s ys i j = L i j := by unfold ext; rw [if_neg h, if_neg k]
section
variable {L Z : Tab} {s : Nat} {ys : List Nat} {X : Nat → Prop} (hL : Cl X L) (hZ : Cl (fun i => i ∈ ys ∨ i = s) Z) (hy : ∀ k, k ∈ ys → X k) (hs : ¬ X s) (hLZ : ∀ k l, k ∈ ys → l ∈ ys → le (L k l) (Z k l))
include hL hZ hy hs hLZ
theorem ext_cl : Cl (fun i => X i ∨ i = s) (ext L Z s ys) := by
  have ne : ∀ i, X i → i ≠ s := fun i hi e => hs (e ▸ hi)
  constructor
  · rintro i j m (hi | rfl) (hj | rfl) (hm | rfl)
    · rw [ext_ij _ _ _ (ne i hi) (ne j hj), ext_ij _ _ _ (ne i hi) (ne m hm), ext_ij _ _ _ (ne m hm) (ne j hj)]
      exact hL.1 i j m hi hj hm
    · rw [ext_ij _ _ _ (ne i hi) (ne j hj), ext_is _ _ _ (ne i hi), ext_sj _ _ _ (ne j hj)]
      refine mns_ad fun k hk => mns_ad2 fun l hl => ?_
      rw [ad_assoc, ← ad_assoc (Z k m)]
      refine le_trans (hL.1 i j k hi hj (hy k hk)) (ad_mono (le_refl _) (le_trans (hL.1 k j l (hy k hk) hj (hy l hl)) (ad_mono ?_ (le_refl _))))
      exact le_trans (hLZ k l hk hl) (hZ.1 k l m (.inl hk) (.inl hl) (.inr rfl))
    · rw [ext_is _ _ _ (ne i hi), ext_ij _ _ _ (ne i hi) (ne m hm), ext_is _ _ _ (ne m hm)]
      refine mns_ad2 fun k hk => ?_
      refine le_trans (mns_le hk) ?_
      rw [← ad_assoc]
      exact ad_mono (hL.1 i k m hi (hy k hk) hm) (le_refl _)
    · rw [ext_ss, ad_one]; exact le_refl _
    · rw [ext_sj _ _ _ (ne j hj), ext_ij _ _ _ (ne m hm) (ne j hj), ext_sj _ _ _ (ne m hm)]
      refine mns_ad fun k hk => ?_
      refine le_trans (mns_le hk) ?_
      rw [ad_assoc]
      exact ad_mono (le_refl _) (hL.1 k j m (hy k hk) hj hm)
    · rw [ext_ss, one_ad]; exact le_refl _
    · rw [ext_ss, ext_sj _ _ _ (ne m hm), ext_is _ _ _ (ne m hm)]
      refine mns_ad fun k hk => mns_ad2 fun l hl => ?_
      rw [ad_assoc, ← ad_assoc (L k m)]
      have h1 : le (L k l) (ad (L k m) (L m l)) := hL.1 k l m (hy k hk) (hy l hl) hm
      have h2 : le (L l k) (ad (Z l j) (Z j k)) := le_trans (hLZ l k hl hk) (hZ.1 l k j (.inl hl) (.inl hk) (.inr rfl))
      have h3 : le one (ad (L k l) (L l k)) := by rw [← hL.2 k (hy k hk)]; exact hL.1 k k l (hy k hk) (hy k hk) (hy l hl)
      have h4 : le one (ad (L k l) (ad (Z l j) (Z j k))) := le_trans h3 (ad_mono (le_refl _) h2)
      refine le_trans h4 ?_
      rw [← ad_assoc, ad_comm]
      exact ad_mono (le_refl _) (ad_mono h1 (le_refl _))
    · rw [ext_ss, ad_one]; exact le_refl _
  · rintro i (hi | rfl)
    · rw [ext_ij _ _ _ (ne i hi) (ne i hi)]; exact hL.2 i hi
    · exact ext_ss _ _ _ _
theorem ext_le (i j : Nat) (hi : i ∈ ys ∨ i = s) (hj : j ∈ ys ∨ j = s) : le (ext L Z s ys i j) (Z i j) := by
  have ne : ∀ i, i ∈ ys → i ≠ s := fun i hi e => hs (e ▸ hy i hi)
  rcases hi with hi | rfl
  · rcases hj with hj | rfl
    · rw [ext_ij _ _ _ (ne i hi) (ne j hj)]; exact hLZ i j hi hj
    · rw [ext_is _ _ _ (ne i hi)]
      refine le_trans (mns_le hi) ?_
      rw [hL.2 i (hy i hi), one_ad]; exact le_refl _
  · rcases hj with hj | rfl
    · rw [ext_sj _ _ _ (ne j hj)]
      refine le_trans (mns_le hj) ?_
      rw [hL.2 j (hy j hj), ad_one]; exact le_refl _
    · rw [ext_ss, hZ.2 j (.inr rfl)]; exact le_refl _
end
end Go.Proofs.YtkfnjdmjojodhaaDoor.way

namespace Go.Proofs.YtkfnjdmjojodhaaDoor.comp
open way num rat dbm Go.Proofs.YtkfnjdmjojodhaaDoor.tight Go.Proofs.YtkfnjdmjojodhaaDoor.incl Go.Proofs.YtkfnjdmjojodhaaDoor.zone
open bound hiding up
open proj (sk sk_lt dropT dropT_length dropT_at cl_cod dropT_tops dropT_own drop_kept)
set_option linter.unusedVariables false
set_option linter.unusedSectionVars false
set_option linter.unusedSimpArgs false

/-- the matrix of four clocks of two zones, one behind the other. -/
def bothT (a b : List Int) : List Int := [1, a[1]?.getD 0, lsr (a[3]?.getD 0) (b[1]?.getD 0), b[3]?.getD 0, a[0]?.getD 0, 1, a[5]?.getD 0, 9223372036854775807, lsr (a[2]?.getD 0) (b[0]?.getD 0), a[4]?.getD 0, 1, b[5]?.getD 0, b[2]?.getD 0, 9223372036854775807, b[4]?.getD 0, 1]
theorem both_length (a b : List Int) : (bothT a b).length = 16 := rfl
theorem both_all {P : Int → Prop} {a b : List Int} (ha : ∀ i, i < 6 → P (a[i]?.getD 0)) (hb : ∀ i, i < 6 → P (b[i]?.getD 0)) (h1 : P 1) (h2 : P 9223372036854775807) : ∀ p, p < 16 → P ((bothT a b)[p]?.getD 0) := by
  have hl : ∀ x y, P x → P y → P (lsr x y) := fun x y hx hy => by rcases lsr_is x y with e | e <;> rw [e] <;> assumption
  intro p hp
  rcases (by omega : p = 0 ∨ p = 1 ∨ p = 2 ∨ p = 3 ∨ p = 4 ∨ p = 5 ∨ p = 6 ∨ p = 7 ∨ p = 8 ∨ p = 9 ∨ p = 10 ∨ p = 11 ∨ p = 12 ∨ p = 13 ∨ p = 14 ∨ p = 15) with rfl | rfl | rfl | rfl | rfl | rfl | rfl | rfl | rfl | rfl | rfl | rfl | rfl | rfl | rfl | rfl
  · exact h1
  · exact ha 1 (by decide)
  · exact hl _ _ (ha 3 (by decide)) (hb 1 (by decide))
  · exact hb 3 (by decide)
  · exact ha 0 (by decide)
  · exact h1
  · exact ha 5 (by decide)
  · exact h2
  · exact hl _ _ (ha 2 (by decide)) (hb 0 (by decide))
  · exact ha 4 (by decide)
  · exact h1
  · exact hb 5 (by decide)
  · exact hb 2 (by decide)
  · exact h2
  · exact hb 4 (by decide)
  · exact h1
theorem both_tops {a b : List Int} (ta : Tops a) (tb : Tops b) : Tops (bothT a b) := tops_at fun p hp => both_all (P := fun x => x ≤ 9223372036854775807) (fun i _ => get_top ta i) (fun i _ => get_top tb i) (by decide) (by decide) p hp
/-- the six bounds of a matrix that may be. -/
theorem six_fine {a : List Int} (h : MayD 3 (fullT a)) : ∀ i, i < 6 → Fine (a[i]?.getD 0) := by
  intro i hi
  have f := h.2.2.2
  rcases (by omega : i = 0 ∨ i = 1 ∨ i = 2 ∨ i = 3 ∨ i = 4 ∨ i = 5) with rfl | rfl | rfl | rfl | rfl | rfl
  · exact f 3 (show 3 < 9 by decide)
  · exact f 1 (show 1 < 9 by decide)
  · exact f 6 (show 6 < 9 by decide)
  · exact f 2 (show 2 < 9 by decide)
  · exact f 7 (show 7 < 9 by decide)
  · exact f 5 (show 5 < 9 by decide)
theorem both_may {a b : List Int} (ha : MayD 3 (fullT a)) (hb : MayD 3 (fullT b)) : MayD 4 (bothT a b) :=
  ⟨by decide, by decide, rfl, both_all (six_fine ha) (six_fine hb) one_fine (.inl rfl)⟩
/-- a zone's weights. -/
def zw (a : List Int) : Tab := fun i j => cod (tat (fullT a) 3 i j)
/-- the zone that two zones compose to. -/
def compT (a b : List Int) : List Int := shortT (dropT 4 2 (bothT a b))
theorem comp_length (a b : List Int) : (compT a b).length = 6 := rfl
section
variable {a b : List Int} (ta : Tops a) (tb : Tops b) (ha : MayD 3 (fullT a)) (hb : MayD 3 (fullT b))
include ta tb
theorem drop_tops (h : OkD 4 (bothT a b)) : Tops (dropT 4 2 (bothT a b)) := dropT_tops (n := 4) (by decide) (by decide) rfl (both_tops ta tb) h
theorem comp_tops (h : OkD 4 (bothT a b)) : Tops (compT a b) := short_tops (drop_tops ta tb h)
theorem comp_full (h : OkD 4 (bothT a b)) : fullT (compT a b) = dropT 4 2 (bothT a b) := full_short (dropT_length 4 2 _) fun i hi => by
  rw [dropT_at (n := 4) (by decide) (by decide) rfl (both_tops ta tb) h hi hi, show clT ((4 : Nat) : Int) (bothT a b) = tabs 4 (by decide) (bothT a b) 4 from clT_nat (m := 4) (by decide) _]
  exact closed_diag (by decide) (by decide) rfl (both_tops ta tb) h.1.2.2.2 (fun m hm => h.2.2 m (by simpa using hm)) (sk_lt hi)
theorem comp_may (h : OkD 4 (bothT a b)) (hm : MayD 3 (dropT 4 2 (bothT a b))) : MayZ (compT a b) := by
  unfold MayZ
  rw [comp_full ta tb h]
  exact dropT_own (n := 4) (by decide) (by decide) rfl (both_tops ta tb) h (by decide) hm
/-- what composes, and the weights of what comes. -/
theorem comp_at (h : OkD 4 (bothT a b)) {i j : Nat} (hi : i < 3) (hj : j < 3) : zw (compT a b) i j = F (beg 4 (bothT a b)) 4 (sk 2 i) (sk 2 j) := by
  unfold zw
  rw [comp_full ta tb h, dropT_at (n := 4) (by decide) (by decide) rfl (both_tops ta tb) h hi hj]
  exact cl_cod (n := 4) (by decide) (by decide) rfl (both_tops ta tb) h (sk_lt hi) (sk_lt hj)
/-- what the closed one of four clocks is. -/
theorem comp_down (h : OkD 4 (bothT a b)) : Cl (fun i => i < 4) (F (beg 4 (bothT a b)) 4) ∧ (∀ i j, i < 3 → j < 3 → le (F (beg 4 (bothT a b)) 4 i j) (zw a i j)) ∧ ∀ i j, i < 3 → j < 3 → le (F (beg 4 (bothT a b)) 4 (sk 1 i) (sk 1 j)) (zw b i j) := by
  have tt := both_tops ta tb
  have g : way.Good (beg 4 (bothT a b)) 4 := (okD_good (n := 4) (by decide) (by decide) rfl tt h.1).1 h
  have hone : ∀ i, i < 4 → F (beg 4 (bothT a b)) 4 i i = way.one := fun i hi => clo_one (n := 4) (by decide) (by decide) rfl tt h i hi
  have hle : ∀ i j, i < 4 → j < 4 → le (F (beg 4 (bothT a b)) 4 i j) (cod (tat (bothT a b) 4 i j)) := fun i j hi hj => le_trans (F_le _ _ _ _) (beg_le_cod (n := 4) (by decide) (by decide) rfl rfl tt tt i j hi hj)
  have l1 : ∀ x y, x ≤ 9223372036854775807 → y ≤ 9223372036854775807 → le (cod (lsr x y)) (cod x) := fun x y hx hy => by rw [cod_lsr hx hy]; exact mn_left _ _
  have l2 : ∀ x y, x ≤ 9223372036854775807 → y ≤ 9223372036854775807 → le (cod (lsr x y)) (cod y) := fun x y hx hy => by rw [cod_lsr hx hy]; exact mn_right _ _
  refine ⟨⟨fun i j m _ _ hm => good_tri g m hm i j, hone⟩, fun i j hi hj => ?_, fun i j hi hj => ?_⟩
  · rcases (by omega : i = 0 ∨ i = 1 ∨ i = 2) with rfl | rfl | rfl <;> rcases (by omega : j = 0 ∨ j = 1 ∨ j = 2) with rfl | rfl | rfl
    · rw [hone 0 (by decide)]; exact le_refl _
    · exact hle 0 1 (by decide) (by decide)
    · exact le_trans (hle 0 2 (by decide) (by decide)) (l1 _ _ (get_top ta 3) (get_top tb 1))
    · exact hle 1 0 (by decide) (by decide)
    · rw [hone 1 (by decide)]; exact le_refl _
    · exact hle 1 2 (by decide) (by decide)
    · exact le_trans (hle 2 0 (by decide) (by decide)) (l1 _ _ (get_top ta 2) (get_top tb 0))
    · exact hle 2 1 (by decide) (by decide)
    · rw [hone 2 (by decide)]; exact le_refl _
  · rcases (by omega : i = 0 ∨ i = 1 ∨ i = 2) with rfl | rfl | rfl <;> rcases (by omega : j = 0 ∨ j = 1 ∨ j = 2) with rfl | rfl | rfl
    · show le (F _ 4 0 0) _; rw [hone 0 (by decide)]; exact le_refl _
    · exact le_trans (hle 0 2 (by decide) (by decide)) (l2 _ _ (get_top ta 3) (get_top tb 1))
    · exact hle 0 3 (by decide) (by decide)
    · exact le_trans (hle 2 0 (by decide) (by decide)) (l2 _ _ (get_top ta 2) (get_top tb 0))
    · show le (F _ 4 2 2) _; rw [hone 2 (by decide)]; exact le_refl _
    · exact hle 2 3 (by decide) (by decide)
    · exact hle 3 0 (by decide) (by decide)
    · exact hle 3 2 (by decide) (by decide)
    · show le (F _ 4 3 3) _; rw [hone 3 (by decide)]; exact le_refl _
include ha hb
/-- a closed table that lies in both composes. -/
theorem comp_up {G : Tab} {S : Nat → Prop} {c : Nat → Nat} (hc : ∀ i, i < 4 → S (c i)) (hG : Cl S G) (hA : ∀ i j, i < 3 → j < 3 → le (G (c i) (c j)) (zw a i j)) (hB : ∀ i j, i < 3 → j < 3 → le (G (c (sk 1 i)) (c (sk 1 j))) (zw b i j)) :
    OkD 4 (bothT a b) ∧ ∀ i j, i < 3 → j < 3 → le (G (c (sk 2 i)) (c (sk 2 j))) (zw (compT a b) i j) := by
  have tt := both_tops ta tb
  have hm := both_may ha hb
  have E : ∃ E : Tab, ∀ i j, E i j = if i < 4 ∧ j < 4 then G (c i) (c j) else none := ⟨_, fun _ _ => rfl⟩
  obtain ⟨E, hE⟩ := E
  have e1 : ∀ i j, i < 4 → j < 4 → E i j = G (c i) (c j) := fun i j hi hj => by rw [hE, if_pos ⟨hi, hj⟩]
  have e2 : ∀ i j, ¬ (i < 4 ∧ j < 4) → E i j = none := fun i j h => by rw [hE, if_neg h]
  have hT : Tri E 4 := fun m hm i j => by
    by_cases hi : i < 4
    · by_cases hj : j < 4
      · rw [e1 i j hi hj, e1 i m hi hm, e1 m j hm hj]; exact hG.1 _ _ _ (hc i hi) (hc j hj) (hc m hm)
      · rw [e2 m j (fun h => hj h.2), ad_none]; exact le_none _
    · rw [e2 i m (fun h => hi h.1), none_ad]; exact le_none _
  have hF : ∀ k, k ≤ 4 → ∀ i j, F E k i j = E i j := F_id hT
  have hg : way.Good E 4 := fun k hk i => by
    rw [hF k hk]
    by_cases hi : i < 4
    · rw [e1 i i hi hi, hG.2 _ (hc i hi)]; exact le_refl _
    · rw [e2 i i (fun h => hi h.1)]; exact le_none _
  have l3 : ∀ x y z, x ≤ 9223372036854775807 → y ≤ 9223372036854775807 → le z (cod x) → le z (cod y) → le z (cod (lsr x y)) := fun x y z hx hy h k => by rw [cod_lsr hx hy]; exact le_mn h k
  have hd : ∀ i, i < 4 → le (E i i) (cod (lsr 1 1)) := fun i hi => by rw [e1 i i hi hi, hG.2 _ (hc i hi)]; exact le_refl _
  have hle : ∀ i j, le (E i j) (beg 4 (bothT a b) i j) := fun i j => by
    by_cases hi : i < 4
    · by_cases hj : j < 4
      · unfold beg
        rw [wts_in hi hj, beg_at (n := 4) rfl (by decide) hi hj]
        rcases (by omega : i = 0 ∨ i = 1 ∨ i = 2 ∨ i = 3) with rfl | rfl | rfl | rfl <;> rcases (by omega : j = 0 ∨ j = 1 ∨ j = 2 ∨ j = 3) with rfl | rfl | rfl | rfl
        · exact hd 0 hi
        · rw [e1 _ _ hi hj]; exact hA 0 1 (by decide) (by decide)
        · rw [e1 _ _ hi hj]; exact l3 _ _ _ (get_top ta 3) (get_top tb 1) (hA 0 2 (by decide) (by decide)) (hB 0 1 (by decide) (by decide))
        · rw [e1 _ _ hi hj]; exact hB 0 2 (by decide) (by decide)
        · rw [e1 _ _ hi hj]; exact hA 1 0 (by decide) (by decide)
        · exact hd 1 hi
        · rw [e1 _ _ hi hj]; exact hA 1 2 (by decide) (by decide)
        · exact le_none _
        · rw [e1 _ _ hi hj]; exact l3 _ _ _ (get_top ta 2) (get_top tb 0) (hA 2 0 (by decide) (by decide)) (hB 1 0 (by decide) (by decide))
        · rw [e1 _ _ hi hj]; exact hA 2 1 (by decide) (by decide)
        · exact hd 2 hi
        · rw [e1 _ _ hi hj]; exact hB 1 2 (by decide) (by decide)
        · rw [e1 _ _ hi hj]; exact hB 2 0 (by decide) (by decide)
        · exact le_none _
        · rw [e1 _ _ hi hj]; exact hB 2 1 (by decide) (by decide)
        · exact hd 3 hi
      · rw [show beg 4 (bothT a b) i j = none from wts_out2 hj]; exact le_none _
    · rw [show beg 4 (bothT a b) i j = none from wts_out hi]; exact le_none _
  have hok : OkD 4 (bothT a b) := (okD_good (n := 4) (by decide) (by decide) rfl tt hm).2 (good_mono hle hg)
  refine ⟨hok, fun i j hi hj => ?_⟩
  rw [comp_at ta tb hok hi hj, ← e1 _ _ (sk_lt (k := 2) (n := 4) hi) (sk_lt (k := 2) (n := 4) hj), ← hF 4 (Nat.le_refl _)]
  exact F_mono hle 4 _ _
end

/-! which two of three come first -/
section
variable {a b c : List Int} (ta : Tops a) (tb : Tops b) (tc : Tops c) (ha : MayD 3 (fullT a)) (hb : MayD 3 (fullT b)) (hc : MayD 3 (fullT c))
  (hab : OkD 4 (bothT a b)) (hbc : OkD 4 (bothT b c)) (hx : MayD 3 (fullT (compT a b))) (hy : MayD 3 (fullT (compT b c)))
include ta tb tc ha hb hc hab hbc hx hy
theorem first_left (h : OkD 4 (bothT (compT a b) c)) : OkD 4 (bothT a (compT b c)) ∧ ∀ i j, i < 3 → j < 3 → le (zw (compT (compT a b) c) i j) (zw (compT a (compT b c)) i j) := by
  have tx := comp_tops ta tb hab
  have ty := comp_tops tb tc hbc
  obtain ⟨l1, l2, l3⟩ := comp_down tx tc h
  obtain ⟨z1, z2, z3⟩ := comp_down ta tb hab
  have lz : ∀ i j, i < 3 → j < 3 → le (F (beg 4 (bothT (compT a b) c)) 4 i j) (F (beg 4 (bothT a b)) 4 (sk 2 i) (sk 2 j)) := fun i j hi hj => by rw [← comp_at ta tb hab hi hj]; exact l2 i j hi hj
  have lo := fun i j (hi : i < 3) (hj : j < 3) => comp_at tx tc h hi hj
  generalize F (beg 4 (bothT (compT a b) c)) 4 = L at l1 l2 l3 lz lo
  generalize F (beg 4 (bothT a b)) 4 = Z at z1 z2 z3 lz
  have dn : ∃ dn : Nat → Nat, dn 0 = 0 ∧ dn 1 = 1 ∧ dn 3 = 2 ∧ dn 4 = 3 := ⟨fun i => if i < 2 then i else i - 1, rfl, rfl, rfl, rfl⟩
  obtain ⟨dn, d0, d1, d3, d4⟩ := dn
  have hX : ∀ i, (i = 0 ∨ i = 1 ∨ i = 3 ∨ i = 4) → dn i < 4 := by rintro i (rfl | rfl | rfl | rfl) <;> omega
  have cL : Cl (fun i => i = 0 ∨ i = 1 ∨ i = 3 ∨ i = 4) (fun i j => L (dn i) (dn j)) := ⟨fun i j m hi hj hm => l1.1 _ _ _ (hX i hi) (hX j hj) (hX m hm), fun i hi => l1.2 _ (hX i hi)⟩
  have cZ : Cl (fun i => i ∈ [0, 1, 3] ∨ i = 2) Z := ⟨fun i j m hi hj hm => z1.1 _ _ _ (by simp at hi; omega) (by simp at hj; omega) (by simp at hm; omega), fun i hi => z1.2 _ (by simp at hi; omega)⟩
  have lzz : ∀ k l, k ∈ [0, 1, 3] → l ∈ [0, 1, 3] → le (L (dn k) (dn l)) (Z k l) := fun k l hk hl => by
    simp only [List.mem_cons, List.not_mem_nil, or_false] at hk hl
    rcases hk with rfl | rfl | rfl <;> rcases hl with rfl | rfl | rfl <;> simp only [d0, d1, d3]
    · exact lz 0 0 (by decide) (by decide)
    · exact lz 0 1 (by decide) (by decide)
    · exact lz 0 2 (by decide) (by decide)
    · exact lz 1 0 (by decide) (by decide)
    · exact lz 1 1 (by decide) (by decide)
    · exact lz 1 2 (by decide) (by decide)
    · exact lz 2 0 (by decide) (by decide)
    · exact lz 2 1 (by decide) (by decide)
    · exact lz 2 2 (by decide) (by decide)
  have cG := ext_cl cL cZ (by simp) (by decide) lzz
  have gZ := ext_le cL cZ (by simp) (by decide) lzz
  have gL : ∀ i j, i ≠ 2 → j ≠ 2 → ext (fun i j => L (dn i) (dn j)) Z 2 [0, 1, 3] i j = L (dn i) (dn j) := fun i j hi hj => ext_ij _ _ _ hi hj
  generalize ext (fun i j => L (dn i) (dn j)) Z 2 [0, 1, 3] = G at cG gZ gL
  -- the second one and the third one, on 0, s, r, u
  obtain ⟨_, y1⟩ := comp_up (c := sk 1) tb tc hb hc (by intro i hi; rcases (by omega : i = 0 ∨ i = 1 ∨ i = 2 ∨ i = 3) with rfl | rfl | rfl | rfl <;> decide) cG
    (fun i j hi hj => le_trans (gZ _ _ (by rcases (by omega : i = 0 ∨ i = 1 ∨ i = 2) with rfl | rfl | rfl <;> decide) (by rcases (by omega : j = 0 ∨ j = 1 ∨ j = 2) with rfl | rfl | rfl <;> decide)) (z3 i j hi hj))
    (fun i j hi hj => by
      have q : ∀ i, i < 3 → sk 1 (sk 1 i) ≠ 2 ∧ dn (sk 1 (sk 1 i)) = sk 1 i := fun i hi => by rcases (by omega : i = 0 ∨ i = 1 ∨ i = 2) with rfl | rfl | rfl <;> exact ⟨by decide, by assumption⟩
      rw [gL _ _ (q i hi).1 (q j hj).1, (q i hi).2, (q j hj).2]; exact l3 i j hi hj)
  obtain ⟨ok, u1⟩ := comp_up (c := fun i => if i < 3 then i else 4) ta ty ha hy (by intro i hi; rcases (by omega : i = 0 ∨ i = 1 ∨ i = 2 ∨ i = 3) with rfl | rfl | rfl | rfl <;> decide) cG
    (fun i j hi hj => by
      show le (G (if i < 3 then i else 4) (if j < 3 then j else 4)) _
      rw [if_pos hi, if_pos hj]
      exact le_trans (gZ _ _ (by rcases (by omega : i = 0 ∨ i = 1 ∨ i = 2) with rfl | rfl | rfl <;> decide) (by rcases (by omega : j = 0 ∨ j = 1 ∨ j = 2) with rfl | rfl | rfl <;> decide)) (z2 i j hi hj))
    (fun i j hi hj => by
      have q : ∀ i, i < 3 → (if sk 1 i < 3 then sk 1 i else 4) = sk 1 (sk 2 i) := fun i hi => by rcases (by omega : i = 0 ∨ i = 1 ∨ i = 2) with rfl | rfl | rfl <;> decide
      show le (G (if sk 1 i < 3 then sk 1 i else 4) (if sk 1 j < 3 then sk 1 j else 4)) _
      rw [q i hi, q j hj]; exact y1 i j hi hj)
  refine ⟨ok, fun i j hi hj => ?_⟩
  have := u1 i j hi hj
  rw [lo i j hi hj]
  have q : ∀ i, i < 3 → (if sk 2 i < 3 then sk 2 i else 4) ≠ 2 ∧ dn (if sk 2 i < 3 then sk 2 i else 4) = sk 2 i := fun i hi => by rcases (by omega : i = 0 ∨ i = 1 ∨ i = 2) with rfl | rfl | rfl <;> exact ⟨by decide, by assumption⟩
  rw [← (q i hi).2, ← (q j hj).2, ← gL _ _ (q i hi).1 (q j hj).1]
  exact this
theorem first_right (h : OkD 4 (bothT a (compT b c))) : OkD 4 (bothT (compT a b) c) ∧ ∀ i j, i < 3 → j < 3 → le (zw (compT a (compT b c)) i j) (zw (compT (compT a b) c) i j) := by
  have tx := comp_tops ta tb hab
  have ty := comp_tops tb tc hbc
  obtain ⟨l1, l2, l3⟩ := comp_down ta ty h
  obtain ⟨z1, z2, z3⟩ := comp_down tb tc hbc
  have lz : ∀ i j, i < 3 → j < 3 → le (F (beg 4 (bothT a (compT b c))) 4 (sk 1 i) (sk 1 j)) (F (beg 4 (bothT b c)) 4 (sk 2 i) (sk 2 j)) := fun i j hi hj => by rw [← comp_at tb tc hbc hi hj]; exact l3 i j hi hj
  have lo := fun i j (hi : i < 3) (hj : j < 3) => comp_at ta ty h hi hj
  generalize F (beg 4 (bothT a (compT b c))) 4 = L at l1 l2 l3 lz lo
  generalize F (beg 4 (bothT b c)) 4 = Z at z1 z2 z3 lz
  have dn : ∃ dn : Nat → Nat, dn 0 = 0 ∧ dn 1 = 1 ∧ dn 2 = 2 ∧ dn 4 = 3 := ⟨fun i => if i < 3 then i else i - 1, rfl, rfl, rfl, rfl⟩
  obtain ⟨dn, d0, d1, d2, d4⟩ := dn
  have zn : ∃ zn : Nat → Nat, zn 0 = 0 ∧ zn 2 = 1 ∧ zn 3 = 2 ∧ zn 4 = 3 := ⟨fun i => i - 1, rfl, rfl, rfl, rfl⟩
  obtain ⟨zn, n0, n2, n3, n4⟩ := zn
  have hX : ∀ i, (i = 0 ∨ i = 1 ∨ i = 2 ∨ i = 4) → dn i < 4 := by rintro i (rfl | rfl | rfl | rfl) <;> omega
  have hN : ∀ i, (i ∈ [0, 2, 4] ∨ i = 3) → zn i < 4 := by
    intro i hi
    simp only [List.mem_cons, List.not_mem_nil, or_false] at hi
    rcases hi with (rfl | rfl | rfl) | rfl <;> omega
  have cL : Cl (fun i => i = 0 ∨ i = 1 ∨ i = 2 ∨ i = 4) (fun i j => L (dn i) (dn j)) := ⟨fun i j m hi hj hm => l1.1 _ _ _ (hX i hi) (hX j hj) (hX m hm), fun i hi => l1.2 _ (hX i hi)⟩
  have cZ : Cl (fun i => i ∈ [0, 2, 4] ∨ i = 3) (fun i j => Z (zn i) (zn j)) := ⟨fun i j m hi hj hm => z1.1 _ _ _ (hN i hi) (hN j hj) (hN m hm), fun i hi => z1.2 _ (hN i hi)⟩
  have lzz : ∀ k l, k ∈ [0, 2, 4] → l ∈ [0, 2, 4] → le (L (dn k) (dn l)) (Z (zn k) (zn l)) := fun k l hk hl => by
    simp only [List.mem_cons, List.not_mem_nil, or_false] at hk hl
    rcases hk with rfl | rfl | rfl <;> rcases hl with rfl | rfl | rfl <;> simp only [d0, d2, d4, n0, n2, n4]
    · exact lz 0 0 (by decide) (by decide)
    · exact lz 0 1 (by decide) (by decide)
    · exact lz 0 2 (by decide) (by decide)
    · exact lz 1 0 (by decide) (by decide)
    · exact lz 1 1 (by decide) (by decide)
    · exact lz 1 2 (by decide) (by decide)
    · exact lz 2 0 (by decide) (by decide)
    · exact lz 2 1 (by decide) (by decide)
    · exact lz 2 2 (by decide) (by decide)
  have cG := ext_cl cL cZ (by simp) (by decide) lzz
  have gZ := ext_le cL cZ (by simp) (by decide) lzz
  have gL : ∀ i j, i ≠ 3 → j ≠ 3 → ext (fun i j => L (dn i) (dn j)) (fun i j => Z (zn i) (zn j)) 3 [0, 2, 4] i j = L (dn i) (dn j) := fun i j hi hj => ext_ij _ _ _ hi hj
  generalize ext (fun i j => L (dn i) (dn j)) (fun i j => Z (zn i) (zn j)) 3 [0, 2, 4] = G at cG gZ gL
  -- the first one and the second one, on 0, t, s, r
  obtain ⟨_, x1⟩ := comp_up (c := fun i => i) ta tb ha hb (by intro i hi; rcases (by omega : i = 0 ∨ i = 1 ∨ i = 2 ∨ i = 3) with rfl | rfl | rfl | rfl <;> decide) cG
    (fun i j hi hj => by
      have q : ∀ i, i < 3 → i ≠ 3 ∧ dn i = i := fun i hi => by rcases (by omega : i = 0 ∨ i = 1 ∨ i = 2) with rfl | rfl | rfl <;> exact ⟨by decide, by assumption⟩
      show le (G i j) _
      rw [gL _ _ (q i hi).1 (q j hj).1, (q i hi).2, (q j hj).2]; exact l2 i j hi hj)
    (fun i j hi hj => by
      have q : ∀ i, i < 3 → (sk 1 i ∈ [0, 2, 4] ∨ sk 1 i = 3) ∧ zn (sk 1 i) = i := fun i hi => by rcases (by omega : i = 0 ∨ i = 1 ∨ i = 2) with rfl | rfl | rfl <;> exact ⟨by decide, by assumption⟩
      refine le_trans (gZ _ _ (q i hi).1 (q j hj).1) ?_
      rw [(q i hi).2, (q j hj).2]; exact z2 i j hi hj)
  obtain ⟨ok, u1⟩ := comp_up (c := sk 2) tx tc hx hc (by intro i hi; rcases (by omega : i = 0 ∨ i = 1 ∨ i = 2 ∨ i = 3) with rfl | rfl | rfl | rfl <;> decide) cG
    (fun i j hi hj => x1 i j hi hj)
    (fun i j hi hj => by
      have q : ∀ i, i < 3 → (sk 2 (sk 1 i) ∈ [0, 2, 4] ∨ sk 2 (sk 1 i) = 3) ∧ zn (sk 2 (sk 1 i)) = sk 1 i := fun i hi => by rcases (by omega : i = 0 ∨ i = 1 ∨ i = 2) with rfl | rfl | rfl <;> exact ⟨by decide, by assumption⟩
      refine le_trans (gZ _ _ (q i hi).1 (q j hj).1) ?_
      rw [(q i hi).2, (q j hj).2]; exact z3 i j hi hj)
  refine ⟨ok, fun i j hi hj => ?_⟩
  have := u1 i j hi hj
  rw [lo i j hi hj]
  have q : ∀ i, i < 3 → sk 2 (sk 2 i) ≠ 3 ∧ dn (sk 2 (sk 2 i)) = sk 2 i := fun i hi => by rcases (by omega : i = 0 ∨ i = 1 ∨ i = 2) with rfl | rfl | rfl <;> exact ⟨by decide, by assumption⟩
  rw [← (q i hi).2, ← (q j hj).2, ← gL _ _ (q i hi).1 (q j hj).1]
  exact this
end
/-- zones of the same weights are the same. -/
theorem zw_ext {x y : List Int} (lx : x.length = 6) (ly : y.length = 6) (h : ∀ i j, i < 3 → j < 3 → zw x i j = zw y i j) : x = y :=
  full_inj lx ly (list_ext (n := 3) (by decide) rfl rfl fun i j hi hj => cod_inj (h i j hi hj))
theorem zw_le {x y : List Int} (tx : Tops x) (ty : Tops y) (h : ∀ i j, i < 3 → j < 3 → le (zw x i j) (zw y i j)) : ∀ p, p < 9 → (fullT x)[p]?.getD 0 ≤ (fullT y)[p]?.getD 0 := fun p hp => by
  have q := h (p / 3) (p % 3) (by omega) (by omega)
  have e : ∀ z, tat (fullT z) 3 (p / 3) (p % 3) = (fullT z)[p]?.getD 0 := fun z => by
    unfold tat
    rw [show p / 3 * 3 + p % 3 = p by omega]
  unfold zw at q
  rw [e, e] at q
  exact (cod_le (at_top (full_tops tx) (by exact hp)) (at_top (full_tops ty) (by exact hp))).1 q
theorem le_zw {x y : List Int} (tx : Tops x) (ty : Tops y) (h : ∀ p, p < 9 → (fullT x)[p]?.getD 0 ≤ (fullT y)[p]?.getD 0) : ∀ i j, i < 3 → j < 3 → le (zw x i j) (zw y i j) := fun i j hi hj =>
  (cod_le (at_top (full_tops tx) (show i * 3 + j < 9 by omega)) (at_top (full_tops ty) (show i * 3 + j < 9 by omega))).2 (h (i * 3 + j) (by omega))
/-- which two of three are composed first turns nothing. -/
theorem first_same {a b c : List Int} (ta : Tops a) (tb : Tops b) (tc : Tops c) (ha : MayD 3 (fullT a)) (hb : MayD 3 (fullT b)) (hc : MayD 3 (fullT c))
    (hab : OkD 4 (bothT a b)) (hbc : OkD 4 (bothT b c)) (hx : MayD 3 (fullT (compT a b))) (hy : MayD 3 (fullT (compT b c))) :
    (OkD 4 (bothT (compT a b) c) ↔ OkD 4 (bothT a (compT b c))) ∧ (OkD 4 (bothT (compT a b) c) → compT (compT a b) c = compT a (compT b c)) := by
  refine ⟨⟨fun h => (first_left ta tb tc ha hb hc hab hbc hx hy h).1, fun h => (first_right ta tb tc ha hb hc hab hbc hx hy h).1⟩, fun h => ?_⟩
  obtain ⟨k, l⟩ := first_left ta tb tc ha hb hc hab hbc hx hy h
  obtain ⟨_, r⟩ := first_right ta tb tc ha hb hc hab hbc hx hy k
  exact zw_ext (comp_length _ _) (comp_length _ _) fun i j hi hj => le_antisymm (l i j hi hj) (r i j hi hj)

/-! the other way round -/
def backT (a : List Int) : List Int := [a[2]?.getD 0, a[3]?.getD 0, a[0]?.getD 0, a[1]?.getD 0, a[5]?.getD 0, a[4]?.getD 0]
def sw (i : Nat) : Nat := if i = 1 then 2 else if i = 2 then 1 else i
theorem back_length (a : List Int) : (backT a).length = 6 := rfl
theorem back_back {a : List Int} (h : a.length = 6) : backT (backT a) = a := by
  obtain ⟨x0, x1, x2, x3, x4, x5, rfl⟩ := six h
  rfl
theorem back_zw (a : List Int) : ∀ i j, i < 3 → j < 3 → zw (backT a) i j = zw a (sw i) (sw j) := fun i j hi hj => by
  rcases (by omega : i = 0 ∨ i = 1 ∨ i = 2) with rfl | rfl | rfl <;> rcases (by omega : j = 0 ∨ j = 1 ∨ j = 2) with rfl | rfl | rfl <;> rfl
theorem back_tops {a : List Int} (ta : Tops a) : Tops (backT a) := tops_at fun p hp => by
  have hp : p < 6 := hp
  rcases (by omega : p = 0 ∨ p = 1 ∨ p = 2 ∨ p = 3 ∨ p = 4 ∨ p = 5) with rfl | rfl | rfl | rfl | rfl | rfl
  · exact get_top ta 2
  · exact get_top ta 3
  · exact get_top ta 0
  · exact get_top ta 1
  · exact get_top ta 5
  · exact get_top ta 4
theorem back_mayd {a : List Int} (h : MayD 3 (fullT a)) : MayD 3 (fullT (backT a)) := full_may fun i hi => by
  have f := six_fine h
  rcases (by omega : i = 0 ∨ i = 1 ∨ i = 2 ∨ i = 3 ∨ i = 4 ∨ i = 5) with rfl | rfl | rfl | rfl | rfl | rfl
  · exact f 2 (by decide)
  · exact f 3 (by decide)
  · exact f 0 (by decide)
  · exact f 1 (by decide)
  · exact f 5 (by decide)
  · exact f 4 (by decide)
/-- a zone that may be is closed. -/
theorem may_cl {a : List Int} (ta : Tops a) (h : MayZ a) : Cl (fun i => i < 3) (zw a) := by
  have tt := full_tops ta
  have g : way.Good (beg 3 (fullT a)) 3 := (okD_good (n := 3) (by decide) (by decide) rfl tt h.1.1).1 h.1
  have e : ∀ i j, i < 3 → j < 3 → zw a i j = F (beg 3 (fullT a)) 3 i j := fun i j hi hj => by
    have := cl_cod (n := 3) (by decide) (by decide) rfl tt h.1 hi hj
    rw [show clT ((3 : Nat) : Int) (fullT a) = fullT a from h.2] at this
    exact this
  refine ⟨fun i j m hi hj hm => ?_, fun i hi => ?_⟩
  · rw [e i j hi hj, e i m hi hm, e m j hm hj]; exact good_tri g m hm i j
  · rw [e i i hi hi]; exact clo_one (n := 3) (by decide) (by decide) rfl tt h.1 i hi
theorem cl_may {a : List Int} (ta : Tops a) (h : MayD 3 (fullT a)) (hc : Cl (fun i => i < 3) (zw a)) : MayZ a :=
  own_closed (m := 3) (by decide) (by decide) rfl (full_tops ta) h (fun i hi => by
    have := hc.2 i hi
    rcases (by omega : i = 0 ∨ i = 1 ∨ i = 2) with rfl | rfl | rfl <;> rfl) (fun i j l hi hj hl => hc.1 i j l hi hj hl)
theorem sw_lt {i : Nat} (h : i < 3) : sw i < 3 := by rcases (by omega : i = 0 ∨ i = 1 ∨ i = 2) with rfl | rfl | rfl <;> decide
theorem back_may {a : List Int} (ta : Tops a) (h : MayZ a) : MayZ (backT a) := by
  have hc := may_cl ta h
  refine cl_may (back_tops ta) (back_mayd h.may) ⟨fun i j m hi hj hm => ?_, fun i hi => ?_⟩
  · rw [back_zw a i j hi hj, back_zw a i m hi hm, back_zw a m j hm hj]; exact hc.1 _ _ _ (sw_lt hi) (sw_lt hj) (sw_lt hm)
  · rw [back_zw a i i hi hi]; exact hc.2 _ (sw_lt hi)
theorem back_iff {a : List Int} (la : a.length = 6) (ta : Tops a) : MayZ (backT a) ↔ MayZ a := ⟨fun h => by have := back_may (back_tops ta) h; rwa [back_back la] at this, back_may ta⟩
theorem back_up {a b : List Int} (ta : Tops a) (tb : Tops b) (ha : MayD 3 (fullT a)) (hb : MayD 3 (fullT b)) (h : OkD 4 (bothT a b)) :
    OkD 4 (bothT (backT b) (backT a)) ∧ ∀ i j, i < 3 → j < 3 → le (zw (compT a b) (sw i) (sw j)) (zw (compT (backT b) (backT a)) i j) := by
  obtain ⟨l1, l2, l3⟩ := comp_down ta tb h
  have lo := fun i j (hi : i < 3) (hj : j < 3) => comp_at ta tb h hi hj
  generalize F (beg 4 (bothT a b)) 4 = L at l1 l2 l3 lo
  obtain ⟨ok, u⟩ := comp_up (c := fun i => if i = 1 then 3 else if i = 3 then 1 else i) (back_tops tb) (back_tops ta) (back_mayd hb) (back_mayd ha) (by intro i hi; rcases (by omega : i = 0 ∨ i = 1 ∨ i = 2 ∨ i = 3) with rfl | rfl | rfl | rfl <;> decide) l1
    (fun i j hi hj => by
      rw [back_zw b i j hi hj]
      have q : ∀ i, i < 3 → (if i = 1 then 3 else if i = 3 then 1 else i) = sk 1 (sw i) := fun i hi => by rcases (by omega : i = 0 ∨ i = 1 ∨ i = 2) with rfl | rfl | rfl <;> decide
      show le (L (if i = 1 then 3 else if i = 3 then 1 else i) (if j = 1 then 3 else if j = 3 then 1 else j)) _
      rw [q i hi, q j hj]; exact l3 _ _ (sw_lt hi) (sw_lt hj))
    (fun i j hi hj => by
      rw [back_zw a i j hi hj]
      have q : ∀ i, i < 3 → (if sk 1 i = 1 then 3 else if sk 1 i = 3 then 1 else sk 1 i) = sw i := fun i hi => by rcases (by omega : i = 0 ∨ i = 1 ∨ i = 2) with rfl | rfl | rfl <;> decide
      show le (L (if sk 1 i = 1 then 3 else if sk 1 i = 3 then 1 else sk 1 i) (if sk 1 j = 1 then 3 else if sk 1 j = 3 then 1 else sk 1 j)) _
      rw [q i hi, q j hj]; exact l2 _ _ (sw_lt hi) (sw_lt hj))
  refine ⟨ok, fun i j hi hj => ?_⟩
  have q : ∀ i, i < 3 → (if sk 2 i = 1 then 3 else if sk 2 i = 3 then 1 else sk 2 i) = sk 2 (sw i) := fun i hi => by rcases (by omega : i = 0 ∨ i = 1 ∨ i = 2) with rfl | rfl | rfl <;> decide
  rw [lo _ _ (sw_lt hi) (sw_lt hj), ← q i hi, ← q j hj]
  exact u i j hi hj
theorem sw_sw (i : Nat) : sw (sw i) = i := by
  by_cases h1 : i = 1
  · subst h1; rfl
  · by_cases h2 : i = 2
    · subst h2; rfl
    · have e : sw i = i := by unfold sw; rw [if_neg h1, if_neg h2]
      rw [e, e]
/-- the other way round both change places. -/
theorem back_same {a b : List Int} (la : a.length = 6) (lb : b.length = 6) (ta : Tops a) (tb : Tops b) (ha : MayD 3 (fullT a)) (hb : MayD 3 (fullT b)) :
    (OkD 4 (bothT (backT b) (backT a)) ↔ OkD 4 (bothT a b)) ∧ (OkD 4 (bothT a b) → compT (backT b) (backT a) = backT (compT a b)) := by
  have k : OkD 4 (bothT (backT b) (backT a)) → OkD 4 (bothT a b) ∧ ∀ i j, i < 3 → j < 3 → le (zw (compT (backT b) (backT a)) (sw i) (sw j)) (zw (compT a b) i j) := fun h => by
    have := back_up (back_tops tb) (back_tops ta) (back_mayd hb) (back_mayd ha) h
    rwa [back_back la, back_back lb] at this
  refine ⟨⟨fun h => (k h).1, fun h => (back_up ta tb ha hb h).1⟩, fun h => ?_⟩
  obtain ⟨h2, l⟩ := back_up ta tb ha hb h
  obtain ⟨_, r⟩ := k h2
  refine zw_ext (comp_length _ _) (back_length _) fun i j hi hj => ?_
  rw [back_zw _ i j hi hj]
  refine le_antisymm ?_ (l i j hi hj)
  have := r (sw i) (sw j) (sw_lt hi) (sw_lt hj)
  rwa [sw_sw, sw_sw] at this
/-- a lesser zone composes to a lesser one. -/
theorem less_comp {l a b : List Int} (tl : Tops l) (ta : Tops a) (tb : Tops b) (ha : MayD 3 (fullT a)) (hb : MayD 3 (fullT b)) (hle : ∀ p, p < 9 → (fullT l)[p]?.getD 0 ≤ (fullT a)[p]?.getD 0) (h : OkD 4 (bothT l b)) :
    OkD 4 (bothT a b) ∧ ∀ p, p < 9 → (fullT (compT l b))[p]?.getD 0 ≤ (fullT (compT a b))[p]?.getD 0 := by
  obtain ⟨l1, l2, l3⟩ := comp_down tl tb h
  have lo := fun i j (hi : i < 3) (hj : j < 3) => comp_at tl tb h hi hj
  have hz := le_zw tl ta hle
  obtain ⟨ok, u⟩ := comp_up (c := fun i => i) ta tb ha hb (fun i hi => hi) l1 (fun i j hi hj => le_trans (l2 i j hi hj) (hz i j hi hj)) l3
  refine ⟨ok, zw_le (comp_tops tl tb h) (comp_tops ta tb ok) fun i j hi hj => ?_⟩
  rw [lo i j hi hj]; exact u i j hi hj
/-- the answer of a composition. -/
def CompR (a b z : List Int) (f : Int) : Prop := (¬ (MayZ a ∧ MayZ b) ∧ z = zero6 ∧ f = 8) ∨ (MayZ a ∧ MayZ b ∧ ¬ OkD 4 (bothT a b) ∧ z = zero6 ∧ f = 6) ∨ (MayZ a ∧ MayZ b ∧ OkD 4 (bothT a b) ∧ ¬ MayD 3 (fullT (compT a b)) ∧ z = zero6 ∧ f = 8) ∨ (MayZ a ∧ MayZ b ∧ OkD 4 (bothT a b) ∧ MayZ (compT a b) ∧ z = compT a b ∧ f = 0)
end Go.Proofs.YtkfnjdmjojodhaaDoor.comp

namespace Go.Proofs.YtkfnjdmjojodhaaDoor.comp
open Go.Joins Go.ChangeShapes Go.WideShapes Go.ChangeAt Go.RowKit num rat dbm Go.Proofs.YtkfnjdmjojodhaaDoor.tight Go.Proofs.YtkfnjdmjojodhaaDoor.plaw Go.Proofs.YtkfnjdmjojodhaaDoor.zopen Go.Proofs.YtkfnjdmjojodhaaDoor.zone
open bound hiding up
set_option linter.unusedVariables false
set_option linter.unusedSimpArgs false

/-- a zone's matrix laid over another one, as far as a place. -/
def putK (z : List Int) (P : Nat → Nat) (us : List Int) : Nat → List Int
  | 0 => us
  | k + 1 => setT (putK z P us k) (P (k / 3) * 4 + P (k % 3)) ((fullT z)[k]?.getD 0)
theorem putK_length (z : List Int) (P : Nat → Nat) (us : List Int) : ∀ k, (putK z P us k).length = us.length
  | 0 => rfl
  | k + 1 => by unfold putK; rw [setT_length]; exact putK_length z P us k
theorem putK_up (z : List Int) (P : Nat → Nat) (us : List Int) {i j : Nat} (hj : j < 3) : putK z P us (3 * i + (j + 1)) = setT (putK z P us (3 * i + j)) (P i * 4 + P j) ((fullT z)[i * 3 + j]?.getD 0) := by
  have h : putK z P us (3 * i + j + 1) = setT (putK z P us (3 * i + j)) (P ((3 * i + j) / 3) * 4 + P ((3 * i + j) % 3)) ((fullT z)[3 * i + j]?.getD 0) := rfl
  rw [show i * 3 + j = 3 * i + j by omega, show 3 * i + (j + 1) = 3 * i + j + 1 from rfl, h, show (3 * i + j) / 3 = i by omega, show (3 * i + j) % 3 = j by omega]
theorem wrap_in {x : Int} (h : -9223372036854775808 ≤ x ∧ x ≤ 9223372036854775807) : wrap64 x = x := by
  have := IntWalk.i64_in x h
  rwa [IntWalk.i64_left] at this
theorem place4 {p q : Nat} (hp : p < 4) (hq : q < 4) : wrap64 ((p : Int) * 4) = (p : Int) * 4 ∧ wrap64 ((p : Int) * 4 + q) = (p : Int) * 4 + q ∧ 0 ≤ (p : Int) * 4 + q ∧ (p : Int) * 4 + q < 16 ∧ ((p : Int) * 4 + q).toNat = p * 4 + q := by
  refine ⟨wrap_in (by omega), wrap_in (by omega), by omega, by omega, by omega⟩
theorem place3 {p q : Nat} (hp : p < 3) (hq : q < 3) : IntKind.i64.wrap ((p : Int) * 3) = (p : Int) * 3 ∧ IntKind.i64.wrap ((p : Int) * 3 + q) = (p : Int) * 3 + q ∧ 0 ≤ (p : Int) * 3 + q ∧ (p : Int) * 3 + q < 9 ∧ ((p : Int) * 3 + q).toNat = p * 3 + q := by
  refine ⟨IntWalk.i64_in _ (by omega), IntWalk.i64_in _ (by omega), by omega, by omega, by omega⟩

end Go.Proofs.YtkfnjdmjojodhaaDoor.comp

namespace Go.Proofs.YtkfnjdmjojodhaaDoor.comp
open Go.Joins Go.ChangeShapes Go.WideShapes Go.ChangeAt Go.RowKit num rat dbm Go.Proofs.YtkfnjdmjojodhaaDoor.tight Go.Proofs.YtkfnjdmjojodhaaDoor.plaw Go.Proofs.YtkfnjdmjojodhaaDoor.zopen Go.Proofs.YtkfnjdmjojodhaaDoor.zone
open bound hiding up
open proj (dropT dropT_own Gv DropR Kc No)
set_option linter.unusedVariables false
set_option linter.unusedSimpArgs false

def top4 : List Int := [1, 9223372036854775807, 9223372036854775807, 9223372036854775807, 9223372036854775807, 1, 9223372036854775807, 9223372036854775807, 9223372036854775807, 9223372036854775807, 1, 9223372036854775807, 9223372036854775807, 9223372036854775807, 9223372036854775807, 1]
theorem top4_is (w : World) : Calls Tryd.prog 53 #[.int .i64 4] w fun e w' => Below w.heap.size w w' ∧ ∃ g, w.heap.size ≤ g ∧ e = .returned (.tuple #[.agg #[.int .i64 4, .slice (some ⟨g, 0, none⟩) 16 16], .int .i64 0]) ∧ lies.Lies w' g 22 (cellsOf top4) := by
  refine (top_ok 4 w (by decide) (by decide)).mono fun e w' h => ?_
  obtain ⟨hB, g, hg, he, hL⟩ := h
  have e1 : topT 4 (by decide) = top4 := by decide +kernel
  rw [e1] at hL
  exact ⟨hB, g, hg, he, hL⟩
theorem put_both {a b : List Int} (la : a.length = 6) (lb : b.length = 6) (ta : Tops a) (tb : Tops b) : putK b (fun i => [0, 2, 3][i]?.getD 0) (putK a (fun i => [0, 1, 2][i]?.getD 0) top4 9) 9 = bothT a b := by
  have ha := fun i => get_top ta i
  have hb := fun i => get_top tb i
  obtain ⟨a0, a1, a2, a3, a4, a5, rfl⟩ := six la
  obtain ⟨b0, b1, b2, b3, b4, b5, rfl⟩ := six lb
  have p0 : a0 ≤ 9223372036854775807 := ha 0
  have p1 : a1 ≤ 9223372036854775807 := ha 1
  have p2 : a2 ≤ 9223372036854775807 := ha 2
  have p3 : a3 ≤ 9223372036854775807 := ha 3
  have p4 : a4 ≤ 9223372036854775807 := ha 4
  have p5 : a5 ≤ 9223372036854775807 := ha 5
  have q0 : b0 ≤ 9223372036854775807 := hb 0
  have q1 : b1 ≤ 9223372036854775807 := hb 1
  have q2 : b2 ≤ 9223372036854775807 := hb 2
  have q3 : b3 ≤ 9223372036854775807 := hb 3
  have q4 : b4 ≤ 9223372036854775807 := hb 4
  have q5 : b5 ≤ 9223372036854775807 := hb 5
  simp [putK, setT, fullT, top4, bothT, lsr_self, lsr_of p0, lsr_of p1, lsr_of p2, lsr_of p3, lsr_of p4, lsr_of p5, lsr_of q0, lsr_of q1, lsr_of q2, lsr_of q3, lsr_of q4, lsr_of q5]
theorem pl_grown {W X : World} {g : Nat} (h : Pl W) (k : W.grownBy X (some g)) (hg : 0 < g) : Pl X := by
  have hne : some (0 : Nat) ≠ some g := by simp; omega
  exact ⟨Nat.lt_of_lt_of_le h.1 k.size, World.grownBy.cell k h.2.1 hne, World.grownBy.cell k h.2.2.1 hne, World.grownBy.cell k h.2.2.2.1 hne, World.grownBy.cell k h.2.2.2.2.1 hne, World.grownBy.cell k h.2.2.2.2.2.1 hne, World.grownBy.cell k h.2.2.2.2.2.2 hne⟩
def Comps (a b : List Int) (w : World) (e : Ending) (w' : World) : Prop := Below w.heap.size w w' ∧ ∃ z0 z1 z2 z3 z4 z5 f, e = .returned (.tuple #[.agg #[.int .i64 z0, .int .i64 z1, .int .i64 z2, .int .i64 z3, .int .i64 z4, .int .i64 z5], .int .i64 f]) ∧ CompR a b [z0, z1, z2, z3, z4, z5] f

/-! the other way round -/
def BackR (a z : List Int) (f : Int) : Prop := (¬ MayZ a ∧ z = zero6 ∧ f = 8) ∨ (MayZ a ∧ z = backT a ∧ f = 0)
def Backs (a : List Int) (w : World) (e : Ending) (w' : World) : Prop := Below w.heap.size w w' ∧ ∃ z0 z1 z2 z3 z4 z5 f, e = .returned (.tuple #[.agg #[.int .i64 z0, .int .i64 z1, .int .i64 z2, .int .i64 z3, .int .i64 z4, .int .i64 z5], .int .i64 f]) ∧ BackR a [z0, z1, z2, z3, z4, z5] f
end Go.Proofs.YtkfnjdmjojodhaaDoor.comp

namespace Go.Proofs.YtkfnjdmjojodhaaDoor.comp
open Go.Joins Go.ChangeShapes Go.WideShapes Go.ChangeAt Go.RowKit num rat dbm Go.Proofs.YtkfnjdmjojodhaaDoor.tight Go.Proofs.YtkfnjdmjojodhaaDoor.plaw Go.Proofs.YtkfnjdmjojodhaaDoor.zopen Go.Proofs.YtkfnjdmjojodhaaDoor.zone
open bound hiding up
open proj (dropT dropT_own Gv DropR Kc No)
set_option linter.unusedVariables false
set_option linter.unusedSimpArgs false


/-! firsts -/
def FirR (a : List Int) (s : Sp) (f : Int) : Prop := (¬ MayZ a ∧ s = (0, false, 0, false, false) ∧ f = 8) ∨ (MayZ a ∧ a[1]?.getD 0 = 9223372036854775807 ∧ s = (0, false, 0, false, false) ∧ f = 6) ∨
  (MayZ a ∧ a[1]?.getD 0 ≠ 9223372036854775807 ∧ a[0]?.getD 0 = 9223372036854775807 ∧ s = (-(a[1]?.getD 0 / 2), bS (a[1]?.getD 0), 0, false, true) ∧ f = 0) ∨
  (MayZ a ∧ a[1]?.getD 0 ≠ 9223372036854775807 ∧ a[0]?.getD 0 ≠ 9223372036854775807 ∧ s = (-(a[1]?.getD 0 / 2), bS (a[1]?.getD 0), a[0]?.getD 0 / 2, bS (a[0]?.getD 0), false) ∧ f = 0)
def Firs (a : List Int) (w : World) (e : Ending) (w' : World) : Prop := Below w.heap.size w w' ∧ ∃ (lo : Int) (ls : Bool) (hi : Int) (hs op : Bool) (f : Int), e = .returned (.tuple #[.agg #[.int .i64 lo, .bool ls, .int .i64 hi, .bool hs, .bool op], .int .i64 f]) ∧ FirR a (lo, ls, hi, hs, op) f
theorem five_cells {W : World} {g : Nat} {t : TypeId} {a b c d e : Value} (h : lies.Lies W g t #[a, b, c, d, e]) : (W.cell? ⟨g, 0, none⟩ = some a ∧ W.cell? ⟨g, 1, none⟩ = some b ∧ W.cell? ⟨g, 2, none⟩ = some c ∧ W.cell? ⟨g, 3, none⟩ = some d ∧ W.cell? ⟨g, 4, none⟩ = some e) ∧ (W.frozen? ⟨g, 0, none⟩ = false ∧ W.frozen? ⟨g, 1, none⟩ = false ∧ W.frozen? ⟨g, 2, none⟩ = false ∧ W.frozen? ⟨g, 3, none⟩ = false ∧ W.frozen? ⟨g, 4, none⟩ = false) ∧ g < W.heap.size :=
  ⟨⟨lies.cell h 0, lies.cell h 1, lies.cell h 2, lies.cell h 3, lies.cell h 4⟩, ⟨lies.free h 0, lies.free h 1, lies.free h 2, lies.free h 3, lies.free h 4⟩, lies.lt h⟩
theorem put_five {B g : Nat} {w W : World} (h : Below B w W) (hB : B ≤ g) (a b c d e : Value) : Below B w (((((W.setCell ⟨g, 0, none⟩ a).setCell ⟨g, 1, none⟩ b).setCell ⟨g, 2, none⟩ c).setCell ⟨g, 3, none⟩ d).setCell ⟨g, 4, none⟩ e) :=
  ((((h.setCell (p := ⟨g, 0, none⟩) hB _).setCell (p := ⟨g, 1, none⟩) hB _).setCell (p := ⟨g, 2, none⟩) hB _).setCell (p := ⟨g, 3, none⟩) hB _).setCell (p := ⟨g, 4, none⟩) hB _

end Go.Proofs.YtkfnjdmjojodhaaDoor.comp
