/-
  Ways over clocks and the closed table of weights: the arithmetic that package dbm's promises rest on. Nothing of the program; each theorem names its conditions.
-/
import Derived.Test.YtlagnbbbokgdfaaLaw
namespace Go.Proofs.Ytlagnbbbokgdfaa.way
set_option linter.unusedVariables false

/-- a weight: none, or a bound's number, twice, and 1 more where it is not strict. -/
abbrev B := Option Int
/-- the sum of two weights. -/
def ad : B → B → B
  | some a, some b => some (2 * (a / 2 + b / 2) + min (a % 2) (b % 2))
  | _, _ => none
/-- none is the greatest. -/
def le : B → B → Prop
  | _, none => True
  | none, some _ => False
  | some a, some b => a ≤ b
def one : B := some 1
instance decLe (x y : B) : Decidable (le x y) := by
  cases x <;> cases y <;> unfold le <;> exact inferInstance

theorem le_none (x : B) : le x none := by cases x <;> trivial
theorem le_refl (x : B) : le x x := by
  cases x with
  | none => trivial
  | some a => exact Int.le_refl a
theorem le_trans {x y z : B} (h : le x y) (k : le y z) : le x z := by
  cases z with
  | none => exact le_none x
  | some c => cases y with
    | none => exact k.elim
    | some b => cases x with
      | none => exact h.elim
      | some a => exact Int.le_trans h k
theorem le_antisymm {x y : B} (h : le x y) (k : le y x) : x = y := by
  cases x with
  | none => cases y with
    | none => rfl
    | some b => exact h.elim
  | some a => cases y with
    | none => exact k.elim
    | some b => exact congrArg some (Int.le_antisymm h k)
theorem le_total (x y : B) : le x y ∨ le y x := by
  cases x with
  | none => exact .inr (le_none y)
  | some a => cases y with
    | none => exact .inl trivial
    | some b => exact Int.le_total a b
theorem le_of_not {x y : B} (h : ¬ le x y) : le y x := (le_total x y).resolve_left h

theorem ad_none (x : B) : ad x none = none := by cases x <;> rfl
theorem none_ad (x : B) : ad none x = none := by cases x <;> rfl
theorem ad_some (a b : Int) : ad (some a) (some b) = some (2 * (a / 2 + b / 2) + min (a % 2) (b % 2)) := rfl
theorem ad_comm (x y : B) : ad x y = ad y x := by
  cases x with
  | none => rw [none_ad, ad_none]
  | some a => cases y with
    | none => rw [none_ad, ad_none]
    | some b => rw [ad_some, ad_some]; congr 1; omega
theorem ad_assoc (x y z : B) : ad (ad x y) z = ad x (ad y z) := by
  cases x with
  | none => simp only [none_ad]
  | some a => cases y with
    | none => simp only [none_ad, ad_none]
    | some b => cases z with
      | none => simp only [ad_none]
      | some c => simp only [ad_some]; congr 1; omega
theorem ad_one (x : B) : ad x one = x := by
  cases x with
  | none => rfl
  | some a => unfold one; rw [ad_some]; congr 1; omega
theorem one_ad (x : B) : ad one x = x := by rw [ad_comm, ad_one]
theorem ad_mono {x x' y y' : B} (h : le x x') (k : le y y') : le (ad x y) (ad x' y') := by
  cases x' with
  | none => rw [none_ad]; exact le_none _
  | some a' => cases y' with
    | none => rw [ad_none]; exact le_none _
    | some b' => cases x with
      | none => exact h.elim
      | some a => cases y with
        | none => exact k.elim
        | some b =>
          have h1 : a ≤ a' := h
          have h2 : b ≤ b' := k
          show 2 * (a / 2 + b / 2) + min (a % 2) (b % 2) ≤ 2 * (a' / 2 + b' / 2) + min (a' % 2) (b' % 2)
          omega
theorem le_ad_left {x y : B} (h : le one x) : le y (ad x y) := by
  have := ad_mono h (le_refl y)
  rwa [one_ad] at this
theorem le_ad_right {x y : B} (h : le one x) : le y (ad y x) := by rw [ad_comm]; exact le_ad_left h

/-- the lesser of two. -/
def mn (x y : B) : B := if le x y then x else y
theorem mn_left (x y : B) : le (mn x y) x := by
  unfold mn
  split
  · exact le_refl x
  · rename_i h; exact le_of_not h
theorem mn_right (x y : B) : le (mn x y) y := by
  unfold mn
  split
  · rename_i h; exact h
  · exact le_refl y
theorem mn_is (x y : B) : mn x y = x ∨ mn x y = y := by
  unfold mn
  split
  · exact .inl rfl
  · exact .inr rfl
theorem le_mn {x y z : B} (h : le z x) (k : le z y) : le z (mn x y) := by
  rcases mn_is x y with e | e <;> rw [e] <;> assumption
theorem mn_mono {x x' y y' : B} (h : le x x') (k : le y y') : le (mn x y) (mn x' y') := le_mn (le_trans (mn_left x y) h) (le_trans (mn_right x y) k)
theorem mn_eq_left {x y : B} (h : le x y) : mn x y = x := if_pos h

/-- tables of weights. -/
abbrev Tab := Nat → Nat → B
/-- the weight of a way over some clocks. -/
def w (d : Tab) : Nat → List Nat → Nat → B
  | i, [], j => d i j
  | i, m :: l, j => ad (d i m) (w d m l j)
theorem w_app (d : Tab) (a : List Nat) : ∀ (i m : Nat) (b : List Nat) (j : Nat), w d i (a ++ m :: b) j = ad (w d i a m) (w d m b j) := by
  induction a with
  | nil => intro i m b j; rfl
  | cons x a ih => intro i m b j; show ad (d i x) (w d x (a ++ m :: b) j) = _; rw [ih, ← ad_assoc]; rfl

/-- what follows of the ways over one clock. -/
def ov (D : Tab) (k : Nat) : Tab := fun i j => mn (D i j) (ad (D i k) (D k j))
/-- .. over the first k. -/
def F (d : Tab) : Nat → Tab
  | 0 => d
  | k + 1 => ov (F d k) k

theorem F_le (d : Tab) (k i j : Nat) : le (F d k i j) (d i j) := by
  induction k generalizing i j with
  | zero => exact le_refl _
  | succ k ih => exact le_trans (mn_left _ _) (ih i j)
theorem F_mono {d d' : Tab} (h : ∀ i j, le (d i j) (d' i j)) (k i j : Nat) : le (F d k i j) (F d' k i j) := by
  induction k generalizing i j with
  | zero => exact h i j
  | succ k ih => exact mn_mono (ih i j) (ad_mono (ih i k) (ih k j))
/-- each is the weight of a way over some of the first k. -/
theorem F_is (d : Tab) (k i j : Nat) : ∃ l, (∀ m ∈ l, m < k) ∧ w d i l j = F d k i j := by
  induction k generalizing i j with
  | zero => exact ⟨[], by simp, rfl⟩
  | succ k ih =>
    rcases mn_is (F d k i j) (ad (F d k i k) (F d k k j)) with e | e
    · obtain ⟨l, h, hw⟩ := ih i j
      exact ⟨l, fun m hm => Nat.lt_succ_of_lt (h m hm), hw.trans e.symm⟩
    · obtain ⟨l, h, hw⟩ := ih i k
      obtain ⟨l', h', hw'⟩ := ih k j
      refine ⟨l ++ k :: l', fun m hm => ?_, ?_⟩
      · rcases List.mem_append.1 hm with hm | hm
        · exact Nat.lt_succ_of_lt (h m hm)
        · rcases List.mem_cons.1 hm with rfl | hm
          · exact Nat.lt_succ_self _
          · exact Nat.lt_succ_of_lt (h' m hm)
      · rw [w_app, hw, hw']; exact e.symm

def Tri (D : Tab) (k : Nat) : Prop := ∀ m, m < k → ∀ i j, le (D i j) (ad (D i m) (D m j))
/-- no clock has a way to itself that is below 0. -/
def Pos (D : Tab) : Prop := ∀ i, le one (D i i)
theorem tri_ov {D : Tab} {k : Nat} (h : Tri D k) (p : Pos D) : Tri (ov D k) (k + 1) := by
  intro m hm i j
  have hl : ∀ x y, le (ov D k x y) (ad (D x k) (D k y)) := fun x y => mn_right _ _
  rcases Nat.lt_succ_iff_lt_or_eq.1 hm with hm | rfl
  · rcases mn_is (D i m) (ad (D i k) (D k m)) with e | e <;> rcases mn_is (D m j) (ad (D m k) (D k j)) with f | f <;> (show le _ (ad (mn _ _) (mn _ _))) <;> rw [e, f]
    · exact le_trans (mn_left _ _) (h m hm i j)
    · rw [← ad_assoc]; exact le_trans (hl i j) (ad_mono (h m hm i k) (le_refl _))
    · rw [ad_assoc]; exact le_trans (hl i j) (ad_mono (le_refl _) (h m hm k j))
    · refine le_trans (hl i j) ?_
      rw [ad_assoc, ← ad_assoc (D k m)]
      refine ad_mono (le_refl _) (le_ad_left ?_)
      exact le_trans (p k) (h m hm k k)
  · rcases mn_is (D i m) (ad (D i m) (D m m)) with e | e <;> rcases mn_is (D m j) (ad (D m m) (D m j)) with f | f <;> (show le _ (ad (mn _ _) (mn _ _))) <;> rw [e, f]
    · exact hl i j
    · exact le_trans (hl i j) (ad_mono (le_refl _) (le_ad_left (p m)))
    · exact le_trans (hl i j) (ad_mono (le_ad_right (p m)) (le_refl _))
    · exact le_trans (hl i j) (ad_mono (le_ad_right (p m)) (le_ad_left (p m)))
/-- up to k there is no way round below 0. -/
def Good (d : Tab) (k : Nat) : Prop := ∀ m, m ≤ k → Pos (F d m)
theorem good_tri {d : Tab} {k : Nat} (h : Good d k) : Tri (F d k) k := by
  induction k with
  | zero => intro m hm; omega
  | succ k ih => exact tri_ov (ih fun m hm => h m (by omega)) (h k (by omega))
theorem F_way {d : Tab} {k : Nat} (h : Tri (F d k) k) (l : List Nat) : ∀ (i j : Nat), (∀ m ∈ l, m < k) → le (F d k i j) (w d i l j) := by
  induction l with
  | nil => intro i j _; exact F_le d k i j
  | cons m l ih => intro i j hl; exact le_trans (h m (hl m List.mem_cons_self) i j) (ad_mono (F_le d k i m) (ih m j fun x hx => hl x (List.mem_cons_of_mem _ hx)))

theorem twice {l : List Nat} (h : ¬ l.Nodup) : ∃ a m b c, l = a ++ m :: (b ++ m :: c) := by
  induction l with
  | nil => exact (h List.nodup_nil).elim
  | cons x l ih =>
    by_cases hx : x ∈ l
    · obtain ⟨b, c, rfl⟩ := List.append_of_mem hx
      exact ⟨[], x, b, c, rfl⟩
    · obtain ⟨a, m, b, c, rfl⟩ := ih fun k => h (List.nodup_cons.2 ⟨hx, k⟩)
      exact ⟨x :: a, m, b, c, rfl⟩

/-- a way over clocks that are met once, and are none of its ends, is as short. -/
theorem simple {d : Tab} {k : Nat} (hc : ∀ l i, (∀ m ∈ l, m < k) → le one (w d i l i)) : ∀ (n : Nat) (l : List Nat) (i j : Nat), l.length ≤ n → (∀ m ∈ l, m < k) →
    ∃ l', l'.Nodup ∧ (∀ m ∈ l', m < k ∧ m ≠ i ∧ m ≠ j) ∧ le (w d i l' j) (w d i l j) := by
  intro n
  induction n with
  | zero =>
    intro l i j hn hl
    obtain rfl : l = [] := List.eq_nil_of_length_eq_zero (by omega)
    exact ⟨[], List.nodup_nil, by simp, le_refl _⟩
  | succ n ih =>
    intro l i j hn hl
    by_cases hi : i ∈ l
    · obtain ⟨a, b, rfl⟩ := List.append_of_mem hi
      obtain ⟨l', h1, h2, h3⟩ := ih b i j (by simp at hn; omega) (fun m hm => hl m (by simp [hm]))
      refine ⟨l', h1, h2, le_trans h3 ?_⟩
      rw [w_app]
      exact le_ad_left (hc a i fun m hm => hl m (by simp [hm]))
    · by_cases hj : j ∈ l
      · obtain ⟨a, b, rfl⟩ := List.append_of_mem hj
        obtain ⟨l', h1, h2, h3⟩ := ih a i j (by simp at hn; omega) (fun m hm => hl m (by simp [hm]))
        refine ⟨l', h1, h2, le_trans h3 ?_⟩
        rw [w_app]
        exact le_ad_right (hc b j fun m hm => hl m (by simp [hm]))
      · by_cases hd : l.Nodup
        · exact ⟨l, hd, fun m hm => ⟨hl m hm, fun e => hi (e ▸ hm), fun e => hj (e ▸ hm)⟩, le_refl _⟩
        · obtain ⟨a, m, b, c, rfl⟩ := twice hd
          obtain ⟨l', h1, h2, h3⟩ := ih (a ++ m :: c) i j (by simp at hn ⊢; omega) (fun x hx => hl x (by simp at hx ⊢; rcases hx with h | h | h <;> simp [h]))
          refine ⟨l', h1, h2, le_trans h3 ?_⟩
          rw [w_app, w_app, w_app]
          exact ad_mono (le_refl _) (le_ad_left (hc b m fun x hx => hl x (by simp [hx])))
theorem F_simple {d : Tab} {k : Nat} (h : Good d k) (i j : Nat) : ∃ l, l.Nodup ∧ (∀ m ∈ l, m < k ∧ m ≠ i ∧ m ≠ j) ∧ w d i l j = F d k i j := by
  have ht := good_tri h
  have hc : ∀ l i, (∀ m ∈ l, m < k) → le one (w d i l i) := fun l i hl => le_trans (h k (Nat.le_refl _) i) (F_way ht l i i hl)
  obtain ⟨l, hl, e⟩ := F_is d k i j
  obtain ⟨l', h1, h2, h3⟩ := simple hc _ l i j (Nat.le_refl _) hl
  exact ⟨l', h1, h2, le_antisymm (e ▸ h3) (F_way ht l' i j fun m hm => (h2 m hm).1)⟩

/-- a way round below 0 has one that meets each clock once. -/
theorem round_simple {d : Tab} : ∀ (n : Nat) (l : List Nat) (i : Nat), l.length ≤ n → ¬ le one (w d i l i) → ∃ x l', (x :: l').Nodup ∧ (∀ m ∈ x :: l', m ∈ i :: l) ∧ ¬ le one (w d x l' x) := by
  intro n
  induction n with
  | zero =>
    intro l i hn h
    obtain rfl : l = [] := List.eq_nil_of_length_eq_zero (by omega)
    exact ⟨i, [], by simp, by simp, h⟩
  | succ n ih =>
    intro l i hn h
    by_cases hi : i ∈ l
    · obtain ⟨a, b, rfl⟩ := List.append_of_mem hi
      rw [w_app] at h
      by_cases ha : le one (w d i a i)
      · obtain ⟨x, l', h1, h2, h3⟩ := ih b i (by simp at hn; omega) (fun k => h (le_trans k (le_ad_left ha)))
        exact ⟨x, l', h1, fun m hm => by have := h2 m hm; simp at this ⊢; rcases this with h | h <;> simp [h], h3⟩
      · obtain ⟨x, l', h1, h2, h3⟩ := ih a i (by simp at hn; omega) ha
        exact ⟨x, l', h1, fun m hm => by have := h2 m hm; simp at this ⊢; rcases this with h | h <;> simp [h], h3⟩
    · by_cases hd : l.Nodup
      · exact ⟨i, l, List.nodup_cons.2 ⟨hi, hd⟩, fun m hm => hm, h⟩
      · obtain ⟨a, m, b, c, rfl⟩ := twice hd
        rw [w_app, w_app] at h
        by_cases hb : le one (w d m b m)
        · obtain ⟨x, l', h1, h2, h3⟩ := ih (a ++ m :: c) i (by simp at hn ⊢; omega) (fun k => h (by rw [w_app] at k; exact le_trans k (ad_mono (le_refl _) (le_ad_left hb))))
          exact ⟨x, l', h1, fun y hy => by have := h2 y hy; simp at this ⊢; rcases this with h | h | h | h <;> simp [h], h3⟩
        · obtain ⟨x, l', h1, h2, h3⟩ := ih b m (by simp at hn ⊢; omega) hb
          exact ⟨x, l', h1, fun y hy => by have := h2 y hy; simp at this ⊢; rcases this with h | h <;> simp [h], h3⟩

theorem few : ∀ (k : Nat) (l : List Nat), l.Nodup → (∀ m ∈ l, m < k) → l.length ≤ k := by
  intro k
  induction k with
  | zero =>
    intro l _ h
    cases l with
    | nil => simp
    | cons x l => exact absurd (h x List.mem_cons_self) (by omega)
  | succ k ih =>
    intro l hd h
    by_cases hk : k ∈ l
    · have := ih (l.erase k) (hd.erase k) (fun m hm => by
        have h1 := h m (List.mem_of_mem_erase hm)
        have h2 : m ≠ k := fun e => by subst e; exact (List.Nodup.not_mem_erase hd) hm
        omega)
      rw [List.length_erase_of_mem hk] at this
      omega
    · have := ih l hd (fun m hm => by
        have h1 := h m hm
        have h2 : m ≠ k := fun e => hk (e ▸ hm)
        omega)
      omega

/-- within so many times so much. -/
def Wi (M : Int) (k : Int) : B → Prop
  | none => True
  | some a => -(M * k) ≤ a / 2 ∧ a / 2 ≤ M * k
theorem wi_ad {M k k' : Int} {x y : B} (h : Wi M k x) (h' : Wi M k' y) : Wi M (k + k') (ad x y) := by
  cases x with
  | none => rw [none_ad]; trivial
  | some a => cases y with
    | none => rw [ad_none]; trivial
    | some b =>
      obtain ⟨h1, h2⟩ := h
      obtain ⟨h3, h4⟩ := h'
      show -(M * (k + k')) ≤ (2 * (a / 2 + b / 2) + min (a % 2) (b % 2)) / 2 ∧ (2 * (a / 2 + b / 2) + min (a % 2) (b % 2)) / 2 ≤ M * (k + k')
      rw [Int.mul_add]
      omega
theorem wi_way {d : Tab} {M : Int} (h : ∀ i j, Wi M 1 (d i j)) (l : List Nat) : ∀ i j, Wi M (l.length + 1) (w d i l j) := by
  induction l with
  | nil => intro i j; exact h i j
  | cons m l ih =>
    intro i j
    have := wi_ad (h i m) (ih m j)
    show Wi M (((m :: l).length : Nat) + 1) (ad _ _)
    have e : (((m :: l).length : Nat) : Int) + 1 = 1 + (l.length + 1) := by simp; omega
    rw [e]; exact this
theorem wi_more {M k k' : Int} (hM : 0 ≤ M) (hk : k ≤ k') {x : B} (h : Wi M k x) : Wi M k' x := by
  cases x with
  | none => trivial
  | some a =>
    have : M * k ≤ M * k' := Int.mul_le_mul_of_nonneg_left hk hM
    obtain ⟨h1, h2⟩ := h
    exact ⟨by omega, by omega⟩
theorem F_within {d : Tab} {M : Int} {k : Nat} (hM : 0 ≤ M) (hd : ∀ i j, Wi M 1 (d i j)) (h : Good d k) (i j : Nat) : Wi M (k + 1) (F d k i j) := by
  obtain ⟨l, h1, h2, e⟩ := F_simple h i j
  rw [← e]
  have := few k l h1 fun m hm => (h2 m hm).1
  exact wi_more hM (by omega) (wi_way hd l i j)
end Go.Proofs.Ytlagnbbbokgdfaa.way
