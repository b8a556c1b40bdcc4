/-
  What the program's zones less one are, pure: the pieces as they come, how some are gathered, and that five steps leave no more than 4,056; each theorem names its conditions.
-/
import Derived.Test.YtkfnjdmjojodhaaDoorMinusA
namespace Go.Proofs.YtkfnjdmjojodhaaDoor.minus
open way num rat dbm Go.Proofs.YtkfnjdmjojodhaaDoor.tight Go.Proofs.YtkfnjdmjojodhaaDoor.tkept Go.Proofs.YtkfnjdmjojodhaaDoor.incl Go.Proofs.YtkfnjdmjojodhaaDoor.zone Go.Proofs.YtkfnjdmjojodhaaDoor.win
open bound hiding up
open Go.Proofs.YtkfnjdmjojodhaaDoor.comp (zw may_cl six_fine)
set_option linter.unusedVariables false
set_option linter.unusedSimpArgs false
set_option linter.unusedSectionVars false

/-- what comes of one zone less another one, from the bound 6 - k on: zones, each with an error. -/
def PcsR (b : List Int) : Nat → List Int → List (List Int × Int) → Prop
  | 0, _, ys => ys = []
  | k + 1, a, ys =>
    (a[5 - k]?.getD 0 ≤ b[5 - k]?.getD 0 ∧ PcsR b k a ys) ∨ (b[5 - k]?.getD 0 < a[5 - k]?.getD 0 ∧ a[oth (5 - k)]?.getD 0 ≤ 1 - b[5 - k]?.getD 0 ∧ ys = [(a, 0)]) ∨
    (b[5 - k]?.getD 0 < a[5 - k]?.getD 0 ∧ 1 - b[5 - k]?.getD 0 < a[oth (5 - k)]?.getD 0 ∧ ∃ z e, CutR a (oneZ (oth (5 - k)) (1 - b[5 - k]?.getD 0)) z e ∧
      ((e ≠ 0 ∧ ys = [(z, e)]) ∨ (e = 0 ∧ ∃ y g, CutR a (oneZ (5 - k) (b[5 - k]?.getD 0)) y g ∧
        ((g ≠ 0 ∧ ys = [(z, 0), (zero6, g)]) ∨ (g = 0 ∧ ∃ l, PcsR b k y l ∧ ys = (z, 0) :: l)))))
theorem cut_ex (z w : List Int) : ∃ x f, CutR z w x f := by
  by_cases o : OkD 3 (lesT (fullT z) (fullT w))
  · by_cases m : MayD 3 (clT 3 (lesT (fullT z) (fullT w)))
    · exact ⟨_, _, .inr (.inr ⟨o, m, rfl, rfl⟩)⟩
    · exact ⟨_, _, .inr (.inl ⟨o, m, rfl, rfl⟩)⟩
  · exact ⟨_, _, .inl ⟨o, rfl, rfl⟩⟩
theorem pcs_ex (b : List Int) : ∀ (k : Nat) (a : List Int), ∃ ys, PcsR b k a ys
  | 0, _ => ⟨[], rfl⟩
  | k + 1, a => by
    by_cases h1 : a[5 - k]?.getD 0 ≤ b[5 - k]?.getD 0
    · obtain ⟨ys, h⟩ := pcs_ex b k a
      exact ⟨ys, .inl ⟨h1, h⟩⟩
    · by_cases h2 : a[oth (5 - k)]?.getD 0 ≤ 1 - b[5 - k]?.getD 0
      · exact ⟨_, .inr (.inl ⟨by omega, h2, rfl⟩)⟩
      · obtain ⟨z, e, hz⟩ := cut_ex a (oneZ (oth (5 - k)) (1 - b[5 - k]?.getD 0))
        obtain ⟨y, g, hy⟩ := cut_ex a (oneZ (5 - k) (b[5 - k]?.getD 0))
        by_cases he : e = 0
        · by_cases hg : g = 0
          · obtain ⟨l, h⟩ := pcs_ex b k y
            exact ⟨_, .inr (.inr ⟨by omega, by omega, z, e, hz, .inr ⟨he, y, g, hy, .inr ⟨hg, l, h, rfl⟩⟩⟩)⟩
          · exact ⟨_, .inr (.inr ⟨by omega, by omega, z, e, hz, .inr ⟨he, y, g, hy, .inl ⟨hg, rfl⟩⟩⟩)⟩
        · exact ⟨_, .inr (.inr ⟨by omega, by omega, z, e, hz, .inl ⟨he, rfl⟩⟩)⟩
/-- zones without an error. -/
def mkz (o : List (List Int)) : List (List Int × Int) := o.map fun z => (z, 0)
/-- those of some that have no error. -/
def good (ys : List (List Int × Int)) : List (List Int) := (ys.filter fun p => decide (p.2 = 0)).map (·.1)
theorem good_nil : good [] = [] := rfl
theorem good_cons (z : List Int) (l : List (List Int × Int)) : good ((z, 0) :: l) = z :: good l := rfl
theorem good_bad {z : List Int} {e : Int} (h : e ≠ 0) : good [(z, e)] = [] := by simp [good, h]
theorem good_mk (o : List (List Int)) : good (mkz o) = o := by
  induction o with
  | nil => rfl
  | cons z o ih => exact (good_cons z (mkz o)).trans (by rw [ih])
theorem mk_cons (z : List Int) (o : List (List Int)) : mkz (z :: o) = (z, 0) :: mkz o := rfl
/-- no number of a zone's two bounds of one difference is too small. -/
theorem zo_two {x : List Int} (h : Zo x) {i : Nat} (hi : i < 6) (n : x[i]?.getD 0 ≠ 9223372036854775807) : 2 ≤ x[i]?.getD 0 + x[oth i]?.getD 0 := by
  have fx := (six_fine h.1.may i hi).resolve_left n
  rcases six_fine h.1.may (oth i) (oth_lt hi) with q | q
  · omega
  · have o : OkD 3 (lesT (fullT x) (fullT (oneZ i (x[i]?.getD 0)))) := by
      rw [own_one h.2.1 h.1 hi (Int.le_refl _) (get_top h.2.1 i)]; exact h.1.1
    rw [ok_one h.2.1 h.1 hi (.inr fx), cod_some (by omega), cod_some n, ad_some] at o
    have o : (1 : Int) ≤ 2 * (x[oth i]?.getD 0 / 2 + x[i]?.getD 0 / 2) + min (x[oth i]?.getD 0 % 2) (x[i]?.getD 0 % 2) := o
    omega
theorem zo_pair {x : List Int} (h : Zo x) {i : Nat} (hi : i < 6) : 2 ≤ x[i]?.getD 0 + x[oth i]?.getD 0 := by
  by_cases n : x[i]?.getD 0 = 9223372036854775807
  · by_cases m : x[oth i]?.getD 0 = 9223372036854775807
    · omega
    · have := zo_two h (oth_lt hi) m
      rw [oth_oth] at this
      omega
  · exact zo_two h hi n
theorem less_skip {b a : List Int} {k : Nat} {o : List (List Int)} {f : Int} (tb : Tops b) (hb : MayZ b) (hk : k < 6) (ha : Zo a) (hx : a[5 - k]?.getD 0 ≤ b[5 - k]?.getD 0) (h : LessR b k a o f) (hf : f ≠ 0 → o = []) : LessR b (k + 1) a o f := by
  unfold LessR
  by_cases n : b[5 - k]?.getD 0 = 9223372036854775807
  · rw [if_pos n]; exact h
  · rw [if_neg n]
    have hi : 5 - k < 6 := by omega
    have fx := six_fine hb.may (5 - k) hi
    have no : ¬ OkD 3 (lesT (fullT a) (fullT (oneZ (oth (5 - k)) (1 - b[5 - k]?.getD 0)))) := fun q => by
      have := (not_one ha.2.1 ha.1 hi fx n).1 q; omega
    obtain ⟨y, g, hy⟩ := cut_ex a (oneZ (5 - k) (b[5 - k]?.getD 0))
    obtain ⟨rfl, rfl⟩ := cut_own tb hb ha hi hx hy
    refine ⟨zero6, 6, .inl ⟨no, rfl, rfl⟩, .inr ⟨by decide, _, 0, hy, .inr (.inr ⟨rfl, o, h, ?_⟩)⟩⟩
    by_cases q : f = 0
    · rw [if_pos q]; rfl
    · rw [if_neg q]; exact hf q
section
variable {b : List Int} (tb : Tops b) (hb : MayZ b)
include tb hb
theorem pcs_less : ∀ (k : Nat) {a : List Int} {ys : List (List Int × Int)}, k ≤ 6 → Zo a → PcsR b k a ys →
    ∃ f, LessR b k a (if f = 0 then good ys else []) f ∧ ((f = 0 ∧ ys = mkz (good ys)) ∨ (f = 8 ∧ ∃ x, ys = mkz (good ys) ++ [(x, 8)]))
  | 0, a, ys, _, _, h => by
    have h : ys = [] := h
    subst h
    exact ⟨0, ⟨rfl, rfl⟩, .inl ⟨rfl, rfl⟩⟩
  | k + 1, a, ys, hk, ha, h => by
    unfold PcsR at h
    have hi : 5 - k < 6 := by omega
    have fx := six_fine hb.may (5 - k) hi
    have ta := get_top ha.2.1 (5 - k)
    rcases h with ⟨hx, h⟩ | ⟨hx, ho, h⟩ | ⟨hx, ho, z, e, hz, h⟩
    · obtain ⟨f, h1, h2⟩ := pcs_less k (by omega) ha h
      exact ⟨f, less_skip tb hb (by omega) ha hx h1 (fun q => by rw [if_neg q]), h2⟩
    · have n : b[5 - k]?.getD 0 ≠ 9223372036854775807 := by omega
      obtain ⟨_, fn, nn⟩ := not_is fx n
      have fn' := fn.resolve_left nn
      obtain ⟨z, e, hz⟩ := cut_ex a (oneZ (oth (5 - k)) (1 - b[5 - k]?.getD 0))
      have q := own_one ha.2.1 ha.1 (oth_lt hi) ho (by omega)
      have hz' := hz
      unfold CutR at hz
      rw [q, show clT 3 (fullT a) = fullT a from ha.1.2] at hz
      have ze : z = a ∧ e = 0 := by
        rcases hz with ⟨n, _⟩ | ⟨_, n, _⟩ | ⟨_, _, e1, e2⟩
        · exact (n ha.1.1).elim
        · exact (n ha.1.may).elim
        · exact ⟨e1.trans (short_full ha.2.2), e2⟩
      obtain ⟨rfl, rfl⟩ := ze
      have no : ¬ OkD 3 (lesT (fullT z) (fullT (oneZ (5 - k) (b[5 - k]?.getD 0)))) := fun o => by
        have := (not_one ha.2.1 ha.1 (oth_lt hi) fn nn)
        rw [oth_oth, show (1 : Int) - (1 - b[5 - k]?.getD 0) = b[5 - k]?.getD 0 by omega] at this
        have := this.1 o
        omega
      subst h
      refine ⟨0, ?_, .inl ⟨rfl, rfl⟩⟩
      rw [if_pos rfl]
      unfold LessR
      rw [if_neg n]
      exact ⟨z, 0, hz', .inr ⟨by decide, zero6, 6, .inl ⟨no, rfl, rfl⟩, .inl ⟨rfl, rfl, rfl⟩⟩⟩
    · have n : b[5 - k]?.getD 0 ≠ 9223372036854775807 := by omega
      obtain ⟨_, fn, nn⟩ := not_is fx n
      have e6 : e ≠ 6 := fun q => by
        have o := (not_one ha.2.1 ha.1 hi fx n).2 hx
        rcases hz with ⟨p, _⟩ | ⟨_, _, _, p⟩ | ⟨_, _, _, p⟩
        · exact p o
        · rw [q] at p; exact absurd p (by decide)
        · rw [q] at p; exact absurd p (by decide)
      rcases h with ⟨he, h⟩ | ⟨he, y, g, hy, h⟩
      · have e8 : e = 8 := by rcases cut_err hz with q | q | q <;> first | exact (e6 q).elim | exact q | exact (he q).elim
        subst h
        rw [good_bad he]
        refine ⟨8, ?_, .inr ⟨rfl, z, by rw [e8]; rfl⟩⟩
        rw [if_neg (by decide)]
        unfold LessR
        rw [if_neg n]
        exact ⟨z, e, hz, .inl ⟨e8, rfl, rfl⟩⟩
      · have zz := hz
        subst he
        have g6 : g ≠ 6 := fun q => by
          have o := (not_one ha.2.1 ha.1 (oth_lt hi) fn nn)
          rw [oth_oth, show (1 : Int) - (1 - b[5 - k]?.getD 0) = b[5 - k]?.getD 0 by omega] at o
          have o := o.2 ho
          rcases hy with ⟨p, _⟩ | ⟨_, _, _, p⟩ | ⟨_, _, _, p⟩
          · exact p o
          · rw [q] at p; exact absurd p (by decide)
          · rw [q] at p; exact absurd p (by decide)
        rcases h with ⟨hg, h⟩ | ⟨hg, l, hl, h⟩
        · have g8 : g = 8 := by rcases cut_err hy with q | q | q <;> first | exact (g6 q).elim | exact q | exact (hg q).elim
          subst h
          rw [good_cons, good_bad hg]
          refine ⟨8, ?_, .inr ⟨rfl, zero6, by rw [g8]; rfl⟩⟩
          rw [if_neg (by decide)]
          unfold LessR
          rw [if_neg n]
          exact ⟨z, 0, hz, .inr ⟨by decide, y, g, hy, .inr (.inl ⟨g8, rfl, rfl⟩)⟩⟩
        · subst hg
          have zy := cut_zo ha.2.1 ha.1.may (one_may fx) hy
          obtain ⟨f, h1, h2⟩ := pcs_less k (by omega) zy hl
          subst h
          rw [good_cons]
          refine ⟨f, ?_, ?_⟩
          · unfold LessR
            rw [if_neg n]
            refine ⟨z, 0, hz, .inr ⟨by decide, y, 0, hy, .inr (.inr ⟨rfl, _, h1, ?_⟩)⟩⟩
            by_cases q : f = 0
            · rw [if_pos q, if_pos q, if_pos q]; rfl
            · rw [if_neg q, if_neg q]
          · rcases h2 with ⟨q, h2⟩ | ⟨q, x, h2⟩
            · exact .inl ⟨q, by rw [mk_cons, ← h2]⟩
            · exact .inr ⟨q, x, by rw [mk_cons, List.cons_append, ← h2]⟩
/-- the good ones that come, by the first bound. -/
theorem pcs_good {k i : Nat} (hi : 5 - k = i) (hk : k < 6) {a : List Int} {ys : List (List Int × Int)} (ha : Zo a) (h : PcsR b (k + 1) a ys) :
    (a[i]?.getD 0 ≤ b[i]?.getD 0 ∧ PcsR b k a ys) ∨ (b[i]?.getD 0 < a[i]?.getD 0 ∧ (good ys = [] ∨ ∃ z, Zo z ∧ (∀ j, j < 6 → z[j]?.getD 0 ≤ a[j]?.getD 0) ∧ z[oth i]?.getD 0 ≤ 1 - b[i]?.getD 0 ∧
      (good ys = [z] ∨ (1 - b[i]?.getD 0 < a[oth i]?.getD 0 ∧ ∃ y l, Zo y ∧ (∀ j, j < 6 → y[j]?.getD 0 ≤ a[j]?.getD 0) ∧ y[i]?.getD 0 ≤ b[i]?.getD 0 ∧ PcsR b k y l ∧ good ys = z :: good l)))) := by
  subst hi
  unfold PcsR at h
  have hi : 5 - k < 6 := by omega
  have fx := six_fine hb.may (5 - k) hi
  have ta := get_top ha.2.1 (5 - k)
  rcases h with ⟨hx, h⟩ | ⟨hx, ho, h⟩ | ⟨hx, ho, z, e, hz, h⟩
  · exact .inl ⟨hx, h⟩
  · subst h
    exact .inr ⟨hx, .inr ⟨a, ha, fun j _ => Int.le_refl _, ho, .inl rfl⟩⟩
  · refine .inr ⟨hx, ?_⟩
    have n : b[5 - k]?.getD 0 ≠ 9223372036854775807 := by omega
    obtain ⟨_, fn, nn⟩ := not_is fx n
    rcases h with ⟨he, h⟩ | ⟨he, y, g, hy, h⟩
    · subst h; exact .inl (good_bad he)
    · subst he
      have zz := cut_zo ha.2.1 ha.1.may (one_may fn) hz
      have lz := cut_le ha.2.1 ha.1.may fn (oth_lt hi) hz
      refine .inr ⟨z, zz, fun j hj => (lz j hj).1, (lz 0 (by decide)).2, ?_⟩
      rcases h with ⟨hg, h⟩ | ⟨hg, l, hl, h⟩
      · subst h; exact .inl (by rw [good_cons, good_bad hg])
      · subst hg
        subst h
        have ly := cut_le ha.2.1 ha.1.may fx hi hy
        exact .inr ⟨ho, y, l, cut_zo ha.2.1 ha.1.may (one_may fx) hy, fun j hj => (ly j hj).1, (ly 0 (by decide)).2, hl, good_cons _ _⟩
theorem pcs_all : ∀ (k : Nat) {a : List Int} {ys : List (List Int × Int)}, k ≤ 6 → Zo a → PcsR b k a ys → (good ys).length ≤ k ∧ ∀ x, x ∈ good ys → Zo x ∧ ∀ j, j < 6 → x[j]?.getD 0 ≤ a[j]?.getD 0
  | 0, a, ys, _, _, h => by
    have h : ys = [] := h
    subst h
    exact ⟨Nat.le_refl _, (fun x hx => by cases hx)⟩
  | k + 1, a, ys, hk, ha, h => by
    rcases pcs_good tb hb rfl (by omega) ha h with ⟨_, h⟩ | ⟨_, h | ⟨z, zz, lz, _, h | ⟨_, y, l, zy, ly, _, hl, h⟩⟩⟩
    · obtain ⟨h1, h2⟩ := pcs_all k (by omega) ha h
      exact ⟨by omega, h2⟩
    · rw [h]; exact ⟨Nat.zero_le _, (fun x hx => by cases hx)⟩
    · rw [h]
      exact ⟨by simp, (fun x hx => by rw [List.mem_singleton.1 hx]; exact ⟨zz, lz⟩)⟩
    · obtain ⟨h1, h2⟩ := pcs_all k (by omega) zy hl
      rw [h]
      refine ⟨by simp; omega, fun x hx => ?_⟩
      rcases List.mem_cons.1 hx with rfl | hx
      · exact ⟨zz, lz⟩
      · exact ⟨(h2 x hx).1, fun j hj => Int.le_trans ((h2 x hx).2 j hj) (ly j hj)⟩
/-- at most so many come of a zone less another one, by their first two bounds. -/
def nb (c x : List Int) : Nat :=
  if c[0]?.getD 0 < x[0]?.getD 0 ∧ x[1]?.getD 0 ≤ 1 - c[0]?.getD 0 then 1
  else (if c[0]?.getD 0 < x[0]?.getD 0 then 1 else 0) + (if c[1]?.getD 0 < x[1]?.getD 0 ∧ x[0]?.getD 0 ≤ 1 - c[1]?.getD 0 then 1 else (if c[1]?.getD 0 < x[1]?.getD 0 then 1 else 0) + 4)
/-- the good ones, behind the first bound. -/
theorem pcs_five {a : List Int} {ys : List (List Int × Int)} (ha : Zo a) (h : PcsR b 5 a ys) : ∃ B C, good ys = B ++ C ∧ B.length ≤ 1 ∧ C.length ≤ 4 ∧ (∀ x, x ∈ B → Zo x ∧ b[1]?.getD 0 < a[1]?.getD 0 ∧ x[0]?.getD 0 ≤ 1 - b[1]?.getD 0 ∧ x[0]?.getD 0 ≤ a[0]?.getD 0) ∧
    (∀ x, x ∈ C → Zo x ∧ x[0]?.getD 0 ≤ a[0]?.getD 0 ∧ x[1]?.getD 0 ≤ b[1]?.getD 0 ∧ x[1]?.getD 0 ≤ a[1]?.getD 0) := by
  rcases pcs_good tb hb (i := 1) rfl (by omega) ha h with ⟨hx, h⟩ | ⟨hx, h | ⟨z, zz, lz, nz, h | ⟨_, y, l, zy, ly, ny, hl, h⟩⟩⟩
  · obtain ⟨h1, h2⟩ := pcs_all tb hb 4 (by omega) ha h
    exact ⟨[], good ys, rfl, Nat.zero_le _, h1, (fun x hx => by cases hx), fun x q => ⟨(h2 x q).1, (h2 x q).2 0 (by decide), Int.le_trans ((h2 x q).2 1 (by decide)) hx, (h2 x q).2 1 (by decide)⟩⟩
  · exact ⟨[], [], h, Nat.zero_le _, Nat.zero_le _, (fun x hx => by cases hx), (fun x hx => by cases hx)⟩
  · exact ⟨[z], [], h, Nat.le_refl _, Nat.zero_le _, (fun x q => by rw [List.mem_singleton.1 q]; exact ⟨zz, hx, nz, lz 0 (by decide)⟩), (fun x hx => by cases hx)⟩
  · obtain ⟨h1, h2⟩ := pcs_all tb hb 4 (by omega) zy hl
    exact ⟨[z], good l, h, Nat.le_refl _, h1, (fun x q => by rw [List.mem_singleton.1 q]; exact ⟨zz, hx, nz, lz 0 (by decide)⟩),
      fun x q => ⟨(h2 x q).1, Int.le_trans ((h2 x q).2 0 (by decide)) (ly 0 (by decide)), Int.le_trans ((h2 x q).2 1 (by decide)) ny, Int.le_trans ((h2 x q).2 1 (by decide)) (ly 1 (by decide))⟩⟩
theorem pcs_parts {a : List Int} {ys : List (List Int × Int)} (ha : Zo a) (h : PcsR b 6 a ys) : ∃ A B C, good ys = A ++ (B ++ C) ∧ A.length ≤ 1 ∧ B.length ≤ 1 ∧ C.length ≤ 4 ∧
    (∀ x, x ∈ A → Zo x ∧ b[0]?.getD 0 < a[0]?.getD 0 ∧ x[1]?.getD 0 ≤ 1 - b[0]?.getD 0) ∧
    (∀ x, x ∈ B → Zo x ∧ b[1]?.getD 0 < a[1]?.getD 0 ∧ x[0]?.getD 0 ≤ 1 - b[1]?.getD 0 ∧ x[0]?.getD 0 ≤ b[0]?.getD 0) ∧
    (∀ x, x ∈ C → Zo x ∧ x[0]?.getD 0 ≤ b[0]?.getD 0 ∧ x[1]?.getD 0 ≤ b[1]?.getD 0 ∧ x[0]?.getD 0 ≤ a[0]?.getD 0) ∧
    (b[0]?.getD 0 < a[0]?.getD 0 ∧ a[1]?.getD 0 ≤ 1 - b[0]?.getD 0 → B = [] ∧ C = []) := by
  rcases pcs_good tb hb (i := 0) rfl (by omega) ha h with ⟨hx, h⟩ | ⟨hx, h | ⟨z, zz, lz, nz, h | ⟨ho, y, l, zy, ly, ny, hl, h⟩⟩⟩
  · obtain ⟨B, C, h1, h2, h3, h4, h5⟩ := pcs_five tb hb ha h
    exact ⟨[], B, C, h1, Nat.zero_le _, h2, h3, (fun x hx => by cases hx), fun x q => ⟨(h4 x q).1, (h4 x q).2.1, (h4 x q).2.2.1, Int.le_trans (h4 x q).2.2.2 hx⟩,
      fun x q => ⟨(h5 x q).1, Int.le_trans (h5 x q).2.1 hx, (h5 x q).2.2.1, (h5 x q).2.1⟩, fun q => by omega⟩
  · exact ⟨[], [], [], h, Nat.zero_le _, Nat.zero_le _, Nat.zero_le _, (fun x hx => by cases hx), (fun x hx => by cases hx), (fun x hx => by cases hx), fun _ => ⟨rfl, rfl⟩⟩
  · exact ⟨[z], [], [], h, Nat.le_refl _, Nat.zero_le _, Nat.zero_le _, (fun x q => by rw [List.mem_singleton.1 q]; exact ⟨zz, hx, nz⟩), (fun x hx => by cases hx), (fun x hx => by cases hx), fun _ => ⟨rfl, rfl⟩⟩
  · obtain ⟨B, C, h1, h2, h3, h4, h5⟩ := pcs_five tb hb zy hl
    have l0 := ly 0 (by decide)
    have l1 := ly 1 (by decide)
    exact ⟨[z], B, C, by rw [h, h1]; rfl, Nat.le_refl _, h2, h3, (fun x q => by rw [List.mem_singleton.1 q]; exact ⟨zz, hx, nz⟩),
      fun x q => ⟨(h4 x q).1, by have := (h4 x q).2.1; omega, (h4 x q).2.2.1, Int.le_trans (h4 x q).2.2.2 ny⟩,
      fun x q => ⟨(h5 x q).1, Int.le_trans (h5 x q).2.1 ny, (h5 x q).2.2.1, Int.le_trans (h5 x q).2.1 l0⟩, (fun q => by have : oth 0 = 1 := rfl; rw [this] at ho; omega)⟩
theorem nb_le {a : List Int} {ys : List (List Int × Int)} (ha : Zo a) (h : PcsR b 6 a ys) : (good ys).length ≤ nb b a := by
  obtain ⟨A, B, C, h1, h2, h3, h4, hA, hB, hC, h0⟩ := pcs_parts tb hb ha h
  rw [h1, List.length_append, List.length_append]
  have qa : ¬ b[0]?.getD 0 < a[0]?.getD 0 → A.length = 0 := fun n => by
    cases A with
    | nil => rfl
    | cons x A => exact (n (hA x List.mem_cons_self).2.1).elim
  have qb : ¬ b[1]?.getD 0 < a[1]?.getD 0 → B.length = 0 := fun n => by
    cases B with
    | nil => rfl
    | cons x A => exact (n (hB x List.mem_cons_self).2.1).elim
  have qc : b[1]?.getD 0 < a[1]?.getD 0 ∧ a[0]?.getD 0 ≤ 1 - b[1]?.getD 0 → C.length = 0 := fun n => by
    cases C with
    | nil => rfl
    | cons x C =>
      obtain ⟨k1, k2, k3, k4⟩ := hC x List.mem_cons_self
      have := zo_pair k1 (i := 0) (by decide)
      have e : oth 0 = 1 := rfl
      rw [e] at this
      omega
  have q0 : b[0]?.getD 0 < a[0]?.getD 0 ∧ a[1]?.getD 0 ≤ 1 - b[0]?.getD 0 → B.length = 0 ∧ C.length = 0 := fun n => by
    obtain ⟨r1, r2⟩ := h0 n
    rw [r1, r2]
    exact ⟨rfl, rfl⟩
  unfold nb
  split
  · rename_i q; have := q0 q; omega
  · split
    · split
      · rename_i q; have := qc q; omega
      · split
        · omega
        · rename_i q; have := qb q; omega
    · rename_i q
      have := qa q
      split
      · rename_i q; have := qc q; omega
      · split
        · omega
        · rename_i q; have := qb q; omega
end
/-- at most so many come of some. -/
def tot (c : List Int) (l : List (List Int)) : Nat := (l.map (nb c)).sum
theorem tot_app (c : List Int) (l m : List (List Int)) : tot c (l ++ m) = tot c l + tot c m := by simp [tot]
theorem tot_le {c : List Int} {n : Nat} : ∀ {l : List (List Int)}, (∀ x, x ∈ l → nb c x ≤ n) → tot c l ≤ n * l.length
  | [], _ => Nat.zero_le _
  | x :: l, h => by
    have h1 := h x List.mem_cons_self
    have h2 := tot_le (c := c) (n := n) (l := l) fun y hy => h y (List.mem_cons_of_mem _ hy)
    have e : tot c (x :: l) = nb c x + tot c l := by simp [tot]
    rw [e, List.length_cons, Nat.mul_add, Nat.mul_one]
    omega
theorem nb_six (c x : List Int) : nb c x ≤ 6 := by
  unfold nb
  repeat' split
  all_goals omega
theorem nb_all {c x : List Int} {b0 b1 : Int} (hx : Zo x) :
    (x[1]?.getD 0 ≤ 1 - b0 → (c[0]?.getD 0 ≤ b0 → nb c x ≤ 1) ∧ (1 ≤ b0 + c[1]?.getD 0 → nb c x ≤ 5)) ∧
    (x[0]?.getD 0 ≤ 1 - b1 → x[0]?.getD 0 ≤ b0 → (c[1]?.getD 0 ≤ b1 → nb c x ≤ 2 ∧ (b0 ≤ c[0]?.getD 0 ∨ 1 ≤ b1 + c[0]?.getD 0 → nb c x ≤ 1)) ∧ (b0 ≤ c[0]?.getD 0 ∨ 1 ≤ b1 + c[0]?.getD 0 → nb c x ≤ 5)) ∧
    (x[0]?.getD 0 ≤ b0 → x[1]?.getD 0 ≤ b1 → (b0 ≤ c[0]?.getD 0 → nb c x ≤ 5) ∧ (b1 ≤ c[1]?.getD 0 → nb c x ≤ 5) ∧ (b0 ≤ c[0]?.getD 0 → b1 ≤ c[1]?.getD 0 → nb c x ≤ 4) ∧ (b0 ≤ c[0]?.getD 0 → b0 + c[1]?.getD 0 ≤ 0 → nb c x ≤ 1) ∧ (b1 + c[0]?.getD 0 ≤ 0 → nb c x ≤ 1)) := by
  have p := zo_pair hx (i := 0) (by decide)
  rw [show oth 0 = 1 from rfl] at p
  unfold nb
  generalize x[0]?.getD 0 = x0 at p ⊢
  generalize x[1]?.getD 0 = x1 at p ⊢
  generalize c[0]?.getD 0 = c0
  generalize c[1]?.getD 0 = c1
  refine ⟨fun h1 => ⟨fun h2 => ?_, fun h2 => ?_⟩, fun h1 h2 => ⟨fun h3 => ⟨?_, fun h4 => ?_⟩, fun h3 => ?_⟩, fun h1 h2 => ⟨fun h3 => ?_, fun h3 => ?_, fun h3 h4 => ?_, fun h3 h4 => ?_, fun h3 => ?_⟩⟩ <;> (repeat' split) <;> omega
/-- what comes of a zone less one, less another one, is at most 26. -/
theorem two_six {b c a : List Int} {ys : List (List Int × Int)} (tb : Tops b) (hb : MayZ b) (zb : Zo b) (zc : Zo c) (ha : Zo a) (h : PcsR b 6 a ys) : tot c (good ys) ≤ 26 := by
  obtain ⟨A, B, C, h1, h2, h3, h4, hA, hB, hC, _⟩ := pcs_parts tb hb ha h
  rw [h1, tot_app, tot_app]
  have pb := zo_pair zb (i := 0) (by decide)
  have pc := zo_pair zc (i := 0) (by decide)
  rw [show oth 0 = 1 from rfl] at pb pc
  have key : ∃ u v w, (∀ x, x ∈ A → nb c x ≤ u) ∧ (∀ x, x ∈ B → nb c x ≤ v) ∧ (∀ x, x ∈ C → nb c x ≤ w) ∧ u + v + 4 * w ≤ 26 := by
    have fA := fun x (q : x ∈ A) => ((nb_all (c := c) (b0 := b[0]?.getD 0) (b1 := b[1]?.getD 0) (hA x q).1).1 (hA x q).2.2)
    have fB := fun x (q : x ∈ B) => ((nb_all (c := c) (b0 := b[0]?.getD 0) (b1 := b[1]?.getD 0) (hB x q).1).2.1 (hB x q).2.2.1 (hB x q).2.2.2)
    have fC := fun x (q : x ∈ C) => ((nb_all (c := c) (b0 := b[0]?.getD 0) (b1 := b[1]?.getD 0) (hC x q).1).2.2 (hC x q).2.1 (hC x q).2.2.1)
    by_cases c0 : c[0]?.getD 0 ≤ b[0]?.getD 0
    · by_cases c1 : b[1]?.getD 0 + c[0]?.getD 0 ≤ 0
      · exact ⟨1, 6, 1, fun x q => (fA x q).1 c0, fun x q => nb_six _ _, fun x q => (fC x q).2.2.2.2 c1, by omega⟩
      · by_cases c2 : c[1]?.getD 0 ≤ b[1]?.getD 0
        · exact ⟨1, 1, 6, fun x q => (fA x q).1 c0, fun x q => ((fB x q).1 c2).2 (.inr (by omega)), fun x q => nb_six _ _, by omega⟩
        · exact ⟨1, 5, 5, fun x q => (fA x q).1 c0, fun x q => (fB x q).2 (.inr (by omega)), fun x q => (fC x q).2.1 (by omega), by omega⟩
    · by_cases c2 : c[1]?.getD 0 ≤ b[1]?.getD 0
      · by_cases c1 : b[0]?.getD 0 + c[1]?.getD 0 ≤ 0
        · exact ⟨6, 1, 1, fun x q => nb_six _ _, fun x q => ((fB x q).1 c2).2 (.inl (by omega)), fun x q => (fC x q).2.2.2.1 (by omega) c1, by omega⟩
        · exact ⟨5, 1, 5, fun x q => (fA x q).2 (by omega), fun x q => ((fB x q).1 c2).2 (.inl (by omega)), fun x q => (fC x q).1 (by omega), by omega⟩
      · exact ⟨5, 5, 4, fun x q => (fA x q).2 (by omega), fun x q => (fB x q).2 (.inl (by omega)), fun x q => (fC x q).2.2.1 (by omega) (by omega), by omega⟩
  obtain ⟨u, v, w, ku, kv, kw, hs⟩ := key
  have t1 := tot_le ku
  have t2 := tot_le kv
  have t3 := tot_le kw
  have m1 := Nat.mul_le_mul_left u h2
  have m2 := Nat.mul_le_mul_left v h3
  have m3 := Nat.mul_le_mul_left w h4
  omega

/-! gathered -/
/-- those that come, behind those that are there: at most 4,096, asked at each one. -/
def eat (h : List (List Int)) : List (List Int × Int) → List (List Int) × Int
  | [] => (h, 0)
  | p :: ys => if p.2 = 0 then if h.length = 4096 then ([], 4) else eat (h ++ [p.1]) ys else ([], p.2)
theorem eat_good {h : List (List Int)} {p : List Int × Int} {ys : List (List Int × Int)} (q : p.2 = 0) (l : ¬ h.length = 4096) : eat h (p :: ys) = eat (h ++ [p.1]) ys := by
  rw [eat, if_pos q, if_neg l]
theorem eat_many {h : List (List Int)} {p : List Int × Int} {ys : List (List Int × Int)} (q : p.2 = 0) (l : h.length = 4096) : eat h (p :: ys) = ([], 4) := by
  rw [eat, if_pos q, if_pos l]
theorem eat_wrong {h : List (List Int)} {p : List Int × Int} {ys : List (List Int × Int)} (q : ¬ p.2 = 0) : eat h (p :: ys) = ([], p.2) := by
  rw [eat, if_neg q]
theorem eat_mk (t : List (List Int × Int)) : ∀ (o h : List (List Int)), h.length + o.length ≤ 4096 → eat h (mkz o ++ t) = eat (h ++ o) t
  | [], h, _ => by rw [List.append_nil]; rfl
  | z :: o, h, q => by
    rw [List.length_cons] at q
    rw [mk_cons, List.cons_append, eat_good rfl (by omega), eat_mk t o (h ++ [z]) (by rw [List.length_append, List.length_singleton]; omega), List.append_assoc]
    rfl
theorem eat_zero : ∀ (ys : List (List Int × Int)) (h : List (List Int)), h.length ≤ 4096 → (eat h ys).2 = 0 → ∃ o, ys = mkz o ∧ (eat h ys).1 = h ++ o ∧ h.length + o.length ≤ 4096
  | [], h, hl, _ => ⟨[], rfl, by rw [List.append_nil]; rfl, by simpa using hl⟩
  | p :: ys, h, hl, e => by
    by_cases q : p.2 = 0
    · by_cases l : h.length = 4096
      · rw [eat_many q l] at e; exact absurd e (by decide)
      · rw [eat_good q l] at e ⊢
        obtain ⟨o, h1, h2, h3⟩ := eat_zero ys (h ++ [p.1]) (by rw [List.length_append, List.length_singleton]; omega) e
        refine ⟨p.1 :: o, ?_, by rw [h2, List.append_assoc]; rfl, ?_⟩
        · rw [mk_cons, ← h1, ← q]
        · rw [List.length_append, List.length_singleton] at h3
          rw [List.length_cons]
          omega
    · rw [eat_wrong q] at e; exact (q e).elim
theorem eat_err : ∀ (ys : List (List Int × Int)) (h : List (List Int)), (eat h ys).2 ≠ 0 → (eat h ys).1 = []
  | [], h, n => (n rfl).elim
  | p :: ys, h, n => by
    by_cases q : p.2 = 0
    · by_cases l : h.length = 4096
      · rw [eat_many q l]
      · rw [eat_good q l] at n ⊢; exact eat_err ys _ n
    · rw [eat_wrong q]
/-- one more behind those that came without an error. -/
theorem eat_snoc : ∀ (ys : List (List Int × Int)) (h : List (List Int)) (t : List (List Int × Int)), (eat h ys).2 = 0 → eat h (ys ++ t) = eat (eat h ys).1 t
  | [], h, t, _ => rfl
  | p :: ys, h, t, e => by
    rw [List.cons_append]
    by_cases q : p.2 = 0
    · by_cases l : h.length = 4096
      · rw [eat_many q l] at e; exact absurd e (by decide)
      · rw [eat_good q l] at e
        rw [eat_good q l, eat_good q l]
        exact eat_snoc ys _ t e
    · rw [eat_wrong q] at e; exact (q e).elim
theorem eat_stop : ∀ (ys : List (List Int × Int)) (h : List (List Int)) (t : List (List Int × Int)), (eat h ys).2 ≠ 0 → eat h (ys ++ t) = eat h ys
  | [], h, t, n => (n rfl).elim
  | p :: ys, h, t, n => by
    rw [List.cons_append]
    by_cases q : p.2 = 0
    · by_cases l : h.length = 4096
      · rw [eat_many q l, eat_many q l]
      · rw [eat_good q l] at n
        rw [eat_good q l, eat_good q l]
        exact eat_stop ys _ t n
    · rw [eat_wrong q, eat_wrong q]
/-- each of some zones less one, behind those that are there, as the program gathers them. -/
def StepP (b : List Int) : List (List Int) → List (List Int) → List (List Int) → Int → Prop
  | [], h, r, f => r = h ∧ f = 0
  | z :: zs, h, r, f => ∃ ys, PcsR b 6 z ys ∧ (((eat h ys).2 ≠ 0 ∧ r = [] ∧ f = (eat h ys).2) ∨ ((eat h ys).2 = 0 ∧ StepP b zs (eat h ys).1 r f))
def RestP : List (List Int) → List (List Int) → List (List Int) → Int → Prop
  | [], l, r, f => r = l ∧ f = 0
  | b :: bs, l, r, f => ∃ n e, StepP b l [] n e ∧ ((e ≠ 0 ∧ r = [] ∧ f = e) ∨ (e = 0 ∧ RestP bs n r f))
section
variable {b : List Int} (tb : Tops b) (hb : MayZ b)
include tb hb
theorem stepP_ok : ∀ (zs : List (List Int)) {h r : List (List Int)}, (∀ z, z ∈ zs → Zo z) → h.length ≤ 4096 → StepP b zs h r 0 → StepR b zs h r 0 ∧ r.length ≤ 4096
  | [], h, r, _, hl, q => ⟨q, by rw [q.1]; exact hl⟩
  | z :: zs, h, r, hz, hl, q => by
    unfold StepP at q
    obtain ⟨ys, hp, q⟩ := q
    rcases q with ⟨q1, _, q3⟩ | ⟨q1, q2⟩
    · exact (q1 q3.symm).elim
    · obtain ⟨o, h1, h2, h3⟩ := eat_zero ys h hl q1
      obtain ⟨f, h4, h5⟩ := pcs_less tb hb 6 (Nat.le_refl _) (hz z List.mem_cons_self) hp
      rw [h2] at q2
      have g : good ys = o := by rw [h1, good_mk]
      rcases h5 with ⟨h5, _⟩ | ⟨_, x, h5⟩
      · rw [h5, if_pos rfl, g] at h4
        obtain ⟨k1, k2⟩ := stepP_ok zs (fun x hx => hz x (List.mem_cons_of_mem _ hx)) (by rw [List.length_append]; omega) q2
        exact ⟨⟨o, 0, h4, .inr ⟨rfl, .inr ⟨by rw [List.length_append]; omega, k1⟩⟩⟩, k2⟩
      · exfalso
        have m : (x, (8 : Int)) ∈ mkz o := by rw [← h1, h5]; simp
        unfold mkz at m
        obtain ⟨w, _, e⟩ := List.mem_map.1 m
        exact absurd (show (0 : Int) = 8 from congrArg Prod.snd e) (by decide)
/-- where they are not too many. -/
theorem stepP_few : ∀ (zs : List (List Int)) {h r : List (List Int)} {f : Int}, (∀ z, z ∈ zs → Zo z) → h.length + tot b zs ≤ 4096 → StepP b zs h r f → StepR b zs h r f ∧ (f = 0 → r.length ≤ h.length + tot b zs)
  | [], h, r, f, _, _, q => ⟨q, fun _ => by rw [q.1]; exact Nat.le_add_right _ _⟩
  | z :: zs, h, r, f, hz, hl, q => by
    unfold StepP at q
    obtain ⟨ys, hp, q⟩ := q
    have zz := hz z List.mem_cons_self
    obtain ⟨f', h4, h5⟩ := pcs_less tb hb 6 (Nat.le_refl _) zz hp
    have n := nb_le tb hb zz hp
    have e : tot b (z :: zs) = nb b z + tot b zs := by simp [tot]
    rcases h5 with ⟨h5, h6⟩ | ⟨h5, x, h6⟩
    · have ea : eat h ys = (h ++ good ys, 0) := by
        have := eat_mk [] (good ys) h (by omega)
        rw [List.append_nil, ← h6] at this
        exact this
      rw [ea] at q
      rw [h5, if_pos rfl] at h4
      rcases q with ⟨q1, _, _⟩ | ⟨_, q2⟩
      · exact (q1 rfl).elim
      · have hl' : (h ++ good ys).length = h.length + (good ys).length := List.length_append
        obtain ⟨k1, k2⟩ := stepP_few zs (fun x hx => hz x (List.mem_cons_of_mem _ hx)) (by rw [hl']; omega) q2
        exact ⟨⟨good ys, 0, h4, .inr ⟨rfl, .inr ⟨by rw [hl']; omega, k1⟩⟩⟩, fun q => by have := k2 q; rw [hl'] at this; omega⟩
    · have ea : eat h ys = ([], 8) := by
        have := eat_mk [(x, 8)] (good ys) h (by omega)
        rw [← h6] at this
        exact this
      rw [ea] at q
      rw [h5, if_neg (by decide)] at h4
      rcases q with ⟨_, q2, q3⟩ | ⟨q1, _⟩
      · exact ⟨⟨[], 8, h4, .inl ⟨by decide, q2, q3⟩⟩, fun q => by rw [q3] at q; exact absurd q (by decide)⟩
      · exact absurd q1 (by decide)
theorem stepP_tot {c : List Int} (zb : Zo b) (zc : Zo c) : ∀ (zs : List (List Int)) {h r : List (List Int)}, (∀ z, z ∈ zs → Zo z) → h.length ≤ 4096 → StepP b zs h r 0 → tot c r ≤ tot c h + 26 * zs.length
  | [], h, r, _, _, q => by rw [q.1]; exact Nat.le_add_right _ _
  | z :: zs, h, r, hz, hl, q => by
    unfold StepP at q
    obtain ⟨ys, hp, q⟩ := q
    rcases q with ⟨q1, _, q3⟩ | ⟨q1, q2⟩
    · exact (q1 q3.symm).elim
    · obtain ⟨o, h1, h2, h3⟩ := eat_zero ys h hl q1
      rw [h2] at q2
      have k := stepP_tot zb zc zs (fun x hx => hz x (List.mem_cons_of_mem _ hx)) (by rw [List.length_append]; omega) q2
      have t := two_six tb hb zb zc (hz z List.mem_cons_self) hp
      rw [h1, good_mk] at t
      rw [tot_app] at k
      rw [List.length_cons]
      omega
end
theorem restP_ok : ∀ (bs : List (List Int)) {l r : List (List Int)}, (∀ b, b ∈ bs → Zo b) → (∀ z, z ∈ l → Zo z) → RestP bs l r 0 → RestR bs l r 0
  | [], _, _, _, _, h => h
  | b :: bs, l, r, hb, hl, h => by
    unfold RestP at h
    obtain ⟨n, e, hn, q⟩ := h
    rcases q with ⟨p1, _, p3⟩ | ⟨p1, p2⟩
    · exact (p1 p3.symm).elim
    · subst p1
      have zb := hb b List.mem_cons_self
      obtain ⟨k1, k2⟩ := stepP_ok zb.2.1 zb.1 l hl (Nat.zero_le _) hn
      exact ⟨n, 0, k1, .inr ⟨rfl, restP_ok bs (fun x hx => hb x (List.mem_cons_of_mem _ hx)) (step_zo zb.2.1 zb.1 l hl ((fun x hx => by cases hx)) k1) p2⟩⟩
theorem tot_six (c : List Int) (l : List (List Int)) : tot c l ≤ 6 * l.length := tot_le fun x _ => nb_six c x
/-- one step more: how many there are, and how many may come of them. -/
theorem restP_one {b : List Int} {bs l r : List (List Int)} {f : Int} (hb : Zo b) (hl : ∀ z, z ∈ l → Zo z) (few : tot b l ≤ 4096) (h : RestP (b :: bs) l r f) :
    ∃ n e, StepR b l [] n e ∧ ((e ≠ 0 ∧ r = [] ∧ f = e) ∨ (e = 0 ∧ RestP bs n r f ∧ (∀ z, z ∈ n → Zo z) ∧ n.length ≤ tot b l ∧ ∀ c, Zo c → tot c n ≤ 26 * l.length)) := by
  unfold RestP at h
  obtain ⟨n, e, hn, q⟩ := h
  have z0 : ([] : List (List Int)).length + tot b l ≤ 4096 := by rw [List.length_nil]; omega
  obtain ⟨k1, k2⟩ := stepP_few hb.2.1 hb.1 l hl z0 hn
  refine ⟨n, e, k1, ?_⟩
  rcases q with q | ⟨q1, q2⟩
  · exact .inl q
  · subst q1
    refine .inr ⟨rfl, q2, step_zo hb.2.1 hb.1 l hl ((fun x hx => by cases hx)) k1, ?_, fun c zc => ?_⟩
    · have := k2 rfl
      rwa [List.length_nil, Nat.zero_add] at this
    · have := stepP_tot hb.2.1 hb.1 hb zc l hl (Nat.zero_le _) hn
      have e0 : tot c [] = 0 := rfl
      omega
/-- five steps, at most, leave no more than may be. -/
theorem restP_five {bs : List (List Int)} {a : List Int} {r : List (List Int)} {f : Int} (h5 : bs.length ≤ 5) (hb : ∀ b, b ∈ bs → Zo b) (ha : Zo a) (h : RestP bs [a] r f) : RestR bs [a] r f := by
  have h1 : ∀ z, z ∈ [a] → Zo z := fun z hz => by rw [List.mem_singleton.1 hz]; exact ha
  match bs, h5, hb, h with
  | [], _, _, h => exact h
  | b1 :: bs, h5, hb, h =>
    have z1 := hb b1 List.mem_cons_self
    have hb := fun b q => hb b (List.mem_cons_of_mem _ q)
    have t1 := tot_six b1 [a]
    rw [List.length_singleton] at t1
    obtain ⟨n1, e1, s1, q | ⟨q, h, o1, l1, k1⟩⟩ := restP_one z1 h1 (by omega) h
    · exact ⟨n1, e1, s1, .inl q⟩
    refine ⟨n1, e1, s1, .inr ⟨q, ?_⟩⟩
    match bs, h5, hb, h with
    | [], _, _, h => exact h
    | b2 :: bs, h5, hb, h =>
      have z2 := hb b2 List.mem_cons_self
      have hb := fun b q => hb b (List.mem_cons_of_mem _ q)
      have t2 := k1 b2 z2
      rw [List.length_singleton] at t2
      obtain ⟨n2, e2, s2, q | ⟨q, h, o2, l2, k2⟩⟩ := restP_one z2 o1 (by omega) h
      · exact ⟨n2, e2, s2, .inl q⟩
      refine ⟨n2, e2, s2, .inr ⟨q, ?_⟩⟩
      match bs, h5, hb, h with
      | [], _, _, h => exact h
      | b3 :: bs, h5, hb, h =>
        have z3 := hb b3 List.mem_cons_self
        have hb := fun b q => hb b (List.mem_cons_of_mem _ q)
        have t3 := k2 b3 z3
        obtain ⟨n3, e3, s3, q | ⟨q, h, o3, l3, k3⟩⟩ := restP_one z3 o2 (by omega) h
        · exact ⟨n3, e3, s3, .inl q⟩
        refine ⟨n3, e3, s3, .inr ⟨q, ?_⟩⟩
        match bs, h5, hb, h with
        | [], _, _, h => exact h
        | b4 :: bs, h5, hb, h =>
          have z4 := hb b4 List.mem_cons_self
          have hb := fun b q => hb b (List.mem_cons_of_mem _ q)
          have t4 := tot_six b4 n3
          obtain ⟨n4, e4, s4, q | ⟨q, h, o4, l4, k4⟩⟩ := restP_one z4 o3 (by omega) h
          · exact ⟨n4, e4, s4, .inl q⟩
          refine ⟨n4, e4, s4, .inr ⟨q, ?_⟩⟩
          match bs, h5, hb, h with
          | [], _, _, h => exact h
          | b5 :: bs, h5, hb, h =>
            have z5 := hb b5 List.mem_cons_self
            have t5 := k4 b5 z5
            obtain ⟨n5, e5, s5, q | ⟨q, h, _⟩⟩ := restP_one z5 o4 (by omega) h
            · exact ⟨n5, e5, s5, .inl q⟩
            refine ⟨n5, e5, s5, .inr ⟨q, ?_⟩⟩
            match bs, h5, h with
            | [], _, h => exact h
            | _ :: _, h5, _ => simp at h5
end Go.Proofs.YtkfnjdmjojodhaaDoor.minus
