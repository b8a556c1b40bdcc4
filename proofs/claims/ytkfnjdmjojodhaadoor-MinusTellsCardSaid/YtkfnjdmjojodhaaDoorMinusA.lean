/-
  What is left of zones, pure: one zone less another one, some by one, one by some; each theorem names its conditions.
-/
import Derived.Test.YtkfnjdmjojodhaaDoorWinA
namespace Go.Proofs.YtkfnjdmjojodhaaDoor.minus
open way num rat dbm Go.Proofs.YtkfnjdmjojodhaaDoor.tight Go.Proofs.YtkfnjdmjojodhaaDoor.tkept Go.Proofs.YtkfnjdmjojodhaaDoor.incl Go.Proofs.YtkfnjdmjojodhaaDoor.zone Go.Proofs.YtkfnjdmjojodhaaDoor.win
open bound hiding up
open Go.Proofs.YtkfnjdmjojodhaaDoor.comp (zw may_cl six_fine)
open proj (cl_cod)
set_option linter.unusedVariables false
set_option linter.unusedSimpArgs false
set_option linter.unusedSectionVars false

/-- the place of a bound of the difference the other way round. -/
def oth (i : Nat) : Nat := if i % 2 = 0 then i + 1 else i - 1
theorem oth_lt {i : Nat} (h : i < 6) : oth i < 6 := by unfold oth; split <;> omega
theorem oth_oth (i : Nat) : oth (oth i) = i := by
  unfold oth
  by_cases h : i % 2 = 0
  · rw [if_pos h, if_neg (by omega)]; omega
  · rw [if_neg h, if_pos (by omega)]; omega
/-- row and column of a place. -/
def ro (i : Nat) : Nat := [1, 0, 2, 0, 2, 1][i]?.getD 0
def co (i : Nat) : Nat := [0, 1, 0, 2, 1, 2][i]?.getD 0
theorem six_is {i : Nat} (h : i < 6) : i = 0 ∨ i = 1 ∨ i = 2 ∨ i = 3 ∨ i = 4 ∨ i = 5 := by omega
theorem ro_lt {i : Nat} (h : i < 6) : ro i < 3 := by rcases six_is h with rfl | rfl | rfl | rfl | rfl | rfl <;> decide
theorem co_lt {i : Nat} (h : i < 6) : co i < 3 := by rcases six_is h with rfl | rfl | rfl | rfl | rfl | rfl <;> decide
theorem ro_oth {i : Nat} (h : i < 6) : ro (oth i) = co i ∧ co (oth i) = ro i := by rcases six_is h with rfl | rfl | rfl | rfl | rfl | rfl <;> decide
theorem zw_at (z : List Int) {i : Nat} (h : i < 6) : zw z (ro i) (co i) = cod (z[i]?.getD 0) := by rcases six_is h with rfl | rfl | rfl | rfl | rfl | rfl <;> rfl
/-- a zone with one bound alone. -/
def oneZ (i : Nat) (x : Int) : List Int := [9223372036854775807, 9223372036854775807, 9223372036854775807, 9223372036854775807, 9223372036854775807, 9223372036854775807].set i x
theorem one_length (i : Nat) (x : Int) : (oneZ i x).length = 6 := by simp [oneZ]
theorem one_at {i k : Nat} (x : Int) (hk : k < 6) : (oneZ i x)[k]?.getD 0 = if i = k then x else 9223372036854775807 := by
  unfold oneZ
  by_cases h : i = k
  · subst h
    rw [if_pos rfl, List.getElem?_set_self (by exact hk)]; rfl
  · rw [if_neg h, List.getElem?_set_ne h]
    rcases six_is hk with rfl | rfl | rfl | rfl | rfl | rfl <;> rfl
theorem one_may {i : Nat} {x : Int} (hx : Fine x) : MayD 3 (fullT (oneZ i x)) := full_may fun k hk => by
  rw [one_at x hk]
  split
  · exact hx
  · exact none_fine
theorem one_tops {i : Nat} {x : Int} (hx : x ≤ 9223372036854775807) : Tops (oneZ i x) := fun y hy => by
  unfold oneZ at hy
  rcases List.mem_or_eq_of_mem_set hy with h | h
  · simp only [List.mem_cons, List.not_mem_nil, or_false] at h
    omega
  · omega
/-- is a bound's place kept by a point? -/
def kb (i : Nat) (x a b c d : Int) : Bool := if i = 0 then kpV a b 0 1 x else if i = 1 then kpV 0 1 a b x else if i = 2 then kpV c d 0 1 x else if i = 3 then kpV 0 1 c d x else if i = 4 then kpV c d a b x else kpV a b c d x
theorem kb_none (i : Nat) {a b c d : Int} (h : MayR a b) (k : MayR c d) : kb i 9223372036854775807 a b c d = true := by
  unfold kb
  repeat' split
  · exact kp_none h zero_may
  · exact kp_none zero_may h
  · exact kp_none k zero_may
  · exact kp_none zero_may k
  · exact kp_none k h
  · exact kp_none h k
theorem kept_kb {z : List Int} {a b c d : Int} (h : MayR a b) (k : MayR c d) : keptAll 3 (fullT z) [(0, 1), (a, b), (c, d)] ↔ ∀ i, i < 6 → kb i (z[i]?.getD 0) a b c d = true := by
  rw [kept_six h k]
  constructor
  · rintro ⟨h0, h1, h2, h3, h4, h5⟩ i hi
    rcases six_is hi with rfl | rfl | rfl | rfl | rfl | rfl
    · exact h0
    · exact h1
    · exact h2
    · exact h3
    · exact h4
    · exact h5
  · intro q
    exact ⟨q 0 (by decide), q 1 (by decide), q 2 (by decide), q 3 (by decide), q 4 (by decide), q 5 (by decide)⟩
theorem kept_one {i : Nat} {x a b c d : Int} (hi : i < 6) (h : MayR a b) (k : MayR c d) : keptAll 3 (fullT (oneZ i x)) [(0, 1), (a, b), (c, d)] ↔ kb i x a b c d = true := by
  rw [kept_kb h k]
  constructor
  · intro q
    have := q i hi
    rwa [one_at x hi, if_pos rfl] at this
  · intro q j hj
    rw [one_at x hj]
    by_cases e : i = j
    · subst e; rw [if_pos rfl]; exact q
    · rw [if_neg e]; exact kb_none j h k
/-- not a bound, as a bound of the difference the other way round. -/
theorem not_is {x : Int} (hx : Fine x) (hn : x ≠ 9223372036854775807) : notV x = 1 - x ∧ Fine (1 - x) ∧ 1 - x ≠ 9223372036854775807 := by
  have h := hx.resolve_left hn
  refine ⟨?_, .inr (by omega), by omega⟩
  unfold notV
  rw [if_pos (by unfold May; omega)]
  unfold mk bS
  by_cases e : x % 2 = 0
  · rw [decide_eq_true e, Bool.not_true, if_neg (by decide)]; omega
  · rw [decide_eq_false e, Bool.not_false, if_pos rfl]; omega
theorem kept_not {a b c d x : Int} (h : MayR a b) (k : MayR c d) (hx : Fine x) (hn : x ≠ 9223372036854775807) : kpV c d a b (1 - x) = !kpV a b c d x := by
  obtain ⟨_, f, n⟩ := not_is hx hn
  have e1 := kp_kB k h f
  have e2 := kp_kB h k hx
  have key : keptR c d a b (1 - x) = !keptR a b c d x := by
    unfold keptR
    have m : d * b = b * d := Int.mul_comm d b
    have q : (1 - x) / 2 = -(x / 2) ∨ (1 - x) / 2 = -(x / 2) := by omega
    have q : (1 - x) / 2 = -(x / 2) := by omega
    rw [m, q, Int.neg_mul, show c * b - a * d = -(a * d - c * b) by omega]
    generalize a * d - c * b = u
    generalize x / 2 * (b * d) = v
    by_cases e : x % 2 = 0
    · have s1 : bS x = true := by unfold bS; exact decide_eq_true e
      have s2 : bS (1 - x) = false := by unfold bS; exact decide_eq_false (by omega)
      rw [s1, s2, if_pos rfl, if_neg (by decide)]
      unfold ltB
      rw [decide_eq_decide.2 (show -v < -u ↔ u < v by omega)]
    · have s1 : bS x = false := by unfold bS; exact decide_eq_false e
      have s2 : bS (1 - x) = true := by unfold bS; exact decide_eq_true (by omega)
      rw [s1, s2, if_pos rfl, if_neg (by decide), Bool.not_not]
      unfold ltB
      rw [decide_eq_decide.2 (show -u < -v ↔ v < u by omega)]
  rw [Bool.eq_iff_iff, e1]
  have e3 : (!kpV a b c d x) = true ↔ ¬ kpV a b c d x = true := by cases kpV a b c d x <;> simp
  rw [e3, e2, key]
  constructor
  · rintro (q | q)
    · exact (n q).elim
    · rintro (r | r)
      · exact hn r
      · rw [r] at q; cases q
  · intro q
    right
    cases hv : keptR a b c d x with
    | false => rfl
    | true => exact (q (.inr hv)).elim
theorem kb_not {i : Nat} {x a b c d : Int} (hi : i < 6) (h : MayR a b) (k : MayR c d) (hx : Fine x) (hn : x ≠ 9223372036854775807) : kb (oth i) (1 - x) a b c d = !kb i x a b c d := by
  rcases six_is hi with rfl | rfl | rfl | rfl | rfl | rfl
  · exact kept_not h zero_may hx hn
  · exact kept_not zero_may h hx hn
  · exact kept_not k zero_may hx hn
  · exact kept_not zero_may k hx hn
  · exact kept_not k h hx hn
  · exact kept_not h k hx hn

/-! the table of a zone that may be -/
section
variable {z : List Int} (tz : Tops z) (hz : MayZ z)
include tz hz
theorem tab_eq {i j : Nat} (hi : i < 3) (hj : j < 3) : beg 3 (fullT z) i j = zw z i j := by
  show wts 3 (lows 3 (fullT z) 3) i j = _
  rw [wts_in hi hj, beg_at (n := 3) rfl (by decide) hi hj]
  by_cases h : i = j
  · subst h
    rw [if_pos rfl]
    rcases (by omega : i = 0 ∨ i = 1 ∨ i = 2) with rfl | rfl | rfl <;> rfl
  · rw [if_neg h]; rfl
theorem tab_F (i j : Nat) : F (beg 3 (fullT z)) 3 i j = beg 3 (fullT z) i j := by
  by_cases h : i < 3 ∧ j < 3
  · rw [← cl_cod (n := 3) (by decide) (by decide) rfl (full_tops tz) hz.1 h.1 h.2, tab_eq tz hz h.1 h.2, show clT ((3 : Nat) : Int) (fullT z) = fullT z from hz.2]; rfl
  · by_cases hi : i < 3
    · exact (F_none2 (d := beg 3 (fullT z)) (j := j) (fun i => wts_out2 (us := lows 3 (fullT z) 3) (fun k => h ⟨hi, k⟩)) 3 i).trans (wts_out2 (us := lows 3 (fullT z) 3) (fun k => h ⟨hi, k⟩)).symm
    · exact (F_none (d := beg 3 (fullT z)) (i := i) (fun j => wts_out (us := lows 3 (fullT z) 3) hi) 3 j).trans (wts_out (us := lows 3 (fullT z) 3) hi).symm
theorem tab_good : way.Good (beg 3 (fullT z)) 3 := (okD_good (n := 3) (by decide) (by decide) rfl (full_tops tz) hz.may).1 hz.1
theorem tab_tri : Tri (beg 3 (fullT z)) 3 := fun x hx i j => by
  have := good_tri (tab_good tz hz) x hx i j
  rwa [tab_F tz hz, tab_F tz hz, tab_F tz hz] at this
theorem tab_pos : Pos (beg 3 (fullT z)) := fun i => by
  have := tab_good tz hz 3 (Nat.le_refl _) i
  rwa [tab_F tz hz] at this
theorem tab_one (i : Nat) (hi : i < 3) : beg 3 (fullT z) i i = way.one := by rw [tab_eq tz hz hi hi]; exact (may_cl tz hz).2 i hi
theorem both_one {i : Nat} (v : Int) (hi : i < 6) : both (beg 3 (fullT z)) (beg 3 (fullT (oneZ i v))) = put (beg 3 (fullT z)) (ro i) (co i) (cod v) := by
  have mnn : ∀ x : B, mn x none = x := fun x => mn_eq_left (le_none _)
  have mno : mn way.one way.one = way.one := mn_eq_left (le_refl _)
  have eo : ∀ {r c : Nat}, r < 3 → c < 3 → beg 3 (fullT (oneZ i v)) r c = zw (oneZ i v) r c := fun {r c} hr hc => by
    show wts 3 (lows 3 (fullT (oneZ i v)) 3) r c = _
    rw [wts_in hr hc, beg_at (n := 3) rfl (by decide) hr hc]
    by_cases h : r = c
    · subst h
      rw [if_pos rfl]
      rcases (by omega : r = 0 ∨ r = 1 ∨ r = 2) with rfl | rfl | rfl <;> rfl
    · rw [if_neg h]; rfl
  funext r c
  show mn (beg 3 (fullT z) r c) (beg 3 (fullT (oneZ i v)) r c) = put (beg 3 (fullT z)) (ro i) (co i) (cod v) r c
  by_cases h : r < 3 ∧ c < 3
  · rw [eo h.1 h.2]
    unfold put
    by_cases e : r = ro i ∧ c = co i
    · rw [if_pos e, e.1, e.2, zw_at _ hi, one_at v hi, if_pos rfl]
    · rw [if_neg e]
      by_cases d : r = c
      · subst d
        rw [tab_one tz hz r h.1, show zw (oneZ i v) r r = way.one from by rcases (by omega : r = 0 ∨ r = 1 ∨ r = 2) with rfl | rfl | rfl <;> rfl]
        exact mno
      · have pl : ∃ k, k < 6 ∧ ro k = r ∧ co k = c := by
          rcases (by omega : r = 0 ∨ r = 1 ∨ r = 2) with rfl | rfl | rfl <;> rcases (by omega : c = 0 ∨ c = 1 ∨ c = 2) with rfl | rfl | rfl
          · exact (d rfl).elim
          · exact ⟨1, by decide, rfl, rfl⟩
          · exact ⟨3, by decide, rfl, rfl⟩
          · exact ⟨0, by decide, rfl, rfl⟩
          · exact (d rfl).elim
          · exact ⟨5, by decide, rfl, rfl⟩
          · exact ⟨2, by decide, rfl, rfl⟩
          · exact ⟨4, by decide, rfl, rfl⟩
          · exact (d rfl).elim
        obtain ⟨k, hk, rfl, rfl⟩ := pl
        rw [zw_at _ hk, one_at v hk, if_neg (fun q => e ⟨by rw [q], by rw [q]⟩), cod_none]
        exact mnn _
  · have e1 : ∀ y : List Int, beg 3 (fullT y) r c = none := fun y => by
      by_cases hi : r < 3
      · exact wts_out2 (fun k => h ⟨hi, k⟩)
      · exact wts_out hi
    have r1 := ro_lt hi
    have c1 := co_lt hi
    rw [e1, e1]
    unfold put
    rw [if_neg (fun k => h ⟨by omega, by omega⟩), e1]
    exact mnn _
/-- is there something with one bound more? -/
theorem ok_one {i : Nat} {v : Int} (hi : i < 6) (hv : Fine v) : OkD 3 (lesT (fullT z) (fullT (oneZ i v))) ↔ le way.one (ad (cod (z[oth i]?.getD 0)) (cod v)) := by
  have tt : Tops (lesT (fullT z) (fullT (oneZ i v))) := lesT_tops (full_tops tz) _
  have e : OkD 3 (lesT (fullT z) (fullT (oneZ i v))) ↔ way.Good (beg 3 (lesT (fullT z) (fullT (oneZ i v)))) 3 := okD_good (n := 3) (by decide) (by decide) (lesT_length _ _) tt (lesT_may hz.may (one_may hv))
  rw [e, beg_les (n := 3) (by decide) (by decide) rfl rfl (full_tops tz) (full_tops (one_tops (fine_le hv))), both_one tz hz v hi,
    put_iff (ro_lt hi) (co_lt hi) (tab_tri tz hz) (tab_pos tz hz) (fun i hi => by rw [tab_one tz hz i hi]; exact le_refl _) (fun i hi j => wts_out hi), tab_eq tz hz (co_lt hi) (ro_lt hi), ← (ro_oth hi).1, ← (ro_oth hi).2, zw_at _ (oth_lt hi)]
theorem not_one {i : Nat} {x : Int} (hi : i < 6) (hx : Fine x) (hn : x ≠ 9223372036854775807) : OkD 3 (lesT (fullT z) (fullT (oneZ (oth i) (1 - x)))) ↔ x < z[i]?.getD 0 := by
  obtain ⟨_, f, n⟩ := not_is hx hn
  rw [ok_one tz hz (oth_lt hi) f, oth_oth]
  have t := get_top tz i
  have fx := hx.resolve_left hn
  by_cases e : z[i]?.getD 0 = 9223372036854775807
  · rw [e, cod_none, none_ad]
    exact ⟨fun _ => by omega, fun _ => le_none _⟩
  · have fz := (six_fine hz.may i hi).resolve_left e
    rw [cod_some e, cod_some n, ad_some]
    show (1 : Int) ≤ 2 * (z[i]?.getD 0 / 2 + (1 - x) / 2) + min (z[i]?.getD 0 % 2) ((1 - x) % 2) ↔ _
    omega
/-- a bound that is there already turns nothing. -/
theorem own_one {i : Nat} {x : Int} (hi : i < 6) (hx : z[i]?.getD 0 ≤ x) (hm : x ≤ 9223372036854775807) : lesT (fullT z) (fullT (oneZ i x)) = fullT z := by
  have lt : ∀ {a b : Int}, a ≤ b → lsr a b = a := fun {a b} h => by unfold lsr; split <;> omega
  have key : ∀ k, k < 6 → lsr (z[k]?.getD 0) ((oneZ i x)[k]?.getD 0) = z[k]?.getD 0 := fun k hk => by
    rw [one_at x hk]
    by_cases e : i = k
    · subst e; rw [if_pos rfl]; exact lt hx
    · rw [if_neg e]; exact lt (get_top tz k)
  refine list_at (lesT_length _ _) fun p hp => ?_
  have hp : p < 9 := by rw [lesT_length] at hp; exact hp
  rw [lesT_at _ _ (show p < (fullT z).length from hp)]
  rcases (by omega : p = 0 ∨ p = 1 ∨ p = 2 ∨ p = 3 ∨ p = 4 ∨ p = 5 ∨ p = 6 ∨ p = 7 ∨ p = 8) with rfl | rfl | rfl | rfl | rfl | rfl | rfl | rfl | rfl
  · rfl
  · exact key 1 (by decide)
  · exact key 3 (by decide)
  · exact key 0 (by decide)
  · rfl
  · exact key 5 (by decide)
  · exact key 2 (by decide)
  · exact key 4 (by decide)
  · rfl
end
end Go.Proofs.YtkfnjdmjojodhaaDoor.minus

namespace Go.Proofs.YtkfnjdmjojodhaaDoor.minus
open way num rat dbm Go.Proofs.YtkfnjdmjojodhaaDoor.tight Go.Proofs.YtkfnjdmjojodhaaDoor.tkept Go.Proofs.YtkfnjdmjojodhaaDoor.incl Go.Proofs.YtkfnjdmjojodhaaDoor.zone Go.Proofs.YtkfnjdmjojodhaaDoor.win
open bound hiding up
open Go.Proofs.YtkfnjdmjojodhaaDoor.comp (zw may_cl six_fine)
set_option linter.unusedVariables false
set_option linter.unusedSimpArgs false
set_option linter.unusedSectionVars false

/-- a zone, as a list. -/
def Zo (z : List Int) : Prop := MayZ z ∧ Tops z ∧ z.length = 6
theorem cut_same {z w a b : List Int} {f g : Int} (h : CutR z w a f) (k : CutR z w b g) : b = a ∧ g = f := by
  rcases h with ⟨n, rfl, rfl⟩ | ⟨o, m, rfl, rfl⟩ | ⟨o, m, e, rfl⟩ <;> rcases k with ⟨n', rfl, rfl⟩ | ⟨o', m', rfl, rfl⟩ | ⟨o', m', e', rfl⟩
  all_goals first | exact ⟨rfl, rfl⟩ | exact ⟨e'.trans e.symm, rfl⟩ | exact (n o').elim | exact (n' o).elim | exact (m m').elim | exact (m' m).elim
theorem cut_err {z w a : List Int} {f : Int} (h : CutR z w a f) : f = 6 ∨ f = 8 ∨ f = 0 := by
  rcases h with ⟨_, _, e⟩ | ⟨_, _, _, e⟩ | ⟨_, _, _, e⟩
  · exact .inl e
  · exact .inr (.inl e)
  · exact .inr (.inr e)
theorem cut_zo {z w x : List Int} (tz : Tops z) (hz : MayD 3 (fullT z)) (hw : MayD 3 (fullT w)) (h : CutR z w x 0) : Zo x := by
  obtain ⟨k1, k2, _⟩ := cut_good tz hz hw h
  refine ⟨k1, k2, ?_⟩
  rcases h with ⟨_, _, e⟩ | ⟨_, _, _, e⟩ | ⟨_, _, e, _⟩
  · cases e
  · cases e
  · rw [e]; rfl
theorem full_at (z : List Int) {j : Nat} (hj : j < 6) : (fullT z)[ro j * 3 + co j]?.getD 0 = z[j]?.getD 0 := by rcases six_is hj with rfl | rfl | rfl | rfl | rfl | rfl <;> rfl
/-- what is cut by one bound lies in the zone, and keeps the bound. -/
theorem cut_le {a z : List Int} {i : Nat} {v : Int} (ta : Tops a) (ha : MayD 3 (fullT a)) (hv : Fine v) (hi : i < 6) (h : CutR a (oneZ i v) z 0) (j : Nat) (hj : j < 6) : z[j]?.getD 0 ≤ a[j]?.getD 0 ∧ z[i]?.getD 0 ≤ v := by
  obtain ⟨_, _, e1, o, _⟩ := cut_good ta ha (one_may hv) h
  have key : ∀ k, k < 6 → z[k]?.getD 0 ≤ a[k]?.getD 0 ∧ z[k]?.getD 0 ≤ (oneZ i v)[k]?.getD 0 := fun k hk => by
    have q := closed_le (n := 3) (by decide) (by decide) (lesT_length _ _) (lesT_tops (full_tops ta) _) o.1.2.2.2 (fun k hk => o.2.2 k (by simpa using hk)) (i := ro k) (j := co k) (ro_lt hk) (co_lt hk)
    rw [← show clT ((3 : Nat) : Int) (lesT (fullT a) (fullT (oneZ i v))) = tabs 3 (by decide) (lesT (fullT a) (fullT (oneZ i v))) 3 from clT_nat (m := 3) (by decide) _, show clT ((3 : Nat) : Int) (lesT (fullT a) (fullT (oneZ i v))) = fullT z from e1.symm] at q
    unfold tat at q
    have r1 := ro_lt hk
    have r2 := co_lt hk
    rw [lesT_at _ _ (show ro k * 3 + co k < (fullT a).length by rw [full_length]; omega), full_at z hk, full_at a hk, full_at (oneZ i v) hk] at q
    exact ⟨Int.le_trans q (lsr_le _ _).1, Int.le_trans q (lsr_le _ _).2⟩
  refine ⟨(key j hj).1, ?_⟩
  have := (key i hi).2
  rwa [one_at v hi, if_pos rfl] at this
/-- two that keep a bound, and not it, share nothing. -/
theorem share_none {x y : List Int} {i : Nat} {v : Int} (tx : Tops x) (ty : Tops y) (hi : i < 6) (hv : Fine v) (hn : v ≠ 9223372036854775807) (hx : x[oth i]?.getD 0 ≤ 1 - v) (hy : y[i]?.getD 0 ≤ v) : ¬ OkD 3 (lesT (fullT x) (fullT y)) ∧ ¬ OkD 3 (lesT (fullT y) (fullT x)) := by
  obtain ⟨_, fn, nn⟩ := not_is hv hn
  have fv := hv.resolve_left hn
  have one : ¬ OkD 3 (lesT (fullT x) (fullT y)) := fun o => by
    have hp := pair_ok (n := 3) (i := ro i) (j := co i) (by decide) (by decide) (lesT_length _ _) (lesT_tops (full_tops tx) _) o (ro_lt hi) (co_lt hi)
    have r1 := ro_lt hi
    have c1 := co_lt hi
    have l1 : tat (lesT (fullT x) (fullT y)) 3 (ro i) (co i) ≤ v := by
      unfold tat
      rw [lesT_at _ _ (show ro i * 3 + co i < (fullT x).length by rw [full_length]; omega), full_at x hi, full_at y hi]
      exact Int.le_trans (lsr_le _ _).2 hy
    have l2 : tat (lesT (fullT x) (fullT y)) 3 (co i) (ro i) ≤ 1 - v := by
      unfold tat
      rw [lesT_at _ _ (show co i * 3 + ro i < (fullT x).length by rw [full_length]; omega), ← (ro_oth hi).1, ← (ro_oth hi).2, full_at x (oth_lt hi), full_at y (oth_lt hi)]
      exact Int.le_trans (lsr_le _ _).1 hx
    rw [cod_some (by omega), cod_some (by omega), ad_some] at hp
    have hp : (1 : Int) ≤ 2 * (tat (lesT (fullT x) (fullT y)) 3 (ro i) (co i) / 2 + tat (lesT (fullT x) (fullT y)) 3 (co i) (ro i) / 2) + min (tat (lesT (fullT x) (fullT y)) 3 (ro i) (co i) % 2) (tat (lesT (fullT x) (fullT y)) 3 (co i) (ro i) % 2) := hp
    omega
  refine ⟨one, ?_⟩
  rw [lesT_comm (by rfl)]
  exact one
theorem in_six {x y : List Int} (hx : MayZ x) : inV 3 (fullT x) (fullT y) ↔ ∀ i, i < 6 → x[i]?.getD 0 ≤ y[i]?.getD 0 := by
  rw [in_le hx]
  constructor
  · intro h i hi
    have r1 := ro_lt hi
    have c1 := co_lt hi
    have := h (ro i * 3 + co i) (by omega)
    rwa [full_at x hi, full_at y hi] at this
  · intro h p hp
    rcases (by omega : p = 0 ∨ p = 1 ∨ p = 2 ∨ p = 3 ∨ p = 4 ∨ p = 5 ∨ p = 6 ∨ p = 7 ∨ p = 8) with rfl | rfl | rfl | rfl | rfl | rfl | rfl | rfl | rfl
    · exact Int.le_refl _
    · exact h 1 (by decide)
    · exact h 3 (by decide)
    · exact h 0 (by decide)
    · exact Int.le_refl _
    · exact h 5 (by decide)
    · exact h 2 (by decide)
    · exact h 4 (by decide)
    · exact Int.le_refl _
/-- a zone that there is, or none. -/
def pre (e : Int) (z : List Int) : List (List Int) := if e = 0 then [z] else []
/-- one zone less another one, from the bound 6 - k on: the zones, and the error. -/
def LessR (b : List Int) : Nat → List Int → List (List Int) → Int → Prop
  | 0, _, out, f => out = [] ∧ f = 0
  | k + 1, a, out, f =>
    if b[5 - k]?.getD 0 = 9223372036854775807 then LessR b k a out f else
      ∃ z e, CutR a (oneZ (oth (5 - k)) (1 - b[5 - k]?.getD 0)) z e ∧
        ((e = 8 ∧ out = [] ∧ f = 8) ∨ (e ≠ 8 ∧ ∃ y g, CutR a (oneZ (5 - k) (b[5 - k]?.getD 0)) y g ∧
          ((g = 6 ∧ out = pre e z ∧ f = 0) ∨ (g = 8 ∧ out = [] ∧ f = 8) ∨ (g = 0 ∧ ∃ l, LessR b k y l f ∧ out = if f = 0 then pre e z ++ l else []))))
theorem less_same {b : List Int} : ∀ (k : Nat) {a : List Int} {o o' : List (List Int)} {f f' : Int}, LessR b k a o f → LessR b k a o' f' → o' = o ∧ f' = f
  | 0, _, _, _, _, _, ⟨e1, e2⟩, ⟨e3, e4⟩ => ⟨e3.trans e1.symm, e4.trans e2.symm⟩
  | k + 1, a, o, o', f, f', h, h' => by
    unfold LessR at h h'
    by_cases n : b[5 - k]?.getD 0 = 9223372036854775807
    · rw [if_pos n] at h h'
      exact less_same k h h'
    · rw [if_neg n] at h h'
      obtain ⟨z, e, hc, h⟩ := h
      obtain ⟨z', e', hc', h'⟩ := h'
      obtain ⟨rfl, rfl⟩ := cut_same hc hc'
      rcases h with ⟨p1, p2, p3⟩ | ⟨p1, y, g, hy, h⟩ <;> rcases h' with ⟨q1, q2, q3⟩ | ⟨q1, y', g', hy', h'⟩
      · exact ⟨q2.trans p2.symm, q3.trans p3.symm⟩
      · exact (q1 p1).elim
      · exact (p1 q1).elim
      · obtain ⟨rfl, rfl⟩ := cut_same hy hy'
        rcases h with ⟨r1, r2, r3⟩ | ⟨r1, r2, r3⟩ | ⟨r1, l, r2, r3⟩ <;> rcases h' with ⟨s1, s2, s3⟩ | ⟨s1, s2, s3⟩ | ⟨s1, l', s2, s3⟩
        · exact ⟨s2.trans r2.symm, s3.trans r3.symm⟩
        · rw [r1] at s1; exact absurd s1 (by decide)
        · rw [r1] at s1; exact absurd s1 (by decide)
        · rw [r1] at s1; exact absurd s1 (by decide)
        · exact ⟨s2.trans r2.symm, s3.trans r3.symm⟩
        · rw [r1] at s1; exact absurd s1 (by decide)
        · rw [r1] at s1; exact absurd s1 (by decide)
        · rw [r1] at s1; exact absurd s1 (by decide)
        · obtain ⟨rfl, rfl⟩ := less_same k r2 s2
          exact ⟨s3.trans r3.symm, rfl⟩
theorem less_err {b : List Int} : ∀ (k : Nat) {a : List Int} {o : List (List Int)} {f : Int}, LessR b k a o f → (f = 0 ∨ f = 8 ∧ o = [])
  | 0, _, _, _, ⟨_, e⟩ => .inl e
  | k + 1, a, o, f, h => by
    unfold LessR at h
    by_cases n : b[5 - k]?.getD 0 = 9223372036854775807
    · rw [if_pos n] at h; exact less_err k h
    · rw [if_neg n] at h
      obtain ⟨z, e, hc, h⟩ := h
      rcases h with ⟨_, p2, p3⟩ | ⟨_, y, g, hy, h⟩
      · exact .inr ⟨p3, p2⟩
      · rcases h with ⟨_, _, r3⟩ | ⟨_, r2, r3⟩ | ⟨_, l, r2, r3⟩
        · exact .inl r3
        · exact .inr ⟨r3, r2⟩
        · rcases less_err k r2 with q | ⟨q, _⟩
          · exact .inl q
          · exact .inr ⟨q, by rw [r3, if_neg (by rw [q]; decide)]⟩

/-! points -/
def hasB (z : List Int) (a b c d : Int) : Bool := (List.range 6).all fun i => kb i (z[i]?.getD 0) a b c d
theorem has_kept {z : List Int} {a b c d : Int} (h : MayR a b) (k : MayR c d) : hasB z a b c d = true ↔ keptAll 3 (fullT z) [(0, 1), (a, b), (c, d)] := by
  rw [kept_kb h k]
  unfold hasB
  rw [List.all_eq_true]
  exact ⟨fun q i hi => q i (List.mem_range.2 hi), fun q i hi => q i (List.mem_range.1 hi)⟩
/-- does a point keep the bounds from 6 - k on? -/
def restB (z : List Int) (a b c d : Int) : Nat → Bool
  | 0 => true
  | k + 1 => kb (5 - k) (z[5 - k]?.getD 0) a b c d && restB z a b c d k
theorem rest_has (z : List Int) (a b c d : Int) : restB z a b c d 6 = hasB z a b c d := by
  show (kb 0 _ a b c d && (kb 1 _ a b c d && (kb 2 _ a b c d && (kb 3 _ a b c d && (kb 4 _ a b c d && (kb 5 _ a b c d && true)))))) = ([0, 1, 2, 3, 4, 5].all fun i => kb i (z[i]?.getD 0) a b c d)
  simp only [List.all_cons, List.all_nil]
/-- in how many of some zones is a point? -/
def cnt (l : List (List Int)) (a b c d : Int) : Nat := l.countP fun z => hasB z a b c d
theorem cnt_app (l m : List (List Int)) (a b c d : Int) : cnt (l ++ m) a b c d = cnt l a b c d + cnt m a b c d := List.countP_append
theorem cnt_one (z : List Int) (a b c d : Int) : cnt [z] a b c d = if hasB z a b c d = true then 1 else 0 := by
  unfold cnt
  rw [List.countP_cons, List.countP_nil, Nat.zero_add]
/-- points of what is cut by one bound. -/
theorem cut_has {z x : List Int} {i : Nat} {v f a b c d : Int} (tz : Tops z) (hz : MayD 3 (fullT z)) (hi : i < 6) (hv : Fine v) (m1 : MayR a b) (m2 : MayR c d) (h : CutR z (oneZ i v) x f) (h8 : f ≠ 8) :
    cnt (pre f x) a b c d = (if (hasB z a b c d && kb i v a b c d) = true then 1 else 0) ∧ (f = 6 → (hasB z a b c d && kb i v a b c d) = false) ∧ (f = 0 → hasB x a b c d = (hasB z a b c d && kb i v a b c d)) := by
  have k1 := kept_one (x := v) hi m1 m2
  have k2 := has_kept (z := z) m1 m2
  rcases h with ⟨n, _, e⟩ | ⟨_, _, _, e⟩ | ⟨o, m, x1, e⟩
  · have no : (hasB z a b c d && kb i v a b c d) = false := by
      cases hh : (hasB z a b c d && kb i v a b c d) with
      | false => rfl
      | true =>
        rw [Bool.and_eq_true] at hh
        exact (cut_out tz hz (one_may hv) n a b c d m1 m2 ⟨k2.1 hh.1, k1.2 hh.2⟩).elim
    rw [no]
    refine ⟨?_, fun _ => rfl, fun q => by rw [e] at q; exact absurd q (by decide)⟩
    unfold pre
    rw [if_neg (by rw [e]; decide)]
    rfl
  · exact (h8 e).elim
  · subst e
    obtain ⟨_, _, _, _, k5⟩ := cut_good tz hz (one_may hv) (.inr (.inr ⟨o, m, x1, rfl⟩) : CutR z (oneZ i v) x 0)
    have e2 : hasB x a b c d = (hasB z a b c d && kb i v a b c d) := by
      rw [Bool.eq_iff_iff, has_kept m1 m2, k5 a b c d m1 m2, Bool.and_eq_true, k2, k1]
    refine ⟨?_, fun q => absurd q (by decide), fun _ => e2⟩
    unfold pre
    rw [if_pos rfl, cnt_one, e2]
section
variable {b : List Int} (tb : Tops b) (hb : MayZ b)
include tb hb
theorem less_zo : ∀ (k : Nat) {a : List Int} {o : List (List Int)}, k ≤ 6 → Zo a → LessR b k a o 0 → ∀ z, z ∈ o → Zo z
  | 0, _, _, _, _, ⟨e, _⟩ => fun z hz => by rw [e] at hz; cases hz
  | k + 1, a, o, hk, ha, h => by
    unfold LessR at h
    by_cases n : b[5 - k]?.getD 0 = 9223372036854775807
    · rw [if_pos n] at h; exact less_zo k (by omega) ha h
    · rw [if_neg n] at h
      have fx := six_fine hb.may (5 - k) (by omega)
      obtain ⟨_, fn, _⟩ := not_is fx n
      obtain ⟨z, e, hc, h⟩ := h
      have hp : ∀ x, x ∈ pre e z → Zo x := fun x hx => by
        unfold pre at hx
        by_cases q : e = 0
        · rw [if_pos q] at hx
          obtain rfl : x = z := by simpa using hx
          rw [q] at hc
          exact cut_zo ha.2.1 ha.1.may (one_may fn) hc
        · rw [if_neg q] at hx; cases hx
      rcases h with ⟨_, p2, _⟩ | ⟨_, y, g, hy, h⟩
      · intro x hx; rw [p2] at hx; cases hx
      · rcases h with ⟨_, r2, _⟩ | ⟨_, r2, r3⟩ | ⟨r1, l, r2, r3⟩
        · rw [r2]; exact hp
        · exact absurd r3 (by decide)
        · rw [r1] at hy
          rw [if_pos rfl] at r3
          rw [r3]
          intro x hx
          rcases List.mem_append.1 hx with q | q
          · exact hp x q
          · exact less_zo k (by omega) (cut_zo ha.2.1 ha.1.may (one_may fx) hy) r2 x q
theorem less_cnt {p q r s : Int} (m1 : MayR p q) (m2 : MayR r s) : ∀ (k : Nat) {a : List Int} {o : List (List Int)}, k ≤ 6 → Zo a → LessR b k a o 0 → cnt o p q r s = if (hasB a p q r s && !restB b p q r s k) = true then 1 else 0
  | 0, _, _, _, _, ⟨e, _⟩ => by
    rw [e]
    show 0 = _
    unfold restB
    rw [Bool.not_true, Bool.and_false]
    rfl
  | k + 1, a, o, hk, ha, h => by
    unfold LessR at h
    unfold restB
    by_cases n : b[5 - k]?.getD 0 = 9223372036854775807
    · rw [if_pos n] at h
      rw [n, kb_none _ m1 m2, Bool.true_and]
      exact less_cnt m1 m2 k (by omega) ha h
    · rw [if_neg n] at h
      have hi : 5 - k < 6 := by omega
      have fx := six_fine hb.may (5 - k) hi
      obtain ⟨_, fn, _⟩ := not_is fx n
      obtain ⟨z, e, hc, h⟩ := h
      rcases h with ⟨_, _, p3⟩ | ⟨p1, y, g, hy, h⟩
      · exact absurd p3 (by decide)
      · obtain ⟨c1, _, _⟩ := cut_has ha.2.1 ha.1.may (oth_lt hi) fn m1 m2 hc p1
        rw [kb_not hi m1 m2 fx n] at c1
        rcases h with ⟨r1, r2, _⟩ | ⟨_, r2, r3⟩ | ⟨r1, l, r2, r3⟩
        · obtain ⟨_, c2, _⟩ := cut_has ha.2.1 ha.1.may hi fx m1 m2 hy (by rw [r1]; decide)
          have c2 := c2 r1
          rw [r2, c1]
          cases h1 : hasB a p q r s <;> cases h2 : kb (5 - k) (b[5 - k]?.getD 0) p q r s <;> cases h3 : restB b p q r s k <;> simp_all
        · exact absurd r3 (by decide)
        · obtain ⟨_, _, c3⟩ := cut_has ha.2.1 ha.1.may hi fx m1 m2 hy (by rw [r1]; decide)
          have c3 := c3 r1
          rw [r1] at hy
          rw [if_pos rfl] at r3
          have ih := less_cnt m1 m2 k (by omega) (cut_zo ha.2.1 ha.1.may (one_may fx) hy) r2
          rw [r3, cnt_app, c1, ih, c3]
          cases h1 : hasB a p q r s <;> cases h2 : kb (5 - k) (b[5 - k]?.getD 0) p q r s <;> cases h3 : restB b p q r s k <;> rfl

/-! what lies in what, and what shares nothing -/
theorem less_le : ∀ (k : Nat) {a : List Int} {o : List (List Int)}, k ≤ 6 → Zo a → LessR b k a o 0 → ∀ z, z ∈ o → ∀ i, i < 6 → z[i]?.getD 0 ≤ a[i]?.getD 0
  | 0, _, _, _, _, ⟨e, _⟩ => fun z hz => by rw [e] at hz; cases hz
  | k + 1, a, o, hk, ha, h => by
    unfold LessR at h
    by_cases n : b[5 - k]?.getD 0 = 9223372036854775807
    · rw [if_pos n] at h; exact less_le k (by omega) ha h
    · rw [if_neg n] at h
      have fx := six_fine hb.may (5 - k) (by omega)
      obtain ⟨_, fn, _⟩ := not_is fx n
      obtain ⟨z, e, hc, h⟩ := h
      have hp : ∀ x, x ∈ pre e z → ∀ i, i < 6 → x[i]?.getD 0 ≤ a[i]?.getD 0 := fun x hx => by
        unfold pre at hx
        by_cases q : e = 0
        · rw [if_pos q] at hx
          obtain rfl : x = z := by simpa using hx
          rw [q] at hc
          exact fun i hi => (cut_le ha.2.1 ha.1.may fn (oth_lt (by omega)) hc i hi).1
        · rw [if_neg q] at hx; cases hx
      rcases h with ⟨_, p2, _⟩ | ⟨_, y, g, hy, h⟩
      · intro x hx; rw [p2] at hx; cases hx
      · rcases h with ⟨_, r2, _⟩ | ⟨_, r2, r3⟩ | ⟨r1, l, r2, r3⟩
        · rw [r2]; exact hp
        · exact absurd r3 (by decide)
        · rw [r1] at hy
          rw [if_pos rfl] at r3
          rw [r3]
          intro x hx
          rcases List.mem_append.1 hx with q | q
          · exact hp x q
          · exact fun i hi => Int.le_trans (less_le k (by omega) (cut_zo ha.2.1 ha.1.may (one_may fx) hy) r2 x q i hi) (cut_le ha.2.1 ha.1.may fx (by omega) hy i hi).1
/-- each zone that comes keeps not some bound of the second one. -/
theorem less_apart : ∀ (k : Nat) {a : List Int} {o : List (List Int)}, k ≤ 6 → Zo a → LessR b k a o 0 → ∀ z, z ∈ o → ∃ i, i < 6 ∧ b[i]?.getD 0 ≠ 9223372036854775807 ∧ z[oth i]?.getD 0 ≤ 1 - b[i]?.getD 0
  | 0, _, _, _, _, ⟨e, _⟩ => fun z hz => by rw [e] at hz; cases hz
  | k + 1, a, o, hk, ha, h => by
    unfold LessR at h
    by_cases n : b[5 - k]?.getD 0 = 9223372036854775807
    · rw [if_pos n] at h; exact less_apart k (by omega) ha h
    · rw [if_neg n] at h
      have fx := six_fine hb.may (5 - k) (by omega)
      obtain ⟨_, fn, _⟩ := not_is fx n
      obtain ⟨z, e, hc, h⟩ := h
      have hp : ∀ x, x ∈ pre e z → ∃ i, i < 6 ∧ b[i]?.getD 0 ≠ 9223372036854775807 ∧ x[oth i]?.getD 0 ≤ 1 - b[i]?.getD 0 := fun x hx => by
        unfold pre at hx
        by_cases q : e = 0
        · rw [if_pos q] at hx
          obtain rfl : x = z := by simpa using hx
          rw [q] at hc
          exact ⟨5 - k, by omega, n, (cut_le ha.2.1 ha.1.may fn (oth_lt (by omega)) hc 0 (by decide)).2⟩
        · rw [if_neg q] at hx; cases hx
      rcases h with ⟨_, p2, _⟩ | ⟨_, y, g, hy, h⟩
      · intro x hx; rw [p2] at hx; cases hx
      · rcases h with ⟨_, r2, _⟩ | ⟨_, r2, r3⟩ | ⟨r1, l, r2, r3⟩
        · rw [r2]; exact hp
        · exact absurd r3 (by decide)
        · rw [r1] at hy
          rw [if_pos rfl] at r3
          rw [r3]
          intro x hx
          rcases List.mem_append.1 hx with q | q
          · exact hp x q
          · exact less_apart k (by omega) (cut_zo ha.2.1 ha.1.may (one_may fx) hy) r2 x q
/-- of two that come, the first one keeps not a bound that the second one keeps. -/
theorem less_pair : ∀ (k : Nat) {a : List Int} {o : List (List Int)}, k ≤ 6 → Zo a → LessR b k a o 0 → o.Pairwise fun x y => ∃ i, i < 6 ∧ b[i]?.getD 0 ≠ 9223372036854775807 ∧ x[oth i]?.getD 0 ≤ 1 - b[i]?.getD 0 ∧ y[i]?.getD 0 ≤ b[i]?.getD 0
  | 0, _, _, _, _, ⟨e, _⟩ => by rw [e]; exact List.Pairwise.nil
  | k + 1, a, o, hk, ha, h => by
    unfold LessR at h
    by_cases n : b[5 - k]?.getD 0 = 9223372036854775807
    · rw [if_pos n] at h; exact less_pair k (by omega) ha h
    · rw [if_neg n] at h
      have fx := six_fine hb.may (5 - k) (by omega)
      obtain ⟨_, fn, _⟩ := not_is fx n
      obtain ⟨z, e, hc, h⟩ := h
      have hp : (pre e z).Pairwise fun x y => ∃ i, i < 6 ∧ b[i]?.getD 0 ≠ 9223372036854775807 ∧ x[oth i]?.getD 0 ≤ 1 - b[i]?.getD 0 ∧ y[i]?.getD 0 ≤ b[i]?.getD 0 := by
        unfold pre
        by_cases q : e = 0
        · rw [if_pos q]; exact List.pairwise_singleton _ _
        · rw [if_neg q]; exact List.Pairwise.nil
      rcases h with ⟨_, p2, _⟩ | ⟨_, y, g, hy, h⟩
      · rw [p2]; exact List.Pairwise.nil
      · rcases h with ⟨_, r2, _⟩ | ⟨_, r2, r3⟩ | ⟨r1, l, r2, r3⟩
        · rw [r2]; exact hp
        · exact absurd r3 (by decide)
        · rw [r1] at hy
          rw [if_pos rfl] at r3
          have zy := cut_zo ha.2.1 ha.1.may (one_may fx) hy
          rw [r3, List.pairwise_append]
          refine ⟨hp, less_pair k (by omega) zy r2, fun x hx x' hx' => ?_⟩
          unfold pre at hx
          by_cases q : e = 0
          · rw [if_pos q] at hx
            obtain rfl : x = z := by simpa using hx
            rw [q] at hc
            exact ⟨5 - k, by omega, n, (cut_le ha.2.1 ha.1.may fn (oth_lt (by omega)) hc 0 (by decide)).2, Int.le_trans (less_le tb hb k (by omega) zy r2 x' hx' (5 - k) (by omega)) (cut_le ha.2.1 ha.1.may fx (by omega) hy 0 (by decide)).2⟩
          · rw [if_neg q] at hx; cases hx
/-- a bound that the zone has already: what keeps it is the zone, what keeps it not is nothing. -/
theorem cut_own {a z : List Int} {i : Nat} {g : Int} (ha : Zo a) (hi : i < 6) (hx : a[i]?.getD 0 ≤ b[i]?.getD 0) (h : CutR a (oneZ i (b[i]?.getD 0)) z g) : z = a ∧ g = 0 := by
  have e := own_one ha.2.1 ha.1 hi hx (get_top tb i)
  unfold CutR at h
  rw [e, show clT 3 (fullT a) = fullT a from ha.1.2] at h
  rcases h with ⟨n, _⟩ | ⟨_, n, _⟩ | ⟨_, _, e1, e2⟩
  · exact (n ha.1.1).elim
  · exact (n ha.1.may).elim
  · exact ⟨e1.trans (short_full ha.2.2), e2⟩
theorem less_in : ∀ (k : Nat) {a : List Int} {o : List (List Int)} {f : Int}, k ≤ 6 → Zo a → (∀ i, 6 - k ≤ i → i < 6 → a[i]?.getD 0 ≤ b[i]?.getD 0) → LessR b k a o f → o = [] ∧ f = 0
  | 0, _, _, _, _, _, _, h => h
  | k + 1, a, o, f, hk, ha, hle, h => by
    unfold LessR at h
    have hi : 5 - k < 6 := by omega
    have hx := hle (5 - k) (by omega) hi
    by_cases n : b[5 - k]?.getD 0 = 9223372036854775807
    · rw [if_pos n] at h; exact less_in k (by omega) ha (fun i h1 h2 => hle i (by omega) h2) h
    · rw [if_neg n] at h
      have fx := six_fine hb.may (5 - k) hi
      obtain ⟨z, e, hc, h⟩ := h
      have e6 : e = 6 := by
        rcases hc with ⟨_, _, q⟩ | ⟨q, _⟩ | ⟨q, _⟩
        · exact q
        · have := (not_one ha.2.1 ha.1 hi fx n).1 q; omega
        · have := (not_one ha.2.1 ha.1 hi fx n).1 q; omega
      have ep : pre e z = [] := by unfold pre; rw [if_neg (by rw [e6]; decide)]
      rcases h with ⟨p1, _⟩ | ⟨_, y, g, hy, h⟩
      · rw [e6] at p1; exact absurd p1 (by decide)
      · obtain ⟨rfl, rfl⟩ := cut_own tb hb ha hi hx hy
        rcases h with ⟨r1, _⟩ | ⟨r1, _⟩ | ⟨_, l, r2, r3⟩
        · exact absurd r1 (by decide)
        · exact absurd r1 (by decide)
        · obtain ⟨q1, q2⟩ := less_in k (by omega) ha (fun i h1 h2 => hle i (by omega) h2) r2
          refine ⟨?_, q2⟩
          rw [r3, if_pos q2, ep, q1]
          rfl
theorem less_nil : ∀ (k : Nat) {a : List Int}, k ≤ 6 → Zo a → LessR b k a [] 0 → ∀ i, 6 - k ≤ i → i < 6 → a[i]?.getD 0 ≤ b[i]?.getD 0
  | 0, _, _, _, _, i, h1, h2 => by omega
  | k + 1, a, hk, ha, h, i, h1, h2 => by
    unfold LessR at h
    have hi : 5 - k < 6 := by omega
    by_cases n : b[5 - k]?.getD 0 = 9223372036854775807
    · rw [if_pos n] at h
      by_cases q : i = 5 - k
      · rw [q, n]; exact get_top ha.2.1 _
      · exact less_nil k (by omega) ha h i (by omega) h2
    · rw [if_neg n] at h
      have fx := six_fine hb.may (5 - k) hi
      obtain ⟨_, fn, _⟩ := not_is fx n
      obtain ⟨z, e, hc, h⟩ := h
      rcases h with ⟨_, _, p3⟩ | ⟨p1, y, g, hy, h⟩
      · exact absurd p3 (by decide)
      · have key : pre e z = [] → a[5 - k]?.getD 0 ≤ b[5 - k]?.getD 0 := fun hp => by
          have e6 : e = 6 := by
            rcases cut_err hc with q | q | q
            · exact q
            · exact (p1 q).elim
            · unfold pre at hp; rw [if_pos q] at hp; cases hp
          have no : ¬ OkD 3 (lesT (fullT a) (fullT (oneZ (oth (5 - k)) (1 - b[5 - k]?.getD 0)))) := by
            rcases hc with ⟨q, _⟩ | ⟨_, _, _, q⟩ | ⟨_, _, _, q⟩
            · exact q
            · rw [e6] at q; exact absurd q (by decide)
            · rw [e6] at q; exact absurd q (by decide)
          exact Int.not_lt.1 (fun q => no ((not_one ha.2.1 ha.1 hi fx n).2 q))
        rcases h with ⟨r1, r2, _⟩ | ⟨_, _, r3⟩ | ⟨r1, l, r2, r3⟩
        · have hx := key r2.symm
          obtain ⟨_, q⟩ := cut_own tb hb ha hi hx hy
          rw [r1] at q; exact absurd q (by decide)
        · exact absurd r3 (by decide)
        · rw [if_pos rfl] at r3
          obtain ⟨q1, q2⟩ := List.append_eq_nil_iff.1 r3.symm
          have hx := key q1
          obtain ⟨rfl, _⟩ := cut_own tb hb ha hi hx hy
          rw [q2] at r2
          by_cases q : i = 5 - k
          · rw [q]; exact hx
          · exact less_nil k (by omega) ha r2 i (by omega) h2
end
end Go.Proofs.YtkfnjdmjojodhaaDoor.minus

namespace Go.Proofs.YtkfnjdmjojodhaaDoor.minus
open way num rat dbm Go.Proofs.YtkfnjdmjojodhaaDoor.tight Go.Proofs.YtkfnjdmjojodhaaDoor.tkept Go.Proofs.YtkfnjdmjojodhaaDoor.incl Go.Proofs.YtkfnjdmjojodhaaDoor.zone Go.Proofs.YtkfnjdmjojodhaaDoor.win
open bound hiding up
set_option linter.unusedVariables false
set_option linter.unusedSimpArgs false

/-- each of some zones less one, behind those that are there. -/
def StepR (b : List Int) : List (List Int) → List (List Int) → List (List Int) → Int → Prop
  | [], have_, r, f => r = have_ ∧ f = 0
  | z :: zs, have_, r, f => ∃ m e, LessR b 6 z m e ∧ ((e ≠ 0 ∧ r = [] ∧ f = e) ∨ (e = 0 ∧ ((4096 < (have_ ++ m).length ∧ r = [] ∧ f = 4) ∨ (¬ 4096 < (have_ ++ m).length ∧ StepR b zs (have_ ++ m) r f))))
/-- some zones by some, one after another. -/
def RestR : List (List Int) → List (List Int) → List (List Int) → Int → Prop
  | [], l, r, f => r = l ∧ f = 0
  | b :: bs, l, r, f => ∃ n e, StepR b l [] n e ∧ ((e ≠ 0 ∧ r = [] ∧ f = e) ∨ (e = 0 ∧ RestR bs n r f))
theorem step_same {b : List Int} : ∀ (zs : List (List Int)) {h r r' : List (List Int)} {f f' : Int}, StepR b zs h r f → StepR b zs h r' f' → r' = r ∧ f' = f
  | [], _, _, _, _, _, ⟨e1, e2⟩, ⟨e3, e4⟩ => ⟨e3.trans e1.symm, e4.trans e2.symm⟩
  | z :: zs, h, r, r', f, f', hs, hs' => by
    unfold StepR at hs hs'
    obtain ⟨m, e, hm, q⟩ := hs
    obtain ⟨m', e', hm', q'⟩ := hs'
    obtain ⟨rfl, rfl⟩ := less_same 6 hm hm'
    rcases q with ⟨p1, p2, p3⟩ | ⟨p1, ⟨p2, p3, p4⟩ | ⟨p2, p3⟩⟩ <;> rcases q' with ⟨q1, q2, q3⟩ | ⟨q1, ⟨q2, q3, q4⟩ | ⟨q2, q3⟩⟩
    · exact ⟨q2.trans p2.symm, q3.trans p3.symm⟩
    · exact (p1 q1).elim
    · exact (p1 q1).elim
    · exact (q1 p1).elim
    · exact ⟨q3.trans p3.symm, q4.trans p4.symm⟩
    · exact (q2 p2).elim
    · exact (q1 p1).elim
    · exact (p2 q2).elim
    · exact step_same zs p3 q3
theorem rest_same : ∀ (bs : List (List Int)) {l r r' : List (List Int)} {f f' : Int}, RestR bs l r f → RestR bs l r' f' → r' = r ∧ f' = f
  | [], _, _, _, _, _, ⟨e1, e2⟩, ⟨e3, e4⟩ => ⟨e3.trans e1.symm, e4.trans e2.symm⟩
  | b :: bs, l, r, r', f, f', hs, hs' => by
    unfold RestR at hs hs'
    obtain ⟨n, e, hn, q⟩ := hs
    obtain ⟨n', e', hn', q'⟩ := hs'
    obtain ⟨rfl, rfl⟩ := step_same l hn hn'
    rcases q with ⟨p1, p2, p3⟩ | ⟨p1, p2⟩ <;> rcases q' with ⟨q1, q2, q3⟩ | ⟨q1, q2⟩
    · exact ⟨q2.trans p2.symm, q3.trans p3.symm⟩
    · exact (p1 q1).elim
    · exact (q1 p1).elim
    · exact rest_same bs p2 q2
theorem step_err {b : List Int} : ∀ (zs : List (List Int)) {h r : List (List Int)} {f : Int}, StepR b zs h r f → f ≠ 0 → r = []
  | [], _, _, _, ⟨_, e⟩, n => (n e).elim
  | z :: zs, h, r, f, hs, n => by
    unfold StepR at hs
    obtain ⟨m, e, hm, q⟩ := hs
    rcases q with ⟨_, p2, _⟩ | ⟨_, ⟨_, p3, _⟩ | ⟨_, p3⟩⟩
    · exact p2
    · exact p3
    · exact step_err zs p3 n
/-- without an error: those that were there, and of each zone what is left. -/
theorem step_flat {b : List Int} : ∀ (zs : List (List Int)) {h r : List (List Int)}, StepR b zs h r 0 → ∃ ms : List (List (List Int)), ms.length = zs.length ∧ (∀ i, i < zs.length → LessR b 6 (zs[i]?.getD []) (ms[i]?.getD []) 0) ∧ r = h ++ ms.flatten
  | [], h, r, ⟨e, _⟩ => ⟨[], rfl, fun i hi => by simp at hi, by rw [e]; simp⟩
  | z :: zs, h, r, hs => by
    unfold StepR at hs
    obtain ⟨m, e, hm, q⟩ := hs
    rcases q with ⟨p1, _, p3⟩ | ⟨p1, ⟨_, _, p4⟩ | ⟨_, p3⟩⟩
    · exact (p1 p3.symm).elim
    · exact absurd p4 (by decide)
    · rw [p1] at hm
      obtain ⟨ms, k1, k2, k3⟩ := step_flat zs p3
      refine ⟨m :: ms, by simp [k1], fun i hi => ?_, by rw [k3, List.flatten_cons, List.append_assoc]⟩
      cases i with
      | zero => exact hm
      | succ i => exact k2 i (by simpa using hi)
section
variable {b : List Int} (tb : Tops b) (hb : MayZ b)
include tb hb
theorem step_zo : ∀ (zs : List (List Int)) {h r : List (List Int)}, (∀ z, z ∈ zs → Zo z) → (∀ z, z ∈ h → Zo z) → StepR b zs h r 0 → ∀ z, z ∈ r → Zo z
  | [], _, _, _, hh, ⟨e, _⟩ => by rw [e]; exact hh
  | z :: zs, h, r, hz, hh, hs => by
    unfold StepR at hs
    obtain ⟨m, e, hm, q⟩ := hs
    rcases q with ⟨p1, _, p3⟩ | ⟨p1, ⟨_, _, p4⟩ | ⟨_, p3⟩⟩
    · exact (p1 p3.symm).elim
    · exact absurd p4 (by decide)
    · rw [p1] at hm
      refine step_zo zs (fun x hx => hz x (List.mem_cons_of_mem _ hx)) (fun x hx => ?_) p3
      rcases List.mem_append.1 hx with q | q
      · exact hh x q
      · exact less_zo tb hb 6 (Nat.le_refl _) (hz z List.mem_cons_self) hm x q
theorem step_cnt {p q r s : Int} (m1 : MayR p q) (m2 : MayR r s) : ∀ (zs : List (List Int)) {h o : List (List Int)}, (∀ z, z ∈ zs → Zo z) → StepR b zs h o 0 → cnt o p q r s = cnt h p q r s + if hasB b p q r s = true then 0 else cnt zs p q r s
  | [], h, o, _, ⟨e, _⟩ => by
    rw [e]
    have : cnt [] p q r s = 0 := rfl
    rw [this]
    split <;> rfl
  | z :: zs, h, o, hz, hs => by
    unfold StepR at hs
    obtain ⟨m, e, hm, k⟩ := hs
    rcases k with ⟨p1, _, p3⟩ | ⟨p1, ⟨_, _, p4⟩ | ⟨_, p3⟩⟩
    · exact (p1 p3.symm).elim
    · exact absurd p4 (by decide)
    · rw [p1] at hm
      have ih := step_cnt m1 m2 zs (fun x hx => hz x (List.mem_cons_of_mem _ hx)) p3
      have e1 := less_cnt tb hb m1 m2 6 (Nat.le_refl _) (hz z List.mem_cons_self) hm
      have e2 : cnt (z :: zs) p q r s = cnt [z] p q r s + cnt zs p q r s := cnt_app [z] zs p q r s
      rw [rest_has] at e1
      rw [ih, cnt_app, e1, e2, cnt_one]
      cases h1 : hasB z p q r s <;> cases h2 : hasB b p q r s <;> simp <;> omega
end
theorem rest_zo : ∀ (bs : List (List Int)) {l r : List (List Int)}, (∀ b, b ∈ bs → Zo b) → (∀ z, z ∈ l → Zo z) → RestR bs l r 0 → ∀ z, z ∈ r → Zo z
  | [], _, _, _, hl, ⟨e, _⟩ => by rw [e]; exact hl
  | b :: bs, l, r, hb, hl, hs => by
    unfold RestR at hs
    obtain ⟨n, e, hn, q⟩ := hs
    rcases q with ⟨p1, _, p3⟩ | ⟨p1, p2⟩
    · exact (p1 p3.symm).elim
    · rw [p1] at hn
      have zb := hb b List.mem_cons_self
      exact rest_zo bs (fun x hx => hb x (List.mem_cons_of_mem _ hx)) (step_zo zb.2.1 zb.1 l hl (fun x hx => by cases hx) hn) p2
/-- in how many of what is left a point is. -/
theorem rest_cnt {p q r s : Int} (m1 : MayR p q) (m2 : MayR r s) : ∀ (bs : List (List Int)) {l o : List (List Int)}, (∀ b, b ∈ bs → Zo b) → (∀ z, z ∈ l → Zo z) → RestR bs l o 0 → cnt o p q r s = if 0 < cnt bs p q r s then 0 else cnt l p q r s
  | [], l, o, _, _, ⟨e, _⟩ => by
    rw [e, if_neg (by exact Nat.lt_irrefl 0)]
  | b :: bs, l, o, hb, hl, hs => by
    unfold RestR at hs
    obtain ⟨n, e, hn, k⟩ := hs
    rcases k with ⟨p1, _, p3⟩ | ⟨p1, p2⟩
    · exact (p1 p3.symm).elim
    · rw [p1] at hn
      have zb := hb b List.mem_cons_self
      have ih := rest_cnt m1 m2 bs (fun x hx => hb x (List.mem_cons_of_mem _ hx)) (step_zo zb.2.1 zb.1 l hl (fun x hx => by cases hx) hn) p2
      have e1 := step_cnt zb.2.1 zb.1 m1 m2 l hl hn
      have e2 : cnt (b :: bs) p q r s = cnt [b] p q r s + cnt bs p q r s := cnt_app [b] bs p q r s
      have e3 : cnt [] p q r s = 0 := rfl
      rw [ih, e1, e2, e3, cnt_one, Nat.zero_add]
      cases h1 : hasB b p q r s
      · simp only [Bool.false_eq_true, if_false, Nat.zero_add]
      · rw [if_pos rfl, if_pos rfl, if_pos (show 0 < 1 + cnt bs p q r s by omega)]
        split <;> rfl
/-- by some, and one more. -/
theorem rest_app : ∀ (bs : List (List Int)) {b : List Int} {l r : List (List Int)} {f : Int}, RestR (bs ++ [b]) l r f → ∃ n e, RestR bs l n e ∧ ((e ≠ 0 ∧ r = [] ∧ f = e) ∨ (e = 0 ∧ StepR b n [] r f))
  | [], b, l, r, f, h => by
    have h : RestR [b] l r f := h
    unfold RestR at h
    obtain ⟨n, e, hn, k⟩ := h
    refine ⟨l, 0, ⟨rfl, rfl⟩, .inr ⟨rfl, ?_⟩⟩
    rcases k with ⟨p1, p2, p3⟩ | ⟨p1, p2, p3⟩
    · have q := step_err l hn p1
      rw [q] at hn
      rw [p2, p3]
      exact hn
    · rw [p2, p3, ← p1]; exact hn
  | c :: bs, b, l, r, f, h => by
    have h : RestR (c :: (bs ++ [b])) l r f := h
    unfold RestR at h
    obtain ⟨n, e, hn, k⟩ := h
    rcases k with ⟨p1, p2, p3⟩ | ⟨p1, p2⟩
    · exact ⟨[], e, ⟨n, e, hn, .inl ⟨p1, rfl, rfl⟩⟩, .inl ⟨p1, p2, p3⟩⟩
    · obtain ⟨n', e', h1, h2⟩ := rest_app bs p2
      exact ⟨n', e', ⟨n, e, hn, .inr ⟨p1, h1⟩⟩, h2⟩
end Go.Proofs.YtkfnjdmjojodhaaDoor.minus
