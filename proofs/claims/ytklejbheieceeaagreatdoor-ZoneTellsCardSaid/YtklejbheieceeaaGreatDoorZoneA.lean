/-
  Zones: what is told of the six bounds of a matrix of three clocks; each theorem names its conditions.
-/
import Derived.Test.YtklejbheieceeaaGreatDoorInclC
namespace Go.Proofs.YtklejbheieceeaaGreatDoor.zone
open num dbm rat Go.Proofs.YtklejbheieceeaaGreatDoor.tight Go.Proofs.YtklejbheieceeaaGreatDoor.tkept Go.Proofs.YtklejbheieceeaaGreatDoor.incl
open bound hiding up
set_option linter.unusedVariables false
set_option linter.unusedSimpArgs false

/-- the matrix of six bounds. -/
def fullT (z : List Int) : List Int := [1, z[1]?.getD 0, z[3]?.getD 0, z[0]?.getD 0, 1, z[5]?.getD 0, z[2]?.getD 0, z[4]?.getD 0, 1]
/-- the six bounds of a matrix. -/
def shortT (t : List Int) : List Int := [t[3]?.getD 0, t[1]?.getD 0, t[6]?.getD 0, t[2]?.getD 0, t[7]?.getD 0, t[5]?.getD 0]
theorem full_length (z : List Int) : (fullT z).length = 9 := rfl
theorem short_length (t : List Int) : (shortT t).length = 6 := rfl
theorem six {z : List Int} (h : z.length = 6) : ∃ a b c d e f, z = [a, b, c, d, e, f] := by
  match z, h with
  | [a, b, c, d, e, f], _ => exact ⟨a, b, c, d, e, f, rfl⟩
theorem short_full {z : List Int} (h : z.length = 6) : shortT (fullT z) = z := by
  obtain ⟨a, b, c, d, e, f, rfl⟩ := six h
  rfl
theorem full_short {t : List Int} (h : t.length = 9) (d : ∀ i, i < 3 → tat t 3 i i = 1) : fullT (shortT t) = t := by
  match t, h, d with
  | [a, b, c, e, f, g, i, j, k], _, d =>
    have d0 : a = 1 := d 0 (by decide)
    have d1 : f = 1 := d 1 (by decide)
    have d2 : k = 1 := d 2 (by decide)
    subst d0 d1 d2
    rfl
theorem full_inj {a b : List Int} (la : a.length = 6) (lb : b.length = 6) (h : fullT a = fullT b) : a = b := by rw [← short_full la, h, short_full lb]
theorem get_top {z : List Int} (h : Tops z) (i : Nat) : z[i]?.getD 0 ≤ 9223372036854775807 := by
  have := tat_top h 0 0 i
  unfold tat at this
  rwa [Nat.zero_mul, Nat.zero_add] at this
theorem full_tops {z : List Int} (h : Tops z) : Tops (fullT z) := by
  have k0 := get_top h 0
  have k1 := get_top h 1
  have k2 := get_top h 2
  have k3 := get_top h 3
  have k4 := get_top h 4
  have k5 := get_top h 5
  intro x hx
  unfold fullT at hx
  simp only [List.mem_cons, List.not_mem_nil, or_false] at hx
  omega
theorem short_tops {t : List Int} (h : Tops t) : Tops (shortT t) := by
  have k1 := get_top h 1
  have k2 := get_top h 2
  have k3 := get_top h 3
  have k5 := get_top h 5
  have k6 := get_top h 6
  have k7 := get_top h 7
  intro x hx
  unfold shortT at hx
  simp only [List.mem_cons, List.not_mem_nil, or_false] at hx
  omega
theorem one_fine : Fine 1 := .inr ⟨by decide, by decide⟩
theorem full_may {z : List Int} (h : ∀ i, i < 6 → Fine (z[i]?.getD 0)) : MayD 3 (fullT z) := by
  refine ⟨by decide, by decide, rfl, fun p hp => ?_⟩
  have hp : p < 9 := hp
  have h0 := h 0 (by decide)
  have h1 := h 1 (by decide)
  have h2 := h 2 (by decide)
  have h3 := h 3 (by decide)
  have h4 := h 4 (by decide)
  have h5 := h 5 (by decide)
  rcases (by omega : p = 0 ∨ p = 1 ∨ p = 2 ∨ p = 3 ∨ p = 4 ∨ p = 5 ∨ p = 6 ∨ p = 7 ∨ p = 8) with rfl | rfl | rfl | rfl | rfl | rfl | rfl | rfl | rfl
  · exact one_fine
  · exact h1
  · exact h3
  · exact h0
  · exact one_fine
  · exact h5
  · exact h2
  · exact h4
  · exact one_fine
/-- may a zone be? -/
def MayZ (z : List Int) : Prop := OkD 3 (fullT z) ∧ clT 3 (fullT z) = fullT z
theorem MayZ.may {z : List Int} (h : MayZ z) : MayD 3 (fullT z) := h.1.1
/-- what is closed, and may be, is closed. -/
theorem closed_own {n : Int} {ts : List Int} (htop : Tops ts) (h : OkD n ts) (hm : MayD n (clT n ts)) : OkD n (clT n ts) ∧ clT n (clT n ts) = clT n ts := by
  obtain ⟨m, rfl, h0, hn, hl⟩ := may_nat h.1
  have hf := h.1.2.2.2
  have hne : ∀ k, k ≤ m → ¬ emp m (tabs m h0 ts k) := fun k hk => h.2.2 k (by simpa using hk)
  rw [clT_nat h0] at hm ⊢
  refine ⟨⟨hm, by simpa using h0, fun k hk => ?_⟩, ?_⟩
  · exact again_alive h0 hn hl htop hf hne hm.2.2.2 k (by simpa using hk)
  · rw [clT_nat h0]; exact again h0 hn hl htop hf hne hm.2.2.2 m (Nat.le_refl _)
/-- the zone of what is closed. -/
theorem of_may {ts : List Int} (hl : ts.length = 9) (htop : Tops ts) (h : OkD 3 ts) (hm : MayD 3 (clT 3 ts)) : fullT (shortT (clT 3 ts)) = clT 3 ts ∧ MayZ (shortT (clT 3 ts)) := by
  have e : fullT (shortT (clT 3 ts)) = clT 3 ts := full_short ((clT_length h).trans hl) fun i hi => by
    rw [show clT 3 ts = tabs 3 (by decide) ts 3 from clT_nat (m := 3) (by decide) ts]
    exact closed_diag (by decide) (by decide) hl htop h.1.2.2.2 (fun m hm => h.2.2 m (by simpa using hm)) hi
  refine ⟨e, ?_⟩
  unfold MayZ
  rw [e]
  exact closed_own htop h hm

/-! one in another one -/
section
variable {a b : List Int} (la : a.length = 6) (lb : b.length = 6) (ta : Tops a) (tb : Tops b) (ha : MayZ a) (hb : MayZ b)
include ha in
theorem in_le : inV 3 (fullT a) (fullT b) ↔ ∀ p, p < 9 → (fullT a)[p]?.getD 0 ≤ (fullT b)[p]?.getD 0 := by
  unfold inV
  rw [ha.2]
  exact ⟨fun h p hp => h ha.1 p hp, fun h _ p hp => h p hp⟩
include la lb ha hb in
theorem in_two (h : inV 3 (fullT a) (fullT b)) (k : inV 3 (fullT b) (fullT a)) : a = b :=
  full_inj la lb (list_at rfl fun p hp => Int.le_antisymm ((in_le ha).1 h p hp) ((in_le hb).1 k p hp))
include la ta tb ha hb in
/-- one lies in another one just if what they have in common is it. -/
theorem in_meet : inV 3 (fullT a) (fullT b) ↔ OkD 3 (lesT (fullT a) (fullT b)) ∧ MayD 3 (clT 3 (lesT (fullT a) (fullT b))) ∧ shortT (clT 3 (lesT (fullT a) (fullT b))) = a := by
  constructor
  · intro h
    have e : lesT (fullT a) (fullT b) = fullT a := list_at (lesT_length _ _) fun p hp => by
      have hp' : p < (fullT a).length := by rwa [lesT_length] at hp
      rw [lesT_at _ _ hp']
      have := (in_le ha).1 h p hp'
      unfold lsr
      rw [if_neg (by omega)]
    rw [e, ha.2]
    exact ⟨ha.1, ha.may, short_full la⟩
  · rintro ⟨ho, hm, e⟩
    refine (in_iff_m ha.may hb.may (full_tops ta) (full_tops tb) ho).2 ?_
    have := (of_may (lesT_length _ _) (lesT_tops (full_tops ta) _) ho hm).1
    rw [← this, e, ha.2]
end

/-! spans -/
abbrev Sp := Int × Bool × Int × Bool × Bool
def hiS (s : Sp) : Int := hiB s.2.2.1 s.2.2.2.1 s.2.2.2.2
def loS (s : Sp) : Int := mk (-s.1) s.2.1
def MayP (s : Sp) : Prop := MayS s.1 s.2.2.1 s.2.2.2.1 s.2.2.2.2
theorem lo_in {s : Sp} (h : MayP s) : In (-s.1) := by
  have := h.1
  unfold In at this ⊢
  omega
theorem hi_in {s : Sp} (h : MayP s) : s.2.2.2.2 = false → In s.2.2.1 := fun k => by
  rcases h.2 with j | j
  · rw [k] at j; exact absurd j.1 (by decide)
  · exact j.2.1
theorem lo_fine {s : Sp} (h : MayP s) : Fine (loS s) := mk_fine2 (lo_in h) _
theorem hi_fine {s : Sp} (h : MayP s) : Fine (hiS s) := by
  unfold hiS
  cases e : s.2.2.2.2 with
  | true => exact .inl rfl
  | false => exact mk_fine2 (hi_in h e) _
theorem fine_le {x : Int} (h : Fine x) : x ≤ 9223372036854775807 := by
  rcases h with h | h <;> omega
/-- the bounds of three spans. -/
def spanZ (s t d : Sp) : List Int := [hiS s, loS s, hiS t, loS t, hiS d, loS d]
theorem span_may {s t d : Sp} (h : MayP s) (k : MayP t) (l : MayP d) : MayD 3 (fullT (spanZ s t d)) := full_may fun i hi => by
  rcases (by omega : i = 0 ∨ i = 1 ∨ i = 2 ∨ i = 3 ∨ i = 4 ∨ i = 5) with rfl | rfl | rfl | rfl | rfl | rfl
  · exact hi_fine h
  · exact lo_fine h
  · exact hi_fine k
  · exact lo_fine k
  · exact hi_fine l
  · exact lo_fine l
theorem span_tops {s t d : Sp} (h : MayP s) (k : MayP t) (l : MayP d) : Tops (spanZ s t d) := by
  have k0 := fine_le (hi_fine h)
  have k1 := fine_le (lo_fine h)
  have k2 := fine_le (hi_fine k)
  have k3 := fine_le (lo_fine k)
  have k4 := fine_le (hi_fine l)
  have k5 := fine_le (lo_fine l)
  intro x hx
  unfold spanZ at hx
  simp only [List.mem_cons, List.not_mem_nil, or_false] at hx
  omega
/-- a way there and back is not below 0. -/
theorem pair_ok {n : Nat} {ts : List Int} (h0 : 0 < n) (hn : n ≤ 4) (hl : ts.length = n * n) (htop : Tops ts) (h : OkD n ts) {i j : Nat} (hi : i < n) (hj : j < n) : way.le way.one (way.ad (cod (tat ts n i j)) (cod (tat ts n j i))) := by
  have g := clo_good h0 hn hl htop h
  have t := way.good_tri g j hj i i
  rw [clo_one h0 hn hl htop h i hi] at t
  exact way.le_trans t (way.ad_mono (way.le_trans (way.F_le _ _ _ _) (beg_le_cod h0 hn hl hl htop htop i j hi hj)) (way.le_trans (way.F_le _ _ _ _) (beg_le_cod h0 hn hl hl htop htop j i hj hi)))
/-- what is closed already, and not empty. -/
theorem own_closed {m : Nat} {us : List Int} (h0 : 0 < m) (hm : m ≤ 4) (hl : us.length = m * m) (htop : Tops us) (h : MayD m us) (hd : ∀ i, i < m → tat us m i i = 1) (ht : ∀ i j l, i < m → j < m → l < m → way.le (cod (tat us m i j)) (way.ad (cod (tat us m i l)) (cod (tat us m l j)))) : OkD m us ∧ clT m us = us := by
  have hb : ∀ i j, i < m → j < m → beg m us i j = cod (tat us m i j) := fun i j hi hj => by
    unfold beg
    rw [wts_in hi hj, beg_at hl hm hi hj]
    by_cases e : i = j
    · subst e; rw [if_pos rfl, hd i hi]; rfl
    · rw [if_neg e]
  have hT : way.Tri (beg m us) m := fun l hl' i j => by
    by_cases hi : i < m
    · by_cases hj : j < m
      · rw [hb i j hi hj, hb i l hi hl', hb l j hl' hj]; exact ht i j l hi hj hl'
      · rw [show beg m us l j = none from wts_out2 hj, way.ad_none]; exact way.le_none _
    · rw [show beg m us i l = none from wts_out hi, way.none_ad]; exact way.le_none _
  have hF : ∀ k, k ≤ m → ∀ i j, way.F (beg m us) k i j = beg m us i j := way.F_id hT
  have hg : way.Good (beg m us) m := fun k hk i => by
    rw [hF k hk]
    by_cases hi : i < m
    · rw [hb i i hi hi, hd i hi]; exact way.le_refl _
    · rw [show beg m us i i = none from wts_out hi]; exact way.le_none _
  have hok : OkD m us := (okD_good h0 hm hl htop h).2 hg
  refine ⟨hok, ?_⟩
  rw [clT_nat h0]
  refine list_ext h0 ((tabs_length _ _ _ _).trans hl) hl fun i j hi hj => cod_inj ?_
  rw [← wts_in (us := tabs m h0 us m) hi hj, ← clT_nat h0, wts_closed h0 hm hl htop hok, hF m (Nat.le_refl _), hb i j hi hj]
/-- two clocks. -/
def twoT (a b : Int) : List Int := [1, b, a, 1]
theorem two_tops {a b : Int} (ha : Fine a) (hb : Fine b) : Tops (twoT a b) := by
  have k0 := fine_le ha
  have k1 := fine_le hb
  intro x hx
  unfold twoT at hx
  simp only [List.mem_cons, List.not_mem_nil, or_false] at hx
  omega
theorem two_may {a b : Int} (ha : Fine a) (hb : Fine b) : MayD 2 (twoT a b) := by
  refine ⟨by decide, by decide, rfl, fun p hp => ?_⟩
  have hp : p < 4 := hp
  rcases (by omega : p = 0 ∨ p = 1 ∨ p = 2 ∨ p = 3) with rfl | rfl | rfl | rfl
  · exact one_fine
  · exact hb
  · exact ha
  · exact one_fine
theorem two_ok {a b : Int} (ha : Fine a) (hb : Fine b) (h : way.le way.one (way.ad (cod a) (cod b))) : OkD 2 (twoT a b) ∧ clT 2 (twoT a b) = twoT a b := by
  have e1 : cod 1 = way.one := rfl
  refine own_closed (m := 2) (by decide) (by decide) rfl (two_tops ha hb) (two_may ha hb) (fun i hi => ?_) (fun i j l hi hj hl => ?_)
  · rcases (by omega : i = 0 ∨ i = 1) with rfl | rfl <;> rfl
  · rcases (by omega : i = 0 ∨ i = 1) with rfl | rfl <;> rcases (by omega : j = 0 ∨ j = 1) with rfl | rfl <;> rcases (by omega : l = 0 ∨ l = 1) with rfl | rfl
    · show way.le (cod 1) (way.ad (cod 1) (cod 1)); exact way.le_refl _
    · show way.le (cod 1) (way.ad (cod b) (cod a)); rw [way.ad_comm]; exact h
    · show way.le (cod b) (way.ad (cod 1) (cod b)); rw [e1, way.one_ad]; exact way.le_refl _
    · show way.le (cod b) (way.ad (cod b) (cod 1)); rw [e1, way.ad_one]; exact way.le_refl _
    · show way.le (cod a) (way.ad (cod a) (cod 1)); rw [e1, way.ad_one]; exact way.le_refl _
    · show way.le (cod a) (way.ad (cod 1) (cod a)); rw [e1, way.one_ad]; exact way.le_refl _
    · show way.le (cod 1) (way.ad (cod a) (cod b)); exact h
    · show way.le (cod 1) (way.ad (cod 1) (cod 1)); exact way.le_refl _
theorem two_of {ts : List Int} (hl : ts.length = 9) (htop : Tops ts) (h : OkD 3 ts) {i j : Nat} (hi : i < 3) (hj : j < 3) (ha : Fine (tat ts 3 i j)) (hb : Fine (tat ts 3 j i)) : OkD 2 (twoT (tat ts 3 i j) (tat ts 3 j i)) :=
  (two_ok ha hb (pair_ok (n := 3) (by decide) (by decide) hl htop h hi hj)).1
/-- spans of which a zone is not empty are not empty. -/
theorem span_two {s t d : Sp} (h : MayP s) (k : MayP t) (l : MayP d) (ho : OkD 3 (fullT (spanZ s t d))) : OkD 2 (twoT (hiS s) (loS s)) ∧ OkD 2 (twoT (hiS t) (loS t)) ∧ OkD 2 (twoT (hiS d) (loS d)) := by
  have tt := full_tops (span_tops h k l)
  exact ⟨two_of (i := 1) (j := 0) rfl tt ho (by decide) (by decide) (hi_fine h) (lo_fine h), two_of (i := 2) (j := 0) rfl tt ho (by decide) (by decide) (hi_fine k) (lo_fine k), two_of (i := 2) (j := 1) rfl tt ho (by decide) (by decide) (hi_fine l) (lo_fine l)⟩
theorem two_cl {s : Sp} (h : MayP s) (ho : OkD 2 (twoT (hiS s) (loS s))) : clT 2 (twoT (hiS s) (loS s)) = twoT (hiS s) (loS s) :=
  (two_ok (hi_fine h) (lo_fine h) (pair_ok (n := 2) (i := 1) (j := 0) (by decide) (by decide) rfl (two_tops (hi_fine h) (lo_fine h)) ho (by decide) (by decide))).2
/-- what Between is asked of two clocks without a bound. -/
def lineT : List Int := [1, 9223372036854775807, 9223372036854775807, 1]
theorem lsr_of {x : Int} (h : x ≤ 9223372036854775807) : lsr 9223372036854775807 x = x := by
  unfold lsr
  split <;> omega
theorem btw_line {s : Sp} (h : MayP s) : btwQ 2 lineT 1 s.1 s.2.1 s.2.2.1 s.2.2.2.1 s.2.2.2.2 = some (twoT (hiS s) (loS s)) := by
  have hm : MayD 2 lineT := two_may (a := 9223372036854775807) (b := 9223372036854775807) (.inl rfl) (.inl rfl)
  unfold btwQ
  rw [if_pos ⟨hm, ⟨by decide, by decide⟩, h⟩]
  have e1 := lsr_of (fine_le (lo_fine h))
  have e2 := lsr_of (fine_le (hi_fine h))
  show some [1, lsr 9223372036854775807 (loS s), lsr 9223372036854775807 (hiS s), 1] = _
  rw [e1, e2]
  rfl
theorem btw_not {s : Sp} (h : ¬ MayP s) : btwQ 2 lineT 1 s.1 s.2.1 s.2.2.1 s.2.2.2.1 s.2.2.2.2 = none := if_neg fun k => h k.2.2

/-! times -/
theorem kp_own {a b : Int} (h : MayR a b) : kpV a b a b 1 = true := by
  rw [kp_kB h h one_fine]
  refine .inr ?_
  rw [keptR_ge (by decide)]
  have e : (1 : Int) / 2 = 0 := by decide
  rw [e, Int.zero_mul]
  omega
/-- times keep a zone just if they keep its six bounds. -/
theorem kept_six {z : List Int} {a b c d : Int} (h : MayR a b) (k : MayR c d) : keptAll 3 (fullT z) [(0, 1), (a, b), (c, d)] ↔
    kpV a b 0 1 (z[0]?.getD 0) = true ∧ kpV 0 1 a b (z[1]?.getD 0) = true ∧ kpV c d 0 1 (z[2]?.getD 0) = true ∧ kpV 0 1 c d (z[3]?.getD 0) = true ∧ kpV c d a b (z[4]?.getD 0) = true ∧ kpV a b c d (z[5]?.getD 0) = true := by
  constructor
  · intro q
    exact ⟨q 1 0 (by decide) (by decide), q 0 1 (by decide) (by decide), q 2 0 (by decide) (by decide), q 0 2 (by decide) (by decide), q 2 1 (by decide) (by decide), q 1 2 (by decide) (by decide)⟩
  · rintro ⟨q0, q1, q2, q3, q4, q5⟩ i j hi hj
    rcases (by omega : i = 0 ∨ i = 1 ∨ i = 2) with rfl | rfl | rfl <;> rcases (by omega : j = 0 ∨ j = 1 ∨ j = 2) with rfl | rfl | rfl
    · exact kp_own zero_may
    · exact q1
    · exact q3
    · exact q0
    · exact kp_own h
    · exact q5
    · exact q2
    · exact q4
    · exact kp_own k
theorem may_three {a b c d : Int} (h : MayR a b) (k : MayR c d) : MayT [(0, 1), (a, b), (c, d)] := fun i hi => by
  have hi : i < 3 := hi
  rcases (by omega : i = 0 ∨ i = 1 ∨ i = 2) with rfl | rfl | rfl
  · exact zero_may
  · exact h
  · exact k
/-- a bound of a difference, and of the fraction that it is. -/
theorem kept_diff {a b c d p q x : Int} (hb : 0 < b) (hd : 0 < d) (hq : 0 < q) (e : p * (d * b) = (c * b - a * d) * q) : (keptR c d a b x = true ↔ keptR p q 0 1 x = true) ∧ (keptR a b c d x = true ↔ keptR 0 1 p q x = true) := by
  have hm : 0 < d * b := Int.mul_pos hd hb
  have hbd : b * d = d * b := Int.mul_comm _ _
  generalize hM : d * b = M at *
  generalize hD : c * b - a * d = D at *
  have hD2 : a * d - c * b = -D := by omega
  have e0 : p * 1 - 0 * q = p := by omega
  have e1 : 0 * q - p * 1 = -p := by omega
  have e2 : q * 1 = q := Int.mul_one _
  have e3 : 1 * q = q := Int.one_mul _
  -- D against X * M, as p against X * q
  have key : ∀ X : Int, (D < X * M ↔ p < X * q) ∧ (D ≤ X * M ↔ p ≤ X * q) := fun X => by
    have h1 : (p - X * q) * M = (D - X * M) * q := by
      rw [Int.sub_mul, Int.sub_mul, e]
      congr 1
      ac_rfl
    constructor
    · constructor
      · intro h
        have : (D - X * M) * q < 0 := Int.mul_neg_of_neg_of_pos (by omega) hq
        rw [← h1] at this
        refine Decidable.byContradiction fun k => ?_
        have := Int.mul_nonneg (show 0 ≤ p - X * q by omega) (Int.le_of_lt hm)
        omega
      · intro h
        have : (p - X * q) * M < 0 := Int.mul_neg_of_neg_of_pos (by omega) hm
        rw [h1] at this
        refine Decidable.byContradiction fun k => ?_
        have := Int.mul_nonneg (show 0 ≤ D - X * M by omega) (Int.le_of_lt hq)
        omega
    · constructor
      · intro h
        refine Decidable.byContradiction fun k => ?_
        have h2 : 0 < (p - X * q) * M := Int.mul_pos (by omega) hm
        have h3 : 0 ≤ (X * M - D) * q := Int.mul_nonneg (by omega) (Int.le_of_lt hq)
        rw [h1] at h2
        have e4 : (X * M - D) * q = -((D - X * M) * q) := by rw [← Int.neg_mul]; congr 1; omega
        omega
      · intro h
        refine Decidable.byContradiction fun k => ?_
        have h2 : 0 < (D - X * M) * q := Int.mul_pos (by omega) hq
        have h3 : 0 ≤ (X * q - p) * M := Int.mul_nonneg (by omega) (Int.le_of_lt hm)
        rw [← h1] at h2
        have e4 : (X * q - p) * M = -((p - X * q) * M) := by rw [← Int.neg_mul]; congr 1; omega
        omega
  have key2 : ∀ X : Int, (-D < X * M ↔ -p < X * q) ∧ (-D ≤ X * M ↔ -p ≤ X * q) := fun X => by
    have k := key (-X)
    rw [Int.neg_mul, Int.neg_mul] at k
    omega
  constructor
  · by_cases s : bS x = true
    · rw [keptR_lt s, keptR_lt s, hD, hM, e0, e2]; exact (key _).1
    · rw [keptR_ge s, keptR_ge s, hD, hM, e0, e2]; exact (key _).2
  · by_cases s : bS x = true
    · rw [keptR_lt s, keptR_lt s, hD2, hbd, e1, e3]; exact (key2 _).1
    · rw [keptR_ge s, keptR_ge s, hD2, hbd, e1, e3]; exact (key2 _).2
theorem kp_diff {a b c d p q x : Int} (h : MayR a b) (k : MayR c d) (m : MayR p q) (hx : Fine x) (e : p * (d * b) = (c * b - a * d) * q) : (kpV c d a b x = kpV p q 0 1 x) ∧ (kpV a b c d x = kpV 0 1 p q x) := by
  have hb : 0 < b := by have := h.1; omega
  have hd : 0 < d := by have := k.1; omega
  have hq : 0 < q := by have := m.1; omega
  obtain ⟨h1, h2⟩ := kept_diff (x := x) hb hd hq e
  constructor
  · rw [Bool.eq_iff_iff, kp_kB k h hx, kp_kB m zero_may hx, h1]
  · rw [Bool.eq_iff_iff, kp_kB h k hx, kp_kB zero_may m hx, h2]
/-- is a time in a span? -/
def inS (s : Sp) (a b : Int) : Bool := inl s.1 s.2.1 a b && (s.2.2.2.2 || inh s.2.2.1 s.2.2.2.1 a b)
theorem in_span {s : Sp} (hs : MayP s) {a b : Int} (h : MayR a b) : (kpV a b 0 1 (hiS s) = true ∧ kpV 0 1 a b (loS s) = true) ↔ inS s a b = true := by
  unfold inS
  rw [Bool.and_eq_true]
  have h1 : kpV 0 1 a b (loS s) = true ↔ inl s.1 s.2.1 a b = true := kp_low hs.1 s.2.1 h
  have h2 : kpV a b 0 1 (hiS s) = true ↔ (s.2.2.2.2 || inh s.2.2.1 s.2.2.2.1 a b) = true := kp_high s.2.2.2.1 s.2.2.2.2 (hi_in hs) h
  rw [h1, h2]
  exact ⟨fun x => ⟨x.2, x.1⟩, fun x => ⟨x.2, x.1⟩⟩
/-- times keep the zone of spans just if they, and their difference, are in these. -/
theorem kept_spans {s t u : Sp} (hs : MayP s) (ht : MayP t) (hu : MayP u) {a b c d p q : Int} (h : MayR a b) (k : MayR c d) (m : MayR p q) (e : p * (d * b) = (c * b - a * d) * q) :
    keptAll 3 (fullT (spanZ s t u)) [(0, 1), (a, b), (c, d)] ↔ (inS s a b && inS t c d && inS u p q) = true := by
  rw [kept_six h k]
  show kpV a b 0 1 (hiS s) = true ∧ kpV 0 1 a b (loS s) = true ∧ kpV c d 0 1 (hiS t) = true ∧ kpV 0 1 c d (loS t) = true ∧ kpV c d a b (hiS u) = true ∧ kpV a b c d (loS u) = true ↔ _
  rw [(kp_diff h k m (hi_fine hu) e).1, (kp_diff h k m (lo_fine hu) e).2, Bool.and_eq_true, Bool.and_eq_true, ← in_span hs h, ← in_span ht k, ← in_span hu m]
  exact ⟨fun ⟨a, b, c, d, e, f⟩ => ⟨⟨⟨a, b⟩, c, d⟩, e, f⟩, fun ⟨⟨⟨a, b⟩, c, d⟩, e, f⟩ => ⟨a, b, c, d, e, f⟩⟩

/-! which is ahead -/
def cmpL : List Int → List Int → Int
  | [], [] => 0
  | [], _ :: _ => -1
  | _ :: _, [] => 1
  | a :: xs, b :: ys => if a < b then -1 else if b < a then 1 else cmpL xs ys
theorem cmp_in : ∀ a b, cmpL a b = -1 ∨ cmpL a b = 0 ∨ cmpL a b = 1
  | [], [] => by simp [cmpL]
  | [], _ :: _ => by simp [cmpL]
  | _ :: _, [] => by simp [cmpL]
  | a :: xs, b :: ys => by
    unfold cmpL
    split
    · simp
    · split
      · simp
      · exact cmp_in xs ys
theorem cmp_back : ∀ a b, cmpL b a = -(cmpL a b)
  | [], [] => rfl
  | [], _ :: _ => rfl
  | _ :: _, [] => rfl
  | a :: xs, b :: ys => by
    unfold cmpL
    by_cases h : a < b
    · rw [if_pos h, if_neg (by omega), if_pos h]; rfl
    · rw [if_neg h]
      by_cases k : b < a
      · rw [if_pos k, if_pos k, if_neg h]
      · rw [if_neg k, if_neg k, if_neg h]; exact cmp_back xs ys
theorem cmp_zero : ∀ a b, cmpL a b = 0 ↔ a = b
  | [], [] => by simp [cmpL]
  | [], _ :: _ => by simp [cmpL]
  | _ :: _, [] => by simp [cmpL]
  | a :: xs, b :: ys => by
    unfold cmpL
    by_cases h : a < b
    · rw [if_pos h]
      refine ⟨fun k => absurd k (by decide), fun k => ?_⟩
      injection k with k1 k2
      omega
    · rw [if_neg h]
      by_cases k : b < a
      · rw [if_pos k]
        refine ⟨fun k => absurd k (by decide), fun j => ?_⟩
        injection j with k1 k2
        omega
      · rw [if_neg k, cmp_zero xs ys]
        have e : a = b := by omega
        subst e
        simp
theorem cmp_trans : ∀ a b c, cmpL a b ≤ 0 → cmpL b c ≤ 0 → cmpL a c ≤ 0
  | [], b, c, _, _ => by cases c <;> simp [cmpL]
  | _ :: _, [], c, h, _ => by simp [cmpL] at h
  | a :: xs, b :: ys, [], _, k => by simp [cmpL] at k
  | a :: xs, b :: ys, c :: vs, h, k => by
    unfold cmpL at h k ⊢
    by_cases h1 : a < b
    · rw [if_pos h1] at h
      by_cases k1 : b < c
      · rw [if_pos (by omega)]; decide
      · rw [if_neg k1] at k
        by_cases k2 : c < b
        · rw [if_pos k2] at k; exact absurd k (by decide)
        · rw [if_pos (by omega)]; decide
    · rw [if_neg h1] at h
      by_cases h2 : b < a
      · rw [if_pos h2] at h; exact absurd h (by decide)
      · rw [if_neg h2] at h
        by_cases k1 : b < c
        · rw [if_pos (by omega)]; decide
        · rw [if_neg k1] at k
          by_cases k2 : c < b
          · rw [if_pos k2] at k; exact absurd k (by decide)
          · rw [if_neg k2] at k
            rw [if_neg (by omega), if_neg (by omega)]
            exact cmp_trans xs ys vs h k
end Go.Proofs.YtklejbheieceeaaGreatDoor.zone
