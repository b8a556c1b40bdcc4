/-
  Bounds put into a matrix, and the lesser bounds of two: what is closed of them; each theorem names its conditions.
-/
import Derived.Test.YtallgbpijndmeaaDbmB
namespace Go.Proofs.Ytallgbpijndmeaa.way
set_option linter.unusedVariables false

theorem good_mono {d d' : Tab} (h : ∀ i j, le (d i j) (d' i j)) {k : Nat} (g : Good d k) : Good d' k := fun m hm i => le_trans (g m hm i) (F_mono h m i i)
theorem F_id {D : Tab} {n : Nat} (h : Tri D n) : ∀ k, k ≤ n → ∀ i j, F D k i j = D i j := by
  intro k
  induction k with
  | zero => intro _ i j; rfl
  | succ k ih =>
    intro hk i j
    have ih' := ih (by omega)
    show mn (F D k i j) (ad (F D k i k) (F D k k j)) = _
    rw [ih', ih', ih']
    exact mn_eq_left (h k (by omega) i j)
/-- a table with one weight more. -/
def put (d : Tab) (x y : Nat) (v : B) : Tab := fun i j => if i = x ∧ j = y then mn (d i j) v else d i j
theorem put_le (d : Tab) (x y : Nat) (v : B) (i j : Nat) : le (put d x y v i j) (d i j) := by
  unfold put
  split
  · exact mn_left _ _
  · exact le_refl _
theorem put_at (d : Tab) (x y : Nat) (v : B) : le (put d x y v x y) v := by
  unfold put
  rw [if_pos ⟨rfl, rfl⟩]
  exact mn_right _ _
theorem put_mono {d d' : Tab} (h : ∀ i j, le (d i j) (d' i j)) (x y : Nat) (v : B) (i j : Nat) : le (put d x y v i j) (put d' x y v i j) := by
  unfold put
  split
  · exact mn_mono (h i j) (le_refl _)
  · exact h i j
theorem le_put {d e : Tab} {x y : Nat} {v : B} (h : ∀ i j, le (e i j) (d i j)) (k : le (e x y) v) (i j : Nat) : le (e i j) (put d x y v i j) := by
  unfold put
  split
  · rename_i p
    obtain ⟨rfl, rfl⟩ := p
    exact le_mn (h i j) k
  · exact h i j
theorem F_put_le (d : Tab) (n x y : Nat) (v : B) (i j : Nat) : le (F (put d x y v) n i j) (put (F d n) x y v i j) :=
  le_put (fun i j => F_mono (put_le d x y v) n i j) (le_trans (F_le _ _ _ _) (put_at d x y v)) i j
/-- whether a table is closed ahead of a weight more turns nothing. -/
theorem put_good {d : Tab} {n : Nat} (x y : Nat) (v : B) : Good (put (F d n) x y v) n ↔ Good (put d x y v) n := by
  refine ⟨good_mono (put_mono (F_le d n) x y v), fun h => ?_⟩
  have t := good_tri h
  refine good_mono (F_put_le d n x y v) (fun m hm i => ?_)
  rw [F_id t m hm]
  exact h n (Nat.le_refl _) i
theorem put_F {d : Tab} {n : Nat} (x y : Nat) (v : B) (h : Good (put d x y v) n) (i j : Nat) : F (put (F d n) x y v) n i j = F (put d x y v) n i j := by
  refine le_antisymm (F_mono (put_mono (F_le d n) x y v) n i j) ?_
  have := F_mono (F_put_le d n x y v) n i j
  rwa [F_id (good_tri h) n (Nat.le_refl _)] at this
end Go.Proofs.Ytallgbpijndmeaa.way

namespace Go.Proofs.Ytallgbpijndmeaa.dbm
open num way
open bound hiding up
set_option linter.unusedVariables false

/-- a list with a bound more at a place. -/
def setT (ts : List Int) (p : Nat) (b : Int) : List Int := ts.set p (lsr (ts[p]?.getD 0) b)
/-- of each place the lesser bound. -/
def lesT (ts us : List Int) : List Int := (List.range ts.length).map fun p => lsr (ts[p]?.getD 0) (us[p]?.getD 0)
theorem setT_length (ts : List Int) (p : Nat) (b : Int) : (setT ts p b).length = ts.length := by simp [setT]
theorem lesT_length (ts us : List Int) : (lesT ts us).length = ts.length := by simp [lesT]
theorem setT_at (ts : List Int) {p q : Nat} (b : Int) (hq : q < ts.length) : (setT ts p b)[q]?.getD 0 = if p = q then lsr (ts[q]?.getD 0) b else ts[q]?.getD 0 := by
  unfold setT
  rw [List.getElem?_set]
  by_cases h : p = q
  · subst h; rw [if_pos rfl, if_pos rfl, if_pos hq]; rfl
  · rw [if_neg h, if_neg h]
theorem lesT_at (ts us : List Int) {q : Nat} (hq : q < ts.length) : (lesT ts us)[q]?.getD 0 = lsr (ts[q]?.getD 0) (us[q]?.getD 0) := by
  unfold lesT
  rw [List.getElem?_map, List.getElem?_range hq]; rfl
theorem lsr_comm (a b : Int) : lsr a b = lsr b a := by unfold lsr; split <;> split <;> omega
theorem lsr_self (a : Int) : lsr a a = a := by unfold lsr; split <;> rfl
theorem lsr_right (a b c : Int) : lsr (lsr a b) c = lsr (lsr a c) b := by unfold lsr; repeat' split <;> omega
theorem lsr_is (a b : Int) : lsr a b = a ∨ lsr a b = b := by unfold lsr; split <;> simp
theorem lsr_assoc (a b c : Int) : lsr (lsr a b) c = lsr a (lsr b c) := by unfold lsr; repeat' split <;> omega
theorem list_at {ts us : List Int} (h : ts.length = us.length) (k : ∀ p, p < ts.length → ts[p]?.getD 0 = us[p]?.getD 0) : ts = us := by
  refine List.ext_getElem h fun p h1 h2 => ?_
  have := k p h1
  rwa [List.getElem?_eq_getElem h1, List.getElem?_eq_getElem h2] at this
theorem lesT_comm {ts us : List Int} (h : ts.length = us.length) : lesT ts us = lesT us ts := by
  refine list_at (by rw [lesT_length, lesT_length, h]) fun p hp => ?_
  rw [lesT_length] at hp
  rw [lesT_at _ _ hp, lesT_at _ _ (by omega), lsr_comm]
theorem lesT_self (ts : List Int) : lesT ts ts = ts := by
  refine list_at (lesT_length _ _) fun p hp => ?_
  rw [lesT_length] at hp
  rw [lesT_at _ _ hp, lsr_self]
theorem setT_comm (ts : List Int) (p q : Nat) (b c : Int) : setT (setT ts p b) q c = setT (setT ts q c) p b := by
  refine list_at (by simp only [setT_length]) fun k hk => ?_
  simp only [setT_length] at hk
  rw [setT_at _ _ (by rw [setT_length]; exact hk), setT_at _ _ hk, setT_at _ _ (by rw [setT_length]; exact hk), setT_at _ _ hk]
  by_cases h1 : q = k <;> by_cases h2 : p = k
  · rw [if_pos h1, if_pos h2, if_pos h2, if_pos h1, lsr_right]
  · rw [if_pos h1, if_neg h2, if_neg h2, if_pos h1]
  · rw [if_neg h1, if_pos h2, if_pos h2, if_neg h1]
  · rw [if_neg h1, if_neg h2, if_neg h2, if_neg h1]
theorem lsr_fine {a b : Int} (h : Fine a) (k : Fine b) : Fine (lsr a b) := by rcases lsr_is a b with e | e <;> rw [e] <;> assumption
theorem setT_may {n : Int} {ts : List Int} (h : MayD n ts) (p : Nat) {b : Int} (hb : Fine b) : MayD n (setT ts p b) := by
  refine ⟨h.1, h.2.1, by rw [setT_length]; exact h.2.2.1, fun q hq => ?_⟩
  rw [setT_length] at hq
  rw [setT_at _ _ hq]
  split
  · exact lsr_fine (h.2.2.2 q hq) hb
  · exact h.2.2.2 q hq
theorem lesT_may {n : Int} {ts us : List Int} (h : MayD n ts) (k : MayD n us) : MayD n (lesT ts us) := by
  refine ⟨h.1, h.2.1, by rw [lesT_length]; exact h.2.2.1, fun q hq => ?_⟩
  rw [lesT_length] at hq
  rw [lesT_at _ _ hq]
  exact lsr_fine (h.2.2.2 q hq) (k.2.2.2 q (by have := h.2.2.1; have := k.2.2.1; omega))
theorem tops_at {ts : List Int} (h : ∀ p, p < ts.length → ts[p]?.getD 0 ≤ 9223372036854775807) : Tops ts := fun x hx => by
  obtain ⟨p, hp, rfl⟩ := List.mem_iff_getElem.1 hx
  have := h p hp
  rwa [List.getElem?_eq_getElem hp] at this
theorem at_top {ts : List Int} (h : Tops ts) {p : Nat} (hp : p < ts.length) : ts[p]?.getD 0 ≤ 9223372036854775807 := by
  rw [List.getElem?_eq_getElem hp]
  exact h _ (List.getElem_mem hp)
theorem setT_tops {ts : List Int} (h : Tops ts) (p : Nat) (b : Int) : Tops (setT ts p b) := tops_at fun q hq => by
  rw [setT_length] at hq
  rw [setT_at _ _ hq]
  have := at_top h hq
  split
  · exact Int.le_trans (lsr_le _ _).1 this
  · exact this
theorem lesT_tops {ts : List Int} (h : Tops ts) (us : List Int) : Tops (lesT ts us) := tops_at fun q hq => by
  rw [lesT_length] at hq
  rw [lesT_at _ _ hq]
  exact Int.le_trans (lsr_le _ _).1 (at_top h hq)

/-- what is closed of a matrix hangs on its bounds with each clock's own at most 1. -/
theorem tabs_lows {n : Nat} (h0 : 0 < n) {ts us : List Int} (h : lows n ts n = lows n us n) (k : Nat) : tabs n h0 ts k = tabs n h0 us k := by
  induction k with
  | zero => exact h
  | succ k ih =>
    show ovl n k (tabs n h0 ts k) _ = ovl n k (tabs n h0 us k) _
    rw [ih]
theorem lows_same {n : Nat} (h0 : 0 < n) (hn : n ≤ 4) {ts us : List Int} (hl : ts.length = n * n) (hu : us.length = n * n) (h : ∀ i j, i < n → j < n → (if i = j then lsr (tat ts n i i) 1 else tat ts n i j) = if i = j then lsr (tat us n i i) 1 else tat us n i j) : lows n ts n = lows n us n := by
  refine list_ext h0 ((lows_length _ _ _).trans hl) ((lows_length _ _ _).trans hu) fun i j hi hj => ?_
  rw [beg_at hl hn hi hj, beg_at hu hn hi hj]
  exact h i j hi hj
/-- two matrices of which the same is closed. -/
def Like (n : Int) (ts us : List Int) : Prop := MayD n ts ∧ MayD n us ∧ (OkD n ts ↔ OkD n us) ∧ (OkD n ts → clT n ts = clT n us)
theorem like_of {n : Nat} (h0 : 0 < n) (hn : n ≤ 4) {ts us : List Int} (hl : ts.length = n * n) (hu : us.length = n * n) (ht : MayD n ts) (hm : MayD n us) (h : ∀ i j, i < n → j < n → (if i = j then lsr (tat ts n i i) 1 else tat ts n i j) = if i = j then lsr (tat us n i i) 1 else tat us n i j) : Like n ts us := by
  have e := fun k => tabs_lows h0 (lows_same h0 hn hl hu h) k
  refine ⟨ht, hm, ⟨fun ⟨_, _, k⟩ => ⟨hm, by simpa using h0, fun q hq hem => k q hq ?_⟩, fun ⟨_, _, k⟩ => ⟨ht, by simpa using h0, fun q hq hem => k q hq ?_⟩⟩, ?_⟩
  · have := e q
    simp only [Int.toNat_natCast] at hem ⊢
    rwa [this]
  · have := e q
    simp only [Int.toNat_natCast] at hem ⊢
    rwa [← this]
  · intro _; rw [clT_nat h0, clT_nat h0, e]

/-- a bound put into a matrix is a weight more. -/
theorem beg_set {n : Nat} {ts : List Int} (hn : n ≤ 4) (hl : ts.length = n * n) (htop : Tops ts) {x y : Nat} (hx : x < n) (hy : y < n) {b : Int} (hb : b ≤ 9223372036854775807) (i j : Nat) : beg n (setT ts (x * n + y) b) i j = put (beg n ts) x y (cod b) i j := by
  have hl' : (setT ts (x * n + y) b).length = n * n := (setT_length _ _ _).trans hl
  have ht : ∀ i j, i < n → j < n → tat (setT ts (x * n + y) b) n i j = if i = x ∧ j = y then lsr (tat ts n i j) b else tat ts n i j := by
    intro i j hi hj
    unfold tat
    rw [setT_at _ _ (by rw [hl]; exact place_le hn hi hj)]
    by_cases e : x * n + y = i * n + j
    · obtain ⟨rfl, rfl⟩ := place_inj hy hj e
      rw [if_pos rfl, if_pos ⟨rfl, rfl⟩]
    · rw [if_neg e, if_neg (fun h => e (by rw [h.1, h.2]))]
  unfold put
  by_cases hij : i < n ∧ j < n
  · obtain ⟨hi, hj⟩ := hij
    unfold beg
    rw [wts_in hi hj, wts_in hi hj, beg_at hl' hn hi hj, beg_at hl hn hi hj]
    by_cases e : i = j
    · subst e
      rw [if_pos rfl, if_pos rfl, ht i i hi hi]
      by_cases p : i = x ∧ i = y
      · rw [if_pos p, if_pos p, lsr_right]
        exact cod_lsr (Int.le_trans (lsr_le _ _).2 (by decide)) hb
      · rw [if_neg p, if_neg p]
    · rw [if_neg e, if_neg e, ht i j hi hj]
      by_cases p : i = x ∧ j = y
      · rw [if_pos p, if_pos p]
        exact cod_lsr (tat_top htop n i j) hb
      · rw [if_neg p, if_neg p]
  · have e1 : beg n (setT ts (x * n + y) b) i j = none := if_neg hij
    have e2 : beg n ts i j = none := if_neg hij
    rw [e1, e2]
    rw [if_neg (fun h => hij ⟨by omega, by omega⟩)]
/-- a matrix that may be is not empty just if its weights have no way round below 0. -/
theorem okD_good {n : Nat} {ts : List Int} (h0 : 0 < n) (hn : n ≤ 4) (hl : ts.length = n * n) (htop : Tops ts) (h : MayD n ts) : OkD n ts ↔ way.Good (beg n ts) n := by
  refine ⟨fun ⟨_, h0', hne⟩ => good_of h0 hn hl htop h.2.2.2 (fun k hk => hne k (by simpa using hk)), fun g => ⟨h, by simpa using h0, fun k hk => ?_⟩⟩
  rw [show (n : Int).toNat = n from Int.toNat_natCast n] at hk
  show ¬ emp n (tabs n h0 ts k)
  induction k using Nat.strongRecOn with
  | _ k ih =>
    rintro ⟨i, hi, he⟩
    have e := tabs_is h0 hn hl htop h.2.2.2 k hk (fun m hmk => ih m hmk (by omega)) i i hi hi
    have := g k hk i
    rw [← e] at this
    have := (cod_le (by decide) (tat_top (tabs_tops h0 htop k) n i i)).1 (show le (cod 1) _ from this)
    omega
/-- the weights of what is closed. -/
theorem beg_closed {n : Nat} {ts : List Int} (h0 : 0 < n) (hn : n ≤ 4) (hl : ts.length = n * n) (htop : Tops ts) (h : OkD n ts) (i j : Nat) : beg n (tabs n h0 ts n) i j = F (beg n ts) n i j := by
  have hne : ∀ k, k ≤ n → ¬ emp n (tabs n h0 ts k) := fun k hk => h.2.2 k (by simpa using hk)
  by_cases hij : i < n ∧ j < n
  · obtain ⟨hi, hj⟩ := hij
    rw [← tabs_is h0 hn hl htop h.1.2.2.2 n (Nat.le_refl _) (fun m hm => hne m (by omega)) i j hi hj]
    have hl' : (tabs n h0 ts n).length = n * n := (tabs_length _ _ _ _).trans hl
    unfold beg
    rw [wts_in hi hj, beg_at hl' hn hi hj]
    by_cases e : i = j
    · subst e
      rw [if_pos rfl, closed_diag h0 hn hl htop h.1.2.2.2 hne hi]; rfl
    · rw [if_neg e]
  · have e1 : beg n (tabs n h0 ts n) i j = none := if_neg hij
    rw [e1]
    by_cases hi : i < n
    · have hj : ¬ j < n := fun hj => hij ⟨hi, hj⟩
      symm
      unfold beg
      generalize lows n ts n = us
      have : ∀ k, ∀ i, F (wts n us) k i j = none := by
        intro k
        induction k with
        | zero => intro i; exact wts_out2 hj
        | succ k ih =>
          intro i
          show mn (F (wts n us) k i j) (ad (F (wts n us) k i k) (F (wts n us) k k j)) = none
          rw [ih, ih, ad_none]; rfl
      exact this n i
    · exact (F_out n hi).symm
theorem clT_tops {n : Int} {ts : List Int} (htop : Tops ts) : Tops (clT n ts) := by
  unfold clT
  split
  · exact tabs_tops _ htop _
  · intro x hx; cases hx
/-- one and the same is closed of a matrix with a bound more, and of the closed one with that bound. -/
theorem cl_set {n : Nat} {ts : List Int} (h0 : 0 < n) (hn : n ≤ 4) (hl : ts.length = n * n) (htop : Tops ts) (h : OkD n ts) (hc : MayD n (clT n ts)) {x y : Nat} (hx : x < n) (hy : y < n) {b : Int} (hb : Fine b) (hb' : b ≤ 9223372036854775807) : Like n (setT (clT n ts) (x * n + y) b) (setT ts (x * n + y) b) := by
  have hC : clT n ts = tabs n h0 ts n := clT_nat h0 ts
  have htc : Tops (clT n ts) := clT_tops htop
  have hlc : (clT n ts).length = n * n := (clT_length h).trans hl
  have m1 := setT_may hc (x * n + y) hb
  have m2 := setT_may h.1 (x * n + y) hb
  have l1 : (setT (clT n ts) (x * n + y) b).length = n * n := (setT_length _ _ _).trans hlc
  have l2 : (setT ts (x * n + y) b).length = n * n := (setT_length _ _ _).trans hl
  have b1 : beg n (setT (clT n ts) (x * n + y) b) = put (F (beg n ts) n) x y (cod b) := by
    funext i j
    rw [beg_set hn hlc htc hx hy hb']
    have : beg n (clT n ts) = F (beg n ts) n := by
      funext i j
      rw [hC]; exact beg_closed h0 hn hl htop h i j
    rw [this]
  have b2 : beg n (setT ts (x * n + y) b) = put (beg n ts) x y (cod b) := by
    funext i j
    exact beg_set hn hl htop hx hy hb' i j
  have t1 := setT_tops htc (x * n + y) b
  have t2 := setT_tops htop (x * n + y) b
  have ok : OkD n (setT (clT n ts) (x * n + y) b) ↔ OkD n (setT ts (x * n + y) b) := by
    rw [okD_good h0 hn l1 t1 m1, okD_good h0 hn l2 t2 m2, b1, b2]
    exact put_good x y (cod b)
  refine ⟨m1, m2, ok, fun hok => ?_⟩
  rw [clT_nat h0 (setT (clT n ts) _ _), clT_nat h0 (setT ts _ _)]
  refine list_ext h0 ((tabs_length _ _ _ _).trans l1) ((tabs_length _ _ _ _).trans l2) fun i j hi hj => cod_inj ?_
  have g2 := ok.1 hok
  rw [tabs_is h0 hn l1 t1 m1.2.2.2 n (Nat.le_refl _) (fun m hm => hok.2.2 m (by simp; omega)) i j hi hj, tabs_is h0 hn l2 t2 m2.2.2.2 n (Nat.le_refl _) (fun m hm => g2.2.2 m (by simp; omega)) i j hi hj, b1, b2]
  exact put_F x y (cod b) (by rw [← b2]; exact (okD_good h0 hn l2 t2 m2).1 g2) i j
end Go.Proofs.Ytallgbpijndmeaa.dbm
