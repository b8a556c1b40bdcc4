/-
  The tables that come of a matrix, as weights of ways over its clocks: what is closed, what is lesser. No program's run in this text; each theorem names its conditions.
-/
import Derived.Test.YtlagnbbbokgdfaaDbmClose
import Derived.Test.YtlagnbbbokgdfaaDbmWay
namespace Go.Proofs.Ytlagnbbbokgdfaa.dbm
open num way
open bound hiding up
set_option linter.unusedVariables false

/-- a bound's weight. -/
def cod (b : Int) : B := if b = 9223372036854775807 then none else some b
theorem cod_none : cod 9223372036854775807 = none := if_pos rfl
theorem cod_some {b : Int} (h : b ≠ 9223372036854775807) : cod b = some b := if_neg h
theorem cod_le {a b : Int} (ha : a ≤ 9223372036854775807) (hb : b ≤ 9223372036854775807) : way.le (cod a) (cod b) ↔ a ≤ b := by
  by_cases h1 : b = 9223372036854775807
  · subst h1; rw [cod_none]; exact ⟨fun _ => ha, fun _ => le_none _⟩
  · rw [cod_some h1]
    by_cases h2 : a = 9223372036854775807
    · subst h2; rw [cod_none]; exact ⟨fun h => h.elim, fun h => by omega⟩
    · rw [cod_some h2]; exact Iff.rfl
theorem cod_inj {a b : Int} (h : cod a = cod b) : a = b := by
  by_cases h1 : a = 9223372036854775807
  · by_cases h2 : b = 9223372036854775807
    · rw [h1, h2]
    · subst h1; rw [cod_none, cod_some h2] at h; cases h
  · by_cases h2 : b = 9223372036854775807
    · subst h2; rw [cod_none, cod_some h1] at h; cases h
    · rw [cod_some h1, cod_some h2] at h; injection h
theorem cod_lsr {a b : Int} (ha : a ≤ 9223372036854775807) (hb : b ≤ 9223372036854775807) : cod (lsr a b) = mn (cod a) (cod b) := by
  unfold lsr mn
  by_cases h : b < a
  · rw [if_pos h, if_neg (fun k => by have := (cod_le ha hb).1 k; omega)]
  · rw [if_neg h, if_pos ((cod_le ha hb).2 (by omega))]
/-- a bound whose sums may be. -/
def Rng (a : Int) : Prop := a = 9223372036854775807 ∨ (-1152921504606846976 ≤ a / 2 ∧ a / 2 ≤ 1152921504606846976)
theorem mk_sum (a b : Int) : mk (a / 2 + b / 2) (bS a || bS b) = 2 * (a / 2 + b / 2) + min (a % 2) (b % 2) := by
  unfold mk bS
  by_cases h1 : a % 2 = 0 <;> by_cases h2 : b % 2 = 0 <;> simp [h1, h2] <;> omega
theorem rng_sum {a b : Int} (ha : Rng a) (hb : Rng b) : cod (sumV a b) = ad (cod a) (cod b) ∧ sumE a b = 0 := by
  have good : ∀ {x : Int}, Rng x → x ≠ 9223372036854775807 → May (x / 2) := fun h hn => by
    rcases h with h | h
    · exact (hn h).elim
    · unfold May; omega
  have nb : ∀ {x : Int}, Rng x → ¬ badB x := fun h k => k.2 (good h k.1)
  by_cases h : a = 9223372036854775807 ∨ b = 9223372036854775807
  · obtain ⟨e1, e2⟩ := sum_none (fun k => k.elim (nb ha) (nb hb)) h
    rw [e1, cod_none]
    refine ⟨?_, e2⟩
    rcases h with rfl | rfl
    · rw [cod_none, none_ad]
    · rw [cod_none, ad_none]
  · have h1 : a ≠ 9223372036854775807 := fun k => h (.inl k)
    have h2 : b ≠ 9223372036854775807 := fun k => h (.inr k)
    have m1 := good ha h1
    have m2 := good hb h2
    have r1 : -1152921504606846976 ≤ a / 2 ∧ a / 2 ≤ 1152921504606846976 := ha.resolve_left h1
    have r2 : -1152921504606846976 ≤ b / 2 ∧ b / 2 ≤ 1152921504606846976 := hb.resolve_left h2
    have m3 : May (a / 2 + b / 2) := by unfold May; omega
    obtain ⟨e1, e2⟩ := sum_ok m1 m2 m3
    refine ⟨?_, e2⟩
    have hlt := may_hi (mk_may m3 (bS a || bS b))
    rw [e1, cod_some (by omega), cod_some h1, cod_some h2, ad_some, mk_sum]
theorem rng_wi {a : Int} {k : Int} (hk : k ≤ 4) (h : Wi 288230376151711744 k (cod a)) : Rng a := by
  by_cases h1 : a = 9223372036854775807
  · exact .inl h1
  · rw [cod_some h1] at h
    obtain ⟨h2, h3⟩ := h
    exact .inr ⟨by omega, by omega⟩

/-- a matrix' weights. -/
def wts (n : Nat) (us : List Int) : Tab := fun i j => if i < n ∧ j < n then cod (tat us n i j) else none
theorem wts_in {n : Nat} {us : List Int} {i j : Nat} (hi : i < n) (hj : j < n) : wts n us i j = cod (tat us n i j) := if_pos ⟨hi, hj⟩
theorem wts_out {n : Nat} {us : List Int} {i j : Nat} (h : ¬ i < n) : wts n us i j = none := if_neg fun k => h k.1
theorem wts_out2 {n : Nat} {us : List Int} {i j : Nat} (h : ¬ j < n) : wts n us i j = none := if_neg fun k => h k.2
theorem F_out {n : Nat} {us : List Int} (k : Nat) {i j : Nat} (h : ¬ i < n) : F (wts n us) k i j = none := by
  obtain ⟨l, _, e⟩ := F_is (wts n us) k i j
  rw [← e]
  cases l with
  | nil => exact wts_out h
  | cons m l => show ad (wts n us i m) _ = none; rw [wts_out h, none_ad]

/-! places -/
theorem place_inj {n i j i' j' : Nat} (hj : j < n) (hj' : j' < n) (h : i * n + j = i' * n + j') : i = i' ∧ j = j' := by
  have e1 : (i * n + j) / n = i := by rw [Nat.mul_comm, Nat.mul_add_div (by omega), Nat.div_eq_of_lt hj]; rfl
  have e2 : (i' * n + j') / n = i' := by rw [Nat.mul_comm, Nat.mul_add_div (by omega), Nat.div_eq_of_lt hj']; rfl
  have e : i = i' := by rw [← e1, ← e2, h]
  exact ⟨e, by subst e; omega⟩
theorem tat_set {n i j i' j' : Nat} {us : List Int} {v : Int} (hl : us.length = n * n) (hn : n ≤ 4) (hi : i < n) (hj : j < n) (hj' : j' < n) (hi' : i' < n) : tat (us.set (i * n + j) v) n i' j' = if i = i' ∧ j = j' then v else tat us n i' j' := by
  unfold tat
  rw [List.getElem?_set]
  by_cases h : i * n + j = i' * n + j'
  · rw [if_pos h, if_pos (place_inj hj hj' h), if_pos (by rw [hl]; exact place_le hn hi hj)]
    rfl
  · rw [if_neg h, if_neg (fun k => h (by rw [k.1, k.2]))]
theorem tat_lows {n : Nat} {ts : List Int} (hl : ts.length = n * n) (hn : n ≤ 4) (k : Nat) (hk : k ≤ n) {i j : Nat} (hi : i < n) (hj : j < n) : tat (lows n ts k) n i j = if i = j ∧ i < k then lsr (tat ts n i i) 1 else tat ts n i j := by
  induction k with
  | zero => rw [if_neg (fun h => by omega)]; rfl
  | succ k ih =>
    have hll : (lows n ts k).length = n * n := (lows_length n ts k).trans hl
    have ihk : tat (lows n ts k) n k k = tat ts n k k := by
      have : ∀ k' ≤ k, tat (lows n ts k') n k k = tat ts n k k := by
        intro k'
        induction k' with
        | zero => intro _; rfl
        | succ k' ih' =>
          intro h'
          show tat ((lows n ts k').set _ _) n k k = _
          rw [tat_set ((lows_length n ts k').trans hl) hn (by omega) (by omega) (by omega) (by omega), if_neg (fun e => by omega)]
          exact ih' (by omega)
      exact this k (Nat.le_refl _)
    show tat ((lows n ts k).set (k * n + k) (lsr (tat (lows n ts k) n k k) 1)) n i j = _
    rw [tat_set hll hn (by omega) (by omega) hj hi, ihk]
    by_cases h : k = i ∧ k = j
    · obtain ⟨rfl, rfl⟩ := h
      rw [if_pos ⟨rfl, rfl⟩, if_pos ⟨rfl, by omega⟩]
    · rw [if_neg h, ih (by omega)]
      by_cases h2 : i = j ∧ i < k
      · rw [if_pos h2, if_pos ⟨h2.1, by omega⟩]
      · rw [if_neg h2, if_neg (fun e => by
          by_cases e3 : i = k
          · exact h ⟨e3.symm, by rw [← e.1]; exact e3.symm⟩
          · exact h2 ⟨e.1, by omega⟩)]
theorem nth_of {n k : Nat} (h : 0 < n) (hk : k < n * n) : (nth n h k).1.1 * n + (nth n h k).1.2 = k := by
  have : k / n < n := (Nat.div_lt_iff_lt_mul h).2 hk
  show k / n % n * n + k % n = k
  rw [Nat.mod_eq_of_lt this, Nat.mul_comm]
  exact Nat.div_add_mod k n
/-- what comes of the ways over one clock, whose own bound is 1, where sums may be. -/
theorem tat_ovl {n k : Nat} (h0 : 0 < n) (hn : n ≤ 4) (hk : k < n) {us : List Int} (hl : us.length = n * n) (hr : ∀ i j, i < n → j < n → Rng (tat us n i j)) (h1 : tat us n k k = 1) {i j : Nat} (hi : i < n) (hj : j < n) :
    tat (ovl n k us (upto (nth n h0) (n * n))) n i j = lsr (tat us n i j) (sumV (tat us n i k) (tat us n k j)) := by
  have rk : ∀ x, Rng x → sumV x 1 = x ∧ sumV 1 x = x := fun x hx => by
    have e1 := (rng_sum hx (.inr (by omega) : Rng 1)).1
    have e2 := (rng_sum (.inr (by omega) : Rng 1) hx).1
    have c1 : cod 1 = one := cod_some (by decide)
    rw [c1, ad_one] at e1
    rw [c1, one_ad] at e2
    exact ⟨cod_inj e1, cod_inj e2⟩
  have lsr_self : ∀ x : Int, lsr x x = x := fun x => by unfold lsr; rw [if_neg (by omega)]
  have col : ∀ i, i < n → lsr (tat us n i k) (sumV (tat us n i k) (tat us n k k)) = tat us n i k := fun i hi => by rw [h1, (rk _ (hr i k hi hk)).1, lsr_self]
  have row : ∀ j, j < n → lsr (tat us n k j) (sumV (tat us n k k) (tat us n k j)) = tat us n k j := fun j hj => by rw [h1, (rk _ (hr k j hk hj)).2, lsr_self]
  have main : ∀ q, q ≤ n * n → ∀ i j, i < n → j < n → tat (ovl n k us (upto (nth n h0) q)) n i j = if i * n + j < q then lsr (tat us n i j) (sumV (tat us n i k) (tat us n k j)) else tat us n i j := by
    intro q
    induction q with
    | zero => intro _ i j _ _; rw [if_neg (by omega)]; rfl
    | succ q ih =>
      intro hq i j hi hj
      have ihq := ih (by omega)
      rw [upto_succ, ovl_snoc]
      have hx1 := (nth n h0 q).2.1
      have hx2 := (nth n h0 q).2.2
      have hx3 := nth_of h0 (show q < n * n by omega)
      generalize (nth n h0 q).1 = x at hx1 hx2 hx3 ⊢
      obtain ⟨a, b⟩ := x
      dsimp only at hx1 hx2 hx3
      unfold ovp
      dsimp only
      rw [tat_set ((ovl_length _ _ _ _).trans hl) hn hx1 hx2 hj hi]
      by_cases h : a = i ∧ b = j
      · obtain ⟨rfl, rfl⟩ := h
        rw [if_pos ⟨rfl, rfl⟩, if_pos (by omega), ihq a b hi hj, if_neg (by omega)]
        have e1 : tat (ovl n k us (upto (nth n h0) q)) n a k = tat us n a k := by
          rw [ihq a k hi hk]
          split
          · exact col a hi
          · rfl
        have e2 : tat (ovl n k us (upto (nth n h0) q)) n k b = tat us n k b := by
          rw [ihq k b hk hj]
          split
          · exact row b hj
          · rfl
        rw [e1, e2]
      · rw [if_neg h, ihq i j hi hj]
        by_cases h2 : i * n + j < q
        · rw [if_pos h2, if_pos (by omega)]
        · rw [if_neg h2, if_neg (fun k' => h (place_inj hx2 hj (by omega)))]
  rw [main (n * n) (Nat.le_refl _) i j hi hj, if_pos (place_le hn hi hj)]

/-- the weights that a matrix begins with. -/
def beg (n : Nat) (ts : List Int) : Tab := wts n (lows n ts n)
theorem fine_at {n : Nat} {ts : List Int} (hl : ts.length = n * n) (hn : n ≤ 4) (hf : ∀ p, p < ts.length → Fine (ts[p]?.getD 0)) {i j : Nat} (hi : i < n) (hj : j < n) : Fine (tat ts n i j) := hf _ (by rw [hl]; exact place_le hn hi hj)
theorem beg_at {n : Nat} {ts : List Int} (hl : ts.length = n * n) (hn : n ≤ 4) {i j : Nat} (hi : i < n) (hj : j < n) : tat (lows n ts n) n i j = if i = j then lsr (tat ts n i i) 1 else tat ts n i j := by
  rw [tat_lows hl hn n (Nat.le_refl _) hi hj]
  by_cases h : i = j
  · rw [if_pos ⟨h, hi⟩, if_pos h]
  · rw [if_neg (fun k => h k.1), if_neg h]
theorem wi_fine {b : Int} (h : Fine b) : Wi 288230376151711744 1 (cod b) := by
  by_cases h1 : b = 9223372036854775807
  · rw [h1, cod_none]; trivial
  · rw [cod_some h1]
    have := h.resolve_left h1
    exact ⟨by omega, by omega⟩
theorem fine_lsr {b : Int} (h : Fine b) : Fine (lsr b 1) := by
  unfold lsr
  split
  · exact .inr (by omega)
  · exact h
theorem beg_wi {n : Nat} {ts : List Int} (hl : ts.length = n * n) (hn : n ≤ 4) (hf : ∀ p, p < ts.length → Fine (ts[p]?.getD 0)) (i j : Nat) : Wi 288230376151711744 1 (beg n ts i j) := by
  unfold beg
  by_cases hi : i < n
  · by_cases hj : j < n
    · rw [wts_in hi hj, beg_at hl hn hi hj]
      split
      · exact wi_fine (fine_lsr (fine_at hl hn hf hi hi))
      · exact wi_fine (fine_at hl hn hf hi hj)
    · rw [wts_out2 hj]; trivial
  · rw [wts_out hi]; trivial
theorem beg_one {n : Nat} {ts : List Int} (hl : ts.length = n * n) (hn : n ≤ 4) (htop : Tops ts) {i : Nat} (hi : i < n) : way.le (beg n ts i i) one := by
  unfold beg
  rw [wts_in hi hi, beg_at hl hn hi hi, if_pos rfl]
  have h1 := lsr_le (tat ts n i i) 1
  exact (cod_le (by omega) (by omega)).2 h1.2

section
variable {n : Nat} (h0 : 0 < n) {ts : List Int}
theorem pos_of (hn : n ≤ 4) (htop : Tops ts) {k : Nat} (hne : ¬ emp n (tabs n h0 ts k)) (he : ∀ i j, i < n → j < n → cod (tat (tabs n h0 ts k) n i j) = F (beg n ts) k i j) : Pos (F (beg n ts) k) := by
  intro i
  by_cases hi : i < n
  · rw [← he i i hi hi]
    have h1 : 1 ≤ tat (tabs n h0 ts k) n i i := Decidable.byContradiction fun k' => hne ⟨i, hi, by omega⟩
    exact (cod_le (by decide) (tat_top (tabs_tops h0 htop k) n i i)).2 h1
  · unfold beg
    rw [F_out k hi]
    exact le_none _
/-- the tables are those of the ways, as long as none is empty. -/
theorem tabs_is (hn : n ≤ 4) (hl : ts.length = n * n) (htop : Tops ts) (hf : ∀ p, p < ts.length → Fine (ts[p]?.getD 0)) :
    ∀ k, k ≤ n → (∀ m, m < k → ¬ emp n (tabs n h0 ts m)) → ∀ i j, i < n → j < n → cod (tat (tabs n h0 ts k) n i j) = F (beg n ts) k i j := by
  intro k
  induction k using Nat.strongRecOn with
  | _ k ih =>
    cases k with
    | zero =>
      intro _ _ i j hi hj
      exact (wts_in hi hj).symm
    | succ k =>
      intro hk hne i j hi hj
      have ihk := ih k (by omega) (by omega) (fun m hm => hne m (by omega))
      have hg : way.Good (beg n ts) k := fun m hm => pos_of h0 hn htop (hne m (by omega)) (ih m (by omega) (by omega) (fun m' hm' => hne m' (by omega)))
      have hlk : (tabs n h0 ts k).length = n * n := (tabs_length n h0 ts k).trans hl
      have hr : ∀ i j, i < n → j < n → Rng (tat (tabs n h0 ts k) n i j) := fun i j hi hj => rng_wi (k := k + 1) (by omega) (by rw [ihk i j hi hj]; exact F_within (by decide) (beg_wi hl hn hf) hg i j)
      have hkk : k < n := by omega
      have h1 : tat (tabs n h0 ts k) n k k = 1 := by
        have e1 : way.le (cod (tat (tabs n h0 ts k) n k k)) one := by rw [ihk k k hkk hkk]; exact le_trans (F_le _ _ _ _) (beg_one hl hn htop hkk)
        have e2 : way.le one (cod (tat (tabs n h0 ts k) n k k)) := by rw [ihk k k hkk hkk]; exact hg k (Nat.le_refl _) k
        exact cod_inj ((le_antisymm e1 e2).trans (cod_some (by decide)).symm)
      show cod (tat (ovl n k (tabs n h0 ts k) (upto (nth n h0) (n * n))) n i j) = ov (F (beg n ts) k) k i j
      rw [tat_ovl h0 hn hkk hlk hr h1 hi hj, cod_lsr (tat_top (tabs_tops h0 htop k) n i j) (sum_top _ _), (rng_sum (hr i k hi hkk) (hr k j hkk hj)).1, ihk i j hi hj, ihk i k hi hkk, ihk k j hkk hj]
      rfl
theorem good_of (hn : n ≤ 4) (hl : ts.length = n * n) (htop : Tops ts) (hf : ∀ p, p < ts.length → Fine (ts[p]?.getD 0)) (hne : ∀ k, k ≤ n → ¬ emp n (tabs n h0 ts k)) : way.Good (beg n ts) n := fun m hm => pos_of h0 hn htop (hne m hm) (tabs_is h0 hn hl htop hf m hm (fun m' hm' => hne m' (by omega)))

/-! what is closed -/
theorem closed_diag (hn : n ≤ 4) (hl : ts.length = n * n) (htop : Tops ts) (hf : ∀ p, p < ts.length → Fine (ts[p]?.getD 0)) (hne : ∀ k, k ≤ n → ¬ emp n (tabs n h0 ts k)) {i : Nat} (hi : i < n) : tat (tabs n h0 ts n) n i i = 1 := by
  have hg := good_of h0 hn hl htop hf hne
  have he := tabs_is h0 hn hl htop hf n (Nat.le_refl _) (fun m hm => hne m (by omega)) i i hi hi
  have e1 : way.le (cod (tat (tabs n h0 ts n) n i i)) one := by rw [he]; exact le_trans (F_le _ _ _ _) (beg_one hl hn htop hi)
  have e2 : way.le one (cod (tat (tabs n h0 ts n) n i i)) := by rw [he]; exact hg n (Nat.le_refl _) i
  exact cod_inj ((le_antisymm e1 e2).trans (cod_some (by decide)).symm)
/-- the sum of two bounds that are not too great, or that is answered. -/
theorem closed_tri (hn : n ≤ 4) (hl : ts.length = n * n) (htop : Tops ts) (hf : ∀ p, p < ts.length → Fine (ts[p]?.getD 0)) (hne : ∀ k, k ≤ n → ¬ emp n (tabs n h0 ts k)) {i j m : Nat} (hi : i < n) (hj : j < n) (hm : m < n)
    (hs : sumE (tat (tabs n h0 ts n) n i m) (tat (tabs n h0 ts n) n m j) = 0) : tat (tabs n h0 ts n) n i j ≤ sumV (tat (tabs n h0 ts n) n i m) (tat (tabs n h0 ts n) n m j) := by
  have hg := good_of h0 hn hl htop hf hne
  have he := tabs_is h0 hn hl htop hf n (Nat.le_refl _) (fun m hm => hne m (by omega))
  have ht := good_tri hg m hm i j
  rw [← he i j hi hj, ← he i m hi hm, ← he m j hm hj] at ht
  have htp := fun a b => tat_top (tabs_tops h0 htop n) n a b
  generalize tat (tabs n h0 ts n) n i m = x at hs ht ⊢
  generalize tat (tabs n h0 ts n) n m j = y at hs ht ⊢
  rcases sum_two hs with ⟨_, _, _, e⟩ | ⟨mx, my, ms, e⟩
  · rw [e]; exact htp i j
  · have hx := may_hi mx
    have hy := may_hi my
    have hlt := may_hi (mk_may ms (bS x || bS y))
    rw [e]
    rw [cod_some (by omega : x ≠ 9223372036854775807), cod_some (by omega : y ≠ 9223372036854775807), ad_some, ← mk_sum] at ht
    have c : some (mk (x / 2 + y / 2) (bS x || bS y)) = cod (mk (x / 2 + y / 2) (bS x || bS y)) := (cod_some (by omega)).symm
    rw [c] at ht
    exact (cod_le (htp i j) (by omega)).1 ht
/-- it is nowhere greater. -/
theorem closed_le (hn : n ≤ 4) (hl : ts.length = n * n) (htop : Tops ts) (hf : ∀ p, p < ts.length → Fine (ts[p]?.getD 0)) (hne : ∀ k, k ≤ n → ¬ emp n (tabs n h0 ts k)) {i j : Nat} (hi : i < n) (hj : j < n) : tat (tabs n h0 ts n) n i j ≤ tat ts n i j := by
  have he := tabs_is h0 hn hl htop hf n (Nat.le_refl _) (fun m hm => hne m (by omega)) i j hi hj
  have h1 : way.le (cod (tat (tabs n h0 ts n) n i j)) (cod (tat (lows n ts n) n i j)) := by rw [he]; exact le_trans (F_le _ _ _ _) (by unfold beg; rw [wts_in hi hj]; exact le_refl _)
  have h2 := (cod_le (tat_top (tabs_tops h0 htop n) n i j) (tat_top (lows_tops htop n) n i j)).1 h1
  rw [beg_at hl hn hi hj] at h2
  by_cases h : i = j
  · subst h
    rw [if_pos rfl] at h2
    exact Int.le_trans h2 (lsr_le _ _).1
  · rwa [if_neg h] at h2
end
end Go.Proofs.Ytlagnbbbokgdfaa.dbm
