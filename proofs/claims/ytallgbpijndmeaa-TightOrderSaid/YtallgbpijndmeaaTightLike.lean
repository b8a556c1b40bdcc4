/-
  What the document's own closes and what the program closes is the same; each theorem names its conditions.
-/
import Derived.Test.YtallgbpijndmeaaTightRef2
namespace Go.Proofs.Ytallgbpijndmeaa.tref
open num dbm dref Go.Proofs.Ytallgbpijndmeaa.tight
open bound hiding up
set_option linter.unusedVariables false

theorem all_tat {n a b : Nat} (hn : n ≤ 4) (ha : a < n) (hb : b < n) : tat (allP n (n * n)) n a b = if a = b then 1 else 9223372036854775807 := by
  unfold tat allP
  rw [List.getElem?_map, List.getElem?_range (place_le hn ha hb)]
  have e1 : (a * n + b) / n = a := by rw [Nat.mul_comm, Nat.mul_add_div (by omega), Nat.div_eq_of_lt hb]; rfl
  have e2 : (a * n + b) % n = b := by rw [Nat.mul_comm, Nat.mul_add_mod, Nat.mod_eq_of_lt hb]
  show (if (a * n + b) / n = (a * n + b) % n then (1 : Int) else 9223372036854775807) = _
  rw [e1, e2]
theorem one_tat {n i j a b : Nat} {x : Int} (hn : n ≤ 4) (hi : i < n) (hj : j < n) (ha : a < n) (hb : b < n) : tat (oneT n i j x) n a b = if i = a ∧ j = b then x else if a = b then 1 else 9223372036854775807 := by
  unfold oneT
  rw [tat_set (allP_length _ _) hn hi hj hb ha, all_tat hn ha hb]
theorem les_tat {n a b : Nat} {ts us : List Int} (hl : ts.length = n * n) (hn : n ≤ 4) (ha : a < n) (hb : b < n) : tat (lesT ts us) n a b = lsr (tat ts n a b) (tat us n a b) := by
  unfold tat
  exact lesT_at _ _ (by rw [hl]; exact place_le hn ha hb)
theorem set_tat {n i j a b : Nat} {x : Int} {ts : List Int} (hl : ts.length = n * n) (hn : n ≤ 4) (hi : i < n) (hj : j < n) (ha : a < n) (hb : b < n) : tat (setT ts (i * n + j) x) n a b = if i = a ∧ j = b then lsr (tat ts n a b) x else tat ts n a b := by
  unfold tat
  rw [setT_at _ _ (by rw [hl]; exact place_le hn ha hb)]
  by_cases e : i * n + j = a * n + b
  · obtain ⟨rfl, rfl⟩ := place_inj hj hb e
    rw [if_pos rfl, if_pos ⟨rfl, rfl⟩]
  · rw [if_neg e, if_neg (fun h => e (by rw [h.1, h.2]))]
theorem may_of {n : Nat} {ts : List Int} (h0 : 0 < n) (hn : n ≤ 4) (hl : ts.length = n * n) (h : ∀ a b, a < n → b < n → Fine (tat ts n a b)) : MayD n ts := by
  refine ⟨by omega, by omega, by rw [hl, Int.natCast_mul], fun p hp => ?_⟩
  rw [hl] at hp
  have := h (p / n) (p % n) (Nat.div_lt_of_lt_mul hp) (Nat.mod_lt _ h0)
  unfold tat at this
  rwa [Nat.div_add_mod' p n] at this
theorem one_fine {n i j : Nat} {x : Int} (h0 : 0 < n) (hn : n ≤ 4) (hi : i < n) (hj : j < n) (hx : Fine x) : MayD n (oneT n i j x) := may_of h0 hn (oneT_length _ _ _ _) fun a b ha hb => by
  rw [one_tat hn hi hj ha hb]
  split
  · exact hx
  · split
    · exact .inr ⟨by decide, by decide⟩
    · exact .inl rfl
theorem lsr_top {t : Int} (h : t ≤ 9223372036854775807) : lsr t 9223372036854775807 = t := by unfold lsr; rw [if_neg (by omega)]

/-- Set's. -/
theorem like_one {n i j : Nat} {x : Int} {ts : List Int} (h0 : 0 < n) (hn : n ≤ 4) (hl : ts.length = n * n) (htop : Tops ts) (ht : MayD n ts) (hi : i < n) (hj : j < n) (hx : Fine x) : Like n (lesT ts (oneT n i j x)) (setT ts (i * n + j) x) := by
  refine like_of h0 hn ((lesT_length _ _).trans hl) ((setT_length _ _ _).trans hl) (lesT_may ht (one_fine h0 hn hi hj hx)) (setT_may ht _ hx) fun a b ha hb => ?_
  rw [les_tat hl hn ha hb, les_tat hl hn ha ha, set_tat hl hn hi hj ha hb, set_tat hl hn hi hj ha ha, one_tat hn hi hj ha hb, one_tat hn hi hj ha ha]
  have t1 := tat_top htop n a b
  by_cases e : a = b
  · subst e
    rw [if_pos rfl, if_pos rfl, if_pos rfl]
    by_cases p : i = a ∧ j = a
    · rw [if_pos p, if_pos p]
    · rw [if_neg p, if_neg p, lsr_assoc, lsr_self]
  · rw [if_neg e, if_neg e, if_neg e]
    by_cases p : i = a ∧ j = b
    · rw [if_pos p, if_pos p]
    · rw [if_neg p, if_neg p, lsr_top t1]

theorem mk_fine {c : Int} (h : In c) (s : Bool) : Fine (mk c s) := .inr (by rw [mk_half]; exact h)
theorem hiB_fine {hi : Int} {hs op : Bool} (h : op = false → In hi) : Fine (hiB hi hs op) := by
  unfold hiB
  cases op with
  | true => exact .inl rfl
  | false => exact mk_fine (h rfl) hs
theorem fine_top {b : Int} (h : Fine b) : b ≤ 9223372036854775807 := by
  rcases h with rfl | h
  · exact Int.le_refl _
  · omega
theorem fine_low {b : Int} (h : Fine b) : -9223372036854775808 ≤ b := by
  rcases h with rfl | h
  · decide
  · omega
/-- Between's. -/
theorem like_two {n i : Nat} {x y : Int} {ts : List Int} (h0 : 0 < n) (hn : n ≤ 4) (hl : ts.length = n * n) (htop : Tops ts) (ht : MayD n ts) (hi : i < n) (hx : Fine x) (hy : Fine y) : Like n (lesT ts (lesT (oneT n 0 i x) (oneT n i 0 y))) (setT (setT ts (0 * n + i) x) (i * n + 0) y) := by
  have l2 : (setT ts (0 * n + i) x).length = n * n := (setT_length _ _ _).trans hl
  refine like_of h0 hn ((lesT_length _ _).trans hl) ((setT_length _ _ _).trans l2) (lesT_may ht (lesT_may (one_fine h0 hn h0 hi hx) (one_fine h0 hn hi h0 hy))) (setT_may (setT_may ht _ hx) _ hy) fun a b ha hb => ?_
  have x1 := fine_top hx
  have y1 := fine_top hy
  rw [les_tat hl hn ha hb, les_tat hl hn ha ha, set_tat l2 hn hi h0 ha hb, set_tat l2 hn hi h0 ha ha, set_tat hl hn h0 hi ha hb, set_tat hl hn h0 hi ha ha, les_tat (oneT_length _ _ _ _) hn ha hb, les_tat (oneT_length _ _ _ _) hn ha ha, one_tat hn h0 hi ha hb, one_tat hn h0 hi ha ha, one_tat hn hi h0 ha hb, one_tat hn hi h0 ha ha]
  have t1 := tat_top htop n a b
  have t2 := tat_top htop n a a
  generalize tat ts n a a = s at t2
  generalize tat ts n a b = t at t1
  by_cases e : a = b
  · subst e
    rw [if_pos rfl, if_pos rfl, if_pos rfl]
    by_cases p : 0 = a ∧ i = a <;> by_cases q : i = a ∧ 0 = a
    · rw [if_pos p, if_pos q, if_pos q, if_pos p, lsr_assoc s x y]
    · exact (q ⟨p.2, p.1⟩).elim
    · exact (p ⟨q.2, q.1⟩).elim
    · rw [if_neg p, if_neg q, if_neg q, if_neg p, lsr_self, lsr_assoc, lsr_self]
  · rw [if_neg e, if_neg e, if_neg e]
    by_cases p : 0 = a ∧ i = b <;> by_cases q : i = a ∧ 0 = b
    · rw [if_pos p, if_pos q, if_pos q, if_pos p, lsr_assoc]
    · rw [if_pos p, if_neg q, if_neg q, if_pos p, lsr_top x1]
    · rw [if_neg p, if_pos q, if_pos q, if_neg p, lsr_comm _ y, lsr_top y1]
    · rw [if_neg p, if_neg q, if_neg q, if_neg p, lsr_self, lsr_top t1]

/-- answers of two of which the same is closed. -/
theorem Ans.like {n : Int} {ts us vs : List Int} {na f : Int} (h : Ans n ts na vs f) (k : Like n ts us) : Ans n us na vs f := by
  obtain ⟨h1, h2, h3, h4⟩ := k
  rcases h with ⟨h, rfl, rfl, rfl⟩ | ⟨h, rfl, rfl, rfl⟩
  · exact .inl ⟨fun k => h (h3.2 k), rfl, rfl, by rw [if_pos h1, if_pos h2]⟩
  · exact .inr ⟨h3.1 h, rfl, h4 h, rfl⟩
end Go.Proofs.Ytallgbpijndmeaa.tref
