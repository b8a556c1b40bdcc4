/-
  The document's own answers of layer 5, and that what they close is what the program closes; each theorem names its conditions.
-/
import Derived.Test.YthljhijcmdnonaaDoorTightB
namespace Go.Proofs.YthljhijcmdnonaaDoor.tref
open Go.ChangeShapes Go.WideShapes Go.ChangeAt Go.RowKit num dbm dref Go.Proofs.YthljhijcmdnonaaDoor.tight
open bound hiding up
set_option linter.unusedVariables false
set_option linter.unusedSimpArgs false

/-- the first k of the lesser ones. -/
def lesU (ts us : List Int) (k : Nat) : List Int := (List.range ts.length).map fun p => if p < k then lsr (ts[p]?.getD 0) (us[p]?.getD 0) else ts[p]?.getD 0
theorem lesU_length (ts us : List Int) (k : Nat) : (lesU ts us k).length = ts.length := by simp [lesU]
theorem lesU_at (ts us : List Int) (k : Nat) {p : Nat} (h : p < ts.length) : (lesU ts us k)[p]?.getD 0 = if p < k then lsr (ts[p]?.getD 0) (us[p]?.getD 0) else ts[p]?.getD 0 := by
  unfold lesU
  rw [List.getElem?_map, List.getElem?_range h]; rfl
theorem lesU_zero (ts us : List Int) : lesU ts us 0 = ts := list_at (lesU_length _ _ _) fun p hp => by
  rw [lesU_length] at hp
  rw [lesU_at _ _ _ hp, if_neg (by omega)]
theorem lesU_full (ts us : List Int) : lesU ts us ts.length = lesT ts us := list_at (by rw [lesU_length, lesT_length]) fun p hp => by
  rw [lesU_length] at hp
  rw [lesU_at _ _ _ hp, if_pos hp, lesT_at _ _ hp]
theorem lesU_set (ts us : List Int) {k : Nat} (h : us[k]?.getD 0 < ts[k]?.getD 0) : lesU ts us (k + 1) = (lesU ts us k).set k (us[k]?.getD 0) := list_at (by rw [List.length_set, lesU_length, lesU_length]) fun p hp => by
  rw [lesU_length] at hp
  rw [lesU_at _ _ _ hp, List.getElem?_set]
  by_cases e : k = p
  · subst e
    rw [if_pos (by omega), if_pos rfl, lesU_length, if_pos hp]
    exact if_pos h
  · rw [if_neg e, lesU_at _ _ _ hp]
    by_cases c : p < k
    · rw [if_pos (by omega), if_pos c]
    · rw [if_neg (by omega), if_neg c]
theorem lesU_same (ts us : List Int) {k : Nat} (h : ¬ us[k]?.getD 0 < ts[k]?.getD 0) : lesU ts us (k + 1) = lesU ts us k := list_at (by rw [lesU_length, lesU_length]) fun p hp => by
  rw [lesU_length] at hp
  rw [lesU_at _ _ _ hp, lesU_at _ _ _ hp]
  by_cases e : p = k
  · subst e
    rw [if_pos (by omega), if_neg (by omega)]
    exact if_neg h
  · by_cases c : p < k
    · rw [if_pos (by omega), if_pos c]
    · rw [if_neg (by omega), if_neg c]

/-- what lies there while the lesser ones are taken. -/
def LesI (n m : Int) (c pff dap len g cc B : Nat) (ts us : List Int) (k : Nat) (w W : World) : Prop :=
  lies.Lies W (w.heap.size + 1) 58 #[.int .i64 m, .slice (some ⟨c, pff, none⟩) len dap] ∧ lies.Lies W (w.heap.size + 1 + 1) 58 #[.int .i64 0, .slice none 0 0] ∧ lies.Lies W B 58 #[.int .i64 n, .slice (some ⟨g, 0, none⟩) len cc] ∧ W.ownsRow (w.heap.size + 1 + 1 + 1) 29 1 (.slice (some ⟨g, 0, none⟩) len cc) len ((lesU ts us k).map (Value.int .i64)) ∧ Below w.heap.size w W
theorem own_call {W X : World} {B len : Nat} {v : Value} {xs : List Value} (h : W.ownsRow B 29 1 v len xs) (k : Below W.heap.size W X) : X.ownsRow B 29 1 v len xs :=
  h.kept (row := none) ⟨k.os, k.tape, k.output, k.size, fun i hi _ => k.block i hi⟩ (by cases v.ownBlock <;> simp)
theorem LesI.below {n m : Int} {c pff dap len g cc B : Nat} {ts us : List Int} {k : Nat} {w W X : World} (h : LesI n m c pff dap len g cc B ts us k w W) (j : Below W.heap.size W X) : LesI n m c pff dap len g cc B ts us k w X :=
  ⟨lies.on_call h.1 j, lies.on_call h.2.1 j, lies.on_call h.2.2.1 j, own_call h.2.2.2.1 j, h.2.2.2.2.trans (j.mono h.2.2.2.2.size)⟩
theorem LesI.drawn {n m : Int} {c pff dap len g cc B : Nat} {ts us : List Int} {k : Nat} {w W : World} (h : LesI n m c pff dap len g cc B ts us k w W) (q : Nat) : LesI n m c pff dap len g cc B ts us k w (W.drewN q) := h.below (bound.drawn (Below.refl _ _) q)
end Go.Proofs.YthljhijcmdnonaaDoor.tref

namespace Go.Proofs.YthljhijcmdnonaaDoor.tref
open Go.ChangeShapes Go.WideShapes Go.ChangeAt Go.RowKit num dbm dref Go.Proofs.YthljhijcmdnonaaDoor.tight
open bound hiding up
set_option linter.unusedVariables false
set_option linter.unusedSimpArgs false

/-- the matrix with one bound alone. -/
def oneT (n i j : Nat) (x : Int) : List Int := (allP n (n * n)).set (i * n + j) x
theorem oneT_length (n i j : Nat) (x : Int) : (oneT n i j x).length = n * n := by unfold oneT; rw [List.length_set, allP_length]
/-- what Common answers, of what it closes. -/
def Comm (n : Nat) (L : List Int) (w : World) (e : Ending) (w' : World) : Prop := Below w.heap.size w w' ∧
  ((¬ OkD n L ∧ e = .returned (.tuple #[.agg #[.int .i64 0, .slice none 0 0], .bool false])) ∨
   (OkD n L ∧ ∃ a l c, e = .returned (.tuple #[.agg #[.int .i64 n, .slice a l c], .bool true]) ∧ w'.ownsRow w.heap.size 29 1 (.slice a l c) (clT n L).length ((clT n L).map (Value.int .i64))))
end Go.Proofs.YthljhijcmdnonaaDoor.tref

namespace Go.Proofs.YthljhijcmdnonaaDoor.tref
open num dbm dref Go.Proofs.YthljhijcmdnonaaDoor.tight
open bound hiding up
set_option linter.unusedVariables false

theorem all_tat {n a b : Nat} (hn : n ≤ 4) (ha : a < n) (hb : b < n) : tat (allP n (n * n)) n a b = if a = b then 1 else 9223372036854775807 := by
  unfold tat allP
  rw [List.getElem?_map, List.getElem?_range (place_le hn ha hb)]
  have e1 : (a * n + b) / n = a := by rw [Nat.mul_comm, Nat.mul_add_div (by omega), Nat.div_eq_of_lt hb]; rfl
  have e2 : (a * n + b) % n = b := by rw [Nat.mul_comm, Nat.mul_add_mod, Nat.mod_eq_of_lt hb]
  show (if (a * n + b) / n = (a * n + b) % n then (1 : Int) else 9223372036854775807) = _
  rw [e1, e2]
theorem one_tat {n i j a b : Nat} {x : Int} (hn : n ≤ 4) (hi : i < n) (hj : j < n) (ha : a < n) (hb : b < n) : tat (oneT n i j x) n a b = if i = a ∧ j = b then x else if a = b then 1 else 9223372036854775807 := by
  unfold oneT
  rw [tat_set (allP_length _ _) hn hi hj hb ha, all_tat hn ha hb]
theorem les_tat {n a b : Nat} {ts us : List Int} (hl : ts.length = n * n) (hn : n ≤ 4) (ha : a < n) (hb : b < n) : tat (lesT ts us) n a b = lsr (tat ts n a b) (tat us n a b) := by
  unfold tat
  exact lesT_at _ _ (by rw [hl]; exact place_le hn ha hb)
theorem set_tat {n i j a b : Nat} {x : Int} {ts : List Int} (hl : ts.length = n * n) (hn : n ≤ 4) (hi : i < n) (hj : j < n) (ha : a < n) (hb : b < n) : tat (setT ts (i * n + j) x) n a b = if i = a ∧ j = b then lsr (tat ts n a b) x else tat ts n a b := by
  unfold tat
  rw [setT_at _ _ (by rw [hl]; exact place_le hn ha hb)]
  by_cases e : i * n + j = a * n + b
  · obtain ⟨rfl, rfl⟩ := place_inj hj hb e
    rw [if_pos rfl, if_pos ⟨rfl, rfl⟩]
  · rw [if_neg e, if_neg (fun h => e (by rw [h.1, h.2]))]
theorem may_of {n : Nat} {ts : List Int} (h0 : 0 < n) (hn : n ≤ 4) (hl : ts.length = n * n) (h : ∀ a b, a < n → b < n → Fine (tat ts n a b)) : MayD n ts := by
  refine ⟨by omega, by omega, by rw [hl, Int.natCast_mul], fun p hp => ?_⟩
  rw [hl] at hp
  have := h (p / n) (p % n) (Nat.div_lt_of_lt_mul hp) (Nat.mod_lt _ h0)
  unfold tat at this
  rwa [Nat.div_add_mod' p n] at this
theorem one_fine {n i j : Nat} {x : Int} (h0 : 0 < n) (hn : n ≤ 4) (hi : i < n) (hj : j < n) (hx : Fine x) : MayD n (oneT n i j x) := may_of h0 hn (oneT_length _ _ _ _) fun a b ha hb => by
  rw [one_tat hn hi hj ha hb]
  split
  · exact hx
  · split
    · exact .inr ⟨by decide, by decide⟩
    · exact .inl rfl
theorem lsr_top {t : Int} (h : t ≤ 9223372036854775807) : lsr t 9223372036854775807 = t := by unfold lsr; rw [if_neg (by omega)]

/-- Set's. -/
theorem like_one {n i j : Nat} {x : Int} {ts : List Int} (h0 : 0 < n) (hn : n ≤ 4) (hl : ts.length = n * n) (htop : Tops ts) (ht : MayD n ts) (hi : i < n) (hj : j < n) (hx : Fine x) : Like n (lesT ts (oneT n i j x)) (setT ts (i * n + j) x) := by
  refine like_of h0 hn ((lesT_length _ _).trans hl) ((setT_length _ _ _).trans hl) (lesT_may ht (one_fine h0 hn hi hj hx)) (setT_may ht _ hx) fun a b ha hb => ?_
  rw [les_tat hl hn ha hb, les_tat hl hn ha ha, set_tat hl hn hi hj ha hb, set_tat hl hn hi hj ha ha, one_tat hn hi hj ha hb, one_tat hn hi hj ha ha]
  have t1 := tat_top htop n a b
  by_cases e : a = b
  · subst e
    rw [if_pos rfl, if_pos rfl, if_pos rfl]
    by_cases p : i = a ∧ j = a
    · rw [if_pos p, if_pos p]
    · rw [if_neg p, if_neg p, lsr_assoc, lsr_self]
  · rw [if_neg e, if_neg e, if_neg e]
    by_cases p : i = a ∧ j = b
    · rw [if_pos p, if_pos p]
    · rw [if_neg p, if_neg p, lsr_top t1]

theorem mk_fine {c : Int} (h : In c) (s : Bool) : Fine (mk c s) := .inr (by rw [mk_half]; exact h)
theorem hiB_fine {hi : Int} {hs op : Bool} (h : op = false → In hi) : Fine (hiB hi hs op) := by
  unfold hiB
  cases op with
  | true => exact .inl rfl
  | false => exact mk_fine (h rfl) hs
theorem fine_top {b : Int} (h : Fine b) : b ≤ 9223372036854775807 := by
  rcases h with rfl | h
  · exact Int.le_refl _
  · omega
theorem fine_low {b : Int} (h : Fine b) : -9223372036854775808 ≤ b := by
  rcases h with rfl | h
  · decide
  · omega
/-- Between's. -/
theorem like_two {n i : Nat} {x y : Int} {ts : List Int} (h0 : 0 < n) (hn : n ≤ 4) (hl : ts.length = n * n) (htop : Tops ts) (ht : MayD n ts) (hi : i < n) (hx : Fine x) (hy : Fine y) : Like n (lesT ts (lesT (oneT n 0 i x) (oneT n i 0 y))) (setT (setT ts (0 * n + i) x) (i * n + 0) y) := by
  have l2 : (setT ts (0 * n + i) x).length = n * n := (setT_length _ _ _).trans hl
  refine like_of h0 hn ((lesT_length _ _).trans hl) ((setT_length _ _ _).trans l2) (lesT_may ht (lesT_may (one_fine h0 hn h0 hi hx) (one_fine h0 hn hi h0 hy))) (setT_may (setT_may ht _ hx) _ hy) fun a b ha hb => ?_
  have x1 := fine_top hx
  have y1 := fine_top hy
  rw [les_tat hl hn ha hb, les_tat hl hn ha ha, set_tat l2 hn hi h0 ha hb, set_tat l2 hn hi h0 ha ha, set_tat hl hn h0 hi ha hb, set_tat hl hn h0 hi ha ha, les_tat (oneT_length _ _ _ _) hn ha hb, les_tat (oneT_length _ _ _ _) hn ha ha, one_tat hn h0 hi ha hb, one_tat hn h0 hi ha ha, one_tat hn hi h0 ha hb, one_tat hn hi h0 ha ha]
  have t1 := tat_top htop n a b
  have t2 := tat_top htop n a a
  generalize tat ts n a a = s at t2
  generalize tat ts n a b = t at t1
  by_cases e : a = b
  · subst e
    rw [if_pos rfl, if_pos rfl, if_pos rfl]
    by_cases p : 0 = a ∧ i = a <;> by_cases q : i = a ∧ 0 = a
    · rw [if_pos p, if_pos q, if_pos q, if_pos p, lsr_assoc s x y]
    · exact (q ⟨p.2, p.1⟩).elim
    · exact (p ⟨q.2, q.1⟩).elim
    · rw [if_neg p, if_neg q, if_neg q, if_neg p, lsr_self, lsr_assoc, lsr_self]
  · rw [if_neg e, if_neg e, if_neg e]
    by_cases p : 0 = a ∧ i = b <;> by_cases q : i = a ∧ 0 = b
    · rw [if_pos p, if_pos q, if_pos q, if_pos p, lsr_assoc]
    · rw [if_pos p, if_neg q, if_neg q, if_pos p, lsr_top x1]
    · rw [if_neg p, if_pos q, if_pos q, if_neg p, lsr_comm _ y, lsr_top y1]
    · rw [if_neg p, if_neg q, if_neg q, if_neg p, lsr_self, lsr_top t1]

/-- answers of two of which the same is closed. -/
theorem Ans.like {n : Int} {ts us vs : List Int} {na f : Int} (h : Ans n ts na vs f) (k : Like n ts us) : Ans n us na vs f := by
  obtain ⟨h1, h2, h3, h4⟩ := k
  rcases h with ⟨h, rfl, rfl, rfl⟩ | ⟨h, rfl, rfl, rfl⟩
  · exact .inl ⟨fun k => h (h3.2 k), rfl, rfl, by rw [if_pos h1, if_pos h2]⟩
  · exact .inr ⟨h3.1 h, rfl, h4 h, rfl⟩
end Go.Proofs.YthljhijcmdnonaaDoor.tref

namespace Go.Proofs.YthljhijcmdnonaaDoor.tref
open Go.ChangeShapes Go.WideShapes Go.ChangeAt Go.RowKit num dbm dref Go.Proofs.YthljhijcmdnonaaDoor.tight
open bound hiding up
set_option linter.unusedVariables false
set_option linter.unusedSimpArgs false

/-- what such a call answers. -/
def RTells (n : Int) (q : Option (List Int)) (err : Int) (w : World) (e : Ending) (w' : World) : Prop := Below w.heap.size w w' ∧ ∃ na aa la ca us f, e = .returned (.tuple #[.agg #[.int .i64 na, .slice aa la ca], .int .i64 f]) ∧ Res n q err na us f ∧ w'.ownsRow w.heap.size 29 1 (.slice aa la ca) us.length (us.map (Value.int .i64))
theorem RTells.err {n err : Int} {w w' : World} (h : Below w.heap.size w w') : RTells n none err w (.returned (.tuple #[.agg #[.int .i64 0, .slice none 0 0], .int .i64 err])) w' := ⟨h, 0, none, 0, 0, [], err, rfl, .inl ⟨rfl, rfl, rfl, rfl⟩, World.ownsRow_nil _ _ _ _⟩
/-- an answer of Common, whatever it is. -/
def CommR (n : Int) (L : List Int) (na : Int) (us : List Int) (bl : Bool) : Prop := (¬ OkD n L ∧ na = 0 ∧ us = [] ∧ bl = false) ∨ (OkD n L ∧ na = n ∧ us = clT n L ∧ bl = true)
theorem comm_one {n : Nat} {L : List Int} {w w' : World} {e : Ending} (h : Comm n L w e w') : Below w.heap.size w w' ∧ ∃ na a l c us bl, e = .returned (.tuple #[.agg #[.int .i64 na, .slice a l c], .bool bl]) ∧ CommR n L na us bl ∧ w'.ownsRow w.heap.size 29 1 (.slice a l c) us.length (us.map (Value.int .i64)) := by
  rcases h with ⟨hB, ⟨hno, rfl⟩ | ⟨hok, a, l, c, rfl, hO⟩⟩
  · exact ⟨hB, 0, none, 0, 0, [], false, rfl, .inl ⟨hno, rfl, rfl, rfl⟩, World.ownsRow_nil _ _ _ _⟩
  · exact ⟨hB, n, a, l, c, clT n L, true, rfl, .inr ⟨hok, rfl, rfl, rfl⟩, hO⟩
/-- a row of one's own, as it is read. -/
theorem own_row {W : World} {base g len cc : Nat} {us : List Int} (h : W.ownsRow base 29 1 (.slice (some ⟨g, 0, none⟩) len cc) len (us.map (Value.int .i64))) (hl : us.length = len) : Row W g 0 us := fun p hp => by
  rw [Nat.zero_add, h.cellAt p (by omega), List.getElem?_map, List.getElem?_eq_getElem hp]; rfl

end Go.Proofs.YthljhijcmdnonaaDoor.tref

namespace Go.Proofs.YthljhijcmdnonaaDoor.tref
open Go.ChangeShapes Go.WideShapes Go.ChangeAt Go.RowKit num dbm dref Go.Proofs.YthljhijcmdnonaaDoor.tight
open bound hiding up
set_option linter.unusedVariables false
set_option linter.unusedSimpArgs false

end Go.Proofs.YthljhijcmdnonaaDoor.tref

namespace Go.Proofs.YthljhijcmdnonaaDoor.tref
open Go.ChangeShapes Go.WideShapes Go.ChangeAt Go.RowKit num dbm dref Go.Proofs.YthljhijcmdnonaaDoor.tight
open bound hiding up
set_option linter.unusedVariables false
set_option linter.unusedSimpArgs false

end Go.Proofs.YthljhijcmdnonaaDoor.tref
