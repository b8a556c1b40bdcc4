
/-
  The document's own answers of layer 5, and that what they close is what the program closes; each theorem names its conditions.
-/
import Derived.Test.YthljhijcmdnonaaGreatDoorTightB
namespace Go.Proofs.YthljhijcmdnonaaGreatDoor.tref
open Go.ChangeShapes Go.WideShapes Go.ChangeAt Go.RowKit num dbm dref Go.Proofs.YthljhijcmdnonaaGreatDoor.tight
open bound hiding up
set_option linter.unusedVariables false
set_option linter.unusedSimpArgs false

/-- the first k of the lesser ones. -/
def lesU (ts us : List Int) (k : Nat) : List Int := (List.range ts.length).map fun p => if p < k then lsr (ts[p]?.getD 0) (us[p]?.getD 0) else ts[p]?.getD 0
/-- what lies there while the lesser ones are taken. -/
def LesI (n m : Int) (c pff dap len g cc B : Nat) (ts us : List Int) (k : Nat) (w W : World) : Prop :=
  lies.Lies W (w.heap.size + 1) 76 #[.int .i64 m, .slice (some ⟨c, pff, none⟩) len dap] ∧ lies.Lies W (w.heap.size + 1 + 1) 76 #[.int .i64 0, .slice none 0 0] ∧ lies.Lies W B 76 #[.int .i64 n, .slice (some ⟨g, 0, none⟩) len cc] ∧ W.ownsRow (w.heap.size + 1 + 1 + 1) 22 1 (.slice (some ⟨g, 0, none⟩) len cc) len ((lesU ts us k).map (Value.int .i64)) ∧ Below w.heap.size w W
theorem own_call {W X : World} {B len : Nat} {v : Value} {xs : List Value} (h : W.ownsRow B 22 1 v len xs) (k : Below W.heap.size W X) : X.ownsRow B 22 1 v len xs :=
  h.kept (row := none) ⟨k.os, k.tape, k.output, k.size, fun i hi _ => k.block i hi⟩ (by cases v.ownBlock <;> simp)
theorem LesI.below {n m : Int} {c pff dap len g cc B : Nat} {ts us : List Int} {k : Nat} {w W X : World} (h : LesI n m c pff dap len g cc B ts us k w W) (j : Below W.heap.size W X) : LesI n m c pff dap len g cc B ts us k w X :=
  ⟨lies.on_call h.1 j, lies.on_call h.2.1 j, lies.on_call h.2.2.1 j, own_call h.2.2.2.1 j, h.2.2.2.2.trans (j.mono h.2.2.2.2.size)⟩
theorem LesI.drawn {n m : Int} {c pff dap len g cc B : Nat} {ts us : List Int} {k : Nat} {w W : World} (h : LesI n m c pff dap len g cc B ts us k w W) (q : Nat) : LesI n m c pff dap len g cc B ts us k w (W.drewN q) := h.below (bound.drawn (Below.refl _ _) q)
end Go.Proofs.YthljhijcmdnonaaGreatDoor.tref

namespace Go.Proofs.YthljhijcmdnonaaGreatDoor.tref
open Go.ChangeShapes Go.WideShapes Go.ChangeAt Go.RowKit num dbm dref Go.Proofs.YthljhijcmdnonaaGreatDoor.tight
open bound hiding up
set_option linter.unusedVariables false
set_option linter.unusedSimpArgs false

/-- the matrix with one bound alone. -/
def oneT (n i j : Nat) (x : Int) : List Int := (allP n (n * n)).set (i * n + j) x
theorem oneT_length (n i j : Nat) (x : Int) : (oneT n i j x).length = n * n := by unfold oneT; rw [List.length_set, allP_length]
/-- what Common answers, of what it closes. -/
def Comm (n : Nat) (L : List Int) (w : World) (e : Ending) (w' : World) : Prop := Below w.heap.size w w' ∧
  ((¬ OkD n L ∧ e = .returned (.tuple #[.agg #[.int .i64 0, .slice none 0 0], .bool false])) ∨
   (OkD n L ∧ ∃ a l c, e = .returned (.tuple #[.agg #[.int .i64 n, .slice a l c], .bool true]) ∧ w'.ownsRow w.heap.size 22 1 (.slice a l c) (clT n L).length ((clT n L).map (Value.int .i64))))
end Go.Proofs.YthljhijcmdnonaaGreatDoor.tref

namespace Go.Proofs.YthljhijcmdnonaaGreatDoor.tref
open num dbm dref Go.Proofs.YthljhijcmdnonaaGreatDoor.tight
open bound hiding up
set_option linter.unusedVariables false

theorem all_tat {n a b : Nat} (hn : n ≤ 4) (ha : a < n) (hb : b < n) : tat (allP n (n * n)) n a b = if a = b then 1 else 9223372036854775807 := by
  unfold tat allP
  rw [List.getElem?_map, List.getElem?_range (place_le hn ha hb)]
  have e1 : (a * n + b) / n = a := by rw [Nat.mul_comm, Nat.mul_add_div (by omega), Nat.div_eq_of_lt hb]; rfl
  have e2 : (a * n + b) % n = b := by rw [Nat.mul_comm, Nat.mul_add_mod, Nat.mod_eq_of_lt hb]
  show (if (a * n + b) / n = (a * n + b) % n then (1 : Int) else 9223372036854775807) = _
  rw [e1, e2]
theorem one_tat {n i j a b : Nat} {x : Int} (hn : n ≤ 4) (hi : i < n) (hj : j < n) (ha : a < n) (hb : b < n) : tat (oneT n i j x) n a b = if i = a ∧ j = b then x else if a = b then 1 else 9223372036854775807 := by
  unfold oneT
  rw [tat_set (allP_length _ _) hn hi hj hb ha, all_tat hn ha hb]
theorem may_of {n : Nat} {ts : List Int} (h0 : 0 < n) (hn : n ≤ 4) (hl : ts.length = n * n) (h : ∀ a b, a < n → b < n → Fine (tat ts n a b)) : MayD n ts := by
  refine ⟨by omega, by omega, by rw [hl, Int.natCast_mul], fun p hp => ?_⟩
  rw [hl] at hp
  have := h (p / n) (p % n) (Nat.div_lt_of_lt_mul hp) (Nat.mod_lt _ h0)
  unfold tat at this
  rwa [Nat.div_add_mod' p n] at this
theorem one_fine {n i j : Nat} {x : Int} (h0 : 0 < n) (hn : n ≤ 4) (hi : i < n) (hj : j < n) (hx : Fine x) : MayD n (oneT n i j x) := may_of h0 hn (oneT_length _ _ _ _) fun a b ha hb => by
  rw [one_tat hn hi hj ha hb]
  split
  · exact hx
  · split
    · exact .inr ⟨by decide, by decide⟩
    · exact .inl rfl
/-- answers of two of which the same is closed. -/
theorem Ans.like {n : Int} {ts us vs : List Int} {na f : Int} (h : Ans n ts na vs f) (k : Like n ts us) : Ans n us na vs f := by
  obtain ⟨h1, h2, h3, h4⟩ := k
  rcases h with ⟨h, rfl, rfl, rfl⟩ | ⟨h, rfl, rfl, rfl⟩
  · exact .inl ⟨fun k => h (h3.2 k), rfl, rfl, by rw [if_pos h1, if_pos h2]⟩
  · exact .inr ⟨h3.1 h, rfl, h4 h, rfl⟩
end Go.Proofs.YthljhijcmdnonaaGreatDoor.tref

namespace Go.Proofs.YthljhijcmdnonaaGreatDoor.tref
open Go.ChangeShapes Go.WideShapes Go.ChangeAt Go.RowKit num dbm dref Go.Proofs.YthljhijcmdnonaaGreatDoor.tight
open bound hiding up
set_option linter.unusedVariables false
set_option linter.unusedSimpArgs false

/-- what such a call answers. -/
def RTells (n : Int) (q : Option (List Int)) (err : Int) (w : World) (e : Ending) (w' : World) : Prop := Below w.heap.size w w' ∧ ∃ na aa la ca us f, e = .returned (.tuple #[.agg #[.int .i64 na, .slice aa la ca], .int .i64 f]) ∧ Res n q err na us f ∧ w'.ownsRow w.heap.size 22 1 (.slice aa la ca) us.length (us.map (Value.int .i64))
theorem RTells.err {n err : Int} {w w' : World} (h : Below w.heap.size w w') : RTells n none err w (.returned (.tuple #[.agg #[.int .i64 0, .slice none 0 0], .int .i64 err])) w' := ⟨h, 0, none, 0, 0, [], err, rfl, .inl ⟨rfl, rfl, rfl, rfl⟩, World.ownsRow_nil _ _ _ _⟩
/-- an answer of Common, whatever it is. -/
def CommR (n : Int) (L : List Int) (na : Int) (us : List Int) (bl : Bool) : Prop := (¬ OkD n L ∧ na = 0 ∧ us = [] ∧ bl = false) ∨ (OkD n L ∧ na = n ∧ us = clT n L ∧ bl = true)
end Go.Proofs.YthljhijcmdnonaaGreatDoor.tref

namespace Go.Proofs.YthljhijcmdnonaaGreatDoor.tref
open Go.ChangeShapes Go.WideShapes Go.ChangeAt Go.RowKit num dbm dref Go.Proofs.YthljhijcmdnonaaGreatDoor.tight
open bound hiding up
set_option linter.unusedVariables false
set_option linter.unusedSimpArgs false

end Go.Proofs.YthljhijcmdnonaaGreatDoor.tref

namespace Go.Proofs.YthljhijcmdnonaaGreatDoor.tref
open Go.ChangeShapes Go.WideShapes Go.ChangeAt Go.RowKit num dbm dref Go.Proofs.YthljhijcmdnonaaGreatDoor.tight
open bound hiding up
set_option linter.unusedVariables false
set_option linter.unusedSimpArgs false

end Go.Proofs.YthljhijcmdnonaaGreatDoor.tref
