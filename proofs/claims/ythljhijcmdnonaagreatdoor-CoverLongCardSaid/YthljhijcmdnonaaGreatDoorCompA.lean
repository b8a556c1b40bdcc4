
/-
  Zones one behind the other, as tables of weights: what is composed, which two of three come first, the other way round, lesser ones; then Comp, Back and Firsts, each in one form; each theorem names its conditions.
-/
import Derived.Test.YthljhijcmdnonaaGreatDoorZoneA
import Derived.Test.YthljhijcmdnonaaGreatDoorProjA
import Derived.Test.YthljhijcmdnonaaGreatDoorZoneF
namespace Go.Proofs.YthljhijcmdnonaaGreatDoor.way
set_option linter.unusedVariables false
set_option linter.unusedSectionVars false
set_option linter.unusedSimpArgs false

/-- closed, of some clocks. -/
def Cl (S : Nat → Prop) (G : Tab) : Prop := (∀ i j m, S i → S j → S m → le (G i j) (ad (G i m) (G m j))) ∧ ∀ i, S i → G i i = one
/-- the least of some weights. -/
def mns : List B → B
  | [] => none
  | x :: l => mn x (mns l)
/-- a table with a clock more, that another one knows of beside some of its clocks. -/
def ext (L Z : Tab) (s : Nat) (ys : List Nat) : Tab := fun i j =>
  if i = s then (if j = s then one else mns (ys.map fun k => ad (Z s k) (L k j))) else if j = s then mns (ys.map fun k => ad (L i k) (Z k s)) else L i j
section
variable {L Z : Tab} {s : Nat} {ys : List Nat} {X : Nat → Prop} (hL : Cl X L) (hZ : Cl (fun i => i ∈ ys ∨ i = s) Z) (hy : ∀ k, k ∈ ys → X k) (hs : ¬ X s) (hLZ : ∀ k l, k ∈ ys → l ∈ ys → le (L k l) (Z k l))
include hL hZ hy hs hLZ
end
end Go.Proofs.YthljhijcmdnonaaGreatDoor.way

namespace Go.Proofs.YthljhijcmdnonaaGreatDoor.comp
open way num rat dbm Go.Proofs.YthljhijcmdnonaaGreatDoor.tight Go.Proofs.YthljhijcmdnonaaGreatDoor.incl Go.Proofs.YthljhijcmdnonaaGreatDoor.zone
open bound hiding up
open proj (sk sk_lt dropT dropT_length dropT_at cl_cod dropT_tops dropT_own drop_kept)
set_option linter.unusedVariables false
set_option linter.unusedSectionVars false
set_option linter.unusedSimpArgs false

/-- the matrix of four clocks of two zones, one behind the other. -/
def bothT (a b : List Int) : List Int := [1, a[1]?.getD 0, lsr (a[3]?.getD 0) (b[1]?.getD 0), b[3]?.getD 0, a[0]?.getD 0, 1, a[5]?.getD 0, 9223372036854775807, lsr (a[2]?.getD 0) (b[0]?.getD 0), a[4]?.getD 0, 1, b[5]?.getD 0, b[2]?.getD 0, 9223372036854775807, b[4]?.getD 0, 1]
/-- the six bounds of a matrix that may be. -/
theorem six_fine {a : List Int} (h : MayD 3 (fullT a)) : ∀ i, i < 6 → Fine (a[i]?.getD 0) := by
  intro i hi
  have f := h.2.2.2
  rcases (by omega : i = 0 ∨ i = 1 ∨ i = 2 ∨ i = 3 ∨ i = 4 ∨ i = 5) with rfl | rfl | rfl | rfl | rfl | rfl
  · exact f 3 (show 3 < 9 by decide)
  · exact f 1 (show 1 < 9 by decide)
  · exact f 6 (show 6 < 9 by decide)
  · exact f 2 (show 2 < 9 by decide)
  · exact f 7 (show 7 < 9 by decide)
  · exact f 5 (show 5 < 9 by decide)
/-- a zone's weights. -/
def zw (a : List Int) : Tab := fun i j => cod (tat (fullT a) 3 i j)
/-- the zone that two zones compose to. -/
def compT (a b : List Int) : List Int := shortT (dropT 4 2 (bothT a b))
section
variable {a b : List Int} (ta : Tops a) (tb : Tops b) (ha : MayD 3 (fullT a)) (hb : MayD 3 (fullT b))
include ta tb
include ha hb
end

/-! which two of three come first -/
section
variable {a b c : List Int} (ta : Tops a) (tb : Tops b) (tc : Tops c) (ha : MayD 3 (fullT a)) (hb : MayD 3 (fullT b)) (hc : MayD 3 (fullT c))
  (hab : OkD 4 (bothT a b)) (hbc : OkD 4 (bothT b c)) (hx : MayD 3 (fullT (compT a b))) (hy : MayD 3 (fullT (compT b c)))
include ta tb tc ha hb hc hab hbc hx hy
end
/-! the other way round -/
def backT (a : List Int) : List Int := [a[2]?.getD 0, a[3]?.getD 0, a[0]?.getD 0, a[1]?.getD 0, a[5]?.getD 0, a[4]?.getD 0]
def sw (i : Nat) : Nat := if i = 1 then 2 else if i = 2 then 1 else i
/-- a zone that may be is closed. -/
theorem may_cl {a : List Int} (ta : Tops a) (h : MayZ a) : Cl (fun i => i < 3) (zw a) := by
  have tt := full_tops ta
  have g : way.Good (beg 3 (fullT a)) 3 := (okD_good (n := 3) (by decide) (by decide) rfl tt h.1.1).1 h.1
  have e : ∀ i j, i < 3 → j < 3 → zw a i j = F (beg 3 (fullT a)) 3 i j := fun i j hi hj => by
    have := cl_cod (n := 3) (by decide) (by decide) rfl tt h.1 hi hj
    rw [show clT ((3 : Nat) : Int) (fullT a) = fullT a from h.2] at this
    exact this
  refine ⟨fun i j m hi hj hm => ?_, fun i hi => ?_⟩
  · rw [e i j hi hj, e i m hi hm, e m j hm hj]; exact good_tri g m hm i j
  · rw [e i i hi hi]; exact clo_one (n := 3) (by decide) (by decide) rfl tt h.1 i hi
/-- the answer of a composition. -/
def CompR (a b z : List Int) (f : Int) : Prop := (¬ (MayZ a ∧ MayZ b) ∧ z = zero6 ∧ f = 8) ∨ (MayZ a ∧ MayZ b ∧ ¬ OkD 4 (bothT a b) ∧ z = zero6 ∧ f = 6) ∨ (MayZ a ∧ MayZ b ∧ OkD 4 (bothT a b) ∧ ¬ MayD 3 (fullT (compT a b)) ∧ z = zero6 ∧ f = 8) ∨ (MayZ a ∧ MayZ b ∧ OkD 4 (bothT a b) ∧ MayZ (compT a b) ∧ z = compT a b ∧ f = 0)
end Go.Proofs.YthljhijcmdnonaaGreatDoor.comp

namespace Go.Proofs.YthljhijcmdnonaaGreatDoor.comp
open Go.Joins Go.ChangeShapes Go.WideShapes Go.ChangeAt Go.RowKit num rat dbm Go.Proofs.YthljhijcmdnonaaGreatDoor.tight Go.Proofs.YthljhijcmdnonaaGreatDoor.plaw Go.Proofs.YthljhijcmdnonaaGreatDoor.zopen Go.Proofs.YthljhijcmdnonaaGreatDoor.zone
open bound hiding up
set_option linter.unusedVariables false
set_option linter.unusedSimpArgs false

/-- a zone's matrix laid over another one, as far as a place. -/
def putK (z : List Int) (P : Nat → Nat) (us : List Int) : Nat → List Int
  | 0 => us
  | k + 1 => setT (putK z P us k) (P (k / 3) * 4 + P (k % 3)) ((fullT z)[k]?.getD 0)
end Go.Proofs.YthljhijcmdnonaaGreatDoor.comp

namespace Go.Proofs.YthljhijcmdnonaaGreatDoor.comp
open Go.Joins Go.ChangeShapes Go.WideShapes Go.ChangeAt Go.RowKit num rat dbm Go.Proofs.YthljhijcmdnonaaGreatDoor.tight Go.Proofs.YthljhijcmdnonaaGreatDoor.plaw Go.Proofs.YthljhijcmdnonaaGreatDoor.zopen Go.Proofs.YthljhijcmdnonaaGreatDoor.zone
open bound hiding up
open proj (dropT dropT_own Gv DropR Kc No)
set_option linter.unusedVariables false
set_option linter.unusedSimpArgs false

def top4 : List Int := [1, 9223372036854775807, 9223372036854775807, 9223372036854775807, 9223372036854775807, 1, 9223372036854775807, 9223372036854775807, 9223372036854775807, 9223372036854775807, 1, 9223372036854775807, 9223372036854775807, 9223372036854775807, 9223372036854775807, 1]
def Comps (a b : List Int) (w : World) (e : Ending) (w' : World) : Prop := Below w.heap.size w w' ∧ ∃ z0 z1 z2 z3 z4 z5 f, e = .returned (.tuple #[.agg #[.int .i64 z0, .int .i64 z1, .int .i64 z2, .int .i64 z3, .int .i64 z4, .int .i64 z5], .int .i64 f]) ∧ CompR a b [z0, z1, z2, z3, z4, z5] f

/-! the other way round -/
def BackR (a z : List Int) (f : Int) : Prop := (¬ MayZ a ∧ z = zero6 ∧ f = 8) ∨ (MayZ a ∧ z = backT a ∧ f = 0)
def Backs (a : List Int) (w : World) (e : Ending) (w' : World) : Prop := Below w.heap.size w w' ∧ ∃ z0 z1 z2 z3 z4 z5 f, e = .returned (.tuple #[.agg #[.int .i64 z0, .int .i64 z1, .int .i64 z2, .int .i64 z3, .int .i64 z4, .int .i64 z5], .int .i64 f]) ∧ BackR a [z0, z1, z2, z3, z4, z5] f
end Go.Proofs.YthljhijcmdnonaaGreatDoor.comp

namespace Go.Proofs.YthljhijcmdnonaaGreatDoor.comp
open Go.Joins Go.ChangeShapes Go.WideShapes Go.ChangeAt Go.RowKit num rat dbm Go.Proofs.YthljhijcmdnonaaGreatDoor.tight Go.Proofs.YthljhijcmdnonaaGreatDoor.plaw Go.Proofs.YthljhijcmdnonaaGreatDoor.zopen Go.Proofs.YthljhijcmdnonaaGreatDoor.zone
open bound hiding up
open proj (dropT dropT_own Gv DropR Kc No)
set_option linter.unusedVariables false
set_option linter.unusedSimpArgs false


/-! firsts -/
def FirR (a : List Int) (s : Sp) (f : Int) : Prop := (¬ MayZ a ∧ s = (0, false, 0, false, false) ∧ f = 8) ∨ (MayZ a ∧ a[1]?.getD 0 = 9223372036854775807 ∧ s = (0, false, 0, false, false) ∧ f = 6) ∨
  (MayZ a ∧ a[1]?.getD 0 ≠ 9223372036854775807 ∧ a[0]?.getD 0 = 9223372036854775807 ∧ s = (-(a[1]?.getD 0 / 2), bS (a[1]?.getD 0), 0, false, true) ∧ f = 0) ∨
  (MayZ a ∧ a[1]?.getD 0 ≠ 9223372036854775807 ∧ a[0]?.getD 0 ≠ 9223372036854775807 ∧ s = (-(a[1]?.getD 0 / 2), bS (a[1]?.getD 0), a[0]?.getD 0 / 2, bS (a[0]?.getD 0), false) ∧ f = 0)
def Firs (a : List Int) (w : World) (e : Ending) (w' : World) : Prop := Below w.heap.size w w' ∧ ∃ (lo : Int) (ls : Bool) (hi : Int) (hs op : Bool) (f : Int), e = .returned (.tuple #[.agg #[.int .i64 lo, .bool ls, .int .i64 hi, .bool hs, .bool op], .int .i64 f]) ∧ FirR a (lo, ls, hi, hs, op) f
end Go.Proofs.YthljhijcmdnonaaGreatDoor.comp
