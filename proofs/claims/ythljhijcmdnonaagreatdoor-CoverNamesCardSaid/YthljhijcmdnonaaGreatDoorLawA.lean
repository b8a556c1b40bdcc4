
/-
  What laws share: ints, a fraction and times that come in; rows of one's own that grow, in a drawn region too; boxes below a line that is no longer turned; each theorem names its conditions.
-/
import Derived.Test.YthljhijcmdnonaaGreatDoorDbmD
import Derived.Test.YthljhijcmdnonaaGreatDoorTightD
namespace Go.Proofs.YthljhijcmdnonaaGreatDoor.plaw
open Go.Joins Go.ChangeShapes Go.WideShapes Go.ChangeAt Go.RowKit num dbm rat Go.Proofs.YthljhijcmdnonaaGreatDoor.tight
open bound hiding up
set_option linter.unusedVariables false
set_option linter.unusedSimpArgs false

/-- what lay, lies, where a row of one's own behind it has grown. -/
theorem held_grown {n base k s : Nat} {A W W' : World} {t : TypeId} {v : Value} {xs : List Value} (h : Below n A W) (hA : n ≤ W.heap.size) (ho : W.ownsRow base t s v k xs) (hb : n ≤ base) (hg : W.grownBy W' v.ownBlock) : Below n A W' :=
  h.grown hg hA (fun q e => Nat.le_trans hb (ho.lt q e).1)
theorem grown_lies {W W' : World} {row : Option Nat} {g : Nat} {t : TypeId} {cs : Array Value} (h : lies.Lies W g t cs) (hg : W.grownBy W' row) (hne : some g ≠ row) : lies.Lies W' g t cs := (World.grownBy.block hg _ (lies.lt h) hne).trans h
/-- what lies below a line that is no longer turned: boxes, with what they hold. -/
def StN (n₀ : Nat) (bs : List tlaw.Bx) (w W : World) : Prop := Below w.heap.size w W ∧ w.heap.size ≤ n₀ ∧ n₀ ≤ W.heap.size ∧ ∀ b ∈ bs, b.1 < n₀ ∧ lies.Lies W b.1 76 #[.int .i64 b.2.1, b.2.2.1] ∧ law.Ints n₀ W b.2.2.1 b.2.2.2
theorem StN.of {bs : List tlaw.Bx} {w W : World} (h : tlaw.St bs w W) : StN W.heap.size bs w W := ⟨h.1, h.1.size, Nat.le_refl _, fun b hb => ⟨lies.lt (h.2 b hb).1, h.2 b hb⟩⟩
theorem StN.below {n₀ : Nat} {bs : List tlaw.Bx} {w W X : World} (h : StN n₀ bs w W) (k : Below n₀ W X) : StN n₀ bs w X :=
  ⟨h.1.trans (k.mono h.2.1), h.2.1, Nat.le_trans h.2.2.1 k.size, fun b hb => ⟨(h.2.2.2 b hb).1, (k.block _ (h.2.2.2 b hb).1).trans (h.2.2.2 b hb).2.1, (h.2.2.2 b hb).2.2.below k⟩⟩
theorem StN.back {n₀ : Nat} {bs : List tlaw.Bx} {w W : World} (h : StN n₀ bs w W) : tlaw.St bs w W := ⟨h.1, fun b hb => ⟨(h.2.2.2 b hb).2.1, (h.2.2.2 b hb).2.2.mono h.2.2.1⟩⟩
end Go.Proofs.YthljhijcmdnonaaGreatDoor.plaw
