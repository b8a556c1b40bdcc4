/-
  Blocks of memory that a call has made, followed through what it does: whole blocks of cells, none of them shared with a string; no conditions beside the theorems' own.
-/
import Derived.Test.YtlagnbbbokgdfaaLaw
import Derived.Deep.QuietTactic
import Derived.Laws.OwnMore
import Derived.Laws.Rows
namespace Go.Proofs.Ytlagnbbbokgdfaa.lies
open Go.RowKit
set_option linter.unusedVariables false

/-- block g of W is the cells cs. -/
def Lies (W : World) (g : Nat) (t : TypeId) (cs : Array Value) : Prop := W.heap[g]? = some (.cells cs t (0, 0))
theorem lt {W : World} {g : Nat} {t : TypeId} {cs : Array Value} (h : Lies W g t cs) : g < W.heap.size := by
  refine Decidable.byContradiction fun k => ?_
  have e : W.heap[g]? = none := Array.getElem?_eq_none (Nat.le_of_not_lt k)
  cases e.symm.trans h
theorem cell {W : World} {g : Nat} {t : TypeId} {cs : Array Value} (h : Lies W g t cs) (i : Nat) : W.cell? ⟨g, i, none⟩ = cs[i]? := cell_of_row W g i cs t (0, 0) h
theorem free {W : World} {g : Nat} {t : TypeId} {cs : Array Value} (h : Lies W g t cs) (i : Nat) : W.frozen? ⟨g, i, none⟩ = false := by
  have e : W.heap[g]? = some (.cells cs t (0, 0)) := h
  simp [World.frozen?, e]
theorem made (W : World) (t : TypeId) (cs : Array Value) : Lies (W.alloc (.cells cs t)) W.heap.size t cs := heap_alloc_new W _
theorem on_alloc {W : World} {g : Nat} {t : TypeId} {cs : Array Value} (h : Lies W g t cs) (o : Obj) : Lies (W.alloc o) g t cs := (Below.heap_alloc W o g (lt h)).trans h
theorem on_draw {W : World} {g : Nat} {t : TypeId} {cs : Array Value} (h : Lies W g t cs) (n : Nat) : Lies (W.drewN n) g t cs := h
theorem on_call {W X : World} {g : Nat} {t : TypeId} {cs : Array Value} (h : Lies W g t cs) (k : Below W.heap.size W X) : Lies X g t cs := (k.block g (lt h)).trans h
theorem on_put {W : World} {g : Nat} {t : TypeId} {cs : Array Value} (h : Lies W g t cs) (i : Nat) (u : Value) : Lies (W.setCell ⟨g, i, none⟩ u) g t (cs.setIfInBounds i u) := by
  have e : W.heap[g]? = some (.cells cs t (0, 0)) := h
  show (W.setCell ⟨g, i, none⟩ u).heap[g]? = _
  simp [World.setCell, Array.getElem?_modify, e]
theorem on_far {W : World} {g : Nat} {t : TypeId} {cs : Array Value} (h : Lies W g t cs) {b : Nat} (i : Nat) (hb : g ≠ b) (u : Value) : Lies (W.setCell ⟨b, i, none⟩ u) g t cs := (Below.heap_setCell W ⟨b, i, none⟩ u g hb).trans h

/-- what the walk wants of a block of two cells. -/
theorem two {W : World} {g : Nat} {t : TypeId} {u v : Value} (h : Lies W g t #[u, v]) : W.cell? ⟨g, 0, none⟩ = some u ∧ W.cell? ⟨g, 1, none⟩ = some v ∧ W.frozen? ⟨g, 0, none⟩ = false ∧ W.frozen? ⟨g, 1, none⟩ = false ∧ g < W.heap.size :=
  ⟨cell h 0, cell h 1, free h 0, free h 1, lt h⟩
theorem made_at (W : World) (t : TypeId) (cs : Array Value) (g : Nat) (h : W.heap.size = g) : Lies (W.alloc (.cells cs t)) g t cs := h ▸ made W t cs
theorem frame_drew {w w1 : World} (h : Below w.heap.size w w1) : Below w.heap.size w w1.drew := h.trans ⟨rfl, rfl, rfl, Nat.le_refl _, fun _ _ => rfl⟩
theorem frame_up {w w1 : World} (h : Below w.heap.size w w1) (o : Obj) : Below w.heap.size w (w1.alloc o) := h.alloc h.size o
theorem on_drew {W : World} {g : Nat} {t : TypeId} {cs : Array Value} (h : Lies W g t cs) : Lies W.drew g t cs := h
/-- what a region that reads two such blocks holds on to. -/
theorem four {W : World} {g b : Nat} {t s : TypeId} {u v x y : Value} (h : Lies W g t #[u, v]) (k : Lies W b s #[x, y]) : W.cell? ⟨g, 0, none⟩ = some u ∧ W.cell? ⟨g, 1, none⟩ = some v ∧ W.cell? ⟨b, 0, none⟩ = some x ∧ W.cell? ⟨b, 1, none⟩ = some y :=
  ⟨cell h 0, cell h 1, cell k 0, cell k 1⟩
theorem pair {W : World} {g : Nat} {t : TypeId} {u v : Value} (h : Lies W g t #[u, v]) : W.cell? ⟨g, 0, none⟩ = some u ∧ W.cell? ⟨g, 1, none⟩ = some v := ⟨cell h 0, cell h 1⟩
/-- a block of four cells. -/
theorem row {W : World} {g : Nat} {t : TypeId} {u v x y : Value} (h : Lies W g t #[u, v, x, y]) : W.cell? ⟨g, 0, none⟩ = some u ∧ W.cell? ⟨g, 1, none⟩ = some v ∧ W.cell? ⟨g, 2, none⟩ = some x ∧ W.cell? ⟨g, 3, none⟩ = some y :=
  ⟨cell h 0, cell h 1, cell h 2, cell h 3⟩
end Go.Proofs.Ytlagnbbbokgdfaa.lies
