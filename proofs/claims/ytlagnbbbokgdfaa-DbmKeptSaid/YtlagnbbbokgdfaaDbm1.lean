/-
  What a matrix under way answers of its places and bounds (at, lower, empty); each theorem names its conditions.
-/
import Derived.Test.YtlagnbbbokgdfaaBoundMath
import Derived.Test.YtlagnbbbokgdfaaLies
import Derived.IntWalk
import Derived.Deep.RegionWith
namespace Go.Proofs.Ytlagnbbbokgdfaa.dbm
open Go.ChangeShapes Go.WideShapes Go.ChangeAt Go.RowKit num
open bound hiding up
set_option linter.unusedVariables false

theorem drawn1 {n : Nat} {w w1 : World} (h : Below n w w1) : Below n w w1.drew := h.trans ⟨rfl, rfl, rfl, Nat.le_refl _, fun _ _ => rfl⟩
theorem up {n : Nat} {w w1 : World} (h : Below n w w1) (k : n ≤ w.heap.size) (o : Obj) : Below n w (w1.alloc o) := h.alloc (Nat.le_trans k h.size) o
theorem at_is (n i j q p : Int) (b off len cap P : Nat) (w : World) (hq : IntKind.i64.wrap (i * n) = q) (hp : IntKind.i64.wrap (q + j) = p) (h0 : 0 ≤ p) (hl : p < (len : Int)) (hP : p.toNat = P) :
    Calls Try.prog 27 #[.agg #[.int .i64 n, .slice (some ⟨b, off, none⟩) len cap], .int .i64 i, .int .i64 j] w fun e w' => e = .returned (.pointer (some ⟨b, off + P, none⟩)) ∧ w' = w.alloc (.cells #[.int .i64 n, .slice (some ⟨b, off, none⟩) len cap] 54) := by
  go_enter Try.func27, Try.ntmps27
  go_wp2
  go_ret
  exact ⟨rfl, rfl⟩

/-- the lesser of two, as the program tells it. -/
def lsr (x b : Int) : Int := if b < x then b else x
/-- a store, and blocks that are new. -/
def Put (g P : Nat) (v : Value) (w : World) (e : Ending) (w' : World) : Prop := e = .returned (.tuple #[]) ∧ Below w.heap.size (w.setCell ⟨g, P, none⟩ v) w'

set_option maxHeartbeats 1000000 in
theorem lower_is (n i j q p x b : Int) (g len cap P : Nat) (w : World) (hq : IntKind.i64.wrap (i * n) = q) (hp : IntKind.i64.wrap (q + j) = p) (h0 : 0 ≤ p) (hl : p < (len : Int)) (hP : p.toNat = P)
    (hg : g < w.heap.size) (hc : w.cell? ⟨g, P, none⟩ = some (.int .i64 x)) (hf : w.frozen? ⟨g, P, none⟩ = false) :
    Calls Try.prog 28 #[.agg #[.int .i64 n, .slice (some ⟨g, 0, none⟩) len cap], .int .i64 i, .int .i64 j, .int .i64 b] w (Put g P (.int .i64 (lsr x b)) w) := by
  have HQ := Lib.hid hq
  have HP := Lib.hid hp
  have HN := Lib.hid hP
  clear hq hp hP
  have g1 : g < w.heap.size + 1 := by omega
  have g2 : g < w.heap.size + 1 + 1 := by omega
  have g3 : g < w.heap.size + 1 + 1 + 1 := by omega
  go_enter Try.func28, Try.ntmps28
  go_wp2_with fail
  go_region_with (go_at_call 27; refine (at_is n i j q p g 0 len cap P _ HQ.out HP.out h0 hl HN.out).mono ?_; rintro e w' ⟨rfl, rfl⟩)
  all_goals
    go_end0
    have hz : w.heap.size ≤ (w.setCell ⟨g, P, none⟩ (.int .i64 (lsr x b))).heap.size := by simp
    exact ⟨rfl, drawn1 (up (up (up (Below.refl _ _) hz _) hz _) hz _)⟩
end Go.Proofs.Ytlagnbbbokgdfaa.dbm
