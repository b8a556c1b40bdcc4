/-
  What num.Sum answers for every slice of ints (the nil one too): the sum, or the error, as the sums of the first ones go; nothing that lay in memory has turned. Condition: the slice holds fewer than 2^44 ints.
-/
import Derived.RangeFuncNested
import Derived.RangeFuncBound
import Derived.RangeFuncCalls
import Derived.RangeFuncLeaves
import Derived.RangeFuncBox
import Derived.Shelf.Abstract
import Derived.Shelf.RegionOpen
import Derived.WalkKit
import Derived.OwnWalkIn
import Derived.TacticsInMore
import Derived.LoopNIn
import Derived.LoopIn
import Derived.Test.YtcnfdffdnenmdaaNumRef
namespace Go.Proofs.Ytcnfdffdnenmdaa.num
open Go.RowKit Go.Shelf
attribute [local go_sem] Oper.semAt_some
set_option linter.unusedVariables false

/-- the sum of the first k ones (0 behind an error). -/
def SS (zs : List Int) : Nat → Int
  | 0 => 0
  | k + 1 => addV (SS zs k) (zs[k]?.getD 0)
/-- the error of round k. -/
def EE (zs : List Int) (k : Nat) : Int := addE (SS zs k) (zs[k]?.getD 0)
def pr (zs : List Int) (j : Nat) : Int × Int := (SS zs (j + 1), EE zs j)
def Good (zs : List Int) : Prop := ∀ j, j < zs.length → EE zs j = 0
instance decGood (zs : List Int) : Decidable (Good zs) := by unfold Good; exact inferInstance
def sumV (zs : List Int) : Int := if Good zs then SS zs zs.length else 0
def sumE (zs : List Int) : Int := if Good zs then 0 else 10
theorem addE_two (a b : Int) : addE a b = 0 ∨ addE a b = 10 := by unfold addE; split <;> simp
theorem EE_two (zs : List Int) (k : Nat) : EE zs k = 0 ∨ EE zs k = 10 := addE_two _ _

def upto {α : Type} (f : Nat → α) (k : Nat) : List α := (List.range k).map f
theorem upto_succ {α : Type} (f : Nat → α) (k : Nat) : upto f (k + 1) = upto f k ++ [f k] := by simp [upto, List.range_succ]
theorem upto_length {α : Type} (f : Nat → α) (k : Nat) : (upto f k).length = k := by simp [upto]

abbrev encs (p : Int × Int) : Array Value := #[.int .i64 p.1, .int .i64 p.2]

/-- what num.Add answers, behind whatever fence. -/
def AddIn (F : Fence) : Prop := ∀ (n : Nat) (a b : Int) (w : World), CallsIn F n Try.prog 13 #[.int .i64 a, .int .i64 b] w fun e w' => e = .returned (.tuple #[.int .i64 (addV a b), .int .i64 (addE a b)]) ∧ w = w'

set_option maxRecDepth 100000 in
set_option maxHeartbeats 2000000 in
theorem sums1_in (F : Fence) (n : Nat) (h24 : F.fn 24) (h13 : F.fn 13) (hA : AddIn F) (hro : F.round = none) (hn : 1 ≤ n) (l Bs n₀ b off len cap : Nat) (zs : List Int) (hreach : len * 8 ≤ 140737488351232) (hb : b < n₀) (J Jx : List (Int × Int) → World → Prop)
    (hY : ∀ pre x W, J pre W → pre.length < len → YieldAt F (n - 1) Try.prog l #[.int .i64 x.1, .int .i64 x.2] W fun e W' =>
      (e = .returned (.bool true) ∧ J (pre ++ [x]) W' ∧ Below n₀ W W') ∨ (e = .returned (.bool false) ∧ Jx (pre ++ [x]) W'))
    (W : World) (hBs : W.cell? ⟨Bs, 0, none⟩ = some (.slice (some ⟨b, off, none⟩) len cap)) (hc : ∀ j, j < len → W.cell? ⟨b, off + j, none⟩ = some (.int .i64 (zs[j]?.getD 0))) (h0 : J [] W) :
    CallsIn F n Try.prog 24 #[.func (.yield l) #[] #[], .pointer (some ⟨Bs, 0, none⟩)] W fun e W' => (∃ v, e = .returned v) ∧
      ((∃ ys, (∃ k, k ≤ len ∧ ys = upto (pr zs) k ∧ (k = len ∨ ∃ j, j < k ∧ EE zs j ≠ 0)) ∧ J ys W') ∨ (∃ pre, (∃ k, k ≤ len ∧ pre = upto (pr zs) k) ∧ Jx pre W')) := by
  have HC := Lib.hid hc
  have HA := Lib.hid hA
  have HY := Lib.hid hY
  clear hc hA hY
  refine callsIn_of_wp Try.func24 rfl h24 ?_ hro
  simp only [Try.ntmps24, List.size_toArray, List.length_cons, List.length_nil, Nat.reduceAdd, Nat.reduceSub, Array.replicate_succ, Array.replicate_zero, List.push_toArray, List.append_toArray, List.nil_append, List.cons_append]
  gi_wp2
  gi_loopw [3, 9] (fun s i wr => ∃ k : Nat, k ≤ len ∧ i = .int .i64 k ∧ s = .int .i64 (SS zs k) ∧ J (upto (pr zs) k) wr ∧ Below n₀ W wr)
    (fun _ i _ => len - (intOf i).toNat)
  case atStart => exact ⟨0, Nat.zero_le _, rfl, rfl, h0, Below.refl _ _⟩
  case round =>
    obtain ⟨k, hk, rfl, rfl, hJs, hnx⟩ := hrel
    by_cases hlt : k < len
    · have hcx' : wr.cell? ⟨b, off + k, none⟩ = some (.int .i64 (zs[k]?.getD 0)) := (hnx.cell (p := ⟨b, off + k, none⟩) hb).trans (HC.out k hlt)
      rcases EE_two zs k with he | he
      · have hp : pr zs k = (addV (SS zs k) (zs[k]?.getD 0), 0) := by unfold pr; rw [he]; rfl
        have hAk : RowKit.Hid (∀ (n : Nat) (w : World), CallsIn F n Try.prog 13 #[.int .i64 (SS zs k), .int .i64 (zs[k]?.getD 0)] w fun e w' => e = .returned (.tuple #[.int .i64 (addV (SS zs k) (zs[k]?.getD 0)), .int .i64 0]) ∧ w = w') :=
          Lib.hid (fun n w => by have := HA.out n (SS zs k) (zs[k]?.getD 0) w; unfold EE at he; rw [he] at this; exact this)
        have HP := Lib.hid hp
        clear hp he
        obtain ⟨fn, tmps, assign, body, hy, hR⟩ := HY.out _ (addV (SS zs k) (zs[k]?.getD 0), 0) wr hJs (by rw [upto_length]; exact hlt)
        dsimp only at hy
        gi_wp2_with (gi_at_call 13; refine (hAk.out _ _).mono ?_; rintro e w' ⟨rfl, rfl⟩)
        refine hR.mono ?_
        rintro e W3 (⟨rfl, hJ3, hk3⟩ | ⟨rfl, hJx3⟩)
        · gi_wp2
          go_roundw
          case rel => exact ⟨k + 1, by omega, by simp, rfl, by rw [upto_succ, HP.out]; exact hJ3, hnx.trans hk3⟩
          case measure => simp [intOf]; omega
        · gi_wp2
          refine bodyPost_ret (results_none rfl _ _ _) rfl ?_
          exact ⟨⟨_, rfl⟩, .inr ⟨_, ⟨k + 1, by omega, by rw [upto_succ, HP.out]⟩, hJx3⟩⟩
      · have hp : pr zs k = (addV (SS zs k) (zs[k]?.getD 0), 10) := by unfold pr; rw [he]; rfl
        have hAk : RowKit.Hid (∀ (n : Nat) (w : World), CallsIn F n Try.prog 13 #[.int .i64 (SS zs k), .int .i64 (zs[k]?.getD 0)] w fun e w' => e = .returned (.tuple #[.int .i64 (addV (SS zs k) (zs[k]?.getD 0)), .int .i64 10]) ∧ w = w') :=
          Lib.hid (fun n w => by have := HA.out n (SS zs k) (zs[k]?.getD 0) w; unfold EE at he; rw [he] at this; exact this)
        have HP := Lib.hid hp
        have HE := Lib.hid he
        clear hp he
        obtain ⟨fn, tmps, assign, body, hy, hR⟩ := HY.out _ (addV (SS zs k) (zs[k]?.getD 0), 10) wr hJs (by rw [upto_length]; exact hlt)
        dsimp only at hy
        gi_wp2_with (gi_at_call 13; refine (hAk.out _ _).mono ?_; rintro e w' ⟨rfl, rfl⟩)
        refine hR.mono ?_
        rintro e W3 (⟨rfl, hJ3, hk3⟩ | ⟨rfl, hJx3⟩)
        · gi_wp2
          refine bodyPost_ret (results_none rfl _ _ _) rfl ?_
          exact ⟨⟨_, rfl⟩, .inl ⟨_, ⟨k + 1, by omega, by rw [upto_succ, HP.out], .inr ⟨k, by omega, by rw [HE.out]; decide⟩⟩, hJ3⟩⟩
        · gi_wp2
          refine bodyPost_ret (results_none rfl _ _ _) rfl ?_
          exact ⟨⟨_, rfl⟩, .inr ⟨_, ⟨k + 1, by omega, by rw [upto_succ, HP.out]⟩, hJx3⟩⟩
    · obtain rfl : k = len := by omega
      gi_wp2
      go_end0
      exact ⟨⟨_, rfl⟩, .inl ⟨_, ⟨k, Nat.le_refl _, rfl, .inl rfl⟩, hJs⟩⟩
end Go.Proofs.Ytcnfdffdnenmdaa.num
