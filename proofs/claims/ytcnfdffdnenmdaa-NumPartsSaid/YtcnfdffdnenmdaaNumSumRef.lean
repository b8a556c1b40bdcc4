/-
  What the document's own sum (rallentandoref01.Sum) answers for every slice of ints: the same as num.Sum; the world is left as it is. Condition: the slice holds at most 2^44 ints.
-/
import Derived.Test.YtcnfdffdnenmdaaNumSum2
namespace Go.Proofs.Ytcnfdffdnenmdaa.num
open Go.RowKit law
set_option linter.unusedVariables false

theorem radd_ok (a b : Int) (w : World) (h : addE a b = 0) :
    Calls Try.prog 14 #[.int .i64 a, .int .i64 b] w fun e w' => e = .returned (.tuple #[.int .i64 (addV a b), .int .i64 0]) ∧ w = w' := by
  have := radd_any a b w
  rw [h] at this
  exact this
theorem radd_no (a b : Int) (w : World) (h : addE a b = 10) :
    Calls Try.prog 14 #[.int .i64 a, .int .i64 b] w fun e w' => e = .returned (.tuple #[.int .i64 (addV a b), .int .i64 10]) ∧ w = w' := by
  have := radd_any a b w
  rw [h] at this
  exact this

def GoodTo (zs : List Int) (k : Nat) : Prop := ∀ j, j < k → EE zs j = 0
theorem GoodTo.succ {zs : List Int} {k : Nat} (h : GoodTo zs k) (e : EE zs k = 0) : GoodTo zs (k + 1) := by
  intro j hj
  by_cases hk : j = k
  · rw [hk]; exact e
  · exact h j (by omega)
theorem sumV_good {zs : List Int} (h : GoodTo zs zs.length) : sumV zs = SS zs zs.length ∧ sumE zs = 0 := by
  have hg : Good zs := h
  unfold sumV sumE
  rw [if_pos hg, if_pos hg]
  exact ⟨rfl, rfl⟩
theorem sumV_bad {zs : List Int} {k : Nat} (hk : k < zs.length) (h : EE zs k = 10) : sumV zs = 0 ∧ sumE zs = 10 := by
  have hg : ¬ Good zs := fun g => by have := g k hk; omega
  unfold sumV sumE
  rw [if_neg hg, if_neg hg]
  exact ⟨rfl, rfl⟩
theorem ret_two {a b c d : Int} (h : a = c) (h' : b = d) : Ending.returned (.tuple #[.int .i64 a, .int .i64 b]) = .returned (.tuple #[.int .i64 c, .int .i64 d]) := by rw [h, h']

set_option maxHeartbeats 1000000 in
theorem rsum_nil (a : Option Addr) (cap : Nat) (w : World) :
    Calls Try.prog 21 #[.slice a 0 cap] w fun e w' => e = .returned (.tuple #[.int .i64 0, .int .i64 0]) ∧ w = w' := by
  go_enter Try.func21, Try.ntmps21
  go_wp2
  go_loop [4, 5] (fun s i => i = .int .i64 0 ∧ s = .int .i64 0) (fun _ _ => 0)
  case atStart => exact ⟨rfl, rfl⟩
  case round =>
    obtain ⟨rfl, rfl⟩ := hrel
    go_wp2
    go_ret2
    exact ⟨rfl, rfl⟩

set_option maxHeartbeats 1000000 in
theorem rsum_some (b off len cap : Nat) (zs : List Int) (hl : zs.length = len) (hreach : len * 8 ≤ 140737488351232) (w : World) (hc : ∀ j, j < len → w.cell? ⟨b, off + j, none⟩ = some (.int .i64 (zs[j]?.getD 0))) :
    Calls Try.prog 21 #[.slice (some ⟨b, off, none⟩) len cap] w fun e w' => e = .returned (.tuple #[.int .i64 (sumV zs), .int .i64 (sumE zs)]) ∧ w = w' := by
  have HC := Lib.hid hc
  have HL := Lib.hid hl
  clear hc hl
  go_enter Try.func21, Try.ntmps21
  go_wp2
  go_loop [4, 5] (fun s i => ∃ k : Nat, k ≤ len ∧ i = .int .i64 k ∧ s = .int .i64 (SS zs k) ∧ GoodTo zs k) (fun _ i => len - (intOf i).toNat)
  case atStart => exact ⟨0, Nat.zero_le _, rfl, rfl, fun j hj => by omega⟩
  case round =>
    obtain ⟨k, hk, rfl, rfl, hg⟩ := hrel
    by_cases hlt : k < len
    · have hcx := HC.out k hlt
      rcases EE_two zs k with he | he
      · have HE := Lib.hid he
        clear he
        go_wp2_with (go_at_call 14; refine (radd_ok _ _ _ HE.out).mono ?_; rintro e w' ⟨rfl, rfl⟩)
        go_round
        case rel => exact ⟨k + 1, by omega, by go_num, rfl, hg.succ HE.out⟩
        case measure => simp [intOf]; omega
      · have HE := Lib.hid he
        clear he
        go_wp2_with (go_at_call 14; refine (radd_no _ _ _ HE.out).mono ?_; rintro e w' ⟨rfl, rfl⟩)
        go_ret2
        have hb := sumV_bad (by rw [HL.out]; exact hlt) HE.out
        exact ⟨ret_two hb.1.symm hb.2.symm, rfl⟩
    · obtain rfl : k = len := by omega
      go_wp2
      go_ret2
      have hb := sumV_good (zs := zs) (by rw [HL.out]; exact hg)
      exact ⟨ret_two (by rw [hb.1, HL.out]) hb.2.symm, rfl⟩

theorem rsum_any (a : Option Addr) (len cap : Nat) (zs : List Int) (hreach : zs.length * 8 ≤ 140737488351232) (w : World) (hI : Ints w.heap.size w (.slice a len cap) zs) :
    Calls Try.prog 21 #[.slice a len cap] w fun e W' => e = .returned (.tuple #[.int .i64 (sumV zs), .int .i64 (sumE zs)]) ∧ w = W' := by
  rcases hI with ⟨⟨a', cap', e, _⟩, rfl⟩ | ⟨b, off, cap', e, hb, hcs⟩
  · simp only [Value.slice.injEq] at e
    obtain ⟨rfl, rfl, rfl⟩ := e
    exact rsum_nil _ _ w
  · simp only [Value.slice.injEq] at e
    obtain ⟨rfl, rfl, rfl⟩ := e
    exact rsum_some b off _ _ zs rfl hreach w hcs
end Go.Proofs.Ytcnfdffdnenmdaa.num
