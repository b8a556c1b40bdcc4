/-
  The document's own matrix that all times keep (rallentandoref04.All, Top), at any number of clocks; the condition: that is an int.
-/
import Derived.Test.YtlagnbbbokgdfaaDbmRef2
import Derived.Test.YtlagnbbbokgdfaaDbmTop
import Derived.Maps.AppendAt
namespace Go.Proofs.Ytlagnbbbokgdfaa.dref
open Go.ChangeShapes Go.WideShapes Go.ChangeAt Go.RowKit num dbm
open bound hiding up
set_option linter.unusedVariables false

/-- the first p of the matrix of n clocks. -/
def allP (n p : Nat) : List Int := (List.range p).map fun k => if k / n = k % n then 1 else 9223372036854775807
theorem allP_length (n p : Nat) : (allP n p).length = p := by simp [allP]
theorem allP_yes {n i : Nat} (h : i < n) : allP n (i * n + i + 1) = allP n (i * n + i) ++ [1] := by
  unfold allP
  rw [List.range_succ, List.map_append, List.map_singleton]
  have e1 : (i * n + i) / n = i := by rw [Nat.mul_comm, Nat.mul_add_div (by omega), Nat.div_eq_of_lt h]; rfl
  have e2 : (i * n + i) % n = i := by rw [Nat.mul_comm, Nat.mul_add_mod, Nat.mod_eq_of_lt h]
  rw [e1, e2, if_pos rfl]
theorem allP_no {n i j : Nat} (h : j < n) (hne : i ≠ j) : allP n (i * n + j + 1) = allP n (i * n + j) ++ [9223372036854775807] := by
  unfold allP
  rw [List.range_succ, List.map_append, List.map_singleton]
  have e1 : (i * n + j) / n = i := by rw [Nat.mul_comm, Nat.mul_add_div (by omega), Nat.div_eq_of_lt h]; rfl
  have e2 : (i * n + j) % n = j := by rw [Nat.mul_comm, Nat.mul_add_mod, Nat.mod_eq_of_lt h]
  rw [e1, e2, if_neg hne]

/-- what lies there while it is made. -/
def AllI (n p : Nat) (w W : World) : Prop := ∃ a l c, lies.Lies W w.heap.size 27 #[.int .i64 0, .slice none 0 0] ∧ lies.Lies W (w.heap.size + 1) 27 #[.int .i64 n, .slice a l c] ∧ W.ownsRow (w.heap.size + 1 + 1) 29 1 (.slice a l c) p ((allP n p).map (Value.int .i64)) ∧ Below w.heap.size w W
theorem AllI.grows {n p : Nat} {w W X : World} {a : Option Addr} {l c : Nat} {v' : Value} {x : Int} {E : World} (h0 : lies.Lies W w.heap.size 27 #[.int .i64 0, .slice none 0 0]) (h1 : lies.Lies W (w.heap.size + 1) 27 #[.int .i64 n, .slice a l c]) (hB : Below w.heap.size w W)
    (ho : W.ownsRow (w.heap.size + 1 + 1) 29 1 (.slice a l c) p ((allP n p).map (Value.int .i64))) (hown : X.ownsRow (w.heap.size + 1 + 1) 29 1 v' (p + 1) ((allP n p).map (Value.int .i64) ++ [.int .i64 x])) (hg : (W.alloc (.cells #[.int .i64 x] 29)).grownBy X (Value.slice a l c).ownBlock) :
    ∃ a' l' c', v' = .slice a' l' c' ∧ lies.Lies X w.heap.size 27 #[.int .i64 0, .slice none 0 0] ∧ lies.Lies X (w.heap.size + 1) 27 #[.int .i64 n, .slice a l c] ∧ Below w.heap.size w X := by
  have hs : ∀ k, (Value.slice a l c).ownBlock = some k → w.heap.size + 1 + 1 ≤ k := fun k hk => (ho.lt k hk).1
  have b0 := lies.on_alloc h0 (.cells #[.int .i64 x] 29)
  have b1 := lies.on_alloc h1 (.cells #[.int .i64 x] 29)
  have e : ∃ a' l' c', v' = .slice a' l' c' := by
    rcases Go.Joins.ownsRow_forms hown with ⟨rfl, _⟩ | ⟨g, cap, rfl⟩
    · exact ⟨_, _, _, rfl⟩
    · exact ⟨_, _, _, rfl⟩
  obtain ⟨a', l', c', rfl⟩ := e
  refine ⟨a', l', c', rfl, (hg.block _ (lies.lt b0) (fun e => by have := hs _ e.symm; omega)).trans b0, (hg.block _ (lies.lt b1) (fun e => by have := hs _ e.symm; omega)).trans b1, ?_⟩
  exact (hB.alloc hB.size _).grown hg (by have := hB.size; simp; omega) (fun k e => by have := hs k e; omega)

set_option maxRecDepth 100000 in
set_option maxHeartbeats 4000000 in
theorem all_is (n : Nat) (w : World) (h0 : 0 < n) (hn : n ≤ 4) : Calls Try.prog 38 #[.int .i64 n] w fun e w' => Below w.heap.size w w' ∧ ∃ v, e = .returned (.agg #[.int .i64 n, v]) ∧ w'.ownsRow w.heap.size 29 1 v (n * n) ((allP n (n * n)).map (Value.int .i64)) := by
  obtain ⟨i0, hi, hz0, hz1, hz2⟩ := info_parts info_b
  have HI := Lib.hid (And.intro hi (And.intro hz0 (And.intro hz1 hz2)))
  clear hi hz0 hz1 hz2
  have hsq := sq_le hn
  have A0 : AllI n (0 * n) w ((w.alloc (.cells #[.int .i64 0, .slice none 0 0] 27)).alloc (.cells #[.int .i64 n, .slice none 0 0] 27)) := by
    refine ⟨none, 0, 0, lies.on_alloc (lies.made w _ _) _, lies.made_at _ _ _ _ (World.size_alloc _ _), ?_, bound.up2 _ _ _⟩
    rw [Nat.zero_mul]
    exact World.ownsRow_nil _ _ _ _
  go_enter Try.func38, Try.ntmps38
  go_wp2
  go_loopw [4] (fun i wr => ∃ k : Nat, k ≤ n ∧ i = .int .i64 k ∧ AllI n (k * n) w wr) (fun i _ => n - (intOf i).toNat)
  case atStart => exact ⟨0, Nat.zero_le _, rfl, A0⟩
  case round =>
    clear A0
    obtain ⟨k, hk, rfl, hA⟩ := hrel
    by_cases hkn : k < n
    · go_wp2_with fail
      obtain ⟨wo, rfl⟩ : ∃ wo : World, wo = wr := ⟨_, rfl⟩
      go_loopw [5] (fun j wx => ∃ m : Nat, m ≤ n ∧ j = .int .i64 m ∧ AllI n (k * n + m) w wx) (fun j _ => n - (intOf j).toNat)
      case atStart => exact ⟨0, Nat.zero_le _, rfl, hA⟩
      case round =>
        clear hA
        obtain ⟨m, hm, rfl, hA⟩ := hrel
        by_cases hmn : m < n
        · obtain ⟨a, l, c, l0, l1, hO, hB⟩ := hA
          obtain ⟨c0, c1, f0, f1, hlt⟩ := lies.two l1
          have hp := place_le hn hkn hmn
          by_cases hkm : k = m
          · obtain rfl : k = m := hkm
            have t1 : ((k : Int) == k) = true := by simp
            go_wp2_with (at_builtin; refine wpList_append_own _ rfl (.tmp 22) (.tmp 23) 25 rfl (w.heap.size + 1 + 1) 29 i0 (.int .i64 0) 1 8 Try.underlying25 HI.out.1 HI.out.2.1 HI.out.2.2.1 HI.out.2.2.2 rfl (by decide) _ _ _ rfl (hO.alloc _) ⟨wr.heap.size, 0, none⟩ 1 1 [.int .i64 1] rfl rfl (cell_one_new _ _ _) (by simp [Value.oneCell']) (by unfold maxLen; omega) (by omega) (by have := hB.size; simp; omega) ?_; intro v' w1 hown' hgrow _; obtain ⟨a', l', c', rfl, l0', l1', hB'⟩ := AllI.grows (E := wr) l0 l1 hB hO hown' hgrow; obtain ⟨x0, x1, x2, x3, x4⟩ := lies.two l1')
            go_roundw
            case rel => exact ⟨k + 1, by omega, by go_num, a', l', c', lies.on_far l0' 1 (by omega) _, lies.on_put l1' 1 _, (by rw [← Nat.add_assoc, allP_yes hkn, List.map_append]; exact own_other hown' (p := ⟨w.heap.size + 1, 1, none⟩) (by simp) _), hB'.setCell (p := ⟨w.heap.size + 1, 1, none⟩) (by simp) _⟩
            case measure => simp [intOf]; omega
          · have t1 : ((k : Int) == m) = false := by simp; omega
            have HK := Lib.hid hkm
            clear hkm
            go_wp2_with (at_builtin; refine wpList_append_own _ rfl (.tmp 27) (.tmp 28) 25 rfl (w.heap.size + 1 + 1) 29 i0 (.int .i64 0) 1 8 Try.underlying25 HI.out.1 HI.out.2.1 HI.out.2.2.1 HI.out.2.2.2 rfl (by decide) _ _ _ rfl (hO.alloc _) ⟨wr.heap.size, 0, none⟩ 1 1 [.int .i64 9223372036854775807] rfl rfl (cell_one_new _ _ _) (by simp [Value.oneCell']) (by unfold maxLen; omega) (by omega) (by have := hB.size; simp; omega) ?_; intro v' w1 hown' hgrow _; obtain ⟨a', l', c', rfl, l0', l1', hB'⟩ := AllI.grows (E := wr) l0 l1 hB hO hown' hgrow; obtain ⟨x0, x1, x2, x3, x4⟩ := lies.two l1')
            go_roundw
            case rel => exact ⟨m + 1, by omega, by go_num, a', l', c', lies.on_far l0' 1 (by omega) _, lies.on_put l1' 1 _, (by rw [← Nat.add_assoc, allP_no hmn HK.out, List.map_append]; exact own_other hown' (p := ⟨w.heap.size + 1, 1, none⟩) (by simp) _), hB'.setCell (p := ⟨w.heap.size + 1, 1, none⟩) (by simp) _⟩
            case measure => simp [intOf]; omega
        · obtain rfl : n = m := by omega
          go_wp2_with fail
          go_roundw
          case rel => exact ⟨k + 1, by omega, by go_num, by rw [Nat.add_mul, Nat.one_mul]; exact hA⟩
          case measure => simp [intOf]; omega
    · obtain rfl : n = k := by omega
      obtain ⟨a, l, c, l0, l1, hO, hB⟩ := hA
      obtain ⟨c0, c1, f0, f1, hlt⟩ := lies.two l1
      obtain ⟨d0, d1, e0, e1, hlu⟩ := lies.two l0
      go_wp2_with fail
      refine bodyPost_ret (v := .agg #[.int .i64 n, .slice a l c]) (by simp [results, Try.results38, go_sem, d0, d1]) rfl ⟨?_, _, rfl, ?_⟩
      · exact (hB.setCell (p := ⟨w.heap.size, 0, none⟩) (by simp) _).setCell (p := ⟨w.heap.size, 1, none⟩) (by simp) _
      · exact Go.Joins.ownsRow_le (own_other (own_other hO (p := ⟨w.heap.size, 0, none⟩) (by simp; omega) _) (p := ⟨w.heap.size, 1, none⟩) (by simp; omega) _) (by omega)
end Go.Proofs.Ytlagnbbbokgdfaa.dref
