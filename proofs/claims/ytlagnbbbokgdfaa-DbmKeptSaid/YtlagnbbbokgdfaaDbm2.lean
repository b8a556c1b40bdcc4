/-
  What a matrix under way answers of whether it is empty; each theorem names its conditions.
-/
import Derived.Test.YtlagnbbbokgdfaaDbm1
namespace Go.Proofs.Ytlagnbbbokgdfaa.dbm
open Go.ChangeShapes Go.WideShapes Go.ChangeAt Go.RowKit num
open bound hiding up
set_option linter.unusedVariables false

/-- ints in a row. -/
def Row (W : World) (b off : Nat) (ts : List Int) : Prop := ∀ p, p < ts.length → W.cell? ⟨b, off + p, none⟩ = some (.int .i64 (ts[p]?.getD 0))
theorem Row.below {n : Nat} {W W' : World} {b off : Nat} {ts : List Int} (h : Row W b off ts) (k : Below n W W') (hb : b < n) : Row W' b off ts := fun p hp => (k.cell (p := ⟨b, off + p, none⟩) hb).trans (h p hp)
/-- the number at a place. -/
def tat (ts : List Int) (n i j : Nat) : Int := ts[i * n + j]?.getD 0

theorem wrap_small {x : Int} (h1 : 0 ≤ x) (h2 : x ≤ 1000000) : IntKind.i64.wrap x = x := IntWalk.i64_in _ (by omega)
theorem place_le {n i j : Nat} (hn : n ≤ 4) (hi : i < n) (hj : j < n) : i * n + j < n * n := by
  have : (i + 1) * n ≤ n * n := Nat.mul_le_mul_right n hi
  rw [Nat.add_mul, Nat.one_mul] at this
  omega
theorem sq_le {n : Nat} (hn : n ≤ 4) : n * n ≤ 16 := Nat.mul_le_mul hn hn
/-- at, at clocks of a matrix. -/
theorem at_nat (n i j b off cap : Nat) (w : World) (hn : n ≤ 4) (hi : i < n) (hj : j < n) :
    Calls Try.prog 27 #[.agg #[.int .i64 n, .slice (some ⟨b, off, none⟩) (n * n) cap], .int .i64 i, .int .i64 j] w fun e w' => e = .returned (.pointer (some ⟨b, off + (i * n + j), none⟩)) ∧ w' = w.alloc (.cells #[.int .i64 n, .slice (some ⟨b, off, none⟩) (n * n) cap] 54) := by
  have h1 := place_le hn hi hj
  have h2 := sq_le hn
  have e1 : ((i * n : Nat) : Int) = (i : Int) * n := Int.natCast_mul i n
  have e2 : ((i * n + j : Nat) : Int) = (i : Int) * n + j := by rw [Int.natCast_add, e1]
  refine at_is n i j (i * n) (i * n + j) b off (n * n) cap (i * n + j) w (wrap_small (by omega) (by omega)) (wrap_small (by omega) (by omega)) (by omega) ?_ (by omega)
  rw [← e2]
  exact Int.ofNat_lt.2 h1

/-- has a matrix a clock that would have to be before itself? -/
def Emp (n : Nat) (ts : List Int) (w : World) (e : Ending) (w' : World) : Prop :=
  Below w.heap.size w w' ∧ ∃ b : Bool, e = .returned (.bool b) ∧ (b = true → ∃ i, i < n ∧ tat ts n i i < 1) ∧ (b = false → ∀ i, i < n → 1 ≤ tat ts n i i)

set_option maxHeartbeats 1000000 in
theorem empty_any (n b off cap : Nat) (ts : List Int) (w : World) (hn : n ≤ 4) (hl : ts.length = n * n) (hr : Row w b off ts) (hb : b < w.heap.size) :
    Calls Try.prog 29 #[.agg #[.int .i64 n, .slice (some ⟨b, off, none⟩) (n * n) cap]] w (Emp n ts w) := by
  have HR := Lib.hid hr
  have HL := Lib.hid hl
  clear hr hl
  go_enter Try.func29, Try.ntmps29
  go_wp2
  go_loopw [7] (fun i wr => ∃ k : Nat, k ≤ n ∧ i = .int .i64 k ∧ RowKit.Hid (∀ m, m < k → 1 ≤ tat ts n m m) ∧ lies.Lies wr w.heap.size 54 #[.int .i64 n, .slice (some ⟨b, off, none⟩) (n * n) cap] ∧ Below w.heap.size w wr)
    (fun i _ => n - (intOf i).toNat)
  case atStart => exact ⟨0, Nat.zero_le _, rfl, Lib.hid (fun m hm => absurd hm (by omega)), lies.made _ _ _, (Below.refl _ _).alloc (Nat.le_refl _) _⟩
  case round =>
    obtain ⟨k, hk, rfl, hpos, hbox, hB⟩ := hrel
    obtain ⟨c0, c1, f0, f1, hlt⟩ := lies.two hbox
    by_cases hkn : k < n
    · have hc : wr.cell? ⟨b, off + (k * n + k), none⟩ = some (.int .i64 (tat ts n k k)) := (HR.out.below hB hb) _ (by rw [HL.out]; exact place_le hn hkn hkn)
      have hbw : b < wr.heap.size := by have := hB.size; omega
      generalize hx : tat ts n k k = x at hc
      have HX := Lib.hid hx
      clear hx
      by_cases h1 : x < 1
      · go_wp2_with (go_at_call 27; refine (at_nat n k k b off cap _ hn hkn hkn).mono ?_; rintro e w' ⟨rfl, rfl⟩)
        go_ret
        exact ⟨hB.alloc hB.size _, true, rfl, fun _ => ⟨k, hkn, by rw [HX.out]; exact h1⟩, fun h => by cases h⟩
      · go_wp2_with (go_at_call 27; refine (at_nat n k k b off cap _ hn hkn hkn).mono ?_; rintro e w' ⟨rfl, rfl⟩)
        go_roundw
        case rel => exact ⟨k + 1, by omega, by go_num, Lib.hid (fun m hm => by
          by_cases e : m = k
          · subst e; rw [HX.out]; omega
          · exact hpos.out m (by omega)), lies.on_alloc hbox _, hB.alloc hB.size _⟩
        case measure => simp [intOf]; omega
    · obtain rfl : k = n := by omega
      go_wp2
      go_ret
      exact ⟨hB, false, rfl, (fun h => by cases h), fun _ => hpos.out⟩
end Go.Proofs.Ytlagnbbbokgdfaa.dbm
