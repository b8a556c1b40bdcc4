/-
  What each call of package bound answers, for every bound and number; no conditions beside the case that each theorem names.
-/
import Derived.Test.YtlagnbbbokgdfaaNumRef
import Derived.Test.YtlagnbbbokgdfaaLaw
import Derived.Deep.QuietTactic
import Derived.BigQuiet
namespace Go.Proofs.Ytlagnbbbokgdfaa.bound
open Go.ChangeShapes Go.WideShapes Go.ChangeAt Go.RowKit num
set_option linter.unusedVariables false

theorem bits_one (b : Int) (h1 : -9223372036854775808 ≤ b) (h2 : b ≤ 9223372036854775807) : bits .and .i64 b 1 = b % 2 := by
  have e : (BitVec.ofInt 64 b &&& BitVec.ofInt 64 1).toNat = (b % 2).toNat := by
    rw [BitVec.toNat_and]
    have : (BitVec.ofInt 64 1).toNat = 1 := by decide
    rw [this, Nat.and_one_is_mod, BitVec.toNat_ofInt]
    omega
  have e2 : bits .and .i64 b 1 = IntKind.i64.wrap ((BitVec.ofInt 64 b &&& BitVec.ofInt 64 1).toNat : Nat) := rfl
  rw [e2, e, IntKind.wrap]
  simp [IntKind.bits, IntKind.signed]
  omega

/-- what was made behind what was made. -/
theorem up {w w1 : World} (h : Below w.heap.size w w1) (o : Obj) : Below w.heap.size w (w1.alloc o) := h.alloc h.size o
theorem up1 (w : World) (o : Obj) : Below w.heap.size w (w.alloc o) := up (Below.refl _ _) o
theorem up2 (w : World) (o p : Obj) : Below w.heap.size w ((w.alloc o).alloc p) := up (up1 w o) p
theorem up3 (w : World) (o p q : Obj) : Below w.heap.size w (((w.alloc o).alloc p).alloc q) := up (up2 w o p) q
theorem later {w w1 w2 : World} (h : Below w.heap.size w w1) (k : Below w1.heap.size w1 w2) : Below w.heap.size w w2 := h.trans (k.mono h.size)
theorem drawn {w w1 : World} (h : Below w.heap.size w w1) (n : Nat) : Below w.heap.size w (w1.drewN n) := h.trans ⟨rfl, rfl, rfl, Nat.le_refl _, fun _ _ => rfl⟩

/-- is a bound strict? -/
def bS (b : Int) : Bool := decide (b % 2 = 0)
/-- the bound of a number. -/
def mk (c : Int) (s : Bool) : Int := if s then 2 * c else 2 * c + 1

theorem take_none (w : World) :
    Calls Try.prog 39 #[.int .i64 9223372036854775807] w fun e w' => e = .returned (.tuple #[.agg #[.bool true, .int .i64 0, .bool false], .int .i64 0]) ∧ Below w.heap.size w w' := by
  go_enter Try.func39, Try.ntmps39
  go_wp2
  exact bodyPost_ret (v := .tuple #[.agg #[.bool true, .int .i64 0, .bool false], .int .i64 0]) (by simp [results, Try.results39, go_sem]) rfl ⟨rfl, up1 _ _⟩

theorem take_ok (b : Int) (w : World) (hm : May (b / 2)) :
    Calls Try.prog 39 #[.int .i64 b] w fun e w' => e = .returned (.tuple #[.agg #[.bool false, .int .i64 (b / 2), .bool (bS b)], .int .i64 0]) ∧ Below w.heap.size w w' := by
  have h0 : b < 9223372036854775807 := by unfold May at hm; omega
  have h1 : -9223372036854775808 ≤ b := by unfold May at hm; omega
  have hq := bits_one b h1 (by omega)
  unfold bS
  by_cases hb : b % 2 = 0
  · rw [decide_eq_true hb]
    rw [hb] at hq
    clear hb
    go_enter Try.func39, Try.ntmps39
    go_wp2_with (go_at_call 43; refine (check_ok _ _ (by assumption)).mono ?_; rintro e w' ⟨rfl, rfl⟩)
    exact bodyPost_ret (v := .tuple #[.agg #[.bool false, .int .i64 (b / 2), .bool true], .int .i64 0]) (by simp [results, Try.results39, go_sem]) rfl ⟨rfl, up2 _ _ _⟩
  · rw [decide_eq_false hb]
    rw [show b % 2 = 1 by omega] at hq
    clear hb
    go_enter Try.func39, Try.ntmps39
    go_wp2_with (go_at_call 43; refine (check_ok _ _ (by assumption)).mono ?_; rintro e w' ⟨rfl, rfl⟩)
    exact bodyPost_ret (v := .tuple #[.agg #[.bool false, .int .i64 (b / 2), .bool false], .int .i64 0]) (by simp [results, Try.results39, go_sem]) rfl ⟨rfl, up2 _ _ _⟩

theorem take_no (b : Int) (w : World) (h0 : b < 9223372036854775807) (hm : ¬ May (b / 2)) :
    Calls Try.prog 39 #[.int .i64 b] w fun e w' => e = .returned (.tuple #[.agg #[.bool false, .int .i64 0, .bool false], .int .i64 8]) ∧ Below w.heap.size w w' := by
  have H := Lib.hid hm
  clear hm
  go_enter Try.func39, Try.ntmps39
  go_wp2_with (go_at_call 43; refine (check_no _ _ H.out).mono ?_; rintro e w' ⟨rfl, rfl⟩)
  exact bodyPost_ret (v := .tuple #[.agg #[.bool false, .int .i64 0, .bool false], .int .i64 8]) (by simp [results, Try.results39, go_sem]) rfl ⟨rfl, up2 _ _ _⟩

theorem mbound_none (c : Int) (s : Bool) (w : World) :
    Calls Try.prog 41 #[.agg #[.bool true, .int .i64 c, .bool s]] w fun e w' => e = .returned (.int .i64 9223372036854775807) ∧ Below w.heap.size w w' := by
  go_enter Try.func41, Try.ntmps41
  go_wp2
  go_ret
  exact ⟨rfl, up1 _ _⟩

theorem mbound_ok (c : Int) (s : Bool) (w : World) (h : May c) :
    Calls Try.prog 41 #[.agg #[.bool false, .int .i64 c, .bool s]] w fun e w' => e = .returned (.int .i64 (mk c s)) ∧ Below w.heap.size w w' := by
  obtain ⟨h1, h2⟩ := h
  cases s
  · show Calls _ _ _ _ fun e w' => e = .returned (.int .i64 (2 * c + 1)) ∧ _
    go_enter Try.func41, Try.ntmps41
    go_wp2
    go_ret
    exact ⟨rfl, up1 _ _⟩
  · show Calls _ _ _ _ fun e w' => e = .returned (.int .i64 (2 * c)) ∧ _
    go_enter Try.func41, Try.ntmps41
    go_wp2
    go_ret
    exact ⟨rfl, up1 _ _⟩

theorem value_none (w : World) :
    Calls Try.prog 47 #[.int .i64 9223372036854775807] w fun e w' => e = .returned (.tuple #[.int .i64 0, .bool false, .int .i64 6]) ∧ Below w.heap.size w w' := by
  go_enter Try.func47, Try.ntmps47
  go_wp2_with (go_at_call 39; refine (take_none _).mono ?_; rintro e w1 ⟨rfl, hB1⟩)
  exact bodyPost_ret (v := .tuple #[.int .i64 0, .bool false, .int .i64 6]) (by simp [results, Try.results47, go_sem]) rfl ⟨rfl, up hB1 _⟩
theorem value_ok (b : Int) (w : World) (h : May (b / 2)) :
    Calls Try.prog 47 #[.int .i64 b] w fun e w' => e = .returned (.tuple #[.int .i64 (b / 2), .bool (bS b), .int .i64 0]) ∧ Below w.heap.size w w' := by
  go_enter Try.func47, Try.ntmps47
  go_wp2_with (go_at_call 39; refine (take_ok _ _ (by assumption)).mono ?_; rintro e w1 ⟨rfl, hB1⟩)
  go_quiet (fail)
  go_wp2
  exact bodyPost_ret (v := .tuple #[.int .i64 (b / 2), .bool (bS b), .int .i64 0]) (by simp [results, Try.results47, go_sem]) rfl ⟨rfl, drawn (up hB1 _) _⟩
theorem value_no (b : Int) (w : World) (h0 : b < 9223372036854775807) (h : ¬ May (b / 2)) :
    Calls Try.prog 47 #[.int .i64 b] w fun e w' => e = .returned (.tuple #[.int .i64 0, .bool false, .int .i64 8]) ∧ Below w.heap.size w w' := by
  have H := Lib.hid h
  clear h
  go_enter Try.func47, Try.ntmps47
  go_wp2_with (go_at_call 39; refine (take_no _ _ (by assumption) H.out).mono ?_; rintro e w1 ⟨rfl, hB1⟩)
  exact bodyPost_ret (v := .tuple #[.int .i64 0, .bool false, .int .i64 8]) (by simp [results, Try.results47, go_sem]) rfl ⟨rfl, up hB1 _⟩
end Go.Proofs.Ytlagnbbbokgdfaa.bound
