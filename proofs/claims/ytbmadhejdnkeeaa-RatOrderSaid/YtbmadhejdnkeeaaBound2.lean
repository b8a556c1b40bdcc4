/-
  What sums, not a bound and whether a difference keeps one are in package bound (plus, keptBy, Add, Not, Keeps), for every bound and number; no conditions beside the case that each theorem names.
-/
import Derived.Test.YtbmadhejdnkeeaaBound
namespace Go.Proofs.Ytbmadhejdnkeeaa.bound
open Go.ChangeShapes Go.WideShapes Go.ChangeAt Go.RowKit num
set_option linter.unusedVariables false

theorem bcell {W w1 : World} (hb : Below W.heap.size W w1) : (∀ b o, b < W.heap.size → w1.cell? ⟨b, o, none⟩ = W.cell? ⟨b, o, none⟩) ∧ (∀ b o, b < W.heap.size → w1.frozen? ⟨b, o, none⟩ = W.frozen? ⟨b, o, none⟩) :=
  ⟨fun b o h => hb.cell (p := ⟨b, o, none⟩) h, fun b o h => hb.frozen (p := ⟨b, o, none⟩) h⟩

theorem hsize {w1 w2 : World} {o : Obj} (h : Below (w1.alloc o).heap.size (w1.alloc o) w2) : w1.heap.size < w2.heap.size := by
  have := h.size
  simp at this
  omega

/-- does d keep the bound of c, strict or not? -/
def kept (d c : Int) (s : Bool) : Bool := decide (d < c) || (decide (d = c) && !s)
theorem kept_none (c d : Int) (s : Bool) (w : World) :
    Calls Try.prog 52 #[.agg #[.bool true, .int .i64 c, .bool s], .int .i64 d] w fun e w' => e = .returned (.bool true) ∧ Below w.heap.size w w' := by
  go_enter Try.func52, Try.ntmps52
  go_wp2
  go_ret
  exact ⟨rfl, up1 _ _⟩
theorem kept_ok (c d : Int) (s : Bool) (w : World) :
    Calls Try.prog 52 #[.agg #[.bool false, .int .i64 c, .bool s], .int .i64 d] w fun e w' => e = .returned (.bool (kept d c s)) ∧ Below w.heap.size w w' := by
  by_cases h : d < c
  · have e : kept d c s = true := by unfold kept; simp [h]
    rw [e]
    clear e
    go_enter Try.func52, Try.ntmps52
    go_wp2
    go_ret
    exact ⟨rfl, up1 _ _⟩
  · by_cases h2 : c < d
    · have e : kept d c s = false := by unfold kept; simp; omega
      rw [e]
      clear e
      have t1 : decide (d < c) = false := by simpa using h
      have t2 : (d == c) = false := by simp; omega
      go_enter Try.func52, Try.ntmps52
      go_wp2
      go_ret
      exact ⟨rfl, up1 _ _⟩
    · obtain rfl : d = c := by omega
      have e : kept d d s = !s := by unfold kept; simp
      rw [e]
      clear e h2 h
      go_enter Try.func52, Try.ntmps52
      go_wp2
      go_ret
      exact ⟨rfl, up1 _ _⟩

theorem not_none (w : World) :
    Calls Try.prog 26 #[.int .i64 9223372036854775807] w fun e w' => e = .returned (.tuple #[.int .i64 0, .int .i64 6]) ∧ Below w.heap.size w w' := by
  go_enter Try.func26, Try.ntmps26
  go_wp2_with (go_at_call 32; refine (value_none _).mono ?_; rintro e w1 ⟨rfl, hB1⟩)
  go_ret2
  exact ⟨rfl, hB1⟩
theorem not_no (b : Int) (w : World) (h0 : b < 9223372036854775807) (h : ¬ May (b / 2)) :
    Calls Try.prog 26 #[.int .i64 b] w fun e w' => e = .returned (.tuple #[.int .i64 0, .int .i64 8]) ∧ Below w.heap.size w w' := by
  have H := Lib.hid h
  clear h
  go_enter Try.func26, Try.ntmps26
  go_wp2_with (go_at_call 32; refine (value_no _ _ (by assumption) H.out).mono ?_; rintro e w1 ⟨rfl, hB1⟩)
  go_ret2
  exact ⟨rfl, hB1⟩
theorem not_ok (b : Int) (w : World) (h : May (b / 2)) :
    Calls Try.prog 26 #[.int .i64 b] w fun e w' => e = .returned (.tuple #[.int .i64 (mk (-(b / 2)) (!bS b)), .int .i64 0]) ∧ Below w.heap.size w w' := by
  have h2 : May (-(b / 2)) := by unfold May at h ⊢; omega
  obtain ⟨h3, h4⟩ := id h
  go_enter Try.func26, Try.ntmps26
  go_wp2_with fail
  refine (value_ok _ _ h).mono ?_
  rintro e w1 ⟨rfl, hB1⟩
  go_wp2_with fail
  refine (of_ok _ _ _ h2).mono ?_
  rintro e w2 ⟨rfl, hB2⟩
  go_wp2
  go_ret2
  exact ⟨rfl, later hB1 hB2⟩

theorem keeps_over (d b : Int) (w : World) (h : ¬ May d) :
    Calls Try.prog 27 #[.int .i64 d, .int .i64 b] w fun e w' => e = .returned (.tuple #[.bool false, .int .i64 10]) ∧ Below w.heap.size w w' := by
  have H := Lib.hid h
  clear h
  go_enter Try.func27, Try.ntmps27
  go_wp2_with (go_at_call 47; refine (check_no _ _ H.out).mono ?_; rintro e w' ⟨rfl, rfl⟩)
  go_ret2
  exact ⟨rfl, Below.refl _ _⟩
theorem keeps_bad (d b : Int) (w : World) (hd : May d) (h0 : b < 9223372036854775807) (h : ¬ May (b / 2)) :
    Calls Try.prog 27 #[.int .i64 d, .int .i64 b] w fun e w' => e = .returned (.tuple #[.bool false, .int .i64 8]) ∧ Below w.heap.size w w' := by
  have H := Lib.hid h
  clear h
  go_enter Try.func27, Try.ntmps27
  go_wp2_with (first | (go_at_call 47; refine (check_ok _ _ (by assumption)).mono ?_; rintro e w' ⟨rfl, rfl⟩) | (go_at_call 51; refine (take_no _ _ (by assumption) H.out).mono ?_; rintro e w1 ⟨rfl, hB1⟩))
  go_ret2
  exact ⟨rfl, up hB1 _⟩
theorem keeps_none (d : Int) (w : World) (hd : May d) :
    Calls Try.prog 27 #[.int .i64 d, .int .i64 9223372036854775807] w fun e w' => e = .returned (.tuple #[.bool true, .int .i64 0]) ∧ Below w.heap.size w w' := by
  go_enter Try.func27, Try.ntmps27
  go_wp2_with (first | (go_at_call 47; refine (check_ok _ _ (by assumption)).mono ?_; rintro e w' ⟨rfl, rfl⟩) | (go_at_call 51; refine (take_none _).mono ?_; rintro e w1 ⟨rfl, hB1⟩) | (go_at_call 52; refine (kept_none _ _ _ _).mono ?_; rintro e w2 ⟨rfl, hB2⟩))
  go_ret2
  exact ⟨rfl, later (up hB1 _) hB2⟩
theorem keeps_ok (d b : Int) (w : World) (hd : May d) (h : May (b / 2)) :
    Calls Try.prog 27 #[.int .i64 d, .int .i64 b] w fun e w' => e = .returned (.tuple #[.bool (kept d (b / 2) (bS b)), .int .i64 0]) ∧ Below w.heap.size w w' := by
  go_enter Try.func27, Try.ntmps27
  go_wp2_with (first | (go_at_call 47; refine (check_ok _ _ (by assumption)).mono ?_; rintro e w' ⟨rfl, rfl⟩) | (go_at_call 51; refine (take_ok _ _ (by assumption)).mono ?_; rintro e w1 ⟨rfl, hB1⟩) | (go_at_call 52; refine (kept_ok _ _ _ _).mono ?_; rintro e w2 ⟨rfl, hB2⟩))
  go_ret2
  exact ⟨rfl, later (up hB1 _) hB2⟩

/-- the answers, at whatever bound. -/
def mostV (c : Int) : Int := if May c then mk c false else 0
def lessV (c : Int) : Int := if May c then mk c true else 0
def chk2 (b : Int) : Int := if b = 9223372036854775807 ∨ May (b / 2) then 0 else 8
def valC (b : Int) : Int := if May (b / 2) then b / 2 else 0
def valS (b : Int) : Bool := if May (b / 2) then bS b else false
def valE (b : Int) : Int := if b = 9223372036854775807 then 6 else if May (b / 2) then 0 else 8
def badB (b : Int) : Prop := b ≠ 9223372036854775807 ∧ ¬ May (b / 2)
instance decBad (b : Int) : Decidable (badB b) := by unfold badB; exact inferInstance
def sumV (a b : Int) : Int := if badB a ∨ badB b then 0 else if a = 9223372036854775807 ∨ b = 9223372036854775807 then 9223372036854775807 else if May (a / 2 + b / 2) then mk (a / 2 + b / 2) (bS a || bS b) else 0
def sumE (a b : Int) : Int := if badB a ∨ badB b then 8 else if a = 9223372036854775807 ∨ b = 9223372036854775807 then 0 else if May (a / 2 + b / 2) then 0 else 10
def notV (b : Int) : Int := if May (b / 2) then mk (-(b / 2)) (!bS b) else 0
def keepV (d b : Int) : Bool := if May d then (if b = 9223372036854775807 then true else if May (b / 2) then kept d (b / 2) (bS b) else false) else false
def keepE (d b : Int) : Int := if May d then (if badB b then 8 else 0) else 10

theorem none_not : ¬ May (9223372036854775807 / 2) := by unfold May; omega
/-- a bound is none, may be, or may not be. -/
theorem three (b : Int) (hw : b ≤ 9223372036854775807) : b = 9223372036854775807 ∨ (b < 9223372036854775807 ∧ May (b / 2)) ∨ (b < 9223372036854775807 ∧ ¬ May (b / 2)) := by
  by_cases h : b = 9223372036854775807
  · exact .inl h
  · by_cases k : May (b / 2)
    · exact .inr (.inl ⟨by omega, k⟩)
    · exact .inr (.inr ⟨by omega, k⟩)
end Go.Proofs.Ytbmadhejdnkeeaa.bound
