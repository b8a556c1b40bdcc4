/-
  What sums, not a bound and whether a difference keeps one are in package bound (plus, keptBy, Add, Not, Keeps), for every bound and number; no conditions beside the case that each theorem names.
-/
import Derived.Test.YtlagnbbbokgdfaaBound
namespace Go.Proofs.Ytlagnbbbokgdfaa.bound
open Go.ChangeShapes Go.WideShapes Go.ChangeAt Go.RowKit num
set_option linter.unusedVariables false

theorem bcell {W w1 : World} (hb : Below W.heap.size W w1) : (∀ b o, b < W.heap.size → w1.cell? ⟨b, o, none⟩ = W.cell? ⟨b, o, none⟩) ∧ (∀ b o, b < W.heap.size → w1.frozen? ⟨b, o, none⟩ = W.frozen? ⟨b, o, none⟩) :=
  ⟨fun b o h => hb.cell (p := ⟨b, o, none⟩) h, fun b o h => hb.frozen (p := ⟨b, o, none⟩) h⟩

theorem hsize {w1 w2 : World} {o : Obj} (h : Below (w1.alloc o).heap.size (w1.alloc o) w2) : w1.heap.size < w2.heap.size := by
  have := h.size
  simp at this
  omega

theorem plus_none1 (c d : Int) (s m t : Bool) (w : World) :
    Calls Try.prog 40 #[.agg #[.bool true, .int .i64 c, .bool s], .agg #[.bool m, .int .i64 d, .bool t]] w fun e w' => e = .returned (.tuple #[.agg #[.bool true, .int .i64 0, .bool false], .int .i64 0]) ∧ Below w.heap.size w w' := by
  go_enter Try.func40, Try.ntmps40
  go_wp2
  exact bodyPost_ret (v := .tuple #[.agg #[.bool true, .int .i64 0, .bool false], .int .i64 0]) (by simp [results, Try.results40, go_sem]) rfl ⟨rfl, up3 _ _ _ _⟩
theorem plus_none2 (c d : Int) (s t : Bool) (w : World) :
    Calls Try.prog 40 #[.agg #[.bool false, .int .i64 c, .bool s], .agg #[.bool true, .int .i64 d, .bool t]] w fun e w' => e = .returned (.tuple #[.agg #[.bool true, .int .i64 0, .bool false], .int .i64 0]) ∧ Below w.heap.size w w' := by
  go_enter Try.func40, Try.ntmps40
  go_wp2
  exact bodyPost_ret (v := .tuple #[.agg #[.bool true, .int .i64 0, .bool false], .int .i64 0]) (by simp [results, Try.results40, go_sem]) rfl ⟨rfl, up3 _ _ _ _⟩
theorem plus_ok (c d : Int) (s t : Bool) (w : World) (hc : May c) (hd : May d) (hs : May (c + d)) :
    Calls Try.prog 40 #[.agg #[.bool false, .int .i64 c, .bool s], .agg #[.bool false, .int .i64 d, .bool t]] w fun e w' => e = .returned (.tuple #[.agg #[.bool false, .int .i64 (c + d), .bool (s || t)], .int .i64 0]) ∧ Below w.heap.size w w' := by
  cases s
  · show Calls _ _ _ _ fun e w' => e = .returned (.tuple #[.agg #[.bool false, .int .i64 (c + d), .bool t], .int .i64 0]) ∧ _
    go_enter Try.func40, Try.ntmps40
    go_wp2_with (go_at_call 60; refine (add_ok _ _ _ (by assumption) (by assumption) (by assumption)).mono ?_; rintro e w' ⟨rfl, rfl⟩)
    exact bodyPost_ret (v := .tuple #[.agg #[.bool false, .int .i64 (c + d), .bool t], .int .i64 0]) (by simp [results, Try.results40, go_sem]) rfl ⟨rfl, up3 _ _ _ _⟩
  · show Calls _ _ _ _ fun e w' => e = .returned (.tuple #[.agg #[.bool false, .int .i64 (c + d), .bool true], .int .i64 0]) ∧ _
    go_enter Try.func40, Try.ntmps40
    go_wp2_with (go_at_call 60; refine (add_ok _ _ _ (by assumption) (by assumption) (by assumption)).mono ?_; rintro e w' ⟨rfl, rfl⟩)
    exact bodyPost_ret (v := .tuple #[.agg #[.bool false, .int .i64 (c + d), .bool true], .int .i64 0]) (by simp [results, Try.results40, go_sem]) rfl ⟨rfl, up3 _ _ _ _⟩
theorem plus_no (c d : Int) (s t : Bool) (w : World) (hs : ¬ May (c + d)) :
    Calls Try.prog 40 #[.agg #[.bool false, .int .i64 c, .bool s], .agg #[.bool false, .int .i64 d, .bool t]] w fun e w' => e = .returned (.tuple #[.agg #[.bool false, .int .i64 0, .bool false], .int .i64 10]) ∧ Below w.heap.size w w' := by
  have H := Lib.hid (show ¬ (May c ∧ May d ∧ May (c + d)) from fun h => hs h.2.2)
  clear hs
  go_enter Try.func40, Try.ntmps40
  go_wp2_with (go_at_call 60; refine (add_no _ _ _ H.out).mono ?_; rintro e w' ⟨rfl, rfl⟩)
  exact bodyPost_ret (v := .tuple #[.agg #[.bool false, .int .i64 0, .bool false], .int .i64 10]) (by simp [results, Try.results40, go_sem]) rfl ⟨rfl, up3 _ _ _ _⟩

/-- does d keep the bound of c, strict or not? -/
def kept (d c : Int) (s : Bool) : Bool := decide (d < c) || (decide (d = c) && !s)
theorem add2_bad1 (a b : Int) (w : World) (h0 : a < 9223372036854775807) (h : ¬ May (a / 2)) :
    Calls Try.prog 23 #[.int .i64 a, .int .i64 b] w fun e w' => e = .returned (.tuple #[.int .i64 0, .int .i64 8]) ∧ Below w.heap.size w w' := by
  have H := Lib.hid h
  clear h
  go_enter Try.func23, Try.ntmps23
  go_wp2_with (go_at_call 39; refine (take_no _ _ (by assumption) H.out).mono ?_; rintro e w1 ⟨rfl, hB1⟩)
  go_ret2
  exact ⟨rfl, up hB1 _⟩
theorem add2_bad2n (b : Int) (w : World) (h0 : b < 9223372036854775807) (h : ¬ May (b / 2)) :
    Calls Try.prog 23 #[.int .i64 9223372036854775807, .int .i64 b] w fun e w' => e = .returned (.tuple #[.int .i64 0, .int .i64 8]) ∧ Below w.heap.size w w' := by
  have H := Lib.hid h
  clear h
  go_enter Try.func23, Try.ntmps23
  go_wp2_with fail
  refine (take_none _).mono ?_
  rintro e w1 ⟨rfl, hB1⟩
  go_wp2_with fail
  refine (take_no _ _ h0 H.out).mono ?_
  rintro e w2 ⟨rfl, hB2⟩
  go_wp2
  go_ret2
  exact ⟨rfl, up (later (up hB1 _) hB2) _⟩
theorem add2_bad2 (a b : Int) (w : World) (ha : May (a / 2)) (h0 : b < 9223372036854775807) (h : ¬ May (b / 2)) :
    Calls Try.prog 23 #[.int .i64 a, .int .i64 b] w fun e w' => e = .returned (.tuple #[.int .i64 0, .int .i64 8]) ∧ Below w.heap.size w w' := by
  have H := Lib.hid h
  clear h
  go_enter Try.func23, Try.ntmps23
  go_wp2_with fail
  refine (take_ok _ _ ha).mono ?_
  rintro e w1 ⟨rfl, hB1⟩
  go_wp2_with fail
  refine (take_no _ _ h0 H.out).mono ?_
  rintro e w2 ⟨rfl, hB2⟩
  go_wp2
  go_ret2
  exact ⟨rfl, up (later (up hB1 _) hB2) _⟩

theorem add2_ok (a b : Int) (w : World) (ha : May (a / 2)) (hb : May (b / 2)) (hs : May (a / 2 + b / 2)) :
    Calls Try.prog 23 #[.int .i64 a, .int .i64 b] w fun e w' => e = .returned (.tuple #[.int .i64 (mk (a / 2 + b / 2) (bS a || bS b)), .int .i64 0]) ∧ Below w.heap.size w w' := by
  have e : ∃ s, s = (bS a || bS b) := ⟨_, rfl⟩
  obtain ⟨s, e⟩ := e
  have E := Lib.hid e
  rw [← e]
  clear e
  go_enter Try.func23, Try.ntmps23
  go_wp2_with fail
  refine (take_ok _ _ ha).mono ?_
  rintro e w1 ⟨rfl, hB1⟩
  go_wp2_with fail
  refine (take_ok _ _ hb).mono ?_
  rintro e w2 ⟨rfl, hB2⟩
  obtain ⟨hc, hf⟩ := bcell hB2
  have hz := hsize hB2
  go_wp2_with fail
  refine (plus_ok _ _ _ _ _ ha hb hs).mono ?_
  rw [← E.out]
  rintro e w3 ⟨rfl, hB3⟩
  clear hc hf hz
  go_wp2_with fail
  refine (mbound_ok _ _ _ hs).mono ?_
  rintro e w4 ⟨rfl, hB4⟩
  go_wp2
  go_ret2
  exact ⟨rfl, later (up (later (up (later (up hB1 _) hB2) _) hB3) _) hB4⟩

theorem add2_over (a b : Int) (w : World) (ha : May (a / 2)) (hb : May (b / 2)) (hs : ¬ May (a / 2 + b / 2)) :
    Calls Try.prog 23 #[.int .i64 a, .int .i64 b] w fun e w' => e = .returned (.tuple #[.int .i64 0, .int .i64 10]) ∧ Below w.heap.size w w' := by
  have H := Lib.hid hs
  clear hs
  go_enter Try.func23, Try.ntmps23
  go_wp2_with fail
  refine (take_ok _ _ ha).mono ?_
  rintro e w1 ⟨rfl, hB1⟩
  go_wp2_with fail
  refine (take_ok _ _ hb).mono ?_
  rintro e w2 ⟨rfl, hB2⟩
  obtain ⟨hc, hf⟩ := bcell hB2
  have hz := hsize hB2
  go_wp2_with fail
  refine (plus_no _ _ _ _ _ H.out).mono ?_
  rintro e w3 ⟨rfl, hB3⟩
  clear hc hf hz
  go_wp2
  go_ret2
  exact ⟨rfl, up (later (up (later (up hB1 _) hB2) _) hB3) _⟩
theorem add2_nn (w : World) :
    Calls Try.prog 23 #[.int .i64 9223372036854775807, .int .i64 9223372036854775807] w fun e w' => e = .returned (.tuple #[.int .i64 9223372036854775807, .int .i64 0]) ∧ Below w.heap.size w w' := by
  go_enter Try.func23, Try.ntmps23
  go_wp2_with fail
  refine (take_none _).mono ?_
  rintro e w1 ⟨rfl, hB1⟩
  go_wp2_with fail
  refine (take_none _).mono ?_
  rintro e w2 ⟨rfl, hB2⟩
  obtain ⟨hc, hf⟩ := bcell hB2
  have hz := hsize hB2
  go_wp2_with fail
  refine (plus_none1 _ _ _ _ _ _).mono ?_
  rintro e w3 ⟨rfl, hB3⟩
  clear hc hf hz
  go_wp2_with fail
  refine (mbound_none _ _ _).mono ?_
  rintro e w4 ⟨rfl, hB4⟩
  go_wp2
  go_ret2
  exact ⟨rfl, later (up (later (up (later (up hB1 _) hB2) _) hB3) _) hB4⟩
theorem add2_no (b : Int) (w : World) (hb : May (b / 2)) :
    Calls Try.prog 23 #[.int .i64 9223372036854775807, .int .i64 b] w fun e w' => e = .returned (.tuple #[.int .i64 9223372036854775807, .int .i64 0]) ∧ Below w.heap.size w w' := by
  go_enter Try.func23, Try.ntmps23
  go_wp2_with fail
  refine (take_none _).mono ?_
  rintro e w1 ⟨rfl, hB1⟩
  go_wp2_with fail
  refine (take_ok _ _ hb).mono ?_
  rintro e w2 ⟨rfl, hB2⟩
  obtain ⟨hc, hf⟩ := bcell hB2
  have hz := hsize hB2
  go_wp2_with fail
  refine (plus_none1 _ _ _ _ _ _).mono ?_
  rintro e w3 ⟨rfl, hB3⟩
  clear hc hf hz
  go_wp2_with fail
  refine (mbound_none _ _ _).mono ?_
  rintro e w4 ⟨rfl, hB4⟩
  go_wp2
  go_ret2
  exact ⟨rfl, later (up (later (up (later (up hB1 _) hB2) _) hB3) _) hB4⟩
theorem add2_on (a : Int) (w : World) (ha : May (a / 2)) :
    Calls Try.prog 23 #[.int .i64 a, .int .i64 9223372036854775807] w fun e w' => e = .returned (.tuple #[.int .i64 9223372036854775807, .int .i64 0]) ∧ Below w.heap.size w w' := by
  go_enter Try.func23, Try.ntmps23
  go_wp2_with fail
  refine (take_ok _ _ ha).mono ?_
  rintro e w1 ⟨rfl, hB1⟩
  go_wp2_with fail
  refine (take_none _).mono ?_
  rintro e w2 ⟨rfl, hB2⟩
  obtain ⟨hc, hf⟩ := bcell hB2
  have hz := hsize hB2
  go_wp2_with fail
  refine (plus_none2 _ _ _ _ _).mono ?_
  rintro e w3 ⟨rfl, hB3⟩
  clear hc hf hz
  go_wp2_with fail
  refine (mbound_none _ _ _).mono ?_
  rintro e w4 ⟨rfl, hB4⟩
  go_wp2
  go_ret2
  exact ⟨rfl, later (up (later (up (later (up hB1 _) hB2) _) hB3) _) hB4⟩

/-- the answers, at whatever bound. -/
def mostV (c : Int) : Int := if May c then mk c false else 0
def lessV (c : Int) : Int := if May c then mk c true else 0
def chk2 (b : Int) : Int := if b = 9223372036854775807 ∨ May (b / 2) then 0 else 8
def valC (b : Int) : Int := if May (b / 2) then b / 2 else 0
def valS (b : Int) : Bool := if May (b / 2) then bS b else false
def valE (b : Int) : Int := if b = 9223372036854775807 then 6 else if May (b / 2) then 0 else 8
def badB (b : Int) : Prop := b ≠ 9223372036854775807 ∧ ¬ May (b / 2)
instance decBad (b : Int) : Decidable (badB b) := by unfold badB; exact inferInstance
def sumV (a b : Int) : Int := if badB a ∨ badB b then 0 else if a = 9223372036854775807 ∨ b = 9223372036854775807 then 9223372036854775807 else if May (a / 2 + b / 2) then mk (a / 2 + b / 2) (bS a || bS b) else 0
def sumE (a b : Int) : Int := if badB a ∨ badB b then 8 else if a = 9223372036854775807 ∨ b = 9223372036854775807 then 0 else if May (a / 2 + b / 2) then 0 else 10
def notV (b : Int) : Int := if May (b / 2) then mk (-(b / 2)) (!bS b) else 0
def keepV (d b : Int) : Bool := if May d then (if b = 9223372036854775807 then true else if May (b / 2) then kept d (b / 2) (bS b) else false) else false
def keepE (d b : Int) : Int := if May d then (if badB b then 8 else 0) else 10

theorem none_not : ¬ May (9223372036854775807 / 2) := by unfold May; omega
/-- a bound is none, may be, or may not be. -/
theorem three (b : Int) (hw : b ≤ 9223372036854775807) : b = 9223372036854775807 ∨ (b < 9223372036854775807 ∧ May (b / 2)) ∨ (b < 9223372036854775807 ∧ ¬ May (b / 2)) := by
  by_cases h : b = 9223372036854775807
  · exact .inl h
  · by_cases k : May (b / 2)
    · exact .inr (.inl ⟨by omega, k⟩)
    · exact .inr (.inr ⟨by omega, k⟩)
end Go.Proofs.Ytlagnbbbokgdfaa.bound
