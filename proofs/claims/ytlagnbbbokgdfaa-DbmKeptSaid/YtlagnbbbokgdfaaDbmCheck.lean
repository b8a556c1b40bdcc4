/-
  Whether a matrix may be (dbm.Check), at any number of clocks and any bounds; the conditions: they are ints, in memory.
-/
import Derived.Test.YtlagnbbbokgdfaaDbm2
import Derived.Test.YtlagnbbbokgdfaaBoundAny
namespace Go.Proofs.Ytlagnbbbokgdfaa.dbm
open Go.ChangeShapes Go.WideShapes Go.ChangeAt Go.RowKit num
open bound hiding up
set_option linter.unusedVariables false

/-- a bound that a matrix may have. -/
def Fine (b : Int) : Prop := b = 9223372036854775807 ∨ (-288230376151711744 ≤ b / 2 ∧ b / 2 ≤ 288230376151711744)
instance decFine (b : Int) : Decidable (Fine b) := by unfold Fine; exact inferInstance

theorem beyond_no (b : Int) (w : World) (h : Fine b) : Calls Try.prog 36 #[.int .i64 b] w fun e w' => e = .returned (.bool false) ∧ Below w.heap.size w w' := by
  rcases h with rfl | ⟨h1, h2⟩
  · go_enter Try.func36, Try.ntmps36
    go_wp2_with (go_at_call 47; refine (value_none _).mono ?_; rintro e w1 ⟨rfl, hB1⟩)
    go_ret
    exact ⟨rfl, hB1⟩
  · have hm : May (b / 2) := by unfold May; omega
    have t1 : decide (b / 2 < -288230376151711744) = false := decide_eq_false (by omega)
    have t2 : decide (288230376151711744 < b / 2) = false := decide_eq_false (by omega)
    go_enter Try.func36, Try.ntmps36
    go_wp2_with (go_at_call 47; refine (value_ok _ _ hm).mono ?_; rintro e w1 ⟨rfl, hB1⟩)
    go_ret
    exact ⟨rfl, hB1⟩
theorem beyond_yes (b : Int) (w : World) (hw : b ≤ 9223372036854775807) (h : ¬ Fine b) : Calls Try.prog 36 #[.int .i64 b] w fun e w' => e = .returned (.bool true) ∧ Below w.heap.size w w' := by
  rcases three b hw with rfl | ⟨h0, hm⟩ | ⟨h0, hm⟩
  · exact (h (.inl rfl)).elim
  · by_cases h1 : b / 2 < -288230376151711744
    · clear h
      go_enter Try.func36, Try.ntmps36
      go_wp2_with (go_at_call 47; refine (value_ok _ _ hm).mono ?_; rintro e w1 ⟨rfl, hB1⟩)
      go_ret
      exact ⟨rfl, hB1⟩
    · have h2 : 288230376151711744 < b / 2 := Decidable.byContradiction fun k => h (.inr ⟨by omega, by omega⟩)
      clear h
      go_enter Try.func36, Try.ntmps36
      go_wp2_with (go_at_call 47; refine (value_ok _ _ hm).mono ?_; rintro e w1 ⟨rfl, hB1⟩)
      go_ret
      exact ⟨rfl, hB1⟩
  · have H := Lib.hid hm
    clear hm h
    go_enter Try.func36, Try.ntmps36
    go_wp2_with (go_at_call 47; refine (value_no _ _ h0 H.out).mono ?_; rintro e w1 ⟨rfl, hB1⟩)
    go_ret
    exact ⟨rfl, hB1⟩

/-- where the first one lies that a matrix may not have. -/
def Idx (ts : List Int) (w : World) (e : Ending) (w' : World) : Prop := Below w.heap.size w w' ∧ ((e = .returned (.int .i64 (-1)) ∧ ∀ p, p < ts.length → Fine (ts[p]?.getD 0)) ∨ ∃ k : Nat, k < ts.length ∧ e = .returned (.int .i64 k) ∧ ¬ Fine (ts[k]?.getD 0))
theorem idx_nil (a : Option Addr) (cap : Nat) (w : World) :
    Calls Try.prog 59 #[.slice a 0 cap, .func (.func 36) #[] #[]] w (Idx [] w) := by
  go_enter Try.func59, Try.ntmps59
  go_wp2
  go_loop [8] (fun i => i = .int .i64 0) (fun _ => 0)
  case atStart => rfl
  case round =>
    obtain rfl := hrel
    go_wp2
    go_ret
    exact ⟨Below.refl _ _, .inl ⟨rfl, fun p hp => absurd hp (by simp)⟩⟩

set_option maxHeartbeats 1000000 in
theorem idx_row (b off len cap : Nat) (ts : List Int) (w : World) (hr : Row w b off ts) (hb : b < w.heap.size) (hl : ts.length = len) (hm : len ≤ 9223372036854775807) (htop : ∀ x ∈ ts, x ≤ 9223372036854775807) :
    Calls Try.prog 59 #[.slice (some ⟨b, off, none⟩) len cap, .func (.func 36) #[] #[]] w (Idx ts w) := by
  have HR := Lib.hid hr
  have HL := Lib.hid hl
  have HT := Lib.hid htop
  clear hr hl htop
  go_enter Try.func59, Try.ntmps59
  go_wp2
  go_loopw [8] (fun i wr => ∃ k : Nat, k ≤ len ∧ i = .int .i64 k ∧ RowKit.Hid (∀ p, p < k → Fine (ts[p]?.getD 0)) ∧ Below w.heap.size w wr)
    (fun i _ => len - (intOf i).toNat)
  case atStart => exact ⟨0, Nat.zero_le _, rfl, Lib.hid (fun m hm => absurd hm (by omega)), Below.refl _ _⟩
  case round =>
    obtain ⟨k, hk, rfl, hpos, hB⟩ := hrel
    by_cases hkn : k < len
    · have hc : wr.cell? ⟨b, off + k, none⟩ = some (.int .i64 (ts[k]?.getD 0)) := (HR.out.below hB hb) _ (by rw [HL.out]; exact hkn)
      have hxt : ts[k]?.getD 0 ≤ 9223372036854775807 := by
        have h1 : k < ts.length := by rw [HL.out]; exact hkn
        rw [List.getElem?_eq_getElem h1]
        exact HT.out _ (List.getElem_mem h1)
      generalize hx : ts[k]?.getD 0 = x at hc hxt
      have HX := Lib.hid hx
      clear hx
      by_cases h1 : Fine x
      · have H1 := Lib.hid h1
        clear h1
        go_wp2_with (go_at_call 36; refine (beyond_no x _ H1.out).mono ?_; rintro e w1 ⟨rfl, hB1⟩)
        go_roundw
        case rel => exact ⟨k + 1, by omega, by go_num, Lib.hid (fun m hm => by
          by_cases e : m = k
          · subst e; rw [HX.out]; exact H1.out
          · exact hpos.out m (by omega)), hB.trans (hB1.mono hB.size)⟩
        case measure => simp [intOf]; omega
      · have H1 := Lib.hid h1
        clear h1
        go_wp2_with (go_at_call 36; refine (beyond_yes x _ hxt H1.out).mono ?_; rintro e w1 ⟨rfl, hB1⟩)
        go_ret
        exact ⟨hB.trans (hB1.mono hB.size), .inr ⟨k, by rw [HL.out]; exact hkn, rfl, by rw [HX.out]; exact H1.out⟩⟩
    · obtain rfl : k = len := by omega
      go_wp2
      go_ret
      exact ⟨hB, .inl ⟨rfl, fun p hp => hpos.out p (by rw [← HL.out]; exact hp)⟩⟩
theorem idx_any (sv : Value) (ts : List Int) (w : World) (hI : law.Ints w.heap.size w sv ts) (hm : ts.length ≤ 9223372036854775807) (htop : ∀ x ∈ ts, x ≤ 9223372036854775807) :
    Calls Try.prog 59 #[sv, .func (.func 36) #[] #[]] w (Idx ts w) := by
  rcases hI with ⟨⟨a, cap, rfl, _⟩, rfl⟩ | ⟨b, off, cap, rfl, hb, hc⟩
  · exact idx_nil a cap w
  · exact idx_row b off _ cap ts w hc hb rfl hm htop

theorem contains_any (sv : Value) (ts : List Int) (w : World) (hI : law.Ints w.heap.size w sv ts) (hm : ts.length ≤ 9223372036854775807) (htop : ∀ x ∈ ts, x ≤ 9223372036854775807) :
    Calls Try.prog 35 #[sv, .func (.func 36) #[] #[]] w fun e w' => e = .returned (.bool (!decide (∀ p, p < ts.length → Fine (ts[p]?.getD 0)))) ∧ Below w.heap.size w w' := by
  have HI := Lib.hid hI
  have HT := Lib.hid htop
  clear hI htop
  by_cases hf : ∀ p, p < ts.length → Fine (ts[p]?.getD 0)
  · rw [decide_eq_true hf]
    have HF := Lib.hid hf
    clear hf
    go_enter Try.func35, Try.ntmps35
    go_wp2_with (go_at_call 59; refine ((idx_any sv ts w HI.out hm HT.out).mono (R' := fun e w' => e = .returned (.int .i64 (-1)) ∧ Below w.heap.size w w') (fun e w' h => h.2.elim (fun k => ⟨k.1, h.1⟩) (fun ⟨k, hk, _, hn⟩ => (hn (HF.out k hk)).elim))).mono ?_; rintro e w1 ⟨rfl, hB1⟩)
    go_ret
    exact ⟨rfl, hB1⟩
  · rw [decide_eq_false hf]
    have HF := Lib.hid hf
    clear hf
    go_enter Try.func35, Try.ntmps35
    go_wp2_with (go_at_call 59; refine ((idx_any sv ts w HI.out hm HT.out).mono (R' := fun e w' => (∃ k : Nat, e = .returned (.int .i64 k)) ∧ Below w.heap.size w w') (fun e w' h => h.2.elim (fun k => (HF.out k.2).elim) (fun ⟨k, _, he, _⟩ => ⟨⟨k, he⟩, h.1⟩))).mono ?_; rintro e w1 ⟨⟨k, rfl⟩, hB1⟩)
    go_ret
    exact ⟨rfl, hB1⟩

/-- a matrix that may be. -/
def MayD (n : Int) (ts : List Int) : Prop := 1 ≤ n ∧ n ≤ 4 ∧ (ts.length : Int) = n * n ∧ ∀ p, p < ts.length → Fine (ts[p]?.getD 0)
theorem four {n : Int} (h1 : 1 ≤ n) (h2 : n ≤ 4) : n = 1 ∨ n = 2 ∨ n = 3 ∨ n = 4 := by omega
theorem ints_len {n₀ : Nat} {W : World} {sv : Value} {ts : List Int} (h : law.Ints n₀ W sv ts) : ∃ a cap, sv = .slice a ts.length cap := by
  rcases h with ⟨⟨a, cap, rfl, _⟩, rfl⟩ | ⟨b, off, cap, rfl, _⟩
  · exact ⟨a, cap, rfl⟩
  · exact ⟨_, cap, rfl⟩

set_option maxHeartbeats 1000000 in
theorem check_no (n : Int) (sv : Value) (ts : List Int) (w : World) (hI : law.Ints w.heap.size w sv ts) (hm : ts.length ≤ 1000000) (htop : ∀ x ∈ ts, x ≤ 9223372036854775807) (h : ¬ MayD n ts) :
    Calls Try.prog 18 #[.agg #[.int .i64 n, sv]] w fun e w' => e = .returned (.int .i64 8) ∧ Below w.heap.size w w' := by
  have hI1 : law.Ints (w.alloc (.cells #[.int .i64 n, sv] 27)).heap.size (w.alloc (.cells #[.int .i64 n, sv] 27)) sv ts := (hI.below ((Below.refl _ w).alloc (Nat.le_refl _) _)).mono (by simp)
  obtain ⟨a, cap, rfl⟩ := ints_len hI
  by_cases c1 : n < 1
  · clear h hI hI1 htop
    go_enter Try.func18, Try.ntmps18
    go_wp2
    go_ret
    exact ⟨rfl, (Below.refl _ _).alloc (Nat.le_refl _) _⟩
  · by_cases c2 : 4 < n
    · clear h hI hI1 htop
      go_enter Try.func18, Try.ntmps18
      go_wp2
      go_ret
      exact ⟨rfl, (Below.refl _ _).alloc (Nat.le_refl _) _⟩
    · by_cases c3 : (ts.length : Int) = n * n
      · have hf : ¬ ∀ p, p < ts.length → Fine (ts[p]?.getD 0) := fun k => h ⟨by omega, by omega, c3, k⟩
        have HI := Lib.hid hI1
        have HT := Lib.hid htop
        have HF := Lib.hid hf
        have hbool := decide_eq_false hf
        clear h hI hI1 htop hf
        have HC := fun w' h' => (contains_any (.slice a ts.length cap) ts w' h' (by omega) HT.out)
        rw [hbool] at HC
        have HCC := Lib.hid HC
        clear HC hbool
        obtain ⟨m, hm'⟩ : ∃ m, m = ts.length := ⟨_, rfl⟩
        rw [← hm'] at c3 HCC HI ⊢
        clear hm'
        rcases four (n := n) (by omega) (by omega) with rfl | rfl | rfl | rfl
        all_goals
          obtain rfl : m = _ := by
            first | exact (by omega : m = 1) | exact (by omega : m = 4) | exact (by omega : m = 9) | exact (by omega : m = 16)
          clear c1 c2 c3
          go_enter Try.func18, Try.ntmps18
          go_wp2_with (go_at_call 35; refine (HCC.out _ HI.out).mono ?_; rintro e w1 ⟨rfl, hB1⟩)
          go_ret
          exact ⟨rfl, ((Below.refl _ w).alloc (Nat.le_refl _) _).trans (hB1.mono (by simp))⟩
      · clear h hI hI1 htop
        obtain ⟨m, hm'⟩ : ∃ m, m = ts.length := ⟨_, rfl⟩
        rw [← hm'] at c3 ⊢
        clear hm' hm
        rcases four (n := n) (by omega) (by omega) with rfl | rfl | rfl | rfl
        · have c4 : ((m : Int) != 1) = true := by simp; omega
          have c5 : ((m : Int) == 1) = false := by simp; omega
          have c6 : ¬ m = 1 := by omega
          clear c1 c2 c3
          go_enter Try.func18, Try.ntmps18
          go_wp2
          go_ret
          exact ⟨rfl, (Below.refl _ _).alloc (Nat.le_refl _) _⟩
        · have c4 : ((m : Int) != 4) = true := by simp; omega
          have c5 : ((m : Int) == 4) = false := by simp; omega
          have c6 : ¬ m = 4 := by omega
          clear c1 c2 c3
          go_enter Try.func18, Try.ntmps18
          go_wp2
          go_ret
          exact ⟨rfl, (Below.refl _ _).alloc (Nat.le_refl _) _⟩
        · have c4 : ((m : Int) != 9) = true := by simp; omega
          have c5 : ((m : Int) == 9) = false := by simp; omega
          have c6 : ¬ m = 9 := by omega
          clear c1 c2 c3
          go_enter Try.func18, Try.ntmps18
          go_wp2
          go_ret
          exact ⟨rfl, (Below.refl _ _).alloc (Nat.le_refl _) _⟩
        · have c4 : ((m : Int) != 16) = true := by simp; omega
          have c5 : ((m : Int) == 16) = false := by simp; omega
          have c6 : ¬ m = 16 := by omega
          clear c1 c2 c3
          go_enter Try.func18, Try.ntmps18
          go_wp2
          go_ret
          exact ⟨rfl, (Below.refl _ _).alloc (Nat.le_refl _) _⟩

set_option maxHeartbeats 1000000 in
theorem check_ok (n : Int) (sv : Value) (ts : List Int) (w : World) (hI : law.Ints w.heap.size w sv ts) (htop : ∀ x ∈ ts, x ≤ 9223372036854775807) (h : MayD n ts) :
    Calls Try.prog 18 #[.agg #[.int .i64 n, sv]] w fun e w' => e = .returned (.int .i64 0) ∧ Below w.heap.size w w' := by
  have hI1 : law.Ints (w.alloc (.cells #[.int .i64 n, sv] 27)).heap.size (w.alloc (.cells #[.int .i64 n, sv] 27)) sv ts := (hI.below ((Below.refl _ w).alloc (Nat.le_refl _) _)).mono (by simp)
  obtain ⟨a, cap, rfl⟩ := ints_len hI
  obtain ⟨h1, h2, c3, hf⟩ := h
  have hlen : ts.length ≤ 16 := by
    rcases four (n := n) (by omega) (by omega) with rfl | rfl | rfl | rfl <;> omega
  have HI := Lib.hid hI1
  have HT := Lib.hid htop
  have hbool := decide_eq_true hf
  clear hI hI1 htop hf
  have HC := fun w' h' => (contains_any (.slice a ts.length cap) ts w' h' (by omega) HT.out)
  rw [hbool] at HC
  have HCC := Lib.hid HC
  clear HC hbool
  obtain ⟨m, hm'⟩ : ∃ m, m = ts.length := ⟨_, rfl⟩
  rw [← hm'] at c3 HCC HI ⊢
  clear hm' hlen
  rcases four (n := n) (by omega) (by omega) with rfl | rfl | rfl | rfl
  all_goals
    obtain rfl : m = _ := by
      first | exact (by omega : m = 1) | exact (by omega : m = 4) | exact (by omega : m = 9) | exact (by omega : m = 16)
    clear h1 h2 c3
    go_enter Try.func18, Try.ntmps18
    go_wp2_with (go_at_call 35; refine (HCC.out _ HI.out).mono ?_; rintro e w1 ⟨rfl, hB1⟩)
    go_ret
    exact ⟨rfl, ((Below.refl _ w).alloc (Nat.le_refl _) _).trans (hB1.mono (by simp))⟩
instance decMayD (n : Int) (ts : List Int) : Decidable (MayD n ts) := by unfold MayD; exact inferInstance
/-- what Check answers. -/
def chkD (n : Int) (ts : List Int) : Int := if MayD n ts then 0 else 8
theorem check4_any (n : Int) (sv : Value) (ts : List Int) (w : World) (hI : law.Ints w.heap.size w sv ts) (hm : ts.length ≤ 1000000) (htop : ∀ x ∈ ts, x ≤ 9223372036854775807) :
    Calls Try.prog 18 #[.agg #[.int .i64 n, sv]] w fun e w' => e = .returned (.int .i64 (chkD n ts)) ∧ Below w.heap.size w w' := by
  unfold chkD
  by_cases h : MayD n ts
  · rw [if_pos h]; exact check_ok n sv ts w hI htop h
  · rw [if_neg h]; exact check_no n sv ts w hI hm htop h
end Go.Proofs.Ytlagnbbbokgdfaa.dbm
