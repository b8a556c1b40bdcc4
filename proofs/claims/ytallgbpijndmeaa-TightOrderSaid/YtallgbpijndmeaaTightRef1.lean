/-
  What rallentandoref05's small functions answer; each theorem names its conditions.
-/
import Derived.Test.YtallgbpijndmeaaTight5
namespace Go.Proofs.Ytallgbpijndmeaa.tref
open Go.ChangeShapes Go.WideShapes Go.ChangeAt Go.RowKit num dbm dref Go.Proofs.Ytallgbpijndmeaa.tight
open bound hiding up
set_option linter.unusedVariables false
set_option linter.unusedSimpArgs false

theorem clock_any (n i : Int) (sv : Value) (w : World) : Calls Try.prog 32 #[.agg #[.int .i64 n, sv], .int .i64 i] w fun e w' => e = .returned (.bool (decide (0 ≤ i) && decide (i < n))) ∧ Below w.heap.size w w' := by
  by_cases h : 0 ≤ i
  · by_cases k : i < n
    · rw [decide_eq_true h, decide_eq_true k]
      go_enter Try.func32, Try.ntmps32
      go_wp2_with fail
      go_ret
      exact ⟨rfl, up1 _ _⟩
    · rw [decide_eq_true h, decide_eq_false k]
      go_enter Try.func32, Try.ntmps32
      go_wp2_with fail
      go_ret
      exact ⟨rfl, up1 _ _⟩
  · rw [decide_eq_false h]
    go_enter Try.func32, Try.ntmps32
    go_wp2_with fail
    go_ret
    exact ⟨rfl, up1 _ _⟩
theorem clock_yes {n i : Int} (h : Clk n i) (sv : Value) (w : World) : Calls Try.prog 32 #[.agg #[.int .i64 n, sv], .int .i64 i] w fun e w' => e = .returned (.bool true) ∧ Below w.heap.size w w' := by
  have := clock_any n i sv w
  rwa [clk_yes h] at this
theorem clock_no {n i : Int} (h : ¬ Clk n i) (sv : Value) (w : World) : Calls Try.prog 32 #[.agg #[.int .i64 n, sv], .int .i64 i] w fun e w' => e = .returned (.bool false) ∧ Below w.heap.size w w' := by
  have := clock_any n i sv w
  rwa [clk_no h] at this

theorem told_yes (n : Int) (a : Option Addr) (l c : Nat) (w : World) : Calls Try.prog 34 #[.agg #[.int .i64 n, .slice a l c], .bool true] w fun e w' => e = .returned (.tuple #[.agg #[.int .i64 n, .slice a l c], .int .i64 0]) ∧ Below w.heap.size w w' := by
  obtain ⟨DB, D0, D1⟩ := dref.box_res n (.slice a l c) w
  obtain ⟨x0, x1, x2, x3, x4⟩ := lies.two D0
  obtain ⟨y0, y1, y2, y3, y4⟩ := lies.two D1
  go_enter Try.func34, Try.ntmps34
  go_wp2_with fail
  exact bodyPost_ret (v := .tuple #[.agg #[.int .i64 n, .slice a l c], .int .i64 0]) (by simp [results, Try.results34, go_sem, y0, y1]) rfl ⟨rfl, bound.up2 _ _ _⟩
theorem told_no (n : Int) (sv : Value) (w : World) : Calls Try.prog 34 #[.agg #[.int .i64 n, sv], .bool false] w fun e w' => e = .returned (.tuple #[.agg #[.int .i64 0, .slice none 0 0], .int .i64 6]) ∧ Below w.heap.size w w' := by
  obtain ⟨DB, D0, D1⟩ := dref.box_res n sv w
  obtain ⟨y0, y1, y2, y3, y4⟩ := lies.two D1
  go_enter Try.func34, Try.ntmps34
  go_wp2_with fail
  exact bodyPost_ret (v := .tuple #[.agg #[.int .i64 0, .slice none 0 0], .int .i64 6]) (by simp [results, Try.results34, go_sem, y0, y1]) rfl ⟨rfl, bound.up2 _ _ _⟩

theorem mayb_any (x : Int) (w : World) (x1 : -9223372036854775808 ≤ x) (x2 : x ≤ 9223372036854775807) : Calls Try.prog 33 #[.int .i64 x] w fun e w' => e = .returned (.bool (decide (Fine x))) ∧ Below w.heap.size w w' := by
  have A1 := lies.made w 26 #[.int .i64 x]
  have K1 := up1 w (.cells #[.int .i64 x] 26)
  have C := Lib.hid (dref.may_any 1 _ [x] _ (one_ints A1) (by simp) (fun y hy => by obtain rfl := List.mem_singleton.1 hy; exact x1) (one_top x2))
  have e1 : decide (MayD 1 [x]) = decide (Fine x) := by simp only [one_may]
  rw [e1] at C
  generalize decide (Fine x) = q at C ⊢
  clear A1 e1
  go_enter Try.func33, Try.ntmps33
  go_wp2_with fail
  refine C.out.mono ?_
  rintro e w1 ⟨rfl, hB1⟩
  have K := K1.trans (hB1.mono K1.size)
  clear C K1 hB1
  go_wp2_with fail
  go_ret
  exact ⟨rfl, K⟩

theorem spans_any (lo : Int) (ls : Bool) (hi : Int) (hs op : Bool) (w : World) : Calls Try.prog 37 #[.agg #[.int .i64 lo, .bool ls, .int .i64 hi, .bool hs, .bool op]] w fun e w' => e = .returned (.bool (decide (MayS lo hi hs op))) ∧ Below w.heap.size w w' := by
  by_cases l1 : lo < -288230376151711744
  · rw [decide_eq_false (fun h => by have := h.1.1; omega)]
    go_enter Try.func37, Try.ntmps37
    go_wp2_with fail
    go_ret
    exact ⟨rfl, up1 _ _⟩
  · by_cases l2 : 288230376151711744 < lo
    · rw [decide_eq_false (fun h => by have := h.1.2; omega)]
      go_enter Try.func37, Try.ntmps37
      go_wp2_with fail
      go_ret
      exact ⟨rfl, up1 _ _⟩
    · cases op with
      | true =>
        by_cases h2 : hi = 0
        · subst h2
          cases hs with
          | true =>
            rw [decide_eq_false (by unfold MayS; simp)]
            go_enter Try.func37, Try.ntmps37
            go_wp2_with fail
            go_ret
            exact ⟨rfl, up1 _ _⟩
          | false =>
            rw [decide_eq_true (show MayS lo 0 false true from ⟨⟨by omega, by omega⟩, .inl ⟨rfl, rfl, rfl⟩⟩)]
            go_enter Try.func37, Try.ntmps37
            go_wp2_with fail
            go_ret
            exact ⟨rfl, up1 _ _⟩
        · rw [decide_eq_false (by unfold MayS; simp [h2])]
          have t1 : (hi == 0) = false := by simpa using h2
          go_enter Try.func37, Try.ntmps37
          go_wp2_with fail
          go_ret
          exact ⟨rfl, up1 _ _⟩
      | false =>
        by_cases h3 : lo ≤ hi
        · by_cases h4 : hi ≤ 288230376151711744
          · rw [decide_eq_true (show MayS lo hi hs false from ⟨⟨by omega, by omega⟩, .inr ⟨rfl, ⟨by omega, h4⟩, h3⟩⟩)]
            go_enter Try.func37, Try.ntmps37
            go_wp2_with fail
            go_ret
            exact ⟨rfl, up1 _ _⟩
          · rw [decide_eq_false (by unfold MayS In; simp; omega)]
            go_enter Try.func37, Try.ntmps37
            go_wp2_with fail
            go_ret
            exact ⟨rfl, up1 _ _⟩
        · rw [decide_eq_false (by unfold MayS In; simp; omega)]
          go_enter Try.func37, Try.ntmps37
          go_wp2_with fail
          go_ret
          exact ⟨rfl, up1 _ _⟩

theorem below_any (lo : Int) (ls : Bool) (hi : Int) (hs op : Bool) (w : World) (h : In lo) : Calls Try.prog 39 #[.agg #[.int .i64 lo, .bool ls, .int .i64 hi, .bool hs, .bool op]] w fun e w' => e = .returned (.int .i64 (mk (-lo) ls)) ∧ Below w.heap.size w w' := by
  have q0 : (0 : Int) - lo = -lo := by omega
  have q1 : wrap64 (0 - lo) = -lo := by rw [q0]; unfold In at h; exact IntWalk.wrap64_in _ ⟨by omega, by omega⟩
  have q2 : IntKind.i64.wrap (0 - lo) = -lo := (IntWalk.i64_left _).trans q1
  have q3 : wrap64 (-lo) = -lo := by rw [← q0]; rw [q1, q0]
  have H := Lib.hid (show May (-lo) from by unfold In at h; unfold May; omega)
  clear h
  go_enter Try.func39, Try.ntmps39
  go_wp2_with fail
  refine (made_any _ _ _ H.out).mono ?_
  rintro e w' ⟨rfl, rfl⟩
  go_wp2_with fail
  go_ret
  exact ⟨rfl, up1 _ _⟩
theorem above_any (lo : Int) (ls : Bool) (hi : Int) (hs op : Bool) (w : World) (h : op = false → In hi) : Calls Try.prog 40 #[.agg #[.int .i64 lo, .bool ls, .int .i64 hi, .bool hs, .bool op]] w fun e w' => e = .returned (.int .i64 (hiB hi hs op)) ∧ Below w.heap.size w w' := by
  cases op with
  | true =>
    go_enter Try.func40, Try.ntmps40
    go_wp2_with fail
    go_ret
    exact ⟨rfl, up1 _ _⟩
  | false =>
    have H := Lib.hid (show May hi from in_may (h rfl))
    clear h
    go_enter Try.func40, Try.ntmps40
    go_wp2_with fail
    refine (made_any _ _ _ H.out).mono ?_
    rintro e w' ⟨rfl, rfl⟩
    go_wp2_with fail
    go_ret
    exact ⟨rfl, up1 _ _⟩

/-- the first k of the lesser ones. -/
def lesU (ts us : List Int) (k : Nat) : List Int := (List.range ts.length).map fun p => if p < k then lsr (ts[p]?.getD 0) (us[p]?.getD 0) else ts[p]?.getD 0
theorem lesU_length (ts us : List Int) (k : Nat) : (lesU ts us k).length = ts.length := by simp [lesU]
theorem lesU_at (ts us : List Int) (k : Nat) {p : Nat} (h : p < ts.length) : (lesU ts us k)[p]?.getD 0 = if p < k then lsr (ts[p]?.getD 0) (us[p]?.getD 0) else ts[p]?.getD 0 := by
  unfold lesU
  rw [List.getElem?_map, List.getElem?_range h]; rfl
theorem lesU_zero (ts us : List Int) : lesU ts us 0 = ts := list_at (lesU_length _ _ _) fun p hp => by
  rw [lesU_length] at hp
  rw [lesU_at _ _ _ hp, if_neg (by omega)]
theorem lesU_full (ts us : List Int) : lesU ts us ts.length = lesT ts us := list_at (by rw [lesU_length, lesT_length]) fun p hp => by
  rw [lesU_length] at hp
  rw [lesU_at _ _ _ hp, if_pos hp, lesT_at _ _ hp]
theorem lesU_set (ts us : List Int) {k : Nat} (h : us[k]?.getD 0 < ts[k]?.getD 0) : lesU ts us (k + 1) = (lesU ts us k).set k (us[k]?.getD 0) := list_at (by rw [List.length_set, lesU_length, lesU_length]) fun p hp => by
  rw [lesU_length] at hp
  rw [lesU_at _ _ _ hp, List.getElem?_set]
  by_cases e : k = p
  · subst e
    rw [if_pos (by omega), if_pos rfl, lesU_length, if_pos hp]
    exact if_pos h
  · rw [if_neg e, lesU_at _ _ _ hp]
    by_cases c : p < k
    · rw [if_pos (by omega), if_pos c]
    · rw [if_neg (by omega), if_neg c]
theorem lesU_same (ts us : List Int) {k : Nat} (h : ¬ us[k]?.getD 0 < ts[k]?.getD 0) : lesU ts us (k + 1) = lesU ts us k := list_at (by rw [lesU_length, lesU_length]) fun p hp => by
  rw [lesU_length] at hp
  rw [lesU_at _ _ _ hp, lesU_at _ _ _ hp]
  by_cases e : p = k
  · subst e
    rw [if_pos (by omega), if_neg (by omega)]
    exact if_neg h
  · by_cases c : p < k
    · rw [if_pos (by omega), if_pos c]
    · rw [if_neg (by omega), if_neg c]

/-- what lies there while the lesser ones are taken. -/
def LesI (n m : Int) (c pff dap len g cc B : Nat) (ts us : List Int) (k : Nat) (w W : World) : Prop :=
  lies.Lies W (w.heap.size + 1) 24 #[.int .i64 m, .slice (some ⟨c, pff, none⟩) len dap] ∧ lies.Lies W (w.heap.size + 1 + 1) 24 #[.int .i64 0, .slice none 0 0] ∧ lies.Lies W B 24 #[.int .i64 n, .slice (some ⟨g, 0, none⟩) len cc] ∧ W.ownsRow (w.heap.size + 1 + 1 + 1) 26 1 (.slice (some ⟨g, 0, none⟩) len cc) len ((lesU ts us k).map (Value.int .i64)) ∧ Below w.heap.size w W
theorem own_call {W X : World} {B len : Nat} {v : Value} {xs : List Value} (h : W.ownsRow B 26 1 v len xs) (k : Below W.heap.size W X) : X.ownsRow B 26 1 v len xs :=
  h.kept (row := none) ⟨k.os, k.tape, k.output, k.size, fun i hi _ => k.block i hi⟩ (by cases v.ownBlock <;> simp)
theorem LesI.below {n m : Int} {c pff dap len g cc B : Nat} {ts us : List Int} {k : Nat} {w W X : World} (h : LesI n m c pff dap len g cc B ts us k w W) (j : Below W.heap.size W X) : LesI n m c pff dap len g cc B ts us k w X :=
  ⟨lies.on_call h.1 j, lies.on_call h.2.1 j, lies.on_call h.2.2.1 j, own_call h.2.2.2.1 j, h.2.2.2.2.trans (j.mono h.2.2.2.2.size)⟩
theorem LesI.drawn {n m : Int} {c pff dap len g cc B : Nat} {ts us : List Int} {k : Nat} {w W : World} (h : LesI n m c pff dap len g cc B ts us k w W) (q : Nat) : LesI n m c pff dap len g cc B ts us k w (W.drewN q) := h.below (bound.drawn (Below.refl _ _) q)
set_option maxRecDepth 100000 in
set_option maxHeartbeats 4000000 in
theorem lesser_any (n : Int) (m : Int) (sv : Value) (c pff dap len : Nat) (ts us : List Int) (w : World) (hI : law.Ints w.heap.size w sv ts) (hs : Row w c pff us) (hc : c < w.heap.size) (hl : ts.length = len) (hu : us.length = len) (h0 : 0 < len) (hm : len ≤ 1000) :
    Calls Try.prog 38 #[.agg #[.int .i64 n, sv], .agg #[.int .i64 m, .slice (some ⟨c, pff, none⟩) len dap]] w fun e w' => Below w.heap.size w w' ∧ ∃ g cc, e = .returned (.agg #[.int .i64 n, .slice (some ⟨g, 0, none⟩) len cc]) ∧ w.heap.size ≤ g ∧ w'.ownsRow w.heap.size 26 1 (.slice (some ⟨g, 0, none⟩) len cc) len ((lesT ts us).map (Value.int .i64)) := by
  obtain ⟨ad, cap, rfl⟩ := ints_len hI
  obtain ⟨DB, D0, D1, D2⟩ := box3 n m (.slice ad ts.length cap) (.slice (some ⟨c, pff, none⟩) len dap) w
  have C := Lib.hid (twin_ref n _ ts _ ((hI.below DB).mono DB.size) (by omega))
  have HS := Lib.hid hs
  have HL := Lib.hid hl
  have HU := Lib.hid hu
  clear hI hs hl hu
  go_enter Try.func38, Try.ntmps38
  go_wp2_with fail
  refine C.out.mono ?_
  rintro e w1 ⟨hB1, v, rfl, hO⟩
  have E1 := lies.on_call D1 hB1
  have E2 := lies.on_call D2 hB1
  have EB := DB.trans (hB1.mono DB.size)
  have hsz := DB.size
  simp only [World.size_alloc] at hsz
  clear D0 D1 D2 DB hB1 C
  rw [HL.out] at hO
  obtain ⟨g, cc, rfl⟩ : ∃ g cc, v = .slice (some ⟨g, 0, none⟩) len cc := by
    rcases Go.Joins.ownsRow_forms hO with ⟨_, h⟩ | ⟨g, cc, rfl⟩
    · omega
    · exact ⟨g, cc, rfl⟩
  go_wp2_with fail
  have hgb := hO.lt g rfl
  have hsz3 : (((w.alloc (.cells #[.int .i64 n, .slice ad len cap] 24)).alloc (.cells #[.int .i64 m, .slice (some ⟨c, pff, none⟩) len dap] 24)).alloc (.cells #[.int .i64 0, .slice none 0 0] 24)).heap.size = w.heap.size + 1 + 1 + 1 := by simp
  rw [hsz3] at hO hgb
  have hw1 := hgb.2
  have L0 : LesI n m c pff dap len g cc w1.heap.size ts us 0 w (w1.alloc (.cells #[.int .i64 n, .slice (some ⟨g, 0, none⟩) len cc] 24)) :=
    ⟨lies.on_alloc E1 _, lies.on_alloc E2 _, lies.made _ _ _, by rw [lesU_zero]; exact hO.alloc _, EB.alloc EB.size _⟩
  clear E1 E2 EB hO hsz3 hsz
  generalize w1.heap.size = B at L0 hw1 ⊢
  generalize w1.alloc (.cells #[.int .i64 n, .slice (some ⟨g, 0, none⟩) len cc] 24) = w2 at L0 ⊢
  go_loopw [6] (fun i wr => ∃ k : Nat, k ≤ len ∧ i = .int .i64 k ∧ LesI n m c pff dap len g cc B ts us k w wr) (fun i _ => len - (intOf i).toNat)
  case atStart => exact ⟨0, Nat.zero_le _, rfl, L0⟩
  case round =>
    clear L0
    obtain ⟨k, hk, rfl, hA⟩ := hrel
    obtain ⟨x0, x1, x2, x3, x4⟩ := lies.two hA.1
    obtain ⟨y0, y1, y2, y3, y4⟩ := lies.two hA.2.2.1
    by_cases hkn : k < len
    · have hc1 := (HS.out.below hA.2.2.2.2 hc) k (by rw [HU.out]; exact hkn)
      have hc2 : wr.cell? ⟨g, k, none⟩ = some (.int .i64 (ts[k]?.getD 0)) := by
        rw [hA.2.2.2.1.cellAt k (by omega), List.getElem?_map]
        have hkl : k < (lesU ts us k).length := by rw [lesU_length, HL.out]; exact hkn
        have h2 := lesU_at ts us k (p := k) (by rw [HL.out]; exact hkn)
        rw [if_neg (by omega), List.getElem?_eq_getElem hkl] at h2
        rw [List.getElem?_eq_getElem hkl]
        exact congrArg (fun z => some (Value.int .i64 z)) h2
      have hf := hA.2.2.2.1.frozenAt k
      have hgw := (hA.2.2.2.1.lt g rfl).2
      have hcw := Nat.lt_of_lt_of_le hc hA.2.2.2.2.size
      have hsame := lesU_same ts us (k := k)
      have hset := lesU_set ts us (k := k)
      generalize hy : us[k]?.getD 0 = y at hc1 hsame hset
      have HY := Lib.hid hy
      clear hy
      generalize ts[k]?.getD 0 = x at hc2 hsame hset
      have z1 : (0 : Int) ≤ k := by omega
      have z2 : (k : Int) < len := by omega
      by_cases hyx : y < x
      · have HSET := Lib.hid (hset hyx)
        clear hsame hset
        go_wp2_with fail
        go_quiet (fail)
        go_wp2_with fail
        have A1 := hA.drawn nq
        clear x0 x1 x2 x3 x4 y0 y1 y2 y3 y4 hc1 hc2 hf hA
        have hgw1 : w.heap.size + 1 + 1 + 1 ≤ g := (A1.2.2.2.1.lt g rfl).1
        generalize wr.drewN nq = w5 at A1 ⊢
        have hyc : ∀ W, Below w5.heap.size w5 W → W.cell? ⟨c, pff + k, none⟩ = some (.int .i64 y) := fun W hW => by
          rw [← HY.out]
          exact (HS.out.below (A1.below hW).2.2.2.2 hc) k (by rw [HU.out]; exact hkn)
        have S0 : ∀ W, Below w5.heap.size w5 W → W.cell? ⟨w.heap.size + 1, 1, none⟩ = some (.slice (some ⟨c, pff, none⟩) len dap) ∧ W.cell? ⟨B, 1, none⟩ = some (.slice (some ⟨g, 0, none⟩) len cc) ∧ W.cell? ⟨c, pff + k, none⟩ = some (.int .i64 y) := fun W hW => ⟨(dlaw.at_s A1.1 hW).2, (dlaw.at_s A1.2.2.1 hW).2, hyc W hW⟩
        have hfz := A1.2.2.2.1.frozenAt k
        have hgc : w5.cell? ⟨g, k, none⟩ = some (.int .i64 ((lesU ts us k)[k]?.getD 0)) := by
          have hkl : k < (lesU ts us k).length := by rw [lesU_length, HL.out]; exact hkn
          rw [A1.2.2.2.1.cellAt k (by omega), List.getElem?_map, List.getElem?_eq_getElem hkl]; rfl
        have hgw5 := (A1.2.2.2.1.lt g rfl).2
        refine wp_region_held_drew (S := fun W => W.cell? ⟨w.heap.size + 1, 1, none⟩ = some (.slice (some ⟨c, pff, none⟩) len dap) ∧ W.cell? ⟨B, 1, none⟩ = some (.slice (some ⟨g, 0, none⟩) len cc) ∧ W.cell? ⟨c, pff + k, none⟩ = some (.int .i64 y)) (by kernel_rfl) (S0 _ (dbm.drawn1 (Below.refl _ _))) (fun hHeld => ?_)
        refine wpAnyH_take (i := 0) (v := ?_) rfl (by kernel_rfl) (by kernel_rfl) (by kernel_rfl) (fun _ _ _ h => h) (Or.inl ⟨by rfl, ?_⟩) hHeld ?_
        rotate_left
        · intro w hSw; obtain ⟨s0, s1, s2⟩ := hSw; go_simp; try with_reducible rfl
        try simp only [Act.put, List.getElem_toArray, List.getElem_cons_zero, List.getElem_cons_succ, List.setIfInBounds_toArray, List.set_cons_zero, List.set_cons_succ]
        refine wpAnyH_take (i := 1) (v := ?_) rfl (by kernel_rfl) (by kernel_rfl) (by kernel_rfl) (fun _ _ _ h => h) (Or.inl ⟨by rfl, ?_⟩) hHeld ?_
        rotate_left
        · intro w hSw; obtain ⟨s0, s1, s2⟩ := hSw; go_simp; try with_reducible rfl
        try simp only [Act.put, List.getElem_toArray, List.getElem_cons_zero, List.getElem_cons_succ, List.setIfInBounds_toArray, List.set_cons_zero, List.set_cons_succ]
        refine wpAnyH_take (i := 2) (v := ?_) rfl (by kernel_rfl) (by kernel_rfl) (by kernel_rfl) (fun _ _ _ h => h) (Or.inl ⟨by rfl, ?_⟩) hHeld ?_
        rotate_left
        · intro w hSw; obtain ⟨s0, s1, s2⟩ := hSw; go_simp; try with_reducible rfl
        try simp only [Act.put, List.getElem_toArray, List.getElem_cons_zero, List.getElem_cons_succ, List.setIfInBounds_toArray, List.set_cons_zero, List.set_cons_succ]
        refine wpAnyH_take (i := 3) (v := ?_) rfl (by kernel_rfl) (by kernel_rfl) (by kernel_rfl) (fun _ _ _ h => h) (Or.inl ⟨by rfl, ?_⟩) hHeld ?_
        rotate_left
        · intro w hSw; obtain ⟨s0, s1, s2⟩ := hSw; go_simp; try with_reducible rfl
        try simp only [Act.put, List.getElem_toArray, List.getElem_cons_zero, List.getElem_cons_succ, List.setIfInBounds_toArray, List.set_cons_zero, List.set_cons_succ]
        refine wpAnyH_take (i := 4) (v := ?_) rfl (by kernel_rfl) (by kernel_rfl) (by kernel_rfl) (fun _ _ _ h => h) (Or.inl ⟨by rfl, ?_⟩) hHeld ?_
        rotate_left
        · intro w hSw; obtain ⟨s0, s1, s2⟩ := hSw; go_simp; try with_reducible rfl
        try simp only [Act.put, List.getElem_toArray, List.getElem_cons_zero, List.getElem_cons_succ, List.setIfInBounds_toArray, List.set_cons_zero, List.set_cons_succ]
        refine wpAnyH_take (i := 5) (v := ?_) rfl (by kernel_rfl) (by kernel_rfl) (by kernel_rfl) (fun _ _ _ h => h) (Or.inl ⟨by rfl, ?_⟩) hHeld ?_
        rotate_left
        · intro w hSw; obtain ⟨s0, s1, s2⟩ := hSw; go_simp; try with_reducible rfl
        try simp only [Act.put, List.getElem_toArray, List.getElem_cons_zero, List.getElem_cons_succ, List.setIfInBounds_toArray, List.set_cons_zero, List.set_cons_succ]
        refine wpAnyH_take (i := 6) (v := ?_) rfl (by kernel_rfl) (by kernel_rfl) (by kernel_rfl) (fun _ _ _ h => h) (Or.inl ⟨by rfl, ?_⟩) hHeld ?_
        rotate_left
        · intro w hSw; obtain ⟨s0, s1, s2⟩ := hSw; go_simp; try with_reducible rfl
        try simp only [Act.put, List.getElem_toArray, List.getElem_cons_zero, List.getElem_cons_succ, List.setIfInBounds_toArray, List.set_cons_zero, List.set_cons_succ]
        refine wpAnyH_take (i := 7) (v := ?_) rfl (by kernel_rfl) (by kernel_rfl) (by kernel_rfl) (fun _ _ _ h => h) (Or.inl ⟨by rfl, ?_⟩) hHeld ?_
        rotate_left
        · intro w hSw; obtain ⟨s0, s1, s2⟩ := hSw; go_simp; try with_reducible rfl
        try simp only [Act.put, List.getElem_toArray, List.getElem_cons_zero, List.getElem_cons_succ, List.setIfInBounds_toArray, List.set_cons_zero, List.set_cons_succ]
        refine wpAnyH_take (i := 8) (v := ?_) rfl (by kernel_rfl) (by kernel_rfl) (by kernel_rfl) (fun _ _ _ h => h) (Or.inl ⟨by rfl, ?_⟩) hHeld ?_
        rotate_left
        · intro w hSw; obtain ⟨s0, s1, s2⟩ := hSw; go_simp; try with_reducible rfl
        try simp only [Act.put, List.getElem_toArray, List.getElem_cons_zero, List.getElem_cons_succ, List.setIfInBounds_toArray, List.set_cons_zero, List.set_cons_succ]
        refine wpAnyH_ready (rs := [9]) (by kernel_rfl) (by simp) (AllReadyH.cons rfl (fun K hK => ?_) AllReadyH.nil)
        go_simp
        have A2 : LesI n m c pff dap len g cc B ts us (k + 1) w (w5.setCell ⟨g, k, none⟩ (.int .i64 y)).drew := by
          have hO := (A1.2.2.2.1.stored k (.int .i64 y)).1
          rw [← List.map_set, ← HSET.out] at hO
          have A3 : LesI n m c pff dap len g cc B ts us (k + 1) w (w5.setCell ⟨g, k, none⟩ (.int .i64 y)) :=
            ⟨lies.on_far A1.1 k (by omega) _, lies.on_far A1.2.1 k (by omega) _, lies.on_far A1.2.2.1 k (by omega) _, hO, A1.2.2.2.2.setCell (p := ⟨g, k, none⟩) (show w.heap.size ≤ g by omega) _⟩
          exact A3.below (dbm.drawn1 (Below.refl _ _))
        refine hK.out _ _ ⟨(lies.two A2.1).2.1, (lies.two A2.2.2.1).2.1, ((HS.out.below A2.2.2.2.2 hc) k (by rw [HU.out]; exact hkn)).trans (by rw [HY.out])⟩ (fun hNew => ?_)
        clear hHeld hK K hNew S0 hyc hfz hgc
        refine wpAnyH_done (by kernel_rfl) ?_ _
        clear A1
        generalize (w5.setCell ⟨g, k, none⟩ (.int .i64 y)).drew = w6 at A2 ⊢
        go_wp2_with fail
        go_roundw
        case rel => exact ⟨k + 1, by omega, by go_num, A2⟩
        case measure => simp [intOf]; omega
      · have HSAME := Lib.hid (hsame hyx)
        clear hsame hset
        go_wp2_with fail
        go_quiet (fail)
        go_wp2_with fail
        go_roundw
        case rel => exact ⟨k + 1, by omega, by go_num, by rw [LesI, HSAME.out]; exact hA.drawn _⟩
        case measure => simp [intOf]; omega
    · obtain rfl : len = k := by omega
      obtain ⟨z0, z1, z2, z3, z4⟩ := lies.two hA.2.1
      go_wp2_with fail
      refine bodyPost_ret (v := .agg #[.int .i64 n, .slice (some ⟨g, 0, none⟩) len cc]) (by simp [results, Try.results38, go_sem, z0, z1]) rfl ⟨ret3 hA.2.2.2.2 (by omega) _ _, g, cc, rfl, by omega, ?_⟩
      have hO := hA.2.2.2.1
      rw [← HL.out, lesU_full, HL.out] at hO
      exact Go.Joins.ownsRow_le (dref.own_other (dref.own_other hO (p := ⟨w.heap.size + 1 + 1, 0, none⟩) (by simp) _) (p := ⟨w.heap.size + 1 + 1, 1, none⟩) (by simp) _) (by omega)
end Go.Proofs.Ytallgbpijndmeaa.tref
