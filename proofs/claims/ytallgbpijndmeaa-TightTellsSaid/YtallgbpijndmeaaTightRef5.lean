/-
  What rallentandoref05's Between answers, at any arguments; each theorem names its conditions.
-/
import Derived.Test.YtallgbpijndmeaaTightRef4
namespace Go.Proofs.Ytallgbpijndmeaa.tref
open Go.ChangeShapes Go.WideShapes Go.ChangeAt Go.RowKit num dbm dref Go.Proofs.Ytallgbpijndmeaa.tight
open bound hiding up
set_option linter.unusedVariables false
set_option linter.unusedSimpArgs false

set_option maxRecDepth 100000 in
set_option maxHeartbeats 2000000 in
theorem btw_bad (n i lo hi : Int) (ls hs op : Bool) (sv : Value) (ts : List Int) (w : World) (hI : law.Ints w.heap.size w sv ts) (hm : ts.length ≤ 1000000) (hlo : Low ts) (htop : Tops ts) (h : ¬ MayD n ts) :
    Calls Try.prog 16 #[.agg #[.int .i64 n, sv], .int .i64 i, .agg #[.int .i64 lo, .bool ls, .int .i64 hi, .bool hs, .bool op]] w (RTells n none 8 w) := by
  obtain ⟨DB, D0, D1, D2⟩ := boxS n lo hi sv ls hs op w
  have C := Lib.hid (may_no ((hI.below DB).mono DB.size) hm hlo htop h)
  obtain ⟨ad, cap, rfl⟩ := ints_len hI
  clear hI htop h hlo
  go_enter Try.func16, Try.ntmps16
  go_wp2_with fail
  refine C.out.mono ?_
  rintro e w1 ⟨rfl, hB1⟩
  have E1 := lies.on_call D2 hB1
  have EB := DB.trans (hB1.mono DB.size)
  clear D0 D1 D2 DB hB1 C
  obtain ⟨x0, x1, x2, x3, x4⟩ := lies.two E1
  go_wp2_with fail
  exact bodyPost_ret (v := .tuple #[.agg #[.int .i64 0, .slice none 0 0], .int .i64 8]) (by simp [results, Try.results16, go_sem, x0, x1]) rfl (RTells.err (ret3 EB (by omega) _ _))

set_option maxRecDepth 100000 in
set_option maxHeartbeats 2000000 in
theorem btw_clock (n i lo hi : Int) (ls hs op : Bool) (sv : Value) (ts : List Int) (w : World) (hI : law.Ints w.heap.size w sv ts) (hm : ts.length ≤ 1000000) (hlo : Low ts) (htop : Tops ts) (h : MayD n ts) (hc : ¬ Clk n i) :
    Calls Try.prog 16 #[.agg #[.int .i64 n, sv], .int .i64 i, .agg #[.int .i64 lo, .bool ls, .int .i64 hi, .bool hs, .bool op]] w (RTells n none 2 w) := by
  obtain ⟨DB, D0, D1, D2⟩ := boxS n lo hi sv ls hs op w
  have C := Lib.hid (may_yes ((hI.below DB).mono DB.size) hm hlo htop h)
  obtain ⟨ad, cap, rfl⟩ := ints_len hI
  have HC := Lib.hid hc
  clear hI htop h hc hlo
  go_enter Try.func16, Try.ntmps16
  go_wp2_with fail
  refine C.out.mono ?_
  rintro e w1 ⟨rfl, hB1⟩
  have E0 := lies.on_call D0 hB1
  have E1 := lies.on_call D2 hB1
  have EB := DB.trans (hB1.mono DB.size)
  clear D0 D1 D2 DB hB1 C
  obtain ⟨x0, x1, x2, x3, x4⟩ := lies.two E0
  go_wp2_with fail
  refine (clock_no HC.out _ _).mono ?_
  rintro e w2 ⟨rfl, hB2⟩
  have F1 := lies.on_call E1 hB2
  have FB := EB.trans (hB2.mono EB.size)
  clear E0 E1 EB hB2 x0 x1 x2 x3 x4
  obtain ⟨x0, x1, x2, x3, x4⟩ := lies.two F1
  go_wp2_with fail
  exact bodyPost_ret (v := .tuple #[.agg #[.int .i64 0, .slice none 0 0], .int .i64 2]) (by simp [results, Try.results16, go_sem, x0, x1]) rfl (RTells.err (ret3 FB (by omega) _ _))

theorem span_yes {lo hi : Int} {hs op : Bool} (h : MayS lo hi hs op) (ls : Bool) (w : World) : Calls Try.prog 37 #[.agg #[.int .i64 lo, .bool ls, .int .i64 hi, .bool hs, .bool op]] w fun e w' => e = .returned (.bool true) ∧ Below w.heap.size w w' := by
  have := spans_any lo ls hi hs op w
  rwa [decide_eq_true h] at this
theorem span_no {lo hi : Int} {hs op : Bool} (h : ¬ MayS lo hi hs op) (ls : Bool) (w : World) : Calls Try.prog 37 #[.agg #[.int .i64 lo, .bool ls, .int .i64 hi, .bool hs, .bool op]] w fun e w' => e = .returned (.bool false) ∧ Below w.heap.size w w' := by
  have := spans_any lo ls hi hs op w
  rwa [decide_eq_false h] at this

set_option maxRecDepth 100000 in
set_option maxHeartbeats 2000000 in
theorem btw_span (n i lo hi : Int) (ls hs op : Bool) (sv : Value) (ts : List Int) (w : World) (hI : law.Ints w.heap.size w sv ts) (hm : ts.length ≤ 1000000) (hlo : Low ts) (htop : Tops ts) (h : MayD n ts) (hc : Clk n i) (hsp : ¬ MayS lo hi hs op) :
    Calls Try.prog 16 #[.agg #[.int .i64 n, sv], .int .i64 i, .agg #[.int .i64 lo, .bool ls, .int .i64 hi, .bool hs, .bool op]] w (RTells n none 8 w) := by
  obtain ⟨DB, D0, D1, D2⟩ := boxS n lo hi sv ls hs op w
  have C := Lib.hid (may_yes ((hI.below DB).mono DB.size) hm hlo htop h)
  obtain ⟨ad, cap, rfl⟩ := ints_len hI
  have HC := Lib.hid hc
  have HS := Lib.hid hsp
  clear hI htop h hc hsp hlo
  go_enter Try.func16, Try.ntmps16
  go_wp2_with fail
  refine C.out.mono ?_
  rintro e w1 ⟨rfl, hB1⟩
  have E0 := lies.on_call D0 hB1
  have E1 := lies.on_call D1 hB1
  have E2 := lies.on_call D2 hB1
  have EB := DB.trans (hB1.mono DB.size)
  clear D0 D1 D2 DB hB1 C
  obtain ⟨x0, x1, x2, x3, x4⟩ := lies.two E0
  go_wp2_with fail
  refine (clock_yes HC.out _ _).mono ?_
  rintro e w2 ⟨rfl, hB2⟩
  have F1 := lies.on_call E1 hB2
  have F2 := lies.on_call E2 hB2
  have FB := EB.trans (hB2.mono EB.size)
  clear E0 E1 E2 EB hB2 x0 x1 x2 x3 x4
  obtain ⟨x0, x1, x2, x3, x4, x5⟩ := five F1
  go_wp2_with fail
  refine (span_no HS.out _ _).mono ?_
  rintro e w3 ⟨rfl, hB3⟩
  have G2 := lies.on_call F2 hB3
  have GB := FB.trans (hB3.mono FB.size)
  clear F1 F2 FB hB3 x0 x1 x2 x3 x4 x5
  obtain ⟨x0, x1, x2, x3, x4⟩ := lies.two G2
  go_wp2_with fail
  exact bodyPost_ret (v := .tuple #[.agg #[.int .i64 0, .slice none 0 0], .int .i64 8]) (by simp [results, Try.results16, go_sem, x0, x1]) rfl (RTells.err (ret3 GB (by omega) _ _))

set_option maxRecDepth 100000 in
set_option maxHeartbeats 4000000 in
theorem btw_ok (n i : Nat) (lo hi : Int) (ls hs op : Bool) (b off cap : Nat) (ts : List Int) (w : World) (h0 : 0 < n) (hn : n ≤ 4) (hr : Row w b off ts) (hb : b < w.heap.size) (hlo : Low ts) (htop : Tops ts) (h : MayD n ts) (hl : ts.length = n * n) (hi' : i < n) (hsp : MayS lo hi hs op) :
    Calls Try.prog 16 #[.agg #[.int .i64 n, .slice (some ⟨b, off, none⟩) (n * n) cap], .int .i64 i, .agg #[.int .i64 lo, .bool ls, .int .i64 hi, .bool hs, .bool op]] w (RTells n (some (btwL n ts i lo ls hi hs op)) 8 w) := by
  have hpp : 0 < n * n := Nat.mul_pos h0 h0
  have hsq := sq_le hn
  obtain ⟨DB, D0, D1, D2⟩ := boxS n lo hi (.slice (some ⟨b, off, none⟩) (n * n) cap) ls hs op w
  have hI : law.Ints w.heap.size w (.slice (some ⟨b, off, none⟩) (n * n) cap) ts := .inr ⟨b, off, cap, by rw [hl], hb, hr⟩
  have C := Lib.hid (may_yes ((hI.below DB).mono DB.size) (by omega) hlo htop h)
  have HC := Lib.hid (show Clk n i from ⟨by omega, by omega⟩)
  have HS := Lib.hid hsp
  have HT := Lib.hid htop
  have HL := Lib.hid hl
  have HR := Lib.hid hr
  have q1 : wrap64 (-lo) = -lo := by have := hsp.1; unfold In at this; exact IntWalk.wrap64_in _ ⟨by omega, by omega⟩
  have q2 : IntKind.i64.wrap (-lo) = -lo := (IntWalk.i64_left _).trans q1
  have HIN := Lib.hid hI
  have HM := Lib.hid h
  clear hI htop h hsp hl hr hlo
  go_enter Try.func16, Try.ntmps16
  go_wp2_with fail
  refine C.out.mono ?_
  rintro e w1 ⟨rfl, hB1⟩
  have E0 := lies.on_call D0 hB1
  have E1 := lies.on_call D1 hB1
  have E2 := lies.on_call D2 hB1
  have EB := DB.trans (hB1.mono DB.size)
  clear D0 D1 D2 DB hB1 C
  obtain ⟨x0, x1, x2, x3, x4⟩ := lies.two E0
  go_wp2_with fail
  refine (clock_yes HC.out _ _).mono ?_
  rintro e w2 ⟨rfl, hB2⟩
  have F0 := lies.on_call E0 hB2
  have F1 := lies.on_call E1 hB2
  have F2 := lies.on_call E2 hB2
  have FB := EB.trans (hB2.mono EB.size)
  clear E0 E1 E2 EB hB2 x0 x1 x2 x3 x4
  obtain ⟨x0, x1, x2, x3, x4, x5⟩ := five F1
  go_wp2_with fail
  refine (span_yes HS.out _ _).mono ?_
  rintro e w3 ⟨rfl, hB3⟩
  have G0 := lies.on_call F0 hB3
  have G1 := lies.on_call F1 hB3
  have G2 := lies.on_call F2 hB3
  have GB := FB.trans (hB3.mono FB.size)
  clear F0 F1 F2 FB hB3 x0 x1 x2 x3 x4 x5
  obtain ⟨x0, x1, x2, x3, x4, x5⟩ := five G1
  go_wp2_with fail
  clear x0 x1 x2 x3 x4 x5
  replace G0 := lies.on_drew G0
  replace G1 := lies.on_drew G1
  replace G2 := lies.on_drew G2
  replace GB := dbm.drawn1 GB
  refine wp_region_held_drew (S := fun W => W.cell? ⟨w.heap.size, 0, none⟩ = some (.int .i64 n) ∧ W.cell? ⟨w.heap.size, 1, none⟩ = some (.slice (some ⟨b, off, none⟩) (n * n) cap) ∧ W.cell? ⟨w.heap.size + 1, 0, none⟩ = some (.int .i64 lo) ∧ W.cell? ⟨w.heap.size + 1, 1, none⟩ = some (.bool ls) ∧ W.cell? ⟨w.heap.size + 1, 2, none⟩ = some (.int .i64 hi) ∧ W.cell? ⟨w.heap.size + 1, 3, none⟩ = some (.bool hs) ∧ W.cell? ⟨w.heap.size + 1, 4, none⟩ = some (.bool op)) (by kernel_rfl) ⟨(lies.two G0).1, (lies.two G0).2.1, (five G1).1, (five G1).2.1, (five G1).2.2.1, (five G1).2.2.2.1, (five G1).2.2.2.2.1⟩ (fun hHeld => ?_)
  refine wpAnyH_take (i := 0) (v := ?_) rfl (by kernel_rfl) (by kernel_rfl) (by kernel_rfl) (fun _ _ _ h => h) (Or.inl ⟨by rfl, ?_⟩) hHeld ?_
  rotate_left
  · intro w hSw; obtain ⟨s0, s1, s2, s3, s4, s5, s6⟩ := hSw; go_simp; try with_reducible rfl
  try simp only [Act.put, List.getElem_toArray, List.getElem_cons_zero, List.getElem_cons_succ, List.setIfInBounds_toArray, List.set_cons_zero, List.set_cons_succ]
  refine wpAnyH_take (i := 1) (v := ?_) rfl (by kernel_rfl) (by kernel_rfl) (by kernel_rfl) (fun _ _ _ h => h) (Or.inl ⟨by rfl, ?_⟩) hHeld ?_
  rotate_left
  · intro w hSw; obtain ⟨s0, s1, s2, s3, s4, s5, s6⟩ := hSw; go_simp; try with_reducible rfl
  try simp only [Act.put, List.getElem_toArray, List.getElem_cons_zero, List.getElem_cons_succ, List.setIfInBounds_toArray, List.set_cons_zero, List.set_cons_succ]
  refine wpAnyH_take (i := 2) (v := ?_) rfl (by kernel_rfl) (by kernel_rfl) (by kernel_rfl) (fun _ _ _ h => h) (Or.inl ⟨by rfl, ?_⟩) hHeld ?_
  rotate_left
  · intro w hSw; obtain ⟨s0, s1, s2, s3, s4, s5, s6⟩ := hSw; go_simp; try with_reducible rfl
  try simp only [Act.put, List.getElem_toArray, List.getElem_cons_zero, List.getElem_cons_succ, List.setIfInBounds_toArray, List.set_cons_zero, List.set_cons_succ]
  refine wpAnyH_take (i := 3) (v := ?_) rfl (by kernel_rfl) (by kernel_rfl) (by kernel_rfl) (fun _ _ _ h => h) (Or.inl ⟨by rfl, ?_⟩) hHeld ?_
  rotate_left
  · intro w hSw; obtain ⟨s0, s1, s2, s3, s4, s5, s6⟩ := hSw; go_simp; try with_reducible rfl
  try simp only [Act.put, List.getElem_toArray, List.getElem_cons_zero, List.getElem_cons_succ, List.setIfInBounds_toArray, List.set_cons_zero, List.set_cons_succ]
  refine wpAnyH_take (i := 4) (v := ?_) rfl (by kernel_rfl) (by kernel_rfl) (by kernel_rfl) (fun _ _ _ h => h) (Or.inl ⟨by rfl, ?_⟩) hHeld ?_
  rotate_left
  · intro w hSw; obtain ⟨s0, s1, s2, s3, s4, s5, s6⟩ := hSw; go_simp; try with_reducible rfl
  try simp only [Act.put, List.getElem_toArray, List.getElem_cons_zero, List.getElem_cons_succ, List.setIfInBounds_toArray, List.set_cons_zero, List.set_cons_succ]
  refine wpAnyH_take (i := 7) (v := ?_) rfl (by kernel_rfl) (by kernel_rfl) (by kernel_rfl) (fun _ _ _ h => h) (Or.inl ⟨by rfl, ?_⟩) hHeld ?_
  rotate_left
  · intro w hSw; obtain ⟨s0, s1, s2, s3, s4, s5, s6⟩ := hSw; go_simp; try with_reducible rfl
  try simp only [Act.put, List.getElem_toArray, List.getElem_cons_zero, List.getElem_cons_succ, List.setIfInBounds_toArray, List.set_cons_zero, List.set_cons_succ]
  refine wpAnyH_take (i := 8) (v := ?_) rfl (by kernel_rfl) (by kernel_rfl) (by kernel_rfl) (fun _ _ _ h => h) (Or.inl ⟨by rfl, ?_⟩) hHeld ?_
  rotate_left
  · intro w hSw; obtain ⟨s0, s1, s2, s3, s4, s5, s6⟩ := hSw; go_simp; try with_reducible rfl
  try simp only [Act.put, List.getElem_toArray, List.getElem_cons_zero, List.getElem_cons_succ, List.setIfInBounds_toArray, List.set_cons_zero, List.set_cons_succ]
  refine wpAnyH_take (i := 9) (v := ?_) rfl (by kernel_rfl) (by kernel_rfl) (by kernel_rfl) (fun _ _ _ h => h) (Or.inl ⟨by rfl, ?_⟩) hHeld ?_
  rotate_left
  · intro w hSw; obtain ⟨s0, s1, s2, s3, s4, s5, s6⟩ := hSw; go_simp; try with_reducible rfl
  try simp only [Act.put, List.getElem_toArray, List.getElem_cons_zero, List.getElem_cons_succ, List.setIfInBounds_toArray, List.set_cons_zero, List.set_cons_succ]
  refine wpAnyH_take (i := 10) (v := ?_) rfl (by kernel_rfl) (by kernel_rfl) (by kernel_rfl) (fun _ _ _ h => h) (Or.inl ⟨by rfl, ?_⟩) hHeld ?_
  rotate_left
  · intro w hSw; obtain ⟨s0, s1, s2, s3, s4, s5, s6⟩ := hSw; go_simp; try with_reducible rfl
  try simp only [Act.put, List.getElem_toArray, List.getElem_cons_zero, List.getElem_cons_succ, List.setIfInBounds_toArray, List.set_cons_zero, List.set_cons_succ]
  refine wpAnyH_ready (rs := [5]) (by kernel_rfl) (by simp) (AllReadyH.cons rfl (fun K hK => ?_) AllReadyH.nil)
  go_simp
  refine (below_any lo ls hi hs op _ HS.out.1).mono ?_
  rintro e w5 ⟨rfl, hB⟩
  replace G0 := lies.on_call G0 hB
  replace G1 := lies.on_call G1 hB
  replace G2 := lies.on_call G2 hB
  replace GB := GB.trans (hB.mono GB.size)
  refine hK.out _ _ ⟨(lies.two G0).1, (lies.two G0).2.1, (five G1).1, (five G1).2.1, (five G1).2.2.1, (five G1).2.2.2.1, (five G1).2.2.2.2.1⟩ (fun hNew => ?_)
  clear hB
  clear hHeld hK K
  have hHeld := hNew
  clear hNew
  try simp only [Act.put, List.getElem_toArray, List.getElem_cons_zero, List.getElem_cons_succ, List.setIfInBounds_toArray, List.set_cons_zero, List.set_cons_succ]
  refine wpAnyH_ready (rs := [6]) (by kernel_rfl) (by simp) (AllReadyH.cons rfl (fun K hK => ?_) AllReadyH.nil)
  go_simp
  have FX := Lib.hid (mk_fine (show In (-lo) by have := HS.out.1; unfold In at this ⊢; omega) ls)
  have FY := Lib.hid (hiB_fine (hi := hi) (hs := hs) (op := op) (fun h => by rcases HS.out.2 with k | k; rw [h] at k; exact absurd k.1 (by decide); exact k.2.1))
  have HIO := Lib.hid (show op = false → In hi from fun h => by rcases HS.out.2 with k | k; rw [h] at k; exact absurd k.1 (by decide); exact k.2.1)
  generalize hx : mk (-lo) ls = x at FX ⊢
  have HX := Lib.hid hx
  clear hx
  refine (one_is n 0 i x _ h0 hn h0 hi').mono ?_
  rintro e w6 ⟨hB, ga, ca, rfl, hga, hOa⟩
  replace G0 := lies.on_call G0 hB
  replace G1 := lies.on_call G1 hB
  replace G2 := lies.on_call G2 hB
  replace GB := GB.trans (hB.mono GB.size)
  refine hK.out _ _ ⟨(lies.two G0).1, (lies.two G0).2.1, (five G1).1, (five G1).2.1, (five G1).2.2.1, (five G1).2.2.2.1, (five G1).2.2.2.2.1⟩ (fun hNew => ?_)
  clear hB
  clear hHeld hK K
  have hHeld := hNew
  clear hNew
  try simp only [Act.put, List.getElem_toArray, List.getElem_cons_zero, List.getElem_cons_succ, List.setIfInBounds_toArray, List.set_cons_zero, List.set_cons_succ]
  refine wpAnyH_ready (rs := [11]) (by kernel_rfl) (by simp) (AllReadyH.cons rfl (fun K hK => ?_) AllReadyH.nil)
  go_simp
  refine (above_any lo ls hi hs op _ HIO.out).mono ?_
  rintro e w7 ⟨rfl, hB⟩
  replace hOa := own_call hOa hB
  replace G0 := lies.on_call G0 hB
  replace G1 := lies.on_call G1 hB
  replace G2 := lies.on_call G2 hB
  replace GB := GB.trans (hB.mono GB.size)
  refine hK.out _ _ ⟨(lies.two G0).1, (lies.two G0).2.1, (five G1).1, (five G1).2.1, (five G1).2.2.1, (five G1).2.2.2.1, (five G1).2.2.2.2.1⟩ (fun hNew => ?_)
  clear hB
  clear hHeld hK K
  have hHeld := hNew
  clear hNew
  try simp only [Act.put, List.getElem_toArray, List.getElem_cons_zero, List.getElem_cons_succ, List.setIfInBounds_toArray, List.set_cons_zero, List.set_cons_succ]
  refine wpAnyH_ready (rs := [12]) (by kernel_rfl) (by simp) (AllReadyH.cons rfl (fun K hK => ?_) AllReadyH.nil)
  go_simp
  generalize hy : hiB hi hs op = y at FY ⊢
  have HY := Lib.hid hy
  clear hy
  refine (one_is n i 0 y _ h0 hn hi' h0).mono ?_
  rintro e w8 ⟨hB, gb, cb, rfl, hgb, hOb⟩
  replace hOa := own_call hOa hB
  replace G0 := lies.on_call G0 hB
  replace G1 := lies.on_call G1 hB
  replace G2 := lies.on_call G2 hB
  replace GB := GB.trans (hB.mono GB.size)
  refine hK.out _ _ ⟨(lies.two G0).1, (lies.two G0).2.1, (five G1).1, (five G1).2.1, (five G1).2.2.1, (five G1).2.2.2.1, (five G1).2.2.2.2.1⟩ (fun hNew => ?_)
  clear hB
  clear hHeld hK K
  have hHeld := hNew
  clear hNew
  try simp only [Act.put, List.getElem_toArray, List.getElem_cons_zero, List.getElem_cons_succ, List.setIfInBounds_toArray, List.set_cons_zero, List.set_cons_succ]
  refine wpAnyH_ready (rs := [13]) (by kernel_rfl) (by simp) (AllReadyH.cons rfl (fun K hK => ?_) AllReadyH.nil)
  go_simp
  have hla : (oneT n 0 i x).length = n * n := oneT_length _ _ _ _
  have hlb : (oneT n i 0 y).length = n * n := oneT_length _ _ _ _
  have hIa : law.Ints w8.heap.size w8 (.slice (some ⟨ga, 0, none⟩) (n * n) ca) (oneT n 0 i x) := by
    rw [← hla] at hOa ⊢
    exact dref.ints_own hOa
  refine (lesser_any n n _ gb 0 cb (n * n) (oneT n 0 i x) (oneT n i 0 y) _ hIa (own_row hOb hlb) (hOb.lt gb rfl).2 hla hlb hpp (by omega)).mono ?_
  rintro e w9 ⟨hB, gc, cc, rfl, hgc, hOc⟩
  replace G0 := lies.on_call G0 hB
  replace G1 := lies.on_call G1 hB
  replace G2 := lies.on_call G2 hB
  replace GB := GB.trans (hB.mono GB.size)
  refine hK.out _ _ ⟨(lies.two G0).1, (lies.two G0).2.1, (five G1).1, (five G1).2.1, (five G1).2.2.1, (five G1).2.2.2.1, (five G1).2.2.2.2.1⟩ (fun hNew => ?_)
  clear hB hIa hOa hOb
  clear hHeld hK K
  have hHeld := hNew
  clear hNew
  try simp only [Act.put, List.getElem_toArray, List.getElem_cons_zero, List.getElem_cons_succ, List.setIfInBounds_toArray, List.set_cons_zero, List.set_cons_succ]
  refine wpAnyH_ready (rs := [14]) (by kernel_rfl) (by simp) (AllReadyH.cons rfl (fun K hK => ?_) AllReadyH.nil)
  go_simp
  have hlc : (lesT (oneT n 0 i x) (oneT n i 0 y)).length = n * n := (lesT_length _ _).trans hla
  have hlk := like_two h0 hn HL.out HT.out HM.out hi' FX.out FY.out
  refine (common_is n _ gc 0 cc ts _ _ h0 hn ((HIN.out.below GB).mono GB.size) (own_row hOc hlc) (hOc.lt gc rfl).2 HL.out hlc HT.out hlk.1).mono ?_
  intro e w10 hCm
  obtain ⟨hB, na, a, l, c, us, bl, rfl, hCR, hO6⟩ := comm_one hCm
  have hb5 := GB.size
  have hlt5 := lies.lt G2
  replace G0 := lies.on_call G0 hB
  replace G1 := lies.on_call G1 hB
  replace G2 := lies.on_call G2 hB
  replace GB := GB.trans (hB.mono GB.size)
  refine hK.out _ _ ⟨(lies.two G0).1, (lies.two G0).2.1, (five G1).1, (five G1).2.1, (five G1).2.2.1, (five G1).2.2.2.1, (five G1).2.2.2.2.1⟩ (fun hNew => ?_)
  clear hB hOc hCm
  clear hHeld hK K
  have hHeld := hNew
  clear hNew
  try simp only [Act.put, List.getElem_toArray, List.getElem_cons_zero, List.getElem_cons_succ, List.setIfInBounds_toArray, List.set_cons_zero, List.set_cons_succ]
  refine wpAnyH_take (i := 15) (v := ?_) rfl (by kernel_rfl) (by kernel_rfl) (by kernel_rfl) (fun _ _ _ h => h) (Or.inl ⟨by rfl, ?_⟩) hHeld ?_
  rotate_left
  · intro w hSw; obtain ⟨s0, s1, s2, s3, s4, s5, s6⟩ := hSw; go_simp; try with_reducible rfl
  try simp only [Act.put, List.getElem_toArray, List.getElem_cons_zero, List.getElem_cons_succ, List.setIfInBounds_toArray, List.set_cons_zero, List.set_cons_succ]
  refine wpAnyH_take (i := 16) (v := ?_) rfl (by kernel_rfl) (by kernel_rfl) (by kernel_rfl) (fun _ _ _ h => h) (Or.inl ⟨by rfl, ?_⟩) hHeld ?_
  rotate_left
  · intro w hSw; obtain ⟨s0, s1, s2, s3, s4, s5, s6⟩ := hSw; go_simp; try with_reducible rfl
  try simp only [Act.put, List.getElem_toArray, List.getElem_cons_zero, List.getElem_cons_succ, List.setIfInBounds_toArray, List.set_cons_zero, List.set_cons_succ]
  refine wpAnyH_ready (rs := [17]) (by kernel_rfl) (by simp) (AllReadyH.cons rfl (fun K hK => ?_) AllReadyH.nil)
  go_simp
  refine (told_any hCR hlk.1 a l c _ w10 hO6).mono ?_
  rintro e w11 ⟨hB, nb, a', l', c', vs, f, rfl, hA, hO7⟩
  replace G0 := lies.on_call G0 hB
  replace G1 := lies.on_call G1 hB
  replace G2 := lies.on_call G2 hB
  replace GB := GB.trans (hB.mono GB.size)
  refine hK.out _ _ ⟨(lies.two G0).1, (lies.two G0).2.1, (five G1).1, (five G1).2.1, (five G1).2.2.1, (five G1).2.2.2.1, (five G1).2.2.2.2.1⟩ (fun hNew => ?_)
  clear hB hO6 hCR
  clear hHeld hK K
  have hHeld := hNew
  clear hNew
  try simp only [Act.put, List.getElem_toArray, List.getElem_cons_zero, List.getElem_cons_succ, List.setIfInBounds_toArray, List.set_cons_zero, List.set_cons_succ]
  refine wpAnyH_take (i := 18) (v := ?_) rfl (by kernel_rfl) (by kernel_rfl) (by kernel_rfl) (fun _ _ _ h => h) (Or.inl ⟨by rfl, ?_⟩) hHeld ?_
  rotate_left
  · intro w hSw; obtain ⟨s0, s1, s2, s3, s4, s5, s6⟩ := hSw; go_simp; try with_reducible rfl
  try simp only [Act.put, List.getElem_toArray, List.getElem_cons_zero, List.getElem_cons_succ, List.setIfInBounds_toArray, List.set_cons_zero, List.set_cons_succ]
  refine wpAnyH_take (i := 19) (v := ?_) rfl (by kernel_rfl) (by kernel_rfl) (by kernel_rfl) (fun _ _ _ h => h) (Or.inl ⟨by rfl, ?_⟩) hHeld ?_
  rotate_left
  · intro w hSw; obtain ⟨s0, s1, s2, s3, s4, s5, s6⟩ := hSw; go_simp; try with_reducible rfl
  try simp only [Act.put, List.getElem_toArray, List.getElem_cons_zero, List.getElem_cons_succ, List.setIfInBounds_toArray, List.set_cons_zero, List.set_cons_succ]
  obtain ⟨x0, x1, x2, x3, x4⟩ := lies.two G2
  refine wpAnyH_ready (rs := [20]) (by kernel_rfl) (by simp) (AllReadyH.cons rfl (fun K hK => ?_) AllReadyH.nil)
  go_simp
  replace G0 := lies.on_far (lies.on_far G0 (b := w.heap.size + 1 + 1) 0 (by omega) (.int .i64 nb)) (b := w.heap.size + 1 + 1) 1 (by omega) (.slice a' l' c')
  replace G1 := lies.on_far (lies.on_far G1 (b := w.heap.size + 1 + 1) 0 (by omega) (.int .i64 nb)) (b := w.heap.size + 1 + 1) 1 (by omega) (.slice a' l' c')
  refine hK.out _ _ ⟨(lies.two G0).1, (lies.two G0).2.1, (five G1).1, (five G1).2.1, (five G1).2.2.1, (five G1).2.2.2.1, (five G1).2.2.2.2.1⟩ (fun hNew => ?_)
  clear hHeld hK K
  have hHeld := hNew
  clear hNew
  try simp only [Act.put, List.getElem_toArray, List.getElem_cons_zero, List.getElem_cons_succ, List.setIfInBounds_toArray, List.set_cons_zero, List.set_cons_succ]
  refine wpAnyH_take (i := 21) (v := ?_) rfl (by kernel_rfl) (by kernel_rfl) (by kernel_rfl) (fun _ _ _ h => h) (Or.inl ⟨by rfl, ?_⟩) hHeld ?_
  rotate_left
  · intro w hSw; obtain ⟨s0, s1, s2, s3, s4, s5, s6⟩ := hSw; go_simp; try with_reducible rfl
  try simp only [Act.put, List.getElem_toArray, List.getElem_cons_zero, List.getElem_cons_succ, List.setIfInBounds_toArray, List.set_cons_zero, List.set_cons_succ]
  refine wpAnyH_done (by kernel_rfl) ?_ _
  clear hHeld G0 G1
  have HA := Lib.hid hA
  clear hA
  go_wp2_with fail
  refine bodyPost_ret (v := .tuple #[.agg #[.int .i64 nb, .slice a' l' c'], .int .i64 f]) (by simp [results, Try.results16, go_sem, x0, x1]) rfl ⟨ret3 GB (by omega) _ _, nb, a', l', c', vs, f, rfl, .inr ⟨_, rfl, ?_⟩, ?_⟩
  · unfold btwL
    rw [HX.out, HY.out]
    exact Ans.like HA.out hlk
  · exact Go.Joins.ownsRow_le (dref.own_other (dref.own_other hO7 (p := ⟨w.heap.size + 1 + 1, 0, none⟩) hlt5 _) (p := ⟨w.heap.size + 1 + 1, 1, none⟩) hlt5 _) hb5

theorem btw_any (n i lo hi : Int) (ls hs op : Bool) (sv : Value) (ts : List Int) (w : World) (hI : law.Ints w.heap.size w sv ts) (hm : ts.length ≤ 1000000) (hlo : Low ts) (htop : Tops ts) :
    Calls Try.prog 16 #[.agg #[.int .i64 n, sv], .int .i64 i, .agg #[.int .i64 lo, .bool ls, .int .i64 hi, .bool hs, .bool op]] w (RTells n (btwQ n ts i lo ls hi hs op) (btwE n ts i) w) := by
  by_cases h : MayD n ts
  · by_cases hc : Clk n i
    · have e1 : btwE n ts i = 8 := if_neg (fun x => x.2 hc)
      by_cases hsp : MayS lo hi hs op
      · have e2 : btwQ n ts i lo ls hi hs op = some (btwL n.toNat ts i.toNat lo ls hi hs op) := if_pos ⟨h, hc, hsp⟩
        rw [e1, e2]
        obtain ⟨m, rfl, h0, hn, hl⟩ := may_nat h
        obtain ⟨p, rfl⟩ : ∃ p : Nat, i = p := ⟨i.toNat, by have := hc.1; omega⟩
        have hpp : 0 < m * m := Nat.mul_pos h0 h0
        rcases hI with ⟨_, rfl⟩ | ⟨b, off, cap, rfl, hb, hr⟩
        · simp at hl; omega
        · rw [hl]
          exact btw_ok m p lo hi ls hs op b off cap ts w h0 hn hr hb hlo htop h hl (by have := hc.2; omega) hsp
      · have e2 : btwQ n ts i lo ls hi hs op = none := if_neg (fun x => hsp x.2.2)
        rw [e1, e2]
        exact btw_span n i lo hi ls hs op sv ts w hI hm hlo htop h hc hsp
    · have e1 : btwE n ts i = 2 := if_pos ⟨h, hc⟩
      have e2 : btwQ n ts i lo ls hi hs op = none := if_neg (fun x => hc x.2.1)
      rw [e1, e2]
      exact btw_clock n i lo hi ls hs op sv ts w hI hm hlo htop h hc
  · have e1 : btwE n ts i = 8 := if_neg (fun x => h x.1)
    have e2 : btwQ n ts i lo ls hi hs op = none := if_neg (fun x => h x.1)
    rw [e1, e2]
    exact btw_bad n i lo hi ls hs op sv ts w hI hm hlo htop h
end Go.Proofs.Ytallgbpijndmeaa.tref
