/-
  What rallentandoref05's Set, Meet and Between answer, at any arguments; each theorem names its conditions.
-/
import Derived.Test.YtallgbpijndmeaaTightLike
namespace Go.Proofs.Ytallgbpijndmeaa.tref
open Go.ChangeShapes Go.WideShapes Go.ChangeAt Go.RowKit num dbm dref Go.Proofs.Ytallgbpijndmeaa.tight
open bound hiding up
set_option linter.unusedVariables false
set_option linter.unusedSimpArgs false

/-- what such a call answers. -/
def RTells (n : Int) (q : Option (List Int)) (err : Int) (w : World) (e : Ending) (w' : World) : Prop := Below w.heap.size w w' ∧ ∃ na aa la ca us f, e = .returned (.tuple #[.agg #[.int .i64 na, .slice aa la ca], .int .i64 f]) ∧ Res n q err na us f ∧ w'.ownsRow w.heap.size 26 1 (.slice aa la ca) us.length (us.map (Value.int .i64))
theorem RTells.err {n err : Int} {w w' : World} (h : Below w.heap.size w w') : RTells n none err w (.returned (.tuple #[.agg #[.int .i64 0, .slice none 0 0], .int .i64 err])) w' := ⟨h, 0, none, 0, 0, [], err, rfl, .inl ⟨rfl, rfl, rfl, rfl⟩, World.ownsRow_nil _ _ _ _⟩
theorem may_yes {n : Int} {sv : Value} {ts : List Int} {w : World} (hI : law.Ints w.heap.size w sv ts) (hm : ts.length ≤ 1000000) (hlo : Low ts) (htop : Tops ts) (h : MayD n ts) : Calls Try.prog 31 #[.agg #[.int .i64 n, sv]] w fun e w' => e = .returned (.bool true) ∧ Below w.heap.size w w' := by
  have := dref.may_any n sv ts w hI hm hlo htop
  rwa [decide_eq_true h] at this
theorem may_no {n : Int} {sv : Value} {ts : List Int} {w : World} (hI : law.Ints w.heap.size w sv ts) (hm : ts.length ≤ 1000000) (hlo : Low ts) (htop : Tops ts) (h : ¬ MayD n ts) : Calls Try.prog 31 #[.agg #[.int .i64 n, sv]] w fun e w' => e = .returned (.bool false) ∧ Below w.heap.size w w' := by
  have := dref.may_any n sv ts w hI hm hlo htop
  rwa [decide_eq_false h] at this

set_option maxRecDepth 100000 in
set_option maxHeartbeats 2000000 in
theorem set_may_no (n i j x : Int) (sv : Value) (ts : List Int) (w : World) (hI : law.Ints w.heap.size w sv ts) (hm : ts.length ≤ 1000000) (hlo : Low ts) (htop : Tops ts) (h : ¬ MayD n ts) :
    Calls Try.prog 14 #[.agg #[.int .i64 n, sv], .int .i64 i, .int .i64 j, .int .i64 x] w (RTells n none 8 w) := by
  obtain ⟨DB, D0, D1⟩ := dref.box_res n sv w
  have C := Lib.hid (may_no ((hI.below DB).mono DB.size) hm hlo htop h)
  obtain ⟨ad, cap, rfl⟩ := ints_len hI
  clear hI htop h hlo
  go_enter Try.func14, Try.ntmps14
  go_wp2_with fail
  refine C.out.mono ?_
  rintro e w1 ⟨rfl, hB1⟩
  have E1 := lies.on_call D1 hB1
  have EB := DB.trans (hB1.mono DB.size)
  clear D0 D1 DB hB1 C
  obtain ⟨x0, x1, x2, x3, x4⟩ := lies.two E1
  go_wp2_with fail
  exact bodyPost_ret (v := .tuple #[.agg #[.int .i64 0, .slice none 0 0], .int .i64 8]) (by simp [results, Try.results14, go_sem, x0, x1]) rfl (RTells.err (dref.ret_res EB (by omega) _ _))

set_option maxRecDepth 100000 in
set_option maxHeartbeats 2000000 in
theorem set_clock_no (n i j x : Int) (sv : Value) (ts : List Int) (w : World) (hI : law.Ints w.heap.size w sv ts) (hm : ts.length ≤ 1000000) (hlo : Low ts) (htop : Tops ts) (h : MayD n ts) (hc : ¬ (Clk n i ∧ Clk n j)) :
    Calls Try.prog 14 #[.agg #[.int .i64 n, sv], .int .i64 i, .int .i64 j, .int .i64 x] w (RTells n none 2 w) := by
  obtain ⟨DB, D0, D1⟩ := dref.box_res n sv w
  have C := Lib.hid (may_yes ((hI.below DB).mono DB.size) hm hlo htop h)
  obtain ⟨ad, cap, rfl⟩ := ints_len hI
  clear hI htop h hlo
  by_cases hi : Clk n i
  · have HI := Lib.hid hi
    have HJ := Lib.hid (fun k => hc ⟨hi, k⟩)
    clear hi hc
    go_enter Try.func14, Try.ntmps14
    go_wp2_with fail
    refine C.out.mono ?_
    rintro e w1 ⟨rfl, hB1⟩
    have E0 := lies.on_call D0 hB1
    have E1 := lies.on_call D1 hB1
    have EB := DB.trans (hB1.mono DB.size)
    clear D0 D1 DB hB1 C
    obtain ⟨x0, x1, x2, x3, x4⟩ := lies.two E0
    go_wp2_with fail
    refine (clock_yes HI.out _ _).mono ?_
    rintro e w2 ⟨rfl, hB2⟩
    have F0 := lies.on_call E0 hB2
    have F1 := lies.on_call E1 hB2
    have FB := EB.trans (hB2.mono EB.size)
    clear E0 E1 EB hB2 x0 x1 x2 x3 x4
    obtain ⟨x0, x1, x2, x3, x4⟩ := lies.two F0
    go_wp2_with fail
    refine (clock_no HJ.out _ _).mono ?_
    rintro e w3 ⟨rfl, hB3⟩
    have G1 := lies.on_call F1 hB3
    have GB := FB.trans (hB3.mono FB.size)
    clear F0 F1 FB hB3 x0 x1 x2 x3 x4
    obtain ⟨x0, x1, x2, x3, x4⟩ := lies.two G1
    go_wp2_with fail
    exact bodyPost_ret (v := .tuple #[.agg #[.int .i64 0, .slice none 0 0], .int .i64 2]) (by simp [results, Try.results14, go_sem, x0, x1]) rfl (RTells.err (dref.ret_res GB (by omega) _ _))
  · have HI := Lib.hid hi
    clear hi hc
    go_enter Try.func14, Try.ntmps14
    go_wp2_with fail
    refine C.out.mono ?_
    rintro e w1 ⟨rfl, hB1⟩
    have E0 := lies.on_call D0 hB1
    have E1 := lies.on_call D1 hB1
    have EB := DB.trans (hB1.mono DB.size)
    clear D0 D1 DB hB1 C
    obtain ⟨x0, x1, x2, x3, x4⟩ := lies.two E0
    go_wp2_with fail
    refine (clock_no HI.out _ _).mono ?_
    rintro e w2 ⟨rfl, hB2⟩
    have F1 := lies.on_call E1 hB2
    have FB := EB.trans (hB2.mono EB.size)
    clear E0 E1 EB hB2 x0 x1 x2 x3 x4
    obtain ⟨x0, x1, x2, x3, x4⟩ := lies.two F1
    go_wp2_with fail
    exact bodyPost_ret (v := .tuple #[.agg #[.int .i64 0, .slice none 0 0], .int .i64 2]) (by simp [results, Try.results14, go_sem, x0, x1]) rfl (RTells.err (dref.ret_res FB (by omega) _ _))

/-- an answer of Common, whatever it is. -/
def CommR (n : Int) (L : List Int) (na : Int) (us : List Int) (bl : Bool) : Prop := (¬ OkD n L ∧ na = 0 ∧ us = [] ∧ bl = false) ∨ (OkD n L ∧ na = n ∧ us = clT n L ∧ bl = true)
theorem comm_one {n : Nat} {L : List Int} {w w' : World} {e : Ending} (h : Comm n L w e w') : Below w.heap.size w w' ∧ ∃ na a l c us bl, e = .returned (.tuple #[.agg #[.int .i64 na, .slice a l c], .bool bl]) ∧ CommR n L na us bl ∧ w'.ownsRow w.heap.size 26 1 (.slice a l c) us.length (us.map (Value.int .i64)) := by
  rcases h with ⟨hB, ⟨hno, rfl⟩ | ⟨hok, a, l, c, rfl, hO⟩⟩
  · exact ⟨hB, 0, none, 0, 0, [], false, rfl, .inl ⟨hno, rfl, rfl, rfl⟩, World.ownsRow_nil _ _ _ _⟩
  · exact ⟨hB, n, a, l, c, clT n L, true, rfl, .inr ⟨hok, rfl, rfl, rfl⟩, hO⟩
theorem told_any {n : Int} {L : List Int} {na : Int} {us : List Int} {bl : Bool} (hC : CommR n L na us bl) (hm : MayD n L) (a : Option Addr) (l c base : Nat) (w : World) (hO : w.ownsRow base 26 1 (.slice a l c) us.length (us.map (Value.int .i64))) :
    Calls Try.prog 34 #[.agg #[.int .i64 na, .slice a l c], .bool bl] w fun e w' => Below w.heap.size w w' ∧ ∃ nb a' l' c' vs f, e = .returned (.tuple #[.agg #[.int .i64 nb, .slice a' l' c'], .int .i64 f]) ∧ Ans n L nb vs f ∧ w'.ownsRow base 26 1 (.slice a' l' c') vs.length (vs.map (Value.int .i64)) := by
  rcases hC with ⟨hno, rfl, rfl, rfl⟩ | ⟨hok, rfl, rfl, rfl⟩
  · refine (told_no 0 _ w).mono ?_
    rintro e w' ⟨rfl, hB⟩
    exact ⟨hB, 0, none, 0, 0, [], 6, rfl, .inl ⟨hno, rfl, rfl, by rw [if_pos hm]⟩, World.ownsRow_nil _ _ _ _⟩
  · refine (told_yes _ a l c w).mono ?_
    rintro e w' ⟨rfl, hB⟩
    exact ⟨hB, _, a, l, c, _, 0, rfl, .inr ⟨hok, rfl, rfl, rfl⟩, own_call hO hB⟩
/-- an answer of Common, told. -/
theorem mayb_yes {x : Int} (w : World) (h : Fine x) : Calls Try.prog 33 #[.int .i64 x] w fun e w' => e = .returned (.bool true) ∧ Below w.heap.size w w' := by
  have := mayb_any x w (fine_low h) (fine_top h)
  rwa [decide_eq_true h] at this
theorem mayb_no {x : Int} (w : World) (x1 : -9223372036854775808 ≤ x) (x2 : x ≤ 9223372036854775807) (h : ¬ Fine x) : Calls Try.prog 33 #[.int .i64 x] w fun e w' => e = .returned (.bool false) ∧ Below w.heap.size w w' := by
  have := mayb_any x w x1 x2
  rwa [decide_eq_false h] at this
/-- a row of one's own, as it is read. -/
theorem own_row {W : World} {base g len cc : Nat} {us : List Int} (h : W.ownsRow base 26 1 (.slice (some ⟨g, 0, none⟩) len cc) len (us.map (Value.int .i64))) (hl : us.length = len) : Row W g 0 us := fun p hp => by
  rw [Nat.zero_add, h.cellAt p (by omega), List.getElem?_map, List.getElem?_eq_getElem hp]; rfl

set_option maxRecDepth 100000 in
set_option maxHeartbeats 4000000 in
theorem set_fine (n : Nat) (i j : Nat) (x : Int) (b off cap : Nat) (ts : List Int) (w : World) (h0 : 0 < n) (hn : n ≤ 4) (hr : Row w b off ts) (hb : b < w.heap.size) (hlo : Low ts) (htop : Tops ts) (h : MayD n ts) (hl : ts.length = n * n) (hi : i < n) (hj : j < n) (x1 : -9223372036854775808 ≤ x) (x2 : x ≤ 9223372036854775807) (Q : Option (List Int)) (hq : (Fine x ∧ Q = some (setT ts (i * n + j) x)) ∨ (¬ Fine x ∧ Q = none)) :
    Calls Try.prog 14 #[.agg #[.int .i64 n, .slice (some ⟨b, off, none⟩) (n * n) cap], .int .i64 i, .int .i64 j, .int .i64 x] w (RTells n Q 8 w) := by
  have hpp : 0 < n * n := Nat.mul_pos h0 h0
  have hsq := sq_le hn
  obtain ⟨DB, D0, D1⟩ := dref.box_res n (.slice (some ⟨b, off, none⟩) (n * n) cap) w
  have hI : law.Ints w.heap.size w (.slice (some ⟨b, off, none⟩) (n * n) cap) ts := .inr ⟨b, off, cap, by rw [hl], hb, hr⟩
  have C := Lib.hid (may_yes ((hI.below DB).mono DB.size) (by omega) hlo htop h)
  have HI := Lib.hid (show Clk n i from ⟨by omega, by omega⟩)
  have HJ := Lib.hid (show Clk n j from ⟨by omega, by omega⟩)
  have HIN := Lib.hid hI
  have HT := Lib.hid htop
  have HL := Lib.hid hl
  have HQ := Lib.hid hq
  have HM := Lib.hid h
  clear hI hr htop h hl hq hlo
  go_enter Try.func14, Try.ntmps14
  go_wp2_with fail
  refine C.out.mono ?_
  rintro e w1 ⟨rfl, hB1⟩
  have E0 := lies.on_call D0 hB1
  have E1 := lies.on_call D1 hB1
  have EB := DB.trans (hB1.mono DB.size)
  clear D0 D1 DB hB1 C
  obtain ⟨x0, x1, x2, x3, x4⟩ := lies.two E0
  go_wp2_with fail
  refine (clock_yes HI.out _ _).mono ?_
  rintro e w2 ⟨rfl, hB2⟩
  have F0 := lies.on_call E0 hB2
  have F1 := lies.on_call E1 hB2
  have FB := EB.trans (hB2.mono EB.size)
  clear E0 E1 EB hB2 x0 x1 x2 x3 x4
  obtain ⟨x0, x1, x2, x3, x4⟩ := lies.two F0
  go_wp2_with fail
  refine (clock_yes HJ.out _ _).mono ?_
  rintro e w3 ⟨rfl, hB3⟩
  have G0 := lies.on_call F0 hB3
  have G1 := lies.on_call F1 hB3
  have GB := FB.trans (hB3.mono FB.size)
  clear F0 F1 FB hB3 x0 x1 x2 x3 x4
  obtain ⟨x0, x1, x2, x3, x4⟩ := lies.two G0
  go_wp2_with fail
  rcases HQ.out with ⟨hf, rfl⟩ | ⟨hf, rfl⟩
  · have HF := Lib.hid hf
    clear hf
    refine (mayb_yes _ HF.out).mono ?_
    rintro e w4 ⟨rfl, hB4⟩
    have H0 := lies.on_call G0 hB4
    have H1 := lies.on_call G1 hB4
    have HB := GB.trans (hB4.mono GB.size)
    clear G0 G1 GB hB4 x0 x1 x2 x3 x4
    obtain ⟨x0, x1, x2, x3, x4⟩ := lies.two H0
    go_wp2_with fail
    clear x0 x1 x2 x3 x4
    replace H0 := lies.on_drew H0
    replace H1 := lies.on_drew H1
    replace HB := dbm.drawn1 HB
    refine wp_region_held_drew (S := fun W => W.cell? ⟨w.heap.size, 0, none⟩ = some (.int .i64 n) ∧ W.cell? ⟨w.heap.size, 1, none⟩ = some (.slice (some ⟨b, off, none⟩) (n * n) cap)) (by kernel_rfl) ⟨(lies.two H0).1, (lies.two H0).2.1⟩ (fun hHeld => ?_)
    refine wpAnyH_take (i := 0) (v := ?_) rfl (by kernel_rfl) (by kernel_rfl) (by kernel_rfl) (fun _ _ _ h => h) (Or.inl ⟨by rfl, ?_⟩) hHeld ?_
    rotate_left
    · intro w hSw; obtain ⟨s0, s1⟩ := hSw; go_simp; try with_reducible rfl
    try simp only [Act.put, List.getElem_toArray, List.getElem_cons_zero, List.getElem_cons_succ, List.setIfInBounds_toArray, List.set_cons_zero, List.set_cons_succ]
    refine wpAnyH_take (i := 1) (v := ?_) rfl (by kernel_rfl) (by kernel_rfl) (by kernel_rfl) (fun _ _ _ h => h) (Or.inl ⟨by rfl, ?_⟩) hHeld ?_
    rotate_left
    · intro w hSw; obtain ⟨s0, s1⟩ := hSw; go_simp; try with_reducible rfl
    try simp only [Act.put, List.getElem_toArray, List.getElem_cons_zero, List.getElem_cons_succ, List.setIfInBounds_toArray, List.set_cons_zero, List.set_cons_succ]
    refine wpAnyH_take (i := 2) (v := ?_) rfl (by kernel_rfl) (by kernel_rfl) (by kernel_rfl) (fun _ _ _ h => h) (Or.inl ⟨by rfl, ?_⟩) hHeld ?_
    rotate_left
    · intro w hSw; obtain ⟨s0, s1⟩ := hSw; go_simp; try with_reducible rfl
    try simp only [Act.put, List.getElem_toArray, List.getElem_cons_zero, List.getElem_cons_succ, List.setIfInBounds_toArray, List.set_cons_zero, List.set_cons_succ]
    refine wpAnyH_take (i := 3) (v := ?_) rfl (by kernel_rfl) (by kernel_rfl) (by kernel_rfl) (fun _ _ _ h => h) (Or.inl ⟨by rfl, ?_⟩) hHeld ?_
    rotate_left
    · intro w hSw; obtain ⟨s0, s1⟩ := hSw; go_simp; try with_reducible rfl
    try simp only [Act.put, List.getElem_toArray, List.getElem_cons_zero, List.getElem_cons_succ, List.setIfInBounds_toArray, List.set_cons_zero, List.set_cons_succ]
    refine wpAnyH_take (i := 4) (v := ?_) rfl (by kernel_rfl) (by kernel_rfl) (by kernel_rfl) (fun _ _ _ h => h) (Or.inl ⟨by rfl, ?_⟩) hHeld ?_
    rotate_left
    · intro w hSw; obtain ⟨s0, s1⟩ := hSw; go_simp; try with_reducible rfl
    try simp only [Act.put, List.getElem_toArray, List.getElem_cons_zero, List.getElem_cons_succ, List.setIfInBounds_toArray, List.set_cons_zero, List.set_cons_succ]
    refine wpAnyH_take (i := 5) (v := ?_) rfl (by kernel_rfl) (by kernel_rfl) (by kernel_rfl) (fun _ _ _ h => h) (Or.inl ⟨by rfl, ?_⟩) hHeld ?_
    rotate_left
    · intro w hSw; obtain ⟨s0, s1⟩ := hSw; go_simp; try with_reducible rfl
    try simp only [Act.put, List.getElem_toArray, List.getElem_cons_zero, List.getElem_cons_succ, List.setIfInBounds_toArray, List.set_cons_zero, List.set_cons_succ]
    refine wpAnyH_ready (rs := [6]) (by kernel_rfl) (by simp) (AllReadyH.cons rfl (fun K hK => ?_) AllReadyH.nil)
    go_simp
    refine (one_is n i j x _ h0 hn hi hj).mono ?_
    rintro e w5 ⟨hB, g, cc, rfl, hg, hO⟩
    replace H0 := lies.on_call H0 hB
    replace H1 := lies.on_call H1 hB
    replace HB := HB.trans (hB.mono HB.size)
    refine hK.out _ _ ⟨(lies.two H0).1, (lies.two H0).2.1⟩ (fun hNew => ?_)
    clear hB
    clear hHeld hK K
    have hHeld := hNew
    clear hNew
    try simp only [Act.put, List.getElem_toArray, List.getElem_cons_zero, List.getElem_cons_succ, List.setIfInBounds_toArray, List.set_cons_zero, List.set_cons_succ]
    refine wpAnyH_ready (rs := [7]) (by kernel_rfl) (by simp) (AllReadyH.cons rfl (fun K hK => ?_) AllReadyH.nil)
    go_simp
    have hl1 : (oneT n i j x).length = n * n := oneT_length _ _ _ _
    have hlk := like_one h0 hn HL.out HT.out HM.out hi hj HF.out
    refine (common_is n _ g 0 cc ts (oneT n i j x) _ h0 hn ((HIN.out.below HB).mono HB.size) (own_row hO hl1) (hO.lt g rfl).2 HL.out hl1 HT.out hlk.1).mono ?_
    intro e w6 hCm
    obtain ⟨hB, na, a, l, c, us, bl, rfl, hCR, hO6⟩ := comm_one hCm
    have hb5 := HB.size
    have hlt5 := lies.lt H1
    replace H0 := lies.on_call H0 hB
    replace H1 := lies.on_call H1 hB
    replace HB := HB.trans (hB.mono HB.size)
    refine hK.out _ _ ⟨(lies.two H0).1, (lies.two H0).2.1⟩ (fun hNew => ?_)
    clear hB hO hCm
    clear hHeld hK K
    have hHeld := hNew
    clear hNew
    try simp only [Act.put, List.getElem_toArray, List.getElem_cons_zero, List.getElem_cons_succ, List.setIfInBounds_toArray, List.set_cons_zero, List.set_cons_succ]
    refine wpAnyH_take (i := 8) (v := ?_) rfl (by kernel_rfl) (by kernel_rfl) (by kernel_rfl) (fun _ _ _ h => h) (Or.inl ⟨by rfl, ?_⟩) hHeld ?_
    rotate_left
    · intro w hSw; obtain ⟨s0, s1⟩ := hSw; go_simp; try with_reducible rfl
    try simp only [Act.put, List.getElem_toArray, List.getElem_cons_zero, List.getElem_cons_succ, List.setIfInBounds_toArray, List.set_cons_zero, List.set_cons_succ]
    refine wpAnyH_take (i := 9) (v := ?_) rfl (by kernel_rfl) (by kernel_rfl) (by kernel_rfl) (fun _ _ _ h => h) (Or.inl ⟨by rfl, ?_⟩) hHeld ?_
    rotate_left
    · intro w hSw; obtain ⟨s0, s1⟩ := hSw; go_simp; try with_reducible rfl
    try simp only [Act.put, List.getElem_toArray, List.getElem_cons_zero, List.getElem_cons_succ, List.setIfInBounds_toArray, List.set_cons_zero, List.set_cons_succ]
    refine wpAnyH_ready (rs := [10]) (by kernel_rfl) (by simp) (AllReadyH.cons rfl (fun K hK => ?_) AllReadyH.nil)
    go_simp
    refine (told_any hCR hlk.1 a l c _ w6 hO6).mono ?_
    rintro e w7 ⟨hB, nb, a', l', c', vs, f, rfl, hA, hO7⟩
    replace H0 := lies.on_call H0 hB
    replace H1 := lies.on_call H1 hB
    replace HB := HB.trans (hB.mono HB.size)
    refine hK.out _ _ ⟨(lies.two H0).1, (lies.two H0).2.1⟩ (fun hNew => ?_)
    clear hB hO6 hCR
    clear hHeld hK K
    have hHeld := hNew
    clear hNew
    try simp only [Act.put, List.getElem_toArray, List.getElem_cons_zero, List.getElem_cons_succ, List.setIfInBounds_toArray, List.set_cons_zero, List.set_cons_succ]
    refine wpAnyH_take (i := 11) (v := ?_) rfl (by kernel_rfl) (by kernel_rfl) (by kernel_rfl) (fun _ _ _ h => h) (Or.inl ⟨by rfl, ?_⟩) hHeld ?_
    rotate_left
    · intro w hSw; obtain ⟨s0, s1⟩ := hSw; go_simp; try with_reducible rfl
    try simp only [Act.put, List.getElem_toArray, List.getElem_cons_zero, List.getElem_cons_succ, List.setIfInBounds_toArray, List.set_cons_zero, List.set_cons_succ]
    refine wpAnyH_take (i := 12) (v := ?_) rfl (by kernel_rfl) (by kernel_rfl) (by kernel_rfl) (fun _ _ _ h => h) (Or.inl ⟨by rfl, ?_⟩) hHeld ?_
    rotate_left
    · intro w hSw; obtain ⟨s0, s1⟩ := hSw; go_simp; try with_reducible rfl
    try simp only [Act.put, List.getElem_toArray, List.getElem_cons_zero, List.getElem_cons_succ, List.setIfInBounds_toArray, List.set_cons_zero, List.set_cons_succ]
    obtain ⟨x0, x1, x2, x3, x4⟩ := lies.two H1
    refine wpAnyH_ready (rs := [13]) (by kernel_rfl) (by simp) (AllReadyH.cons rfl (fun K hK => ?_) AllReadyH.nil)
    go_simp
    have G0 := lies.on_far (lies.on_far H0 (b := w.heap.size + 1) 0 (by omega) (.int .i64 nb)) (b := w.heap.size + 1) 1 (by omega) (.slice a' l' c')
    refine hK.out _ _ ⟨(lies.two G0).1, (lies.two G0).2.1⟩ (fun hNew => ?_)
    clear hHeld hK K
    have hHeld := hNew
    clear hNew
    try simp only [Act.put, List.getElem_toArray, List.getElem_cons_zero, List.getElem_cons_succ, List.setIfInBounds_toArray, List.set_cons_zero, List.set_cons_succ]
    refine wpAnyH_take (i := 14) (v := ?_) rfl (by kernel_rfl) (by kernel_rfl) (by kernel_rfl) (fun _ _ _ h => h) (Or.inl ⟨by rfl, ?_⟩) hHeld ?_
    rotate_left
    · intro w hSw; obtain ⟨s0, s1⟩ := hSw; go_simp; try with_reducible rfl
    try simp only [Act.put, List.getElem_toArray, List.getElem_cons_zero, List.getElem_cons_succ, List.setIfInBounds_toArray, List.set_cons_zero, List.set_cons_succ]
    refine wpAnyH_done (by kernel_rfl) ?_ _
    clear hHeld G0 H0
    have HA := Lib.hid hA
    clear hA
    go_wp2_with fail
    refine bodyPost_ret (v := .tuple #[.agg #[.int .i64 nb, .slice a' l' c'], .int .i64 f]) (by simp [results, Try.results14, go_sem, x0, x1]) rfl ⟨dref.ret_res HB (by omega) _ _, nb, a', l', c', vs, f, rfl, .inr ⟨_, rfl, Ans.like HA.out hlk⟩, ?_⟩
    exact Go.Joins.ownsRow_le (dref.own_other (dref.own_other hO7 (p := ⟨w.heap.size + 1, 0, none⟩) hlt5 _) (p := ⟨w.heap.size + 1, 1, none⟩) hlt5 _) (by omega)
  · refine (mayb_no _ (by omega) (by omega) hf).mono ?_
    rintro e w4 ⟨rfl, hB4⟩
    have H1 := lies.on_call G1 hB4
    have HB := GB.trans (hB4.mono GB.size)
    have HF := Lib.hid hf
    clear hf G0 G1 GB hB4 x0 x1 x2 x3 x4 HQ
    obtain ⟨x0, x1, x2, x3, x4⟩ := lies.two H1
    go_wp2_with fail
    exact bodyPost_ret (v := .tuple #[.agg #[.int .i64 0, .slice none 0 0], .int .i64 8]) (by simp [results, Try.results14, go_sem, x0, x1]) rfl (RTells.err (dref.ret_res HB (by omega) _ _))

theorem set_any (n i j x : Int) (sv : Value) (ts : List Int) (w : World) (hI : law.Ints w.heap.size w sv ts) (hm : ts.length ≤ 1000000) (hlo : Low ts) (htop : Tops ts) (x1 : -9223372036854775808 ≤ x) (x2 : x ≤ 9223372036854775807) :
    Calls Try.prog 14 #[.agg #[.int .i64 n, sv], .int .i64 i, .int .i64 j, .int .i64 x] w (RTells n (setQ n ts i j x) (setE n ts i j) w) := by
  unfold setQ setE
  by_cases h : MayD n ts
  · by_cases hc : Clk n i ∧ Clk n j
    · rw [show (if MayD n ts ∧ ¬ (Clk n i ∧ Clk n j) then (2 : Int) else 8) = 8 from if_neg (fun k => k.2 hc)]
      obtain ⟨m, rfl, h0, hn, hl⟩ := may_nat h
      obtain ⟨p, rfl⟩ : ∃ p : Nat, i = p := ⟨i.toNat, by have := hc.1.1; omega⟩
      obtain ⟨q, rfl⟩ : ∃ q : Nat, j = q := ⟨j.toNat, by have := hc.2.1; omega⟩
      have hpp : 0 < m * m := Nat.mul_pos h0 h0
      rcases hI with ⟨_, rfl⟩ | ⟨b, off, cap, rfl, hb, hr⟩
      · simp at hl; omega
      · rw [hl]
        refine set_fine m p q x b off cap ts w h0 hn hr hb hlo htop h hl (by have := hc.1.2; omega) (by have := hc.2.2; omega) x1 x2 _ ?_
        by_cases hf : Fine x
        · rw [if_pos ⟨h, hc.1, hc.2, hf⟩]
          exact .inl ⟨hf, rfl⟩
        · rw [if_neg (fun k => hf k.2.2.2)]
          exact .inr ⟨hf, rfl⟩
    · rw [if_neg (fun k => hc ⟨k.2.1, k.2.2.1⟩), if_pos ⟨h, hc⟩]
      exact set_clock_no n i j x sv ts w hI hm hlo htop h hc
  · rw [if_neg (fun k => h k.1), if_neg (fun k => h k.1)]
    exact set_may_no n i j x sv ts w hI hm hlo htop h
end Go.Proofs.Ytallgbpijndmeaa.tref
