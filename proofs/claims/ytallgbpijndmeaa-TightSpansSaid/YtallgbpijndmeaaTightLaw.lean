/-
  What the laws of layer 5 share: their helpers' answers, and calls at told matrices; each theorem names its conditions.
-/
import Derived.Test.YtallgbpijndmeaaTight5
namespace Go.Proofs.Ytallgbpijndmeaa.tlaw
open Go.Joins Go.ChangeShapes Go.WideShapes Go.ChangeAt Go.RowKit num dbm Go.Proofs.Ytallgbpijndmeaa.tight
open bound hiding up
set_option linter.unusedVariables false
set_option linter.unusedSimpArgs false

/-- is a matrix not empty? told by reckoning. -/
def okB (m : Nat) (h0 : 0 < m) (ts : List Int) : Bool := decide (MayD m ts) && (List.range (m + 1)).all (fun k => (List.range m).all fun i => decide (1 ≤ tat (tabs m h0 ts k) m i i))
theorem okB_iff {m : Nat} (h0 : 0 < m) (ts : List Int) : okB m h0 ts = true ↔ OkD m ts := by
  unfold okB OkD emp
  simp only [Bool.and_eq_true, decide_eq_true_eq, List.all_eq_true, List.mem_range, Int.toNat_natCast]
  constructor
  · rintro ⟨h, k⟩
    exact ⟨h, h0, fun q hq ⟨i, hi, hl⟩ => by have := k q (by omega) i hi; omega⟩
  · rintro ⟨h, h0', k⟩
    refine ⟨h, fun q hq i hi => ?_⟩
    refine Decidable.byContradiction fun hl => k q (by omega) ⟨i, hi, by omega⟩
theorem tells_yes {n : Int} {ts us : List Int} {err : Int} {w w' : World} {e : Ending} (h : Tells n (some ts) err w e w') (hok : OkD n ts) (hc : clT n ts = us) :
    Below w.heap.size w w' ∧ ∃ aa la ca, e = .returned (.tuple #[.agg #[.int .i64 n, .slice aa la ca], .int .i64 0]) ∧ Blk w.heap.size w' aa la ca us := by
  obtain ⟨hB, na, aa, la, ca, vs, f, rfl, hR, hK⟩ := h
  rcases hR with ⟨h, _⟩ | ⟨_, h, hA⟩
  · cases h
  · cases h
    rcases hA with ⟨h, _⟩ | ⟨_, rfl, rfl, rfl⟩
    · exact (h hok).elim
    · rw [hc] at hK
      exact ⟨hB, aa, la, ca, rfl, hK⟩
theorem tells_no {n : Int} {ts : List Int} {err : Int} {w w' : World} {e : Ending} (h : Tells n (some ts) err w e w') (hm : MayD n ts) (hok : ¬ OkD n ts) :
    Below w.heap.size w w' ∧ ∃ na aa la ca us, e = .returned (.tuple #[.agg #[.int .i64 na, .slice aa la ca], .int .i64 6]) ∧ Blk w.heap.size w' aa la ca us := by
  obtain ⟨hB, na, aa, la, ca, vs, f, rfl, hR, hK⟩ := h
  rcases hR with ⟨h, _⟩ | ⟨_, h, hA⟩
  · cases h
  · cases h
    rcases hA with ⟨_, rfl, rfl, rfl⟩ | ⟨h, _⟩
    · rw [if_pos hm]
      exact ⟨hB, _, aa, la, ca, _, rfl, hK⟩
    · exact (hok h).elim
theorem tells_err {n err : Int} {w w' : World} {e : Ending} (h : Tells n none err w e w') :
    Below w.heap.size w w' ∧ ∃ na aa la ca us, e = .returned (.tuple #[.agg #[.int .i64 na, .slice aa la ca], .int .i64 err]) ∧ Blk w.heap.size w' aa la ca us := by
  obtain ⟨hB, na, aa, la, ca, vs, f, rfl, hR, hK⟩ := h
  rcases hR with ⟨_, rfl, rfl, rfl⟩ | ⟨_, h, hA⟩
  · exact ⟨hB, _, aa, la, ca, _, rfl, hK⟩
  · cases h

theorem two_is (a b c d : Int) (w : World) :
    Calls Try.prog 8 #[.int .i64 a, .int .i64 b, .int .i64 c, .int .i64 d] w fun e w' => ∃ g, w.heap.size ≤ g ∧ e = .returned (.agg #[.int .i64 2, .slice (some ⟨g, 0, none⟩) 4 4]) ∧ lies.Lies w' g 26 (cellsOf [a, b, c, d]) ∧ Below w.heap.size w w' := by
  go_enter Try.func8, Try.ntmps8
  go_wp2
  refine bodyPost_ret (v := .agg #[.int .i64 2, .slice (some ⟨w.heap.size + 1, 0, none⟩) 4 4]) (by simp [results, Try.results8, go_sem]) rfl ⟨w.heap.size + 1, by omega, rfl, ?_, bound.up2 _ _ _⟩
  exact lies.made_at _ _ _ _ (by simp)

set_option maxRecDepth 100000 in
set_option maxHeartbeats 1000000 in
theorem is_yes (n : Int) (sv tv : Value) (ts : List Int) (w : World) (hI : law.Ints w.heap.size w sv ts) (hJ : law.Ints w.heap.size w tv ts) (hm : ts.length ≤ 1000000) :
    Calls Try.prog 30 #[.agg #[.int .i64 n, sv], .int .i64 0, .agg #[.int .i64 n, tv]] w fun e w' => e = .returned (.bool true) ∧ Below w.heap.size w w' := by
  obtain ⟨DB, D0, D1, D2⟩ := (show Below w.heap.size w ((w.alloc (.cells #[.int .i64 n, sv] 24)).alloc (.cells #[.int .i64 n, tv] 24)) ∧ lies.Lies ((w.alloc (.cells #[.int .i64 n, sv] 24)).alloc (.cells #[.int .i64 n, tv] 24)) w.heap.size 24 #[.int .i64 n, sv] ∧ lies.Lies ((w.alloc (.cells #[.int .i64 n, sv] 24)).alloc (.cells #[.int .i64 n, tv] 24)) (w.heap.size + 1) 24 #[.int .i64 n, tv] ∧ True from ⟨bound.up2 _ _ _, lies.on_alloc (lies.made w _ _) _, lies.made_at _ _ _ _ (World.size_alloc _ _), trivial⟩)
  obtain ⟨ad, cap, rfl⟩ := ints_len hI
  obtain ⟨bd, dap, rfl⟩ := ints_len hJ
  have HI := Lib.hid hI
  have HJ := Lib.hid hJ
  clear hI hJ
  go_enter Try.func30, Try.ntmps30
  obtain ⟨x0, x1, x2, x3, x4⟩ := lies.two D0
  obtain ⟨y0, y1, y2, y3, y4⟩ := lies.two D1
  go_wp2_with fail
  refine (dref.same_true n _ _ ts ts _ ((HI.out.below DB).mono DB.size) ((HJ.out.below DB).mono DB.size) hm rfl).mono ?_
  rintro e w1 ⟨rfl, hB1⟩
  have K := DB.trans (hB1.mono DB.size)
  clear x0 x1 x2 x3 x4 y0 y1 y2 y3 y4 D0 D1 D2 DB hB1
  go_wp2_with fail
  go_ret
  exact ⟨rfl, K⟩

/-- the calls of the examples. -/
theorem ok_cl {m : Nat} (h0 : 0 < m) {ts us : List Int} (h : okB m h0 ts = true) (k : tabs m h0 ts m = us) : OkD m ts ∧ clT m ts = us := ⟨(okB_iff h0 ts).1 h, (clT_nat h0 ts).trans k⟩
theorem set_yes (g : Nat) (w : World) (hg : lies.Lies w g 26 (cellsOf [1, 9223372036854775807, 9223372036854775807, 1])) :
    Calls Try.prog 9 #[.agg #[.int .i64 2, .slice (some ⟨g, 0, none⟩) 4 4], .int .i64 1, .int .i64 0, .int .i64 9] w fun e w' => Below w.heap.size w w' ∧ ∃ aa la ca, e = .returned (.tuple #[.agg #[.int .i64 2, .slice aa la ca], .int .i64 0]) ∧ Blk w.heap.size w' aa la ca [1, 9223372036854775807, 9, 1] := by
  refine (set_any 2 1 0 9 _ [1, 9223372036854775807, 9223372036854775807, 1] w (dlaw.own_ints (cap := 4) hg) (by decide) (by unfold Tops; decide) (by decide)).mono fun e w' h => ?_
  have e1 : setQ 2 [1, 9223372036854775807, 9223372036854775807, 1] 1 0 9 = some [1, 9223372036854775807, 9, 1] := by decide +kernel
  rw [e1] at h
  have := ok_cl (m := 2) (by decide) (ts := [1, 9223372036854775807, 9, 1]) (us := [1, 9223372036854775807, 9, 1]) (by decide +kernel) (by decide +kernel)
  exact tells_yes h this.1 this.2
theorem meet_yes (g b : Nat) (w : World) (hg : lies.Lies w g 26 (cellsOf [1, 9223372036854775807, 9, 1])) (hb : lies.Lies w b 26 (cellsOf [1, -3, 9223372036854775807, 1])) :
    Calls Try.prog 10 #[.agg #[.int .i64 2, .slice (some ⟨g, 0, none⟩) 4 4], .agg #[.int .i64 2, .slice (some ⟨b, 0, none⟩) 4 4]] w fun e w' => Below w.heap.size w w' ∧ ∃ aa la ca, e = .returned (.tuple #[.agg #[.int .i64 2, .slice aa la ca], .int .i64 0]) ∧ Blk w.heap.size w' aa la ca [1, -3, 9, 1] := by
  refine (meet_any 2 2 _ _ [1, 9223372036854775807, 9, 1] [1, -3, 9223372036854775807, 1] w (dlaw.own_ints (cap := 4) hg) (dlaw.own_ints (cap := 4) hb) (by decide) (by decide) (by unfold Tops; decide) (by unfold Tops; decide)).mono fun e w' h => ?_
  have e1 : meetQ 2 2 [1, 9223372036854775807, 9, 1] [1, -3, 9223372036854775807, 1] = some [1, -3, 9, 1] := by decide +kernel
  rw [e1] at h
  have := ok_cl (m := 2) (by decide) (ts := [1, -3, 9, 1]) (us := [1, -3, 9, 1]) (by decide +kernel) (by decide +kernel)
  exact tells_yes h this.1 this.2
theorem btw_yes (g : Nat) (w : World) (hg : lies.Lies w g 26 (cellsOf [1, 9223372036854775807, 9223372036854775807, 1])) :
    Calls Try.prog 11 #[.agg #[.int .i64 2, .slice (some ⟨g, 0, none⟩) 4 4], .int .i64 1, .agg #[.int .i64 2, .bool false, .int .i64 4, .bool true, .bool false]] w fun e w' => Below w.heap.size w w' ∧ ∃ aa la ca, e = .returned (.tuple #[.agg #[.int .i64 2, .slice aa la ca], .int .i64 0]) ∧ Blk w.heap.size w' aa la ca [1, -3, 8, 1] := by
  refine (btw_any 2 1 2 4 false true false _ [1, 9223372036854775807, 9223372036854775807, 1] w (dlaw.own_ints (cap := 4) hg) (by decide) (by unfold Tops; decide)).mono fun e w' h => ?_
  have e1 : btwQ 2 [1, 9223372036854775807, 9223372036854775807, 1] 1 2 false 4 true false = some [1, -3, 8, 1] := by decide +kernel
  rw [e1] at h
  have := ok_cl (m := 2) (by decide) (ts := [1, -3, 8, 1]) (us := [1, -3, 8, 1]) (by decide +kernel) (by decide +kernel)
  exact tells_yes h this.1 this.2
theorem close_yes (g : Nat) (w : World) (hg : lies.Lies w g 26 (cellsOf [1, 9223372036854775807, 9223372036854775807, 1])) :
    Calls Try.prog 21 #[.agg #[.int .i64 2, .slice (some ⟨g, 0, none⟩) 4 4]] w fun e w' => Below w.heap.size w w' ∧ ∃ aa la ca, e = .returned (.tuple #[.agg #[.int .i64 2, .slice aa la ca], .int .i64 0]) ∧ Blk w.heap.size w' aa la ca [1, 9223372036854775807, 9223372036854775807, 1] := by
  refine (close_g 2 _ [1, 9223372036854775807, 9223372036854775807, 1] w (dlaw.own_ints (cap := 4) hg) (by decide) (by unfold Tops; decide)).mono fun e w' h => ?_
  have := ok_cl (m := 2) (by decide) (ts := [1, 9223372036854775807, 9223372036854775807, 1]) (us := [1, 9223372036854775807, 9223372036854775807, 1]) (by decide +kernel) (by decide +kernel)
  obtain ⟨hB, na, aa, la, ca, us, f, rfl, hA, hK⟩ := h
  exact tells_yes (err := 8) ⟨hB, na, aa, la, ca, us, f, rfl, .inr ⟨_, rfl, hA⟩, hK⟩ this.1 this.2

/-- matrices in boxes: where the box lies, clocks, list, bounds. -/
abbrev Bx := Nat × Int × Value × List Int
/-- what lies there in a law: boxes, and nothing of the start has turned. -/
def St (bs : List Bx) (w W : World) : Prop := Below w.heap.size w W ∧ ∀ b ∈ bs, lies.Lies W b.1 24 #[.int .i64 b.2.1, b.2.2.1] ∧ law.Ints W.heap.size W b.2.2.1 b.2.2.2
theorem St.below {bs : List Bx} {w W X : World} (h : St bs w W) (k : Below W.heap.size W X) : St bs w X :=
  ⟨h.1.trans (k.mono h.1.size), fun b hb => ⟨lies.on_call (h.2 b hb).1 k, ((h.2 b hb).2.below k).mono k.size⟩⟩
theorem St.alloc {bs : List Bx} {w W : World} (h : St bs w W) (o : Obj) : St bs w (W.alloc o) := h.below ((Below.refl _ W).alloc (Nat.le_refl _) o)
theorem St.drew {bs : List Bx} {w W : World} (h : St bs w W) : St bs w W.drew := h.below (dbm.drawn1 (Below.refl _ _))
theorem St.add {bs : List Bx} {w W : World} (h : St bs w W) (n : Int) (sv : Value) (ts : List Int) (hI : law.Ints W.heap.size W sv ts) : St ((W.heap.size, n, sv, ts) :: bs) w (W.alloc (.cells #[.int .i64 n, sv] 24)) := by
  have k : Below W.heap.size W (W.alloc (.cells #[.int .i64 n, sv] 24)) := (Below.refl _ W).alloc (Nat.le_refl _) _
  refine ⟨(h.below k).1, fun b hb => ?_⟩
  rcases List.mem_cons.1 hb with rfl | hb
  · exact ⟨lies.made _ _ _, (hI.below k).mono k.size⟩
  · exact (h.below k).2 b hb
theorem St.start (w : World) : St [] w w := ⟨Below.refl _ _, fun b hb => absurd hb (by simp)⟩
theorem St.sub {bs cs : List Bx} {w W : World} (h : St bs w W) (k : ∀ b ∈ cs, b ∈ bs) : St cs w W := ⟨h.1, fun b hb => h.2 b (k b hb)⟩
theorem St.head {x : Nat} {n : Int} {sv : Value} {ts : List Int} {bs : List Bx} {w W : World} (h : St ((x, n, sv, ts) :: bs) w W) : lies.Lies W x 24 #[.int .i64 n, sv] ∧ law.Ints W.heap.size W sv ts := h.2 _ List.mem_cons_self
theorem St.tail {x : Bx} {bs : List Bx} {w W : World} (h : St (x :: bs) w W) : St bs w W := h.sub fun b hb => List.mem_cons_of_mem _ hb

set_option maxRecDepth 100000 in
set_option maxHeartbeats 4000000 in
theorem alive_yes (w : World) : Calls Try.prog 12 #[] w fun e w' => e = .returned (.bool true) ∧ Below w.heap.size w w' := by
  have S0 := St.start w
  go_enter Try.func12, Try.ntmps12
  go_wp2_with fail
  refine (two_is 1 9223372036854775807 9223372036854775807 1 w).mono ?_
  rintro e w1 ⟨g1, hg1, rfl, L1, hB1⟩
  have S1 := (S0.below hB1).add 2 _ _ (dlaw.own_ints (cap := 4) L1)
  have M1 := lies.on_alloc L1 (.cells #[.int .i64 2, .slice (some ⟨g1, 0, none⟩) 4 4] 24)
  clear S0 L1 hB1 hg1
  go_wp2_with fail
  generalize w1.heap.size = x1 at S1 ⊢
  generalize w1.alloc (.cells #[.int .i64 2, .slice (some ⟨g1, 0, none⟩) 4 4] 24) = w2 at S1 M1 ⊢
  refine (set_yes g1 w2 M1).mono ?_
  rintro e w3 ⟨hB3, aa, la, ca, rfl, hK⟩
  have S3 := (S1.below hB3).add 2 _ _ hK.ints
  have M3 := lies.on_alloc (lies.on_call M1 hB3) (.cells #[.int .i64 2, .slice aa la ca] 24)
  clear S1 M1 hB3 hK
  go_wp2_with fail
  generalize w3.heap.size = x3 at S3 ⊢
  generalize w3.alloc (.cells #[.int .i64 2, .slice aa la ca] 24) = w4 at S3 M3 ⊢
  refine (two_is 1 9223372036854775807 9 1 w4).mono ?_
  rintro e w5 ⟨g5, hg5, rfl, L5, hB5⟩
  have S5 := S3.below hB5
  have M5 := lies.on_call M3 hB5
  clear S3 M3 hB5 hg5
  go_wp2_with fail
  refine (two_is 1 (-3) 9223372036854775807 1 w5).mono ?_
  rintro e w6 ⟨g6, hg6, rfl, L6, hB6⟩
  have S6 := S5.below hB6
  have M6 := lies.on_call M5 hB6
  have N6 := lies.on_call L5 hB6
  clear S5 M5 hB6 hg6 L5
  go_wp2_with fail
  refine (meet_yes g5 g6 w6 N6 L6).mono ?_
  rintro e w7 ⟨hB7, ba, lb, cb, rfl, hK⟩
  have S7 := (S6.below hB7).add 2 _ _ hK.ints
  have M7 := lies.on_alloc (lies.on_call M6 hB7) (.cells #[.int .i64 2, .slice ba lb cb] 24)
  clear S6 M6 hB7 hK N6 L6
  obtain ⟨y0, y1, y2, y3, y4⟩ := lies.two S7.tail.tail.head.1
  go_wp2_with fail
  clear y0 y1 y2 y3 y4
  generalize w7.heap.size = x7 at S7 ⊢
  generalize w7.alloc (.cells #[.int .i64 2, .slice ba lb cb] 24) = w8 at S7 M7 ⊢
  refine (btw_yes g1 w8 M7).mono ?_
  rintro e w9 ⟨hB9, da, ld, cd, rfl, hK⟩
  have S9 := (S7.below hB9).add 2 _ _ hK.ints
  have M9 := lies.on_alloc (lies.on_call M7 hB9) (.cells #[.int .i64 2, .slice da ld cd] 24)
  clear S7 M7 hB9 hK
  obtain ⟨y0, y1, y2, y3, y4⟩ := lies.two S9.tail.tail.tail.head.1
  go_wp2_with fail
  clear y0 y1 y2 y3 y4
  generalize w9.heap.size = x9 at S9 ⊢
  generalize w9.alloc (.cells #[.int .i64 2, .slice da ld cd] 24) = w10 at S9 M9 ⊢
  refine (close_yes g1 w10 M9).mono ?_
  rintro e w11 ⟨hB11, ea, le, ce, rfl, hK⟩
  have S11 := (S9.below hB11).add 2 _ _ hK.ints
  clear S9 M9 hB11 hK
  go_wp2_with fail
  generalize w11.heap.size = x11 at S11 ⊢
  generalize w11.alloc (.cells #[.int .i64 2, .slice ea le ce] 24) = w12 at S11 ⊢
  obtain ⟨H11, I11⟩ := S11.head
  obtain ⟨H9, I9⟩ := S11.tail.head
  obtain ⟨H7, I7⟩ := S11.tail.tail.head
  obtain ⟨H3, I3⟩ := S11.tail.tail.tail.head
  obtain ⟨H1, I1⟩ := S11.tail.tail.tail.tail.head
  have K12 := S11.1
  clear S11
  refine wp_region_held_drew (S := Below w12.heap.size w12) (by kernel_rfl) (dbm.drawn1 (Below.refl _ _)) (fun hHeld => ?_)
  refine wpAnyH_take (i := 0) (v := ?_) rfl (by kernel_rfl) (by kernel_rfl) (by kernel_rfl) (fun _ _ _ h => h) (Or.inl ⟨by rfl, ?_⟩) hHeld ?_
  rotate_left
  · intro w hSw; obtain ⟨a0, a1⟩ := dlaw.at_s H1 hSw; obtain ⟨a2, a3⟩ := dlaw.at_s H3 hSw; obtain ⟨a4, a5⟩ := dlaw.at_s H7 hSw; obtain ⟨a6, a7⟩ := dlaw.at_s H9 hSw; obtain ⟨a8, a9⟩ := dlaw.at_s H11 hSw; go_simp; try with_reducible rfl
  try simp only [Act.put, List.getElem_toArray, List.getElem_cons_zero, List.getElem_cons_succ, List.setIfInBounds_toArray, List.set_cons_zero, List.set_cons_succ]
  refine wpAnyH_take (i := 1) (v := ?_) rfl (by kernel_rfl) (by kernel_rfl) (by kernel_rfl) (fun _ _ _ h => h) (Or.inl ⟨by rfl, ?_⟩) hHeld ?_
  rotate_left
  · intro w hSw; obtain ⟨a0, a1⟩ := dlaw.at_s H1 hSw; obtain ⟨a2, a3⟩ := dlaw.at_s H3 hSw; obtain ⟨a4, a5⟩ := dlaw.at_s H7 hSw; obtain ⟨a6, a7⟩ := dlaw.at_s H9 hSw; obtain ⟨a8, a9⟩ := dlaw.at_s H11 hSw; go_simp; try with_reducible rfl
  try simp only [Act.put, List.getElem_toArray, List.getElem_cons_zero, List.getElem_cons_succ, List.setIfInBounds_toArray, List.set_cons_zero, List.set_cons_succ]
  refine wpAnyH_ready (rs := [2]) (by kernel_rfl) (by simp) (AllReadyH.cons rfl (fun K hK => ?_) AllReadyH.nil)
  go_simp
  refine (two_is 1 9223372036854775807 9 1 _).mono ?_
  rintro e u1 ⟨hu1, hhu1, rfl, Lu1, hB⟩
  refine hK.out _ _ (hHeld.trans (hB.mono hHeld.size)) (fun hNew => ?_)
  clear hB
  clear hHeld hK K
  have hHeld := hNew
  clear hNew
  try simp only [Act.put, List.getElem_toArray, List.getElem_cons_zero, List.getElem_cons_succ, List.setIfInBounds_toArray, List.set_cons_zero, List.set_cons_succ]
  refine wpAnyH_ready (rs := [3]) (by kernel_rfl) (by simp) (AllReadyH.cons rfl (fun K hK => ?_) AllReadyH.nil)
  go_simp
  refine (is_yes 2 _ _ _ _ ((I3.below hHeld).mono hHeld.size) (dlaw.own_ints (cap := 4) Lu1) (by decide)).mono ?_
  rintro e u1' ⟨rfl, hB⟩
  refine hK.out _ _ (hHeld.trans (hB.mono hHeld.size)) (fun hNew => ?_)
  clear hB Lu1
  clear hHeld hK K
  have hHeld := hNew
  clear hNew
  try simp only [Act.put, List.getElem_toArray, List.getElem_cons_zero, List.getElem_cons_succ, List.setIfInBounds_toArray, List.set_cons_zero, List.set_cons_succ]
  refine wpAnyH_take (i := 4) (v := ?_) rfl (by kernel_rfl) (by kernel_rfl) (by kernel_rfl) (fun _ _ _ h => h) (Or.inl ⟨by rfl, ?_⟩) hHeld ?_
  rotate_left
  · intro w hSw; obtain ⟨a0, a1⟩ := dlaw.at_s H1 hSw; obtain ⟨a2, a3⟩ := dlaw.at_s H3 hSw; obtain ⟨a4, a5⟩ := dlaw.at_s H7 hSw; obtain ⟨a6, a7⟩ := dlaw.at_s H9 hSw; obtain ⟨a8, a9⟩ := dlaw.at_s H11 hSw; go_simp; try with_reducible rfl
  try simp only [Act.put, List.getElem_toArray, List.getElem_cons_zero, List.getElem_cons_succ, List.setIfInBounds_toArray, List.set_cons_zero, List.set_cons_succ]
  refine wpAnyH_take (i := 5) (v := ?_) rfl (by kernel_rfl) (by kernel_rfl) (by kernel_rfl) (fun _ _ _ h => h) (Or.inl ⟨by rfl, ?_⟩) hHeld ?_
  rotate_left
  · intro w hSw; obtain ⟨a0, a1⟩ := dlaw.at_s H1 hSw; obtain ⟨a2, a3⟩ := dlaw.at_s H3 hSw; obtain ⟨a4, a5⟩ := dlaw.at_s H7 hSw; obtain ⟨a6, a7⟩ := dlaw.at_s H9 hSw; obtain ⟨a8, a9⟩ := dlaw.at_s H11 hSw; go_simp; try with_reducible rfl
  try simp only [Act.put, List.getElem_toArray, List.getElem_cons_zero, List.getElem_cons_succ, List.setIfInBounds_toArray, List.set_cons_zero, List.set_cons_succ]
  refine wpAnyH_take (i := 6) (v := ?_) rfl (by kernel_rfl) (by kernel_rfl) (by kernel_rfl) (fun _ _ _ h => h) (Or.inl ⟨by rfl, ?_⟩) hHeld ?_
  rotate_left
  · intro w hSw; obtain ⟨a0, a1⟩ := dlaw.at_s H1 hSw; obtain ⟨a2, a3⟩ := dlaw.at_s H3 hSw; obtain ⟨a4, a5⟩ := dlaw.at_s H7 hSw; obtain ⟨a6, a7⟩ := dlaw.at_s H9 hSw; obtain ⟨a8, a9⟩ := dlaw.at_s H11 hSw; go_simp; try with_reducible rfl
  try simp only [Act.put, List.getElem_toArray, List.getElem_cons_zero, List.getElem_cons_succ, List.setIfInBounds_toArray, List.set_cons_zero, List.set_cons_succ]
  refine wpAnyH_ready (rs := [7]) (by kernel_rfl) (by simp) (AllReadyH.cons rfl (fun K hK => ?_) AllReadyH.nil)
  go_simp
  refine (two_is 1 (-3) 9 1 _).mono ?_
  rintro e u2 ⟨hu2, hhu2, rfl, Lu2, hB⟩
  refine hK.out _ _ (hHeld.trans (hB.mono hHeld.size)) (fun hNew => ?_)
  clear hB
  clear hHeld hK K
  have hHeld := hNew
  clear hNew
  try simp only [Act.put, List.getElem_toArray, List.getElem_cons_zero, List.getElem_cons_succ, List.setIfInBounds_toArray, List.set_cons_zero, List.set_cons_succ]
  refine wpAnyH_ready (rs := [8]) (by kernel_rfl) (by simp) (AllReadyH.cons rfl (fun K hK => ?_) AllReadyH.nil)
  go_simp
  refine (is_yes 2 _ _ _ _ ((I7.below hHeld).mono hHeld.size) (dlaw.own_ints (cap := 4) Lu2) (by decide)).mono ?_
  rintro e u2' ⟨rfl, hB⟩
  refine hK.out _ _ (hHeld.trans (hB.mono hHeld.size)) (fun hNew => ?_)
  clear hB Lu2
  clear hHeld hK K
  have hHeld := hNew
  clear hNew
  try simp only [Act.put, List.getElem_toArray, List.getElem_cons_zero, List.getElem_cons_succ, List.setIfInBounds_toArray, List.set_cons_zero, List.set_cons_succ]
  refine wpAnyH_take (i := 9) (v := ?_) rfl (by kernel_rfl) (by kernel_rfl) (by kernel_rfl) (fun _ _ _ h => h) (Or.inl ⟨by rfl, ?_⟩) hHeld ?_
  rotate_left
  · intro w hSw; obtain ⟨a0, a1⟩ := dlaw.at_s H1 hSw; obtain ⟨a2, a3⟩ := dlaw.at_s H3 hSw; obtain ⟨a4, a5⟩ := dlaw.at_s H7 hSw; obtain ⟨a6, a7⟩ := dlaw.at_s H9 hSw; obtain ⟨a8, a9⟩ := dlaw.at_s H11 hSw; go_simp; try with_reducible rfl
  try simp only [Act.put, List.getElem_toArray, List.getElem_cons_zero, List.getElem_cons_succ, List.setIfInBounds_toArray, List.set_cons_zero, List.set_cons_succ]
  refine wpAnyH_take (i := 10) (v := ?_) rfl (by kernel_rfl) (by kernel_rfl) (by kernel_rfl) (fun _ _ _ h => h) (Or.inl ⟨by rfl, ?_⟩) hHeld ?_
  rotate_left
  · intro w hSw; obtain ⟨a0, a1⟩ := dlaw.at_s H1 hSw; obtain ⟨a2, a3⟩ := dlaw.at_s H3 hSw; obtain ⟨a4, a5⟩ := dlaw.at_s H7 hSw; obtain ⟨a6, a7⟩ := dlaw.at_s H9 hSw; obtain ⟨a8, a9⟩ := dlaw.at_s H11 hSw; go_simp; try with_reducible rfl
  try simp only [Act.put, List.getElem_toArray, List.getElem_cons_zero, List.getElem_cons_succ, List.setIfInBounds_toArray, List.set_cons_zero, List.set_cons_succ]
  refine wpAnyH_take (i := 11) (v := ?_) rfl (by kernel_rfl) (by kernel_rfl) (by kernel_rfl) (fun _ _ _ h => h) (Or.inl ⟨by rfl, ?_⟩) hHeld ?_
  rotate_left
  · intro w hSw; obtain ⟨a0, a1⟩ := dlaw.at_s H1 hSw; obtain ⟨a2, a3⟩ := dlaw.at_s H3 hSw; obtain ⟨a4, a5⟩ := dlaw.at_s H7 hSw; obtain ⟨a6, a7⟩ := dlaw.at_s H9 hSw; obtain ⟨a8, a9⟩ := dlaw.at_s H11 hSw; go_simp; try with_reducible rfl
  try simp only [Act.put, List.getElem_toArray, List.getElem_cons_zero, List.getElem_cons_succ, List.setIfInBounds_toArray, List.set_cons_zero, List.set_cons_succ]
  refine wpAnyH_take (i := 12) (v := ?_) rfl (by kernel_rfl) (by kernel_rfl) (by kernel_rfl) (fun _ _ _ h => h) (Or.inl ⟨by rfl, ?_⟩) hHeld ?_
  rotate_left
  · intro w hSw; obtain ⟨a0, a1⟩ := dlaw.at_s H1 hSw; obtain ⟨a2, a3⟩ := dlaw.at_s H3 hSw; obtain ⟨a4, a5⟩ := dlaw.at_s H7 hSw; obtain ⟨a6, a7⟩ := dlaw.at_s H9 hSw; obtain ⟨a8, a9⟩ := dlaw.at_s H11 hSw; go_simp; try with_reducible rfl
  try simp only [Act.put, List.getElem_toArray, List.getElem_cons_zero, List.getElem_cons_succ, List.setIfInBounds_toArray, List.set_cons_zero, List.set_cons_succ]
  refine wpAnyH_ready (rs := [13]) (by kernel_rfl) (by simp) (AllReadyH.cons rfl (fun K hK => ?_) AllReadyH.nil)
  go_simp
  refine (two_is 1 (-3) 8 1 _).mono ?_
  rintro e u3 ⟨hu3, hhu3, rfl, Lu3, hB⟩
  refine hK.out _ _ (hHeld.trans (hB.mono hHeld.size)) (fun hNew => ?_)
  clear hB
  clear hHeld hK K
  have hHeld := hNew
  clear hNew
  try simp only [Act.put, List.getElem_toArray, List.getElem_cons_zero, List.getElem_cons_succ, List.setIfInBounds_toArray, List.set_cons_zero, List.set_cons_succ]
  refine wpAnyH_ready (rs := [14]) (by kernel_rfl) (by simp) (AllReadyH.cons rfl (fun K hK => ?_) AllReadyH.nil)
  go_simp
  refine (is_yes 2 _ _ _ _ ((I9.below hHeld).mono hHeld.size) (dlaw.own_ints (cap := 4) Lu3) (by decide)).mono ?_
  rintro e u3' ⟨rfl, hB⟩
  refine hK.out _ _ (hHeld.trans (hB.mono hHeld.size)) (fun hNew => ?_)
  clear hB Lu3
  clear hHeld hK K
  have hHeld := hNew
  clear hNew
  try simp only [Act.put, List.getElem_toArray, List.getElem_cons_zero, List.getElem_cons_succ, List.setIfInBounds_toArray, List.set_cons_zero, List.set_cons_succ]
  refine wpAnyH_take (i := 15) (v := ?_) rfl (by kernel_rfl) (by kernel_rfl) (by kernel_rfl) (fun _ _ _ h => h) (Or.inl ⟨by rfl, ?_⟩) hHeld ?_
  rotate_left
  · intro w hSw; obtain ⟨a0, a1⟩ := dlaw.at_s H1 hSw; obtain ⟨a2, a3⟩ := dlaw.at_s H3 hSw; obtain ⟨a4, a5⟩ := dlaw.at_s H7 hSw; obtain ⟨a6, a7⟩ := dlaw.at_s H9 hSw; obtain ⟨a8, a9⟩ := dlaw.at_s H11 hSw; go_simp; try with_reducible rfl
  try simp only [Act.put, List.getElem_toArray, List.getElem_cons_zero, List.getElem_cons_succ, List.setIfInBounds_toArray, List.set_cons_zero, List.set_cons_succ]
  refine wpAnyH_take (i := 16) (v := ?_) rfl (by kernel_rfl) (by kernel_rfl) (by kernel_rfl) (fun _ _ _ h => h) (Or.inl ⟨by rfl, ?_⟩) hHeld ?_
  rotate_left
  · intro w hSw; obtain ⟨a0, a1⟩ := dlaw.at_s H1 hSw; obtain ⟨a2, a3⟩ := dlaw.at_s H3 hSw; obtain ⟨a4, a5⟩ := dlaw.at_s H7 hSw; obtain ⟨a6, a7⟩ := dlaw.at_s H9 hSw; obtain ⟨a8, a9⟩ := dlaw.at_s H11 hSw; go_simp; try with_reducible rfl
  try simp only [Act.put, List.getElem_toArray, List.getElem_cons_zero, List.getElem_cons_succ, List.setIfInBounds_toArray, List.set_cons_zero, List.set_cons_succ]
  refine wpAnyH_take (i := 17) (v := ?_) rfl (by kernel_rfl) (by kernel_rfl) (by kernel_rfl) (fun _ _ _ h => h) (Or.inl ⟨by rfl, ?_⟩) hHeld ?_
  rotate_left
  · intro w hSw; obtain ⟨a0, a1⟩ := dlaw.at_s H1 hSw; obtain ⟨a2, a3⟩ := dlaw.at_s H3 hSw; obtain ⟨a4, a5⟩ := dlaw.at_s H7 hSw; obtain ⟨a6, a7⟩ := dlaw.at_s H9 hSw; obtain ⟨a8, a9⟩ := dlaw.at_s H11 hSw; go_simp; try with_reducible rfl
  try simp only [Act.put, List.getElem_toArray, List.getElem_cons_zero, List.getElem_cons_succ, List.setIfInBounds_toArray, List.set_cons_zero, List.set_cons_succ]
  refine wpAnyH_take (i := 18) (v := ?_) rfl (by kernel_rfl) (by kernel_rfl) (by kernel_rfl) (fun _ _ _ h => h) (Or.inl ⟨by rfl, ?_⟩) hHeld ?_
  rotate_left
  · intro w hSw; obtain ⟨a0, a1⟩ := dlaw.at_s H1 hSw; obtain ⟨a2, a3⟩ := dlaw.at_s H3 hSw; obtain ⟨a4, a5⟩ := dlaw.at_s H7 hSw; obtain ⟨a6, a7⟩ := dlaw.at_s H9 hSw; obtain ⟨a8, a9⟩ := dlaw.at_s H11 hSw; go_simp; try with_reducible rfl
  try simp only [Act.put, List.getElem_toArray, List.getElem_cons_zero, List.getElem_cons_succ, List.setIfInBounds_toArray, List.set_cons_zero, List.set_cons_succ]
  refine wpAnyH_take (i := 19) (v := ?_) rfl (by kernel_rfl) (by kernel_rfl) (by kernel_rfl) (fun _ _ _ h => h) (Or.inl ⟨by rfl, ?_⟩) hHeld ?_
  rotate_left
  · intro w hSw; obtain ⟨a0, a1⟩ := dlaw.at_s H1 hSw; obtain ⟨a2, a3⟩ := dlaw.at_s H3 hSw; obtain ⟨a4, a5⟩ := dlaw.at_s H7 hSw; obtain ⟨a6, a7⟩ := dlaw.at_s H9 hSw; obtain ⟨a8, a9⟩ := dlaw.at_s H11 hSw; go_simp; try with_reducible rfl
  try simp only [Act.put, List.getElem_toArray, List.getElem_cons_zero, List.getElem_cons_succ, List.setIfInBounds_toArray, List.set_cons_zero, List.set_cons_succ]
  refine wpAnyH_ready (rs := [20]) (by kernel_rfl) (by simp) (AllReadyH.cons rfl (fun K hK => ?_) AllReadyH.nil)
  go_simp
  refine (is_yes 2 _ _ _ _ ((I11.below hHeld).mono hHeld.size) ((I1.below hHeld).mono hHeld.size) (by decide)).mono ?_
  rintro e u4 ⟨rfl, hB⟩
  refine hK.out _ _ (hHeld.trans (hB.mono hHeld.size)) (fun hNew => ?_)
  clear hB
  clear hHeld hK K
  have hHeld := hNew
  clear hNew
  try simp only [Act.put, List.getElem_toArray, List.getElem_cons_zero, List.getElem_cons_succ, List.setIfInBounds_toArray, List.set_cons_zero, List.set_cons_succ]
  refine wpAnyH_take (i := 21) (v := ?_) rfl (by kernel_rfl) (by kernel_rfl) (by kernel_rfl) (fun _ _ _ h => h) (Or.inl ⟨by rfl, ?_⟩) hHeld ?_
  rotate_left
  · intro w hSw; obtain ⟨a0, a1⟩ := dlaw.at_s H1 hSw; obtain ⟨a2, a3⟩ := dlaw.at_s H3 hSw; obtain ⟨a4, a5⟩ := dlaw.at_s H7 hSw; obtain ⟨a6, a7⟩ := dlaw.at_s H9 hSw; obtain ⟨a8, a9⟩ := dlaw.at_s H11 hSw; go_simp; try with_reducible rfl
  try simp only [Act.put, List.getElem_toArray, List.getElem_cons_zero, List.getElem_cons_succ, List.setIfInBounds_toArray, List.set_cons_zero, List.set_cons_succ]
  refine wpAnyH_take (i := 22) (v := ?_) rfl (by kernel_rfl) (by kernel_rfl) (by kernel_rfl) (fun _ _ _ h => h) (Or.inl ⟨by rfl, ?_⟩) hHeld ?_
  rotate_left
  · intro w hSw; obtain ⟨a0, a1⟩ := dlaw.at_s H1 hSw; obtain ⟨a2, a3⟩ := dlaw.at_s H3 hSw; obtain ⟨a4, a5⟩ := dlaw.at_s H7 hSw; obtain ⟨a6, a7⟩ := dlaw.at_s H9 hSw; obtain ⟨a8, a9⟩ := dlaw.at_s H11 hSw; go_simp; try with_reducible rfl
  try simp only [Act.put, List.getElem_toArray, List.getElem_cons_zero, List.getElem_cons_succ, List.setIfInBounds_toArray, List.set_cons_zero, List.set_cons_succ]
  refine wpAnyH_done (by kernel_rfl) ?_ _
  have K := K12.trans (hHeld.mono K12.size)
  clear hHeld H1 H3 H7 H9 H11 I1 I3 I7 I9 I11 K12
  go_wp2_with fail
  go_ret
  exact ⟨rfl, K⟩
end Go.Proofs.Ytallgbpijndmeaa.tlaw
