/-
  A fraction that comes in as an argument, opened; and the chapter's first examples of package rat, which layer 3's laws begin with; no conditions beside the theorems' own.
-/
import Derived.Test.YtbmadhejdnkeeaaRat7
import Derived.Lib.SmallJoins
namespace Go.Proofs.Ytbmadhejdnkeeaa.ratlaw
open Go.Joins Go.ChangeShapes Go.WideShapes Go.ChangeAt Go.RowKit rmath bound num rat
set_option linter.unusedVariables false

theorem open_rat {H : Type} {enc : TypeId × Value → H} {W : World} {v : Value} {d : DataW H} {p : List MemPlace} {base : Nat}
    (hok : Value.okWide Try.prog W .any base 23 v) (h : DataW.Trod enc Try.prog W 0 (fun _ => true) true 23 v d p) :
    ∃ a b, v = .agg #[.int .i64 (a), .int .i64 (b)] ∧ (Lit.int .i64 a).wf = true ∧ (Lit.int .i64 b).wf = true := by
  obtain ⟨v0, v1, y0, y1, n, rfl, _, _, h0, h1⟩ := open_agg2 Try.underlying23 (by kernel_rfl) (by kernel_rfl) hok h
  obtain ⟨a, ha, _, wa⟩ := DataW.trod_int Try.underlying3 h0
  obtain ⟨b, hb, _, wb⟩ := DataW.trod_int Try.underlying3 h1
  simp only [List.cons.injEq, and_true] at ha hb
  subst ha hb
  exact ⟨a, b, rfl, wa, wb⟩

/-- Of at numbers that are told, with the answer that is told. -/
theorem of_at (n d P Q E : Int) (n1 : -9223372036854775808 ≤ n) (n2 : n ≤ 9223372036854775807) (d2 : d ≤ 9223372036854775807) (h : ofN n d = P ∧ ofD n d = Q ∧ ofE n d = E) : law.Says 10 #[.int .i64 n, .int .i64 d] (.tuple #[.agg #[.int .i64 (P), .int .i64 (Q)], .int .i64 E]) := by
  obtain ⟨rfl, rfl, rfl⟩ := h
  exact fun w => of3_any n d w n1 n2 d2
theorem cmp_at (a b c d V E : Int) (a1 : -9223372036854775808 ≤ a) (a2 : a ≤ 9223372036854775807) (c1 : -9223372036854775808 ≤ c) (c2 : c ≤ 9223372036854775807) (h : cmpV a b c d = V ∧ cmpE a b c d = E) : law.Says 16 #[.agg #[.int .i64 (a), .int .i64 (b)], .agg #[.int .i64 (c), .int .i64 (d)]] (.tuple #[.int .i64 V, .int .i64 E]) := by
  obtain ⟨rfl, rfl⟩ := h
  exact fun w => cmp3_any a b c d w a1 a2 c1 c2
theorem add_at (a b c d P Q E : Int) (a1 : -9223372036854775808 ≤ a) (a2 : a ≤ 9223372036854775807) (c1 : -9223372036854775808 ≤ c) (c2 : c ≤ 9223372036854775807) (h : partN 1 a b c d = P ∧ partD 1 a b c d = Q ∧ partE 1 a b c d = E) : law.Says 18 #[.agg #[.int .i64 (a), .int .i64 (b)], .agg #[.int .i64 (c), .int .i64 (d)]] (.tuple #[.agg #[.int .i64 (P), .int .i64 (Q)], .int .i64 E]) := by
  obtain ⟨rfl, rfl, rfl⟩ := h
  exact fun w => add3_any a b c d w a1 a2 c1 c2
theorem mid_at (a b c d P Q E : Int) (a1 : -9223372036854775808 ≤ a) (a2 : a ≤ 9223372036854775807) (c1 : -9223372036854775808 ≤ c) (c2 : c ≤ 9223372036854775807) (h : partN 2 a b c d = P ∧ partD 2 a b c d = Q ∧ partE 2 a b c d = E) : law.Says 11 #[.agg #[.int .i64 (a), .int .i64 (b)], .agg #[.int .i64 (c), .int .i64 (d)]] (.tuple #[.agg #[.int .i64 (P), .int .i64 (Q)], .int .i64 E]) := by
  obtain ⟨rfl, rfl, rfl⟩ := h
  exact fun w => mid3_any a b c d w a1 a2 c1 c2
theorem keeps_at (a b c d x : Int) (V : Bool) (E : Int) (a1 : -9223372036854775808 ≤ a) (a2 : a ≤ 9223372036854775807) (c1 : -9223372036854775808 ≤ c) (c2 : c ≤ 9223372036854775807) (hx : x ≤ 9223372036854775807) (h : kpV a b c d x = V ∧ kpE a b c d x = E) : law.Says 13 #[.agg #[.int .i64 (a), .int .i64 (b)], .agg #[.int .i64 (c), .int .i64 (d)], .int .i64 x] (.tuple #[.bool V, .int .i64 E]) := by
  obtain ⟨rfl, rfl⟩ := h
  exact fun w => keeps3_any a b c d x w a1 a2 c1 c2 hx
theorem floor_at (a b N : Int) (V : Bool) (E : Int) (a1 : -9223372036854775808 ≤ a) (a2 : a ≤ 9223372036854775807) (h : flN a b = N ∧ flW a b = V ∧ rchk a b = E) : law.Says 14 #[.agg #[.int .i64 (a), .int .i64 (b)]] (.tuple #[.int .i64 N, .bool V, .int .i64 E]) := by
  obtain ⟨rfl, rfl, rfl⟩ := h
  exact fun w => floor_any a b w a1 a2
theorem check_at (a b E : Int) (a1 : -9223372036854775808 ≤ a) (a2 : a ≤ 9223372036854775807) (h : rchk a b = E) : law.Says 23 #[.agg #[.int .i64 (a), .int .i64 (b)]] (.int .i64 E) := by
  subst h
  exact fun w => check3_any a b w a1 a2

theorem law_of (n d P Q E : Int) (c : RowKit.Hid (law.Says 10 #[.int .i64 n, .int .i64 d] (.tuple #[.agg #[.int .i64 (P), .int .i64 (Q)], .int .i64 E]))) :
    law.Says 12 #[.int .i64 n, .int .i64 d] (.agg #[.int .i64 (P), .int .i64 (Q)]) := by
  intro w
  have r0 := lies.made w 23 #[.int .i64 0, .int .i64 0]
  go_enter Try.func12, Try.ntmps12
  go_wp2_with ((with_reducible refine (said c _).mono ?_); rintro e w1 ⟨rfl, hB1⟩; have r1 := lies.on_call r0 hB1; obtain ⟨d10, d11, g10, g11, m1⟩ := lies.two r1)
  exact bodyPost_ret (v := .agg #[.int .i64 (P), .int .i64 (Q)]) (by simp [results, Try.results12, go_sem, d10, d11, m1]) rfl ⟨rfl, up (((later (up1 _ _) hB1).setCell (Nat.le_refl _) _).setCell (Nat.le_refl _) _) _⟩

/-- of at numbers that are told. -/
theorem small (n d P Q : Int) (n1 : -9223372036854775808 ≤ n) (n2 : n ≤ 9223372036854775807) (d2 : d ≤ 9223372036854775807) (h : ofN n d = P ∧ ofD n d = Q ∧ ofE n d = 0) : law.Says 12 #[.int .i64 n, .int .i64 d] (.agg #[.int .i64 (P), .int .i64 (Q)]) :=
  law_of n d P Q 0 (Lib.hid (of_at n d P Q 0 n1 n2 d2 h))
theorem o13 : law.Says 12 #[.int .i64 1, .int .i64 3] (.agg #[.int .i64 (1), .int .i64 (3)]) := small 1 3 1 3 (by omega) (by omega) (by omega) (by decide +kernel)
theorem o12 : law.Says 12 #[.int .i64 1, .int .i64 2] (.agg #[.int .i64 (1), .int .i64 (2)]) := small 1 2 1 2 (by omega) (by omega) (by omega) (by decide +kernel)
theorem o16 : law.Says 12 #[.int .i64 1, .int .i64 6] (.agg #[.int .i64 (1), .int .i64 (6)]) := small 1 6 1 6 (by omega) (by omega) (by omega) (by decide +kernel)

/-- a frame of what was made, behind one more call, whatever was made between. -/
theorem go0 {w X Y : World} (h : Below w.heap.size w X) (k : Below X.heap.size X Y) : Below w.heap.size w Y := later h k
theorem go1 {w X Y : World} {o : Obj} (h : Below w.heap.size w X) (k : Below (X.alloc o).heap.size (X.alloc o) Y) : Below w.heap.size w Y := later (up h o) k

set_option maxRecDepth 100000 in
set_option maxHeartbeats 4000000 in
theorem alive (w : World) :
    Calls Try.prog 15 #[] w fun e w' => e = .returned (.bool true) ∧ Below w.heap.size w w' := by
  have k1 := Lib.hid (of_at 6 4 3 2 0 (by omega) (by omega) (by omega) (by decide +kernel))
  have k2 := Lib.hid (of_at 1 0 0 0 30 (by omega) (by omega) (by omega) (by decide +kernel))
  have k3 := Lib.hid o13
  have k4 := Lib.hid o12
  have k5 := Lib.hid o16
  have k6 := Lib.hid (cmp_at 1 3 1 2 (-1) 0 (by omega) (by omega) (by omega) (by omega) (by decide +kernel))
  have k7 := Lib.hid (add_at 1 3 1 6 1 2 0 (by omega) (by omega) (by omega) (by omega) (by decide +kernel))
  have hB := Below.refl w.heap.size w
  go_enter Try.func15, Try.ntmps15
  go_wp2_with (first
    | ((with_reducible refine (said k1 _).mono ?_); rintro e w1 ⟨rfl, hN⟩; (replace hB := go0 hB hN); clear hN; have L := lies.made w1 23 #[.int .i64 3, .int .i64 2])
    | ((with_reducible refine (said k2 _).mono ?_); rintro e w2 ⟨rfl, hN⟩; (replace hB := go1 hB hN); (replace L := lies.on_alloc (lies.on_call L hN) (.cells #[.int .i64 0, .int .i64 0] 23)); clear hN; (replace hB := up hB (.cells #[.int .i64 0, .int .i64 0] 23)))
    | ((with_reducible refine (said k3 _).mono ?_); rintro e w3 ⟨rfl, hN⟩; (replace hB := go0 hB hN); (replace L := lies.on_call L hN); clear hN)
    | ((with_reducible refine (said k4 _).mono ?_); rintro e w4 ⟨rfl, hN⟩; (replace hB := go0 hB hN); (replace L := lies.on_call L hN); clear hN)
    | ((with_reducible refine (said k5 _).mono ?_); rintro e w5 ⟨rfl, hN⟩; (replace hB := go0 hB hN); (replace L := lies.on_call L hN); clear hN)
    | ((with_reducible refine (said k6 _).mono ?_); rintro e w6 ⟨rfl, hN⟩; (replace hB := go0 hB hN); (replace L := lies.on_call L hN); clear hN)
    | ((with_reducible refine (said k7 _).mono ?_); rintro e w7 ⟨rfl, hN⟩; (replace hB := go0 hB hN); (replace L := lies.on_call L hN); clear hN; have M := lies.made w7 23 #[.int .i64 1, .int .i64 2]))
  replace L := lies.on_alloc L (.cells #[.int .i64 1, .int .i64 2] 23)
  replace hB := up hB (.cells #[.int .i64 1, .int .i64 2] 23)
  obtain ⟨l0, l1, l2, l3, l4⟩ := lies.two L
  obtain ⟨m0, m1, m2, m3, m4⟩ := lies.two M
  go_region_held3 (fun W => W.cell? ⟨w1.heap.size, 0, none⟩ = some (.int .i64 3) ∧ W.cell? ⟨w1.heap.size, 1, none⟩ = some (.int .i64 2) ∧ W.cell? ⟨w7.heap.size, 0, none⟩ = some (.int .i64 1) ∧ W.cell? ⟨w7.heap.size, 1, none⟩ = some (.int .i64 2)) ((refine lies.four (t := 23) (s := 23) ?_ ?_ <;> repeat (first | with_reducible exact L | with_reducible exact M | with_reducible refine lies.on_drew ?_ | with_reducible refine lies.on_call ?_ hN)))
    (first
      | ((with_reducible refine (said k4 _).mono ?_); rintro e w8 ⟨rfl, hN⟩))
  all_goals
    go_wp2_with fail
    go_ret
    exact ⟨rfl, later (lies.frame_drew hB) hN⟩
end Go.Proofs.Ytbmadhejdnkeeaa.ratlaw
