/-
  What Top of package dbm answers, whether matrices are the same, copies, and the chapter's first examples; each theorem names its conditions.
-/
import Derived.Test.YthljhijcmdnonaaDoorDbmA
import Derived.Test.YthljhijcmdnonaaDoorBase
import Derived.BigQuiet
import Derived.Lib.SmallJoins
import Derived.Deep.RegionHeld3
import Derived.Deep.RegionHeld
import Derived.Maps.AppendAt
namespace Go.Proofs.YthljhijcmdnonaaDoor.dbm
open Go.RowKit Go.Shelf num
open bound hiding up
attribute [local go_sem] Oper.semAt_some
set_option linter.unusedVariables false
set_option linter.unusedSimpArgs false

/-- the table behind one pair. -/
def tpp (n : Nat) (ts : List Int) (x : Nat × Nat) : List Int := if x.1 = x.2 then (ts.set (x.1 * n + x.2) 9223372036854775807).set (x.1 * n + x.2) 1 else ts.set (x.1 * n + x.2) 9223372036854775807
def tpl (n : Nat) (ts : List Int) (pre : List (Cl n)) : List Int := pre.foldl (fun t x => tpp n t x.1) ts
theorem tpl_snoc (n : Nat) (ts : List Int) (pre : List (Cl n)) (x : Cl n) : tpl n ts (pre ++ [x]) = tpp n (tpl n ts pre) x.1 := by simp [tpl]
theorem tpp_length (n : Nat) (ts : List Int) (x : Nat × Nat) : (tpp n ts x).length = ts.length := by
  unfold tpp
  split <;> simp
theorem tpl_length (n : Nat) (ts : List Int) (pre : List (Cl n)) : (tpl n ts pre).length = ts.length := by
  unfold tpl
  induction pre generalizing ts with
  | nil => rfl
  | cons x pre ih => rw [List.foldl_cons, ih, tpp_length]
theorem made_zeros (m : Nat) : madeCells #[.int .i64 0] m = cellsOf (List.replicate m 0) := by
  unfold madeCells cellsOf
  apply Array.ext
  · simp
  · intro i h1 h2
    simp [Nat.mod_one]
/-- the matrix of n clocks. -/
def topT (n : Nat) (h : 0 < n) : List Int := tpl n (List.replicate (n * n) 0) (upto (nth n h) (n * n))

theorem top_no (n : Int) (w : World) (h : n < 1 ∨ 4 < n) : Calls Tryd.prog 58 #[.int .i64 n] w fun e w' => e = .returned (.tuple #[.agg #[.int .i64 0, .slice none 0 0], .int .i64 2]) ∧ Below w.heap.size w w' := by
  by_cases c : n < 1
  · clear h
    go_enter Tryd.func58, Tryd.ntmps58
    go_wp2
    exact bodyPost_ret (v := .tuple #[.agg #[.int .i64 0, .slice none 0 0], .int .i64 2]) (by simp [results, Tryd.results58, go_sem]) rfl ⟨rfl, (Below.refl _ _).alloc (Nat.le_refl _) _⟩
  · have c2 : 4 < n := by omega
    clear h
    go_enter Tryd.func58, Tryd.ntmps58
    go_wp2
    exact bodyPost_ret (v := .tuple #[.agg #[.int .i64 0, .slice none 0 0], .int .i64 2]) (by simp [results, Tryd.results58, go_sem]) rfl ⟨rfl, (Below.refl _ _).alloc (Nat.le_refl _) _⟩

/-- what Top answers. -/
def Tp (n : Nat) (us : List Int) (w : World) (e : Ending) (w' : World) : Prop := Below w.heap.size w w' ∧ ∃ g, w.heap.size ≤ g ∧ e = .returned (.tuple #[.agg #[.int .i64 n, .slice (some ⟨g, 0, none⟩) (n * n) (n * n)], .int .i64 0]) ∧ lies.Lies w' g 29 (cellsOf us)

set_option maxRecDepth 100000 in
set_option maxHeartbeats 2000000 in
theorem top_ok (n : Nat) (w : World) (h0 : 0 < n) (hn : n ≤ 4) : Calls Tryd.prog 58 #[.int .i64 n] w (Tp n (topT n h0) w) := by
  have hsq := sq_le hn
  have hmk := run_make_row' (P := Tryd.prog) 56 29 (.int .i64 0) 8 Tryd.underlying56 info_b rfl .i64 .i64 (n * n) (by omega) (by omega)
  simp only [Int.natCast_mul] at hmk
  have m1 : IntKind.i64.wrap ((n : Int) * n) = (n : Int) * n := by
    rw [← Int.natCast_mul]
    exact wrap_small (by omega) (by omega)
  have m2 : wrap64 ((n : Int) * n) = (n : Int) * n := by
    rw [← Int.natCast_mul]
    unfold wrap64
    omega
  have t1 : ¬ (n : Int) < 1 := by omega
  have t2 : ¬ (4 : Int) < n := by omega
  refine callsIn_wide (n := 4).1 ?_
  refine callsIn_of_wp_marks Tryd.func58 rfl trivial ?_ rfl
  simp only [Tryd.ntmps58, List.size_toArray, List.length_cons, List.length_nil, Nat.reduceAdd, Nat.reduceSub, Array.replicate_succ, Array.replicate_zero, List.push_toArray, List.append_toArray, List.nil_append, List.cons_append]
  gi_wp2
  refine ⟨trivial, (pairs_in Fence.wide 3 trivial rfl _ _ _ rfl rfl).mono ?_⟩
  rintro e w' ⟨rfl, rfl⟩
  gi_wp2
  have d0 : lies.Lies ((((w.alloc (.cells #[.int .i64 0, .slice none 0 0] 58)).alloc (.cells (madeCells #[.int .i64 0] (n * n)) 29)).alloc (.cells #[.int .i64 n, .slice (some ⟨w.heap.size + 1, 0, none⟩) (n * n) (n * n)] 82)).alloc (.cells #[.int .i64 n, .slice (some ⟨w.heap.size + 1, 0, none⟩) (n * n) (n * n)] 82)) w.heap.size 58 #[.int .i64 0, .slice none 0 0] := lies.on_alloc (lies.on_alloc (lies.on_alloc (lies.made w _ _) _) _) _
  have d1 : lies.Lies ((((w.alloc (.cells #[.int .i64 0, .slice none 0 0] 58)).alloc (.cells (madeCells #[.int .i64 0] (n * n)) 29)).alloc (.cells #[.int .i64 n, .slice (some ⟨w.heap.size + 1, 0, none⟩) (n * n) (n * n)] 82)).alloc (.cells #[.int .i64 n, .slice (some ⟨w.heap.size + 1, 0, none⟩) (n * n) (n * n)] 82)) (w.heap.size + 1) 29 (cellsOf (List.replicate (n * n) 0)) := by rw [← made_zeros]; exact lies.on_alloc (lies.on_alloc (lies.made_at _ _ _ _ (World.size_alloc _ _)) _) _
  have d2 : lies.Lies ((((w.alloc (.cells #[.int .i64 0, .slice none 0 0] 58)).alloc (.cells (madeCells #[.int .i64 0] (n * n)) 29)).alloc (.cells #[.int .i64 n, .slice (some ⟨w.heap.size + 1, 0, none⟩) (n * n) (n * n)] 82)).alloc (.cells #[.int .i64 n, .slice (some ⟨w.heap.size + 1, 0, none⟩) (n * n) (n * n)] 82)) (w.heap.size + 1 + 1) 82 #[.int .i64 n, .slice (some ⟨w.heap.size + 1, 0, none⟩) (n * n) (n * n)] := lies.on_alloc (lies.made_at _ _ _ _ (by simp)) _
  have d3 : lies.Lies ((((w.alloc (.cells #[.int .i64 0, .slice none 0 0] 58)).alloc (.cells (madeCells #[.int .i64 0] (n * n)) 29)).alloc (.cells #[.int .i64 n, .slice (some ⟨w.heap.size + 1, 0, none⟩) (n * n) (n * n)] 82)).alloc (.cells #[.int .i64 n, .slice (some ⟨w.heap.size + 1, 0, none⟩) (n * n) (n * n)] 82)) (w.heap.size + 1 + 1 + 1) 82 #[.int .i64 n, .slice (some ⟨w.heap.size + 1, 0, none⟩) (n * n) (n * n)] := lies.made_at _ _ _ _ (by simp)
  have d4 : Below w.heap.size w ((((w.alloc (.cells #[.int .i64 0, .slice none 0 0] 58)).alloc (.cells (madeCells #[.int .i64 0] (n * n)) 29)).alloc (.cells #[.int .i64 n, .slice (some ⟨w.heap.size + 1, 0, none⟩) (n * n) (n * n)] 82)).alloc (.cells #[.int .i64 n, .slice (some ⟨w.heap.size + 1, 0, none⟩) (n * n) (n * n)] 82)) := dbm.up (dbm.up (dbm.up (dbm.up (Below.refl _ _) (Nat.le_refl _) _) (Nat.le_refl _) _) (Nat.le_refl _) _) (Nat.le_refl _) _
  have d5 : w.heap.size + 1 + 1 + 1 < (((((w.alloc (.cells #[.int .i64 0, .slice none 0 0] 58)).alloc (.cells (madeCells #[.int .i64 0] (n * n)) 29)).alloc (.cells #[.int .i64 n, .slice (some ⟨w.heap.size + 1, 0, none⟩) (n * n) (n * n)] 82)).alloc (.cells #[.int .i64 n, .slice (some ⟨w.heap.size + 1, 0, none⟩) (n * n) (n * n)] 82))).heap.size := by simp
  refine wpIn_rangeFunc_ownG (F := Fence.wide) (n := 4) rfl (by omega) (gf := 69) (lb := #[.pointer (some ⟨w.heap.size + 1 + 1 + 1, 0, none⟩)]) rfl trivial (enters_of Tryd.func69 (by kernel_rfl) rfl)
    (pairs_stops Fence.wide (4 - 1) trivial rfl (by omega) (w.heap.size + 1 + 1 + 1) n (w.heap.size + 1) 0 (n * n) h0 hn _ d3) KB.trans (KB.put d5) (Below.refl _ _) (fun _ => by rfl)
    (fun pre W => lies.Lies W (w.heap.size + 1) 29 (cellsOf (tpl n (List.replicate (n * n) 0) pre)) ∧ lies.Lies W (w.heap.size + 1 + 1) 82 #[.int .i64 n, .slice (some ⟨w.heap.size + 1, 0, none⟩) (n * n) (n * n)] ∧ lies.Lies W w.heap.size 58 #[.int .i64 0, .slice none 0 0] ∧ Below w.heap.size w W ∧ w.heap.size + 1 + 1 + 1 + 1 ≤ W.heap.size)
    (fun _ _ _ => False)
    (OwnFrom.and (own_lies _ _ _ _) (OwnFrom.and (own_lies _ _ _ (fun _ => _)) (OwnFrom.and (own_lies _ _ _ (fun _ => _)) (OwnFrom.and (ownFrom_below (Nat.le_refl _) (by simp; omega)) (own_size _ _)))))
    (fun _ _ _ _ _ hs _ _ => hs)
    ⟨d1, d2, d0, d4, d5⟩
    (fun x => { tmps := #[.int .i64 n, undef, .pointer (some ⟨w.heap.size, 0, none⟩), .int .i64 0, .pointer (some ⟨w.heap.size + 1 + 1, 0, none⟩), .int .i64 (x.1.1 : Int), .int .i64 (x.1.2 : Int), .int .i64 n, .bool false, .bool false, .int .i64 n, .bool false, .bool false, undef, .int .i64 n, .int .i64 n, .int .i64 n, .int .i64 ((n : Int) * n), .slice (some ⟨w.heap.size + 1, 0, none⟩) (n * n) (n * n), .agg #[.int .i64 n, .slice (some ⟨w.heap.size + 1, 0, none⟩) (n * n) (n * n)], .agg #[.int .i64 n, .slice (some ⟨w.heap.size + 1, 0, none⟩) (n * n) (n * n)], .agg #[.int .i64 n, .slice (some ⟨w.heap.size + 1, 0, none⟩) (n * n) (n * n)], .func (.func 69) #[] #[.pointer (some ⟨w.heap.size + 1 + 1 + 1, 0, none⟩)], .int .i64 (x.1.1 : Int), .int .i64 (x.1.2 : Int), undef, undef, undef, undef, undef, undef, undef, undef, undef, undef, undef, undef, undef, undef, undef], defers := [] }) ?assign ?body ?done ?stop
  case assign =>
    intro l x W K hK
    gi_wp2
    exact hK
  case body =>
    rintro l pre x W ⟨hT, hM, hR, hB, hz⟩ _
    obtain ⟨⟨i, j⟩, hi, hj⟩ := x
    dsimp only at hi hj
    obtain ⟨us, hus⟩ : ∃ us, us = tpl n (List.replicate (n * n) 0) pre := ⟨_, rfl⟩
    rw [← hus] at hT
    have hlen : us.length = n * n := by rw [hus, tpl_length]; simp
    have p3 := place_le hn hi hj
    have HS := Lib.hid hus
    have HN := Lib.hid hlen
    have P3 := Lib.hid p3
    have hc : W.cell? ⟨w.heap.size + 1, i * n + j, none⟩ = some (.int .i64 (us[i * n + j]?.getD 0)) := (lies.cell hT _).trans (cells_at us _ (by rw [hlen]; exact p3))
    generalize us[i * n + j]?.getD 0 = y at hc
    have HC := Lib.hid hc
    clear hus hlen p3 hmk m1 m2 d0 d1 d2 d3 d4 t1 t2 hc
    obtain ⟨c0, c1, c2, c3, c4⟩ := lies.two hM
    gi_wp2
    refine ⟨trivial, CallsIn.inRound l (callsIn_wide.2 ((at_below n i j (w.heap.size + 1) 0 (n * n) W hn hi hj).mono ?_))⟩
    rintro e W5 ⟨rfl, hW5⟩
    have hT5 := lies.on_call hT hW5
    have hM5 := lies.on_call hM hW5
    have hR5 := lies.on_call hR hW5
    have hB5 := hB.trans (hW5.mono hB.size)
    have q5 := grown_below (grown_refl W (some (w.heap.size + 1))) hW5 (Nat.le_refl _)
    have hc5 : W5.cell? ⟨w.heap.size + 1, i * n + j, none⟩ = some (.int .i64 y) := (hW5.cell (p := ⟨w.heap.size + 1, i * n + j, none⟩) (by show w.heap.size + 1 < _; omega)).trans HC.out
    have hf5 := lies.free hT5 (i * n + j)
    clear c0 c1 c2 c3 c4
    have hT6 := lies.on_put hT5 (i * n + j) (.int .i64 9223372036854775807)
    rw [cells_set] at hT6
    have hM6 := lies.on_far hM5 (i * n + j) (show w.heap.size + 1 + 1 ≠ w.heap.size + 1 by omega) (.int .i64 9223372036854775807)
    have hR6 := lies.on_far hR5 (i * n + j) (show w.heap.size ≠ w.heap.size + 1 by omega) (.int .i64 9223372036854775807)
    have hB6 := hB5.setCell (p := ⟨w.heap.size + 1, i * n + j, none⟩) (by simp) (.int .i64 9223372036854775807)
    have q6 := grown_set q5 (i * n + j) (.int .i64 9223372036854775807)
    have Q := Lib.hid (And.intro hT6 (And.intro hM6 (And.intro hR6 (And.intro hB6 q6))))
    clear hT6 hM6 hR6 hB6 q6 q5 hR5 hB5 hT5 hM hR hB hT
    by_cases hij : i = j
    · obtain rfl : i = j := hij
      have t3 : ((i : Int) == i) = true := by simp
      obtain ⟨c0, c1, c2, c3, c4⟩ := lies.two hM5
      clear hM5
      gi_wp2
      refine ⟨trivial, CallsIn.inRound l (callsIn_wide.2 ((at_below n i i (w.heap.size + 1) 0 (n * n) _ hn hi hj).mono ?_))⟩
      rintro e W7 ⟨rfl, hW7⟩
      obtain ⟨hT6, hM6, hR6, hB6, q6⟩ := Q.out
      have hT7 := lies.on_call hT6 hW7
      have hM7 := lies.on_call hM6 hW7
      have hR7 := lies.on_call hR6 hW7
      have hB7 := hB6.trans (hW7.mono hB6.size)
      have q7 := grown_below q6 hW7 q6.size
      have hc7 : W7.cell? ⟨w.heap.size + 1, i * n + i, none⟩ = some (.int .i64 ((us.set (i * n + i) 9223372036854775807)[i * n + i]?.getD 0)) := (lies.cell hT7 _).trans (cells_at _ _ (by rw [List.length_set, HN.out]; exact P3.out))
      have hf7 := lies.free hT7 (i * n + i)
      generalize (us.set (i * n + i) 9223372036854775807)[i * n + i]?.getD 0 = y' at hc7
      have hT8 := lies.on_put hT7 (i * n + i) (.int .i64 1)
      rw [cells_set] at hT8
      have hM8 := lies.on_far hM7 (i * n + i) (show w.heap.size + 1 + 1 ≠ w.heap.size + 1 by omega) (.int .i64 1)
      have hR8 := lies.on_far hR7 (i * n + i) (show w.heap.size ≠ w.heap.size + 1 by omega) (.int .i64 1)
      have hB8 := hB7.setCell (p := ⟨w.heap.size + 1, i * n + i, none⟩) (by simp) (.int .i64 1)
      have q8 := grown_set q7 (i * n + i) (.int .i64 1)
      have Q8 := Lib.hid (And.intro hT8 (And.intro hM8 (And.intro hR8 (And.intro hB8 q8))))
      clear hT8 hM8 hR8 hB8 q8 hT7 hM7 hR7 hB7 q7 hT6 hM6 hR6 hB6 q6 hW7 c0 c1 c2 c3 c4 Q
      gi_wp2
      obtain ⟨q1, q2, q3, q4, q6⟩ := Q8.out
      refine ⟨KeepsFrom.of_grownBy q6 (fun r e => by cases e; simp), q6.block _ (by omega) (fun e => by have := Option.some.inj e; omega), ?_, q2, q3, q4, by have := q6.size; omega⟩
      rw [tpl_snoc, ← HS.out]
      unfold tpp
      rw [if_pos rfl]
      exact q1
    · have t3 : ((i : Int) == j) = false := by simp; omega
      have HIJ := Lib.hid hij
      clear hij hM5
      gi_wp2
      obtain ⟨q1, q2, q3, q4, q6⟩ := Q.out
      refine ⟨KeepsFrom.of_grownBy q6 (fun r e => by cases e; simp), q6.block _ (by omega) (fun e => by have := Option.some.inj e; omega), ?_, q2, q3, q4, by have := q6.size; omega⟩
      rw [tpl_snoc, ← HS.out]
      unfold tpp
      rw [if_neg HIJ.out]
      exact q1
  case done =>
    rintro D ys W hD rfl ⟨hT, hM, hR, hB, hz⟩ hK
    obtain ⟨c0, c1, c2, c3, c4⟩ := lies.two hM
    obtain ⟨e0, e1, e2, e3, e4⟩ := lies.two hR
    have hD' : w.heap.size + 1 + 1 + 1 + 1 ≤ D := by simp at hD; omega
    clear hD
    gi_wp2
    have hK' := ((KeepsOthers.setCell W ⟨w.heap.size, 0, none⟩ (.int .i64 n)).trans (KeepsOthers.setCell _ ⟨w.heap.size, 1, none⟩ (.slice (some ⟨w.heap.size + 1, 0, none⟩) (n * n) (n * n)))).same D _ hK rfl
    have r1 := lies.on_put (lies.on_put hR 0 (.int .i64 n)) 1 (.slice (some ⟨w.heap.size + 1, 0, none⟩) (n * n) (n * n))
    obtain ⟨k0, k1, k2, k3, k4⟩ := lies.two r1
    have z0 := cell_kept k0 (grownBy_putObj' _ D (.deferred none)) (fun r e => by cases e; exact ⟨_, hK', rfl⟩)
    have z1 := cell_kept k1 (grownBy_putObj' _ D (.deferred none)) (fun r e => by cases e; exact ⟨_, hK', rfl⟩)
    refine ⟨by simp, .inl ⟨_, _, rfl, run_takeDeferred hK', ?_⟩⟩
    refine ⟨.tuple #[.agg #[.int .i64 n, .slice (some ⟨w.heap.size + 1, 0, none⟩) (n * n) (n * n)], .int .i64 0], ?_, ?_, w.heap.size + 1, by omega, rfl, ?_⟩
    · simp [results, Tryd.f58, go_sem, z0, z1]
    · exact ((hB.setCell (p := ⟨w.heap.size, 0, none⟩) (Nat.le_refl _) _).setCell (p := ⟨w.heap.size, 1, none⟩) (Nat.le_refl _) _).trans (belowK_b (w := w) (Nat.le_refl _) _ D _ _ (by omega) hK' rfl rfl)
    · exact Eq.trans (World.putObj_heap_other (by omega)) (lies.on_far (lies.on_far hT 0 (by omega) _) 1 (by omega) _)
  case stop =>
    rintro D c pre W hD _ h _
    exact h.elim
end Go.Proofs.YthljhijcmdnonaaDoor.dbm

namespace Go.Proofs.YthljhijcmdnonaaDoor.dref
open Go.ChangeShapes Go.WideShapes Go.ChangeAt Go.RowKit num dbm
open bound hiding up
set_option linter.unusedVariables false

end Go.Proofs.YthljhijcmdnonaaDoor.dref

namespace Go.Proofs.YthljhijcmdnonaaDoor.dlaw
open Go.Joins Go.ChangeShapes Go.WideShapes Go.ChangeAt Go.RowKit num dbm
open bound hiding up
set_option linter.unusedVariables false
set_option linter.unusedSimpArgs false

set_option maxRecDepth 100000 in
/-- a matrix by value in memory that lies below. -/
theorem open_dbm {H : Type} {enc : TypeId × Value → H} {W : World} {v : Value} {d : DataW H} {p : List MemPlace} {base : Nat}
    (hok : Value.okWide Tryd.prog W .any base 58 v) (h : DataW.Trod enc Tryd.prog W 0 (fun _ => true) true 58 v d p) :
    ∃ (n : Int) (sv : Value) (ts : List Int), v = .agg #[.int .i64 n, sv] ∧ (Lit.int .i64 n).wf = true ∧ (∀ z ∈ ts, (Lit.int .i64 z).wf = true) ∧ law.Ints W.heap.size W sv ts ∧ ts.length ≤ maxLen := by
  obtain ⟨v0, v1, y0, y1, k, rfl, _, _, h0, h1⟩ := open_agg2 Tryd.underlying58 (by kernel_rfl) (by kernel_rfl) hok h
  obtain ⟨a, ha, _, wa⟩ := DataW.trod_int Tryd.underlying3 h0
  simp only [List.cons.injEq, and_true] at ha
  subst ha
  rcases open_ints Tryd.underlying56 Tryd.underlying29 (by kernel_rfl) h1 with ⟨hcs, hx⟩ | ⟨a', len', cap', zs, hcs, _, hl, hm, hz, hx, hcell, hwz⟩
  · simp only [List.cons.injEq, and_true] at hcs
    subst hcs
    exact ⟨a, _, [], rfl, wa, by simp, .inl ⟨⟨_, _, rfl, fun _ => rfl⟩, rfl⟩, Nat.zero_le _⟩
  · simp only [List.cons.injEq, and_true] at hcs
    subst hcs
    simp only [if_true] at hz
    have hlen : (zs.take len').length = len' := by simp; omega
    refine ⟨a, _, zs.take len', rfl, wa, fun z hz' => hwz z (List.mem_of_mem_take hz'), ?_, by omega⟩
    by_cases h0 : len' = 0
    · subst h0
      exact .inl ⟨⟨_, _, rfl, fun h => by cases h⟩, by simp⟩
    · obtain ⟨b, off, rfl, hcs⟩ := ints_at hcell (by omega)
      refine .inr ⟨b, off, cap', by rw [hlen], law.cell_lt (hcs 0 (by omega)), fun j hj => ?_⟩
      rw [hlen] at hj
      rw [hcs j (by omega), List.getElem?_take_of_lt hj, List.getD_eq_getElem?_getD]

/-- what a call leaves that answers a matrix in memory of its own: it lies there. -/
def Own (B : Nat) (n : Int) (sv : Value) (us : List Int) (w : World) : Prop := B ≤ w.heap.size ∧ law.Ints w.heap.size w sv us

theorem top_two (w : World) : Calls Tryd.prog 58 #[.int .i64 2] w fun e w' => ∃ g, w.heap.size ≤ g ∧ e = .returned (.tuple #[.agg #[.int .i64 2, .slice (some ⟨g, 0, none⟩) 4 4], .int .i64 0]) ∧ lies.Lies w' g 29 (cellsOf [1, 9223372036854775807, 9223372036854775807, 1]) ∧ Below w.heap.size w w' := by
  refine (top_ok 2 w (by decide) (by decide)).mono ?_
  rintro e w' ⟨hB, g, hg, rfl, hl⟩
  have e1 : topT 2 (by decide) = [1, 9223372036854775807, 9223372036854775807, 1] := by decide +kernel
  rw [e1] at hl
  exact ⟨g, hg, rfl, hl, hB⟩
theorem close_yes (g : Nat) (w : World) (hg : lies.Lies w g 29 (cellsOf [1, -3, 9, 1])) :
    Calls Tryd.prog 34 #[.agg #[.int .i64 2, .slice (some ⟨g, 0, none⟩) 4 4]] w fun e w' => ∃ g', w.heap.size ≤ g' ∧ e = .returned (.tuple #[.agg #[.int .i64 2, .slice (some ⟨g', 0, none⟩) 4 4], .int .i64 0]) ∧ lies.Lies w' g' 29 (cellsOf [1, -3, 9, 1]) ∧ Below w.heap.size w w' := by
  refine (close_ok 2 g 0 4 [1, -3, 9, 1] w (by decide) (row_of hg) (lies.lt hg) (by unfold Tops; decide) (by decide) rfl (by decide)).mono ?_
  rintro e w' ⟨hB, ⟨k, hk, hem, _⟩ | ⟨_, g', hg', rfl, hl⟩⟩
  · refine absurd hem ?_
    have : k = 0 ∨ k = 1 ∨ k = 2 := by omega
    unfold emp
    rcases this with rfl | rfl | rfl <;> (rintro ⟨i, hi, h⟩; have : i = 0 ∨ i = 1 := by omega) <;> rcases this with rfl | rfl <;> revert h <;> decide +kernel
  · have e1 : tabs 2 (by decide) [1, -3, 9, 1] 2 = [1, -3, 9, 1] := by decide +kernel
    rw [e1] at hl
    exact ⟨g', hg', rfl, hl, hB⟩
theorem close_none (g : Nat) (w : World) (hg : lies.Lies w g 29 (cellsOf [1, -5, 3, 1])) :
    Calls Tryd.prog 34 #[.agg #[.int .i64 2, .slice (some ⟨g, 0, none⟩) 4 4]] w fun e w' => e = .returned (.tuple #[.agg #[.int .i64 0, .slice none 0 0], .int .i64 6]) ∧ Below w.heap.size w w' := by
  refine (close_ok 2 g 0 4 [1, -5, 3, 1] w (by decide) (row_of hg) (lies.lt hg) (by unfold Tops; decide) (by decide) rfl (by decide)).mono ?_
  rintro e w' ⟨hB, ⟨k, hk, hem, rfl⟩ | ⟨hne, _⟩⟩
  · exact ⟨rfl, hB⟩
  · exact absurd (⟨1, by decide, by decide +kernel⟩ : emp 2 (tabs 2 (by decide) [1, -5, 3, 1] 1)) (hne 1 (by decide))

theorem own_ints {w : World} {g : Nat} {us : List Int} {cap : Nat} (h : lies.Lies w g 29 (cellsOf us)) : law.Ints w.heap.size w (.slice (some ⟨g, 0, none⟩) us.length cap) us := .inr ⟨g, 0, cap, rfl, lies.lt h, row_of h⟩
theorem at_s {w W : World} {g : Nat} {t : TypeId} {u v : Value} (h : lies.Lies w g t #[u, v]) (k : Below w.heap.size w W) : W.cell? ⟨g, 0, none⟩ = some u ∧ W.cell? ⟨g, 1, none⟩ = some v := lies.pair (lies.on_call h k)

end Go.Proofs.YthljhijcmdnonaaDoor.dlaw

namespace Go.Proofs.YthljhijcmdnonaaDoor.dref
open Go.ChangeShapes Go.WideShapes Go.ChangeAt Go.RowKit num dbm
open bound hiding up
set_option linter.unusedVariables false
set_option linter.unusedSimpArgs false

/-- a matrix in new memory. -/
def TwR (n : Int) (ts : List Int) (w : World) (e : Ending) (w' : World) : Prop := Below w.heap.size w w' ∧ ∃ v, e = .returned (.agg #[.int .i64 n, v]) ∧ w'.ownsRow w.heap.size 29 1 v ts.length (ts.map (Value.int .i64))
theorem own_other {w : World} {base n : Nat} {t : TypeId} {v : Value} {xs : List Value} (h : w.ownsRow base t 1 v n xs) {p : Addr} (hp : p.block < base) (u : Value) : (w.setCell p u).ownsRow base t 1 v n xs := by
  refine h.kept (row := some p.block) ⟨rfl, rfl, rfl, by simp, fun k hk hne => Below.heap_setCell w p u k (fun e => hne (by rw [e]))⟩ ?_
  cases hv : v.ownBlock with
  | none => exact .inl rfl
  | some k => exact .inr (fun e => by have := (h.lt k hv).1; have := Option.some.inj e; omega)

theorem ints_own {w : World} {base : Nat} {v : Value} {ts : List Int} (h : w.ownsRow base 29 1 v ts.length (ts.map (Value.int .i64))) : law.Ints w.heap.size w v ts := by
  rcases Go.Joins.ownsRow_forms h with ⟨rfl, h0⟩ | ⟨g, cap, rfl⟩
  · obtain rfl : ts = [] := List.eq_nil_of_length_eq_zero h0
    exact .inl ⟨⟨_, _, rfl, fun _ => rfl⟩, rfl⟩
  · refine .inr ⟨g, 0, cap, rfl, (h.lt g rfl).2, fun j hj => ?_⟩
    rw [Nat.zero_add, h.cellAt j (by omega), List.getElem?_map, List.getElem?_eq_getElem hj]
    rfl
end Go.Proofs.YthljhijcmdnonaaDoor.dref

namespace Go.Proofs.YthljhijcmdnonaaDoor.dref
open Go.ChangeShapes Go.WideShapes Go.ChangeAt Go.RowKit num dbm
open bound hiding up
set_option linter.unusedVariables false

/-- the first p of the matrix of n clocks. -/
def allP (n p : Nat) : List Int := (List.range p).map fun k => if k / n = k % n then 1 else 9223372036854775807
theorem allP_length (n p : Nat) : (allP n p).length = p := by simp [allP]
theorem allP_yes {n i : Nat} (h : i < n) : allP n (i * n + i + 1) = allP n (i * n + i) ++ [1] := by
  unfold allP
  rw [List.range_succ, List.map_append, List.map_singleton]
  have e1 : (i * n + i) / n = i := by rw [Nat.mul_comm, Nat.mul_add_div (by omega), Nat.div_eq_of_lt h]; rfl
  have e2 : (i * n + i) % n = i := by rw [Nat.mul_comm, Nat.mul_add_mod, Nat.mod_eq_of_lt h]
  rw [e1, e2, if_pos rfl]
theorem allP_no {n i j : Nat} (h : j < n) (hne : i ≠ j) : allP n (i * n + j + 1) = allP n (i * n + j) ++ [9223372036854775807] := by
  unfold allP
  rw [List.range_succ, List.map_append, List.map_singleton]
  have e1 : (i * n + j) / n = i := by rw [Nat.mul_comm, Nat.mul_add_div (by omega), Nat.div_eq_of_lt h]; rfl
  have e2 : (i * n + j) % n = j := by rw [Nat.mul_comm, Nat.mul_add_mod, Nat.mod_eq_of_lt h]
  rw [e1, e2, if_neg hne]

/-- what lies there while it is made. -/
def AllI (n p : Nat) (w W : World) : Prop := ∃ a l c, lies.Lies W w.heap.size 58 #[.int .i64 0, .slice none 0 0] ∧ lies.Lies W (w.heap.size + 1) 58 #[.int .i64 n, .slice a l c] ∧ W.ownsRow (w.heap.size + 1 + 1) 29 1 (.slice a l c) p ((allP n p).map (Value.int .i64)) ∧ Below w.heap.size w W
theorem AllI.grows {n p : Nat} {w W X : World} {a : Option Addr} {l c : Nat} {v' : Value} {x : Int} {E : World} (h0 : lies.Lies W w.heap.size 58 #[.int .i64 0, .slice none 0 0]) (h1 : lies.Lies W (w.heap.size + 1) 58 #[.int .i64 n, .slice a l c]) (hB : Below w.heap.size w W)
    (ho : W.ownsRow (w.heap.size + 1 + 1) 29 1 (.slice a l c) p ((allP n p).map (Value.int .i64))) (hown : X.ownsRow (w.heap.size + 1 + 1) 29 1 v' (p + 1) ((allP n p).map (Value.int .i64) ++ [.int .i64 x])) (hg : (W.alloc (.cells #[.int .i64 x] 29)).grownBy X (Value.slice a l c).ownBlock) :
    ∃ a' l' c', v' = .slice a' l' c' ∧ lies.Lies X w.heap.size 58 #[.int .i64 0, .slice none 0 0] ∧ lies.Lies X (w.heap.size + 1) 58 #[.int .i64 n, .slice a l c] ∧ Below w.heap.size w X := by
  have hs : ∀ k, (Value.slice a l c).ownBlock = some k → w.heap.size + 1 + 1 ≤ k := fun k hk => (ho.lt k hk).1
  have b0 := lies.on_alloc h0 (.cells #[.int .i64 x] 29)
  have b1 := lies.on_alloc h1 (.cells #[.int .i64 x] 29)
  have e : ∃ a' l' c', v' = .slice a' l' c' := by
    rcases Go.Joins.ownsRow_forms hown with ⟨rfl, _⟩ | ⟨g, cap, rfl⟩
    · exact ⟨_, _, _, rfl⟩
    · exact ⟨_, _, _, rfl⟩
  obtain ⟨a', l', c', rfl⟩ := e
  refine ⟨a', l', c', rfl, (hg.block _ (lies.lt b0) (fun e => by have := hs _ e.symm; omega)).trans b0, (hg.block _ (lies.lt b1) (fun e => by have := hs _ e.symm; omega)).trans b1, ?_⟩
  exact (hB.alloc hB.size _).grown hg (by have := hB.size; simp; omega) (fun k e => by have := hs k e; omega)

end Go.Proofs.YthljhijcmdnonaaDoor.dref
