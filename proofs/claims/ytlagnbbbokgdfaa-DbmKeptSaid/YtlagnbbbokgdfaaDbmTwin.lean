/-
  A matrix in new memory (dbm.Twin): of no list, and of one with bounds; the conditions: it has fewer than 2^40 bounds.
-/
import Derived.Test.YtlagnbbbokgdfaaDbmOver
import Derived.Deep.OwnRows
import Derived.Laws.CopyOwn
import Derived.WalkSpells
namespace Go.Proofs.Ytlagnbbbokgdfaa.dbm
open Go.ChangeShapes Go.WideShapes Go.ChangeAt Go.RowKit num
open bound hiding up
set_option linter.unusedVariables false

theorem info_b : (Try.prog.info? 29).map (fun i => (i.zero, i.size, i.bytes)) = some (some (.int .i64 0), 1, 8) := by kernel_rfl
set_option maxRecDepth 100000 in
theorem twin_nil (n : Int) (w : World) :
    Calls Try.prog 16 #[.agg #[.int .i64 n, .slice none 0 0]] w fun e w' => e = .returned (.agg #[.int .i64 n, .slice none 0 0]) ∧ Below w.heap.size w w' := by
  have hn := fun w => Lib.run_eql_slice_nil (P := Try.prog) w 25 29 none 0 0 0 0 Try.underlying25
  go_enter Try.func16, Try.ntmps16
  go_wp2
  exact bodyPost_ret (v := .agg #[.int .i64 n, .slice none 0 0]) (by simp [results, Try.results16, go_sem]) rfl ⟨rfl, ((Below.refl _ _).alloc (Nat.le_refl _) _).alloc (by simp) _⟩

theorem copied {W : World} {b off : Nat} {ts : List Int} (h : Row W b off ts) (j : Nat) (v : Value) (hv : (ts.map (Value.int .i64))[j]? = some v) : W.cell? ((⟨b, off, none⟩ : Addr).add j) = some v := by
  have hj : j < ts.length := by
    have := (List.getElem?_eq_some_iff.1 hv).1
    simpa using this
  rw [List.getElem?_map, List.getElem?_eq_getElem hj] at hv
  simp only [Option.map_some, Option.some.injEq] at hv
  subst hv
  have := h j hj
  rw [List.getElem?_eq_getElem hj] at this
  rw [show (⟨b, off, none⟩ : Addr).add j = ⟨b, off + j, none⟩ from by unfold Addr.add; by_cases k : j = 0 <;> simp [k]]
  exact this

theorem spliced (Z : List Value) (ts : List Int) (h : Z.length = ts.length) : (splice Z 0 (ts.map (Value.int .i64))).toArray = cellsOf ts := by
  unfold splice cellsOf
  rw [List.take_zero, List.nil_append, List.length_map, Nat.zero_add, List.drop_of_length_le (by omega), List.append_nil]

/-- what Twin of a list with bounds answers. -/
def New (n : Int) (len : Nat) (ts : List Int) (w : World) (e : Ending) (w' : World) : Prop := ∃ g, w.heap.size ≤ g ∧ e = .returned (.agg #[.int .i64 n, .slice (some ⟨g, 0, none⟩) len len]) ∧ lies.Lies w' g 29 (cellsOf ts) ∧ Below w.heap.size w w'

set_option maxRecDepth 100000 in
set_option maxHeartbeats 1000000 in
theorem twin_row (n : Int) (b off len cap : Nat) (ts : List Int) (w : World) (hr : Row w b off ts) (hb : b < w.heap.size) (hl : ts.length = len) (h0 : 0 < len) (hm : len ≤ 1000000000000) :
    Calls Try.prog 16 #[.agg #[.int .i64 n, .slice (some ⟨b, off, none⟩) len cap]] w (New n len ts w) := by
  have HR := Lib.hid hr
  have HL := Lib.hid hl
  clear hr hl
  have hmk := run_make_row' (P := Try.prog) 25 29 (.int .i64 0) 8 Try.underlying25 info_b rfl .i64 .i64 len (by omega) (by omega)
  have hn := fun w => Lib.run_eql_slice_nil (P := Try.prog) w 25 29 (some ⟨b, off, none⟩) len cap 0 0 Try.underlying25
  go_enter Try.func16, Try.ntmps16
  have D0 := lies.on_alloc (lies.on_alloc (lies.made w 27 #[.int .i64 n, .slice (some ⟨b, off, none⟩) len cap]) (.cells #[.int .i64 0, .slice none 0 0] 27)) (.cells (madeCells #[.int .i64 0] len) 29)
  have D1 := lies.on_alloc (lies.made_at (w.alloc (.cells #[.int .i64 n, .slice (some ⟨b, off, none⟩) len cap] 27)) 27 #[.int .i64 0, .slice none 0 0] (w.heap.size + 1) (World.size_alloc _ _)) (.cells (madeCells #[.int .i64 0] len) 29)
  have D2 := lies.made_at ((w.alloc (.cells #[.int .i64 n, .slice (some ⟨b, off, none⟩) len cap] 27)).alloc (.cells #[.int .i64 0, .slice none 0 0] 27)) 29 (madeCells #[.int .i64 0] len) (w.heap.size + 1 + 1) (by simp)
  have D3 : Row (((w.alloc (.cells #[.int .i64 n, .slice (some ⟨b, off, none⟩) len cap] 27)).alloc (.cells #[.int .i64 0, .slice none 0 0] 27)).alloc (.cells (madeCells #[.int .i64 0] len) 29)) b off ts := HR.out.below ((((Below.refl w.heap.size w).alloc (Nat.le_refl _) _).alloc (by simp) _).alloc (by simp; omega) _) hb
  have D4 : Below w.heap.size w (((w.alloc (.cells #[.int .i64 n, .slice (some ⟨b, off, none⟩) len cap] 27)).alloc (.cells #[.int .i64 0, .slice none 0 0] 27)).alloc (.cells (madeCells #[.int .i64 0] len) 29)) := (((Below.refl w.heap.size w).alloc (Nat.le_refl _) _).alloc (by simp) _).alloc (by simp; omega) _
  have HD := Lib.hid (And.intro D0 (And.intro D1 (And.intro D2 (And.intro D3 D4))))
  clear D0 D1 D2 D3 D4
  go_wp2_with (refine wpList_copy_splice rfl (.tmp 12) (.tmp 14) 25 25 rfl 29 Try.underlying25 (by kernel_rfl) (some ⟨w.heap.size + 1 + 1, 0, none⟩) (some ⟨b, off, none⟩) len len len cap rfl rfl (w.heap.size + 1 + 1) 0 (madeCells #[.int .i64 0] len).toList 29 HD.out.2.2.1 (ts.map (Value.int .i64)) (by simp [HL.out]) (fun _ => ⟨rfl, ⟨b, off, none⟩, rfl, copied HD.out.2.2.2.1⟩) (by simp [HL.out, size_madeCells]) (by intro v hv; obtain ⟨x, _, rfl⟩ := List.mem_map.1 hv; rfl) (w.heap.size + 1 + 1) _ (Below.refl _ _) (Nat.le_refl _) ?_; intro w' hg' hB'; have D0' : lies.Lies w' w.heap.size 27 #[.int .i64 n, .slice (some ⟨b, off, none⟩) len cap] := (hB'.block _ (by omega)).trans HD.out.1; have D1' : lies.Lies w' (w.heap.size + 1) 27 #[.int .i64 0, .slice none 0 0] := (hB'.block _ (by omega)).trans HD.out.2.1; obtain ⟨x0, x1, x2, x3, x4⟩ := lies.two D0'; obtain ⟨y0, y1, y2, y3, y4⟩ := lies.two D1')
  have hG : lies.Lies w' (w.heap.size + 1 + 1) 29 (cellsOf ts) := by
    have h := hg'.out
    rw [spliced _ _ (by simp [HL.out, size_madeCells])] at h
    exact h
  have hB2 : Below w.heap.size w w' := HD.out.2.2.2.2.trans (hB'.mono (by omega))
  refine bodyPost_ret (v := .agg #[.int .i64 n, .slice (some ⟨w.heap.size + 1 + 1, 0, none⟩) len len]) (by simp [results, Try.results16, go_sem, y0, y1]) rfl ⟨w.heap.size + 1 + 1, by omega, rfl, ?_, ?_⟩
  · exact lies.on_far (lies.on_far hG 0 (by omega) _) 1 (by omega) _
  · exact (hB2.setCell (p := ⟨w.heap.size + 1, 0, none⟩) (by simp) _).setCell (p := ⟨w.heap.size + 1, 1, none⟩) (by simp) _
end Go.Proofs.Ytlagnbbbokgdfaa.dbm
