/-
  The document's own copy of a matrix (rallentandoref04.Twin), of any one; the conditions: its bounds lie in memory, fewer than 10^13.
-/
import Derived.Test.YtlagnbbbokgdfaaDbmRef1
import Derived.Test.YtlagnbbbokgdfaaDbmTwin
import Derived.Deep.RegionHeld
import Derived.Lib.SmallJoins
namespace Go.Proofs.Ytlagnbbbokgdfaa.dref
open Go.ChangeShapes Go.WideShapes Go.ChangeAt Go.RowKit num dbm
open bound hiding up
set_option linter.unusedVariables false
set_option linter.unusedSimpArgs false

/-- a matrix in new memory. -/
def TwR (n : Int) (ts : List Int) (w : World) (e : Ending) (w' : World) : Prop := Below w.heap.size w w' ∧ ∃ v, e = .returned (.agg #[.int .i64 n, v]) ∧ w'.ownsRow w.heap.size 29 1 v ts.length (ts.map (Value.int .i64))
theorem own_other {w : World} {base n : Nat} {t : TypeId} {v : Value} {xs : List Value} (h : w.ownsRow base t 1 v n xs) {p : Addr} (hp : p.block < base) (u : Value) : (w.setCell p u).ownsRow base t 1 v n xs := by
  refine h.kept (row := some p.block) ⟨rfl, rfl, rfl, by simp, fun k hk hne => Below.heap_setCell w p u k (fun e => hne (by rw [e]))⟩ ?_
  cases hv : v.ownBlock with
  | none => exact .inl rfl
  | some k => exact .inr (fun e => by have := (h.lt k hv).1; have := Option.some.inj e; omega)

set_option maxRecDepth 100000 in
set_option maxHeartbeats 1000000 in
theorem twin_none (n : Int) (w : World) :
    Calls Try.prog 13 #[.agg #[.int .i64 n, .slice none 0 0]] w (TwR n [] w) := by
  obtain ⟨i0, hi, hz0, hz1, hz2⟩ := info_parts info_b
  have happ := fun W : World => run_append_owned_none (P := Try.prog) (w := W) W.heap.size 25 25 29 i0 1 Try.underlying25 hi (.slice none 0 0) 0 [] (World.ownsRow_nil _ _ _ _)
  have c0 : (w.alloc (.cells #[.int .i64 n, .slice none 0 0] 27)).heap.size = w.heap.size + 1 := by simp
  go_enter Try.func13, Try.ntmps13
  go_wp2
  go_region
  all_goals go_wp2
  all_goals exact bodyPost_ret (v := .agg #[.int .i64 n, .slice none 0 0]) (by simp [results, Try.results13, go_sem]) rfl ⟨dbm.drawn1 (bound.up2 _ _ _), _, rfl, World.ownsRow_nil _ _ _ _⟩

set_option maxRecDepth 100000 in
set_option maxHeartbeats 1000000 in
theorem twin_some (n : Int) (ad : Addr) (len cap : Nat) (ts : List Int) (w : World) (hr : ∀ W, Below w.heap.size w W → ∀ j v, (ts.map (Value.int .i64))[j]? = some v → W.cell? (ad.add j) = some v) (hl : ts.length = len) (hm : len ≤ 10000000000000) :
    Calls Try.prog 13 #[.agg #[.int .i64 n, .slice (some ad) len cap]] w (TwR n ts w) := by
  obtain ⟨i0, hi, hz0, hz1, hz2⟩ := info_parts info_b
  have HR := Lib.hid hr
  have HL := Lib.hid hl
  have HI := Lib.hid (And.intro hi (And.intro hz0 (And.intro hz1 hz2)))
  clear hr hl hi hz0 hz1 hz2
  have D0 := lies.on_alloc (lies.made w 27 #[.int .i64 n, .slice (some ad) len cap]) (.cells #[.int .i64 0, .slice none 0 0] 27)
  have D1 := lies.made_at (w.alloc (.cells #[.int .i64 n, .slice (some ad) len cap] 27)) 27 #[.int .i64 0, .slice none 0 0] (w.heap.size + 1) (World.size_alloc _ _)
  have DB : Below w.heap.size w ((w.alloc (.cells #[.int .i64 n, .slice (some ad) len cap] 27)).alloc (.cells #[.int .i64 0, .slice none 0 0] 27)) := bound.up2 _ _ _
  go_enter Try.func13, Try.ntmps13
  go_wp2
  refine wp_region_held_drew (S := fun W => W.cell? ⟨w.heap.size, 0, none⟩ = some (.int .i64 n) ∧ W.cell? ⟨w.heap.size, 1, none⟩ = some (.slice (some ad) len cap)) (by kernel_rfl) ⟨(lies.two D0).1, (lies.two D0).2.1⟩ (fun hHeld => ?_)
  refine wpAnyH_take (i := 0) (v := ?_) rfl (by kernel_rfl) (by kernel_rfl) (by kernel_rfl) (fun _ _ _ h => h) (Or.inl ⟨by rfl, ?_⟩) hHeld ?_
  rotate_left
  · intro w hSw; obtain ⟨s0, s1⟩ := hSw; go_simp; try with_reducible rfl
  try simp only [Act.put, List.getElem_toArray, List.getElem_cons_zero, List.getElem_cons_succ, List.setIfInBounds_toArray, List.set_cons_zero, List.set_cons_succ]
  refine wpAnyH_take (i := 1) (v := ?_) rfl (by kernel_rfl) (by kernel_rfl) (by kernel_rfl) (fun _ _ _ h => h) (Or.inl ⟨by rfl, ?_⟩) hHeld ?_
  rotate_left
  · intro w hSw; obtain ⟨s0, s1⟩ := hSw; go_simp; try with_reducible rfl
  try simp only [Act.put, List.getElem_toArray, List.getElem_cons_zero, List.getElem_cons_succ, List.setIfInBounds_toArray, List.set_cons_zero, List.set_cons_succ]
  refine wpAnyH_take (i := 2) (v := ?_) rfl (by kernel_rfl) (by kernel_rfl) (by kernel_rfl) (fun _ _ _ h => h) (Or.inl ⟨by rfl, ?_⟩) hHeld ?_
  rotate_left
  · intro w hSw; obtain ⟨s0, s1⟩ := hSw; go_simp; try with_reducible rfl
  try simp only [Act.put, List.getElem_toArray, List.getElem_cons_zero, List.getElem_cons_succ, List.setIfInBounds_toArray, List.set_cons_zero, List.set_cons_succ]
  refine wpAnyH_take (i := 3) (v := ?_) rfl (by kernel_rfl) (by kernel_rfl) (by kernel_rfl) (fun _ _ _ h => h) (Or.inl ⟨by rfl, ?_⟩) hHeld ?_
  rotate_left
  · intro w hSw; obtain ⟨s0, s1⟩ := hSw; go_simp; try with_reducible rfl
  try simp only [Act.put, List.getElem_toArray, List.getElem_cons_zero, List.getElem_cons_succ, List.setIfInBounds_toArray, List.set_cons_zero, List.set_cons_succ]
  refine wpAnyH_ready (rs := [4]) (by kernel_rfl) (by simp) (AllReadyH.cons rfl (fun K hK => ?_) AllReadyH.nil)
  rw [if_pos (by rfl)]
  refine wp_append_own _ (.const (.slice none 0 0)) (.tmp 6) 25 rfl (w.heap.size + 1 + 1) 29 i0 (.int .i64 0) 1 8 Try.underlying25 HI.out.1 HI.out.2.1 HI.out.2.2.1 HI.out.2.2.2 rfl (by decide) (.slice none 0 0) 0 [] rfl (World.ownsRow_nil _ _ _ _) ad len cap (ts.map (Value.int .i64)) rfl (by simp [HL.out]) (HR.out _ (dbm.drawn1 DB)) (by intro v hv; obtain ⟨x, _, rfl⟩ := List.mem_map.1 hv; rfl) (by unfold maxLen; omega) (by omega) (by simp) ?_
  intro v' w' hown hgrow _
  have E0 : lies.Lies w' w.heap.size 27 #[.int .i64 n, .slice (some ad) len cap] := (hgrow.block _ (lies.lt D0) (by simp [Value.ownBlock])).trans D0
  have E1 : lies.Lies w' (w.heap.size + 1) 27 #[.int .i64 0, .slice none 0 0] := (hgrow.block _ (lies.lt D1) (by simp [Value.ownBlock])).trans D1
  have EB : Below w.heap.size w w' := (dbm.drawn1 DB).grown hgrow (by simp; omega) (fun k e => by simp [Value.ownBlock] at e)
  obtain ⟨a', l', c', rfl⟩ : ∃ a l c, v' = .slice a l c := by
    rcases Go.Joins.ownsRow_forms hown with ⟨rfl, _⟩ | ⟨g, cap, rfl⟩
    · exact ⟨_, _, _, rfl⟩
    · exact ⟨_, _, _, rfl⟩
  have HO := Lib.hid hown
  clear hown hgrow
  refine hK.out _ _ ⟨(lies.two E0).1, (lies.two E0).2.1⟩ (fun hNew => ?_)
  clear hHeld hK K
  have hHeld := hNew
  clear hNew
  try simp only [Act.put, List.getElem_toArray, List.getElem_cons_zero, List.getElem_cons_succ, List.setIfInBounds_toArray, List.set_cons_zero, List.set_cons_succ]
  refine wpAnyH_take (i := 5) (v := ?_) rfl (by kernel_rfl) (by kernel_rfl) (by kernel_rfl) (fun _ _ _ h => h) (Or.inl ⟨by rfl, ?_⟩) hHeld ?_
  rotate_left
  · intro w hSw; obtain ⟨s0, s1⟩ := hSw; go_simp; try with_reducible rfl
  try simp only [Act.put, List.getElem_toArray, List.getElem_cons_zero, List.getElem_cons_succ, List.setIfInBounds_toArray, List.set_cons_zero, List.set_cons_succ]
  obtain ⟨c0, c1, c2, c3, c4⟩ := lies.two E1
  refine wpAnyH_ready (rs := [6]) (by kernel_rfl) (by simp) (AllReadyH.cons rfl (fun K hK => ?_) AllReadyH.nil)
  go_simp
  refine hK.out _ _ ⟨(lies.two (lies.on_far (lies.on_far E0 0 (by omega) _) 1 (by omega) _)).1, (lies.two (lies.on_far (lies.on_far E0 0 (by omega) _) 1 (by omega) _)).2.1⟩ (fun hNew => ?_)
  clear hHeld hK K hNew
  refine wpAnyH_done (by kernel_rfl) ?_ _
  go_wp2
  have hO2 : w'.ownsRow (w.heap.size + 1 + 1) 29 1 (.slice a' l' c') ts.length (ts.map (Value.int .i64)) := by
    have := HO.out
    rw [Nat.zero_add, List.nil_append] at this
    rw [HL.out]
    exact this
  refine bodyPost_ret (v := .agg #[.int .i64 n, .slice a' l' c']) (by simp [results, Try.results13, go_sem, c0, c1]) rfl ⟨?_, _, rfl, ?_⟩
  · exact (EB.setCell (p := ⟨w.heap.size + 1, 0, none⟩) (by simp) _).setCell (p := ⟨w.heap.size + 1, 1, none⟩) (by simp) _
  · exact Go.Joins.ownsRow_le (own_other (own_other hO2 (p := ⟨w.heap.size + 1, 0, none⟩) (by simp) _) (p := ⟨w.heap.size + 1, 1, none⟩) (by simp) _) (by omega)

theorem twin_ref (n : Int) (sv : Value) (ts : List Int) (w : World) (hI : law.Ints w.heap.size w sv ts) (hm : ts.length ≤ 10000000000000) :
    Calls Try.prog 13 #[.agg #[.int .i64 n, sv]] w (TwR n ts w) := by
  rcases hI with ⟨⟨a, cap, rfl, h⟩, rfl⟩ | ⟨b, off, cap, rfl, hb, hc⟩
  · cases a with
    | none => obtain rfl := h rfl; exact twin_none n w
    | some a =>
      exact twin_some n a 0 cap [] w (fun W _ j v h => by simp at h) rfl (by omega)
  · exact twin_some n ⟨b, off, none⟩ _ cap ts w (fun W hW => copied (Row.below hc hW hb)) rfl hm
theorem ints_own {w : World} {base : Nat} {v : Value} {ts : List Int} (h : w.ownsRow base 29 1 v ts.length (ts.map (Value.int .i64))) : law.Ints w.heap.size w v ts := by
  rcases Go.Joins.ownsRow_forms h with ⟨rfl, h0⟩ | ⟨g, cap, rfl⟩
  · obtain rfl : ts = [] := List.eq_nil_of_length_eq_zero h0
    exact .inl ⟨⟨_, _, rfl, fun _ => rfl⟩, rfl⟩
  · refine .inr ⟨g, 0, cap, rfl, (h.lt g rfl).2, fun j hj => ?_⟩
    rw [Nat.zero_add, h.cellAt j (by omega), List.getElem?_map, List.getElem?_eq_getElem hj]
    rfl
end Go.Proofs.Ytlagnbbbokgdfaa.dref
