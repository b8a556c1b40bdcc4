
/-
  What slices.SortFunc makes of a row of zones by zone.Cmp: the same zones, in their order; the conditions are each theorem's own.
-/
import Derived.Test.YthljhijcmdnonaaGreatDoorCoverC
import Derived.Test.YthljhijcmdnonaaGreatDoorSorts
import Derived.Lib.OwnBridge
namespace Go.Proofs.YthljhijcmdnonaaGreatDoor.cover
open Go.Joins Go.ChangeShapes Go.WideShapes Go.ChangeAt Go.RowKit num rat dbm Go.Proofs.YthljhijcmdnonaaGreatDoor.tight Go.Proofs.YthljhijcmdnonaaGreatDoor.incl Go.Proofs.YthljhijcmdnonaaGreatDoor.plaw Go.Proofs.YthljhijcmdnonaaGreatDoor.zopen Go.Proofs.YthljhijcmdnonaaGreatDoor.zone Go.Proofs.YthljhijcmdnonaaGreatDoor.win Go.Proofs.YthljhijcmdnonaaGreatDoor.minus Go.Proofs.YthljhijcmdnonaaGreatDoor.mz Go.Sort
open bound hiding up
set_option linter.unusedVariables false
set_option linter.unusedSimpArgs false
set_option linter.unusedSectionVars false

/-- draws alone. -/
def Drw (w W : World) : Prop := ∃ q, W = w.drewN q
theorem Drw.start (w : World) : Drw w w.drew := ⟨1, rfl⟩
theorem Drw.below {w W : World} (h : Drw w W) : Below w.heap.size w W := by
  obtain ⟨q, rfl⟩ := h
  exact ⟨rfl, rfl, rfl, Nat.le_refl _, fun _ _ => rfl⟩
set_option maxRecDepth 100000 in
set_option maxHeartbeats 2000000 in
theorem cmp_grow (a0 a1 a2 a3 a4 a5 b0 b1 b2 b3 b4 b5 : Int) (w : World) :
    Calls Tryz.prog 10 #[.agg #[.int .i64 a0, .int .i64 a1, .int .i64 a2, .int .i64 a3, .int .i64 a4, .int .i64 a5], .agg #[.int .i64 b0, .int .i64 b1, .int .i64 b2, .int .i64 b3, .int .i64 b4, .int .i64 b5]] w fun e w' => e = .returned (.int .i64 (cmpL [a0, a1, a2, a3, a4, a5] [b0, b1, b2, b3, b4, b5])) ∧ ∃ q os, w' = grow (w.drewN q) os := by
  have D0 := lies.on_alloc (lies.made w 24 #[.int .i64 a0, .int .i64 a1, .int .i64 a2, .int .i64 a3, .int .i64 a4, .int .i64 a5]) (.cells #[.int .i64 b0, .int .i64 b1, .int .i64 b2, .int .i64 b3, .int .i64 b4, .int .i64 b5] 24)
  have D1 := lies.made_at (w.alloc (.cells #[.int .i64 a0, .int .i64 a1, .int .i64 a2, .int .i64 a3, .int .i64 a4, .int .i64 a5] 24)) 24 #[.int .i64 b0, .int .i64 b1, .int .i64 b2, .int .i64 b3, .int .i64 b4, .int .i64 b5] (w.heap.size + 1) (by simp)
  have HG : ∀ W, Drw ((w.alloc (.cells #[.int .i64 a0, .int .i64 a1, .int .i64 a2, .int .i64 a3, .int .i64 a4, .int .i64 a5] 24)).alloc (.cells #[.int .i64 b0, .int .i64 b1, .int .i64 b2, .int .i64 b3, .int .i64 b4, .int .i64 b5] 24)) W → ∃ q os, W = grow (w.drewN q) os := by
    rintro W ⟨q, rfl⟩
    exact ⟨q, _, by rw [alloc_eq_grow, alloc_eq_grow, grow_grow]; rfl⟩
  go_enter Tryz.func10, Tryz.ntmps10
  go_wp2_with fail
  generalize (w.alloc (.cells #[.int .i64 a0, .int .i64 a1, .int .i64 a2, .int .i64 a3, .int .i64 a4, .int .i64 a5] 24)).alloc (.cells #[.int .i64 b0, .int .i64 b1, .int .i64 b2, .int .i64 b3, .int .i64 b4, .int .i64 b5] 24) = w0 at HG D0 D1 ⊢
  refine wp_region_held_drew (S := Drw w0) (by kernel_rfl) (Drw.start w0) (fun hHeld => ?_)
  refine wpAnyH_take (i := 0) (v := ?_) rfl (by kernel_rfl) (by kernel_rfl) (by kernel_rfl) (fun _ _ _ h => h) (Or.inl ⟨by rfl, ?_⟩) hHeld ?_
  rotate_left
  · intro w hSw; skip; go_simp; try with_reducible rfl
  try simp only [Act.put, List.getElem_toArray, List.getElem_cons_zero, List.getElem_cons_succ, List.setIfInBounds_toArray, List.set_cons_zero, List.set_cons_succ]
  refine wpAnyH_take (i := 1) (v := ?_) rfl (by kernel_rfl) (by kernel_rfl) (by kernel_rfl) (fun _ _ _ h => h) (Or.inl ⟨by rfl, ?_⟩) hHeld ?_
  rotate_left
  · intro w hSw; skip; go_simp; try with_reducible rfl
  try simp only [Act.put, List.getElem_toArray, List.getElem_cons_zero, List.getElem_cons_succ, List.setIfInBounds_toArray, List.set_cons_zero, List.set_cons_succ]
  refine wpAnyH_ready (rs := [2]) (by kernel_rfl) (by simp) (AllReadyH.cons rfl (fun K hK => ?_) AllReadyH.nil)
  go_simp
  refine (compare_is w.heap.size (w.heap.size + 1) [a0, a1, a2, a3, a4, a5] [b0, b1, b2, b3, b4, b5] _ (row_six (lies.on_call D0 hHeld.below)) (row_six (lies.on_call D1 hHeld.below)) (Nat.lt_of_lt_of_le (lies.lt D0) hHeld.below.size) (Nat.lt_of_lt_of_le (lies.lt D1) hHeld.below.size) rfl rfl).mono ?_
  rintro e w' ⟨rfl, rfl⟩
  refine hK.out _ _ hHeld (fun hNew => ?_)
  clear hHeld hK K
  have hHeld := hNew
  clear hNew
  try simp only [Act.put, List.getElem_toArray, List.getElem_cons_zero, List.getElem_cons_succ, List.setIfInBounds_toArray, List.set_cons_zero, List.set_cons_succ]
  refine wpAnyH_take (i := 3) (v := ?_) rfl (by kernel_rfl) (by kernel_rfl) (by kernel_rfl) (fun _ _ _ h => h) (Or.inl ⟨by rfl, ?_⟩) hHeld ?_
  rotate_left
  · intro w hSw; skip; go_simp; try with_reducible rfl
  try simp only [Act.put, List.getElem_toArray, List.getElem_cons_zero, List.getElem_cons_succ, List.setIfInBounds_toArray, List.set_cons_zero, List.set_cons_succ]
  refine wpAnyH_done (by kernel_rfl) ?_ _
  have KZ := HG _ hHeld
  clear hHeld D0 D1 HG
  go_wp2_with fail
  go_ret
  exact ⟨rfl, KZ⟩

/-! zones as the contract wants them: a type of their own -/
abbrev Z6 := {z : List Int // z.length = 6}
instance : Inhabited Z6 := ⟨⟨[0, 0, 0, 0, 0, 0], rfl⟩⟩
def encZ (z : Z6) : List Value := zcs z.1
def cfZ (x y : Z6) : Int := cmpL x.1 y.1
theorem encZ_len (z : Z6) : (encZ z).length = 6 := rfl
theorem encZ_one (z : Z6) : ∀ v ∈ encZ z, v.oneCell' = true := fun v hv => flatZ_each [z.1] v (by rw [flatZ_one]; exact hv)
theorem cfZ_lays (blk off size : Nat) (w : World) : CmpLays Tryz.prog 10 #[] encZ 6 cfZ blk off size w := by
  intro m os dk hs x y
  obtain ⟨x, hx⟩ := x
  obtain ⟨y, hy⟩ := y
  obtain ⟨a0, a1, a2, a3, a4, a5, rfl⟩ := six hx
  obtain ⟨b0, b1, b2, b3, b4, b5, rfl⟩ := six hy
  exact cmp_grow a0 a1 a2 a3 a4 a5 b0 b1 b2 b3 b4 b5 _
theorem ltZ {x y : Z6} : ltOf cfZ x y = true ↔ cmpL x.1 y.1 < 0 := decide_eq_true_iff
theorem ltZ' {x y : Z6} : ltOf cfZ x y = false ↔ cmpL y.1 x.1 ≤ 0 := by
  have := cmp_back x.1 y.1
  rw [show ltOf cfZ x y = decide (cmpL x.1 y.1 < 0) from rfl, decide_eq_false_iff_not]
  omega
theorem swoZ : SWO (ltOf cfZ) := {
  irrefl := fun x => ltZ'.2 (by rw [cmp_self]; exact Int.le_refl _)
  trans := fun x y z h k => ltZ.2 (cmp_lt_trans (ltZ.1 h) (ltZ.1 k))
  ntrans := fun x y z h k => ltZ'.2 (cmp_trans _ _ _ (ltZ'.1 k) (ltZ'.1 h)) }
theorem oneZ (x y : Z6) (h : ltOf cfZ x y = false) (k : ltOf cfZ y x = false) : x = y := by
  have h := ltZ'.1 h
  have k := ltZ'.1 k
  have := cmp_back x.1 y.1
  exact Subtype.ext ((cmp_zero _ _).1 (by omega))
theorem z6_of : ∀ {zs : List (List Int)}, (∀ z, z ∈ zs → z.length = 6) → ∃ d : List Z6, d.map (·.1) = zs
  | [], _ => ⟨[], rfl⟩
  | z :: zs, h => by
    obtain ⟨d, hd⟩ := z6_of (zs := zs) fun x hx => h x (List.mem_cons_of_mem _ hx)
    exact ⟨⟨z, h z List.mem_cons_self⟩ :: d, by rw [List.map_cons, hd]⟩
theorem flat_eq (d : List Z6) : (flatK encZ 6 d.toArray).toList = flatZ (d.map (·.1)) := by
  refine List.ext_getElem? fun t => ?_
  by_cases h : t < d.length * 6
  · have hs : t < (flatK encZ 6 d.toArray).size := by rw [size_flatK, List.size_toArray]; exact h
    have e := flatZ_at (d.map (·.1)) (t / 6) (t % 6) (by rw [List.length_map]; omega) (Nat.mod_lt _ (by decide))
    rw [show t / 6 * 6 + t % 6 = t by omega] at e
    have g := get_flatK encZ 6 d.toArray t (by rw [List.size_toArray]; exact h)
    have hq : t / 6 < d.length := by omega
    have hd : d.toArray[t / 6]! = d[t / 6] := by rw [getElem!_pos d.toArray (t / 6) (by rw [List.size_toArray]; exact hq)]; rfl
    rw [e, Array.getElem?_toList, Array.getElem?_eq_getElem hs]
    rw [getElem!_pos (flatK encZ 6 d.toArray) t hs, hd] at g
    rw [g]
    have z := zcs_at d[t / 6].1 (j := t % 6) (Nat.mod_lt _ (by decide))
    rw [List.getElem!_eq_getElem?_getD, show encZ d[t / 6] = zcs d[t / 6].1 from rfl, z]
    unfold zat
    rw [List.getElem?_map, List.getElem?_eq_getElem hq]
    rfl
  · rw [List.getElem?_eq_none (by rw [Array.length_toList, size_flatK, List.size_toArray]; omega), List.getElem?_eq_none (by rw [flatZ_length, List.length_map]; omega)]
theorem own_putF {w : World} {base : Nat} {e : TypeId} {size g n cap q : Nat} {xs : List Value} {F : Array Value} (h : w.ownsRow base e size (.slice (some ⟨g, 0, none⟩) n cap) n xs) (hF : F.size = n * size) :
    (putRow id (Sort.ahead w q) g 0 F).ownsRow base e size (.slice (some ⟨g, 0, none⟩) n cap) n F.toList := by
  rcases h.2 with ⟨e0, _⟩ | ⟨g', cap', cur, e0, hb, hg, hn, hm, hs, ht⟩
  · cases e0
  · injection e0 with e1 _ e3
    injection e1 with e1
    injection e1 with e1
    subst e1; subst e3
    refine ⟨by simpa using hF, .inr ⟨g, cap, putCells id 0 F cur, rfl, hb, ?_, hn, hm, by simpa [putCells] using hs, ?_⟩⟩
    · simp [putRow, mapBlock, Sort.ahead, Array.getElem?_modify, hg, onCells]
    · apply List.ext_getElem?
      intro j
      rw [List.getElem?_take, Array.getElem?_toList, Array.getElem?_toList]
      by_cases hj : j < n * size
      · have hjc : j < cur.size := by rw [hs]; exact Nat.lt_of_lt_of_le hj (Nat.mul_le_mul_right _ hn)
        simp only [if_pos hj, putCells, Array.getElem?_mapIdx, Array.getElem?_eq_getElem hjc, Option.map_some]
        rw [if_pos (by omega), Array.getElem?_eq_getElem (by omega)]
        simp [getElem!_pos, show j < F.size by omega]
      · rw [if_neg hj, Array.getElem?_eq_none (by omega)]
theorem own_holds {w : World} {base : Nat} {e : TypeId} {g n cap : Nat} (d : List Z6) (h : w.ownsRow base e 6 (.slice (some ⟨g, 0, none⟩) n cap) n (flatZ (d.map (·.1)))) : HoldsK encZ 6 w g 0 d.toArray := by
  have hl := h.1
  rcases h.2 with ⟨e0, _⟩ | ⟨g', cap', cur, e0, hb, hg, hn, hm, hs, ht⟩
  · cases e0
  · injection e0 with e1 _ e3
    injection e1 with e1
    injection e1 with e1
    subst e1; subst e3
    intro j hj
    have hj6 : j < n * 6 := by rw [size_flatK, List.size_toArray] at hj; rw [flatZ_length, List.length_map] at hl; omega
    refine ⟨?_, by simp [World.frozen?, hg]⟩
    have e1 : (cur.toList.take (n * 6))[j]? = (flatK encZ 6 d.toArray).toList[j]? := by rw [ht, flat_eq]
    rw [List.getElem?_take, if_pos hj6, Array.getElem?_toList, Array.getElem?_toList, Array.getElem?_eq_getElem hj] at e1
    simp only [World.cell?, hg, Nat.zero_add, Option.isSome_none, Bool.false_eq_true, if_false]
    rw [e1, getElem!_pos _ j hj]
    rfl
theorem grow_below (w : World) (os : Array Obj) : Below w.heap.size w (grow w os) :=
  ⟨rfl, rfl, rfl, by show _ ≤ (w.heap ++ os).size; rw [Array.size_append]; omega, fun k hk => by show (w.heap ++ os)[k]? = _; rw [Array.getElem?_append_left hk]⟩
set_option maxHeartbeats 2000000 in
/-- slices.SortFunc of a row of one's own by zone.Cmp. -/
theorem sort_zones (base g n cap : Nat) (zs : List (List Int)) (w : World) (hO : w.ownsRow base 24 6 (.slice (some ⟨g, 0, none⟩) n cap) n (flatZ zs)) (h6 : ∀ z, z ∈ zs → z.length = 6) (hm : n ≤ 1000000) :
    Calls Tryz.prog 23 #[.slice (some ⟨g, 0, none⟩) n cap, .func (.func 10) #[] #[]] w fun e w' => e = .returned (.tuple #[]) ∧ Below base w w' ∧ ∃ ys : List (List Int), ys.Perm zs ∧ (ys.Pairwise fun x y => cmpL x y ≤ 0) ∧ w'.ownsRow base 24 6 (.slice (some ⟨g, 0, none⟩) n cap) n (flatZ ys) := by
  obtain ⟨d, rfl⟩ := z6_of h6
  have hn : d.length = n := by have := hO.1; rw [flatZ_length, List.length_map] at this; omega
  have hg := hO.lt g rfl
  have eg : ∀ args w, (callFunc 10 args).run Tryz.prog w = .ok (.enter 10 args) w := enters_of Tryz.func10 (by kernel_rfl) rfl
  have c := AnyQ.slices_SortFunc_total Tryz.sortZ 6 Tryz.isAgg24 Tryz.sizeOf24 encZ encZ_len encZ_one cfZ swoZ 10 #[] g 0 cap d.toArray w eg (cfZ_lays g 0 _ w) (own_holds d hO) hg.2 (by rw [List.size_toArray]; omega) oneZ
  rw [List.size_toArray, hn] at c
  refine Calls.mono c ?_
  rintro e w' ⟨rfl, q, os, rfl⟩
  have P := List.mergeSort_perm d fun x y => !(ltOf cfZ) y x
  have S := List.pairwise_mergeSort (le := fun x y => !(ltOf cfZ) y x) (fun a b c h k => by
    simp only [Bool.not_eq_true'] at h k ⊢
    exact swoZ.ntrans _ _ _ k h) (fun a b => by
    by_cases h : ltOf cfZ b a = true
    · simp [swoZ.asymmA h]
    · simp [h]) d
  have hl : (d.mergeSort fun x y => !(ltOf cfZ) y x).length = n := by rw [P.length_eq, hn]
  generalize d.mergeSort (fun x y => !(ltOf cfZ) y x) = ys at P S hl
  have O := own_putF (q := q) (F := flatK encZ 6 ys.toArray) hO (by rw [size_flatK, List.size_toArray, hl])
  rw [flat_eq] at O
  have B := Lib.below_putRow (enc := id) (q := q) (d := flatK encZ 6 ys.toArray) (Below.refl base w) hg.1
  have G := grow_below (putRow id (Sort.ahead w q) g 0 (flatK encZ 6 ys.toArray)) os
  refine ⟨rfl, B.trans (G.mono (Nat.le_trans hg.1 (Nat.le_of_lt (Nat.lt_of_lt_of_le hg.2 (B.size))))), ys.map (·.1), P.map _, ?_, incl.own_call O G⟩
  refine List.Pairwise.map _ (R := fun x y => (!(ltOf cfZ) y x) = true) (fun x y h => ?_) S
  rw [Bool.not_eq_true'] at h
  exact ltZ'.1 h
/-- .. of none. -/
theorem sort_none (p : Option Addr) (cap : Nat) (fv : Value) (w : World) : Calls Tryz.prog 23 #[.slice p 0 cap, fv] w fun e w' => e = .returned (.tuple #[]) ∧ w' = w :=
  AnyF.slices_SortFunc_none Tryz.sortZ p cap fv w
end Go.Proofs.YthljhijcmdnonaaGreatDoor.cover
