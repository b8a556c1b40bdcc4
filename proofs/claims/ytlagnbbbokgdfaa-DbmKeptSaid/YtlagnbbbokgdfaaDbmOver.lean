/-
  What a matrix under way comes to over one clock; the conditions: at most 4 clocks, as many bounds as their square, each at most none, in memory of the call's own.
-/
import Derived.Test.YtlagnbbbokgdfaaDbmRound
import Derived.Test.YtlagnbbbokgdfaaBoundAny
namespace Go.Proofs.Ytlagnbbbokgdfaa.dbm
open Go.RowKit Go.Shelf num
open bound hiding up
attribute [local go_sem] Oper.semAt_some
set_option linter.unusedVariables false
set_option linter.unusedSimpArgs false

/-- the cells of a list of bounds. -/
def cellsOf (ts : List Int) : Array Value := (ts.map (Value.int .i64)).toArray
theorem cells_at (ts : List Int) (p : Nat) (h : p < ts.length) : (cellsOf ts)[p]? = some (.int .i64 (ts[p]?.getD 0)) := by
  simp [cellsOf, h]
theorem cells_set (ts : List Int) (p : Nat) (v : Int) : (cellsOf ts).setIfInBounds p (.int .i64 v) = cellsOf (ts.set p v) := by
  simp [cellsOf, List.map_set]
/-- the table behind one pair. -/
def ovp (n k : Nat) (ts : List Int) (x : Nat × Nat) : List Int := ts.set (x.1 * n + x.2) (lsr (tat ts n x.1 x.2) (sumV (tat ts n x.1 k) (tat ts n k x.2)))
def ovl (n k : Nat) (ts : List Int) (pre : List (Cl n)) : List Int := pre.foldl (fun t x => ovp n k t x.1) ts
theorem ovl_snoc (n k : Nat) (ts : List Int) (pre : List (Cl n)) (x : Cl n) : ovl n k ts (pre ++ [x]) = ovp n k (ovl n k ts pre) x.1 := by simp [ovl]
theorem ovp_length (n k : Nat) (ts : List Int) (x : Nat × Nat) : (ovp n k ts x).length = ts.length := by simp [ovp]
theorem ovl_length (n k : Nat) (ts : List Int) (pre : List (Cl n)) : (ovl n k ts pre).length = ts.length := by
  unfold ovl
  induction pre generalizing ts with
  | nil => rfl
  | cons x pre ih => rw [List.foldl_cons, ih, ovp_length]
/-- each is at most none. -/
def Tops (ts : List Int) : Prop := ∀ x ∈ ts, x ≤ 9223372036854775807
theorem sum_top (a b : Int) : sumV a b ≤ 9223372036854775807 := by
  by_cases h : sumE a b = 0
  · exact sum_le h
  · rw [sum_err h]; decide
theorem lsr_le (x b : Int) : lsr x b ≤ x ∧ lsr x b ≤ b := by unfold lsr; split <;> omega
theorem tat_top {ts : List Int} (h : Tops ts) (n i j : Nat) : tat ts n i j ≤ 9223372036854775807 := by
  unfold tat
  by_cases k : i * n + j < ts.length
  · rw [List.getElem?_eq_getElem k]; exact h _ (List.getElem_mem k)
  · rw [List.getElem?_eq_none (by omega)]; decide
theorem tops_ovp {ts : List Int} (h : Tops ts) (n k : Nat) (x : Nat × Nat) : Tops (ovp n k ts x) := fun y hy => by
  rcases List.mem_or_eq_of_mem_set hy with hy | rfl
  · exact h y hy
  · exact Int.le_trans (lsr_le _ _).1 (tat_top h n _ _)
theorem tops_ovl {ts : List Int} (h : Tops ts) (n k : Nat) (pre : List (Cl n)) : Tops (ovl n k ts pre) := by
  unfold ovl
  induction pre generalizing ts with
  | nil => exact h
  | cons x pre ih => exact ih (tops_ovp h n k x.1)

/-- behind a call that turns block g alone. -/
def Turned (g : Nat) (ts : List Int) (w : World) (e : Ending) (w' : World) : Prop := e = .returned (.tuple #[]) ∧ lies.Lies w' g 29 (cellsOf ts) ∧ w.grownBy w' (some g)

/-- what a round reads, and where it lies. -/
def Sov (n k i j g B cap : Nat) (us : List Int) (W : World) : Prop :=
  W.cell? ⟨B, 0, none⟩ = some (.int .i64 n) ∧ W.cell? ⟨B, 1, none⟩ = some (.slice (some ⟨g, 0, none⟩) (n * n) cap) ∧ W.cell? ⟨B + 1, 0, none⟩ = some (.int .i64 k) ∧ W.cell? ⟨g, i * n + k, none⟩ = some (.int .i64 (tat us n i k)) ∧ W.cell? ⟨g, k * n + j, none⟩ = some (.int .i64 (tat us n k j)) ∧ B + 1 + 1 + 1 ≤ W.heap.size
theorem Sov.below {n k i j g B cap : Nat} {us : List Int} {W X : World} (hgB : g < B) (h : Sov n k i j g B cap us W) (hB : Below W.heap.size W X) : Sov n k i j g B cap us X := by
  obtain ⟨s0, s1, s2, s3, s4, s5⟩ := h
  exact ⟨(hB.cell (p := ⟨B, 0, none⟩) (by show B < _; omega)).trans s0, (hB.cell (p := ⟨B, 1, none⟩) (by show B < _; omega)).trans s1, (hB.cell (p := ⟨B + 1, 0, none⟩) (by show B + 1 < _; omega)).trans s2, (hB.cell (p := ⟨g, i * n + k, none⟩) (by show g < _; omega)).trans s3, (hB.cell (p := ⟨g, k * n + j, none⟩) (by show g < _; omega)).trans s4, Nat.le_trans s5 hB.size⟩

theorem lower_nat (n i j g cap : Nat) (x b : Int) (w : World) (hn : n ≤ 4) (hi : i < n) (hj : j < n) (hg : g < w.heap.size) (hc : w.cell? ⟨g, i * n + j, none⟩ = some (.int .i64 x)) (hf : w.frozen? ⟨g, i * n + j, none⟩ = false) :
    Calls Try.prog 28 #[.agg #[.int .i64 n, .slice (some ⟨g, 0, none⟩) (n * n) cap], .int .i64 i, .int .i64 j, .int .i64 b] w (Put g (i * n + j) (.int .i64 (lsr x b)) w) := by
  have h1 := place_le hn hi hj
  have h2 := sq_le hn
  have e1 : ((i * n : Nat) : Int) = (i : Int) * n := Int.natCast_mul i n
  have e2 : ((i * n + j : Nat) : Int) = (i : Int) * n + j := by rw [Int.natCast_add, e1]
  refine lower_is n i j (i * n) (i * n + j) x b g (n * n) cap (i * n + j) w (wrap_small (by omega) (by omega)) (wrap_small (by omega) (by omega)) (by omega) ?_ (by omega) hg hc hf
  rw [← e2]
  exact Int.ofNat_lt.2 h1
theorem at_below (n i j b off cap : Nat) (w : World) (hn : n ≤ 4) (hi : i < n) (hj : j < n) :
    Calls Try.prog 27 #[.agg #[.int .i64 n, .slice (some ⟨b, off, none⟩) (n * n) cap], .int .i64 i, .int .i64 j] w fun e w' => e = .returned (.pointer (some ⟨b, off + (i * n + j), none⟩)) ∧ Below w.heap.size w w' :=
  (at_nat n i j b off cap w hn hi hj).mono fun e w' ⟨he, hw⟩ => ⟨he, by subst hw; exact dbm.up (Below.refl _ _) (Nat.le_refl _) _⟩

set_option maxRecDepth 100000 in
set_option maxHeartbeats 2000000 in
theorem over_any (n k g cap : Nat) (ts : List Int) (w : World) (hn0 : 0 < n) (hn : n ≤ 4) (hk : k < n) (hl : ts.length = n * n) (htop : Tops ts) (hg : lies.Lies w g 29 (cellsOf ts)) :
    Calls Try.prog 30 #[.agg #[.int .i64 n, .slice (some ⟨g, 0, none⟩) (n * n) cap], .int .i64 k] w (Turned g (ovl n k ts (upto (nth n hn0) (n * n))) w) := by
  have HL := Lib.hid hl
  have HT := Lib.hid htop
  clear hl htop
  have hgw := lies.lt hg
  refine callsIn_wide (n := 4).1 ?_
  refine callsIn_of_wp_marks Try.func30 rfl trivial ?_ rfl
  simp only [Try.ntmps30, List.size_toArray, List.length_cons, List.length_nil, Nat.reduceAdd, Nat.reduceSub, Array.replicate_succ, Array.replicate_zero, List.push_toArray, List.append_toArray, List.nil_append, List.cons_append]
  gi_wp2
  refine ⟨trivial, (pairs_in Fence.wide 3 trivial rfl _ _ _ rfl rfl).mono ?_⟩
  rintro e w' ⟨rfl, rfl⟩
  gi_wp2
  have d0 : lies.Lies (((w.alloc (.cells #[.int .i64 n, .slice (some ⟨g, 0, none⟩) (n * n) cap] 54)).alloc (.cells #[.int .i64 k] 3)).alloc (.cells #[.int .i64 n, .slice (some ⟨g, 0, none⟩) (n * n) cap] 54)) w.heap.size 54 #[.int .i64 n, .slice (some ⟨g, 0, none⟩) (n * n) cap] := lies.on_alloc (lies.on_alloc (lies.made w _ _) _) _
  have d1 : lies.Lies (((w.alloc (.cells #[.int .i64 n, .slice (some ⟨g, 0, none⟩) (n * n) cap] 54)).alloc (.cells #[.int .i64 k] 3)).alloc (.cells #[.int .i64 n, .slice (some ⟨g, 0, none⟩) (n * n) cap] 54)) (w.heap.size + 1) 3 #[.int .i64 k] := lies.on_alloc (lies.made_at _ _ _ _ (World.size_alloc _ _)) _
  have d2 : lies.Lies (((w.alloc (.cells #[.int .i64 n, .slice (some ⟨g, 0, none⟩) (n * n) cap] 54)).alloc (.cells #[.int .i64 k] 3)).alloc (.cells #[.int .i64 n, .slice (some ⟨g, 0, none⟩) (n * n) cap] 54)) (w.heap.size + 1 + 1) 54 #[.int .i64 n, .slice (some ⟨g, 0, none⟩) (n * n) cap] := lies.made_at _ _ _ _ (by simp)
  have d3 : lies.Lies (((w.alloc (.cells #[.int .i64 n, .slice (some ⟨g, 0, none⟩) (n * n) cap] 54)).alloc (.cells #[.int .i64 k] 3)).alloc (.cells #[.int .i64 n, .slice (some ⟨g, 0, none⟩) (n * n) cap] 54)) g 29 (cellsOf ts) := lies.on_alloc (lies.on_alloc (lies.on_alloc hg _) _) _
  have d4 : w.grownBy (((w.alloc (.cells #[.int .i64 n, .slice (some ⟨g, 0, none⟩) (n * n) cap] 54)).alloc (.cells #[.int .i64 k] 3)).alloc (.cells #[.int .i64 n, .slice (some ⟨g, 0, none⟩) (n * n) cap] 54)) (some g) := grown_below (grown_refl w _) (((Below.refl w.heap.size w).alloc (Nat.le_refl _) _).alloc (by simp) _ |>.alloc (by simp; omega) _) (Nat.le_refl _)
  have d5 : w.heap.size + 1 + 1 < ((((w.alloc (.cells #[.int .i64 n, .slice (some ⟨g, 0, none⟩) (n * n) cap] 54)).alloc (.cells #[.int .i64 k] 3)).alloc (.cells #[.int .i64 n, .slice (some ⟨g, 0, none⟩) (n * n) cap] 54))).heap.size := by simp
  refine wpIn_rangeFunc_ownG (F := Fence.wide) (n := 4) rfl (by omega) (gf := 45) (lb := #[.pointer (some ⟨w.heap.size + 1 + 1, 0, none⟩)]) rfl trivial (enters_of Try.func45 (by kernel_rfl) rfl)
    (pairs_stops Fence.wide (4 - 1) trivial rfl (by omega) (w.heap.size + 1 + 1) n g 0 cap hn0 hn _ d2) KB.trans (KB.put d5) (Below.refl _ _) (fun _ => by rfl)
    (fun pre W => lies.Lies W g 29 (cellsOf (ovl n k ts pre)) ∧ lies.Lies W w.heap.size 54 #[.int .i64 n, .slice (some ⟨g, 0, none⟩) (n * n) cap] ∧ lies.Lies W (w.heap.size + 1) 3 #[.int .i64 k] ∧ w.grownBy W (some g) ∧ w.heap.size + 1 + 1 + 1 ≤ W.heap.size)
    (fun _ _ _ => False)
    (OwnFrom.and (own_lies _ _ _ _) (OwnFrom.and (own_lies _ _ _ (fun _ => _)) (OwnFrom.and (own_lies _ _ _ (fun _ => _)) (OwnFrom.and (own_grown _ (by simp; omega)) (own_size _ _)))))
    (fun _ _ _ _ _ hs _ _ => hs)
    ⟨d3, d0, d1, d4, d5⟩
    (fun x => { tmps := #[.agg #[.int .i64 n, .slice (some ⟨g, 0, none⟩) (n * n) cap], .int .i64 k, .pointer (some ⟨w.heap.size, 0, none⟩), .pointer (some ⟨w.heap.size + 1, 0, none⟩), .int .i64 (x.1.1 : Int), .int .i64 (x.1.2 : Int), undef, undef, .agg #[.int .i64 n, .slice (some ⟨g, 0, none⟩) (n * n) cap], .func (.func 45) #[] #[.pointer (some ⟨w.heap.size + 1 + 1, 0, none⟩)], .int .i64 (x.1.1 : Int), .int .i64 (x.1.2 : Int), undef, undef, undef, undef, undef, undef, undef, undef, undef, undef, undef, undef, undef, undef, undef, undef, undef, undef, undef, undef, undef], defers := [] }) ?assign ?body ?done ?stop
  case assign =>
    intro l x W K hK
    gi_wp2
    exact hK
  case body =>
    rintro l pre x W ⟨hT, hM, hKk, hG, hz⟩ _
    obtain ⟨⟨i, j⟩, hi, hj⟩ := x
    dsimp only at hi hj
    obtain ⟨us, hus⟩ : ∃ us, us = ovl n k ts pre := ⟨_, rfl⟩
    rw [← hus] at hT
    have hlen : us.length = n * n := by rw [hus, ovl_length]; exact HL.out
    have p1 := place_le hn hi hk
    have p2 := place_le hn hk hj
    have p3 := place_le hn hi hj
    have x1 : tat us n i k ≤ 9223372036854775807 := hus ▸ tat_top (tops_ovl HT.out n k pre) n i k
    have x2 : tat us n k j ≤ 9223372036854775807 := hus ▸ tat_top (tops_ovl HT.out n k pre) n k j
    have HS := Lib.hid hus
    have HN := Lib.hid hlen
    have P1 := Lib.hid p1
    have P2 := Lib.hid p2
    have P3 := Lib.hid p3
    have S0 : Sov n k i j g w.heap.size cap us W.drew := ⟨(lies.two hM).1, (lies.two hM).2.1, lies.cell hKk 0, (lies.cell hT (i * n + k)).trans (cells_at us _ (by rw [hlen]; exact p1)), (lies.cell hT (k * n + j)).trans (cells_at us _ (by rw [hlen]; exact p2)), hz⟩
    clear hus hlen p1 p2 p3
    gi_wp2
    have hB : Below W.heap.size W W.drew := dbm.drawn1 (Below.refl _ _)
    refine region_round (Sov n k i j g w.heap.size cap us) l _ (by kernel_rfl) (by kernel_rfl) (fun ⟨_, _, h⟩ => h) S0 (fun hHeld => ?_)
    refine wpAnyH_take (i := 0) (v := ?_) rfl (by kernel_rfl) (by kernel_rfl) (by kernel_rfl) (fun _ _ _ h => h) (Or.inl ⟨by rfl, ?_⟩) hHeld ?_
    rotate_left
    · intro w hSw; obtain ⟨s0, s1, s2, s3, s4, s5⟩ := hSw; go_simp; try with_reducible rfl
    try simp only [Act.put, List.getElem_toArray, List.getElem_cons_zero, List.getElem_cons_succ, List.setIfInBounds_toArray, List.set_cons_zero, List.set_cons_succ]
    refine wpAnyH_take (i := 1) (v := ?_) rfl (by kernel_rfl) (by kernel_rfl) (by kernel_rfl) (fun _ _ _ h => h) (Or.inl ⟨by rfl, ?_⟩) hHeld ?_
    rotate_left
    · intro w hSw; obtain ⟨s0, s1, s2, s3, s4, s5⟩ := hSw; go_simp; try with_reducible rfl
    try simp only [Act.put, List.getElem_toArray, List.getElem_cons_zero, List.getElem_cons_succ, List.setIfInBounds_toArray, List.set_cons_zero, List.set_cons_succ]
    refine wpAnyH_take (i := 2) (v := ?_) rfl (by kernel_rfl) (by kernel_rfl) (by kernel_rfl) (fun _ _ _ h => h) (Or.inl ⟨by rfl, ?_⟩) hHeld ?_
    rotate_left
    · intro w hSw; obtain ⟨s0, s1, s2, s3, s4, s5⟩ := hSw; go_simp; try with_reducible rfl
    try simp only [Act.put, List.getElem_toArray, List.getElem_cons_zero, List.getElem_cons_succ, List.setIfInBounds_toArray, List.set_cons_zero, List.set_cons_succ]
    refine wpAnyH_take (i := 6) (v := ?_) rfl (by kernel_rfl) (by kernel_rfl) (by kernel_rfl) (fun _ _ _ h => h) (Or.inl ⟨by rfl, ?_⟩) hHeld ?_
    rotate_left
    · intro w hSw; obtain ⟨s0, s1, s2, s3, s4, s5⟩ := hSw; go_simp; try with_reducible rfl
    try simp only [Act.put, List.getElem_toArray, List.getElem_cons_zero, List.getElem_cons_succ, List.setIfInBounds_toArray, List.set_cons_zero, List.set_cons_succ]
    refine wpAnyH_take (i := 7) (v := ?_) rfl (by kernel_rfl) (by kernel_rfl) (by kernel_rfl) (fun _ _ _ h => h) (Or.inl ⟨by rfl, ?_⟩) hHeld ?_
    rotate_left
    · intro w hSw; obtain ⟨s0, s1, s2, s3, s4, s5⟩ := hSw; go_simp; try with_reducible rfl
    try simp only [Act.put, List.getElem_toArray, List.getElem_cons_zero, List.getElem_cons_succ, List.setIfInBounds_toArray, List.set_cons_zero, List.set_cons_succ]
    refine wpAnyH_take (i := 8) (v := ?_) rfl (by kernel_rfl) (by kernel_rfl) (by kernel_rfl) (fun _ _ _ h => h) (Or.inl ⟨by rfl, ?_⟩) hHeld ?_
    rotate_left
    · intro w hSw; obtain ⟨s0, s1, s2, s3, s4, s5⟩ := hSw; go_simp; try with_reducible rfl
    try simp only [Act.put, List.getElem_toArray, List.getElem_cons_zero, List.getElem_cons_succ, List.setIfInBounds_toArray, List.set_cons_zero, List.set_cons_succ]
    refine wpAnyH_ready (rs := [3]) (by kernel_rfl) (by simp) (AllReadyH.cons rfl (fun K hK => ?_) AllReadyH.nil)
    go_simp
    refine (at_below n i k g 0 cap _ hn hi hk).mono ?_
    rintro e W4 ⟨rfl, hW4⟩
    refine hK.out _ _ (Sov.below hgw hHeld hW4) (fun hNew => ?_)
    clear hHeld hK K
    have hHeld := hNew
    clear hNew
    replace hB := hB.trans (hW4.mono hB.size)
    clear hW4
    try simp only [Act.put, List.getElem_toArray, List.getElem_cons_zero, List.getElem_cons_succ, List.setIfInBounds_toArray, List.set_cons_zero, List.set_cons_succ]
    refine wpAnyH_take (i := 4) (v := ?_) rfl (by kernel_rfl) (by kernel_rfl) (by kernel_rfl) (fun _ _ _ h => h) (Or.inl ⟨by rfl, ?_⟩) hHeld ?_
    rotate_left
    · intro w hSw; obtain ⟨s0, s1, s2, s3, s4, s5⟩ := hSw; go_simp; try with_reducible rfl
    try simp only [Act.put, List.getElem_toArray, List.getElem_cons_zero, List.getElem_cons_succ, List.setIfInBounds_toArray, List.set_cons_zero, List.set_cons_succ]
    refine wpAnyH_take (i := 5) (v := ?_) rfl (by kernel_rfl) (by kernel_rfl) (by kernel_rfl) (fun _ _ _ h => h) (Or.inl ⟨by rfl, ?_⟩) hHeld ?_
    rotate_left
    · intro w hSw; obtain ⟨s0, s1, s2, s3, s4, s5⟩ := hSw; go_simp; try with_reducible rfl
    try simp only [Act.put, List.getElem_toArray, List.getElem_cons_zero, List.getElem_cons_succ, List.setIfInBounds_toArray, List.set_cons_zero, List.set_cons_succ]
    refine wpAnyH_ready (rs := [9]) (by kernel_rfl) (by simp) (AllReadyH.cons rfl (fun K hK => ?_) AllReadyH.nil)
    go_simp
    refine (at_below n k j g 0 cap _ hn hk hj).mono ?_
    rintro e W5 ⟨rfl, hW4⟩
    refine hK.out _ _ (Sov.below hgw hHeld hW4) (fun hNew => ?_)
    clear hHeld hK K
    have hHeld := hNew
    clear hNew
    replace hB := hB.trans (hW4.mono hB.size)
    clear hW4
    try simp only [Act.put, List.getElem_toArray, List.getElem_cons_zero, List.getElem_cons_succ, List.setIfInBounds_toArray, List.set_cons_zero, List.set_cons_succ]
    refine wpAnyH_take (i := 10) (v := ?_) rfl (by kernel_rfl) (by kernel_rfl) (by kernel_rfl) (fun _ _ _ h => h) (Or.inl ⟨by rfl, ?_⟩) hHeld ?_
    rotate_left
    · intro w hSw; obtain ⟨s0, s1, s2, s3, s4, s5⟩ := hSw; go_simp; try with_reducible rfl
    try simp only [Act.put, List.getElem_toArray, List.getElem_cons_zero, List.getElem_cons_succ, List.setIfInBounds_toArray, List.set_cons_zero, List.set_cons_succ]
    refine wpAnyH_take (i := 11) (v := ?_) rfl (by kernel_rfl) (by kernel_rfl) (by kernel_rfl) (fun _ _ _ h => h) (Or.inl ⟨by rfl, ?_⟩) hHeld ?_
    rotate_left
    · intro w hSw; obtain ⟨s0, s1, s2, s3, s4, s5⟩ := hSw; go_simp; try with_reducible rfl
    try simp only [Act.put, List.getElem_toArray, List.getElem_cons_zero, List.getElem_cons_succ, List.setIfInBounds_toArray, List.set_cons_zero, List.set_cons_succ]
    refine wpAnyH_ready (rs := [12]) (by kernel_rfl) (by simp) (AllReadyH.cons rfl (fun K hK => ?_) AllReadyH.nil)
    go_simp
    refine (add2_any (tat us n i k) (tat us n k j) _ x1 x2).mono ?_
    rintro e W6 ⟨rfl, hW4⟩
    refine hK.out _ _ (Sov.below hgw hHeld hW4) (fun hNew => ?_)
    clear hHeld hK K
    have hHeld := hNew
    clear hNew
    replace hB := hB.trans (hW4.mono hB.size)
    clear hW4
    try simp only [Act.put, List.getElem_toArray, List.getElem_cons_zero, List.getElem_cons_succ, List.setIfInBounds_toArray, List.set_cons_zero, List.set_cons_succ]
    refine wpAnyH_take (i := 13) (v := ?_) rfl (by kernel_rfl) (by kernel_rfl) (by kernel_rfl) (fun _ _ _ h => h) (Or.inl ⟨by rfl, ?_⟩) hHeld ?_
    rotate_left
    · intro w hSw; obtain ⟨s0, s1, s2, s3, s4, s5⟩ := hSw; go_simp; try with_reducible rfl
    try simp only [Act.put, List.getElem_toArray, List.getElem_cons_zero, List.getElem_cons_succ, List.setIfInBounds_toArray, List.set_cons_zero, List.set_cons_succ]
    refine wpAnyH_take (i := 14) (v := ?_) rfl (by kernel_rfl) (by kernel_rfl) (by kernel_rfl) (fun _ _ _ h => h) (Or.inl ⟨by rfl, ?_⟩) hHeld ?_
    rotate_left
    · intro w hSw; obtain ⟨s0, s1, s2, s3, s4, s5⟩ := hSw; go_simp; try with_reducible rfl
    try simp only [Act.put, List.getElem_toArray, List.getElem_cons_zero, List.getElem_cons_succ, List.setIfInBounds_toArray, List.set_cons_zero, List.set_cons_succ]
    refine wpAnyH_take (i := 15) (v := ?_) rfl (by kernel_rfl) (by kernel_rfl) (by kernel_rfl) (fun _ _ _ h => h) (Or.inl ⟨by rfl, ?_⟩) hHeld ?_
    rotate_left
    · intro w hSw; obtain ⟨s0, s1, s2, s3, s4, s5⟩ := hSw; go_simp; try with_reducible rfl
    try simp only [Act.put, List.getElem_toArray, List.getElem_cons_zero, List.getElem_cons_succ, List.setIfInBounds_toArray, List.set_cons_zero, List.set_cons_succ]
    refine wpAnyH_take (i := 16) (v := ?_) rfl (by kernel_rfl) (by kernel_rfl) (by kernel_rfl) (fun _ _ _ h => h) (Or.inl ⟨by rfl, ?_⟩) hHeld ?_
    rotate_left
    · intro w hSw; obtain ⟨s0, s1, s2, s3, s4, s5⟩ := hSw; go_simp; try with_reducible rfl
    try simp only [Act.put, List.getElem_toArray, List.getElem_cons_zero, List.getElem_cons_succ, List.setIfInBounds_toArray, List.set_cons_zero, List.set_cons_succ]
    refine wpAnyH_take (i := 17) (v := ?_) rfl (by kernel_rfl) (by kernel_rfl) (by kernel_rfl) (fun _ _ _ h => h) (Or.inl ⟨by rfl, ?_⟩) hHeld ?_
    rotate_left
    · intro w hSw; obtain ⟨s0, s1, s2, s3, s4, s5⟩ := hSw; go_simp; try with_reducible rfl
    try simp only [Act.put, List.getElem_toArray, List.getElem_cons_zero, List.getElem_cons_succ, List.setIfInBounds_toArray, List.set_cons_zero, List.set_cons_succ]
    refine wpAnyH_done (by kernel_rfl) ?_ _
    have hT6 := lies.on_call hT hB
    have hM6 := lies.on_call hM hB
    have hK6 := lies.on_call hKk hB
    have hg6 : g < W6.heap.size := lies.lt hT6
    have hc6 : W6.cell? ⟨g, i * n + j, none⟩ = some (.int .i64 (tat us n i j)) := (lies.cell hT6 (i * n + j)).trans (cells_at us _ (by rw [HN.out]; exact P3.out))
    have hf6 : W6.frozen? ⟨g, i * n + j, none⟩ = false := lies.free hT6 _
    obtain ⟨c0, c1, c2, c3, c4⟩ := lies.two hM6
    clear S0 hHeld
    have HC := Lib.hid hc6
    clear hc6
    generalize hs : sumV (tat us n i k) (tat us n k j) = s
    generalize sumE (tat us n i k) (tat us n k j) = s'
    have HV := Lib.hid hs
    clear hs
    gi_wp2
    refine ⟨trivial, CallsIn.inRound l (callsIn_wide.2 ((lower_nat n i j g cap (tat us n i j) s W6 hn hi hj hg6 HC.out hf6).mono ?_))⟩
    rintro e W7 ⟨rfl, hP⟩
    have q1 := grown_below (grown_set (grown_below (grown_refl W (some g)) hB (Nat.le_refl _)) (i * n + j) (.int .i64 (lsr (tat us n i j) s))) hP hB.size
    have q2 : w.grownBy W7 (some g) := grown_below (grown_set (grown_below hG hB hG.size) (i * n + j) (.int .i64 (lsr (tat us n i j) s))) hP (Nat.le_trans hG.size hB.size)
    have q3 := lies.on_call (lies.on_put hT6 (i * n + j) (.int .i64 (lsr (tat us n i j) s))) (hP.mono (by simp))
    rw [cells_set] at q3
    have q4 := lies.on_call (lies.on_far hM6 (i * n + j) (Nat.ne_of_gt hgw) (.int .i64 (lsr (tat us n i j) s))) (hP.mono (by simp))
    have q5 := lies.on_call (lies.on_far hK6 (i * n + j) (by omega) (.int .i64 (lsr (tat us n i j) s))) (hP.mono (by simp))
    have q6 := q1.size
    have Q := Lib.hid (And.intro q1 (And.intro q2 (And.intro q3 (And.intro q4 q5))))
    clear q1 q2 q3 q4 q5 c0 c1 c2 c3 c4
    gi_wp2
    obtain ⟨q1, q2, q3, q4, q5⟩ := Q.out
    refine ⟨KeepsFrom.of_grownBy q1 (fun r e => by cases e; simp; omega), q1.block _ (by omega) (fun e => by cases e; omega), ?_, q4, q5, q2, by omega⟩
    rw [ovl_snoc, ← HS.out]
    unfold ovp
    rw [HV.out]
    exact q3
  case done =>
    rintro D ys W hD rfl ⟨hT, hM, hKk, hG, hz⟩ hK
    gi_wp2
    have hDw : w.heap.size ≤ D := by simp at hD; omega
    refine ⟨by simp, .inl ⟨_, _, rfl, run_takeDeferred hK, ?_⟩⟩
    refine ⟨_, results_none rfl _ _ _, rfl, ?_, ?_⟩
    · exact Eq.trans (World.putObj_heap_other (by omega)) hT
    · exact own_grown (β := Unit) (B := w.heap.size) (some g) (Nat.le_refl _) () W _ (some D) hG (grownBy_putObj' W D _) (fun r e => by cases e; exact ⟨hDw, _, hK, rfl⟩)
  case stop =>
    rintro D c pre W hD _ h _
    exact h.elim
end Go.Proofs.Ytlagnbbbokgdfaa.dbm
