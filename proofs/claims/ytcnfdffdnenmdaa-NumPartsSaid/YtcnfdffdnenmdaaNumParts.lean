/-
  The law NumParts answers true for every slice of ints and every int, and leaves them as they are; no conditions.
-/
import Derived.Test.YtcnfdffdnenmdaaNumSumRef
import Derived.Maps.AppendAt
import Derived.OwnWalk
import Derived.Laws.AppendOwnNone
namespace Go.Proofs.Ytcnfdffdnenmdaa.numParts
open Go.ChangeShapes Go.WideShapes Go.ChangeAt Go.RowKit law num
set_option linter.unusedVariables false

theorem SS_snoc (zs : List Int) (x : Int) : ∀ k, k ≤ zs.length → SS (zs ++ [x]) k = SS zs k := by
  intro k
  induction k with
  | zero => intro _; rfl
  | succ k ih =>
    intro hk
    unfold SS
    rw [ih (by omega), List.getElem?_append_left (by omega)]
theorem EE_snoc (zs : List Int) (x : Int) (k : Nat) (hk : k < zs.length) : EE (zs ++ [x]) k = EE zs k := by
  unfold EE
  rw [SS_snoc zs x k (by omega), List.getElem?_append_left hk]
theorem EE_last (zs : List Int) (x : Int) : EE (zs ++ [x]) zs.length = addE (SS zs zs.length) x := by
  unfold EE
  rw [SS_snoc zs x _ (Nat.le_refl _)]
  simp
theorem SS_last (zs : List Int) (x : Int) : SS (zs ++ [x]) (zs.length + 1) = addV (SS zs zs.length) x := by
  rw [SS, SS_snoc zs x _ (Nat.le_refl _)]
  simp
theorem addV_no {a b : Int} (h : addE a b ≠ 0) : addV a b = 0 := by
  unfold addE at h
  unfold addV
  by_cases c : May a ∧ May b ∧ May (a + b)
  · rw [if_pos c] at h; exact absurd rfl h
  · rw [if_neg c]
theorem good_of_E {zs : List Int} (h : sumE zs = 0) : num.Good zs := by
  unfold sumE at h
  by_cases c : num.Good zs
  · exact c
  · rw [if_neg c] at h; exact absurd h (by decide)
theorem bad_of_E {zs : List Int} (h : sumE zs ≠ 0) : ¬ num.Good zs := fun c => by
  unfold sumE at h
  rw [if_pos c] at h
  exact h rfl
theorem sumE_two (zs : List Int) : sumE zs = 0 ∨ sumE zs = 10 := by unfold sumE; split <;> simp
theorem parts_bad (zs : List Int) (x : Int) (h : sumE zs = 10) : sumV (zs ++ [x]) = 0 ∧ sumE (zs ++ [x]) = 10 := by
  have hb : ¬ num.Good (zs ++ [x]) := fun g => bad_of_E (zs := zs) (by rw [h]; decide) fun j hj => by
    rw [← EE_snoc zs x j hj]; exact g j (by simp; omega)
  unfold sumV sumE
  rw [if_neg hb, if_neg hb]
  exact ⟨rfl, rfl⟩
theorem parts_ok (zs : List Int) (x : Int) (h : sumE zs = 0) : sumV (zs ++ [x]) = addV (sumV zs) x ∧ sumE (zs ++ [x]) = addE (sumV zs) x := by
  have hg := good_of_E h
  have hv : sumV zs = SS zs zs.length := by unfold sumV; rw [if_pos hg]
  rw [hv]
  by_cases c : addE (SS zs zs.length) x = 0
  · have hg' : num.Good (zs ++ [x]) := fun j hj => by
      simp at hj
      by_cases e : j < zs.length
      · rw [EE_snoc zs x j e]; exact hg j e
      · obtain rfl : j = zs.length := by omega
        rw [EE_last]; exact c
    unfold sumV sumE
    rw [if_pos hg', if_pos hg', c]
    refine ⟨?_, rfl⟩
    rw [show (zs ++ [x]).length = zs.length + 1 by simp, SS_last]
  · have hb : ¬ num.Good (zs ++ [x]) := fun g => c (by rw [← EE_last]; exact g _ (by simp))
    have c10 : addE (SS zs zs.length) x = 10 := (addE_two _ _).elim (fun h => (c h).elim) id
    unfold sumV sumE
    rw [if_neg hb, if_neg hb, addV_no c, c10]
    exact ⟨rfl, rfl⟩

theorem infoInt : (Try.prog.info? 3).map (fun i => (i.zero, i.size, i.bytes)) = some (some (.int .i64 0), 1, 8) := by kernel_rfl
theorem own_empty (w : World) (E : TypeId) : (w.alloc (.cells #[] E)).ownsRow w.heap.size E 1 (.slice (some ⟨w.heap.size, 0, none⟩) 0 0) 0 [] :=
  ⟨rfl, .inr ⟨w.heap.size, 0, #[], rfl, Nat.le_refl _, World.alloc_heap_new w _, Nat.le_refl _, Nat.zero_le _, rfl, rfl⟩⟩
theorem ints_own {w : World} {base E g cap n : Nat} {zs : List Int} (hn : zs.length = n) (h : w.ownsRow base E 1 (.slice (some ⟨g, 0, none⟩) n cap) n (zs.map (Value.int .i64))) : Ints w.heap.size w (.slice (some ⟨g, 0, none⟩) n cap) zs := by
  subst hn
  by_cases h0 : zs = []
  · subst h0; exact .inl ⟨⟨_, _, rfl, fun h => by cases h⟩, rfl⟩
  · have hc := h.cells (g := g) rfl
    have hcell : ∀ j, j < zs.length → w.cell? ⟨g, 0 + j, none⟩ = some (.int .i64 (zs[j]?.getD 0)) := fun j hj => by
      rw [← add_plain]
      exact hc j _ (by simp [hj])
    exact .inr ⟨g, 0, cap, rfl, cell_lt (hcell 0 (List.length_pos_iff.2 h0)), hcell⟩

theorem ints_own2 {w : World} {base E g cap len : Nat} {zs : List Int} {x : Int} (hn : zs.length = len) (h : w.ownsRow base E 1 (.slice (some ⟨g, 0, none⟩) (len + 1) cap) (len + 1) (zs.map (Value.int .i64) ++ [.int .i64 x])) : Ints w.heap.size w (.slice (some ⟨g, 0, none⟩) (len + 1) cap) (zs ++ [x]) :=
  ints_own (zs := zs ++ [x]) (by simp [hn]) (by rw [List.map_append]; exact h)
theorem own_ge {w : World} {base E size n : Nat} {v : Value} {xs : List Value} (h : w.ownsRow base E size v n xs) : ∀ k, v.ownBlock = some k → base ≤ k := by
  intro k hk
  rcases h.2 with ⟨rfl, _⟩ | ⟨g, cap, cur, rfl, hb, _⟩
  · cases hk
  · cases hk; exact hb
theorem grew {w w1 w2 w3 : World} {E : TypeId} {v1 : Value} {n : Nat} {xs : List Value} {x : Value} {row : Option Nat} (hB : Below w.heap.size w w1) (hrow : row = some w1.heap.size) (g1 : (w1.alloc (.cells #[] E)).grownBy w2 row) (h1 : w2.ownsRow w1.heap.size E 1 v1 n xs) (g2 : (w2.alloc (.cells #[x] E)).grownBy w3 v1.ownBlock) : Below w.heap.size w w3 := by
  have s0 := hB.size
  have b1 := hB.alloc s0 (.cells #[] E)
  have b2 := b1.grown g1 (by simp; omega) (fun k e => by rw [hrow] at e; cases e; exact s0)
  have b3 := b2.alloc b2.size (.cells #[x] E)
  exact b3.grown g2 (by simp; have := b2.size; omega) (fun k e => by have := own_ge h1 k e; omega)
theorem one_ints (zs : List Int) : ∀ u ∈ zs.map (Value.int .i64), u.oneCell' = true := by
  intro u hu
  obtain ⟨z, _, rfl⟩ := List.mem_map.1 hu
  rfl

set_option maxHeartbeats 4000000 in
theorem walk_nil (x : Int) (w : World) :
    Calls Try.prog 7 #[.slice none 0 0, .int .i64 x] w fun e w' => e = .returned (.bool true) ∧ Below w.heap.size w w' := by
  obtain ⟨i0, hi, hz0, hz1, hz2⟩ := info_parts infoInt
  have h1 : ∀ w1 : World, Calls Try.prog 9 #[.slice none 0 0] w1 fun e W' => e = .returned (.tuple #[.int .i64 0, .int .i64 0]) ∧ Below w1.heap.size w1 W' := fun w1 =>
    num.sum_any none 0 0 [] (by simp) w1 (.inl ⟨⟨_, _, rfl, fun _ => rfl⟩, rfl⟩)
  have h2 : ∀ (w1 : World) (A : Option Addr) (n c : Nat), Ints w1.heap.size w1 (.slice A n c) ([] ++ [x]) → Calls Try.prog 9 #[.slice A n c] w1 fun e W' => e = .returned (.tuple #[.int .i64 (addV 0 x), .int .i64 (addE 0 x)]) ∧ Below w1.heap.size w1 W' := fun w1 A n c h => by
    have := num.sum_any _ _ _ ([] ++ [x]) (by simp) w1 h
    rw [(parts_ok [] x (by decide)).1, (parts_ok [] x (by decide)).2] at this
    exact this
  have H1 := Lib.hid h1
  have H2 := Lib.hid h2
  have q5 := Lib.hid (show 0 + 1 ≤ maxLen by unfold maxLen; omega)
  clear h1 h2
  go_enter Try.func7, Try.ntmps7
  go_wp2_with (first | (go_at_call 11; refine (num.alive_yes _).mono ?_; rintro e w' ⟨rfl, rfl⟩) | (go_at_call 9; refine (H1.out _).mono ?_; rintro e w1 ⟨rfl, hB⟩; clear H1) | (at_builtin; refine wpList_append_own_none rfl (.tmp 27) (.tmp 28) 34 rfl w1.heap.size 3 i0 1 Try.underlying34 hi _ _ _ rfl (own_empty w1 3) rfl ?_) | (at_builtin; refine wpList_append_own _ rfl (.tmp 29) (.tmp 31) 34 rfl w1.heap.size 3 i0 (.int .i64 0) 1 8 Try.underlying34 hi hz0 hz1 hz2 rfl (by decide) _ _ _ rfl ((own_empty w1 3).alloc _) ⟨w1.heap.size + 1, 0, none⟩ 1 1 [.int .i64 x] rfl rfl (fun j u h => by rw [← World.size_alloc w1 (.cells #[] 3)]; exact cell_one_new _ _ _ j u h) (one_ints [x]) q5.out (by decide) (by simp; omega) ?_; intro v2 w3 hown2 hgrow2 _; obtain ⟨g, c2, rfl⟩ := ownsRow_succ hown2; have hB3 := grew hB rfl (World.grownBy.refl _ _) (own_empty w1 3) hgrow2; have hI3 := Lib.hid (ints_own2 (zs := []) rfl hown2); clear hown2 hgrow2) | (go_at_call 9; refine (H2.out _ _ _ _ hI3.out).mono ?_; rintro e w4 ⟨rfl, hB4⟩; clear H2) | (go_at_call 13; refine (num.add_any _ _ _).mono ?_; rintro e w5 ⟨rfl, rfl⟩))
  go_ret
  exact ⟨rfl, hB3.trans (hB4.mono hB3.size)⟩

set_option maxHeartbeats 4000000 in
theorem walk (a : Option Addr) (len cap : Nat) (zs : List Int) (x : Int) (hl : zs.length = len) (hm : len ≤ maxLen) (w : World) (hI : Ints w.heap.size w (.slice a len cap) zs) :
    Calls Try.prog 7 #[.slice a len cap, .int .i64 x] w fun e w' => e = .returned (.bool true) ∧ Below w.heap.size w w' := by
  unfold maxLen at hm
  by_cases h : 10000 < len
  · clear hl hI
    go_enter Try.func7, Try.ntmps7
    go_wp2_with (go_at_call 11; refine (num.alive_yes _).mono ?_; rintro e w' ⟨rfl, rfl⟩)
    go_ret
    exact ⟨rfl, Below.refl _ _⟩
  · have hr : zs.length * 8 ≤ 140737488351232 := by omega
    have hr2 : (zs ++ [x]).length * 8 ≤ 140737488351232 := by simp; omega
    obtain ⟨i0, hi, hz0, hz1, hz2⟩ := info_parts infoInt
    have HI := Lib.hid hI
    have HL := Lib.hid hl
    have q1 := Lib.hid (show (zs.map (Value.int .i64)).length = len * 1 by simp [hl])
    have q3 := Lib.hid (show 0 + len ≤ maxLen by unfold maxLen; omega)
    have q4 := Lib.hid (show (0 + len) * 8 ≤ 140737488355328 by omega)
    have q5 := Lib.hid (show len + 1 ≤ maxLen by unfold maxLen; omega)
    have q6 := Lib.hid (show (len + 1) * 8 ≤ 140737488355328 by omega)
    clear hI hl
    rcases a with _ | ad
    · rcases HI.out with ⟨⟨a', cap', e, hc⟩, h0⟩ | ⟨b, off, cap', e, _⟩
      · simp only [Value.slice.injEq] at e
        obtain ⟨e1, e2, e3⟩ := e
        subst e1; subst e2; subst e3
        obtain rfl := hc rfl
        exact walk_nil x w
      · simp at e
    · have hnews : RowKit.Hid (∀ w1 : World, Below w.heap.size w w1 → ∀ j u, (zs.map (Value.int .i64))[j]? = some u → (w1.alloc (.cells #[] 3)).cell? (ad.add j) = some u) := Lib.hid (fun w1 hB j u hu => by
        rcases HI.out with ⟨_, h0⟩ | ⟨b, off, cap', e, hb, hcs⟩
        · subst h0; simp at hu
        · simp only [Value.slice.injEq] at e
          obtain ⟨e1, _, _⟩ := e
          cases e1
          have hj : j < zs.length := by
            refine Decidable.byContradiction fun hn => ?_
            rw [List.getElem?_eq_none (by simp; omega)] at hu
            cases hu
          have hu' : u = .int .i64 (zs[j]?.getD 0) := by simp [hj] at hu; simp [hj, hu]
          have := hB.size
          rw [add_plain, World.cell?_alloc_lt w1 _ ⟨b, off + j, none⟩ (by show b < _; omega), (hB.cell (p := ⟨b, off + j, none⟩) hb), hcs j hj, hu'])
      rcases sumE_two zs with hE | hE
      · have h1 : ∀ w1 : World, Ints w1.heap.size w1 (.slice (some ad) len cap) zs → Calls Try.prog 9 #[.slice (some ad) len cap] w1 fun e W' => e = .returned (.tuple #[.int .i64 (sumV zs), .int .i64 0]) ∧ Below w1.heap.size w1 W' := fun w1 h => by
          have := num.sum_any _ _ _ zs hr w1 h
          rw [hE] at this
          exact this
        have h2 : ∀ (w1 : World) (A : Option Addr) (n c : Nat), Ints w1.heap.size w1 (.slice A n c) (zs ++ [x]) → Calls Try.prog 9 #[.slice A n c] w1 fun e W' => e = .returned (.tuple #[.int .i64 (addV (sumV zs) x), .int .i64 (addE (sumV zs) x)]) ∧ Below w1.heap.size w1 W' := fun w1 A n c h => by
          have := num.sum_any _ _ _ (zs ++ [x]) hr2 w1 h
          rw [(parts_ok zs x hE).1, (parts_ok zs x hE).2] at this
          exact this
        have H1 := Lib.hid h1
        have H2 := Lib.hid h2
        clear h1 h2 hE
        go_enter Try.func7, Try.ntmps7
        go_wp2_with (first | (go_at_call 11; refine (num.alive_yes _).mono ?_; rintro e w' ⟨rfl, rfl⟩) | (go_at_call 9; refine (H1.out _ HI.out).mono ?_; rintro e w1 ⟨rfl, hB⟩; clear H1) | (at_builtin; refine wpList_append_own _ rfl (.tmp 27) (.tmp 28) 34 rfl w1.heap.size 3 i0 (.int .i64 0) 1 8 Try.underlying34 hi hz0 hz1 hz2 rfl (by decide) _ _ _ rfl (own_empty w1 3) ad len cap (zs.map (Value.int .i64)) rfl q1.out (hnews.out w1 hB) (one_ints zs) q3.out q4.out (by simp) ?_; intro v1 w2 hown1 hgrow1 _; simp only [Nat.zero_add, List.nil_append] at hown1) | (at_builtin; refine wpList_append_own _ rfl (.tmp 29) (.tmp 31) 34 rfl w1.heap.size 3 i0 (.int .i64 0) 1 8 Try.underlying34 hi hz0 hz1 hz2 rfl (by decide) _ _ _ rfl (hown1.alloc _) ⟨w2.heap.size, 0, none⟩ 1 1 [.int .i64 x] rfl rfl (cell_one_new _ _ _) (one_ints [x]) q5.out q6.out (Nat.le_trans (by simp) (Nat.le_trans hgrow1.size (by simp))) ?_; intro v2 w3 hown2 hgrow2 _; obtain ⟨g, c2, rfl⟩ := ownsRow_succ hown2; have hB3 := grew hB rfl hgrow1 hown1 hgrow2; have hI3 := Lib.hid (ints_own2 HL.out hown2); clear hown1 hown2 hgrow1 hgrow2) | (go_at_call 9; refine (H2.out _ _ _ _ hI3.out).mono ?_; rintro e w4 ⟨rfl, hB4⟩; clear H2) | (go_at_call 13; refine (num.add_any _ _ _).mono ?_; rintro e w5 ⟨rfl, rfl⟩))
        go_ret
        exact ⟨rfl, hB3.trans (hB4.mono hB3.size)⟩
      · have h1 : ∀ w1 : World, Ints w1.heap.size w1 (.slice (some ad) len cap) zs → Calls Try.prog 9 #[.slice (some ad) len cap] w1 fun e W' => e = .returned (.tuple #[.int .i64 (sumV zs), .int .i64 10]) ∧ Below w1.heap.size w1 W' := fun w1 h => by
          have := num.sum_any _ _ _ zs hr w1 h
          rw [hE] at this
          exact this
        have h2 : ∀ (w1 : World) (A : Option Addr) (n c : Nat), Ints w1.heap.size w1 (.slice A n c) (zs ++ [x]) → Calls Try.prog 9 #[.slice A n c] w1 fun e W' => e = .returned (.tuple #[.int .i64 0, .int .i64 10]) ∧ Below w1.heap.size w1 W' := fun w1 A n c h => by
          have := num.sum_any _ _ _ (zs ++ [x]) hr2 w1 h
          rw [(parts_bad zs x hE).1, (parts_bad zs x hE).2] at this
          exact this
        have H1 := Lib.hid h1
        have H2 := Lib.hid h2
        clear h1 h2 hE
        go_enter Try.func7, Try.ntmps7
        go_wp2_with (first | (go_at_call 11; refine (num.alive_yes _).mono ?_; rintro e w' ⟨rfl, rfl⟩) | (go_at_call 9; refine (H1.out _ HI.out).mono ?_; rintro e w1 ⟨rfl, hB⟩; clear H1) | (at_builtin; refine wpList_append_own _ rfl (.tmp 27) (.tmp 28) 34 rfl w1.heap.size 3 i0 (.int .i64 0) 1 8 Try.underlying34 hi hz0 hz1 hz2 rfl (by decide) _ _ _ rfl (own_empty w1 3) ad len cap (zs.map (Value.int .i64)) rfl q1.out (hnews.out w1 hB) (one_ints zs) q3.out q4.out (by simp) ?_; intro v1 w2 hown1 hgrow1 _; simp only [Nat.zero_add, List.nil_append] at hown1) | (at_builtin; refine wpList_append_own _ rfl (.tmp 29) (.tmp 31) 34 rfl w1.heap.size 3 i0 (.int .i64 0) 1 8 Try.underlying34 hi hz0 hz1 hz2 rfl (by decide) _ _ _ rfl (hown1.alloc _) ⟨w2.heap.size, 0, none⟩ 1 1 [.int .i64 x] rfl rfl (cell_one_new _ _ _) (one_ints [x]) q5.out q6.out (Nat.le_trans (by simp) (Nat.le_trans hgrow1.size (by simp))) ?_; intro v2 w3 hown2 hgrow2 _; obtain ⟨g, c2, rfl⟩ := ownsRow_succ hown2; have hB3 := grew hB rfl hgrow1 hown1 hgrow2; have hI3 := Lib.hid (ints_own2 HL.out hown2); clear hown1 hown2 hgrow1 hgrow2) | (go_at_call 9; refine (H2.out _ _ _ _ hI3.out).mono ?_; rintro e w4 ⟨rfl, hB4⟩; clear H2))
        go_ret
        exact ⟨rfl, hB3.trans (hB4.mono hB3.size)⟩

set_option maxRecDepth 100000 in
theorem lifted (os : Os) (started : os.Started) (H : Type) (enc : TypeId × Value → H) :
    ReturnsInHanded {} Try.checked os 7 .any (Rows.numPartsSpec.pre6 enc Try.prog Try.f7 Rows.numPartsRow.domain false) (Rows.numPartsSpec.post enc Try.prog Try.f7 false true false false) := by
  refine returnsInHanded_of_change (C := Try.checked) law.own started (by kernel_rfl) Try.func7
    (ChangeSpec.witness6 (enc := enc) (C := Try.checked) false ⟨#[], #[.slice none 0 0, .int .i64 0], []⟩ 8 (by kernel_rfl) (by kernel_rfl) (by kernel_rfl) (by kernel_rfl)) ?_
  intro W base args ds gs before hval0 hW _ _
  have hval : ∀ (j : Nat) t v, Try.f7.params[j]? = some t → args[j]? = some v → Value.okWide Try.prog W .any base t v := hval0
  have hW' := hW
  obtain ⟨p, q, hA0, hV, rfl, _, _⟩ := hW
  have hA : DataW.TrodAll enc Try.prog W 0 (fun _ => true) true Try.f7.params.toList args.toList ds p := hA0
  rw [Try.params7] at hA hval
  obtain ⟨v0, v1, d0, d1, p0, p1, rfl, rfl, rfl, h0, h1⟩ := trodAll_two hA
  obtain ⟨a, len, cap, zs, rfl, hl, hm, _, hI⟩ := slice_ints Try.underlying34 Try.underlying3 (by kernel_rfl) (hval 0 34 v0 rfl rfl) h0
  obtain ⟨x, rfl, rfl, rfl, _⟩ := open_int Try.underlying3 (hval 1 3 v1 rfl rfl) h1
  refine (walk a len cap zs x hl hm W hI).mono fun e W' ⟨he, hB⟩ => ?_
  subst he
  exact ⟨_, rfl, law.post_true law.laidOut (by kernel_rfl) rfl Try.underlying4 rfl hW' (fun h => by subst h; rfl) hB⟩

theorem proved : Rows.NumPartsSaid :=
  OpenClaim.holds_of_wide 7 Try.f7 rfl rfl rfl rfl rfl rfl rfl ⟨rfl, rfl, rfl, rfl, rfl⟩ rfl rfl rfl rfl rfl (by kernel_rfl) Try.func7 (by kernel_rfl)
    (of_decide_eq_true (by kernel_rfl)) (by unfold Func.isWrapper; first | (rw [if_pos (by decide +kernel)]; kernel_rfl) | (rw [if_neg (by decide +kernel)]; exact ⟨rfl, rfl⟩))
    (fun os started H enc _ => lifted os started H enc)
#print axioms proved
end Go.Proofs.Ytcnfdffdnenmdaa.numParts
