/-
  A matrix laid out of another one's places, as package proj does it: the closures, laid, orders, Drop, Grow and Move; each theorem names its conditions.
-/
import Derived.Test.YtikjkmhnimpbhaaProjA
namespace Go.Proofs.Ytikjkmhnimpbhaa.proj
open Go.Joins Go.ChangeShapes Go.WideShapes Go.ChangeAt Go.RowKit num rat dbm Go.Proofs.Ytikjkmhnimpbhaa.tight
open bound hiding up
set_option linter.unusedVariables false
set_option linter.unusedSimpArgs false

/-- laid out as far as a place. -/
def mixT (n m : Nat) (wh : Nat → Nat) (ts : List Int) (p : Nat) : List Int := (List.range (m * m)).map fun q => if q < p ∧ wh (q / m) < n ∧ wh (q % m) < n then tat ts n (wh (q / m)) (wh (q % m)) else if q / m = q % m then 1 else 9223372036854775807
theorem mixT_length (n m : Nat) (wh : Nat → Nat) (ts : List Int) (p : Nat) : (mixT n m wh ts p).length = m * m := by simp [mixT]
theorem mixT_at (n m : Nat) (wh : Nat → Nat) (ts : List Int) (p : Nat) {q : Nat} (h : q < m * m) : (mixT n m wh ts p)[q]?.getD 0 = if q < p ∧ wh (q / m) < n ∧ wh (q % m) < n then tat ts n (wh (q / m)) (wh (q % m)) else if q / m = q % m then 1 else 9223372036854775807 := by
  simp [mixT, h]
theorem mixT_all (n m : Nat) (wh : Nat → Nat) (ts : List Int) : mixT n m wh ts (m * m) = laidT n m wh ts := by
  refine list_at ((mixT_length _ _ _ _ _).trans (laidT_length _ _ _ _).symm) fun q hq => ?_
  rw [mixT_length] at hq
  rw [mixT_at _ _ _ _ _ hq, laidT_get _ _ _ _ hq]
  by_cases h : wh (q / m) < n ∧ wh (q % m) < n
  · rw [if_pos ⟨hq, h⟩, if_pos h]
  · rw [if_neg (fun k => h k.2), if_neg h]
theorem mixT_zero {n m : Nat} (h0 : 0 < m) (hm : m ≤ 4) (wh : Nat → Nat) (ts : List Int) : topT m h0 = mixT n m wh ts 0 := by
  have e : mixT n m wh ts 0 = (List.range (m * m)).map fun q => if q / m = q % m then 1 else 9223372036854775807 := by
    unfold mixT
    refine List.map_congr_left fun q _ => ?_
    rw [if_neg (fun k => by omega)]
  rw [e]
  have : m = 1 ∨ m = 2 ∨ m = 3 ∨ m = 4 := by omega
  have e1 : topT 1 (by decide) = (List.range (1 * 1)).map fun q => if q / 1 = q % 1 then 1 else 9223372036854775807 := by decide +kernel
  have e2 : topT 2 (by decide) = (List.range (2 * 2)).map fun q => if q / 2 = q % 2 then 1 else 9223372036854775807 := by decide +kernel
  have e3 : topT 3 (by decide) = (List.range (3 * 3)).map fun q => if q / 3 = q % 3 then 1 else 9223372036854775807 := by decide +kernel
  have e4 : topT 4 (by decide) = (List.range (4 * 4)).map fun q => if q / 4 = q % 4 then 1 else 9223372036854775807 := by decide +kernel
  rcases this with rfl | rfl | rfl | rfl
  · exact e1
  · exact e2
  · exact e3
  · exact e4
theorem mixT_yes {n m : Nat} {wh : Nat → Nat} {ts : List Int} {p : Nat} (hp : p < m * m) (h1 : wh (p / m) < n) (h2 : wh (p % m) < n) : mixT n m wh ts (p + 1) = (mixT n m wh ts p).set p (tat ts n (wh (p / m)) (wh (p % m))) := by
  refine list_at (by rw [List.length_set, mixT_length, mixT_length]) fun q hq => ?_
  rw [mixT_length] at hq
  rw [List.getElem?_set, mixT_at _ _ _ _ _ hq]
  by_cases e : p = q
  · subst e
    rw [if_pos rfl, if_pos (show p < (mixT n m wh ts p).length by rw [mixT_length]; exact hp), if_pos (show p < p + 1 ∧ wh (p / m) < n ∧ wh (p % m) < n from ⟨by omega, h1, h2⟩)]; rfl
  · have c : (q < p + 1) = (q < p) := propext ⟨fun h => by omega, fun h => by omega⟩
    rw [if_neg e, mixT_at _ _ _ _ _ hq]
    simp only [c]
theorem mixT_no {n m : Nat} {wh : Nat → Nat} {ts : List Int} {p : Nat} (hno : ¬ (wh (p / m) < n ∧ wh (p % m) < n)) : mixT n m wh ts (p + 1) = mixT n m wh ts p := by
  refine list_at (by rw [mixT_length, mixT_length]) fun q hq => ?_
  rw [mixT_length] at hq
  rw [mixT_at _ _ _ _ _ hq, mixT_at _ _ _ _ _ hq]
  by_cases e : q = p
  · subst e
    rw [if_neg (show ¬ (q < q + 1 ∧ wh (q / m) < n ∧ wh (q % m) < n) from fun k => hno k.2), if_neg (show ¬ (q < q ∧ wh (q / m) < n ∧ wh (q % m) < n) from fun k => hno k.2)]
  · have c : (q < p + 1) = (q < p) := propext ⟨fun h => by omega, fun h => by omega⟩
    simp only [c]

/-! the closures -/
theorem was_drop (P k i : Nat) (w : World) (hi : i < 100) (hP : lies.Lies w P 3 #[.int .i64 (k : Int)]) :
    Calls Try.prog 28 #[.int .i64 (i : Int), .pointer (some ⟨P, 0, none⟩)] w fun e w' => e = .returned (.int .i64 (sk k i : Int)) ∧ Below w.heap.size w w' := by
  obtain ⟨y0, y1, y2⟩ := dbm.one hP
  unfold sk
  by_cases h : i < k
  · have t1 : (i : Int) < k := by omega
    rw [if_pos h]
    clear h
    go_enter Try.func28, Try.ntmps28
    go_wp2_with fail
    go_ret
    exact ⟨rfl, Below.refl _ _⟩
  · have t1 : ¬ (i : Int) < k := by omega
    rw [if_neg h]
    clear h
    have wj : wrap64 ((i : Int) + 1) = ((i + 1 : Nat) : Int) := by rw [IntWalk.wrap64_in _ ⟨by omega, by omega⟩]; omega
    have wk : IntKind.i64.wrap ((i : Int) + 1) = ((i + 1 : Nat) : Int) := by rw [IntWalk.i64_in _ ⟨by omega, by omega⟩]; omega
    go_enter Try.func28, Try.ntmps28
    go_wp2_with fail
    go_ret
    exact ⟨by first | rfl | (simp only [wj]) | (simp only [wk]) | (congr 2; omega), Below.refl _ _⟩
theorem was_grow (i : Nat) (w : World) :
    Calls Try.prog 29 #[.int .i64 (i : Int)] w fun e w' => e = .returned (.int .i64 (i : Int)) ∧ Below w.heap.size w w' := by
  go_enter Try.func29, Try.ntmps29
  go_wp2_with fail
  go_ret
  exact ⟨rfl, Below.refl _ _⟩
theorem was_move (P b off len cap i x : Nat) (w : World) (hi : i < len) (hP : lies.Lies w P 30 #[.slice (some ⟨b, off, none⟩) len cap]) (hc : w.cell? ⟨b, off + i, none⟩ = some (.int .i64 (x : Int))) :
    Calls Try.prog 27 #[.int .i64 (i : Int), .pointer (some ⟨P, 0, none⟩)] w fun e w' => e = .returned (.int .i64 (x : Int)) ∧ Below w.heap.size w w' := by
  obtain ⟨y0, y1, y2⟩ := dbm.one hP
  have t1 : (i : Int) < len := by omega
  go_enter Try.func27, Try.ntmps27
  go_wp2_with fail
  go_ret
  exact ⟨rfl, Below.refl _ _⟩

/-- what lies there while it is laid out. -/
def LA (n m b off cap g T : Nat) (us : List Int) (w W : World) : Prop :=
  lies.Lies W w.heap.size 24 #[.int .i64 n, .slice (some ⟨b, off, none⟩) (n * n) cap] ∧ lies.Lies W (w.heap.size + 1) 24 #[.int .i64 0, .slice none 0 0] ∧ lies.Lies W T 24 #[.int .i64 m, .slice (some ⟨g, 0, none⟩) (m * m) (m * m)] ∧ lies.Lies W g 29 (cellsOf us) ∧ Below w.heap.size w W
theorem LA.below {n m b off cap g T : Nat} {us : List Int} {w W X : World} (h : LA n m b off cap g T us w W) (k : Below W.heap.size W X) : LA n m b off cap g T us w X := ⟨lies.on_call h.1 k, lies.on_call h.2.1 k, lies.on_call h.2.2.1 k, lies.on_call h.2.2.2.1 k, h.2.2.2.2.trans (k.mono h.2.2.2.2.size)⟩

set_option maxRecDepth 100000 in
set_option maxHeartbeats 8000000 in
theorem laidD_is (PX n m b off cap : Nat) (wh : Nat → Nat) (ts : List Int) (w : World) (hn : n ≤ 4) (h0 : 0 < m) (hm : m ≤ 4) (hr : Row w b off ts) (hb : b < w.heap.size) (hl : ts.length = n * n) (hw : ∀ i, i < m → wh i ≤ 4)
    (hF : ∀ i, i < m → ∀ W, Below w.heap.size w W → Calls Try.prog 28 #[.int .i64 (i : Int), .pointer (some ⟨PX, 0, none⟩)] W fun e w' => e = .returned (.int .i64 (wh i : Int)) ∧ Below W.heap.size W w') :
    Calls Try.prog 26 #[.agg #[.int .i64 n, .slice (some ⟨b, off, none⟩) (n * n) cap], .int .i64 m, .func (.func 28) #[] #[.pointer (some ⟨PX, 0, none⟩)]] w fun e w' => Below w.heap.size w w' ∧ ∃ g, w.heap.size ≤ g ∧ e = .returned (.agg #[.int .i64 m, .slice (some ⟨g, 0, none⟩) (m * m) (m * m)]) ∧ lies.Lies w' g 29 (cellsOf (laidT n m wh ts)) := by
  obtain ⟨DB, D0, D1⟩ := dref.box_res n (.slice (some ⟨b, off, none⟩) (n * n) cap) w
  have HR := Lib.hid hr
  have HL := Lib.hid hl
  have HW := Lib.hid hw
  have HF := Lib.hid hF
  clear hr hl hw hF
  have hsq := sq_le hm
  have hsn := sq_le hn
  go_enter Try.func26, Try.ntmps26
  go_wp2_with fail
  refine (top_ok m _ h0 hm).mono ?_
  rintro e w2 ⟨hB2, g, hg2, rfl, hG⟩
  rw [mixT_zero (n := n) h0 hm wh ts] at hG
  have E0 := lies.on_call D0 hB2
  have E1 := lies.on_call D1 hB2
  have K2 := DB.trans (hB2.mono DB.size)
  have hw1 := lies.lt E1
  clear D0 D1 hB2
  go_wp2_with fail
  have W0 : LA n m b off cap g w2.heap.size (mixT n m wh ts 0) w (w2.alloc (.cells #[.int .i64 m, .slice (some ⟨g, 0, none⟩) (m * m) (m * m)] 24)) :=
    ⟨lies.on_alloc E0 _, lies.on_alloc E1 _, lies.made _ _ _, lies.on_alloc hG _, K2.alloc K2.size _⟩
  have hgT : g ≠ w2.heap.size := by have := lies.lt hG; omega
  have hgw : w.heap.size < g := by have := DB.size; simp at hg2; omega
  have hgw1 : w.heap.size + 1 < g := by simp at hg2; omega
  have hTw : w.heap.size + 1 < w2.heap.size := by omega
  clear E0 E1 K2 hG hw1 DB hg2
  generalize w2.heap.size = T at W0 hgT hTw ⊢
  generalize w2.alloc (.cells #[.int .i64 m, .slice (some ⟨g, 0, none⟩) (m * m) (m * m)] 24) = w3 at W0 ⊢
  obtain ⟨d0, d1, d2, d3, d4⟩ := lies.two W0.2.2.1
  go_wp2_with fail
  clear d0 d1 d2 d3 d4
  go_loopw [20] (fun i wr => ∃ p : Nat, p ≤ m * m ∧ i = .int .i64 p ∧ LA n m b off cap g T (mixT n m wh ts p) w wr) (fun i _ => m * m - (intOf i).toNat)
  case atStart => exact ⟨0, Nat.zero_le _, rfl, W0⟩
  case round =>
    clear W0
    obtain ⟨p, hp, rfl, hA⟩ := hrel
    by_cases hpm : p < m * m
    · have hP : p / m < m := (Nat.div_lt_iff_lt_mul h0).2 hpm
      have hQ : p % m < m := Nat.mod_lt p h0
      have HF1 := Lib.hid (HF.out (p / m) hP)
      have HF2 := Lib.hid (HF.out (p % m) hQ)
      have hw1 := HW.out (p / m) hP
      have hw2 := HW.out (p % m) hQ
      have hY := mixT_yes (n := n) (wh := wh) (ts := ts) hpm
      have hN := mixT_no (n := n) (m := m) (wh := wh) (ts := ts) (p := p)
      have q1 : (p : Int) / m = ((p / m : Nat) : Int) := (Int.natCast_ediv p m).symm
      have q2 : (p : Int).tmod m = ((p % m : Nat) : Int) := by rw [Int.tmod_eq_emod_of_nonneg (by omega)]; exact (Int.natCast_emod p m).symm
      have hPp : p / m ≤ p := Nat.div_le_self _ _
      generalize hx : wh (p / m) = x at hw1 hY hN HF1
      generalize hy : wh (p % m) = y at hw2 hY hN HF2
      clear hx hy
      generalize p / m = P at q1 hP HF1 hPp
      generalize p % m = Q at q2 hQ HF2
      have q3 : ¬ m = 0 := by omega
      have q4 : IntKind.i64.wrap (P : Int) = P := IntWalk.i64_in _ ⟨by omega, by omega⟩
      have q5 := q4
      rw [IntWalk.i64_left] at q5
      have hpp : (p : Int) < (m : Int) * m := by rw [← Int.natCast_mul]; omega
      have HY := Lib.hid hY
      have HN := Lib.hid hN
      clear hY hN
      go_wp2_with fail
      refine wp_region_held_drew (S := Below wr.heap.size wr) (by kernel_rfl) (dbm.drawn1 (Below.refl _ _)) (fun hHeld => ?_)
      refine wpAnyH_take (i := 0) (v := ?_) rfl (by kernel_rfl) (by kernel_rfl) (by kernel_rfl) (fun _ _ _ h => h) (Or.inl ⟨by rfl, ?_⟩) hHeld ?_
      rotate_left
      · intro w hSw; skip; go_simp; try with_reducible rfl
      try simp only [Act.put, List.getElem_toArray, List.getElem_cons_zero, List.getElem_cons_succ, List.setIfInBounds_toArray, List.set_cons_zero, List.set_cons_succ]
      refine wpAnyH_take (i := 1) (v := ?_) rfl (by kernel_rfl) (by kernel_rfl) (by kernel_rfl) (fun _ _ _ h => h) (Or.inl ⟨by rfl, ?_⟩) hHeld ?_
      rotate_left
      · intro w hSw; skip; go_simp; try with_reducible rfl
      try simp only [Act.put, List.getElem_toArray, List.getElem_cons_zero, List.getElem_cons_succ, List.setIfInBounds_toArray, List.set_cons_zero, List.set_cons_succ]
      refine wpAnyH_take (i := 2) (v := ?_) rfl (by kernel_rfl) (by kernel_rfl) (by kernel_rfl) (fun _ _ _ h => h) (Or.inl ⟨by rfl, ?_⟩) hHeld ?_
      rotate_left
      · intro w hSw; skip; go_simp; try with_reducible rfl
      try simp only [Act.put, List.getElem_toArray, List.getElem_cons_zero, List.getElem_cons_succ, List.setIfInBounds_toArray, List.set_cons_zero, List.set_cons_succ]
      refine wpAnyH_take (i := 3) (v := ?_) rfl (by kernel_rfl) (by kernel_rfl) (by kernel_rfl) (fun _ _ _ h => h) (Or.inl ⟨by rfl, ?_⟩) hHeld ?_
      rotate_left
      · intro w hSw; skip; go_simp; try with_reducible rfl
      try simp only [Act.put, List.getElem_toArray, List.getElem_cons_zero, List.getElem_cons_succ, List.setIfInBounds_toArray, List.set_cons_zero, List.set_cons_succ]
      refine wpAnyH_take (i := 5) (v := ?_) rfl (by kernel_rfl) (by kernel_rfl) (by kernel_rfl) (fun _ _ _ h => h) (Or.inl ⟨by rfl, ?_⟩) hHeld ?_
      rotate_left
      · intro w hSw; skip; go_simp; try with_reducible rfl
      try simp only [Act.put, List.getElem_toArray, List.getElem_cons_zero, List.getElem_cons_succ, List.setIfInBounds_toArray, List.set_cons_zero, List.set_cons_succ]
      refine wpAnyH_take (i := 6) (v := ?_) rfl (by kernel_rfl) (by kernel_rfl) (by kernel_rfl) (fun _ _ _ h => h) (Or.inl ⟨by rfl, ?_⟩) hHeld ?_
      rotate_left
      · intro w hSw; skip; go_simp; try with_reducible rfl
      try simp only [Act.put, List.getElem_toArray, List.getElem_cons_zero, List.getElem_cons_succ, List.setIfInBounds_toArray, List.set_cons_zero, List.set_cons_succ]
      refine wpAnyH_take (i := 7) (v := ?_) rfl (by kernel_rfl) (by kernel_rfl) (by kernel_rfl) (fun _ _ _ h => h) (Or.inl ⟨by rfl, ?_⟩) hHeld ?_
      rotate_left
      · intro w hSw; skip; go_simp; try with_reducible rfl
      try simp only [Act.put, List.getElem_toArray, List.getElem_cons_zero, List.getElem_cons_succ, List.setIfInBounds_toArray, List.set_cons_zero, List.set_cons_succ]
      refine wpAnyH_take (i := 8) (v := ?_) rfl (by kernel_rfl) (by kernel_rfl) (by kernel_rfl) (fun _ _ _ h => h) (Or.inl ⟨by rfl, ?_⟩) hHeld ?_
      rotate_left
      · intro w hSw; skip; go_simp; try with_reducible rfl
      try simp only [Act.put, List.getElem_toArray, List.getElem_cons_zero, List.getElem_cons_succ, List.setIfInBounds_toArray, List.set_cons_zero, List.set_cons_succ]
      refine wpAnyH_ready (rs := [4]) (by kernel_rfl) (by simp) (AllReadyH.cons rfl (fun K hK => ?_) AllReadyH.nil)
      go_simp
      refine (HF1.out _ (hA.2.2.2.2.trans (hHeld.mono hA.2.2.2.2.size))).mono ?_
      rintro e u1 ⟨rfl, hB⟩
      refine hK.out _ _ (hHeld.trans (hB.mono hHeld.size)) (fun hNew => ?_)
      clear hB
      clear hHeld hK K
      have hHeld := hNew
      clear hNew
      try simp only [Act.put, List.getElem_toArray, List.getElem_cons_zero, List.getElem_cons_succ, List.setIfInBounds_toArray, List.set_cons_zero, List.set_cons_succ]
      refine wpAnyH_ready (rs := [9]) (by kernel_rfl) (by simp) (AllReadyH.cons rfl (fun K hK => ?_) AllReadyH.nil)
      go_simp
      refine (HF2.out _ (hA.2.2.2.2.trans (hHeld.mono hA.2.2.2.2.size))).mono ?_
      rintro e u2 ⟨rfl, hB⟩
      refine hK.out _ _ (hHeld.trans (hB.mono hHeld.size)) (fun hNew => ?_)
      clear hB
      clear hHeld hK K
      have hHeld := hNew
      clear hNew
      try simp only [Act.put, List.getElem_toArray, List.getElem_cons_zero, List.getElem_cons_succ, List.setIfInBounds_toArray, List.set_cons_zero, List.set_cons_succ]
      refine wpAnyH_take (i := 10) (v := ?_) rfl (by kernel_rfl) (by kernel_rfl) (by kernel_rfl) (fun _ _ _ h => h) (Or.inl ⟨by rfl, ?_⟩) hHeld ?_
      rotate_left
      · intro w hSw; skip; go_simp; try with_reducible rfl
      try simp only [Act.put, List.getElem_toArray, List.getElem_cons_zero, List.getElem_cons_succ, List.setIfInBounds_toArray, List.set_cons_zero, List.set_cons_succ]
      refine wpAnyH_take (i := 11) (v := ?_) rfl (by kernel_rfl) (by kernel_rfl) (by kernel_rfl) (fun _ _ _ h => h) (Or.inl ⟨by rfl, ?_⟩) hHeld ?_
      rotate_left
      · intro w hSw; skip; go_simp; try with_reducible rfl
      try simp only [Act.put, List.getElem_toArray, List.getElem_cons_zero, List.getElem_cons_succ, List.setIfInBounds_toArray, List.set_cons_zero, List.set_cons_succ]
      refine wpAnyH_done (by kernel_rfl) ?_ _
      have A2 := hA.below hHeld
      clear hA hHeld q1 q2 q3 q4 q5 hP hQ hPp
      clear HF1 HF2
      by_cases h1 : x < n
      · have t1 : (x : Int) < n := by omega
        by_cases h2 : y < n
        · have t2 : (y : Int) < n := by omega
          have hup := HY.out h1 h2
          have hpl := place_le hn h1 h2
          have hz := HR.out (x * n + y) (by rw [HL.out]; exact hpl)
          unfold tat at hup
          generalize ts[x * n + y]?.getD 0 = z at hz hup
          have hus := mixT_length n m wh ts p
          generalize mixT n m wh ts p = us at A2 hup hus
          have HUP := Lib.hid hup
          have HUS := Lib.hid hus
          obtain ⟨y1, y2, y3, y4, y5, y6, y7⟩ := dref.place_int hn h1 h2
          obtain ⟨c0, c1, c2, c3, c4⟩ := lies.two A2.1
          have hbl := Nat.lt_of_lt_of_le hb A2.2.2.2.2.size
          have hgg := lies.lt A2.2.2.2.1
          clear hup hus h1 h2 HY HN
          go_wp2_with fail
          clear c0 c1 c2 c3 c4
          have S0 : ∀ (vs : List Int) W, LA n m b off cap g T vs w W → (W.cell? ⟨w.heap.size, 0, none⟩ = some (.int .i64 n) ∧ W.cell? ⟨w.heap.size, 1, none⟩ = some (.slice (some ⟨b, off, none⟩) (n * n) cap)) ∧ W.cell? ⟨T, 1, none⟩ = some (.slice (some ⟨g, 0, none⟩) (m * m) (m * m)) ∧ W.cell? ⟨b, off + (x * n + y), none⟩ = some (.int .i64 z) := fun vs W hW => ⟨lies.pair hW.1, (lies.pair hW.2.2.1).2, (hW.2.2.2.2.cell (p := ⟨b, off + (x * n + y), none⟩) hb).trans hz⟩
          have A3 := A2.below (dbm.drawn1 (Below.refl u2.heap.size u2))
          have HS0 := Lib.hid S0
          have hs3 := S0 _ _ A3
          clear S0 hz
          refine wp_region_held_drew (S := fun W => (W.cell? ⟨w.heap.size, 0, none⟩ = some (.int .i64 n) ∧ W.cell? ⟨w.heap.size, 1, none⟩ = some (.slice (some ⟨b, off, none⟩) (n * n) cap)) ∧ W.cell? ⟨T, 1, none⟩ = some (.slice (some ⟨g, 0, none⟩) (m * m) (m * m)) ∧ W.cell? ⟨b, off + (x * n + y), none⟩ = some (.int .i64 z)) (by kernel_rfl) hs3 (fun hHeld => ?_)
          clear hs3
          refine wpAnyH_take (i := 0) (v := ?_) rfl (by kernel_rfl) (by kernel_rfl) (by kernel_rfl) (fun _ _ _ h => h) (Or.inl ⟨by rfl, ?_⟩) hHeld ?_
          rotate_left
          · intro w hSw; obtain ⟨⟨s0, s1⟩, s2, s3⟩ := hSw; go_simp; try with_reducible rfl
          try simp only [Act.put, List.getElem_toArray, List.getElem_cons_zero, List.getElem_cons_succ, List.setIfInBounds_toArray, List.set_cons_zero, List.set_cons_succ]
          refine wpAnyH_take (i := 1) (v := ?_) rfl (by kernel_rfl) (by kernel_rfl) (by kernel_rfl) (fun _ _ _ h => h) (Or.inl ⟨by rfl, ?_⟩) hHeld ?_
          rotate_left
          · intro w hSw; obtain ⟨⟨s0, s1⟩, s2, s3⟩ := hSw; go_simp; try with_reducible rfl
          try simp only [Act.put, List.getElem_toArray, List.getElem_cons_zero, List.getElem_cons_succ, List.setIfInBounds_toArray, List.set_cons_zero, List.set_cons_succ]
          refine wpAnyH_take (i := 2) (v := ?_) rfl (by kernel_rfl) (by kernel_rfl) (by kernel_rfl) (fun _ _ _ h => h) (Or.inl ⟨by rfl, ?_⟩) hHeld ?_
          rotate_left
          · intro w hSw; obtain ⟨⟨s0, s1⟩, s2, s3⟩ := hSw; go_simp; try with_reducible rfl
          try simp only [Act.put, List.getElem_toArray, List.getElem_cons_zero, List.getElem_cons_succ, List.setIfInBounds_toArray, List.set_cons_zero, List.set_cons_succ]
          refine wpAnyH_take (i := 3) (v := ?_) rfl (by kernel_rfl) (by kernel_rfl) (by kernel_rfl) (fun _ _ _ h => h) (Or.inl ⟨by rfl, ?_⟩) hHeld ?_
          rotate_left
          · intro w hSw; obtain ⟨⟨s0, s1⟩, s2, s3⟩ := hSw; go_simp; try with_reducible rfl
          try simp only [Act.put, List.getElem_toArray, List.getElem_cons_zero, List.getElem_cons_succ, List.setIfInBounds_toArray, List.set_cons_zero, List.set_cons_succ]
          refine wpAnyH_take (i := 4) (v := ?_) rfl (by kernel_rfl) (by kernel_rfl) (by kernel_rfl) (fun _ _ _ h => h) (Or.inl ⟨by rfl, ?_⟩) hHeld ?_
          rotate_left
          · intro w hSw; obtain ⟨⟨s0, s1⟩, s2, s3⟩ := hSw; go_simp; try with_reducible rfl
          try simp only [Act.put, List.getElem_toArray, List.getElem_cons_zero, List.getElem_cons_succ, List.setIfInBounds_toArray, List.set_cons_zero, List.set_cons_succ]
          refine wpAnyH_take (i := 5) (v := ?_) rfl (by kernel_rfl) (by kernel_rfl) (by kernel_rfl) (fun _ _ _ h => h) (Or.inl ⟨by rfl, ?_⟩) hHeld ?_
          rotate_left
          · intro w hSw; obtain ⟨⟨s0, s1⟩, s2, s3⟩ := hSw; go_simp; try with_reducible rfl
          try simp only [Act.put, List.getElem_toArray, List.getElem_cons_zero, List.getElem_cons_succ, List.setIfInBounds_toArray, List.set_cons_zero, List.set_cons_succ]
          refine wpAnyH_take (i := 6) (v := ?_) rfl (by kernel_rfl) (by kernel_rfl) (by kernel_rfl) (fun _ _ _ h => h) (Or.inl ⟨by rfl, ?_⟩) hHeld ?_
          rotate_left
          · intro w hSw; obtain ⟨⟨s0, s1⟩, s2, s3⟩ := hSw; go_simp; try with_reducible rfl
          try simp only [Act.put, List.getElem_toArray, List.getElem_cons_zero, List.getElem_cons_succ, List.setIfInBounds_toArray, List.set_cons_zero, List.set_cons_succ]
          refine wpAnyH_take (i := 7) (v := ?_) rfl (by kernel_rfl) (by kernel_rfl) (by kernel_rfl) (fun _ _ _ h => h) (Or.inl ⟨by rfl, ?_⟩) hHeld ?_
          rotate_left
          · intro w hSw; obtain ⟨⟨s0, s1⟩, s2, s3⟩ := hSw; go_simp; try with_reducible rfl
          try simp only [Act.put, List.getElem_toArray, List.getElem_cons_zero, List.getElem_cons_succ, List.setIfInBounds_toArray, List.set_cons_zero, List.set_cons_succ]
          refine wpAnyH_take (i := 8) (v := ?_) rfl (by kernel_rfl) (by kernel_rfl) (by kernel_rfl) (fun _ _ _ h => h) (Or.inl ⟨by rfl, ?_⟩) hHeld ?_
          rotate_left
          · intro w hSw; obtain ⟨⟨s0, s1⟩, s2, s3⟩ := hSw; go_simp; try with_reducible rfl
          try simp only [Act.put, List.getElem_toArray, List.getElem_cons_zero, List.getElem_cons_succ, List.setIfInBounds_toArray, List.set_cons_zero, List.set_cons_succ]
          refine wpAnyH_take (i := 9) (v := ?_) rfl (by kernel_rfl) (by kernel_rfl) (by kernel_rfl) (fun _ _ _ h => h) (Or.inl ⟨by rfl, ?_⟩) hHeld ?_
          rotate_left
          · intro w hSw; obtain ⟨⟨s0, s1⟩, s2, s3⟩ := hSw; go_simp; try with_reducible rfl
          try simp only [Act.put, List.getElem_toArray, List.getElem_cons_zero, List.getElem_cons_succ, List.setIfInBounds_toArray, List.set_cons_zero, List.set_cons_succ]
          refine wpAnyH_take (i := 10) (v := ?_) rfl (by kernel_rfl) (by kernel_rfl) (by kernel_rfl) (fun _ _ _ h => h) (Or.inl ⟨by rfl, ?_⟩) hHeld ?_
          rotate_left
          · intro w hSw; obtain ⟨⟨s0, s1⟩, s2, s3⟩ := hSw; go_simp; try with_reducible rfl
          try simp only [Act.put, List.getElem_toArray, List.getElem_cons_zero, List.getElem_cons_succ, List.setIfInBounds_toArray, List.set_cons_zero, List.set_cons_succ]
          refine wpAnyH_take (i := 11) (v := ?_) rfl (by kernel_rfl) (by kernel_rfl) (by kernel_rfl) (fun _ _ _ h => h) (Or.inl ⟨by rfl, ?_⟩) hHeld ?_
          rotate_left
          · intro w hSw; obtain ⟨⟨s0, s1⟩, s2, s3⟩ := hSw; go_simp; try with_reducible rfl
          try simp only [Act.put, List.getElem_toArray, List.getElem_cons_zero, List.getElem_cons_succ, List.setIfInBounds_toArray, List.set_cons_zero, List.set_cons_succ]
          refine wpAnyH_take (i := 12) (v := ?_) rfl (by kernel_rfl) (by kernel_rfl) (by kernel_rfl) (fun _ _ _ h => h) (Or.inl ⟨by rfl, ?_⟩) hHeld ?_
          rotate_left
          · intro w hSw; obtain ⟨⟨s0, s1⟩, s2, s3⟩ := hSw; go_simp; try with_reducible rfl
          try simp only [Act.put, List.getElem_toArray, List.getElem_cons_zero, List.getElem_cons_succ, List.setIfInBounds_toArray, List.set_cons_zero, List.set_cons_succ]
          refine wpAnyH_take (i := 13) (v := ?_) rfl (by kernel_rfl) (by kernel_rfl) (by kernel_rfl) (fun _ _ _ h => h) (Or.inl ⟨by rfl, ?_⟩) hHeld ?_
          rotate_left
          · intro w hSw; obtain ⟨⟨s0, s1⟩, s2, s3⟩ := hSw; go_simp; try with_reducible rfl
          try simp only [Act.put, List.getElem_toArray, List.getElem_cons_zero, List.getElem_cons_succ, List.setIfInBounds_toArray, List.set_cons_zero, List.set_cons_succ]
          have hcell := (lies.cell A2.2.2.2.1 p).trans (cells_at us p (by rw [HUS.out]; exact hpm))
          have hfree := lies.free A2.2.2.2.1 p
          refine wpAnyH_ready (rs := [14]) (by kernel_rfl) (by simp) (AllReadyH.cons rfl (fun K hK => ?_) AllReadyH.nil)
          go_simp
          have A4 : LA n m b off cap g T (us.set p z) w (u2.setCell ⟨g, p, none⟩ (.int .i64 z)).drew := by
            have Pt := lies.on_put A2.2.2.2.1 p (.int .i64 z)
            rw [cells_set] at Pt
            have D := fun {bb : Nat} {t : TypeId} {cs : Array Value} (h : lies.Lies u2 bb t cs) (hne : bb ≠ g) => lies.on_call (lies.on_far h p hne (.int .i64 z)) (dbm.drawn1 (Below.refl _ _))
            exact ⟨D A2.1 (by omega), D A2.2.1 (by omega), D A2.2.2.1 (Ne.symm hgT), lies.on_call Pt (dbm.drawn1 (Below.refl _ _)), dbm.drawn1 (A2.2.2.2.2.setCell (p := ⟨g, p, none⟩) (Nat.le_of_lt hgw) _)⟩
          refine hK.out _ _ (HS0.out _ _ A4) (fun hNew => ?_)
          clear hHeld hK K hNew HS0 hcell hfree A2 A3
          refine wpAnyH_done (by kernel_rfl) ?_ _
          clear y1 y2 y3 y4 y5 y6 y7
          generalize (u2.setCell ⟨g, p, none⟩ (.int .i64 z)).drew = w6 at A4 ⊢
          go_wp2_with fail
          go_roundw
          case rel => exact ⟨p + 1, by omega, by go_num, by rw [HUP.out]; exact A4⟩
          case measure => simp [intOf]; omega
        · have t2 : ¬ (y : Int) < n := by omega
          have hup := HN.out (fun k => h2 k.2)
          have HUP := Lib.hid hup
          obtain ⟨c0, c1, c2, c3, c4⟩ := lies.two A2.1
          clear hup HY HN h1 h2
          go_wp2_with fail
          go_roundw
          case rel => exact ⟨p + 1, by omega, by go_num, by rw [HUP.out]; exact A2⟩
          case measure => simp [intOf]; omega
      · have t1 : ¬ (x : Int) < n := by omega
        have hup := HN.out (fun k => h1 k.1)
        have HUP := Lib.hid hup
        obtain ⟨c0, c1, c2, c3, c4⟩ := lies.two A2.1
        clear hup HY HN h1
        go_wp2_with fail
        go_roundw
        case rel => exact ⟨p + 1, by omega, by go_num, by rw [HUP.out]; exact A2⟩
        case measure => simp [intOf]; omega
    · obtain rfl : m * m = p := by omega
      rw [mixT_all] at hA
      obtain ⟨c0, c1, c2, c3, c4⟩ := lies.two hA.2.2.1
      obtain ⟨x0, x1, x2, x3, x4⟩ := lies.two hA.2.1
      go_wp2_with fail
      refine bodyPost_ret (v := .agg #[.int .i64 m, .slice (some ⟨g, 0, none⟩) (m * m) (m * m)]) (by simp [results, Try.results26, go_sem, x0, x1]) rfl ⟨dref.ret_res hA.2.2.2.2 (by omega) _ _, g, by omega, rfl, lies.on_far (lies.on_far hA.2.2.2.1 (b := w.heap.size + 1) 0 (by omega) _) (b := w.heap.size + 1) 1 (by omega) _⟩

set_option maxRecDepth 100000 in
set_option maxHeartbeats 8000000 in
theorem laidM_is (PX n m b off cap : Nat) (wh : Nat → Nat) (ts : List Int) (w : World) (hn : n ≤ 4) (h0 : 0 < m) (hm : m ≤ 4) (hr : Row w b off ts) (hb : b < w.heap.size) (hl : ts.length = n * n) (hw : ∀ i, i < m → wh i ≤ 4)
    (hF : ∀ i, i < m → ∀ W, Below w.heap.size w W → Calls Try.prog 27 #[.int .i64 (i : Int), .pointer (some ⟨PX, 0, none⟩)] W fun e w' => e = .returned (.int .i64 (wh i : Int)) ∧ Below W.heap.size W w') :
    Calls Try.prog 26 #[.agg #[.int .i64 n, .slice (some ⟨b, off, none⟩) (n * n) cap], .int .i64 m, .func (.func 27) #[] #[.pointer (some ⟨PX, 0, none⟩)]] w fun e w' => Below w.heap.size w w' ∧ ∃ g, w.heap.size ≤ g ∧ e = .returned (.agg #[.int .i64 m, .slice (some ⟨g, 0, none⟩) (m * m) (m * m)]) ∧ lies.Lies w' g 29 (cellsOf (laidT n m wh ts)) := by
  obtain ⟨DB, D0, D1⟩ := dref.box_res n (.slice (some ⟨b, off, none⟩) (n * n) cap) w
  have HR := Lib.hid hr
  have HL := Lib.hid hl
  have HW := Lib.hid hw
  have HF := Lib.hid hF
  clear hr hl hw hF
  have hsq := sq_le hm
  have hsn := sq_le hn
  go_enter Try.func26, Try.ntmps26
  go_wp2_with fail
  refine (top_ok m _ h0 hm).mono ?_
  rintro e w2 ⟨hB2, g, hg2, rfl, hG⟩
  rw [mixT_zero (n := n) h0 hm wh ts] at hG
  have E0 := lies.on_call D0 hB2
  have E1 := lies.on_call D1 hB2
  have K2 := DB.trans (hB2.mono DB.size)
  have hw1 := lies.lt E1
  clear D0 D1 hB2
  go_wp2_with fail
  have W0 : LA n m b off cap g w2.heap.size (mixT n m wh ts 0) w (w2.alloc (.cells #[.int .i64 m, .slice (some ⟨g, 0, none⟩) (m * m) (m * m)] 24)) :=
    ⟨lies.on_alloc E0 _, lies.on_alloc E1 _, lies.made _ _ _, lies.on_alloc hG _, K2.alloc K2.size _⟩
  have hgT : g ≠ w2.heap.size := by have := lies.lt hG; omega
  have hgw : w.heap.size < g := by have := DB.size; simp at hg2; omega
  have hgw1 : w.heap.size + 1 < g := by simp at hg2; omega
  have hTw : w.heap.size + 1 < w2.heap.size := by omega
  clear E0 E1 K2 hG hw1 DB hg2
  generalize w2.heap.size = T at W0 hgT hTw ⊢
  generalize w2.alloc (.cells #[.int .i64 m, .slice (some ⟨g, 0, none⟩) (m * m) (m * m)] 24) = w3 at W0 ⊢
  obtain ⟨d0, d1, d2, d3, d4⟩ := lies.two W0.2.2.1
  go_wp2_with fail
  clear d0 d1 d2 d3 d4
  go_loopw [20] (fun i wr => ∃ p : Nat, p ≤ m * m ∧ i = .int .i64 p ∧ LA n m b off cap g T (mixT n m wh ts p) w wr) (fun i _ => m * m - (intOf i).toNat)
  case atStart => exact ⟨0, Nat.zero_le _, rfl, W0⟩
  case round =>
    clear W0
    obtain ⟨p, hp, rfl, hA⟩ := hrel
    by_cases hpm : p < m * m
    · have hP : p / m < m := (Nat.div_lt_iff_lt_mul h0).2 hpm
      have hQ : p % m < m := Nat.mod_lt p h0
      have HF1 := Lib.hid (HF.out (p / m) hP)
      have HF2 := Lib.hid (HF.out (p % m) hQ)
      have hw1 := HW.out (p / m) hP
      have hw2 := HW.out (p % m) hQ
      have hY := mixT_yes (n := n) (wh := wh) (ts := ts) hpm
      have hN := mixT_no (n := n) (m := m) (wh := wh) (ts := ts) (p := p)
      have q1 : (p : Int) / m = ((p / m : Nat) : Int) := (Int.natCast_ediv p m).symm
      have q2 : (p : Int).tmod m = ((p % m : Nat) : Int) := by rw [Int.tmod_eq_emod_of_nonneg (by omega)]; exact (Int.natCast_emod p m).symm
      have hPp : p / m ≤ p := Nat.div_le_self _ _
      generalize hx : wh (p / m) = x at hw1 hY hN HF1
      generalize hy : wh (p % m) = y at hw2 hY hN HF2
      clear hx hy
      generalize p / m = P at q1 hP HF1 hPp
      generalize p % m = Q at q2 hQ HF2
      have q3 : ¬ m = 0 := by omega
      have q4 : IntKind.i64.wrap (P : Int) = P := IntWalk.i64_in _ ⟨by omega, by omega⟩
      have q5 := q4
      rw [IntWalk.i64_left] at q5
      have hpp : (p : Int) < (m : Int) * m := by rw [← Int.natCast_mul]; omega
      have HY := Lib.hid hY
      have HN := Lib.hid hN
      clear hY hN
      go_wp2_with fail
      refine wp_region_held_drew (S := Below wr.heap.size wr) (by kernel_rfl) (dbm.drawn1 (Below.refl _ _)) (fun hHeld => ?_)
      refine wpAnyH_take (i := 0) (v := ?_) rfl (by kernel_rfl) (by kernel_rfl) (by kernel_rfl) (fun _ _ _ h => h) (Or.inl ⟨by rfl, ?_⟩) hHeld ?_
      rotate_left
      · intro w hSw; skip; go_simp; try with_reducible rfl
      try simp only [Act.put, List.getElem_toArray, List.getElem_cons_zero, List.getElem_cons_succ, List.setIfInBounds_toArray, List.set_cons_zero, List.set_cons_succ]
      refine wpAnyH_take (i := 1) (v := ?_) rfl (by kernel_rfl) (by kernel_rfl) (by kernel_rfl) (fun _ _ _ h => h) (Or.inl ⟨by rfl, ?_⟩) hHeld ?_
      rotate_left
      · intro w hSw; skip; go_simp; try with_reducible rfl
      try simp only [Act.put, List.getElem_toArray, List.getElem_cons_zero, List.getElem_cons_succ, List.setIfInBounds_toArray, List.set_cons_zero, List.set_cons_succ]
      refine wpAnyH_take (i := 2) (v := ?_) rfl (by kernel_rfl) (by kernel_rfl) (by kernel_rfl) (fun _ _ _ h => h) (Or.inl ⟨by rfl, ?_⟩) hHeld ?_
      rotate_left
      · intro w hSw; skip; go_simp; try with_reducible rfl
      try simp only [Act.put, List.getElem_toArray, List.getElem_cons_zero, List.getElem_cons_succ, List.setIfInBounds_toArray, List.set_cons_zero, List.set_cons_succ]
      refine wpAnyH_take (i := 3) (v := ?_) rfl (by kernel_rfl) (by kernel_rfl) (by kernel_rfl) (fun _ _ _ h => h) (Or.inl ⟨by rfl, ?_⟩) hHeld ?_
      rotate_left
      · intro w hSw; skip; go_simp; try with_reducible rfl
      try simp only [Act.put, List.getElem_toArray, List.getElem_cons_zero, List.getElem_cons_succ, List.setIfInBounds_toArray, List.set_cons_zero, List.set_cons_succ]
      refine wpAnyH_take (i := 5) (v := ?_) rfl (by kernel_rfl) (by kernel_rfl) (by kernel_rfl) (fun _ _ _ h => h) (Or.inl ⟨by rfl, ?_⟩) hHeld ?_
      rotate_left
      · intro w hSw; skip; go_simp; try with_reducible rfl
      try simp only [Act.put, List.getElem_toArray, List.getElem_cons_zero, List.getElem_cons_succ, List.setIfInBounds_toArray, List.set_cons_zero, List.set_cons_succ]
      refine wpAnyH_take (i := 6) (v := ?_) rfl (by kernel_rfl) (by kernel_rfl) (by kernel_rfl) (fun _ _ _ h => h) (Or.inl ⟨by rfl, ?_⟩) hHeld ?_
      rotate_left
      · intro w hSw; skip; go_simp; try with_reducible rfl
      try simp only [Act.put, List.getElem_toArray, List.getElem_cons_zero, List.getElem_cons_succ, List.setIfInBounds_toArray, List.set_cons_zero, List.set_cons_succ]
      refine wpAnyH_take (i := 7) (v := ?_) rfl (by kernel_rfl) (by kernel_rfl) (by kernel_rfl) (fun _ _ _ h => h) (Or.inl ⟨by rfl, ?_⟩) hHeld ?_
      rotate_left
      · intro w hSw; skip; go_simp; try with_reducible rfl
      try simp only [Act.put, List.getElem_toArray, List.getElem_cons_zero, List.getElem_cons_succ, List.setIfInBounds_toArray, List.set_cons_zero, List.set_cons_succ]
      refine wpAnyH_take (i := 8) (v := ?_) rfl (by kernel_rfl) (by kernel_rfl) (by kernel_rfl) (fun _ _ _ h => h) (Or.inl ⟨by rfl, ?_⟩) hHeld ?_
      rotate_left
      · intro w hSw; skip; go_simp; try with_reducible rfl
      try simp only [Act.put, List.getElem_toArray, List.getElem_cons_zero, List.getElem_cons_succ, List.setIfInBounds_toArray, List.set_cons_zero, List.set_cons_succ]
      refine wpAnyH_ready (rs := [4]) (by kernel_rfl) (by simp) (AllReadyH.cons rfl (fun K hK => ?_) AllReadyH.nil)
      go_simp
      refine (HF1.out _ (hA.2.2.2.2.trans (hHeld.mono hA.2.2.2.2.size))).mono ?_
      rintro e u1 ⟨rfl, hB⟩
      refine hK.out _ _ (hHeld.trans (hB.mono hHeld.size)) (fun hNew => ?_)
      clear hB
      clear hHeld hK K
      have hHeld := hNew
      clear hNew
      try simp only [Act.put, List.getElem_toArray, List.getElem_cons_zero, List.getElem_cons_succ, List.setIfInBounds_toArray, List.set_cons_zero, List.set_cons_succ]
      refine wpAnyH_ready (rs := [9]) (by kernel_rfl) (by simp) (AllReadyH.cons rfl (fun K hK => ?_) AllReadyH.nil)
      go_simp
      refine (HF2.out _ (hA.2.2.2.2.trans (hHeld.mono hA.2.2.2.2.size))).mono ?_
      rintro e u2 ⟨rfl, hB⟩
      refine hK.out _ _ (hHeld.trans (hB.mono hHeld.size)) (fun hNew => ?_)
      clear hB
      clear hHeld hK K
      have hHeld := hNew
      clear hNew
      try simp only [Act.put, List.getElem_toArray, List.getElem_cons_zero, List.getElem_cons_succ, List.setIfInBounds_toArray, List.set_cons_zero, List.set_cons_succ]
      refine wpAnyH_take (i := 10) (v := ?_) rfl (by kernel_rfl) (by kernel_rfl) (by kernel_rfl) (fun _ _ _ h => h) (Or.inl ⟨by rfl, ?_⟩) hHeld ?_
      rotate_left
      · intro w hSw; skip; go_simp; try with_reducible rfl
      try simp only [Act.put, List.getElem_toArray, List.getElem_cons_zero, List.getElem_cons_succ, List.setIfInBounds_toArray, List.set_cons_zero, List.set_cons_succ]
      refine wpAnyH_take (i := 11) (v := ?_) rfl (by kernel_rfl) (by kernel_rfl) (by kernel_rfl) (fun _ _ _ h => h) (Or.inl ⟨by rfl, ?_⟩) hHeld ?_
      rotate_left
      · intro w hSw; skip; go_simp; try with_reducible rfl
      try simp only [Act.put, List.getElem_toArray, List.getElem_cons_zero, List.getElem_cons_succ, List.setIfInBounds_toArray, List.set_cons_zero, List.set_cons_succ]
      refine wpAnyH_done (by kernel_rfl) ?_ _
      have A2 := hA.below hHeld
      clear hA hHeld q1 q2 q3 q4 q5 hP hQ hPp
      clear HF1 HF2
      by_cases h1 : x < n
      · have t1 : (x : Int) < n := by omega
        by_cases h2 : y < n
        · have t2 : (y : Int) < n := by omega
          have hup := HY.out h1 h2
          have hpl := place_le hn h1 h2
          have hz := HR.out (x * n + y) (by rw [HL.out]; exact hpl)
          unfold tat at hup
          generalize ts[x * n + y]?.getD 0 = z at hz hup
          have hus := mixT_length n m wh ts p
          generalize mixT n m wh ts p = us at A2 hup hus
          have HUP := Lib.hid hup
          have HUS := Lib.hid hus
          obtain ⟨y1, y2, y3, y4, y5, y6, y7⟩ := dref.place_int hn h1 h2
          obtain ⟨c0, c1, c2, c3, c4⟩ := lies.two A2.1
          have hbl := Nat.lt_of_lt_of_le hb A2.2.2.2.2.size
          have hgg := lies.lt A2.2.2.2.1
          clear hup hus h1 h2 HY HN
          go_wp2_with fail
          clear c0 c1 c2 c3 c4
          have S0 : ∀ (vs : List Int) W, LA n m b off cap g T vs w W → (W.cell? ⟨w.heap.size, 0, none⟩ = some (.int .i64 n) ∧ W.cell? ⟨w.heap.size, 1, none⟩ = some (.slice (some ⟨b, off, none⟩) (n * n) cap)) ∧ W.cell? ⟨T, 1, none⟩ = some (.slice (some ⟨g, 0, none⟩) (m * m) (m * m)) ∧ W.cell? ⟨b, off + (x * n + y), none⟩ = some (.int .i64 z) := fun vs W hW => ⟨lies.pair hW.1, (lies.pair hW.2.2.1).2, (hW.2.2.2.2.cell (p := ⟨b, off + (x * n + y), none⟩) hb).trans hz⟩
          have A3 := A2.below (dbm.drawn1 (Below.refl u2.heap.size u2))
          have HS0 := Lib.hid S0
          have hs3 := S0 _ _ A3
          clear S0 hz
          refine wp_region_held_drew (S := fun W => (W.cell? ⟨w.heap.size, 0, none⟩ = some (.int .i64 n) ∧ W.cell? ⟨w.heap.size, 1, none⟩ = some (.slice (some ⟨b, off, none⟩) (n * n) cap)) ∧ W.cell? ⟨T, 1, none⟩ = some (.slice (some ⟨g, 0, none⟩) (m * m) (m * m)) ∧ W.cell? ⟨b, off + (x * n + y), none⟩ = some (.int .i64 z)) (by kernel_rfl) hs3 (fun hHeld => ?_)
          clear hs3
          refine wpAnyH_take (i := 0) (v := ?_) rfl (by kernel_rfl) (by kernel_rfl) (by kernel_rfl) (fun _ _ _ h => h) (Or.inl ⟨by rfl, ?_⟩) hHeld ?_
          rotate_left
          · intro w hSw; obtain ⟨⟨s0, s1⟩, s2, s3⟩ := hSw; go_simp; try with_reducible rfl
          try simp only [Act.put, List.getElem_toArray, List.getElem_cons_zero, List.getElem_cons_succ, List.setIfInBounds_toArray, List.set_cons_zero, List.set_cons_succ]
          refine wpAnyH_take (i := 1) (v := ?_) rfl (by kernel_rfl) (by kernel_rfl) (by kernel_rfl) (fun _ _ _ h => h) (Or.inl ⟨by rfl, ?_⟩) hHeld ?_
          rotate_left
          · intro w hSw; obtain ⟨⟨s0, s1⟩, s2, s3⟩ := hSw; go_simp; try with_reducible rfl
          try simp only [Act.put, List.getElem_toArray, List.getElem_cons_zero, List.getElem_cons_succ, List.setIfInBounds_toArray, List.set_cons_zero, List.set_cons_succ]
          refine wpAnyH_take (i := 2) (v := ?_) rfl (by kernel_rfl) (by kernel_rfl) (by kernel_rfl) (fun _ _ _ h => h) (Or.inl ⟨by rfl, ?_⟩) hHeld ?_
          rotate_left
          · intro w hSw; obtain ⟨⟨s0, s1⟩, s2, s3⟩ := hSw; go_simp; try with_reducible rfl
          try simp only [Act.put, List.getElem_toArray, List.getElem_cons_zero, List.getElem_cons_succ, List.setIfInBounds_toArray, List.set_cons_zero, List.set_cons_succ]
          refine wpAnyH_take (i := 3) (v := ?_) rfl (by kernel_rfl) (by kernel_rfl) (by kernel_rfl) (fun _ _ _ h => h) (Or.inl ⟨by rfl, ?_⟩) hHeld ?_
          rotate_left
          · intro w hSw; obtain ⟨⟨s0, s1⟩, s2, s3⟩ := hSw; go_simp; try with_reducible rfl
          try simp only [Act.put, List.getElem_toArray, List.getElem_cons_zero, List.getElem_cons_succ, List.setIfInBounds_toArray, List.set_cons_zero, List.set_cons_succ]
          refine wpAnyH_take (i := 4) (v := ?_) rfl (by kernel_rfl) (by kernel_rfl) (by kernel_rfl) (fun _ _ _ h => h) (Or.inl ⟨by rfl, ?_⟩) hHeld ?_
          rotate_left
          · intro w hSw; obtain ⟨⟨s0, s1⟩, s2, s3⟩ := hSw; go_simp; try with_reducible rfl
          try simp only [Act.put, List.getElem_toArray, List.getElem_cons_zero, List.getElem_cons_succ, List.setIfInBounds_toArray, List.set_cons_zero, List.set_cons_succ]
          refine wpAnyH_take (i := 5) (v := ?_) rfl (by kernel_rfl) (by kernel_rfl) (by kernel_rfl) (fun _ _ _ h => h) (Or.inl ⟨by rfl, ?_⟩) hHeld ?_
          rotate_left
          · intro w hSw; obtain ⟨⟨s0, s1⟩, s2, s3⟩ := hSw; go_simp; try with_reducible rfl
          try simp only [Act.put, List.getElem_toArray, List.getElem_cons_zero, List.getElem_cons_succ, List.setIfInBounds_toArray, List.set_cons_zero, List.set_cons_succ]
          refine wpAnyH_take (i := 6) (v := ?_) rfl (by kernel_rfl) (by kernel_rfl) (by kernel_rfl) (fun _ _ _ h => h) (Or.inl ⟨by rfl, ?_⟩) hHeld ?_
          rotate_left
          · intro w hSw; obtain ⟨⟨s0, s1⟩, s2, s3⟩ := hSw; go_simp; try with_reducible rfl
          try simp only [Act.put, List.getElem_toArray, List.getElem_cons_zero, List.getElem_cons_succ, List.setIfInBounds_toArray, List.set_cons_zero, List.set_cons_succ]
          refine wpAnyH_take (i := 7) (v := ?_) rfl (by kernel_rfl) (by kernel_rfl) (by kernel_rfl) (fun _ _ _ h => h) (Or.inl ⟨by rfl, ?_⟩) hHeld ?_
          rotate_left
          · intro w hSw; obtain ⟨⟨s0, s1⟩, s2, s3⟩ := hSw; go_simp; try with_reducible rfl
          try simp only [Act.put, List.getElem_toArray, List.getElem_cons_zero, List.getElem_cons_succ, List.setIfInBounds_toArray, List.set_cons_zero, List.set_cons_succ]
          refine wpAnyH_take (i := 8) (v := ?_) rfl (by kernel_rfl) (by kernel_rfl) (by kernel_rfl) (fun _ _ _ h => h) (Or.inl ⟨by rfl, ?_⟩) hHeld ?_
          rotate_left
          · intro w hSw; obtain ⟨⟨s0, s1⟩, s2, s3⟩ := hSw; go_simp; try with_reducible rfl
          try simp only [Act.put, List.getElem_toArray, List.getElem_cons_zero, List.getElem_cons_succ, List.setIfInBounds_toArray, List.set_cons_zero, List.set_cons_succ]
          refine wpAnyH_take (i := 9) (v := ?_) rfl (by kernel_rfl) (by kernel_rfl) (by kernel_rfl) (fun _ _ _ h => h) (Or.inl ⟨by rfl, ?_⟩) hHeld ?_
          rotate_left
          · intro w hSw; obtain ⟨⟨s0, s1⟩, s2, s3⟩ := hSw; go_simp; try with_reducible rfl
          try simp only [Act.put, List.getElem_toArray, List.getElem_cons_zero, List.getElem_cons_succ, List.setIfInBounds_toArray, List.set_cons_zero, List.set_cons_succ]
          refine wpAnyH_take (i := 10) (v := ?_) rfl (by kernel_rfl) (by kernel_rfl) (by kernel_rfl) (fun _ _ _ h => h) (Or.inl ⟨by rfl, ?_⟩) hHeld ?_
          rotate_left
          · intro w hSw; obtain ⟨⟨s0, s1⟩, s2, s3⟩ := hSw; go_simp; try with_reducible rfl
          try simp only [Act.put, List.getElem_toArray, List.getElem_cons_zero, List.getElem_cons_succ, List.setIfInBounds_toArray, List.set_cons_zero, List.set_cons_succ]
          refine wpAnyH_take (i := 11) (v := ?_) rfl (by kernel_rfl) (by kernel_rfl) (by kernel_rfl) (fun _ _ _ h => h) (Or.inl ⟨by rfl, ?_⟩) hHeld ?_
          rotate_left
          · intro w hSw; obtain ⟨⟨s0, s1⟩, s2, s3⟩ := hSw; go_simp; try with_reducible rfl
          try simp only [Act.put, List.getElem_toArray, List.getElem_cons_zero, List.getElem_cons_succ, List.setIfInBounds_toArray, List.set_cons_zero, List.set_cons_succ]
          refine wpAnyH_take (i := 12) (v := ?_) rfl (by kernel_rfl) (by kernel_rfl) (by kernel_rfl) (fun _ _ _ h => h) (Or.inl ⟨by rfl, ?_⟩) hHeld ?_
          rotate_left
          · intro w hSw; obtain ⟨⟨s0, s1⟩, s2, s3⟩ := hSw; go_simp; try with_reducible rfl
          try simp only [Act.put, List.getElem_toArray, List.getElem_cons_zero, List.getElem_cons_succ, List.setIfInBounds_toArray, List.set_cons_zero, List.set_cons_succ]
          refine wpAnyH_take (i := 13) (v := ?_) rfl (by kernel_rfl) (by kernel_rfl) (by kernel_rfl) (fun _ _ _ h => h) (Or.inl ⟨by rfl, ?_⟩) hHeld ?_
          rotate_left
          · intro w hSw; obtain ⟨⟨s0, s1⟩, s2, s3⟩ := hSw; go_simp; try with_reducible rfl
          try simp only [Act.put, List.getElem_toArray, List.getElem_cons_zero, List.getElem_cons_succ, List.setIfInBounds_toArray, List.set_cons_zero, List.set_cons_succ]
          have hcell := (lies.cell A2.2.2.2.1 p).trans (cells_at us p (by rw [HUS.out]; exact hpm))
          have hfree := lies.free A2.2.2.2.1 p
          refine wpAnyH_ready (rs := [14]) (by kernel_rfl) (by simp) (AllReadyH.cons rfl (fun K hK => ?_) AllReadyH.nil)
          go_simp
          have A4 : LA n m b off cap g T (us.set p z) w (u2.setCell ⟨g, p, none⟩ (.int .i64 z)).drew := by
            have Pt := lies.on_put A2.2.2.2.1 p (.int .i64 z)
            rw [cells_set] at Pt
            have D := fun {bb : Nat} {t : TypeId} {cs : Array Value} (h : lies.Lies u2 bb t cs) (hne : bb ≠ g) => lies.on_call (lies.on_far h p hne (.int .i64 z)) (dbm.drawn1 (Below.refl _ _))
            exact ⟨D A2.1 (by omega), D A2.2.1 (by omega), D A2.2.2.1 (Ne.symm hgT), lies.on_call Pt (dbm.drawn1 (Below.refl _ _)), dbm.drawn1 (A2.2.2.2.2.setCell (p := ⟨g, p, none⟩) (Nat.le_of_lt hgw) _)⟩
          refine hK.out _ _ (HS0.out _ _ A4) (fun hNew => ?_)
          clear hHeld hK K hNew HS0 hcell hfree A2 A3
          refine wpAnyH_done (by kernel_rfl) ?_ _
          clear y1 y2 y3 y4 y5 y6 y7
          generalize (u2.setCell ⟨g, p, none⟩ (.int .i64 z)).drew = w6 at A4 ⊢
          go_wp2_with fail
          go_roundw
          case rel => exact ⟨p + 1, by omega, by go_num, by rw [HUP.out]; exact A4⟩
          case measure => simp [intOf]; omega
        · have t2 : ¬ (y : Int) < n := by omega
          have hup := HN.out (fun k => h2 k.2)
          have HUP := Lib.hid hup
          obtain ⟨c0, c1, c2, c3, c4⟩ := lies.two A2.1
          clear hup HY HN h1 h2
          go_wp2_with fail
          go_roundw
          case rel => exact ⟨p + 1, by omega, by go_num, by rw [HUP.out]; exact A2⟩
          case measure => simp [intOf]; omega
      · have t1 : ¬ (x : Int) < n := by omega
        have hup := HN.out (fun k => h1 k.1)
        have HUP := Lib.hid hup
        obtain ⟨c0, c1, c2, c3, c4⟩ := lies.two A2.1
        clear hup HY HN h1
        go_wp2_with fail
        go_roundw
        case rel => exact ⟨p + 1, by omega, by go_num, by rw [HUP.out]; exact A2⟩
        case measure => simp [intOf]; omega
    · obtain rfl : m * m = p := by omega
      rw [mixT_all] at hA
      obtain ⟨c0, c1, c2, c3, c4⟩ := lies.two hA.2.2.1
      obtain ⟨x0, x1, x2, x3, x4⟩ := lies.two hA.2.1
      go_wp2_with fail
      refine bodyPost_ret (v := .agg #[.int .i64 m, .slice (some ⟨g, 0, none⟩) (m * m) (m * m)]) (by simp [results, Try.results26, go_sem, x0, x1]) rfl ⟨dref.ret_res hA.2.2.2.2 (by omega) _ _, g, by omega, rfl, lies.on_far (lies.on_far hA.2.2.2.1 (b := w.heap.size + 1) 0 (by omega) _) (b := w.heap.size + 1) 1 (by omega) _⟩

set_option maxRecDepth 100000 in
set_option maxHeartbeats 8000000 in
theorem laidG_is (n m b off cap : Nat) (wh : Nat → Nat) (ts : List Int) (w : World) (hn : n ≤ 4) (h0 : 0 < m) (hm : m ≤ 4) (hr : Row w b off ts) (hb : b < w.heap.size) (hl : ts.length = n * n) (hw : ∀ i, i < m → wh i ≤ 4)
    (hF : ∀ i, i < m → ∀ W, Below w.heap.size w W → Calls Try.prog 29 #[.int .i64 (i : Int)] W fun e w' => e = .returned (.int .i64 (wh i : Int)) ∧ Below W.heap.size W w') :
    Calls Try.prog 26 #[.agg #[.int .i64 n, .slice (some ⟨b, off, none⟩) (n * n) cap], .int .i64 m, .func (.func 29) #[] #[]] w fun e w' => Below w.heap.size w w' ∧ ∃ g, w.heap.size ≤ g ∧ e = .returned (.agg #[.int .i64 m, .slice (some ⟨g, 0, none⟩) (m * m) (m * m)]) ∧ lies.Lies w' g 29 (cellsOf (laidT n m wh ts)) := by
  obtain ⟨DB, D0, D1⟩ := dref.box_res n (.slice (some ⟨b, off, none⟩) (n * n) cap) w
  have HR := Lib.hid hr
  have HL := Lib.hid hl
  have HW := Lib.hid hw
  have HF := Lib.hid hF
  clear hr hl hw hF
  have hsq := sq_le hm
  have hsn := sq_le hn
  go_enter Try.func26, Try.ntmps26
  go_wp2_with fail
  refine (top_ok m _ h0 hm).mono ?_
  rintro e w2 ⟨hB2, g, hg2, rfl, hG⟩
  rw [mixT_zero (n := n) h0 hm wh ts] at hG
  have E0 := lies.on_call D0 hB2
  have E1 := lies.on_call D1 hB2
  have K2 := DB.trans (hB2.mono DB.size)
  have hw1 := lies.lt E1
  clear D0 D1 hB2
  go_wp2_with fail
  have W0 : LA n m b off cap g w2.heap.size (mixT n m wh ts 0) w (w2.alloc (.cells #[.int .i64 m, .slice (some ⟨g, 0, none⟩) (m * m) (m * m)] 24)) :=
    ⟨lies.on_alloc E0 _, lies.on_alloc E1 _, lies.made _ _ _, lies.on_alloc hG _, K2.alloc K2.size _⟩
  have hgT : g ≠ w2.heap.size := by have := lies.lt hG; omega
  have hgw : w.heap.size < g := by have := DB.size; simp at hg2; omega
  have hgw1 : w.heap.size + 1 < g := by simp at hg2; omega
  have hTw : w.heap.size + 1 < w2.heap.size := by omega
  clear E0 E1 K2 hG hw1 DB hg2
  generalize w2.heap.size = T at W0 hgT hTw ⊢
  generalize w2.alloc (.cells #[.int .i64 m, .slice (some ⟨g, 0, none⟩) (m * m) (m * m)] 24) = w3 at W0 ⊢
  obtain ⟨d0, d1, d2, d3, d4⟩ := lies.two W0.2.2.1
  go_wp2_with fail
  clear d0 d1 d2 d3 d4
  go_loopw [20] (fun i wr => ∃ p : Nat, p ≤ m * m ∧ i = .int .i64 p ∧ LA n m b off cap g T (mixT n m wh ts p) w wr) (fun i _ => m * m - (intOf i).toNat)
  case atStart => exact ⟨0, Nat.zero_le _, rfl, W0⟩
  case round =>
    clear W0
    obtain ⟨p, hp, rfl, hA⟩ := hrel
    by_cases hpm : p < m * m
    · have hP : p / m < m := (Nat.div_lt_iff_lt_mul h0).2 hpm
      have hQ : p % m < m := Nat.mod_lt p h0
      have HF1 := Lib.hid (HF.out (p / m) hP)
      have HF2 := Lib.hid (HF.out (p % m) hQ)
      have hw1 := HW.out (p / m) hP
      have hw2 := HW.out (p % m) hQ
      have hY := mixT_yes (n := n) (wh := wh) (ts := ts) hpm
      have hN := mixT_no (n := n) (m := m) (wh := wh) (ts := ts) (p := p)
      have q1 : (p : Int) / m = ((p / m : Nat) : Int) := (Int.natCast_ediv p m).symm
      have q2 : (p : Int).tmod m = ((p % m : Nat) : Int) := by rw [Int.tmod_eq_emod_of_nonneg (by omega)]; exact (Int.natCast_emod p m).symm
      have hPp : p / m ≤ p := Nat.div_le_self _ _
      generalize hx : wh (p / m) = x at hw1 hY hN HF1
      generalize hy : wh (p % m) = y at hw2 hY hN HF2
      clear hx hy
      generalize p / m = P at q1 hP HF1 hPp
      generalize p % m = Q at q2 hQ HF2
      have q3 : ¬ m = 0 := by omega
      have q4 : IntKind.i64.wrap (P : Int) = P := IntWalk.i64_in _ ⟨by omega, by omega⟩
      have q5 := q4
      rw [IntWalk.i64_left] at q5
      have hpp : (p : Int) < (m : Int) * m := by rw [← Int.natCast_mul]; omega
      have HY := Lib.hid hY
      have HN := Lib.hid hN
      clear hY hN
      go_wp2_with fail
      refine wp_region_held_drew (S := Below wr.heap.size wr) (by kernel_rfl) (dbm.drawn1 (Below.refl _ _)) (fun hHeld => ?_)
      refine wpAnyH_take (i := 0) (v := ?_) rfl (by kernel_rfl) (by kernel_rfl) (by kernel_rfl) (fun _ _ _ h => h) (Or.inl ⟨by rfl, ?_⟩) hHeld ?_
      rotate_left
      · intro w hSw; skip; go_simp; try with_reducible rfl
      try simp only [Act.put, List.getElem_toArray, List.getElem_cons_zero, List.getElem_cons_succ, List.setIfInBounds_toArray, List.set_cons_zero, List.set_cons_succ]
      refine wpAnyH_take (i := 1) (v := ?_) rfl (by kernel_rfl) (by kernel_rfl) (by kernel_rfl) (fun _ _ _ h => h) (Or.inl ⟨by rfl, ?_⟩) hHeld ?_
      rotate_left
      · intro w hSw; skip; go_simp; try with_reducible rfl
      try simp only [Act.put, List.getElem_toArray, List.getElem_cons_zero, List.getElem_cons_succ, List.setIfInBounds_toArray, List.set_cons_zero, List.set_cons_succ]
      refine wpAnyH_take (i := 2) (v := ?_) rfl (by kernel_rfl) (by kernel_rfl) (by kernel_rfl) (fun _ _ _ h => h) (Or.inl ⟨by rfl, ?_⟩) hHeld ?_
      rotate_left
      · intro w hSw; skip; go_simp; try with_reducible rfl
      try simp only [Act.put, List.getElem_toArray, List.getElem_cons_zero, List.getElem_cons_succ, List.setIfInBounds_toArray, List.set_cons_zero, List.set_cons_succ]
      refine wpAnyH_take (i := 3) (v := ?_) rfl (by kernel_rfl) (by kernel_rfl) (by kernel_rfl) (fun _ _ _ h => h) (Or.inl ⟨by rfl, ?_⟩) hHeld ?_
      rotate_left
      · intro w hSw; skip; go_simp; try with_reducible rfl
      try simp only [Act.put, List.getElem_toArray, List.getElem_cons_zero, List.getElem_cons_succ, List.setIfInBounds_toArray, List.set_cons_zero, List.set_cons_succ]
      refine wpAnyH_take (i := 5) (v := ?_) rfl (by kernel_rfl) (by kernel_rfl) (by kernel_rfl) (fun _ _ _ h => h) (Or.inl ⟨by rfl, ?_⟩) hHeld ?_
      rotate_left
      · intro w hSw; skip; go_simp; try with_reducible rfl
      try simp only [Act.put, List.getElem_toArray, List.getElem_cons_zero, List.getElem_cons_succ, List.setIfInBounds_toArray, List.set_cons_zero, List.set_cons_succ]
      refine wpAnyH_take (i := 6) (v := ?_) rfl (by kernel_rfl) (by kernel_rfl) (by kernel_rfl) (fun _ _ _ h => h) (Or.inl ⟨by rfl, ?_⟩) hHeld ?_
      rotate_left
      · intro w hSw; skip; go_simp; try with_reducible rfl
      try simp only [Act.put, List.getElem_toArray, List.getElem_cons_zero, List.getElem_cons_succ, List.setIfInBounds_toArray, List.set_cons_zero, List.set_cons_succ]
      refine wpAnyH_take (i := 7) (v := ?_) rfl (by kernel_rfl) (by kernel_rfl) (by kernel_rfl) (fun _ _ _ h => h) (Or.inl ⟨by rfl, ?_⟩) hHeld ?_
      rotate_left
      · intro w hSw; skip; go_simp; try with_reducible rfl
      try simp only [Act.put, List.getElem_toArray, List.getElem_cons_zero, List.getElem_cons_succ, List.setIfInBounds_toArray, List.set_cons_zero, List.set_cons_succ]
      refine wpAnyH_take (i := 8) (v := ?_) rfl (by kernel_rfl) (by kernel_rfl) (by kernel_rfl) (fun _ _ _ h => h) (Or.inl ⟨by rfl, ?_⟩) hHeld ?_
      rotate_left
      · intro w hSw; skip; go_simp; try with_reducible rfl
      try simp only [Act.put, List.getElem_toArray, List.getElem_cons_zero, List.getElem_cons_succ, List.setIfInBounds_toArray, List.set_cons_zero, List.set_cons_succ]
      refine wpAnyH_ready (rs := [4]) (by kernel_rfl) (by simp) (AllReadyH.cons rfl (fun K hK => ?_) AllReadyH.nil)
      go_simp
      refine (HF1.out _ (hA.2.2.2.2.trans (hHeld.mono hA.2.2.2.2.size))).mono ?_
      rintro e u1 ⟨rfl, hB⟩
      refine hK.out _ _ (hHeld.trans (hB.mono hHeld.size)) (fun hNew => ?_)
      clear hB
      clear hHeld hK K
      have hHeld := hNew
      clear hNew
      try simp only [Act.put, List.getElem_toArray, List.getElem_cons_zero, List.getElem_cons_succ, List.setIfInBounds_toArray, List.set_cons_zero, List.set_cons_succ]
      refine wpAnyH_ready (rs := [9]) (by kernel_rfl) (by simp) (AllReadyH.cons rfl (fun K hK => ?_) AllReadyH.nil)
      go_simp
      refine (HF2.out _ (hA.2.2.2.2.trans (hHeld.mono hA.2.2.2.2.size))).mono ?_
      rintro e u2 ⟨rfl, hB⟩
      refine hK.out _ _ (hHeld.trans (hB.mono hHeld.size)) (fun hNew => ?_)
      clear hB
      clear hHeld hK K
      have hHeld := hNew
      clear hNew
      try simp only [Act.put, List.getElem_toArray, List.getElem_cons_zero, List.getElem_cons_succ, List.setIfInBounds_toArray, List.set_cons_zero, List.set_cons_succ]
      refine wpAnyH_take (i := 10) (v := ?_) rfl (by kernel_rfl) (by kernel_rfl) (by kernel_rfl) (fun _ _ _ h => h) (Or.inl ⟨by rfl, ?_⟩) hHeld ?_
      rotate_left
      · intro w hSw; skip; go_simp; try with_reducible rfl
      try simp only [Act.put, List.getElem_toArray, List.getElem_cons_zero, List.getElem_cons_succ, List.setIfInBounds_toArray, List.set_cons_zero, List.set_cons_succ]
      refine wpAnyH_take (i := 11) (v := ?_) rfl (by kernel_rfl) (by kernel_rfl) (by kernel_rfl) (fun _ _ _ h => h) (Or.inl ⟨by rfl, ?_⟩) hHeld ?_
      rotate_left
      · intro w hSw; skip; go_simp; try with_reducible rfl
      try simp only [Act.put, List.getElem_toArray, List.getElem_cons_zero, List.getElem_cons_succ, List.setIfInBounds_toArray, List.set_cons_zero, List.set_cons_succ]
      refine wpAnyH_done (by kernel_rfl) ?_ _
      have A2 := hA.below hHeld
      clear hA hHeld q1 q2 q3 q4 q5 hP hQ hPp
      clear HF1 HF2
      by_cases h1 : x < n
      · have t1 : (x : Int) < n := by omega
        by_cases h2 : y < n
        · have t2 : (y : Int) < n := by omega
          have hup := HY.out h1 h2
          have hpl := place_le hn h1 h2
          have hz := HR.out (x * n + y) (by rw [HL.out]; exact hpl)
          unfold tat at hup
          generalize ts[x * n + y]?.getD 0 = z at hz hup
          have hus := mixT_length n m wh ts p
          generalize mixT n m wh ts p = us at A2 hup hus
          have HUP := Lib.hid hup
          have HUS := Lib.hid hus
          obtain ⟨y1, y2, y3, y4, y5, y6, y7⟩ := dref.place_int hn h1 h2
          obtain ⟨c0, c1, c2, c3, c4⟩ := lies.two A2.1
          have hbl := Nat.lt_of_lt_of_le hb A2.2.2.2.2.size
          have hgg := lies.lt A2.2.2.2.1
          clear hup hus h1 h2 HY HN
          go_wp2_with fail
          clear c0 c1 c2 c3 c4
          have S0 : ∀ (vs : List Int) W, LA n m b off cap g T vs w W → (W.cell? ⟨w.heap.size, 0, none⟩ = some (.int .i64 n) ∧ W.cell? ⟨w.heap.size, 1, none⟩ = some (.slice (some ⟨b, off, none⟩) (n * n) cap)) ∧ W.cell? ⟨T, 1, none⟩ = some (.slice (some ⟨g, 0, none⟩) (m * m) (m * m)) ∧ W.cell? ⟨b, off + (x * n + y), none⟩ = some (.int .i64 z) := fun vs W hW => ⟨lies.pair hW.1, (lies.pair hW.2.2.1).2, (hW.2.2.2.2.cell (p := ⟨b, off + (x * n + y), none⟩) hb).trans hz⟩
          have A3 := A2.below (dbm.drawn1 (Below.refl u2.heap.size u2))
          have HS0 := Lib.hid S0
          have hs3 := S0 _ _ A3
          clear S0 hz
          refine wp_region_held_drew (S := fun W => (W.cell? ⟨w.heap.size, 0, none⟩ = some (.int .i64 n) ∧ W.cell? ⟨w.heap.size, 1, none⟩ = some (.slice (some ⟨b, off, none⟩) (n * n) cap)) ∧ W.cell? ⟨T, 1, none⟩ = some (.slice (some ⟨g, 0, none⟩) (m * m) (m * m)) ∧ W.cell? ⟨b, off + (x * n + y), none⟩ = some (.int .i64 z)) (by kernel_rfl) hs3 (fun hHeld => ?_)
          clear hs3
          refine wpAnyH_take (i := 0) (v := ?_) rfl (by kernel_rfl) (by kernel_rfl) (by kernel_rfl) (fun _ _ _ h => h) (Or.inl ⟨by rfl, ?_⟩) hHeld ?_
          rotate_left
          · intro w hSw; obtain ⟨⟨s0, s1⟩, s2, s3⟩ := hSw; go_simp; try with_reducible rfl
          try simp only [Act.put, List.getElem_toArray, List.getElem_cons_zero, List.getElem_cons_succ, List.setIfInBounds_toArray, List.set_cons_zero, List.set_cons_succ]
          refine wpAnyH_take (i := 1) (v := ?_) rfl (by kernel_rfl) (by kernel_rfl) (by kernel_rfl) (fun _ _ _ h => h) (Or.inl ⟨by rfl, ?_⟩) hHeld ?_
          rotate_left
          · intro w hSw; obtain ⟨⟨s0, s1⟩, s2, s3⟩ := hSw; go_simp; try with_reducible rfl
          try simp only [Act.put, List.getElem_toArray, List.getElem_cons_zero, List.getElem_cons_succ, List.setIfInBounds_toArray, List.set_cons_zero, List.set_cons_succ]
          refine wpAnyH_take (i := 2) (v := ?_) rfl (by kernel_rfl) (by kernel_rfl) (by kernel_rfl) (fun _ _ _ h => h) (Or.inl ⟨by rfl, ?_⟩) hHeld ?_
          rotate_left
          · intro w hSw; obtain ⟨⟨s0, s1⟩, s2, s3⟩ := hSw; go_simp; try with_reducible rfl
          try simp only [Act.put, List.getElem_toArray, List.getElem_cons_zero, List.getElem_cons_succ, List.setIfInBounds_toArray, List.set_cons_zero, List.set_cons_succ]
          refine wpAnyH_take (i := 3) (v := ?_) rfl (by kernel_rfl) (by kernel_rfl) (by kernel_rfl) (fun _ _ _ h => h) (Or.inl ⟨by rfl, ?_⟩) hHeld ?_
          rotate_left
          · intro w hSw; obtain ⟨⟨s0, s1⟩, s2, s3⟩ := hSw; go_simp; try with_reducible rfl
          try simp only [Act.put, List.getElem_toArray, List.getElem_cons_zero, List.getElem_cons_succ, List.setIfInBounds_toArray, List.set_cons_zero, List.set_cons_succ]
          refine wpAnyH_take (i := 4) (v := ?_) rfl (by kernel_rfl) (by kernel_rfl) (by kernel_rfl) (fun _ _ _ h => h) (Or.inl ⟨by rfl, ?_⟩) hHeld ?_
          rotate_left
          · intro w hSw; obtain ⟨⟨s0, s1⟩, s2, s3⟩ := hSw; go_simp; try with_reducible rfl
          try simp only [Act.put, List.getElem_toArray, List.getElem_cons_zero, List.getElem_cons_succ, List.setIfInBounds_toArray, List.set_cons_zero, List.set_cons_succ]
          refine wpAnyH_take (i := 5) (v := ?_) rfl (by kernel_rfl) (by kernel_rfl) (by kernel_rfl) (fun _ _ _ h => h) (Or.inl ⟨by rfl, ?_⟩) hHeld ?_
          rotate_left
          · intro w hSw; obtain ⟨⟨s0, s1⟩, s2, s3⟩ := hSw; go_simp; try with_reducible rfl
          try simp only [Act.put, List.getElem_toArray, List.getElem_cons_zero, List.getElem_cons_succ, List.setIfInBounds_toArray, List.set_cons_zero, List.set_cons_succ]
          refine wpAnyH_take (i := 6) (v := ?_) rfl (by kernel_rfl) (by kernel_rfl) (by kernel_rfl) (fun _ _ _ h => h) (Or.inl ⟨by rfl, ?_⟩) hHeld ?_
          rotate_left
          · intro w hSw; obtain ⟨⟨s0, s1⟩, s2, s3⟩ := hSw; go_simp; try with_reducible rfl
          try simp only [Act.put, List.getElem_toArray, List.getElem_cons_zero, List.getElem_cons_succ, List.setIfInBounds_toArray, List.set_cons_zero, List.set_cons_succ]
          refine wpAnyH_take (i := 7) (v := ?_) rfl (by kernel_rfl) (by kernel_rfl) (by kernel_rfl) (fun _ _ _ h => h) (Or.inl ⟨by rfl, ?_⟩) hHeld ?_
          rotate_left
          · intro w hSw; obtain ⟨⟨s0, s1⟩, s2, s3⟩ := hSw; go_simp; try with_reducible rfl
          try simp only [Act.put, List.getElem_toArray, List.getElem_cons_zero, List.getElem_cons_succ, List.setIfInBounds_toArray, List.set_cons_zero, List.set_cons_succ]
          refine wpAnyH_take (i := 8) (v := ?_) rfl (by kernel_rfl) (by kernel_rfl) (by kernel_rfl) (fun _ _ _ h => h) (Or.inl ⟨by rfl, ?_⟩) hHeld ?_
          rotate_left
          · intro w hSw; obtain ⟨⟨s0, s1⟩, s2, s3⟩ := hSw; go_simp; try with_reducible rfl
          try simp only [Act.put, List.getElem_toArray, List.getElem_cons_zero, List.getElem_cons_succ, List.setIfInBounds_toArray, List.set_cons_zero, List.set_cons_succ]
          refine wpAnyH_take (i := 9) (v := ?_) rfl (by kernel_rfl) (by kernel_rfl) (by kernel_rfl) (fun _ _ _ h => h) (Or.inl ⟨by rfl, ?_⟩) hHeld ?_
          rotate_left
          · intro w hSw; obtain ⟨⟨s0, s1⟩, s2, s3⟩ := hSw; go_simp; try with_reducible rfl
          try simp only [Act.put, List.getElem_toArray, List.getElem_cons_zero, List.getElem_cons_succ, List.setIfInBounds_toArray, List.set_cons_zero, List.set_cons_succ]
          refine wpAnyH_take (i := 10) (v := ?_) rfl (by kernel_rfl) (by kernel_rfl) (by kernel_rfl) (fun _ _ _ h => h) (Or.inl ⟨by rfl, ?_⟩) hHeld ?_
          rotate_left
          · intro w hSw; obtain ⟨⟨s0, s1⟩, s2, s3⟩ := hSw; go_simp; try with_reducible rfl
          try simp only [Act.put, List.getElem_toArray, List.getElem_cons_zero, List.getElem_cons_succ, List.setIfInBounds_toArray, List.set_cons_zero, List.set_cons_succ]
          refine wpAnyH_take (i := 11) (v := ?_) rfl (by kernel_rfl) (by kernel_rfl) (by kernel_rfl) (fun _ _ _ h => h) (Or.inl ⟨by rfl, ?_⟩) hHeld ?_
          rotate_left
          · intro w hSw; obtain ⟨⟨s0, s1⟩, s2, s3⟩ := hSw; go_simp; try with_reducible rfl
          try simp only [Act.put, List.getElem_toArray, List.getElem_cons_zero, List.getElem_cons_succ, List.setIfInBounds_toArray, List.set_cons_zero, List.set_cons_succ]
          refine wpAnyH_take (i := 12) (v := ?_) rfl (by kernel_rfl) (by kernel_rfl) (by kernel_rfl) (fun _ _ _ h => h) (Or.inl ⟨by rfl, ?_⟩) hHeld ?_
          rotate_left
          · intro w hSw; obtain ⟨⟨s0, s1⟩, s2, s3⟩ := hSw; go_simp; try with_reducible rfl
          try simp only [Act.put, List.getElem_toArray, List.getElem_cons_zero, List.getElem_cons_succ, List.setIfInBounds_toArray, List.set_cons_zero, List.set_cons_succ]
          refine wpAnyH_take (i := 13) (v := ?_) rfl (by kernel_rfl) (by kernel_rfl) (by kernel_rfl) (fun _ _ _ h => h) (Or.inl ⟨by rfl, ?_⟩) hHeld ?_
          rotate_left
          · intro w hSw; obtain ⟨⟨s0, s1⟩, s2, s3⟩ := hSw; go_simp; try with_reducible rfl
          try simp only [Act.put, List.getElem_toArray, List.getElem_cons_zero, List.getElem_cons_succ, List.setIfInBounds_toArray, List.set_cons_zero, List.set_cons_succ]
          have hcell := (lies.cell A2.2.2.2.1 p).trans (cells_at us p (by rw [HUS.out]; exact hpm))
          have hfree := lies.free A2.2.2.2.1 p
          refine wpAnyH_ready (rs := [14]) (by kernel_rfl) (by simp) (AllReadyH.cons rfl (fun K hK => ?_) AllReadyH.nil)
          go_simp
          have A4 : LA n m b off cap g T (us.set p z) w (u2.setCell ⟨g, p, none⟩ (.int .i64 z)).drew := by
            have Pt := lies.on_put A2.2.2.2.1 p (.int .i64 z)
            rw [cells_set] at Pt
            have D := fun {bb : Nat} {t : TypeId} {cs : Array Value} (h : lies.Lies u2 bb t cs) (hne : bb ≠ g) => lies.on_call (lies.on_far h p hne (.int .i64 z)) (dbm.drawn1 (Below.refl _ _))
            exact ⟨D A2.1 (by omega), D A2.2.1 (by omega), D A2.2.2.1 (Ne.symm hgT), lies.on_call Pt (dbm.drawn1 (Below.refl _ _)), dbm.drawn1 (A2.2.2.2.2.setCell (p := ⟨g, p, none⟩) (Nat.le_of_lt hgw) _)⟩
          refine hK.out _ _ (HS0.out _ _ A4) (fun hNew => ?_)
          clear hHeld hK K hNew HS0 hcell hfree A2 A3
          refine wpAnyH_done (by kernel_rfl) ?_ _
          clear y1 y2 y3 y4 y5 y6 y7
          generalize (u2.setCell ⟨g, p, none⟩ (.int .i64 z)).drew = w6 at A4 ⊢
          go_wp2_with fail
          go_roundw
          case rel => exact ⟨p + 1, by omega, by go_num, by rw [HUP.out]; exact A4⟩
          case measure => simp [intOf]; omega
        · have t2 : ¬ (y : Int) < n := by omega
          have hup := HN.out (fun k => h2 k.2)
          have HUP := Lib.hid hup
          obtain ⟨c0, c1, c2, c3, c4⟩ := lies.two A2.1
          clear hup HY HN h1 h2
          go_wp2_with fail
          go_roundw
          case rel => exact ⟨p + 1, by omega, by go_num, by rw [HUP.out]; exact A2⟩
          case measure => simp [intOf]; omega
      · have t1 : ¬ (x : Int) < n := by omega
        have hup := HN.out (fun k => h1 k.1)
        have HUP := Lib.hid hup
        obtain ⟨c0, c1, c2, c3, c4⟩ := lies.two A2.1
        clear hup HY HN h1
        go_wp2_with fail
        go_roundw
        case rel => exact ⟨p + 1, by omega, by go_num, by rw [HUP.out]; exact A2⟩
        case measure => simp [intOf]; omega
    · obtain rfl : m * m = p := by omega
      rw [mixT_all] at hA
      obtain ⟨c0, c1, c2, c3, c4⟩ := lies.two hA.2.2.1
      obtain ⟨x0, x1, x2, x3, x4⟩ := lies.two hA.2.1
      go_wp2_with fail
      refine bodyPost_ret (v := .agg #[.int .i64 m, .slice (some ⟨g, 0, none⟩) (m * m) (m * m)]) (by simp [results, Try.results26, go_sem, x0, x1]) rfl ⟨dref.ret_res hA.2.2.2.2 (by omega) _ _, g, by omega, rfl, lies.on_far (lies.on_far hA.2.2.2.1 (b := w.heap.size + 1) 0 (by omega) _) (b := w.heap.size + 1) 1 (by omega) _⟩
end Go.Proofs.Ytikjkmhnimpbhaa.proj
