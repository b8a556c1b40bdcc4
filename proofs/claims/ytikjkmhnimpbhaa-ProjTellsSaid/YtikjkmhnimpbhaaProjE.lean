/-
  What the document's own More, MayOrder, Drop, Grow and Move of layer 7 answer; each theorem names its conditions.
-/
import Derived.Test.YtikjkmhnimpbhaaProjD
import Derived.Test.YtikjkmhnimpbhaaDbmE
namespace Go.Proofs.Ytikjkmhnimpbhaa.pref
open Go.Joins Go.ChangeShapes Go.WideShapes Go.ChangeAt Go.RowKit num rat dbm Go.Proofs.Ytikjkmhnimpbhaa.tight Go.Proofs.Ytikjkmhnimpbhaa.proj
open bound hiding up
set_option linter.unusedVariables false
set_option linter.unusedSimpArgs false

/-- what More has laid out ahead of a place. -/
def moreT (n m : Nat) (ts : List Int) (i j : Nat) : List Int := (List.range (m * m)).map fun q => if q / m < n ∧ q % m < n ∧ (q / m < i ∨ (q / m = i ∧ q % m < j)) then tat ts n (q / m) (q % m) else if q / m = q % m then 1 else 9223372036854775807
theorem moreT_length (n m : Nat) (ts : List Int) (i j : Nat) : (moreT n m ts i j).length = m * m := by simp [moreT]
theorem moreT_at (n m : Nat) (ts : List Int) (i j : Nat) {q : Nat} (h : q < m * m) : (moreT n m ts i j)[q]?.getD 0 = if q / m < n ∧ q % m < n ∧ (q / m < i ∨ (q / m = i ∧ q % m < j)) then tat ts n (q / m) (q % m) else if q / m = q % m then 1 else 9223372036854775807 := by
  simp [moreT, h]
theorem moreT_zero (n m : Nat) (ts : List Int) : moreT n m ts 0 0 = dref.allP m (m * m) := by
  unfold moreT dref.allP
  refine List.map_congr_left fun q _ => ?_
  rw [if_neg (fun h => by
    rcases h.2.2 with h | h
    · exact absurd h (Nat.not_lt_zero _)
    · exact absurd h.2 (Nat.not_lt_zero _))]
theorem moreT_next (n m : Nat) (ts : List Int) (i : Nat) : moreT n m ts i n = moreT n m ts (i + 1) 0 := by
  unfold moreT
  refine List.map_congr_left fun q _ => ?_
  have c : (q / m < n ∧ q % m < n ∧ (q / m < i ∨ (q / m = i ∧ q % m < n))) = (q / m < n ∧ q % m < n ∧ (q / m < i + 1 ∨ (q / m = i + 1 ∧ q % m < 0))) := propext ⟨fun h => ⟨h.1, h.2.1, by have := h.2.2; have := h.2.1; omega⟩, fun h => ⟨h.1, h.2.1, by have := h.2.2; have := h.2.1; omega⟩⟩
  simp only [c]
theorem moreT_all (n : Nat) (ts : List Int) : moreT n (n + 1) ts n 0 = growT n ts := by
  unfold moreT growT laidT
  refine List.map_congr_left fun q _ => ?_
  have c : (q / (n + 1) < n ∧ q % (n + 1) < n ∧ (q / (n + 1) < n ∨ (q / (n + 1) = n ∧ q % (n + 1) < 0))) = (q / (n + 1) < n ∧ q % (n + 1) < n) := propext ⟨fun h => ⟨h.1, h.2.1⟩, fun h => ⟨h.1, h.2, .inl h.1⟩⟩
  simp only [c]
theorem moreT_up {n m i j : Nat} (ts : List Int) (hi : i < n) (hj : j < n) (hm : n ≤ m) : moreT n m ts i (j + 1) = (moreT n m ts i j).set (i * m + j) (tat ts n i j) := by
  refine list_at (by rw [List.length_set, moreT_length, moreT_length]) fun q hq => ?_
  rw [moreT_length] at hq
  rw [List.getElem?_set, moreT_at _ _ _ _ _ hq]
  by_cases e : i * m + j = q
  · subst e
    obtain ⟨e1, e2⟩ := place_div (m := m) (i := i) (j := j) (by omega)
    rw [if_pos rfl, if_pos (show i * m + j < (moreT n m ts i j).length by rw [moreT_length]; exact hq), e1, e2, if_pos (show i < n ∧ j < n ∧ (i < i ∨ (i = i ∧ j < j + 1)) from ⟨hi, hj, .inr ⟨rfl, by omega⟩⟩)]
    rfl
  · have hq2 : q / m * m + q % m = q := by rw [Nat.mul_comm]; exact Nat.div_add_mod q m
    have hne : ¬ (q / m = i ∧ q % m = j) := fun h => e (by rw [h.1, h.2] at hq2; exact hq2)
    rw [if_neg e, moreT_at _ _ _ _ _ hq]
    have c : (q / m < n ∧ q % m < n ∧ (q / m < i ∨ (q / m = i ∧ q % m < j + 1))) = (q / m < n ∧ q % m < n ∧ (q / m < i ∨ (q / m = i ∧ q % m < j))) := propext ⟨fun h => ⟨h.1, h.2.1, by have := h.2.2; omega⟩, fun h => ⟨h.1, h.2.1, by have := h.2.2; omega⟩⟩
    simp only [c]
/-- what lies there while a clock more is laid out. -/
def MI (n m b off cap g cc T B : Nat) (us : List Int) (w W : World) : Prop := lies.Lies W w.heap.size 24 #[.int .i64 n, .slice (some ⟨b, off, none⟩) (n * n) cap] ∧ lies.Lies W (w.heap.size + 1) 24 #[.int .i64 0, .slice none 0 0] ∧ lies.Lies W T 24 #[.int .i64 m, .slice (some ⟨g, 0, none⟩) (m * m) cc] ∧ W.ownsRow B 29 1 (.slice (some ⟨g, 0, none⟩) (m * m) cc) (m * m) (us.map (Value.int .i64)) ∧ Below w.heap.size w W
set_option maxRecDepth 100000 in
set_option maxHeartbeats 8000000 in
theorem more_at (n m b off cap : Nat) (ts : List Int) (w : World) (h0 : 0 < n) (hm : n + 1 = m) (hn : m ≤ 4) (hr : Row w b off ts) (hb : b < w.heap.size) (hl : ts.length = n * n) :
    Calls Try.prog 33 #[.agg #[.int .i64 n, .slice (some ⟨b, off, none⟩) (n * n) cap]] w fun e w' => Below w.heap.size w w' ∧ ∃ g cc, e = .returned (.agg #[.int .i64 m, .slice (some ⟨g, 0, none⟩) (m * m) cc]) ∧ Row w' g 0 (moreT n m ts n 0) ∧ g < w'.heap.size ∧ w.heap.size ≤ g := by
  obtain ⟨DB, D0, D1⟩ := dref.box_res n (.slice (some ⟨b, off, none⟩) (n * n) cap) w
  have HR := Lib.hid hr
  have HL := Lib.hid hl
  clear hr hl
  have hsq : m * m ≤ 16 := sq_le (by omega)
  have hpp : 0 < m * m := Nat.mul_pos (by omega) (by omega)
  have h0m : 0 < m := by omega
  have hnm : n < m := by omega
  have z1 : wrap64 ((n : Int) + 1) = (m : Int) := by rw [IntWalk.wrap64_in _ ⟨by omega, by omega⟩]; omega
  have z2 : IntKind.i64.wrap ((n : Int) + 1) = (m : Int) := by rw [IntWalk.i64_in _ ⟨by omega, by omega⟩]; omega
  have HMM := Lib.hid hm
  clear hm
  go_enter Try.func33, Try.ntmps33
  obtain ⟨x0, x1, x2, x3, x4⟩ := lies.two D0
  go_wp2_with fail
  clear x0 x1 x2 x3 x4 z1 z2
  refine (dref.all_is m _ h0m hn).mono ?_
  rintro e w1 ⟨hB, v, rfl, hO⟩
  obtain ⟨g, cc, rfl⟩ : ∃ g cc, v = .slice (some ⟨g, 0, none⟩) (m * m) cc := by
    rcases Go.Joins.ownsRow_forms hO with ⟨_, h⟩ | ⟨g, gc, h⟩
    · omega
    · exact ⟨g, gc, h⟩
  rw [← moreT_zero n m ts] at hO
  have hg1 := (hO.lt g rfl).1
  have hg2 := (hO.lt g rfl).2
  have E0 := lies.on_alloc (lies.on_call D0 hB) (.cells #[.int .i64 m, .slice (some ⟨g, 0, none⟩) (m * m) cc] 24)
  have E1 := lies.on_alloc (lies.on_call D1 hB) (.cells #[.int .i64 m, .slice (some ⟨g, 0, none⟩) (m * m) cc] 24)
  have ET := lies.made w1 24 #[.int .i64 m, .slice (some ⟨g, 0, none⟩) (m * m) cc]
  have EB := lies.frame_up (DB.trans (hB.mono DB.size)) (.cells #[.int .i64 m, .slice (some ⟨g, 0, none⟩) (m * m) cc] 24)
  have EO := hO.alloc (.cells #[.int .i64 m, .slice (some ⟨g, 0, none⟩) (m * m) cc] 24)
  have hsz := hB.size
  have hw1 := lies.lt D1
  have M0 : MI n m b off cap g cc w1.heap.size _ (moreT n m ts 0 0) w _ := ⟨E0, E1, ET, EO, EB⟩
  clear E0 E1 ET EB EO hO hB D0 D1 DB
  go_wp2_with fail
  have hT1 : w.heap.size + 1 < w1.heap.size := by omega
  simp only [World.size_alloc] at hg1 M0
  have hgw : w.heap.size + 1 < g := by omega
  have hgT : g ≠ w1.heap.size := by omega
  clear hsz hg1 hg2 hw1
  generalize w1.heap.size = T at M0 hT1 hgT ⊢
  generalize w1.alloc (.cells #[.int .i64 m, .slice (some ⟨g, 0, none⟩) (m * m) cc] 24) = w2 at M0 ⊢
  go_loopw [4] (fun iv wr => ∃ i : Nat, i ≤ n ∧ iv = .int .i64 i ∧ MI n m b off cap g cc T (w.heap.size + 1 + 1) (moreT n m ts i 0) w wr) (fun iv _ => n - (intOf iv).toNat)
  case atStart => exact ⟨0, Nat.zero_le _, rfl, M0⟩
  case round =>
    clear M0
    obtain ⟨i, hi, rfl, hA⟩ := hrel
    by_cases hin : i < n
    · obtain ⟨y0, y1, y2, y3, y4⟩ := lies.two hA.1
      go_wp2_with fail
      clear y0 y1 y2 y3 y4
      go_loopw [5] (fun jv wr => ∃ j : Nat, j ≤ n ∧ jv = .int .i64 j ∧ MI n m b off cap g cc T (w.heap.size + 1 + 1) (moreT n m ts i j) w wr) (fun jv _ => n - (intOf jv).toNat)
      case atStart => exact ⟨0, Nat.zero_le _, rfl, hA⟩
      case round =>
        clear hA
        obtain ⟨j, hj, rfl, hA⟩ := hrel
        obtain ⟨y0, y1, y2, y3, y4⟩ := lies.two hA.1
        by_cases hjn : j < n
        · have hkj := place_le (n := n) (by omega) hin hjn
          have hkm : i * m + j < m * m := place_le hn (by omega) (by omega)
          have hup := moreT_up (m := m) ts hin hjn (by omega)
          have hus := moreT_length n m ts i j
          have hz := HR.out (i * n + j) (by rw [HL.out]; exact hkj)
          unfold tat at hup
          generalize ts[i * n + j]?.getD 0 = z at hz hup
          generalize moreT n m ts i j = us at hA hup hus
          have HUP := Lib.hid hup
          have HUS := Lib.hid hus
          have HJ : RowKit.Hid (i < m ∧ j < m) := Lib.hid ⟨by omega, by omega⟩
          clear hup hus
          obtain ⟨hbl, hgl⟩ : b < wr.heap.size ∧ g < wr.heap.size := ⟨Nat.lt_of_lt_of_le hb hA.2.2.2.2.size, (hA.2.2.2.1.lt g rfl).2⟩
          go_wp2_with fail
          clear y0 y1 y2 y3 y4
          obtain ⟨q1, q2, q3, q4, q5, q6, q7⟩ := dref.place_int (n := n) (by omega) hin hjn
          obtain ⟨p1, p2, p3, p4, p5, p6, p7⟩ := dref.place_int (n := m) hn HJ.out.1 HJ.out.2
          have S0 : ∀ (vs : List Int) W, MI n m b off cap g cc T (w.heap.size + 1 + 1) vs w W → (W.cell? ⟨w.heap.size, 0, none⟩ = some (.int .i64 n) ∧ W.cell? ⟨w.heap.size, 1, none⟩ = some (.slice (some ⟨b, off, none⟩) (n * n) cap)) ∧ (W.cell? ⟨T, 0, none⟩ = some (.int .i64 m) ∧ W.cell? ⟨T, 1, none⟩ = some (.slice (some ⟨g, 0, none⟩) (m * m) cc)) ∧ W.cell? ⟨b, off + (i * n + j), none⟩ = some (.int .i64 z) := fun vs W hW => ⟨lies.pair hW.1, lies.pair hW.2.2.1, (hW.2.2.2.2.cell (p := ⟨b, off + (i * n + j), none⟩) hb).trans hz⟩
          have A3 : MI n m b off cap g cc T (w.heap.size + 1 + 1) us w wr.drew := ⟨hA.1, hA.2.1, hA.2.2.1, hA.2.2.2.1.drew, lies.frame_drew hA.2.2.2.2⟩
          have HS0 := Lib.hid S0
          have hs3 := S0 _ _ A3
          clear S0 hz
          refine wp_region_held_drew (S := fun W => (W.cell? ⟨w.heap.size, 0, none⟩ = some (.int .i64 n) ∧ W.cell? ⟨w.heap.size, 1, none⟩ = some (.slice (some ⟨b, off, none⟩) (n * n) cap)) ∧ (W.cell? ⟨T, 0, none⟩ = some (.int .i64 m) ∧ W.cell? ⟨T, 1, none⟩ = some (.slice (some ⟨g, 0, none⟩) (m * m) cc)) ∧ W.cell? ⟨b, off + (i * n + j), none⟩ = some (.int .i64 z)) (by kernel_rfl) hs3 (fun hHeld => ?_)
          clear hs3
          refine wpAnyH_take (i := 0) (v := ?_) rfl (by kernel_rfl) (by kernel_rfl) (by kernel_rfl) (fun _ _ _ h => h) (Or.inl ⟨by rfl, ?_⟩) hHeld ?_
          rotate_left
          · intro w hSw; obtain ⟨⟨s0, s1⟩, ⟨s2, s3⟩, s4⟩ := hSw; go_simp; try with_reducible rfl
          try simp only [Act.put, List.getElem_toArray, List.getElem_cons_zero, List.getElem_cons_succ, List.setIfInBounds_toArray, List.set_cons_zero, List.set_cons_succ]
          refine wpAnyH_take (i := 1) (v := ?_) rfl (by kernel_rfl) (by kernel_rfl) (by kernel_rfl) (fun _ _ _ h => h) (Or.inl ⟨by rfl, ?_⟩) hHeld ?_
          rotate_left
          · intro w hSw; obtain ⟨⟨s0, s1⟩, ⟨s2, s3⟩, s4⟩ := hSw; go_simp; try with_reducible rfl
          try simp only [Act.put, List.getElem_toArray, List.getElem_cons_zero, List.getElem_cons_succ, List.setIfInBounds_toArray, List.set_cons_zero, List.set_cons_succ]
          refine wpAnyH_take (i := 2) (v := ?_) rfl (by kernel_rfl) (by kernel_rfl) (by kernel_rfl) (fun _ _ _ h => h) (Or.inl ⟨by rfl, ?_⟩) hHeld ?_
          rotate_left
          · intro w hSw; obtain ⟨⟨s0, s1⟩, ⟨s2, s3⟩, s4⟩ := hSw; go_simp; try with_reducible rfl
          try simp only [Act.put, List.getElem_toArray, List.getElem_cons_zero, List.getElem_cons_succ, List.setIfInBounds_toArray, List.set_cons_zero, List.set_cons_succ]
          refine wpAnyH_take (i := 3) (v := ?_) rfl (by kernel_rfl) (by kernel_rfl) (by kernel_rfl) (fun _ _ _ h => h) (Or.inl ⟨by rfl, ?_⟩) hHeld ?_
          rotate_left
          · intro w hSw; obtain ⟨⟨s0, s1⟩, ⟨s2, s3⟩, s4⟩ := hSw; go_simp; try with_reducible rfl
          try simp only [Act.put, List.getElem_toArray, List.getElem_cons_zero, List.getElem_cons_succ, List.setIfInBounds_toArray, List.set_cons_zero, List.set_cons_succ]
          refine wpAnyH_take (i := 4) (v := ?_) rfl (by kernel_rfl) (by kernel_rfl) (by kernel_rfl) (fun _ _ _ h => h) (Or.inl ⟨by rfl, ?_⟩) hHeld ?_
          rotate_left
          · intro w hSw; obtain ⟨⟨s0, s1⟩, ⟨s2, s3⟩, s4⟩ := hSw; go_simp; try with_reducible rfl
          try simp only [Act.put, List.getElem_toArray, List.getElem_cons_zero, List.getElem_cons_succ, List.setIfInBounds_toArray, List.set_cons_zero, List.set_cons_succ]
          refine wpAnyH_take (i := 5) (v := ?_) rfl (by kernel_rfl) (by kernel_rfl) (by kernel_rfl) (fun _ _ _ h => h) (Or.inl ⟨by rfl, ?_⟩) hHeld ?_
          rotate_left
          · intro w hSw; obtain ⟨⟨s0, s1⟩, ⟨s2, s3⟩, s4⟩ := hSw; go_simp; try with_reducible rfl
          try simp only [Act.put, List.getElem_toArray, List.getElem_cons_zero, List.getElem_cons_succ, List.setIfInBounds_toArray, List.set_cons_zero, List.set_cons_succ]
          refine wpAnyH_take (i := 6) (v := ?_) rfl (by kernel_rfl) (by kernel_rfl) (by kernel_rfl) (fun _ _ _ h => h) (Or.inl ⟨by rfl, ?_⟩) hHeld ?_
          rotate_left
          · intro w hSw; obtain ⟨⟨s0, s1⟩, ⟨s2, s3⟩, s4⟩ := hSw; go_simp; try with_reducible rfl
          try simp only [Act.put, List.getElem_toArray, List.getElem_cons_zero, List.getElem_cons_succ, List.setIfInBounds_toArray, List.set_cons_zero, List.set_cons_succ]
          refine wpAnyH_take (i := 7) (v := ?_) rfl (by kernel_rfl) (by kernel_rfl) (by kernel_rfl) (fun _ _ _ h => h) (Or.inl ⟨by rfl, ?_⟩) hHeld ?_
          rotate_left
          · intro w hSw; obtain ⟨⟨s0, s1⟩, ⟨s2, s3⟩, s4⟩ := hSw; go_simp; try with_reducible rfl
          try simp only [Act.put, List.getElem_toArray, List.getElem_cons_zero, List.getElem_cons_succ, List.setIfInBounds_toArray, List.set_cons_zero, List.set_cons_succ]
          refine wpAnyH_take (i := 8) (v := ?_) rfl (by kernel_rfl) (by kernel_rfl) (by kernel_rfl) (fun _ _ _ h => h) (Or.inl ⟨by rfl, ?_⟩) hHeld ?_
          rotate_left
          · intro w hSw; obtain ⟨⟨s0, s1⟩, ⟨s2, s3⟩, s4⟩ := hSw; go_simp; try with_reducible rfl
          try simp only [Act.put, List.getElem_toArray, List.getElem_cons_zero, List.getElem_cons_succ, List.setIfInBounds_toArray, List.set_cons_zero, List.set_cons_succ]
          refine wpAnyH_take (i := 9) (v := ?_) rfl (by kernel_rfl) (by kernel_rfl) (by kernel_rfl) (fun _ _ _ h => h) (Or.inl ⟨by rfl, ?_⟩) hHeld ?_
          rotate_left
          · intro w hSw; obtain ⟨⟨s0, s1⟩, ⟨s2, s3⟩, s4⟩ := hSw; go_simp; try with_reducible rfl
          try simp only [Act.put, List.getElem_toArray, List.getElem_cons_zero, List.getElem_cons_succ, List.setIfInBounds_toArray, List.set_cons_zero, List.set_cons_succ]
          refine wpAnyH_take (i := 10) (v := ?_) rfl (by kernel_rfl) (by kernel_rfl) (by kernel_rfl) (fun _ _ _ h => h) (Or.inl ⟨by rfl, ?_⟩) hHeld ?_
          rotate_left
          · intro w hSw; obtain ⟨⟨s0, s1⟩, ⟨s2, s3⟩, s4⟩ := hSw; go_simp; try with_reducible rfl
          try simp only [Act.put, List.getElem_toArray, List.getElem_cons_zero, List.getElem_cons_succ, List.setIfInBounds_toArray, List.set_cons_zero, List.set_cons_succ]
          refine wpAnyH_take (i := 11) (v := ?_) rfl (by kernel_rfl) (by kernel_rfl) (by kernel_rfl) (fun _ _ _ h => h) (Or.inl ⟨by rfl, ?_⟩) hHeld ?_
          rotate_left
          · intro w hSw; obtain ⟨⟨s0, s1⟩, ⟨s2, s3⟩, s4⟩ := hSw; go_simp; try with_reducible rfl
          try simp only [Act.put, List.getElem_toArray, List.getElem_cons_zero, List.getElem_cons_succ, List.setIfInBounds_toArray, List.set_cons_zero, List.set_cons_succ]
          refine wpAnyH_take (i := 12) (v := ?_) rfl (by kernel_rfl) (by kernel_rfl) (by kernel_rfl) (fun _ _ _ h => h) (Or.inl ⟨by rfl, ?_⟩) hHeld ?_
          rotate_left
          · intro w hSw; obtain ⟨⟨s0, s1⟩, ⟨s2, s3⟩, s4⟩ := hSw; go_simp; try with_reducible rfl
          try simp only [Act.put, List.getElem_toArray, List.getElem_cons_zero, List.getElem_cons_succ, List.setIfInBounds_toArray, List.set_cons_zero, List.set_cons_succ]
          refine wpAnyH_take (i := 13) (v := ?_) rfl (by kernel_rfl) (by kernel_rfl) (by kernel_rfl) (fun _ _ _ h => h) (Or.inl ⟨by rfl, ?_⟩) hHeld ?_
          rotate_left
          · intro w hSw; obtain ⟨⟨s0, s1⟩, ⟨s2, s3⟩, s4⟩ := hSw; go_simp; try with_reducible rfl
          try simp only [Act.put, List.getElem_toArray, List.getElem_cons_zero, List.getElem_cons_succ, List.setIfInBounds_toArray, List.set_cons_zero, List.set_cons_succ]
          refine wpAnyH_take (i := 14) (v := ?_) rfl (by kernel_rfl) (by kernel_rfl) (by kernel_rfl) (fun _ _ _ h => h) (Or.inl ⟨by rfl, ?_⟩) hHeld ?_
          rotate_left
          · intro w hSw; obtain ⟨⟨s0, s1⟩, ⟨s2, s3⟩, s4⟩ := hSw; go_simp; try with_reducible rfl
          try simp only [Act.put, List.getElem_toArray, List.getElem_cons_zero, List.getElem_cons_succ, List.setIfInBounds_toArray, List.set_cons_zero, List.set_cons_succ]
          refine wpAnyH_take (i := 15) (v := ?_) rfl (by kernel_rfl) (by kernel_rfl) (by kernel_rfl) (fun _ _ _ h => h) (Or.inl ⟨by rfl, ?_⟩) hHeld ?_
          rotate_left
          · intro w hSw; obtain ⟨⟨s0, s1⟩, ⟨s2, s3⟩, s4⟩ := hSw; go_simp; try with_reducible rfl
          try simp only [Act.put, List.getElem_toArray, List.getElem_cons_zero, List.getElem_cons_succ, List.setIfInBounds_toArray, List.set_cons_zero, List.set_cons_succ]
          refine wpAnyH_take (i := 16) (v := ?_) rfl (by kernel_rfl) (by kernel_rfl) (by kernel_rfl) (fun _ _ _ h => h) (Or.inl ⟨by rfl, ?_⟩) hHeld ?_
          rotate_left
          · intro w hSw; obtain ⟨⟨s0, s1⟩, ⟨s2, s3⟩, s4⟩ := hSw; go_simp; try with_reducible rfl
          try simp only [Act.put, List.getElem_toArray, List.getElem_cons_zero, List.getElem_cons_succ, List.setIfInBounds_toArray, List.set_cons_zero, List.set_cons_succ]
          refine wpAnyH_take (i := 17) (v := ?_) rfl (by kernel_rfl) (by kernel_rfl) (by kernel_rfl) (fun _ _ _ h => h) (Or.inl ⟨by rfl, ?_⟩) hHeld ?_
          rotate_left
          · intro w hSw; obtain ⟨⟨s0, s1⟩, ⟨s2, s3⟩, s4⟩ := hSw; go_simp; try with_reducible rfl
          try simp only [Act.put, List.getElem_toArray, List.getElem_cons_zero, List.getElem_cons_succ, List.setIfInBounds_toArray, List.set_cons_zero, List.set_cons_succ]
          refine wpAnyH_take (i := 18) (v := ?_) rfl (by kernel_rfl) (by kernel_rfl) (by kernel_rfl) (fun _ _ _ h => h) (Or.inl ⟨by rfl, ?_⟩) hHeld ?_
          rotate_left
          · intro w hSw; obtain ⟨⟨s0, s1⟩, ⟨s2, s3⟩, s4⟩ := hSw; go_simp; try with_reducible rfl
          try simp only [Act.put, List.getElem_toArray, List.getElem_cons_zero, List.getElem_cons_succ, List.setIfInBounds_toArray, List.set_cons_zero, List.set_cons_succ]
          have hcell := A3.2.2.2.1.cellAt (i * m + j) (by rw [Nat.mul_one]; exact hkm)
          rw [List.getElem?_map, List.getElem?_eq_getElem (by rw [HUS.out]; exact hkm)] at hcell
          have hfree := A3.2.2.2.1.frozenAt (i * m + j)
          clear q1 q2 q3 q4 q5 q6 q7
          refine wpAnyH_ready (rs := [19]) (by kernel_rfl) (by simp) (AllReadyH.cons rfl (fun K hK => ?_) AllReadyH.nil)
          go_simp
          clear p1 p2 p3 p4 p5 p6 p7
          have A4 : MI n m b off cap g cc T (w.heap.size + 1 + 1) (us.set (i * m + j) z) w (wr.setCell ⟨g, i * m + j, none⟩ (.int .i64 z)).drew := by
            have D := fun {bb : Nat} {t : TypeId} {cs : Array Value} (h : lies.Lies wr bb t cs) (hne : bb ≠ g) => lies.on_call (lies.on_far h (i * m + j) hne (.int .i64 z)) (dbm.drawn1 (Below.refl _ _))
            refine ⟨D hA.1 (by omega), D hA.2.1 (by omega), D hA.2.2.1 (Ne.symm hgT), ?_, dbm.drawn1 (hA.2.2.2.2.setCell (p := ⟨g, i * m + j, none⟩) (by dsimp only; omega) _)⟩
            rw [List.map_set]
            exact (hA.2.2.2.1.stored (i * m + j) (.int .i64 z)).1.drew
          refine hK.out _ _ (HS0.out _ _ A4) (fun hNew => ?_)
          clear hHeld hK K hNew HS0 hcell hfree hA A3
          refine wpAnyH_done (by kernel_rfl) ?_ _
          clear hkj hkm hsq hpp hbl hgl hT1 hgw hgT
          generalize (wr.setCell ⟨g, i * m + j, none⟩ (.int .i64 z)).drew = w6 at A4 ⊢
          have wj : wrap64 ((j : Int) + 1) = (j : Int) + 1 := IntWalk.wrap64_in _ ⟨by omega, by omega⟩
          go_wp2_with fail
          go_roundw
          case rel => exact ⟨j + 1, by omega, by go_num, by rw [HUP.out]; exact A4⟩
          case measure => simp [intOf]; omega
        · obtain rfl : j = n := by omega
          have hnx := moreT_next j m ts i
          rw [hnx] at hA
          have wi : wrap64 ((i : Int) + 1) = (i : Int) + 1 := IntWalk.wrap64_in _ ⟨by omega, by omega⟩
          clear hnx
          go_wp2_with fail
          go_roundw
          case rel => exact ⟨i + 1, by omega, by go_num, hA⟩
          case measure => simp [intOf]; omega
    · obtain rfl : i = n := by omega
      obtain ⟨L0, L1, L2, hO, LB⟩ := hA
      have hgl := (hO.lt g rfl).2
      have hrow := tref.own_row hO (moreT_length _ _ _ _ _)
      have HRW := Lib.hid hrow
      obtain ⟨y0, y1, y2, y3, y4⟩ := lies.two L0
      obtain ⟨z0, z1, z2, z3, z4⟩ := lies.two L1
      obtain ⟨x0, x1, x2, x3, x4⟩ := lies.two L2
      clear hO hrow
      go_wp2_with fail
      have hne1 : g ≠ w.heap.size + 1 := by omega
      refine bodyPost_ret (v := .agg #[.int .i64 m, .slice (some ⟨g, 0, none⟩) (m * m) cc]) (by simp [results, Try.results33, go_sem, z0, z1]) rfl ⟨(LB.setCell (p := ⟨w.heap.size + 1, 0, none⟩) (by dsimp only; omega) _).setCell (p := ⟨w.heap.size + 1, 1, none⟩) (by dsimp only; omega) _, g, cc, rfl, ?_, by simp; omega, by omega⟩
      intro p hp
      have h1 := HRW.out p (by exact hp)
      have h2 := World.cell?_of_block (a := ⟨g, 0 + p, none⟩) (Below.heap_setCell (wr.setCell ⟨w.heap.size + 1, 0, none⟩ (.int .i64 m)) ⟨w.heap.size + 1, 1, none⟩ (.slice (some ⟨g, 0, none⟩) (m * m) cc) g hne1)
      have h3 := World.cell?_of_block (a := ⟨g, 0 + p, none⟩) (Below.heap_setCell wr ⟨w.heap.size + 1, 0, none⟩ (.int .i64 m) g hne1)
      exact h2.trans (h3.trans h1)
/-- is a list an order? as the document tells it. -/
def seen (os : List Int) (v : Int) (i : Nat) : Bool := decide (v ∈ os.take i)
theorem seen_zero (os : List Int) (v : Int) : seen os v 0 = false := by simp [seen]
theorem seen_up {os : List Int} {v : Int} {i : Nat} (hi : i < os.length) : seen os v (i + 1) = (seen os v i || decide (os[i]?.getD 0 = v)) := by
  unfold seen
  rw [Bool.eq_iff_iff]
  rw [List.take_add_one, List.getElem?_eq_getElem hi]
  simp only [Option.toList_some, Option.getD_some, List.mem_append, List.mem_singleton, decide_eq_true_eq, Bool.or_eq_true]
  constructor
  · rintro (h | h)
    · exact .inl h
    · exact .inr h.symm
  · rintro (h | h)
    · exact .inl h
    · exact .inr h.symm
theorem seen_all (os : List Int) (v : Int) : seen os v os.length = decide (v ∈ os) := by
  unfold seen
  rw [List.take_length]
set_option maxRecDepth 100000 in
set_option maxHeartbeats 4000000 in
theorem mayord_any (n : Nat) (ov : Value) (os : List Int) (w : World) (h0 : 0 < n) (hn : n ≤ 4) (hI : law.Ints w.heap.size w ov os) :
    Calls Try.prog 34 #[ov, .int .i64 n] w (TellB (Ord n os) w) := by
  by_cases hl : os.length = n
  · obtain ⟨b, off, cap, rfl, hb, hr⟩ := ints_form hI (by omega)
    have hz := hr 0 (by omega)
    have n0 : (0 : Int) < (n : Int) := by omega
    rw [Nat.add_zero] at hz
    by_cases hz0 : os[0]?.getD 0 = 0
    · rw [hz0] at hz
      rw [hl]
      have HR := Lib.hid hr
      have HL := Lib.hid hl
      have HZ := Lib.hid hz0
      clear hr hl hz0 hI
      go_enter Try.func34, Try.ntmps34
      go_wp2_with fail
      clear hz
      go_loopw [5] (fun i wr => ∃ k : Nat, k ≤ n ∧ i = .int .i64 k ∧ RowKit.Hid (∀ v : Nat, v < k → (v : Int) ∈ os) ∧ Below w.heap.size w wr) (fun i _ => n - (intOf i).toNat)
      case atStart => exact ⟨0, Nat.zero_le _, rfl, Lib.hid (fun j hj => absurd hj (by omega)), Below.refl _ _⟩
      case round =>
        obtain ⟨k, hk, rfl, hA, hB⟩ := hrel
        by_cases hkn : k < n
        · go_wp2_with fail
          go_loopw [6, 7] (fun t i wx => ∃ q : Nat, q ≤ n ∧ i = .int .i64 q ∧ t = .bool (seen os k q) ∧ Below w.heap.size w wx) (fun _ i _ => n - (intOf i).toNat)
          case atStart => exact ⟨0, Nat.zero_le _, rfl, by rw [seen_zero], hB⟩
          case round =>
            clear hB
            obtain ⟨q, hq, rfl, rfl, hB⟩ := hrel
            by_cases hqn : q < n
            · have hup := seen_up (os := os) (v := k) (i := q) (by rw [HL.out]; exact hqn)
              have hc := HR.out.below hB hb q (by rw [HL.out]; exact hqn)
              generalize os[q]?.getD 0 = z at hup hc
              cases hs : seen os k q with
              | true =>
                rw [hs, Bool.true_or] at hup
                have HUP := Lib.hid hup
                clear hup hs
                go_wp2_with fail
                go_roundw
                case rel => exact ⟨q + 1, by omega, by go_num, by first | (rw [HUP.out]; done) | (rw [HUP.out]; simp only [beq_self_eq_true]; done) | (rw [HUP.out, show (z == (k : Int)) = false from by simpa using hzk]), hB⟩
                case measure => simp [intOf]; omega
              | false =>
                rw [hs, Bool.false_or] at hup
                by_cases hzk : z = (k : Int)
                · rw [decide_eq_true hzk] at hup
                  have HUP := Lib.hid hup
                  subst hzk
                  clear hup hs
                  go_wp2_with fail
                  go_roundw
                  case rel => exact ⟨q + 1, by omega, by go_num, by first | (rw [HUP.out]; done) | (rw [HUP.out]; simp only [beq_self_eq_true]; done) | (rw [HUP.out, show (z == (k : Int)) = false from by simpa using hzk]), hB⟩
                  case measure => simp [intOf]; omega
                · rw [decide_eq_false hzk] at hup
                  have HUP := Lib.hid hup
                  clear hup hs
                  go_wp2_with fail
                  go_roundw
                  case rel => exact ⟨q + 1, by omega, by go_num, by first | (rw [HUP.out]; done) | (rw [HUP.out]; simp only [beq_self_eq_true]; done) | (rw [HUP.out, show (z == (k : Int)) = false from by simpa using hzk]), hB⟩
                  case measure => simp [intOf]; omega
            · obtain rfl : n = q := by omega
              have hall := seen_all os k
              rw [HL.out] at hall
              by_cases hm : (k : Int) ∈ os
              · rw [decide_eq_true hm] at hall
                rw [hall]
                have hup : RowKit.Hid (∀ v : Nat, v < k + 1 → (v : Int) ∈ os) := Lib.hid fun v hv => by
                  by_cases e : v = k
                  · rw [e]; exact hm
                  · exact hA.out v (by omega)
                clear hm hall
                go_wp2_with fail
                go_roundw
                case rel => exact ⟨k + 1, by omega, by go_num, hup, hB⟩
                case measure => simp [intOf]; omega
              · rw [decide_eq_false hm] at hall
                rw [hall]
                have HNO := Lib.hid hm
                clear hm hall
                go_wp2_with fail
                go_ret
                exact ⟨false, rfl, ⟨fun h => absurd h (by decide), fun h => (HNO.out (h.2.2 k hkn)).elim⟩, hB⟩
        · obtain rfl : n = k := by omega
          go_wp2_with fail
          go_ret
          exact ⟨true, rfl, ⟨fun _ => ⟨HL.out, HZ.out, hA.out⟩, fun _ => rfl⟩, hB⟩
    · have HZ := Lib.hid hz0
      have hz0' : ¬ os[0]?.getD 0 = 0 := hz0
      generalize hx : os[0]?.getD 0 = x at hz hz0'
      rw [hl]
      clear hr hl hz0 hI hx
      go_enter Try.func34, Try.ntmps34
      go_wp2_with fail
      go_ret
      exact ⟨false, rfl, ⟨fun h => absurd h (by decide), fun h => (HZ.out h.2.1).elim⟩, Below.refl _ _⟩
  · obtain ⟨ad, cap, rfl⟩ := ints_len hI
    have HL := Lib.hid hl
    have t1 : ¬ (os.length : Int) = (n : Int) := by omega
    generalize os.length = L at t1 ⊢
    clear hl hI
    go_enter Try.func34, Try.ntmps34
    go_wp2_with fail
    go_ret
    exact ⟨false, rfl, ⟨fun h => absurd h (by decide), fun h => (HL.out h.1).elim⟩, Below.refl _ _⟩
end Go.Proofs.Ytikjkmhnimpbhaa.pref
