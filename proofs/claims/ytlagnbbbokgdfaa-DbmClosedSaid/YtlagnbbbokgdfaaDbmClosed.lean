/-
  DbmClosed answers true for every matrix; no condition.
-/
import Derived.Test.YtlagnbbbokgdfaaDbmMath2
import Derived.Test.YtlagnbbbokgdfaaDbmLaw
import Derived.OpenShut
namespace Go.Proofs.Ytlagnbbbokgdfaa.dbmClosed
open Go.ChangeShapes Go.WideShapes Go.ChangeAt Go.RowKit num dbm dlaw
open bound hiding up
set_option linter.unusedVariables false
set_option linter.unusedSimpArgs false

set_option maxRecDepth 100000 in
set_option maxHeartbeats 1000000 in
theorem walk_far (n : Int) (sv : Value) (ts : List Int) (w : World) (hI : law.Ints w.heap.size w sv ts) (h : 1000 < ts.length) : Calls Try.prog 7 #[.agg #[.int .i64 n, sv]] w fun e w' => e = .returned (.bool true) ∧ Below w.heap.size w w' := by
  obtain ⟨a, cap, rfl⟩ := ints_len hI
  clear hI
  have D0 := lies.made w 27 #[.int .i64 n, .slice a ts.length cap]
  have t1 : (1000 : Int) < ts.length := by omega
  go_enter Try.func7, Try.ntmps7
  go_wp2_with fail
  refine (alive_yes _).mono ?_
  rintro e w1 ⟨rfl, hB1⟩
  have D1 := lies.on_call D0 hB1
  have K1 : Below w.heap.size w w1 := ((Below.refl _ w).alloc (Nat.le_refl _) _).trans (hB1.mono (by simp))
  obtain ⟨c0, c1, c2, c3, c4⟩ := lies.two D1
  clear D0 D1 hB1
  go_wp2_with fail
  go_ret
  exact ⟨rfl, K1⟩

set_option maxRecDepth 100000 in
set_option maxHeartbeats 1000000 in
theorem walk_bad (n : Int) (sv : Value) (ts : List Int) (w : World) (hI : law.Ints w.heap.size w sv ts) (htop : Tops ts) (h : ts.length ≤ 1000) (hm : ¬ MayD n ts) : Calls Try.prog 7 #[.agg #[.int .i64 n, sv]] w fun e w' => e = .returned (.bool true) ∧ Below w.heap.size w w' := by
  obtain ⟨a, cap, rfl⟩ := ints_len hI
  have D0 := lies.made w 27 #[.int .i64 n, .slice a ts.length cap]
  have t1 : ¬ (1000 : Int) < ts.length := by omega
  have HI := Lib.hid hI
  have HT := Lib.hid htop
  have HM := Lib.hid hm
  clear hI htop hm
  go_enter Try.func7, Try.ntmps7
  go_wp2_with fail
  refine (alive_yes _).mono ?_
  rintro e w1 ⟨rfl, hB1⟩
  have D1 := lies.on_call D0 hB1
  have K1 : Below w.heap.size w w1 := ((Below.refl _ w).alloc (Nat.le_refl _) _).trans (hB1.mono (by simp))
  obtain ⟨c0, c1, c2, c3, c4⟩ := lies.two D1
  clear D0 hB1
  go_wp2_with fail
  refine (close_bad n _ ts _ ((HI.out.below K1).mono K1.size) (by omega) HT.out HM.out).mono ?_
  rintro e w2 ⟨rfl, hB2⟩
  have D2 := lies.on_alloc (lies.on_call D1 hB2) (.cells #[.int .i64 0, .slice none 0 0] 27)
  have K2 := (K1.trans (hB2.mono K1.size)).alloc (K1.trans (hB2.mono K1.size)).size (.cells #[.int .i64 0, .slice none 0 0] 27)
  clear D1 hB2 c0 c1 c2 c3 c4
  obtain ⟨c0, c1, c2, c3, c4⟩ := lies.two D2
  go_wp2_with fail
  refine (check_no n _ ts _ ((HI.out.below K2).mono K2.size) (by omega) HT.out HM.out).mono ?_
  rintro e w3 ⟨rfl, hB3⟩
  have K3 := K2.trans (hB3.mono K2.size)
  clear c0 c1 c2 c3 c4 D2 hB3 K1 K2
  go_wp2_with fail
  go_ret
  exact ⟨rfl, K3⟩

/-- what lies there while it is looked at. -/
def LawI (n g Bc : Nat) (sv : Value) (C : List Int) (w W : World) : Prop :=
  lies.Lies W w.heap.size 27 #[.int .i64 n, sv] ∧ lies.Lies W Bc 27 #[.int .i64 n, .slice (some ⟨g, 0, none⟩) (n * n) (n * n)] ∧ lies.Lies W g 29 (cellsOf C) ∧ Below w.heap.size w W
theorem LawI.below {n g Bc : Nat} {sv : Value} {C : List Int} {w W X : World} (h : LawI n g Bc sv C w W) (k : Below W.heap.size W X) : LawI n g Bc sv C w X := ⟨lies.on_call h.1 k, lies.on_call h.2.1 k, lies.on_call h.2.2.1 k, h.2.2.2.trans (k.mono h.2.2.2.size)⟩

theorem row_s {w W : World} {g p : Nat} {t : TypeId} {cs : Array Value} {v : Value} (h : lies.Lies w g t cs) (k : Below w.heap.size w W) (hv : cs[p]? = some v) : W.cell? ⟨g, p, none⟩ = some v := (lies.cell (lies.on_call h k) p).trans hv
theorem up_int {n i : Nat} (hn : n ≤ 4) (hi : i < n) : wrap64 ((i : Int) + 1) = (i : Int) + 1 ∧ IntKind.i64.wrap ((i : Int) + 1) = (i : Int) + 1 := by
  refine ⟨?_, IntWalk.i64_in _ (by omega)⟩
  unfold wrap64; omega

theorem place_int {n i j : Nat} (hn : n ≤ 4) (hi : i < n) (hj : j < n) : IntKind.i64.wrap ((i : Int) * n) = (i : Int) * n ∧ wrap64 ((i : Int) * n) = (i : Int) * n ∧ IntKind.i64.wrap ((i : Int) * n + j) = (i : Int) * n + j ∧ wrap64 ((i : Int) * n + j) = (i : Int) * n + j ∧ 0 ≤ (i : Int) * n + j ∧ (i : Int) * n + j < (n : Int) * n ∧ ((i : Int) * n + j).toNat = i * n + j := by
  have h1 := place_le hn hi hj
  have h2 := sq_le hn
  have e1 : (i : Int) * n = ((i * n : Nat) : Int) := (Int.natCast_mul i n).symm
  have e2 : (n : Int) * n = ((n * n : Nat) : Int) := (Int.natCast_mul n n).symm
  rw [e1, e2]
  generalize i * n = a at h1 ⊢
  generalize n * n = b at h1 h2 ⊢
  refine ⟨dbm.wrap_small (by omega) (by omega), ?_, dbm.wrap_small (by omega) (by omega), ?_, by omega, by omega, by omega⟩ <;> (unfold wrap64; omega)

set_option maxRecDepth 100000 in
set_option maxHeartbeats 8000000 in
theorem walk_ok (n : Nat) (b off cap : Nat) (ts : List Int) (w : World) (h0 : 0 < n) (hn : n ≤ 4) (hr : Row w b off ts) (hb : b < w.heap.size) (htop : Tops ts) (hm : MayD n ts) (hl : ts.length = n * n) : Calls Try.prog 7 #[.agg #[.int .i64 n, .slice (some ⟨b, off, none⟩) (n * n) cap]] w fun e w' => e = .returned (.bool true) ∧ Below w.heap.size w w' := by
  have hsq := sq_le hn
  have D0 := lies.made w 27 #[.int .i64 n, .slice (some ⟨b, off, none⟩) (n * n) cap]
  have t1 : ¬ (1000 : Int) < (n : Int) * n := by rw [← Int.natCast_mul]; omega
  have HR := Lib.hid hr
  have HT := Lib.hid htop
  have HM := Lib.hid hm
  have HL := Lib.hid hl
  clear hr htop hm hl
  go_enter Try.func7, Try.ntmps7
  go_wp2_with fail
  refine (alive_yes _).mono ?_
  rintro e w1 ⟨rfl, hB1⟩
  have D1 := lies.on_call D0 hB1
  have K1 : Below w.heap.size w w1 := ((Below.refl _ w).alloc (Nat.le_refl _) _).trans (hB1.mono (by simp))
  obtain ⟨c0, c1, c2, c3, c4⟩ := lies.two D1
  clear D0 hB1
  go_wp2_with fail
  refine (close_ok n b off cap ts _ h0 (HR.out.below K1 hb) (Nat.lt_of_lt_of_le hb K1.size) HT.out HM.out HL.out hn).mono ?_
  rintro e w2 ⟨hB2, ⟨k, hk, hem, rfl⟩ | ⟨hne, g, hg, rfl, hG⟩⟩
  · have D2 := lies.on_alloc (lies.on_call D1 hB2) (.cells #[.int .i64 0, .slice none 0 0] 27)
    have K2 := (K1.trans (hB2.mono K1.size)).alloc (K1.trans (hB2.mono K1.size)).size (.cells #[.int .i64 0, .slice none 0 0] 27)
    clear D1 hB2 c0 c1 c2 c3 c4 hem hk
    obtain ⟨c0, c1, c2, c3, c4⟩ := lies.two D2
    go_wp2_with fail
    refine (check_ok n _ ts _ (.inr ⟨b, off, cap, by rw [HL.out], Nat.lt_of_lt_of_le hb K2.size, HR.out.below K2 hb⟩) HT.out HM.out).mono ?_
    rintro e w3 ⟨rfl, hB3⟩
    have K3 := K2.trans (hB3.mono K2.size)
    clear c0 c1 c2 c3 c4 D2 hB3 K1 K2
    go_wp2_with fail
    go_ret
    exact ⟨rfl, K3⟩
  · have A0 : LawI n g w2.heap.size (.slice (some ⟨b, off, none⟩) (n * n) cap) (tabs n h0 ts n) w (w2.alloc (.cells #[.int .i64 n, .slice (some ⟨g, 0, none⟩) (n * n) (n * n)] 27)) :=
      ⟨lies.on_alloc (lies.on_call D1 hB2) _, lies.made _ _ _, lies.on_alloc hG _, (K1.trans (hB2.mono K1.size)).alloc (K1.trans (hB2.mono K1.size)).size _⟩
    have HN := Lib.hid hne
    have hlc : (tabs n h0 ts n).length = n * n := (tabs_length n h0 ts n).trans HL.out
    have HLC := Lib.hid hlc
    clear c0 c1 c2 c3 c4 D1 K1 hB2 hG hne hlc hg
    obtain ⟨c0, c1, c2, c3, c4⟩ := lies.two A0.1
    obtain ⟨d0, d1, d2, d3, d4⟩ := lies.two A0.2.1
    have m1 : IntKind.i64.wrap ((n : Int) * n) = (n : Int) * n := by
      rw [← Int.natCast_mul]
      exact dbm.wrap_small (x := ((n * n : Nat) : Int)) (by omega) (by omega)
    have m2 : wrap64 ((n : Int) * n) = (n : Int) * n := by
      rw [← Int.natCast_mul]
      unfold wrap64
      omega
    have t2 : ((n : Int) != n) = false := by simp
    have t3 : ((n : Int) * n != (n : Int) * n) = false := by simp
    go_wp2_with fail
    generalize w2.heap.size = Bc at A0 ⊢
    generalize w2.alloc (.cells #[.int .i64 n, .slice (some ⟨g, 0, none⟩) (n * n) (n * n)] 27) = w3 at A0 ⊢
    clear c0 c1 c2 c3 c4 d0 d1 d2 d3 d4
    go_loopw [7] (fun i wr => ∃ a : Nat, a ≤ n ∧ i = .int .i64 a ∧ LawI n g Bc (.slice (some ⟨b, off, none⟩) (n * n) cap) (tabs n h0 ts n) w wr) (fun i _ => n - (intOf i).toNat)
    case atStart => exact ⟨0, Nat.zero_le _, rfl, A0⟩
    case round =>
      clear A0
      obtain ⟨i, hi, rfl, A⟩ := hrel
      by_cases hin : i < n
      · go_wp2_with fail
        obtain ⟨wo, rfl⟩ : ∃ wo : World, wo = wr := ⟨_, rfl⟩
        go_loopw [8] (fun j wr => ∃ a : Nat, a ≤ n ∧ j = .int .i64 a ∧ LawI n g Bc (.slice (some ⟨b, off, none⟩) (n * n) cap) (tabs n h0 ts n) w wr) (fun j _ => n - (intOf j).toNat)
        case atStart => exact ⟨0, Nat.zero_le _, rfl, A⟩
        case round =>
          clear A
          obtain ⟨j, hj, rfl, A⟩ := hrel
          by_cases hjn : j < n
          · go_wp2_with fail
            obtain ⟨wp, rfl⟩ : ∃ wp : World, wp = wr := ⟨_, rfl⟩
            go_loopw [9] (fun k wr => ∃ a : Nat, a ≤ n ∧ k = .int .i64 a ∧ LawI n g Bc (.slice (some ⟨b, off, none⟩) (n * n) cap) (tabs n h0 ts n) w wr) (fun k _ => n - (intOf k).toNat)
            case atStart => exact ⟨0, Nat.zero_le _, rfl, A⟩
            case round =>
              clear A
              obtain ⟨k, hk, rfl, A⟩ := hrel
              by_cases hkn : k < n
              · obtain ⟨y1, y2, y3, y4, y5, y6, y7⟩ := place_int hn hin hkn
                obtain ⟨x1, x2, x3, x4, x5, x6, x7⟩ := place_int hn hkn hjn
                have hx := cells_at (tabs n h0 ts n) (i * n + k) (by rw [HLC.out]; exact place_le hn hin hkn)
                have hy := cells_at (tabs n h0 ts n) (k * n + j) (by rw [HLC.out]; exact place_le hn hkn hjn)
                have ha := tat_top (tabs_tops h0 HT.out n) n i k
                have hb' := tat_top (tabs_tops h0 HT.out n) n k j
                have htri := closed_tri h0 hn HL.out HT.out HM.out.2.2.2 HN.out hin hjn hkn
                unfold tat at ha hb' htri
                generalize (tabs n h0 ts n)[i * n + k]?.getD 0 = x at hx ha htri
                generalize (tabs n h0 ts n)[k * n + j]?.getD 0 = y at hy hb' htri
                have HX1 := Lib.hid hx
                have HX2 := Lib.hid hy
                have HTRI := Lib.hid htri
                clear hx hy htri
                go_wp2_with fail
                refine wp_region_held_drew (S := Below wr.heap.size wr) (by kernel_rfl) (dbm.drawn1 (Below.refl _ _)) (fun hHeld => ?_)
                refine wpAnyH_take (i := 0) (v := ?_) rfl (by kernel_rfl) (by kernel_rfl) (by kernel_rfl) (fun _ _ _ h => h) (Or.inl ⟨by rfl, ?_⟩) hHeld ?_
                rotate_left
                · intro w hSw; obtain ⟨s0, s1⟩ := at_s A.2.1 hSw; have s2 := row_s A.2.2.1 hSw HX1.out; have s3 := row_s A.2.2.1 hSw HX2.out; go_simp; try with_reducible rfl
                try simp only [Act.put, List.getElem_toArray, List.getElem_cons_zero, List.getElem_cons_succ, List.setIfInBounds_toArray, List.set_cons_zero, List.set_cons_succ]
                refine wpAnyH_take (i := 1) (v := ?_) rfl (by kernel_rfl) (by kernel_rfl) (by kernel_rfl) (fun _ _ _ h => h) (Or.inl ⟨by rfl, ?_⟩) hHeld ?_
                rotate_left
                · intro w hSw; obtain ⟨s0, s1⟩ := at_s A.2.1 hSw; have s2 := row_s A.2.2.1 hSw HX1.out; have s3 := row_s A.2.2.1 hSw HX2.out; go_simp; try with_reducible rfl
                try simp only [Act.put, List.getElem_toArray, List.getElem_cons_zero, List.getElem_cons_succ, List.setIfInBounds_toArray, List.set_cons_zero, List.set_cons_succ]
                refine wpAnyH_take (i := 2) (v := ?_) rfl (by kernel_rfl) (by kernel_rfl) (by kernel_rfl) (fun _ _ _ h => h) (Or.inl ⟨by rfl, ?_⟩) hHeld ?_
                rotate_left
                · intro w hSw; obtain ⟨s0, s1⟩ := at_s A.2.1 hSw; have s2 := row_s A.2.2.1 hSw HX1.out; have s3 := row_s A.2.2.1 hSw HX2.out; go_simp; try with_reducible rfl
                try simp only [Act.put, List.getElem_toArray, List.getElem_cons_zero, List.getElem_cons_succ, List.setIfInBounds_toArray, List.set_cons_zero, List.set_cons_succ]
                refine wpAnyH_take (i := 3) (v := ?_) rfl (by kernel_rfl) (by kernel_rfl) (by kernel_rfl) (fun _ _ _ h => h) (Or.inl ⟨by rfl, ?_⟩) hHeld ?_
                rotate_left
                · intro w hSw; obtain ⟨s0, s1⟩ := at_s A.2.1 hSw; have s2 := row_s A.2.2.1 hSw HX1.out; have s3 := row_s A.2.2.1 hSw HX2.out; go_simp; try with_reducible rfl
                try simp only [Act.put, List.getElem_toArray, List.getElem_cons_zero, List.getElem_cons_succ, List.setIfInBounds_toArray, List.set_cons_zero, List.set_cons_succ]
                refine wpAnyH_take (i := 4) (v := ?_) rfl (by kernel_rfl) (by kernel_rfl) (by kernel_rfl) (fun _ _ _ h => h) (Or.inl ⟨by rfl, ?_⟩) hHeld ?_
                rotate_left
                · intro w hSw; obtain ⟨s0, s1⟩ := at_s A.2.1 hSw; have s2 := row_s A.2.2.1 hSw HX1.out; have s3 := row_s A.2.2.1 hSw HX2.out; go_simp; try with_reducible rfl
                try simp only [Act.put, List.getElem_toArray, List.getElem_cons_zero, List.getElem_cons_succ, List.setIfInBounds_toArray, List.set_cons_zero, List.set_cons_succ]
                refine wpAnyH_take (i := 5) (v := ?_) rfl (by kernel_rfl) (by kernel_rfl) (by kernel_rfl) (fun _ _ _ h => h) (Or.inl ⟨by rfl, ?_⟩) hHeld ?_
                rotate_left
                · intro w hSw; obtain ⟨s0, s1⟩ := at_s A.2.1 hSw; have s2 := row_s A.2.2.1 hSw HX1.out; have s3 := row_s A.2.2.1 hSw HX2.out; go_simp; try with_reducible rfl
                try simp only [Act.put, List.getElem_toArray, List.getElem_cons_zero, List.getElem_cons_succ, List.setIfInBounds_toArray, List.set_cons_zero, List.set_cons_succ]
                refine wpAnyH_take (i := 6) (v := ?_) rfl (by kernel_rfl) (by kernel_rfl) (by kernel_rfl) (fun _ _ _ h => h) (Or.inl ⟨by rfl, ?_⟩) hHeld ?_
                rotate_left
                · intro w hSw; obtain ⟨s0, s1⟩ := at_s A.2.1 hSw; have s2 := row_s A.2.2.1 hSw HX1.out; have s3 := row_s A.2.2.1 hSw HX2.out; go_simp; try with_reducible rfl
                try simp only [Act.put, List.getElem_toArray, List.getElem_cons_zero, List.getElem_cons_succ, List.setIfInBounds_toArray, List.set_cons_zero, List.set_cons_succ]
                refine wpAnyH_take (i := 7) (v := ?_) rfl (by kernel_rfl) (by kernel_rfl) (by kernel_rfl) (fun _ _ _ h => h) (Or.inl ⟨by rfl, ?_⟩) hHeld ?_
                rotate_left
                · intro w hSw; obtain ⟨s0, s1⟩ := at_s A.2.1 hSw; have s2 := row_s A.2.2.1 hSw HX1.out; have s3 := row_s A.2.2.1 hSw HX2.out; go_simp; try with_reducible rfl
                try simp only [Act.put, List.getElem_toArray, List.getElem_cons_zero, List.getElem_cons_succ, List.setIfInBounds_toArray, List.set_cons_zero, List.set_cons_succ]
                refine wpAnyH_take (i := 8) (v := ?_) rfl (by kernel_rfl) (by kernel_rfl) (by kernel_rfl) (fun _ _ _ h => h) (Or.inl ⟨by rfl, ?_⟩) hHeld ?_
                rotate_left
                · intro w hSw; obtain ⟨s0, s1⟩ := at_s A.2.1 hSw; have s2 := row_s A.2.2.1 hSw HX1.out; have s3 := row_s A.2.2.1 hSw HX2.out; go_simp; try with_reducible rfl
                try simp only [Act.put, List.getElem_toArray, List.getElem_cons_zero, List.getElem_cons_succ, List.setIfInBounds_toArray, List.set_cons_zero, List.set_cons_succ]
                refine wpAnyH_take (i := 9) (v := ?_) rfl (by kernel_rfl) (by kernel_rfl) (by kernel_rfl) (fun _ _ _ h => h) (Or.inl ⟨by rfl, ?_⟩) hHeld ?_
                rotate_left
                · intro w hSw; obtain ⟨s0, s1⟩ := at_s A.2.1 hSw; have s2 := row_s A.2.2.1 hSw HX1.out; have s3 := row_s A.2.2.1 hSw HX2.out; go_simp; try with_reducible rfl
                try simp only [Act.put, List.getElem_toArray, List.getElem_cons_zero, List.getElem_cons_succ, List.setIfInBounds_toArray, List.set_cons_zero, List.set_cons_succ]
                refine wpAnyH_take (i := 10) (v := ?_) rfl (by kernel_rfl) (by kernel_rfl) (by kernel_rfl) (fun _ _ _ h => h) (Or.inl ⟨by rfl, ?_⟩) hHeld ?_
                rotate_left
                · intro w hSw; obtain ⟨s0, s1⟩ := at_s A.2.1 hSw; have s2 := row_s A.2.2.1 hSw HX1.out; have s3 := row_s A.2.2.1 hSw HX2.out; go_simp; try with_reducible rfl
                try simp only [Act.put, List.getElem_toArray, List.getElem_cons_zero, List.getElem_cons_succ, List.setIfInBounds_toArray, List.set_cons_zero, List.set_cons_succ]
                refine wpAnyH_take (i := 11) (v := ?_) rfl (by kernel_rfl) (by kernel_rfl) (by kernel_rfl) (fun _ _ _ h => h) (Or.inl ⟨by rfl, ?_⟩) hHeld ?_
                rotate_left
                · intro w hSw; obtain ⟨s0, s1⟩ := at_s A.2.1 hSw; have s2 := row_s A.2.2.1 hSw HX1.out; have s3 := row_s A.2.2.1 hSw HX2.out; go_simp; try with_reducible rfl
                try simp only [Act.put, List.getElem_toArray, List.getElem_cons_zero, List.getElem_cons_succ, List.setIfInBounds_toArray, List.set_cons_zero, List.set_cons_succ]
                refine wpAnyH_take (i := 12) (v := ?_) rfl (by kernel_rfl) (by kernel_rfl) (by kernel_rfl) (fun _ _ _ h => h) (Or.inl ⟨by rfl, ?_⟩) hHeld ?_
                rotate_left
                · intro w hSw; obtain ⟨s0, s1⟩ := at_s A.2.1 hSw; have s2 := row_s A.2.2.1 hSw HX1.out; have s3 := row_s A.2.2.1 hSw HX2.out; go_simp; try with_reducible rfl
                try simp only [Act.put, List.getElem_toArray, List.getElem_cons_zero, List.getElem_cons_succ, List.setIfInBounds_toArray, List.set_cons_zero, List.set_cons_succ]
                refine wpAnyH_take (i := 13) (v := ?_) rfl (by kernel_rfl) (by kernel_rfl) (by kernel_rfl) (fun _ _ _ h => h) (Or.inl ⟨by rfl, ?_⟩) hHeld ?_
                rotate_left
                · intro w hSw; obtain ⟨s0, s1⟩ := at_s A.2.1 hSw; have s2 := row_s A.2.2.1 hSw HX1.out; have s3 := row_s A.2.2.1 hSw HX2.out; go_simp; try with_reducible rfl
                try simp only [Act.put, List.getElem_toArray, List.getElem_cons_zero, List.getElem_cons_succ, List.setIfInBounds_toArray, List.set_cons_zero, List.set_cons_succ]
                refine wpAnyH_take (i := 14) (v := ?_) rfl (by kernel_rfl) (by kernel_rfl) (by kernel_rfl) (fun _ _ _ h => h) (Or.inl ⟨by rfl, ?_⟩) hHeld ?_
                rotate_left
                · intro w hSw; obtain ⟨s0, s1⟩ := at_s A.2.1 hSw; have s2 := row_s A.2.2.1 hSw HX1.out; have s3 := row_s A.2.2.1 hSw HX2.out; go_simp; try with_reducible rfl
                try simp only [Act.put, List.getElem_toArray, List.getElem_cons_zero, List.getElem_cons_succ, List.setIfInBounds_toArray, List.set_cons_zero, List.set_cons_succ]
                refine wpAnyH_take (i := 15) (v := ?_) rfl (by kernel_rfl) (by kernel_rfl) (by kernel_rfl) (fun _ _ _ h => h) (Or.inl ⟨by rfl, ?_⟩) hHeld ?_
                rotate_left
                · intro w hSw; obtain ⟨s0, s1⟩ := at_s A.2.1 hSw; have s2 := row_s A.2.2.1 hSw HX1.out; have s3 := row_s A.2.2.1 hSw HX2.out; go_simp; try with_reducible rfl
                try simp only [Act.put, List.getElem_toArray, List.getElem_cons_zero, List.getElem_cons_succ, List.setIfInBounds_toArray, List.set_cons_zero, List.set_cons_succ]
                refine wpAnyH_take (i := 16) (v := ?_) rfl (by kernel_rfl) (by kernel_rfl) (by kernel_rfl) (fun _ _ _ h => h) (Or.inl ⟨by rfl, ?_⟩) hHeld ?_
                rotate_left
                · intro w hSw; obtain ⟨s0, s1⟩ := at_s A.2.1 hSw; have s2 := row_s A.2.2.1 hSw HX1.out; have s3 := row_s A.2.2.1 hSw HX2.out; go_simp; try with_reducible rfl
                try simp only [Act.put, List.getElem_toArray, List.getElem_cons_zero, List.getElem_cons_succ, List.setIfInBounds_toArray, List.set_cons_zero, List.set_cons_succ]
                refine wpAnyH_take (i := 17) (v := ?_) rfl (by kernel_rfl) (by kernel_rfl) (by kernel_rfl) (fun _ _ _ h => h) (Or.inl ⟨by rfl, ?_⟩) hHeld ?_
                rotate_left
                · intro w hSw; obtain ⟨s0, s1⟩ := at_s A.2.1 hSw; have s2 := row_s A.2.2.1 hSw HX1.out; have s3 := row_s A.2.2.1 hSw HX2.out; go_simp; try with_reducible rfl
                try simp only [Act.put, List.getElem_toArray, List.getElem_cons_zero, List.getElem_cons_succ, List.setIfInBounds_toArray, List.set_cons_zero, List.set_cons_succ]
                refine wpAnyH_ready (rs := [18]) (by kernel_rfl) (by simp) (AllReadyH.cons rfl (fun K hK => ?_) AllReadyH.nil)
                go_simp
                refine (add2_any x y _ ha hb').mono ?_
                rintro e W4 ⟨rfl, hW⟩
                refine hK.out _ _ (hHeld.trans (hW.mono hHeld.size)) (fun hNew => ?_)
                clear hHeld hK K hW
                have hHeld := hNew
                clear hNew
                try simp only [Act.put, List.getElem_toArray, List.getElem_cons_zero, List.getElem_cons_succ, List.setIfInBounds_toArray, List.set_cons_zero, List.set_cons_succ]
                refine wpAnyH_take (i := 19) (v := ?_) rfl (by kernel_rfl) (by kernel_rfl) (by kernel_rfl) (fun _ _ _ h => h) (Or.inl ⟨by rfl, ?_⟩) hHeld ?_
                rotate_left
                · intro w hSw; obtain ⟨s0, s1⟩ := at_s A.2.1 hSw; have s2 := row_s A.2.2.1 hSw HX1.out; have s3 := row_s A.2.2.1 hSw HX2.out; go_simp; try with_reducible rfl
                try simp only [Act.put, List.getElem_toArray, List.getElem_cons_zero, List.getElem_cons_succ, List.setIfInBounds_toArray, List.set_cons_zero, List.set_cons_succ]
                refine wpAnyH_take (i := 20) (v := ?_) rfl (by kernel_rfl) (by kernel_rfl) (by kernel_rfl) (fun _ _ _ h => h) (Or.inl ⟨by rfl, ?_⟩) hHeld ?_
                rotate_left
                · intro w hSw; obtain ⟨s0, s1⟩ := at_s A.2.1 hSw; have s2 := row_s A.2.2.1 hSw HX1.out; have s3 := row_s A.2.2.1 hSw HX2.out; go_simp; try with_reducible rfl
                try simp only [Act.put, List.getElem_toArray, List.getElem_cons_zero, List.getElem_cons_succ, List.setIfInBounds_toArray, List.set_cons_zero, List.set_cons_succ]
                refine wpAnyH_take (i := 21) (v := ?_) rfl (by kernel_rfl) (by kernel_rfl) (by kernel_rfl) (fun _ _ _ h => h) (Or.inl ⟨by rfl, ?_⟩) hHeld ?_
                rotate_left
                · intro w hSw; obtain ⟨s0, s1⟩ := at_s A.2.1 hSw; have s2 := row_s A.2.2.1 hSw HX1.out; have s3 := row_s A.2.2.1 hSw HX2.out; go_simp; try with_reducible rfl
                try simp only [Act.put, List.getElem_toArray, List.getElem_cons_zero, List.getElem_cons_succ, List.setIfInBounds_toArray, List.set_cons_zero, List.set_cons_succ]
                refine wpAnyH_take (i := 22) (v := ?_) rfl (by kernel_rfl) (by kernel_rfl) (by kernel_rfl) (fun _ _ _ h => h) (Or.inl ⟨by rfl, ?_⟩) hHeld ?_
                rotate_left
                · intro w hSw; obtain ⟨s0, s1⟩ := at_s A.2.1 hSw; have s2 := row_s A.2.2.1 hSw HX1.out; have s3 := row_s A.2.2.1 hSw HX2.out; go_simp; try with_reducible rfl
                try simp only [Act.put, List.getElem_toArray, List.getElem_cons_zero, List.getElem_cons_succ, List.setIfInBounds_toArray, List.set_cons_zero, List.set_cons_succ]
                refine wpAnyH_take (i := 23) (v := ?_) rfl (by kernel_rfl) (by kernel_rfl) (by kernel_rfl) (fun _ _ _ h => h) (Or.inl ⟨by rfl, ?_⟩) hHeld ?_
                rotate_left
                · intro w hSw; obtain ⟨s0, s1⟩ := at_s A.2.1 hSw; have s2 := row_s A.2.2.1 hSw HX1.out; have s3 := row_s A.2.2.1 hSw HX2.out; go_simp; try with_reducible rfl
                try simp only [Act.put, List.getElem_toArray, List.getElem_cons_zero, List.getElem_cons_succ, List.setIfInBounds_toArray, List.set_cons_zero, List.set_cons_succ]
                refine wpAnyH_done (by kernel_rfl) ?_ _
                have A4 := A.below hHeld
                clear A hHeld HX1 HX2 y1 y2 y3 y4 y5 y6 y7 x1 x2 x3 x4 x5 x6 x7
                obtain ⟨d0, d1, d2, d3, d4⟩ := lies.two A4.2.1
                have hz := (lies.cell A4.2.2.1 (i * n + j)).trans (cells_at (tabs n h0 ts n) (i * n + j) (by rw [HLC.out]; exact place_le hn hin hjn))
                obtain ⟨y1, y2, y3, y4, y5, y6, y7⟩ := place_int hn hin hjn
                have htri := HTRI.out
                generalize (tabs n h0 ts n)[i * n + j]?.getD 0 = z at hz htri
                generalize sumV x y = s at htri ⊢
                generalize sumE x y = E at htri ⊢
                clear HTRI ha hb'
                by_cases hE : E = 0
                · obtain rfl := hE
                  have hzs : ¬ s < z := by have := htri rfl; omega
                  clear htri
                  go_wp2_with fail
                  clear y1 y2 y3 y4 y5 y6 y7 m1 m2 d0 d1 d2 d3 d4 hz
                  go_roundw
                  case rel => exact ⟨k + 1, by omega, by go_num, A4⟩
                  case measure => simp [intOf]; omega
                · have t5 : (E == 0) = false := by simpa using hE
                  clear htri
                  go_wp2_with fail
                  clear y1 y2 y3 y4 y5 y6 y7 m1 m2 d0 d1 d2 d3 d4 hz
                  go_roundw
                  case rel => exact ⟨k + 1, by omega, by go_num, A4⟩
                  case measure => simp [intOf]; omega
              · obtain rfl : n = k := by omega
                go_wp2_with fail
                go_roundw
                case rel => exact ⟨j + 1, by omega, by go_num, A⟩
                case measure => simp [intOf]; omega
          · obtain rfl : n = j := by omega
            obtain ⟨d0, d1, d2, d3, d4⟩ := lies.two A.2.1
            have hz := (lies.cell A.2.2.1 (i * n + i)).trans (cells_at (tabs n h0 ts n) (i * n + i) (by rw [HLC.out]; exact place_le hn hin hin))
            have h1 := closed_diag h0 hn HL.out HT.out HM.out.2.2.2 HN.out hin
            unfold tat at h1
            rw [h1] at hz
            obtain ⟨y1, y2, y3, y4, y5, y6, y7⟩ := place_int hn hin hin
            obtain ⟨y8, y9⟩ := up_int hn hin
            clear h1
            go_wp2_with fail
            clear y8 y9 y1 y2 y3 y4 y5 y6 y7 m1 m2 d0 d1 d2 d3 d4 hz
            go_roundw
            case rel => exact ⟨i + 1, hin, by go_num, A⟩
            case measure => simp [intOf]; omega
      · obtain rfl : n = i := by omega
        obtain ⟨d0, d1, d2, d3, d4⟩ := lies.two A.2.1
        have hI : law.Ints wr.heap.size wr (.slice (some ⟨g, 0, none⟩) (n * n) (n * n)) (tabs n h0 ts n) := by
          have := own_ints (cap := n * n) A.2.2.1
          rwa [HLC.out] at this
        by_cases hc : MayD n (tabs n h0 ts n)
        · have HC := Lib.hid (check_ok n _ _ wr hI (tabs_tops h0 HT.out n) hc)
          have HMC := Lib.hid hc
          clear hc hI
          go_wp2_with fail
          refine HC.out.mono ?_
          rintro e w4 ⟨rfl, hB4⟩
          have A4 := A.below hB4
          clear A d0 d1 d2 d3 d4 HC hB4
          obtain ⟨d0, d1, d2, d3, d4⟩ := lies.two A4.2.1
          go_wp2_with fail
          refine (close_ok n g 0 (n * n) (tabs n h0 ts n) _ h0 (row_of A4.2.2.1) (lies.lt A4.2.2.1) (tabs_tops h0 HT.out n) HMC.out HLC.out hn).mono ?_
          rintro e w5 ⟨hB5, ⟨k, hk, hem, rfl⟩ | ⟨_, g', hg', rfl, hG'⟩⟩
          · exact absurd hem (again_alive h0 hn HL.out HT.out HM.out.2.2.2 HN.out HMC.out.2.2.2 k hk)
          · rw [again h0 hn HL.out HT.out HM.out.2.2.2 HN.out HMC.out.2.2.2 n (Nat.le_refl _)] at hG'
            have A5 := A4.below hB5
            have A6 := A5.below ((Below.refl w5.heap.size w5).alloc (Nat.le_refl _) (.cells #[.int .i64 n, .slice (some ⟨g', 0, none⟩) (n * n) (n * n)] 27))
            have E1 := lies.made w5 27 #[.int .i64 n, .slice (some ⟨g', 0, none⟩) (n * n) (n * n)]
            have E2 := lies.on_alloc hG' (.cells #[.int .i64 n, .slice (some ⟨g', 0, none⟩) (n * n) (n * n)] 27)
            clear A4 A5 hG' d0 d1 d2 d3 d4 hB5
            obtain ⟨d0, d1, d2, d3, d4⟩ := lies.two A6.2.1
            obtain ⟨e0, e1, e2, e3, e4⟩ := lies.two E1
            have i1 := own_ints (cap := n * n) E2
            have i2 := own_ints (cap := n * n) A6.2.2.1
            rw [HLC.out] at i1 i2
            have HS := Lib.hid (dref.same_true n _ _ _ _ _ i1 i2 (by rw [HLC.out]; omega) rfl)
            have K6 := A6.2.2.2
            clear i1 i2 E1 E2 A6
            go_wp2_with fail
            refine HS.out.mono ?_
            rintro e w7 ⟨rfl, hB7⟩
            have K7 := K6.trans (hB7.mono K6.size)
            clear d0 d1 d2 d3 d4 e0 e1 e2 e3 e4 HS hB7 K6
            go_wp2_with fail
            go_ret
            exact ⟨rfl, K7⟩
        · have HC := Lib.hid (check_no n _ _ wr hI (by rw [HLC.out]; omega) (tabs_tops h0 HT.out n) hc)
          clear hc hI
          go_wp2_with fail
          refine HC.out.mono ?_
          rintro e w4 ⟨rfl, hB4⟩
          have K4 := A.2.2.2.trans (hB4.mono A.2.2.2.size)
          clear A d0 d1 d2 d3 d4 HC hB4
          go_wp2_with fail
          go_ret
          exact ⟨rfl, K4⟩

theorem walk (n : Int) (sv : Value) (ts : List Int) (w : World) (hI : law.Ints w.heap.size w sv ts) (htop : Tops ts) : Calls Try.prog 7 #[.agg #[.int .i64 n, sv]] w fun e w' => e = .returned (.bool true) ∧ Below w.heap.size w w' := by
  by_cases h : 1000 < ts.length
  · exact walk_far n sv ts w hI h
  · by_cases hm : MayD n ts
    · obtain ⟨m, rfl⟩ : ∃ m : Nat, n = m := ⟨n.toNat, by have := hm.1; omega⟩
      have hl : ts.length = m * m := by have := hm.2.2.1; rw [← Int.natCast_mul] at this; exact Int.ofNat.inj this
      have h0 : 0 < m := by have := hm.1; omega
      have hn : m ≤ 4 := by have := hm.2.1; omega
      have hp : 0 < m * m := Nat.mul_pos h0 h0
      rcases hI with ⟨_, rfl⟩ | ⟨b, off, cap, rfl, hb, hc⟩
      · simp at hl; omega
      · rw [hl]
        exact walk_ok m b off cap ts w h0 hn hc hb htop hm hl
    · exact walk_bad n sv ts w hI htop (by omega) hm

set_option maxRecDepth 100000 in
theorem lifted (os : Os) (started : os.Started) (H : Type) (enc : TypeId × Value → H) :
    ReturnsInHanded {} Try.checked os 7 .any (Rows.dbmClosedSpec.pre6 enc Try.prog Try.f7 Rows.dbmClosedRow.domain false) (Rows.dbmClosedSpec.post enc Try.prog Try.f7 false true false false) := by
  refine returnsInHanded_of_change (C := Try.checked) law.own started (by kernel_rfl) Try.func7
    (ChangeSpec.witness6 (enc := enc) (C := Try.checked) false ⟨#[], #[.agg #[.int .i64 0, .slice none 0 0]], []⟩ 8 (by kernel_rfl) (by kernel_rfl) (by kernel_rfl) (by kernel_rfl)) ?_
  intro W base args ds gs before hval0 hW _ _
  have hval : ∀ (j : Nat) t v, Try.f7.params[j]? = some t → args[j]? = some v → Value.okWide Try.prog W .any base t v := hval0
  have hW' := hW
  obtain ⟨p, q, hA0, hV, rfl, _, _⟩ := hW
  have hA : DataW.TrodAll enc Try.prog W 0 (fun _ => true) true Try.f7.params.toList args.toList ds p := hA0
  rw [Try.params7] at hA hval
  obtain ⟨v0, vs0, d0, ds0, p0, q0, hargs, rfl, rfl, h0, r0⟩ := trodAll_cons hA
  obtain ⟨rfl, rfl, rfl⟩ := trodAll_nil r0
  obtain rfl : args = #[v0] := by cases args; simp_all
  obtain ⟨n, sv, ts, rfl, _, hwf, hI, _⟩ := open_dbm (hval 0 27 v0 rfl rfl) h0
  refine (walk n sv ts W hI (fun z hz => law.wf_hi (hwf z hz))).mono fun e W' ⟨he, hB⟩ => ?_
  subst he
  exact ⟨_, rfl, law.post_true law.laidOut (by kernel_rfl) rfl Try.underlying4 rfl hW' (fun h => by subst h; rfl) hB⟩

theorem proved : Rows.DbmClosedSaid :=
  OpenClaim.holds_of_wide 7 Try.f7 rfl rfl rfl rfl rfl rfl rfl ⟨rfl, rfl, rfl, rfl, rfl⟩ rfl rfl rfl rfl rfl (by kernel_rfl) Try.func7 (by kernel_rfl)
    (of_decide_eq_true (by kernel_rfl)) (by unfold Func.isWrapper; first | (rw [if_pos (by decide +kernel)]; kernel_rfl) | (rw [if_neg (by decide +kernel)]; exact ⟨rfl, rfl⟩))
    (fun os started H enc _ => lifted os started H enc)
#print axioms proved
end Go.Proofs.Ytlagnbbbokgdfaa.dbmClosed
