/-
  What rallentandoref06's turned and other answer; each theorem names its conditions.
-/
import Derived.Test.YtnbpcgkdnkihdaaInclR3
namespace Go.Proofs.Ytnbpcgkdnkihdaa.iref
open Go.ChangeShapes Go.WideShapes Go.ChangeAt Go.RowKit num rat dbm way Go.Proofs.Ytnbpcgkdnkihdaa.tight Go.Proofs.Ytnbpcgkdnkihdaa.incl Go.Proofs.Ytnbpcgkdnkihdaa.tlaw
open bound hiding up
set_option linter.unusedVariables false
set_option linter.unusedSimpArgs false

/-- times the other way round. -/
def negs (X : Nat → Int) (k : Nat) : List (Int × Int) := (List.range k).map fun j => (p8 (-(X j)), q8 (-(X j)))
theorem negs_length (X : Nat → Int) (k : Nat) : (negs X k).length = k := by simp [negs]
theorem negs_at (X : Nat → Int) {k j : Nat} (h : j < k) : pr (negs X k) j = (p8 (-(X j)), q8 (-(X j))) := by
  unfold pr negs
  rw [List.getElem?_map, List.getElem?_range h]
  rfl
theorem flat_negs (X : Nat → Int) (k : Nat) : flat (negs X (k + 1)) = flat (negs X k) ++ [.int .i64 (p8 (-(X k))), .int .i64 (q8 (-(X k)))] := by
  unfold negs
  rw [List.range_succ, List.map_append]
  simp [flat, List.flatMap_append]
set_option maxRecDepth 100000 in
set_option maxHeartbeats 4000000 in
theorem turned_is (tb toff tcap k : Nat) (X : Nat → Int) (rs : List (Int × Int)) (w : World) (hk : k ≤ 4) (hR : RowR w tb toff rs) (htb : tb < w.heap.size) (hrs : rs.length = k) (hpr : ∀ j, j < k → pr rs j = (p8 (X j), q8 (X j))) (hne : ∀ j, j < k → Near (X j)) :
    Calls Try.prog 88 #[.slice (some ⟨tb, toff, none⟩) k tcap] w fun e w' => Below w.heap.size w w' ∧ ∃ v, e = .returned v ∧ w'.ownsRow w.heap.size 36 2 v k (flat (negs X k)) := by
  obtain ⟨i0, hi, hz0, hz1, hz2⟩ := info_parts info_r
  have HIN := Lib.hid (And.intro hi (And.intro hz0 (And.intro hz1 hz2)))
  have HR := Lib.hid hR
  have HRS := Lib.hid hrs
  have HPR := Lib.hid hpr
  have HNE := Lib.hid hne
  clear hi hz0 hz1 hz2 hR hrs hpr hne
  go_enter Try.func88, Try.ntmps88
  go_wp2_with fail
  go_loopw [3, 4] (fun v iv wr => ∃ j : Nat, j ≤ k ∧ iv = .int .i64 j ∧ Below w.heap.size w wr ∧ wr.ownsRow w.heap.size 36 2 v j (flat (negs X j))) (fun v iv _ => k - (intOf iv).toNat)
  case atStart => exact ⟨0, Nat.zero_le _, rfl, Below.refl _ _, World.ownsRow_nil _ _ _ _⟩
  case round =>
    obtain ⟨j, hj, rfl, hA, hO⟩ := hrel
    by_cases hjk : j < k
    · obtain ⟨m1, m2⟩ := (HR.out.below hA htb) j (by rw [HRS.out]; exact hjk)
      rw [HPR.out j hjk] at m1 m2
      have hn := HNE.out j hjk
      have hnn := near_fits (near_neg hn)
      have hna := near_fits hn
      have hng := p8_neg (X j)
      rw [hng.1, hng.2] at hnn
      have hup := flat_negs X j
      rw [hng.1, hng.2] at hup
      dsimp only at m1 m2
      generalize p8 (X j) = a at m1 hnn hna hup
      generalize q8 (X j) = b at m2 hnn hna hup
      have g1 : IntKind.i64.wrap (0 - a) = -a := by rw [Int.zero_sub]; exact IntWalk.i64_in _ (by omega)
      have g2 : IntKind.i64.wrap (-a) = -a := IntWalk.i64_in _ (by omega)
      have wj : wrap64 ((j : Int) + 1) = (j : Int) + 1 := IntWalk.wrap64_in _ ⟨by omega, by omega⟩
      obtain ⟨va, vl, vc, rfl⟩ := own_slice hO
      have HUP := Lib.hid hup
      have S0 : ∀ W, Below w.heap.size w W → W.cell? ⟨tb, toff + j * 2, none⟩ = some (.int .i64 a) ∧ W.cell? ⟨tb, toff + j * 2 + 1, none⟩ = some (.int .i64 b) := fun W hW => by
        have h1 := (hW.cell (p := ⟨tb, toff + j * 2, none⟩) htb)
        have h2 := (hW.cell (p := ⟨tb, toff + j * 2 + 1, none⟩) htb)
        have h3 := (hA.cell (p := ⟨tb, toff + j * 2, none⟩) htb)
        have h4 := (hA.cell (p := ⟨tb, toff + j * 2 + 1, none⟩) htb)
        exact ⟨h1.trans (h3.symm.trans m1), h2.trans (h4.symm.trans m2)⟩
      have HS0 := Lib.hid S0
      clear hup hnn hna hng hn S0 m1 m2
      go_wp2_with fail
      refine wp_region_held_drew (S := Below w.heap.size w) (by kernel_rfl) (lies.frame_drew hA) (fun hHeld => ?_)
      refine wpAnyH_take (i := 0) (v := ?_) rfl (by kernel_rfl) (by kernel_rfl) (by kernel_rfl) (fun _ _ _ h => h) (Or.inl ⟨by rfl, ?_⟩) hHeld ?_
      rotate_left
      · intro w hSw; obtain ⟨s0, s1⟩ := HS0.out _ hSw; go_simp; try with_reducible rfl
      try simp only [Act.put, List.getElem_toArray, List.getElem_cons_zero, List.getElem_cons_succ, List.setIfInBounds_toArray, List.set_cons_zero, List.set_cons_succ]
      refine wpAnyH_take (i := 1) (v := ?_) rfl (by kernel_rfl) (by kernel_rfl) (by kernel_rfl) (fun _ _ _ h => h) (Or.inl ⟨by rfl, ?_⟩) hHeld ?_
      rotate_left
      · intro w hSw; obtain ⟨s0, s1⟩ := HS0.out _ hSw; go_simp; try with_reducible rfl
      try simp only [Act.put, List.getElem_toArray, List.getElem_cons_zero, List.getElem_cons_succ, List.setIfInBounds_toArray, List.set_cons_zero, List.set_cons_succ]
      refine wpAnyH_take (i := 2) (v := ?_) rfl (by kernel_rfl) (by kernel_rfl) (by kernel_rfl) (fun _ _ _ h => h) (Or.inl ⟨by rfl, ?_⟩) hHeld ?_
      rotate_left
      · intro w hSw; obtain ⟨s0, s1⟩ := HS0.out _ hSw; go_simp; try with_reducible rfl
      try simp only [Act.put, List.getElem_toArray, List.getElem_cons_zero, List.getElem_cons_succ, List.setIfInBounds_toArray, List.set_cons_zero, List.set_cons_succ]
      refine wpAnyH_take (i := 3) (v := ?_) rfl (by kernel_rfl) (by kernel_rfl) (by kernel_rfl) (fun _ _ _ h => h) (Or.inl ⟨by rfl, ?_⟩) hHeld ?_
      rotate_left
      · intro w hSw; obtain ⟨s0, s1⟩ := HS0.out _ hSw; go_simp; try with_reducible rfl
      try simp only [Act.put, List.getElem_toArray, List.getElem_cons_zero, List.getElem_cons_succ, List.setIfInBounds_toArray, List.set_cons_zero, List.set_cons_succ]
      refine wpAnyH_take (i := 4) (v := ?_) rfl (by kernel_rfl) (by kernel_rfl) (by kernel_rfl) (fun _ _ _ h => h) (Or.inl ⟨by rfl, ?_⟩) hHeld ?_
      rotate_left
      · intro w hSw; obtain ⟨s0, s1⟩ := HS0.out _ hSw; go_simp; try with_reducible rfl
      try simp only [Act.put, List.getElem_toArray, List.getElem_cons_zero, List.getElem_cons_succ, List.setIfInBounds_toArray, List.set_cons_zero, List.set_cons_succ]
      refine wpAnyH_take (i := 5) (v := ?_) rfl (by kernel_rfl) (by kernel_rfl) (by kernel_rfl) (fun _ _ _ h => h) (Or.inl ⟨by rfl, ?_⟩) hHeld ?_
      rotate_left
      · intro w hSw; obtain ⟨s0, s1⟩ := HS0.out _ hSw; go_simp; try with_reducible rfl
      try simp only [Act.put, List.getElem_toArray, List.getElem_cons_zero, List.getElem_cons_succ, List.setIfInBounds_toArray, List.set_cons_zero, List.set_cons_succ]
      refine wpAnyH_take (i := 6) (v := ?_) rfl (by kernel_rfl) (by kernel_rfl) (by kernel_rfl) (fun _ _ _ h => h) (Or.inl ⟨by rfl, ?_⟩) hHeld ?_
      rotate_left
      · intro w hSw; obtain ⟨s0, s1⟩ := HS0.out _ hSw; go_simp; try with_reducible rfl
      try simp only [Act.put, List.getElem_toArray, List.getElem_cons_zero, List.getElem_cons_succ, List.setIfInBounds_toArray, List.set_cons_zero, List.set_cons_succ]
      refine wpAnyH_take (i := 7) (v := ?_) rfl (by kernel_rfl) (by kernel_rfl) (by kernel_rfl) (fun _ _ _ h => h) (Or.inl ⟨by rfl, ?_⟩) hHeld ?_
      rotate_left
      · intro w hSw; obtain ⟨s0, s1⟩ := HS0.out _ hSw; go_simp; try with_reducible rfl
      try simp only [Act.put, List.getElem_toArray, List.getElem_cons_zero, List.getElem_cons_succ, List.setIfInBounds_toArray, List.set_cons_zero, List.set_cons_succ]
      refine wpAnyH_take (i := 8) (v := ?_) rfl (by kernel_rfl) (by kernel_rfl) (by kernel_rfl) (fun _ _ _ h => h) (Or.inl ⟨by rfl, ?_⟩) hHeld ?_
      rotate_left
      · intro w hSw; obtain ⟨s0, s1⟩ := HS0.out _ hSw; go_simp; try with_reducible rfl
      try simp only [Act.put, List.getElem_toArray, List.getElem_cons_zero, List.getElem_cons_succ, List.setIfInBounds_toArray, List.set_cons_zero, List.set_cons_succ]
      refine wpAnyH_take (i := 9) (v := ?_) rfl (by kernel_rfl) (by kernel_rfl) (by kernel_rfl) (fun _ _ _ h => h) (Or.inl ⟨by rfl, ?_⟩) hHeld ?_
      rotate_left
      · intro w hSw; obtain ⟨s0, s1⟩ := HS0.out _ hSw; go_simp; try with_reducible rfl
      try simp only [Act.put, List.getElem_toArray, List.getElem_cons_zero, List.getElem_cons_succ, List.setIfInBounds_toArray, List.set_cons_zero, List.set_cons_succ]
      refine wpAnyH_take (i := 10) (v := ?_) rfl (by kernel_rfl) (by kernel_rfl) (by kernel_rfl) (fun _ _ _ h => h) (Or.inl ⟨by rfl, ?_⟩) hHeld ?_
      rotate_left
      · intro w hSw; obtain ⟨s0, s1⟩ := HS0.out _ hSw; go_simp; try with_reducible rfl
      try simp only [Act.put, List.getElem_toArray, List.getElem_cons_zero, List.getElem_cons_succ, List.setIfInBounds_toArray, List.set_cons_zero, List.set_cons_succ]
      refine wpAnyH_take (i := 11) (v := ?_) rfl (by kernel_rfl) (by kernel_rfl) (by kernel_rfl) (fun _ _ _ h => h) (Or.inl ⟨by rfl, ?_⟩) hHeld ?_
      rotate_left
      · intro w hSw; obtain ⟨s0, s1⟩ := HS0.out _ hSw; go_simp; try with_reducible rfl
      try simp only [Act.put, List.getElem_toArray, List.getElem_cons_zero, List.getElem_cons_succ, List.setIfInBounds_toArray, List.set_cons_zero, List.set_cons_succ]
      refine wpAnyH_take (i := 12) (v := ?_) rfl (by kernel_rfl) (by kernel_rfl) (by kernel_rfl) (fun _ _ _ h => h) (Or.inl ⟨by rfl, ?_⟩) hHeld ?_
      rotate_left
      · intro w hSw; obtain ⟨s0, s1⟩ := HS0.out _ hSw; go_simp; try with_reducible rfl
      try simp only [Act.put, List.getElem_toArray, List.getElem_cons_zero, List.getElem_cons_succ, List.setIfInBounds_toArray, List.set_cons_zero, List.set_cons_succ]
      refine wpAnyH_ready (rs := [13]) (by kernel_rfl) (by simp) (AllReadyH.cons rfl (fun K hK => ?_) AllReadyH.nil)
      go_simp
      have M7 := lies.made wr.drew 36 #[.int .i64 (-a), .int .i64 b]
      have O7 := (World.ownsRow.drew hO).alloc (.cells #[.int .i64 (-a), .int .i64 b] 36)
      have hsb := hA.size
      refine hK.out _ _ (lies.frame_up hHeld _) (fun hNew => ?_)
      clear hHeld hK K
      have hHeld := hNew
      clear hNew
      try simp only [Act.put, List.getElem_toArray, List.getElem_cons_zero, List.getElem_cons_succ, List.setIfInBounds_toArray, List.set_cons_zero, List.set_cons_succ]
      refine wpAnyH_ready (rs := [14]) (by kernel_rfl) (by simp) (AllReadyH.cons rfl (fun K hK => ?_) AllReadyH.nil)
      rw [if_pos (by rfl)]
      refine wp_append_own _ (.tmp 11) (.tmp 24) 30 rfl w.heap.size 36 i0 (.agg #[.int .i64 (0), .int .i64 (0)]) 2 16 Try.underlying30 HIN.out.1 HIN.out.2.1 HIN.out.2.2.1 HIN.out.2.2.2 rfl (by decide) _ _ _ rfl O7 ⟨wr.heap.size, 0, none⟩ 1 1 [.int .i64 (-a), .int .i64 b] rfl rfl (two_new M7) (by simp [Value.oneCell']) (by unfold maxLen; omega) (by omega) (by simp; omega) ?_
      intro v' w8 hown' hgrow _
      have B8 : Below w.heap.size w w8 := hHeld.grown hgrow (by simp; omega) (fun q e => (hO.lt q e).1)
      obtain ⟨wa, wl, wc, rfl⟩ := own_slice hown'
      have HO8 := Lib.hid hown'
      refine hK.out _ _ B8 (fun hNew => ?_)
      clear hown' hgrow O7 M7 hO
      clear hHeld hK K
      have hHeld := hNew
      clear hNew
      try simp only [Act.put, List.getElem_toArray, List.getElem_cons_zero, List.getElem_cons_succ, List.setIfInBounds_toArray, List.set_cons_zero, List.set_cons_succ]
      refine wpAnyH_take (i := 15) (v := ?_) rfl (by kernel_rfl) (by kernel_rfl) (by kernel_rfl) (fun _ _ _ h => h) (Or.inl ⟨by rfl, ?_⟩) hHeld ?_
      rotate_left
      · intro w hSw; skip; go_simp; try with_reducible rfl
      try simp only [Act.put, List.getElem_toArray, List.getElem_cons_zero, List.getElem_cons_succ, List.setIfInBounds_toArray, List.set_cons_zero, List.set_cons_succ]
      refine wpAnyH_done (by kernel_rfl) ?_ _
      go_wp2_with fail
      go_roundw
      case rel => exact ⟨j + 1, by omega, by go_num, B8, by rw [HUP.out]; exact HO8.out⟩
      case measure => simp [intOf]; omega
    · obtain rfl : j = k := by omega
      obtain ⟨va, vl, vc, rfl⟩ := own_slice hO
      have HO := Lib.hid hO
      clear hO
      go_wp2_with fail
      go_ret
      exact ⟨hA, _, rfl, HO.out⟩

/-! the matrix of the times the other way round -/
/-- its first bounds. -/
def trT (n : Nat) (us : List Int) (k : Nat) : List Int := (List.range k).map fun p => us[(p % n) * n + p / n]?.getD 0
theorem trT_up (n : Nat) (us : List Int) (k : Nat) : (trT n us (k + 1)).map (Value.int .i64) = (trT n us k).map (Value.int .i64) ++ [.int .i64 (us[(k % n) * n + k / n]?.getD 0)] := by
  unfold trT
  rw [List.range_succ, List.map_append, List.map_append]
  rfl
theorem trT_length (n : Nat) (us : List Int) (k : Nat) : (trT n us k).length = k := by simp [trT]
theorem trT_at (n : Nat) (us : List Int) {k p : Nat} (h : p < k) : (trT n us k)[p]?.getD 0 = us[(p % n) * n + p / n]?.getD 0 := by
  unfold trT
  rw [List.getElem?_map, List.getElem?_range h]
  rfl
theorem trT_tat {n : Nat} (us : List Int) (hn : n ≤ 4) {i j : Nat} (hi : i < n) (hj : j < n) : tat (trT n us (n * n)) n i j = tat us n j i := by
  have h0 : 0 < n := by omega
  have e1 : (i * n + j) % n = j := by rw [Nat.add_comm, Nat.add_mul_mod_self_right]; exact Nat.mod_eq_of_lt hj
  have e2 : (i * n + j) / n = i := by rw [Nat.add_comm, Nat.add_mul_div_right _ _ h0, Nat.div_eq_of_lt hj]; omega
  unfold tat
  rw [trT_at n us (place_le hn hi hj), e1, e2]
/-- what lies there while it is written. -/
def OI (n b off cap : Nat) (us : List Int) (k : Nat) (w W : World) : Prop := ∃ v, lies.Lies W w.heap.size 27 #[.int .i64 n, .slice (some ⟨b, off, none⟩) (n * n) cap] ∧ lies.Lies W (w.heap.size + 1) 27 #[.int .i64 0, .slice none 0 0] ∧ lies.Lies W (w.heap.size + 1 + 1) 27 #[.int .i64 n, v] ∧ W.ownsRow (w.heap.size + 1 + 1 + 1) 29 1 v k ((trT n us k).map (Value.int .i64)) ∧ Below w.heap.size w W
set_option maxRecDepth 100000 in
set_option maxHeartbeats 8000000 in
theorem other_is (n b off cap : Nat) (us : List Int) (w : World) (h0 : 0 < n) (hn : n ≤ 4) (hr : Row w b off us) (hb : b < w.heap.size) (hu : us.length = n * n) :
    Calls Try.prog 87 #[.agg #[.int .i64 n, .slice (some ⟨b, off, none⟩) (n * n) cap]] w fun e w' => Below w.heap.size w w' ∧ ∃ g cc, e = .returned (.agg #[.int .i64 n, .slice (some ⟨g, 0, none⟩) (n * n) cc]) ∧ Row w' g 0 (trT n us (n * n)) ∧ g < w'.heap.size := by
  obtain ⟨i0, hi, hz0, hz1, hz2⟩ := info_parts info_b
  have HIN := Lib.hid (And.intro hi (And.intro hz0 (And.intro hz1 hz2)))
  have hsq := sq_le hn
  have hpp : 0 < n * n := Nat.mul_pos h0 h0
  have HR := Lib.hid hr
  have HU := Lib.hid hu
  clear hi hz0 hz1 hz2 hr hu
  have E0 := lies.on_alloc (lies.on_alloc (lies.made w 27 #[.int .i64 n, .slice (some ⟨b, off, none⟩) (n * n) cap]) (.cells #[.int .i64 0, .slice none 0 0] 27)) (.cells #[.int .i64 n, .slice none 0 0] 27)
  have E1 := lies.on_alloc (lies.made_at (w.alloc (.cells #[.int .i64 n, .slice (some ⟨b, off, none⟩) (n * n) cap] 27)) 27 #[.int .i64 0, .slice none 0 0] (w.heap.size + 1) (World.size_alloc _ _)) (.cells #[.int .i64 n, .slice none 0 0] 27)
  have E2 := lies.made_at ((w.alloc (.cells #[.int .i64 n, .slice (some ⟨b, off, none⟩) (n * n) cap] 27)).alloc (.cells #[.int .i64 0, .slice none 0 0] 27)) 27 #[.int .i64 n, .slice none 0 0] (w.heap.size + 1 + 1) (by simp)
  have EB := bound.up3 w (.cells #[.int .i64 n, .slice (some ⟨b, off, none⟩) (n * n) cap] 27) (.cells #[.int .i64 0, .slice none 0 0] 27) (.cells #[.int .i64 n, .slice none 0 0] 27)
  have I0 : OI n b off cap us 0 w _ := ⟨_, E0, E1, E2, World.ownsRow_nil _ _ _ _, EB⟩
  clear E0 E1 E2 EB
  go_enter Try.func87, Try.ntmps87
  go_wp2_with fail
  generalize ((w.alloc (.cells #[.int .i64 n, .slice (some ⟨b, off, none⟩) (n * n) cap] 27)).alloc (.cells #[.int .i64 0, .slice none 0 0] 27)).alloc (.cells #[.int .i64 n, .slice none 0 0] 27) = w0 at I0 ⊢
  go_loopw [4] (fun iv wr => ∃ i : Nat, i ≤ n ∧ iv = .int .i64 i ∧ OI n b off cap us (i * n) w wr) (fun iv _ => n - (intOf iv).toNat)
  case atStart => exact ⟨0, Nat.zero_le _, rfl, by rw [Nat.zero_mul]; exact I0⟩
  case round =>
    clear I0
    obtain ⟨i, hi, rfl, hA⟩ := hrel
    by_cases hin : i < n
    · obtain ⟨y0, y1, y2, y3, y4⟩ := lies.two hA.choose_spec.1
      go_wp2_with fail
      clear y0 y1 y2 y3 y4
      go_loopw [5] (fun jv wr => ∃ j : Nat, j ≤ n ∧ jv = .int .i64 j ∧ OI n b off cap us (i * n + j) w wr) (fun jv _ => n - (intOf jv).toNat)
      case atStart => exact ⟨0, Nat.zero_le _, rfl, hA⟩
      case round =>
        clear hA
        obtain ⟨j, hj, rfl, v, L0', L1', L2', hO, LB'⟩ := hrel
        obtain ⟨y0, y1, y2, y3, y4⟩ := lies.two L0'
        by_cases hjn : j < n
        · obtain ⟨q1, q2, q3, q4, q5, q6, q7⟩ := dref.place_int hn hjn hin
          have hpl := place_le hn hjn hin
          have hpk := place_le hn hin hjn
          have hz := (HR.out.below LB' hb) (j * n + i) (by rw [HU.out]; exact hpl)
          have e1 : (i * n + j) % n = j := by rw [Nat.add_comm, Nat.add_mul_mod_self_right]; exact Nat.mod_eq_of_lt hjn
          have e2 : (i * n + j) / n = i := by rw [Nat.add_comm, Nat.add_mul_div_right _ _ h0, Nat.div_eq_of_lt hjn]; omega
          have hup := trT_up n us (i * n + j)
          rw [e1, e2] at hup
          generalize us[j * n + i]?.getD 0 = z at hz hup
          have HUP := Lib.hid hup
          obtain ⟨va, vl, vc, rfl⟩ := tight.own_slice hO
          have hS : ∀ W, lies.Lies W w.heap.size 27 #[.int .i64 n, .slice (some ⟨b, off, none⟩) (n * n) cap] → Below w.heap.size w W → (W.cell? ⟨w.heap.size, 0, none⟩ = some (.int .i64 n) ∧ W.cell? ⟨w.heap.size, 1, none⟩ = some (.slice (some ⟨b, off, none⟩) (n * n) cap)) ∧ W.cell? ⟨b, off + (j * n + i), none⟩ = some (.int .i64 z) := fun W h k =>
            ⟨lies.pair h, (k.cell (p := ⟨b, off + (j * n + i), none⟩) hb).trans ((LB'.cell (p := ⟨b, off + (j * n + i), none⟩) hb).symm.trans hz)⟩
          have HS := Lib.hid hS
          clear hS hup e1 e2
          go_wp2_with fail
          clear y0 y1 y2 y3 y4 hz
          have L0 : lies.Lies wr.drew w.heap.size 27 #[.int .i64 n, .slice (some ⟨b, off, none⟩) (n * n) cap] := L0'
          have L1 : lies.Lies wr.drew (w.heap.size + 1) 27 #[.int .i64 0, .slice none 0 0] := L1'
          have L2 : lies.Lies wr.drew (w.heap.size + 1 + 1) 27 #[.int .i64 n, .slice va vl vc] := L2'
          have LB : Below w.heap.size w wr.drew := lies.frame_drew LB'
          have hsz := LB'.size
          have hlt2 := lies.lt L2'
          clear L0' L1' LB'
          have wj : wrap64 ((j : Int) + 1) = (j : Int) + 1 := IntWalk.wrap64_in _ ⟨by omega, by omega⟩
          refine wp_region_held_drew (S := fun W => (W.cell? ⟨w.heap.size, 0, none⟩ = some (.int .i64 n) ∧ W.cell? ⟨w.heap.size, 1, none⟩ = some (.slice (some ⟨b, off, none⟩) (n * n) cap)) ∧ W.cell? ⟨b, off + (j * n + i), none⟩ = some (.int .i64 z)) (by kernel_rfl) (HS.out _ L0 LB) (fun hHeld => ?_)
          refine wpAnyH_take (i := 0) (v := ?_) rfl (by kernel_rfl) (by kernel_rfl) (by kernel_rfl) (fun _ _ _ h => h) (Or.inl ⟨by rfl, ?_⟩) hHeld ?_
          rotate_left
          · intro w hSw; skip; go_simp; try with_reducible rfl
          try simp only [Act.put, List.getElem_toArray, List.getElem_cons_zero, List.getElem_cons_succ, List.setIfInBounds_toArray, List.set_cons_zero, List.set_cons_succ]
          refine wpAnyH_take (i := 2) (v := ?_) rfl (by kernel_rfl) (by kernel_rfl) (by kernel_rfl) (fun _ _ _ h => h) (Or.inl ⟨by rfl, ?_⟩) hHeld ?_
          rotate_left
          · intro w hSw; obtain ⟨⟨s0, s1⟩, s2⟩ := hSw; go_simp; try with_reducible rfl
          try simp only [Act.put, List.getElem_toArray, List.getElem_cons_zero, List.getElem_cons_succ, List.setIfInBounds_toArray, List.set_cons_zero, List.set_cons_succ]
          refine wpAnyH_take (i := 3) (v := ?_) rfl (by kernel_rfl) (by kernel_rfl) (by kernel_rfl) (fun _ _ _ h => h) (Or.inl ⟨by rfl, ?_⟩) hHeld ?_
          rotate_left
          · intro w hSw; obtain ⟨⟨s0, s1⟩, s2⟩ := hSw; go_simp; try with_reducible rfl
          try simp only [Act.put, List.getElem_toArray, List.getElem_cons_zero, List.getElem_cons_succ, List.setIfInBounds_toArray, List.set_cons_zero, List.set_cons_succ]
          refine wpAnyH_take (i := 4) (v := ?_) rfl (by kernel_rfl) (by kernel_rfl) (by kernel_rfl) (fun _ _ _ h => h) (Or.inl ⟨by rfl, ?_⟩) hHeld ?_
          rotate_left
          · intro w hSw; obtain ⟨⟨s0, s1⟩, s2⟩ := hSw; go_simp; try with_reducible rfl
          try simp only [Act.put, List.getElem_toArray, List.getElem_cons_zero, List.getElem_cons_succ, List.setIfInBounds_toArray, List.set_cons_zero, List.set_cons_succ]
          refine wpAnyH_take (i := 5) (v := ?_) rfl (by kernel_rfl) (by kernel_rfl) (by kernel_rfl) (fun _ _ _ h => h) (Or.inl ⟨by rfl, ?_⟩) hHeld ?_
          rotate_left
          · intro w hSw; obtain ⟨⟨s0, s1⟩, s2⟩ := hSw; go_simp; try with_reducible rfl
          try simp only [Act.put, List.getElem_toArray, List.getElem_cons_zero, List.getElem_cons_succ, List.setIfInBounds_toArray, List.set_cons_zero, List.set_cons_succ]
          refine wpAnyH_take (i := 6) (v := ?_) rfl (by kernel_rfl) (by kernel_rfl) (by kernel_rfl) (fun _ _ _ h => h) (Or.inl ⟨by rfl, ?_⟩) hHeld ?_
          rotate_left
          · intro w hSw; obtain ⟨⟨s0, s1⟩, s2⟩ := hSw; go_simp; try with_reducible rfl
          try simp only [Act.put, List.getElem_toArray, List.getElem_cons_zero, List.getElem_cons_succ, List.setIfInBounds_toArray, List.set_cons_zero, List.set_cons_succ]
          refine wpAnyH_take (i := 7) (v := ?_) rfl (by kernel_rfl) (by kernel_rfl) (by kernel_rfl) (fun _ _ _ h => h) (Or.inl ⟨by rfl, ?_⟩) hHeld ?_
          rotate_left
          · intro w hSw; obtain ⟨⟨s0, s1⟩, s2⟩ := hSw; go_simp; try with_reducible rfl
          try simp only [Act.put, List.getElem_toArray, List.getElem_cons_zero, List.getElem_cons_succ, List.setIfInBounds_toArray, List.set_cons_zero, List.set_cons_succ]
          refine wpAnyH_take (i := 8) (v := ?_) rfl (by kernel_rfl) (by kernel_rfl) (by kernel_rfl) (fun _ _ _ h => h) (Or.inl ⟨by rfl, ?_⟩) hHeld ?_
          rotate_left
          · intro w hSw; obtain ⟨⟨s0, s1⟩, s2⟩ := hSw; go_simp; try with_reducible rfl
          try simp only [Act.put, List.getElem_toArray, List.getElem_cons_zero, List.getElem_cons_succ, List.setIfInBounds_toArray, List.set_cons_zero, List.set_cons_succ]
          refine wpAnyH_take (i := 9) (v := ?_) rfl (by kernel_rfl) (by kernel_rfl) (by kernel_rfl) (fun _ _ _ h => h) (Or.inl ⟨by rfl, ?_⟩) hHeld ?_
          rotate_left
          · intro w hSw; obtain ⟨⟨s0, s1⟩, s2⟩ := hSw; go_simp; try with_reducible rfl
          try simp only [Act.put, List.getElem_toArray, List.getElem_cons_zero, List.getElem_cons_succ, List.setIfInBounds_toArray, List.set_cons_zero, List.set_cons_succ]
          refine wpAnyH_take (i := 10) (v := ?_) rfl (by kernel_rfl) (by kernel_rfl) (by kernel_rfl) (fun _ _ _ h => h) (Or.inl ⟨by rfl, ?_⟩) hHeld ?_
          rotate_left
          · intro w hSw; obtain ⟨⟨s0, s1⟩, s2⟩ := hSw; go_simp; try with_reducible rfl
          try simp only [Act.put, List.getElem_toArray, List.getElem_cons_zero, List.getElem_cons_succ, List.setIfInBounds_toArray, List.set_cons_zero, List.set_cons_succ]
          refine wpAnyH_take (i := 11) (v := ?_) rfl (by kernel_rfl) (by kernel_rfl) (by kernel_rfl) (fun _ _ _ h => h) (Or.inl ⟨by rfl, ?_⟩) hHeld ?_
          rotate_left
          · intro w hSw; obtain ⟨⟨s0, s1⟩, s2⟩ := hSw; go_simp; try with_reducible rfl
          try simp only [Act.put, List.getElem_toArray, List.getElem_cons_zero, List.getElem_cons_succ, List.setIfInBounds_toArray, List.set_cons_zero, List.set_cons_succ]
          clear q1 q2 q3 q4 q5 q6 q7
          refine wpAnyH_ready (rs := [1, 12]) (by kernel_rfl) (by simp) (AllReadyH.cons rfl (fun K hK => ?_) (AllReadyH.cons rfl (fun K hK => ?_) AllReadyH.nil))
          · obtain ⟨x0, x1, x2, x3, x4⟩ := lies.two L2'
            go_simp
            refine hK.out _ _ hHeld (fun hNew => ?_)
            clear x0 x1 x2 x3 x4
            clear hHeld hK K
            have hHeld := hNew
            clear hNew
            try simp only [Act.put, List.getElem_toArray, List.getElem_cons_zero, List.getElem_cons_succ, List.setIfInBounds_toArray, List.set_cons_zero, List.set_cons_succ]
            clear L2'
            refine wpAnyH_ready (rs := [12]) (by kernel_rfl) (by simp) (AllReadyH.cons rfl (fun K hK => ?_) AllReadyH.nil)
            go_simp
            have M7 := lies.made wr.drew 29 #[.int .i64 z]
            have O7 := (World.ownsRow.drew hO).alloc (.cells #[.int .i64 z] 29)
            have P0 := lies.on_alloc L0 (.cells #[.int .i64 z] 29)
            have P1 := lies.on_alloc L1 (.cells #[.int .i64 z] 29)
            have P2 := lies.on_alloc L2 (.cells #[.int .i64 z] 29)
            have PB := lies.frame_up LB (.cells #[.int .i64 z] 29)
            refine hK.out _ _ (HS.out _ P0 PB) (fun hNew => ?_)
            clear hHeld hK K
            have hHeld := hNew
            clear hNew
            try simp only [Act.put, List.getElem_toArray, List.getElem_cons_zero, List.getElem_cons_succ, List.setIfInBounds_toArray, List.set_cons_zero, List.set_cons_succ]
            refine wpAnyH_ready (rs := [13]) (by kernel_rfl) (by simp) (AllReadyH.cons rfl (fun K hK => ?_) AllReadyH.nil)
            rw [if_pos (by rfl)]
            refine wp_append_own _ (.tmp 22) (.tmp 33) 25 rfl (w.heap.size + 1 + 1 + 1) 29 i0 (.int .i64 0) 1 8 Try.underlying25 HIN.out.1 HIN.out.2.1 HIN.out.2.2.1 HIN.out.2.2.2 rfl (by decide) _ _ _ rfl O7 ⟨wr.heap.size, 0, none⟩ 1 1 [.int .i64 z] rfl rfl (cell_one_new _ _ _) (by simp [Value.oneCell']) (by unfold maxLen; omega) (by omega) (by simp; omega) ?_
            intro v' w8 hown' hgrow _
            have hbk : ∀ q, (Value.slice va vl vc).ownBlock = some q → w.heap.size + 1 + 1 + 1 ≤ q := fun q e => (hO.lt q e).1
            have Q0 := (World.grownBy.block hgrow _ (lies.lt P0) (fun e => by have := hbk _ e.symm; omega)).trans P0
            have Q1 := (World.grownBy.block hgrow _ (lies.lt P1) (fun e => by have := hbk _ e.symm; omega)).trans P1
            have Q2 := (World.grownBy.block hgrow _ (lies.lt P2) (fun e => by have := hbk _ e.symm; omega)).trans P2
            have QB := PB.grown hgrow (by simp; omega) (fun q e => by have := hbk q e; omega)
            replace Q0 : lies.Lies w8 w.heap.size 27 #[.int .i64 n, .slice (some ⟨b, off, none⟩) (n * n) cap] := Q0
            replace Q1 : lies.Lies w8 (w.heap.size + 1) 27 #[.int .i64 0, .slice none 0 0] := Q1
            replace Q2 : lies.Lies w8 (w.heap.size + 1 + 1) 27 #[.int .i64 n, .slice va vl vc] := Q2
            obtain ⟨wa, wl, wc, rfl⟩ := tight.own_slice hown'
            have HO8 := Lib.hid hown'
            refine hK.out _ _ (HS.out _ Q0 QB) (fun hNew => ?_)
            clear hown' hgrow O7 M7 hO L0 L1 L2 LB P0 P1 P2 PB hbk
            clear hHeld hK K
            have hHeld := hNew
            clear hNew
            try simp only [Act.put, List.getElem_toArray, List.getElem_cons_zero, List.getElem_cons_succ, List.setIfInBounds_toArray, List.set_cons_zero, List.set_cons_succ]
            refine wpAnyH_take (i := 14) (v := ?_) rfl (by kernel_rfl) (by kernel_rfl) (by kernel_rfl) (fun _ _ _ h => h) (Or.inl ⟨by rfl, ?_⟩) hHeld ?_
            rotate_left
            · intro w hSw; skip; go_simp; try with_reducible rfl
            try simp only [Act.put, List.getElem_toArray, List.getElem_cons_zero, List.getElem_cons_succ, List.setIfInBounds_toArray, List.set_cons_zero, List.set_cons_succ]
            obtain ⟨x0, x1, x2, x3, x4⟩ := lies.two Q2
            refine wpAnyH_ready (rs := [15]) (by kernel_rfl) (by simp) (AllReadyH.cons rfl (fun K hK => ?_) AllReadyH.nil)
            go_simp
            have R0 := lies.on_far Q0 (b := w.heap.size + 1 + 1) 1 (by omega) (.slice wa wl wc)
            have R1 := lies.on_far Q1 (b := w.heap.size + 1 + 1) 1 (by omega) (.slice wa wl wc)
            have R2 := lies.on_put Q2 1 (.slice wa wl wc)
            have RB := QB.setCell (p := ⟨w.heap.size + 1 + 1, 1, none⟩) (by dsimp only; omega) (.slice wa wl wc)
            have RO := tight.own_far HO8.out (p := ⟨w.heap.size + 1 + 1, 1, none⟩) (by dsimp only; omega) (.slice wa wl wc)
            refine hK.out _ _ (HS.out _ R0 RB) (fun hNew => ?_)
            clear x0 x1 x2 x3 x4 Q0 Q1 Q2 QB hHeld hK K hNew
            refine wpAnyH_done (by kernel_rfl) ?_ _
            have HRO := Lib.hid RO
            clear RO HO8
            go_wp2_with fail
            go_roundw
            case rel => exact ⟨j + 1, by omega, by go_num, .slice wa wl wc, R0, R1, R2, by rw [← Nat.add_assoc, HUP.out]; exact HRO.out, RB⟩
            case measure => simp [intOf]; omega
          · go_simp
            have M7 := lies.made wr.drew 29 #[.int .i64 z]
            have O7 := (World.ownsRow.drew hO).alloc (.cells #[.int .i64 z] 29)
            have P0 := lies.on_alloc L0 (.cells #[.int .i64 z] 29)
            have P1 := lies.on_alloc L1 (.cells #[.int .i64 z] 29)
            have P2 := lies.on_alloc L2 (.cells #[.int .i64 z] 29)
            have PB := lies.frame_up LB (.cells #[.int .i64 z] 29)
            refine hK.out _ _ (HS.out _ P0 PB) (fun hNew => ?_)
            clear hHeld hK K
            have hHeld := hNew
            clear hNew
            try simp only [Act.put, List.getElem_toArray, List.getElem_cons_zero, List.getElem_cons_succ, List.setIfInBounds_toArray, List.set_cons_zero, List.set_cons_succ]
            obtain ⟨x0, x1, x2, x3, x4⟩ := lies.two L2'
            refine wpAnyH_ready (rs := [1]) (by kernel_rfl) (by simp) (AllReadyH.cons rfl (fun K hK => ?_) AllReadyH.nil)
            go_simp
            refine hK.out _ _ hHeld (fun hNew => ?_)
            clear x0 x1 x2 x3 x4
            clear hHeld hK K
            have hHeld := hNew
            clear hNew
            try simp only [Act.put, List.getElem_toArray, List.getElem_cons_zero, List.getElem_cons_succ, List.setIfInBounds_toArray, List.set_cons_zero, List.set_cons_succ]
            refine wpAnyH_ready (rs := [13]) (by kernel_rfl) (by simp) (AllReadyH.cons rfl (fun K hK => ?_) AllReadyH.nil)
            rw [if_pos (by rfl)]
            refine wp_append_own _ (.tmp 22) (.tmp 33) 25 rfl (w.heap.size + 1 + 1 + 1) 29 i0 (.int .i64 0) 1 8 Try.underlying25 HIN.out.1 HIN.out.2.1 HIN.out.2.2.1 HIN.out.2.2.2 rfl (by decide) _ _ _ rfl O7 ⟨wr.heap.size, 0, none⟩ 1 1 [.int .i64 z] rfl rfl (cell_one_new _ _ _) (by simp [Value.oneCell']) (by unfold maxLen; omega) (by omega) (by simp; omega) ?_
            intro v' w8 hown' hgrow _
            have hbk : ∀ q, (Value.slice va vl vc).ownBlock = some q → w.heap.size + 1 + 1 + 1 ≤ q := fun q e => (hO.lt q e).1
            have Q0 := (World.grownBy.block hgrow _ (lies.lt P0) (fun e => by have := hbk _ e.symm; omega)).trans P0
            have Q1 := (World.grownBy.block hgrow _ (lies.lt P1) (fun e => by have := hbk _ e.symm; omega)).trans P1
            have Q2 := (World.grownBy.block hgrow _ (lies.lt P2) (fun e => by have := hbk _ e.symm; omega)).trans P2
            have QB := PB.grown hgrow (by simp; omega) (fun q e => by have := hbk q e; omega)
            replace Q0 : lies.Lies w8 w.heap.size 27 #[.int .i64 n, .slice (some ⟨b, off, none⟩) (n * n) cap] := Q0
            replace Q1 : lies.Lies w8 (w.heap.size + 1) 27 #[.int .i64 0, .slice none 0 0] := Q1
            replace Q2 : lies.Lies w8 (w.heap.size + 1 + 1) 27 #[.int .i64 n, .slice va vl vc] := Q2
            obtain ⟨wa, wl, wc, rfl⟩ := tight.own_slice hown'
            have HO8 := Lib.hid hown'
            refine hK.out _ _ (HS.out _ Q0 QB) (fun hNew => ?_)
            clear hown' hgrow O7 M7 hO L0 L1 L2 LB P0 P1 P2 PB hbk
            clear hHeld hK K
            have hHeld := hNew
            clear hNew
            try simp only [Act.put, List.getElem_toArray, List.getElem_cons_zero, List.getElem_cons_succ, List.setIfInBounds_toArray, List.set_cons_zero, List.set_cons_succ]
            refine wpAnyH_take (i := 14) (v := ?_) rfl (by kernel_rfl) (by kernel_rfl) (by kernel_rfl) (fun _ _ _ h => h) (Or.inl ⟨by rfl, ?_⟩) hHeld ?_
            rotate_left
            · intro w hSw; skip; go_simp; try with_reducible rfl
            try simp only [Act.put, List.getElem_toArray, List.getElem_cons_zero, List.getElem_cons_succ, List.setIfInBounds_toArray, List.set_cons_zero, List.set_cons_succ]
            obtain ⟨x0, x1, x2, x3, x4⟩ := lies.two Q2
            refine wpAnyH_ready (rs := [15]) (by kernel_rfl) (by simp) (AllReadyH.cons rfl (fun K hK => ?_) AllReadyH.nil)
            go_simp
            have R0 := lies.on_far Q0 (b := w.heap.size + 1 + 1) 1 (by omega) (.slice wa wl wc)
            have R1 := lies.on_far Q1 (b := w.heap.size + 1 + 1) 1 (by omega) (.slice wa wl wc)
            have R2 := lies.on_put Q2 1 (.slice wa wl wc)
            have RB := QB.setCell (p := ⟨w.heap.size + 1 + 1, 1, none⟩) (by dsimp only; omega) (.slice wa wl wc)
            have RO := tight.own_far HO8.out (p := ⟨w.heap.size + 1 + 1, 1, none⟩) (by dsimp only; omega) (.slice wa wl wc)
            refine hK.out _ _ (HS.out _ R0 RB) (fun hNew => ?_)
            clear x0 x1 x2 x3 x4 Q0 Q1 Q2 QB hHeld hK K hNew
            refine wpAnyH_done (by kernel_rfl) ?_ _
            have HRO := Lib.hid RO
            clear RO HO8
            go_wp2_with fail
            go_roundw
            case rel => exact ⟨j + 1, by omega, by go_num, .slice wa wl wc, R0, R1, R2, by rw [← Nat.add_assoc, HUP.out]; exact HRO.out, RB⟩
            case measure => simp [intOf]; omega
        · obtain rfl : j = n := by omega
          have wi : wrap64 ((i : Int) + 1) = (i : Int) + 1 := IntWalk.wrap64_in _ ⟨by omega, by omega⟩
          go_wp2_with fail
          go_roundw
          case rel => exact ⟨i + 1, by omega, by go_num, v, L0', L1', L2', by rw [Nat.add_mul, Nat.one_mul]; exact hO, LB'⟩
          case measure => simp [intOf]; omega
    · obtain rfl : i = n := by omega
      obtain ⟨v, L0, L1, L2, hO, LB⟩ := hA
      obtain ⟨g, gc, rfl⟩ : ∃ g gc, v = .slice (some ⟨g, 0, none⟩) (i * i) gc := by
        rcases Go.Joins.ownsRow_forms hO with ⟨_, h⟩ | ⟨g, gc, h⟩
        · omega
        · exact ⟨g, gc, h⟩
      have hgl := hO.lt g rfl
      have hrow := tref.own_row hO (trT_length i us (i * i))
      have HRW := Lib.hid hrow
      obtain ⟨y0, y1, y2, y3, y4⟩ := lies.two L0
      obtain ⟨z0, z1, z2, z3, z4⟩ := lies.two L1
      obtain ⟨x0, x1, x2, x3, x4⟩ := lies.two L2
      clear hO hrow
      go_wp2_with fail
      have hne1 : g ≠ w.heap.size + 1 := by omega
      refine bodyPost_ret (v := .agg #[.int .i64 i, .slice (some ⟨g, 0, none⟩) (i * i) gc]) (by simp [results, Try.results87, go_sem, z0, z1]) rfl ⟨(LB.setCell (p := ⟨w.heap.size + 1, 0, none⟩) (by dsimp only; omega) _).setCell (p := ⟨w.heap.size + 1, 1, none⟩) (by dsimp only; omega) _, g, gc, rfl, ?_, by simp; omega⟩
      intro p hp
      have h1 := HRW.out p hp
      have h2 := World.cell?_of_block (a := ⟨g, 0 + p, none⟩) (Below.heap_setCell (wr.setCell ⟨w.heap.size + 1, 0, none⟩ (.int .i64 i)) ⟨w.heap.size + 1, 1, none⟩ (.slice (some ⟨g, 0, none⟩) (i * i) gc) g hne1)
      have h3 := World.cell?_of_block (a := ⟨g, 0 + p, none⟩) (Below.heap_setCell wr ⟨w.heap.size + 1, 0, none⟩ (.int .i64 i) g hne1)
      exact h2.trans (h3.trans h1)
end Go.Proofs.Ytnbpcgkdnkihdaa.iref
