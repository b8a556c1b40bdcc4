/-
  The ends of a clock's times, and the times that are picked, as package incl answers them; each theorem names its conditions.
-/
import Derived.Test.YtnbpcgkdnkihdaaInclA
namespace Go.Proofs.Ytnbpcgkdnkihdaa.incl
open Go.ChangeShapes Go.WideShapes Go.ChangeAt Go.RowKit num rat dbm
open bound hiding up
set_option linter.unusedVariables false
set_option linter.unusedSimpArgs false

/-- where a bound of the clock less one of those so far stands, and of such a one less the clock. -/
theorem place2_is (n i j DX IX : Nat) (sv : Value) (w : World) (hn : n ≤ 4) (hi : i < n) (hj : j < n) (hD : lies.Lies w DX 27 #[.int .i64 n, sv]) (hI : lies.Lies w IX 3 #[.int .i64 i]) :
    Calls Try.prog 55 #[.int .i64 j, .pointer (some ⟨DX, 0, none⟩), .pointer (some ⟨IX, 0, none⟩)] w fun e w' => e = .returned (.int .i64 ((j * n + i : Nat) : Int)) ∧ Below w.heap.size w w' := by
  obtain ⟨x0, x1, x2, x3, x4⟩ := lies.two hD
  obtain ⟨y0, y1, y2⟩ := dbm.one hI
  obtain ⟨z1, z2, z3, z4, z5, z6, z7⟩ := dref.place_int hn hj hi
  go_enter Try.func55, Try.ntmps55
  go_wp2_with fail
  go_ret
  exact ⟨by rw [Int.natCast_add, Int.natCast_mul]; rfl, Below.refl _ _⟩
theorem place3_is (n i j DX IX : Nat) (sv : Value) (w : World) (hn : n ≤ 4) (hi : i < n) (hj : j < n) (hD : lies.Lies w DX 27 #[.int .i64 n, sv]) (hI : lies.Lies w IX 3 #[.int .i64 i]) :
    Calls Try.prog 56 #[.int .i64 j, .pointer (some ⟨IX, 0, none⟩), .pointer (some ⟨DX, 0, none⟩)] w fun e w' => e = .returned (.int .i64 ((i * n + j : Nat) : Int)) ∧ Below w.heap.size w w' := by
  obtain ⟨x0, x1, x2, x3, x4⟩ := lies.two hD
  obtain ⟨y0, y1, y2⟩ := dbm.one hI
  obtain ⟨z1, z2, z3, z4, z5, z6, z7⟩ := dref.place_int hn hi hj
  go_enter Try.func56, Try.ntmps56
  go_wp2_with fail
  go_ret
  exact ⟨by rw [Int.natCast_add, Int.natCast_mul]; rfl, Below.refl _ _⟩

/-- the cells of an end. -/
def endL (s : Int) : Option Int → Array Value
  | none => #[.bool false, .int .i64 0, .int .i64 0, .bool false]
  | some e => #[.bool true, .int .i64 (p8 (s * (e / 2))), .int .i64 (q8 (s * (e / 2))), .bool (decide (e % 2 = 0))]
theorem endL_v (s : Int) (x : Option Int) : endV s x = .agg (endL s x) := by cases x <;> rfl
theorem endL_four (s : Int) (x : Option Int) : ∃ (a d : Bool) (b c : Int), endL s x = #[.bool a, .int .i64 b, .int .i64 c, .bool d] ∧ endV s x = .agg #[.bool a, .int .i64 b, .int .i64 c, .bool d] := by
  cases x with
  | none => exact ⟨_, _, _, _, rfl, rfl⟩
  | some e => exact ⟨_, _, _, _, rfl, rfl⟩

/-- ends that are told so far are near. -/
theorem endC_near {s : Int} (hs : s = 1 ∨ s = -1) {X : Nat → Int} {t : Nat → Int} {k : Nat} (h : ∀ j, j < k → t j = 9223372036854775807 ∨ Near (X j + 8 * (s * (t j / 2)))) : ∀ j, j ≤ k → NearE s (endC s X (fun j => cod (t j)) j) := by
  intro j hj
  cases e : endC s X (fun j => cod (t j)) j with
  | none => trivial
  | some v =>
    obtain ⟨i, hi, a, ha, rfl⟩ := endC_is j e
    have ha' : cod (t i) = some a := ha
    rcases h i (by omega) with k | k
    · rw [k, cod_none] at ha'; cases ha'
    · by_cases n : t i = 9223372036854775807
      · rw [n, cod_none] at ha'; cases ha'
      · rw [cod_some n] at ha'
        have := Option.some.inj ha'
        subst this
        show Near (s * ((2 * (s * X i) + 16 * (t i / 2) + t i % 2) / 2))
        have e : s * ((2 * (s * X i) + 16 * (t i / 2) + t i % 2) / 2) = X i + 8 * (s * (t i / 2)) := by rcases hs with rfl | rfl <;> omega
        rw [e]
        exact k

/-- what lies there while an end is told. -/
def Ne (s : Int) (x : Option Int) (w W : World) : Prop :=
  lies.Lies W w.heap.size 57 #[.bool false, .int .i64 0, .int .i64 0, .bool false] ∧ lies.Lies W (w.heap.size + 1) 57 (endL s x) ∧ Below w.heap.size w W
theorem Ne.below {s : Int} {x : Option Int} {w W X : World} (h : Ne s x w W) (k : Below W.heap.size W X) : Ne s x w X := ⟨lies.on_call h.1 k, lies.on_call h.2.1 k, h.2.2.trans (k.mono h.2.2.size)⟩
set_option maxRecDepth 100000 in
set_option maxHeartbeats 4000000 in
theorem nearest2_is {s : Int} (hs : s = 1 ∨ s = -1) (P1 P2 : Nat) (pl : Nat → Nat) (n k b off cap tb toff tcap TX DX : Nat) (X : Nat → Int) (ts : List Int) (rs : List (Int × Int)) (w : World) (hn : n ≤ 4) (hk : k ≤ 4)
    (hT : lies.Lies w TX 30 #[.slice (some ⟨tb, toff, none⟩) k tcap]) (hD : lies.Lies w DX 27 #[.int .i64 n, .slice (some ⟨b, off, none⟩) (n * n) cap])
    (hr : Row w b off ts) (hb : b < w.heap.size) (hl : ts.length = n * n) (hR : RowR w tb toff rs) (htb : tb < w.heap.size) (hrs : rs.length = k) (hpr : ∀ j, j < k → pr rs j = (p8 (X j), q8 (X j)))
    (hpl : ∀ j, j < k → pl j < n * n)
    (hF : ∀ j, j < k → ∀ W, Below w.heap.size w W → Calls Try.prog 55 #[.int .i64 (j : Int), .pointer (some ⟨P1, 0, none⟩), .pointer (some ⟨P2, 0, none⟩)] W fun e w' => e = .returned (.int .i64 (pl j : Int)) ∧ Below W.heap.size W w')
    (ho : ∀ j, j < k → ts[pl j]?.getD 0 = 9223372036854775807 ∨ (May (ts[pl j]?.getD 0 / 2) ∧ Near (X j) ∧ Near (X j + 8 * (s * (ts[pl j]?.getD 0 / 2))))) :
    Calls Try.prog 51 #[.int .i64 s, .func (.func 55) #[] #[.pointer (some ⟨P1, 0, none⟩), .pointer (some ⟨P2, 0, none⟩)], .pointer (some ⟨TX, 0, none⟩), .pointer (some ⟨DX, 0, none⟩)] w fun e w' => e = .returned (endV s (endC s X (fun j => cod (ts[pl j]?.getD 0)) k)) ∧ Below w.heap.size w w' := by
  have hnear := endC_near hs (X := X) (t := fun j => ts[pl j]?.getD 0) (k := k) (fun j hj => (ho j hj).imp id fun h => h.2.2)
  have HNE := Lib.hid hnear
  obtain ⟨za, zd, zb, zc, zL, zV⟩ := endL_four s (endC s X (fun j => cod (ts[pl j]?.getD 0)) k)
  rw [zV]
  have HFL := Lib.hid zL
  clear zL zV
  have HR := Lib.hid hr
  have HRR := Lib.hid hR
  have HPR := Lib.hid hpr
  have HPL := Lib.hid hpl
  have HF := Lib.hid hF
  have HO := Lib.hid ho
  have HL := Lib.hid hl
  have HRS := Lib.hid hrs
  have HSS := Lib.hid hs
  have HT := Lib.hid hT
  have HD := Lib.hid hD
  have hsq := sq_le hn
  have E1 := lies.made_at (w.alloc (.cells #[.bool false, .int .i64 0, .int .i64 0, .bool false] 57)) 57 (endL s none) (w.heap.size + 1) (World.size_alloc _ _)
  have E0 := lies.on_alloc (lies.made w 57 #[.bool false, .int .i64 0, .int .i64 0, .bool false]) (.cells (endL s none) 57)
  have EB := bound.up2 w (.cells #[.bool false, .int .i64 0, .int .i64 0, .bool false] 57) (.cells (endL s none) 57)
  have N0 : Ne s (endC s X (fun j => cod (ts[pl j]?.getD 0)) 0) w _ := ⟨E0, E1, EB⟩
  have t0 := dbm.one (lies.on_call hT EB)
  obtain ⟨t1, t2, t3⟩ := t0
  clear hnear hr hR hpr hpl hF ho hl hrs hs hT hD E0 E1 EB
  go_enter Try.func51, Try.ntmps51
  dsimp only [endL] at N0 t1 t2 t3
  go_wp2_with fail
  clear t1 t2 t3
  generalize (w.alloc (.cells #[.bool false, .int .i64 0, .int .i64 0, .bool false] 57)).alloc (.cells #[.bool false, .int .i64 0, .int .i64 0, .bool false] 57) = w1 at N0 ⊢
  go_loopw [15] (fun i wr => ∃ j : Nat, j ≤ k ∧ i = .int .i64 j ∧ Ne s (endC s X (fun j => cod (ts[pl j]?.getD 0)) j) w wr) (fun i _ => k - (intOf i).toNat)
  case atStart => exact ⟨0, Nat.zero_le _, rfl, N0⟩
  case round =>
    clear N0
    obtain ⟨j, hj, rfl, hA⟩ := hrel
    by_cases hjk : j < k
    · have hO := HO.out j hjk
      have hP := HPL.out j hjk
      have hFF := Lib.hid (HF.out j hjk)
      obtain ⟨m1, m2⟩ := (HRR.out.below hA.2.2 htb) j (by rw [HRS.out]; exact hjk)
      have hz := (HR.out.below hA.2.2 hb) (pl j) (by rw [HL.out]; exact hP)
      rw [HPR.out j hjk] at m1 m2
      have hup : endC s X (fun j => cod (ts[pl j]?.getD 0)) (j + 1) = mnE (endC s X (fun j => cod (ts[pl j]?.getD 0)) j) (cand s (X j) (cod (ts[pl j]?.getD 0))) := rfl
      have hNj := HNE.out j (by omega)
      generalize endC s X (fun j => cod (ts[pl j]?.getD 0)) j = x at hA hup hNj
      have HUP := Lib.hid hup
      have HNj := Lib.hid hNj
      clear hup hNj
      have htl := Nat.lt_of_lt_of_le htb hA.2.2.size
      go_wp2_with fail
      have A1 := hA.below (bound.up1 wr (.cells #[.int .i64 (p8 (X j)), .int .i64 (q8 (X j))] 36))
      have M1 := lies.made wr 36 #[.int .i64 (p8 (X j)), .int .i64 (q8 (X j))]
      have hPB : wr.heap.size ≠ w.heap.size + 1 := by have := lies.lt hA.2.1; omega
      have hz1 := (HR.out.below A1.2.2 hb) (pl j) (by rw [HL.out]; exact hP)
      have D1 := lies.on_call HD.out A1.2.2
      clear hA m1 m2 hz
      generalize wr.heap.size = PB at M1 hPB ⊢
      generalize wr.alloc (.cells #[.int .i64 (p8 (X j)), .int .i64 (q8 (X j))] 36) = w5 at A1 M1 hz1 D1 ⊢
      generalize ts[pl j]?.getD 0 = z at hO hz1 HUP
      generalize pl j = p at hP hFF hz1
      have hz' : z ≤ 9223372036854775807 := by
        rcases hO with h | h
        · omega
        · have := h.1.2; omega
      have q1 : (0 : Int) ≤ (p : Int) := by omega
      have q2 : (p : Int) < ((n * n : Nat) : Int) := by omega
      have q3 : (p : Int) < (n : Int) * n := by rw [← Int.natCast_mul]; exact q2
      have S0 : ∀ W, Below w5.heap.size w5 W → W.cell? ⟨DX, 1, none⟩ = some (.slice (some ⟨b, off, none⟩) (n * n) cap) ∧ W.cell? ⟨b, off + p, none⟩ = some (.int .i64 z) := fun W hW =>
        ⟨(dlaw.at_s D1 hW).2, (hW.cell (p := ⟨b, off + p, none⟩) (law.cell_lt hz1)).trans hz1⟩
      refine wp_region_held_drew (S := Below w5.heap.size w5) (by kernel_rfl) (dbm.drawn1 (Below.refl _ _)) (fun hHeld => ?_)
      refine wpAnyH_take (i := 0) (v := ?_) rfl (by kernel_rfl) (by kernel_rfl) (by kernel_rfl) (fun _ _ _ h => h) (Or.inl ⟨by rfl, ?_⟩) hHeld ?_
      rotate_left
      · intro w hSw; obtain ⟨s0, s1⟩ := S0 _ hSw; go_simp; try with_reducible rfl
      try simp only [Act.put, List.getElem_toArray, List.getElem_cons_zero, List.getElem_cons_succ, List.setIfInBounds_toArray, List.set_cons_zero, List.set_cons_succ]
      refine wpAnyH_take (i := 1) (v := ?_) rfl (by kernel_rfl) (by kernel_rfl) (by kernel_rfl) (fun _ _ _ h => h) (Or.inl ⟨by rfl, ?_⟩) hHeld ?_
      rotate_left
      · intro w hSw; obtain ⟨s0, s1⟩ := S0 _ hSw; go_simp; try with_reducible rfl
      try simp only [Act.put, List.getElem_toArray, List.getElem_cons_zero, List.getElem_cons_succ, List.setIfInBounds_toArray, List.set_cons_zero, List.set_cons_succ]
      refine wpAnyH_take (i := 2) (v := ?_) rfl (by kernel_rfl) (by kernel_rfl) (by kernel_rfl) (fun _ _ _ h => h) (Or.inl ⟨by rfl, ?_⟩) hHeld ?_
      rotate_left
      · intro w hSw; obtain ⟨s0, s1⟩ := S0 _ hSw; go_simp; try with_reducible rfl
      try simp only [Act.put, List.getElem_toArray, List.getElem_cons_zero, List.getElem_cons_succ, List.setIfInBounds_toArray, List.set_cons_zero, List.set_cons_succ]
      refine wpAnyH_take (i := 3) (v := ?_) rfl (by kernel_rfl) (by kernel_rfl) (by kernel_rfl) (fun _ _ _ h => h) (Or.inl ⟨by rfl, ?_⟩) hHeld ?_
      rotate_left
      · intro w hSw; obtain ⟨s0, s1⟩ := S0 _ hSw; go_simp; try with_reducible rfl
      try simp only [Act.put, List.getElem_toArray, List.getElem_cons_zero, List.getElem_cons_succ, List.setIfInBounds_toArray, List.set_cons_zero, List.set_cons_succ]
      refine wpAnyH_ready (rs := [4]) (by kernel_rfl) (by simp) (AllReadyH.cons rfl (fun K hK => ?_) AllReadyH.nil)
      go_simp
      refine (hFF.out _ (A1.2.2.trans (hHeld.mono A1.2.2.size))).mono ?_
      rintro e u1 ⟨rfl, hB⟩
      refine hK.out _ _ (hHeld.trans (hB.mono hHeld.size)) (fun hNew => ?_)
      clear hB
      clear hHeld hK K
      have hHeld := hNew
      clear hNew
      try simp only [Act.put, List.getElem_toArray, List.getElem_cons_zero, List.getElem_cons_succ, List.setIfInBounds_toArray, List.set_cons_zero, List.set_cons_succ]
      refine wpAnyH_take (i := 5) (v := ?_) rfl (by kernel_rfl) (by kernel_rfl) (by kernel_rfl) (fun _ _ _ h => h) (Or.inl ⟨by rfl, ?_⟩) hHeld ?_
      rotate_left
      · intro w hSw; obtain ⟨s0, s1⟩ := S0 _ hSw; go_simp; try with_reducible rfl
      try simp only [Act.put, List.getElem_toArray, List.getElem_cons_zero, List.getElem_cons_succ, List.setIfInBounds_toArray, List.set_cons_zero, List.set_cons_succ]
      refine wpAnyH_take (i := 6) (v := ?_) rfl (by kernel_rfl) (by kernel_rfl) (by kernel_rfl) (fun _ _ _ h => h) (Or.inl ⟨by rfl, ?_⟩) hHeld ?_
      rotate_left
      · intro w hSw; obtain ⟨s0, s1⟩ := S0 _ hSw; go_simp; try with_reducible rfl
      try simp only [Act.put, List.getElem_toArray, List.getElem_cons_zero, List.getElem_cons_succ, List.setIfInBounds_toArray, List.set_cons_zero, List.set_cons_succ]
      refine wpAnyH_ready (rs := [7]) (by kernel_rfl) (by simp) (AllReadyH.cons rfl (fun K hK => ?_) AllReadyH.nil)
      go_simp
      refine (value_any z _ hz').mono ?_
      rintro e u2 ⟨rfl, hB⟩
      refine hK.out _ _ (hHeld.trans (hB.mono hHeld.size)) (fun hNew => ?_)
      clear hB
      clear hHeld hK K
      have hHeld := hNew
      clear hNew
      try simp only [Act.put, List.getElem_toArray, List.getElem_cons_zero, List.getElem_cons_succ, List.setIfInBounds_toArray, List.set_cons_zero, List.set_cons_succ]
      refine wpAnyH_take (i := 8) (v := ?_) rfl (by kernel_rfl) (by kernel_rfl) (by kernel_rfl) (fun _ _ _ h => h) (Or.inl ⟨by rfl, ?_⟩) hHeld ?_
      rotate_left
      · intro w hSw; skip; go_simp; try with_reducible rfl
      try simp only [Act.put, List.getElem_toArray, List.getElem_cons_zero, List.getElem_cons_succ, List.setIfInBounds_toArray, List.set_cons_zero, List.set_cons_succ]
      refine wpAnyH_take (i := 9) (v := ?_) rfl (by kernel_rfl) (by kernel_rfl) (by kernel_rfl) (fun _ _ _ h => h) (Or.inl ⟨by rfl, ?_⟩) hHeld ?_
      rotate_left
      · intro w hSw; skip; go_simp; try with_reducible rfl
      try simp only [Act.put, List.getElem_toArray, List.getElem_cons_zero, List.getElem_cons_succ, List.setIfInBounds_toArray, List.set_cons_zero, List.set_cons_succ]
      refine wpAnyH_take (i := 10) (v := ?_) rfl (by kernel_rfl) (by kernel_rfl) (by kernel_rfl) (fun _ _ _ h => h) (Or.inl ⟨by rfl, ?_⟩) hHeld ?_
      rotate_left
      · intro w hSw; skip; go_simp; try with_reducible rfl
      try simp only [Act.put, List.getElem_toArray, List.getElem_cons_zero, List.getElem_cons_succ, List.setIfInBounds_toArray, List.set_cons_zero, List.set_cons_succ]
      refine wpAnyH_take (i := 11) (v := ?_) rfl (by kernel_rfl) (by kernel_rfl) (by kernel_rfl) (fun _ _ _ h => h) (Or.inl ⟨by rfl, ?_⟩) hHeld ?_
      rotate_left
      · intro w hSw; skip; go_simp; try with_reducible rfl
      try simp only [Act.put, List.getElem_toArray, List.getElem_cons_zero, List.getElem_cons_succ, List.setIfInBounds_toArray, List.set_cons_zero, List.set_cons_succ]
      refine wpAnyH_take (i := 12) (v := ?_) rfl (by kernel_rfl) (by kernel_rfl) (by kernel_rfl) (fun _ _ _ h => h) (Or.inl ⟨by rfl, ?_⟩) hHeld ?_
      rotate_left
      · intro w hSw; skip; go_simp; try with_reducible rfl
      try simp only [Act.put, List.getElem_toArray, List.getElem_cons_zero, List.getElem_cons_succ, List.setIfInBounds_toArray, List.set_cons_zero, List.set_cons_succ]
      refine wpAnyH_take (i := 13) (v := ?_) rfl (by kernel_rfl) (by kernel_rfl) (by kernel_rfl) (fun _ _ _ h => h) (Or.inl ⟨by rfl, ?_⟩) hHeld ?_
      rotate_left
      · intro w hSw; skip; go_simp; try with_reducible rfl
      try simp only [Act.put, List.getElem_toArray, List.getElem_cons_zero, List.getElem_cons_succ, List.setIfInBounds_toArray, List.set_cons_zero, List.set_cons_succ]
      refine wpAnyH_take (i := 14) (v := ?_) rfl (by kernel_rfl) (by kernel_rfl) (by kernel_rfl) (fun _ _ _ h => h) (Or.inl ⟨by rfl, ?_⟩) hHeld ?_
      rotate_left
      · intro w hSw; skip; go_simp; try with_reducible rfl
      try simp only [Act.put, List.getElem_toArray, List.getElem_cons_zero, List.getElem_cons_succ, List.setIfInBounds_toArray, List.set_cons_zero, List.set_cons_succ]
      refine wpAnyH_done (by kernel_rfl) ?_ _
      have A2 := A1.below hHeld
      have M2 := lies.on_call M1 hHeld
      clear hHeld S0 A1 M1 hz1 D1 hFF q1 q2 q3
      rcases hO with rfl | ⟨hm, hX, hS⟩
      · have e6 : valE 9223372036854775807 = 6 := by decide
        rw [e6]
        go_wp2_with fail
        go_roundw
        case rel => exact ⟨j + 1, by omega, by go_num, by rw [HUP.out]; cases x <;> exact A2⟩
        case measure => simp [intOf]; omega
      · have hnz : z ≠ 9223372036854775807 := by have := hm.2; omega
        have e0 : valE z = 0 := by unfold valE; rw [if_neg hnz, if_pos hm]
        have e1 : valC z = z / 2 := if_pos hm
        have e2 : valS z = bS z := if_pos hm
        rw [e0, e1, e2]
        have hm' : May (s * (z / 2)) := by
          have := hm.1; have := hm.2
          rcases HSS.out with rfl | rfl <;> unfold May <;> omega
        have g1 : IntKind.i64.wrap (s * (z / 2)) = s * (z / 2) := IntWalk.i64_in _ (by have := hm'.1; have := hm'.2; omega)
        have g2 : wrap64 (s * (z / 2)) = s * (z / 2) := IntWalk.wrap64_in _ ⟨by have := hm'.1; omega, by have := hm'.2; omega⟩
        obtain ⟨bc, hbc⟩ : ∃ bc : Int, bc = 2 * (s * X j) + 16 * (z / 2) + z % 2 := ⟨_, rfl⟩
        have hcand : cand s (X j) (cod z) = some bc := by rw [cod_some hnz, hbc]; rfl
        have hbv : s * (bc / 2) = X j + 8 * (s * (z / 2)) := by rw [hbc]; rcases HSS.out with rfl | rfl <;> omega
        have hbs : decide (bc % 2 = 0) = bS z := by unfold bS; congr 1; rw [hbc]; apply propext; omega
        obtain ⟨ea, ed, eb, ec, eL, eV⟩ := endL_four s x
        obtain ⟨fa, fd, fb, fc, fL, fV⟩ := endL_four s (mnE x (some bc))
        have hor : ∀ W, Calls Try.prog 53 #[.agg #[.bool ea, .int .i64 eb, .int .i64 ec, .bool ed], .agg #[.bool true, .int .i64 (p8 (X j + 8 * (s * (z / 2)))), .int .i64 (q8 (X j + 8 * (s * (z / 2)))), .bool (bS z)], .int .i64 s] W fun e w' => e = .returned (.agg #[.bool fa, .int .i64 fb, .int .i64 fc, .bool fd]) ∧ Below W.heap.size W w' := fun W => by
          have := or_is HSS.out x bc HNj.out (show Near (s * (bc / 2)) by rw [hbv]; exact hS) W
          rw [eV, fV] at this
          dsimp only [endV] at this
          rw [hbv, hbs] at this
          exact this
        have A4 : Ne s x w u2.drew := A2.below (dbm.drawn1 (Below.refl _ _))
        have M4 : lies.Lies u2.drew PB 36 #[.int .i64 (p8 (X j)), .int .i64 (q8 (X j))] := M2
        clear A2 hbc hbv hbs fV eV e0 e1 e2 hnz hz'
        have a5 := A4.2.1
        rw [eL] at a5
        obtain ⟨a0, a1, a2, a3, a4⟩ := four a5
        obtain ⟨m0, m1, m2, m3, m4⟩ := lies.two M2
        clear a5 M2
        go_wp2_with fail
        clear m0 m1 m2 m3 m4
        refine wp_region_held_drew (S := fun W => W.cell? ⟨PB, 0, none⟩ = some (.int .i64 (p8 (X j))) ∧ W.cell? ⟨PB, 1, none⟩ = some (.int .i64 (q8 (X j)))) (by kernel_rfl) (lies.pair M4) (fun hHeld => ?_)
        refine wpAnyH_take (i := 1) (v := ?_) rfl (by kernel_rfl) (by kernel_rfl) (by kernel_rfl) (fun _ _ _ h => h) (Or.inl ⟨by rfl, ?_⟩) hHeld ?_
        rotate_left
        · intro w hSw; obtain ⟨s0, s1⟩ := hSw; go_simp; try with_reducible rfl
        try simp only [Act.put, List.getElem_toArray, List.getElem_cons_zero, List.getElem_cons_succ, List.setIfInBounds_toArray, List.set_cons_zero, List.set_cons_succ]
        refine wpAnyH_take (i := 2) (v := ?_) rfl (by kernel_rfl) (by kernel_rfl) (by kernel_rfl) (fun _ _ _ h => h) (Or.inl ⟨by rfl, ?_⟩) hHeld ?_
        rotate_left
        · intro w hSw; obtain ⟨s0, s1⟩ := hSw; go_simp; try with_reducible rfl
        try simp only [Act.put, List.getElem_toArray, List.getElem_cons_zero, List.getElem_cons_succ, List.setIfInBounds_toArray, List.set_cons_zero, List.set_cons_succ]
        refine wpAnyH_take (i := 3) (v := ?_) rfl (by kernel_rfl) (by kernel_rfl) (by kernel_rfl) (fun _ _ _ h => h) (Or.inl ⟨by rfl, ?_⟩) hHeld ?_
        rotate_left
        · intro w hSw; obtain ⟨s0, s1⟩ := hSw; go_simp; try with_reducible rfl
        try simp only [Act.put, List.getElem_toArray, List.getElem_cons_zero, List.getElem_cons_succ, List.setIfInBounds_toArray, List.set_cons_zero, List.set_cons_succ]
        refine wpAnyH_take (i := 4) (v := ?_) rfl (by kernel_rfl) (by kernel_rfl) (by kernel_rfl) (fun _ _ _ h => h) (Or.inl ⟨by rfl, ?_⟩) hHeld ?_
        rotate_left
        · intro w hSw; obtain ⟨s0, s1⟩ := hSw; go_simp; try with_reducible rfl
        try simp only [Act.put, List.getElem_toArray, List.getElem_cons_zero, List.getElem_cons_succ, List.setIfInBounds_toArray, List.set_cons_zero, List.set_cons_succ]
        refine wpAnyH_take (i := 6) (v := ?_) rfl (by kernel_rfl) (by kernel_rfl) (by kernel_rfl) (fun _ _ _ h => h) (Or.inl ⟨by rfl, ?_⟩) hHeld ?_
        rotate_left
        · intro w hSw; skip; go_simp; try with_reducible rfl
        try simp only [Act.put, List.getElem_toArray, List.getElem_cons_zero, List.getElem_cons_succ, List.setIfInBounds_toArray, List.set_cons_zero, List.set_cons_succ]
        refine wpAnyH_take (i := 8) (v := ?_) rfl (by kernel_rfl) (by kernel_rfl) (by kernel_rfl) (fun _ _ _ h => h) (Or.inl ⟨by rfl, ?_⟩) hHeld ?_
        rotate_left
        · intro w hSw; skip; go_simp; try with_reducible rfl
        try simp only [Act.put, List.getElem_toArray, List.getElem_cons_zero, List.getElem_cons_succ, List.setIfInBounds_toArray, List.set_cons_zero, List.set_cons_succ]
        refine wpAnyH_ready (rs := [0, 5]) (by kernel_rfl) (by simp) (AllReadyH.cons rfl (fun K hK => ?_) (AllReadyH.cons rfl (fun K hK => ?_) AllReadyH.nil))
        · go_simp
          refine hK.out _ _ hHeld (fun hNew => ?_)
          clear a0 a1 a2 a3 a4
          clear hHeld hK K
          have hHeld := hNew
          clear hNew
          try simp only [Act.put, List.getElem_toArray, List.getElem_cons_zero, List.getElem_cons_succ, List.setIfInBounds_toArray, List.set_cons_zero, List.set_cons_succ]
          refine wpAnyH_ready (rs := [5]) (by kernel_rfl) (by simp) (AllReadyH.cons rfl (fun K hK => ?_) AllReadyH.nil)
          go_simp
          refine (plus_is _ hX hm' hS).mono ?_
          rintro e v1 ⟨rfl, hB⟩
          replace A4 := A4.below hB
          replace M4 := lies.on_call M4 hB
          refine hK.out _ _ (lies.pair M4) (fun hNew => ?_)
          clear hB
          clear hHeld hK K
          have hHeld := hNew
          clear hNew
          try simp only [Act.put, List.getElem_toArray, List.getElem_cons_zero, List.getElem_cons_succ, List.setIfInBounds_toArray, List.set_cons_zero, List.set_cons_succ]
          refine wpAnyH_take (i := 7) (v := ?_) rfl (by kernel_rfl) (by kernel_rfl) (by kernel_rfl) (fun _ _ _ h => h) (Or.inl ⟨by rfl, ?_⟩) hHeld ?_
          rotate_left
          · intro w hSw; skip; go_simp; try with_reducible rfl
          try simp only [Act.put, List.getElem_toArray, List.getElem_cons_zero, List.getElem_cons_succ, List.setIfInBounds_toArray, List.set_cons_zero, List.set_cons_succ]
          refine wpAnyH_ready (rs := [9]) (by kernel_rfl) (by simp) (AllReadyH.cons rfl (fun K hK => ?_) AllReadyH.nil)
          go_simp
          refine (hor _).mono ?_
          rintro e v2 ⟨rfl, hB⟩
          replace A4 := A4.below hB
          replace M4 := lies.on_call M4 hB
          refine hK.out _ _ (lies.pair M4) (fun hNew => ?_)
          clear hB
          clear hHeld hK K
          have hHeld := hNew
          clear hNew
          try simp only [Act.put, List.getElem_toArray, List.getElem_cons_zero, List.getElem_cons_succ, List.setIfInBounds_toArray, List.set_cons_zero, List.set_cons_succ]
          obtain ⟨B0, B1, BB⟩ := A4
          rw [eL] at B1
          obtain ⟨b0, b1, b2, b3, b4⟩ := four B1
          obtain ⟨f0, f1, f2, f3⟩ := fourF B1
          have hne : PB ≠ w.heap.size + 1 := hPB
          refine wpAnyH_ready (rs := [10]) (by kernel_rfl) (by simp) (AllReadyH.cons rfl (fun K hK => ?_) AllReadyH.nil)
          go_simp
          have G1 := lies.on_put (lies.on_put (lies.on_put (lies.on_put B1 0 (.bool fa)) 1 (.int .i64 fb)) 2 (.int .i64 fc)) 3 (.bool fd)
          have G0 := lies.on_far (lies.on_far (lies.on_far (lies.on_far B0 (b := w.heap.size + 1) 0 (by omega) (.bool fa)) (b := w.heap.size + 1) 1 (by omega) (.int .i64 fb)) (b := w.heap.size + 1) 2 (by omega) (.int .i64 fc)) (b := w.heap.size + 1) 3 (by omega) (.bool fd)
          have GM := lies.on_far (lies.on_far (lies.on_far (lies.on_far M4 (b := w.heap.size + 1) 0 hne (.bool fa)) (b := w.heap.size + 1) 1 hne (.int .i64 fb)) (b := w.heap.size + 1) 2 hne (.int .i64 fc)) (b := w.heap.size + 1) 3 hne (.bool fd)
          have GB := set4 BB (g := w.heap.size + 1) (by omega) (.bool fa) (.int .i64 fb) (.int .i64 fc) (.bool fd)
          have hN8 : Ne s (mnE x (some bc)) w ((((v2.setCell ⟨w.heap.size + 1, 0, none⟩ (.bool fa)).setCell ⟨w.heap.size + 1, 1, none⟩ (.int .i64 fb)).setCell ⟨w.heap.size + 1, 2, none⟩ (.int .i64 fc)).setCell ⟨w.heap.size + 1, 3, none⟩ (.bool fd)) := ⟨G0, by rw [fL]; exact G1, GB⟩
          clear b0 b1 b2 b3 b4 f0 f1 f2 f3 G0 G1 GB B0 B1 BB
          refine hK.out _ _ (lies.pair GM) (fun hNew => ?_)
          clear hK K hNew hHeld GM M4
          refine wpAnyH_done (by kernel_rfl) ?_ _
          generalize (((v2.setCell ⟨w.heap.size + 1, 0, none⟩ (.bool fa)).setCell ⟨w.heap.size + 1, 1, none⟩ (.int .i64 fb)).setCell ⟨w.heap.size + 1, 2, none⟩ (.int .i64 fc)).setCell ⟨w.heap.size + 1, 3, none⟩ (.bool fd) = w8 at hN8 ⊢
          go_wp2_with fail
          go_roundw
          case rel => exact ⟨j + 1, by omega, by go_num, by rw [HUP.out, hcand]; exact hN8⟩
          case measure => simp [intOf]; omega
        · go_simp
          clear a0 a1 a2 a3 a4
          refine (plus_is _ hX hm' hS).mono ?_
          rintro e v1 ⟨rfl, hB⟩
          replace A4 := A4.below hB
          replace M4 := lies.on_call M4 hB
          refine hK.out _ _ (lies.pair M4) (fun hNew => ?_)
          clear hB
          clear hHeld hK K
          have hHeld := hNew
          clear hNew
          try simp only [Act.put, List.getElem_toArray, List.getElem_cons_zero, List.getElem_cons_succ, List.setIfInBounds_toArray, List.set_cons_zero, List.set_cons_succ]
          have a5 := A4.2.1
          rw [eL] at a5
          obtain ⟨a0, a1, a2, a3, a4⟩ := four a5
          refine wpAnyH_take (i := 7) (v := ?_) rfl (by kernel_rfl) (by kernel_rfl) (by kernel_rfl) (fun _ _ _ h => h) (Or.inl ⟨by rfl, ?_⟩) hHeld ?_
          rotate_left
          · intro w hSw; skip; go_simp; try with_reducible rfl
          try simp only [Act.put, List.getElem_toArray, List.getElem_cons_zero, List.getElem_cons_succ, List.setIfInBounds_toArray, List.set_cons_zero, List.set_cons_succ]
          refine wpAnyH_ready (rs := [0]) (by kernel_rfl) (by simp) (AllReadyH.cons rfl (fun K hK => ?_) AllReadyH.nil)
          go_simp
          refine hK.out _ _ hHeld (fun hNew => ?_)
          clear a0 a1 a2 a3 a4 a5
          clear hHeld hK K
          have hHeld := hNew
          clear hNew
          try simp only [Act.put, List.getElem_toArray, List.getElem_cons_zero, List.getElem_cons_succ, List.setIfInBounds_toArray, List.set_cons_zero, List.set_cons_succ]
          refine wpAnyH_ready (rs := [9]) (by kernel_rfl) (by simp) (AllReadyH.cons rfl (fun K hK => ?_) AllReadyH.nil)
          go_simp
          refine (hor _).mono ?_
          rintro e v2 ⟨rfl, hB⟩
          replace A4 := A4.below hB
          replace M4 := lies.on_call M4 hB
          refine hK.out _ _ (lies.pair M4) (fun hNew => ?_)
          clear hB
          clear hHeld hK K
          have hHeld := hNew
          clear hNew
          try simp only [Act.put, List.getElem_toArray, List.getElem_cons_zero, List.getElem_cons_succ, List.setIfInBounds_toArray, List.set_cons_zero, List.set_cons_succ]
          obtain ⟨B0, B1, BB⟩ := A4
          rw [eL] at B1
          obtain ⟨b0, b1, b2, b3, b4⟩ := four B1
          obtain ⟨f0, f1, f2, f3⟩ := fourF B1
          have hne : PB ≠ w.heap.size + 1 := hPB
          refine wpAnyH_ready (rs := [10]) (by kernel_rfl) (by simp) (AllReadyH.cons rfl (fun K hK => ?_) AllReadyH.nil)
          go_simp
          have G1 := lies.on_put (lies.on_put (lies.on_put (lies.on_put B1 0 (.bool fa)) 1 (.int .i64 fb)) 2 (.int .i64 fc)) 3 (.bool fd)
          have G0 := lies.on_far (lies.on_far (lies.on_far (lies.on_far B0 (b := w.heap.size + 1) 0 (by omega) (.bool fa)) (b := w.heap.size + 1) 1 (by omega) (.int .i64 fb)) (b := w.heap.size + 1) 2 (by omega) (.int .i64 fc)) (b := w.heap.size + 1) 3 (by omega) (.bool fd)
          have GM := lies.on_far (lies.on_far (lies.on_far (lies.on_far M4 (b := w.heap.size + 1) 0 hne (.bool fa)) (b := w.heap.size + 1) 1 hne (.int .i64 fb)) (b := w.heap.size + 1) 2 hne (.int .i64 fc)) (b := w.heap.size + 1) 3 hne (.bool fd)
          have GB := set4 BB (g := w.heap.size + 1) (by omega) (.bool fa) (.int .i64 fb) (.int .i64 fc) (.bool fd)
          have hN8 : Ne s (mnE x (some bc)) w ((((v2.setCell ⟨w.heap.size + 1, 0, none⟩ (.bool fa)).setCell ⟨w.heap.size + 1, 1, none⟩ (.int .i64 fb)).setCell ⟨w.heap.size + 1, 2, none⟩ (.int .i64 fc)).setCell ⟨w.heap.size + 1, 3, none⟩ (.bool fd)) := ⟨G0, by rw [fL]; exact G1, GB⟩
          clear b0 b1 b2 b3 b4 f0 f1 f2 f3 G0 G1 GB B0 B1 BB
          refine hK.out _ _ (lies.pair GM) (fun hNew => ?_)
          clear hK K hNew hHeld GM M4
          refine wpAnyH_done (by kernel_rfl) ?_ _
          generalize (((v2.setCell ⟨w.heap.size + 1, 0, none⟩ (.bool fa)).setCell ⟨w.heap.size + 1, 1, none⟩ (.int .i64 fb)).setCell ⟨w.heap.size + 1, 2, none⟩ (.int .i64 fc)).setCell ⟨w.heap.size + 1, 3, none⟩ (.bool fd) = w8 at hN8 ⊢
          go_wp2_with fail
          go_roundw
          case rel => exact ⟨j + 1, by omega, by go_num, by rw [HUP.out, hcand]; exact hN8⟩
          case measure => simp [intOf]; omega
    · obtain rfl : k = j := by omega
      obtain ⟨B0, B1, BB⟩ := hA
      rw [HFL.out] at B1
      obtain ⟨x0, x1, x2, x3, x4⟩ := four B1
      obtain ⟨b0, b1, b2, b3, b4⟩ := four B0
      obtain ⟨f0, f1, f2, f3⟩ := fourF B0
      clear B0 B1
      go_wp2_with fail
      exact bodyPost_ret (v := .agg #[.bool za, .int .i64 zb, .int .i64 zc, .bool zd]) (by simp [results, Try.results51, go_sem, b0, b1, b2, b3]) rfl ⟨rfl, set4 BB (Nat.le_refl _) _ _ _ _⟩
set_option maxRecDepth 100000 in
set_option maxHeartbeats 4000000 in
theorem nearest3_is {s : Int} (hs : s = 1 ∨ s = -1) (P1 P2 : Nat) (pl : Nat → Nat) (n k b off cap tb toff tcap TX DX : Nat) (X : Nat → Int) (ts : List Int) (rs : List (Int × Int)) (w : World) (hn : n ≤ 4) (hk : k ≤ 4)
    (hT : lies.Lies w TX 30 #[.slice (some ⟨tb, toff, none⟩) k tcap]) (hD : lies.Lies w DX 27 #[.int .i64 n, .slice (some ⟨b, off, none⟩) (n * n) cap])
    (hr : Row w b off ts) (hb : b < w.heap.size) (hl : ts.length = n * n) (hR : RowR w tb toff rs) (htb : tb < w.heap.size) (hrs : rs.length = k) (hpr : ∀ j, j < k → pr rs j = (p8 (X j), q8 (X j)))
    (hpl : ∀ j, j < k → pl j < n * n)
    (hF : ∀ j, j < k → ∀ W, Below w.heap.size w W → Calls Try.prog 56 #[.int .i64 (j : Int), .pointer (some ⟨P1, 0, none⟩), .pointer (some ⟨P2, 0, none⟩)] W fun e w' => e = .returned (.int .i64 (pl j : Int)) ∧ Below W.heap.size W w')
    (ho : ∀ j, j < k → ts[pl j]?.getD 0 = 9223372036854775807 ∨ (May (ts[pl j]?.getD 0 / 2) ∧ Near (X j) ∧ Near (X j + 8 * (s * (ts[pl j]?.getD 0 / 2))))) :
    Calls Try.prog 51 #[.int .i64 s, .func (.func 56) #[] #[.pointer (some ⟨P1, 0, none⟩), .pointer (some ⟨P2, 0, none⟩)], .pointer (some ⟨TX, 0, none⟩), .pointer (some ⟨DX, 0, none⟩)] w fun e w' => e = .returned (endV s (endC s X (fun j => cod (ts[pl j]?.getD 0)) k)) ∧ Below w.heap.size w w' := by
  have hnear := endC_near hs (X := X) (t := fun j => ts[pl j]?.getD 0) (k := k) (fun j hj => (ho j hj).imp id fun h => h.2.2)
  have HNE := Lib.hid hnear
  obtain ⟨za, zd, zb, zc, zL, zV⟩ := endL_four s (endC s X (fun j => cod (ts[pl j]?.getD 0)) k)
  rw [zV]
  have HFL := Lib.hid zL
  clear zL zV
  have HR := Lib.hid hr
  have HRR := Lib.hid hR
  have HPR := Lib.hid hpr
  have HPL := Lib.hid hpl
  have HF := Lib.hid hF
  have HO := Lib.hid ho
  have HL := Lib.hid hl
  have HRS := Lib.hid hrs
  have HSS := Lib.hid hs
  have HT := Lib.hid hT
  have HD := Lib.hid hD
  have hsq := sq_le hn
  have E1 := lies.made_at (w.alloc (.cells #[.bool false, .int .i64 0, .int .i64 0, .bool false] 57)) 57 (endL s none) (w.heap.size + 1) (World.size_alloc _ _)
  have E0 := lies.on_alloc (lies.made w 57 #[.bool false, .int .i64 0, .int .i64 0, .bool false]) (.cells (endL s none) 57)
  have EB := bound.up2 w (.cells #[.bool false, .int .i64 0, .int .i64 0, .bool false] 57) (.cells (endL s none) 57)
  have N0 : Ne s (endC s X (fun j => cod (ts[pl j]?.getD 0)) 0) w _ := ⟨E0, E1, EB⟩
  have t0 := dbm.one (lies.on_call hT EB)
  obtain ⟨t1, t2, t3⟩ := t0
  clear hnear hr hR hpr hpl hF ho hl hrs hs hT hD E0 E1 EB
  go_enter Try.func51, Try.ntmps51
  dsimp only [endL] at N0 t1 t2 t3
  go_wp2_with fail
  clear t1 t2 t3
  generalize (w.alloc (.cells #[.bool false, .int .i64 0, .int .i64 0, .bool false] 57)).alloc (.cells #[.bool false, .int .i64 0, .int .i64 0, .bool false] 57) = w1 at N0 ⊢
  go_loopw [15] (fun i wr => ∃ j : Nat, j ≤ k ∧ i = .int .i64 j ∧ Ne s (endC s X (fun j => cod (ts[pl j]?.getD 0)) j) w wr) (fun i _ => k - (intOf i).toNat)
  case atStart => exact ⟨0, Nat.zero_le _, rfl, N0⟩
  case round =>
    clear N0
    obtain ⟨j, hj, rfl, hA⟩ := hrel
    by_cases hjk : j < k
    · have hO := HO.out j hjk
      have hP := HPL.out j hjk
      have hFF := Lib.hid (HF.out j hjk)
      obtain ⟨m1, m2⟩ := (HRR.out.below hA.2.2 htb) j (by rw [HRS.out]; exact hjk)
      have hz := (HR.out.below hA.2.2 hb) (pl j) (by rw [HL.out]; exact hP)
      rw [HPR.out j hjk] at m1 m2
      have hup : endC s X (fun j => cod (ts[pl j]?.getD 0)) (j + 1) = mnE (endC s X (fun j => cod (ts[pl j]?.getD 0)) j) (cand s (X j) (cod (ts[pl j]?.getD 0))) := rfl
      have hNj := HNE.out j (by omega)
      generalize endC s X (fun j => cod (ts[pl j]?.getD 0)) j = x at hA hup hNj
      have HUP := Lib.hid hup
      have HNj := Lib.hid hNj
      clear hup hNj
      have htl := Nat.lt_of_lt_of_le htb hA.2.2.size
      go_wp2_with fail
      have A1 := hA.below (bound.up1 wr (.cells #[.int .i64 (p8 (X j)), .int .i64 (q8 (X j))] 36))
      have M1 := lies.made wr 36 #[.int .i64 (p8 (X j)), .int .i64 (q8 (X j))]
      have hPB : wr.heap.size ≠ w.heap.size + 1 := by have := lies.lt hA.2.1; omega
      have hz1 := (HR.out.below A1.2.2 hb) (pl j) (by rw [HL.out]; exact hP)
      have D1 := lies.on_call HD.out A1.2.2
      clear hA m1 m2 hz
      generalize wr.heap.size = PB at M1 hPB ⊢
      generalize wr.alloc (.cells #[.int .i64 (p8 (X j)), .int .i64 (q8 (X j))] 36) = w5 at A1 M1 hz1 D1 ⊢
      generalize ts[pl j]?.getD 0 = z at hO hz1 HUP
      generalize pl j = p at hP hFF hz1
      have hz' : z ≤ 9223372036854775807 := by
        rcases hO with h | h
        · omega
        · have := h.1.2; omega
      have q1 : (0 : Int) ≤ (p : Int) := by omega
      have q2 : (p : Int) < ((n * n : Nat) : Int) := by omega
      have q3 : (p : Int) < (n : Int) * n := by rw [← Int.natCast_mul]; exact q2
      have S0 : ∀ W, Below w5.heap.size w5 W → W.cell? ⟨DX, 1, none⟩ = some (.slice (some ⟨b, off, none⟩) (n * n) cap) ∧ W.cell? ⟨b, off + p, none⟩ = some (.int .i64 z) := fun W hW =>
        ⟨(dlaw.at_s D1 hW).2, (hW.cell (p := ⟨b, off + p, none⟩) (law.cell_lt hz1)).trans hz1⟩
      refine wp_region_held_drew (S := Below w5.heap.size w5) (by kernel_rfl) (dbm.drawn1 (Below.refl _ _)) (fun hHeld => ?_)
      refine wpAnyH_take (i := 0) (v := ?_) rfl (by kernel_rfl) (by kernel_rfl) (by kernel_rfl) (fun _ _ _ h => h) (Or.inl ⟨by rfl, ?_⟩) hHeld ?_
      rotate_left
      · intro w hSw; obtain ⟨s0, s1⟩ := S0 _ hSw; go_simp; try with_reducible rfl
      try simp only [Act.put, List.getElem_toArray, List.getElem_cons_zero, List.getElem_cons_succ, List.setIfInBounds_toArray, List.set_cons_zero, List.set_cons_succ]
      refine wpAnyH_take (i := 1) (v := ?_) rfl (by kernel_rfl) (by kernel_rfl) (by kernel_rfl) (fun _ _ _ h => h) (Or.inl ⟨by rfl, ?_⟩) hHeld ?_
      rotate_left
      · intro w hSw; obtain ⟨s0, s1⟩ := S0 _ hSw; go_simp; try with_reducible rfl
      try simp only [Act.put, List.getElem_toArray, List.getElem_cons_zero, List.getElem_cons_succ, List.setIfInBounds_toArray, List.set_cons_zero, List.set_cons_succ]
      refine wpAnyH_take (i := 2) (v := ?_) rfl (by kernel_rfl) (by kernel_rfl) (by kernel_rfl) (fun _ _ _ h => h) (Or.inl ⟨by rfl, ?_⟩) hHeld ?_
      rotate_left
      · intro w hSw; obtain ⟨s0, s1⟩ := S0 _ hSw; go_simp; try with_reducible rfl
      try simp only [Act.put, List.getElem_toArray, List.getElem_cons_zero, List.getElem_cons_succ, List.setIfInBounds_toArray, List.set_cons_zero, List.set_cons_succ]
      refine wpAnyH_take (i := 3) (v := ?_) rfl (by kernel_rfl) (by kernel_rfl) (by kernel_rfl) (fun _ _ _ h => h) (Or.inl ⟨by rfl, ?_⟩) hHeld ?_
      rotate_left
      · intro w hSw; obtain ⟨s0, s1⟩ := S0 _ hSw; go_simp; try with_reducible rfl
      try simp only [Act.put, List.getElem_toArray, List.getElem_cons_zero, List.getElem_cons_succ, List.setIfInBounds_toArray, List.set_cons_zero, List.set_cons_succ]
      refine wpAnyH_ready (rs := [4]) (by kernel_rfl) (by simp) (AllReadyH.cons rfl (fun K hK => ?_) AllReadyH.nil)
      go_simp
      refine (hFF.out _ (A1.2.2.trans (hHeld.mono A1.2.2.size))).mono ?_
      rintro e u1 ⟨rfl, hB⟩
      refine hK.out _ _ (hHeld.trans (hB.mono hHeld.size)) (fun hNew => ?_)
      clear hB
      clear hHeld hK K
      have hHeld := hNew
      clear hNew
      try simp only [Act.put, List.getElem_toArray, List.getElem_cons_zero, List.getElem_cons_succ, List.setIfInBounds_toArray, List.set_cons_zero, List.set_cons_succ]
      refine wpAnyH_take (i := 5) (v := ?_) rfl (by kernel_rfl) (by kernel_rfl) (by kernel_rfl) (fun _ _ _ h => h) (Or.inl ⟨by rfl, ?_⟩) hHeld ?_
      rotate_left
      · intro w hSw; obtain ⟨s0, s1⟩ := S0 _ hSw; go_simp; try with_reducible rfl
      try simp only [Act.put, List.getElem_toArray, List.getElem_cons_zero, List.getElem_cons_succ, List.setIfInBounds_toArray, List.set_cons_zero, List.set_cons_succ]
      refine wpAnyH_take (i := 6) (v := ?_) rfl (by kernel_rfl) (by kernel_rfl) (by kernel_rfl) (fun _ _ _ h => h) (Or.inl ⟨by rfl, ?_⟩) hHeld ?_
      rotate_left
      · intro w hSw; obtain ⟨s0, s1⟩ := S0 _ hSw; go_simp; try with_reducible rfl
      try simp only [Act.put, List.getElem_toArray, List.getElem_cons_zero, List.getElem_cons_succ, List.setIfInBounds_toArray, List.set_cons_zero, List.set_cons_succ]
      refine wpAnyH_ready (rs := [7]) (by kernel_rfl) (by simp) (AllReadyH.cons rfl (fun K hK => ?_) AllReadyH.nil)
      go_simp
      refine (value_any z _ hz').mono ?_
      rintro e u2 ⟨rfl, hB⟩
      refine hK.out _ _ (hHeld.trans (hB.mono hHeld.size)) (fun hNew => ?_)
      clear hB
      clear hHeld hK K
      have hHeld := hNew
      clear hNew
      try simp only [Act.put, List.getElem_toArray, List.getElem_cons_zero, List.getElem_cons_succ, List.setIfInBounds_toArray, List.set_cons_zero, List.set_cons_succ]
      refine wpAnyH_take (i := 8) (v := ?_) rfl (by kernel_rfl) (by kernel_rfl) (by kernel_rfl) (fun _ _ _ h => h) (Or.inl ⟨by rfl, ?_⟩) hHeld ?_
      rotate_left
      · intro w hSw; skip; go_simp; try with_reducible rfl
      try simp only [Act.put, List.getElem_toArray, List.getElem_cons_zero, List.getElem_cons_succ, List.setIfInBounds_toArray, List.set_cons_zero, List.set_cons_succ]
      refine wpAnyH_take (i := 9) (v := ?_) rfl (by kernel_rfl) (by kernel_rfl) (by kernel_rfl) (fun _ _ _ h => h) (Or.inl ⟨by rfl, ?_⟩) hHeld ?_
      rotate_left
      · intro w hSw; skip; go_simp; try with_reducible rfl
      try simp only [Act.put, List.getElem_toArray, List.getElem_cons_zero, List.getElem_cons_succ, List.setIfInBounds_toArray, List.set_cons_zero, List.set_cons_succ]
      refine wpAnyH_take (i := 10) (v := ?_) rfl (by kernel_rfl) (by kernel_rfl) (by kernel_rfl) (fun _ _ _ h => h) (Or.inl ⟨by rfl, ?_⟩) hHeld ?_
      rotate_left
      · intro w hSw; skip; go_simp; try with_reducible rfl
      try simp only [Act.put, List.getElem_toArray, List.getElem_cons_zero, List.getElem_cons_succ, List.setIfInBounds_toArray, List.set_cons_zero, List.set_cons_succ]
      refine wpAnyH_take (i := 11) (v := ?_) rfl (by kernel_rfl) (by kernel_rfl) (by kernel_rfl) (fun _ _ _ h => h) (Or.inl ⟨by rfl, ?_⟩) hHeld ?_
      rotate_left
      · intro w hSw; skip; go_simp; try with_reducible rfl
      try simp only [Act.put, List.getElem_toArray, List.getElem_cons_zero, List.getElem_cons_succ, List.setIfInBounds_toArray, List.set_cons_zero, List.set_cons_succ]
      refine wpAnyH_take (i := 12) (v := ?_) rfl (by kernel_rfl) (by kernel_rfl) (by kernel_rfl) (fun _ _ _ h => h) (Or.inl ⟨by rfl, ?_⟩) hHeld ?_
      rotate_left
      · intro w hSw; skip; go_simp; try with_reducible rfl
      try simp only [Act.put, List.getElem_toArray, List.getElem_cons_zero, List.getElem_cons_succ, List.setIfInBounds_toArray, List.set_cons_zero, List.set_cons_succ]
      refine wpAnyH_take (i := 13) (v := ?_) rfl (by kernel_rfl) (by kernel_rfl) (by kernel_rfl) (fun _ _ _ h => h) (Or.inl ⟨by rfl, ?_⟩) hHeld ?_
      rotate_left
      · intro w hSw; skip; go_simp; try with_reducible rfl
      try simp only [Act.put, List.getElem_toArray, List.getElem_cons_zero, List.getElem_cons_succ, List.setIfInBounds_toArray, List.set_cons_zero, List.set_cons_succ]
      refine wpAnyH_take (i := 14) (v := ?_) rfl (by kernel_rfl) (by kernel_rfl) (by kernel_rfl) (fun _ _ _ h => h) (Or.inl ⟨by rfl, ?_⟩) hHeld ?_
      rotate_left
      · intro w hSw; skip; go_simp; try with_reducible rfl
      try simp only [Act.put, List.getElem_toArray, List.getElem_cons_zero, List.getElem_cons_succ, List.setIfInBounds_toArray, List.set_cons_zero, List.set_cons_succ]
      refine wpAnyH_done (by kernel_rfl) ?_ _
      have A2 := A1.below hHeld
      have M2 := lies.on_call M1 hHeld
      clear hHeld S0 A1 M1 hz1 D1 hFF q1 q2 q3
      rcases hO with rfl | ⟨hm, hX, hS⟩
      · have e6 : valE 9223372036854775807 = 6 := by decide
        rw [e6]
        go_wp2_with fail
        go_roundw
        case rel => exact ⟨j + 1, by omega, by go_num, by rw [HUP.out]; cases x <;> exact A2⟩
        case measure => simp [intOf]; omega
      · have hnz : z ≠ 9223372036854775807 := by have := hm.2; omega
        have e0 : valE z = 0 := by unfold valE; rw [if_neg hnz, if_pos hm]
        have e1 : valC z = z / 2 := if_pos hm
        have e2 : valS z = bS z := if_pos hm
        rw [e0, e1, e2]
        have hm' : May (s * (z / 2)) := by
          have := hm.1; have := hm.2
          rcases HSS.out with rfl | rfl <;> unfold May <;> omega
        have g1 : IntKind.i64.wrap (s * (z / 2)) = s * (z / 2) := IntWalk.i64_in _ (by have := hm'.1; have := hm'.2; omega)
        have g2 : wrap64 (s * (z / 2)) = s * (z / 2) := IntWalk.wrap64_in _ ⟨by have := hm'.1; omega, by have := hm'.2; omega⟩
        obtain ⟨bc, hbc⟩ : ∃ bc : Int, bc = 2 * (s * X j) + 16 * (z / 2) + z % 2 := ⟨_, rfl⟩
        have hcand : cand s (X j) (cod z) = some bc := by rw [cod_some hnz, hbc]; rfl
        have hbv : s * (bc / 2) = X j + 8 * (s * (z / 2)) := by rw [hbc]; rcases HSS.out with rfl | rfl <;> omega
        have hbs : decide (bc % 2 = 0) = bS z := by unfold bS; congr 1; rw [hbc]; apply propext; omega
        obtain ⟨ea, ed, eb, ec, eL, eV⟩ := endL_four s x
        obtain ⟨fa, fd, fb, fc, fL, fV⟩ := endL_four s (mnE x (some bc))
        have hor : ∀ W, Calls Try.prog 53 #[.agg #[.bool ea, .int .i64 eb, .int .i64 ec, .bool ed], .agg #[.bool true, .int .i64 (p8 (X j + 8 * (s * (z / 2)))), .int .i64 (q8 (X j + 8 * (s * (z / 2)))), .bool (bS z)], .int .i64 s] W fun e w' => e = .returned (.agg #[.bool fa, .int .i64 fb, .int .i64 fc, .bool fd]) ∧ Below W.heap.size W w' := fun W => by
          have := or_is HSS.out x bc HNj.out (show Near (s * (bc / 2)) by rw [hbv]; exact hS) W
          rw [eV, fV] at this
          dsimp only [endV] at this
          rw [hbv, hbs] at this
          exact this
        have A4 : Ne s x w u2.drew := A2.below (dbm.drawn1 (Below.refl _ _))
        have M4 : lies.Lies u2.drew PB 36 #[.int .i64 (p8 (X j)), .int .i64 (q8 (X j))] := M2
        clear A2 hbc hbv hbs fV eV e0 e1 e2 hnz hz'
        have a5 := A4.2.1
        rw [eL] at a5
        obtain ⟨a0, a1, a2, a3, a4⟩ := four a5
        obtain ⟨m0, m1, m2, m3, m4⟩ := lies.two M2
        clear a5 M2
        go_wp2_with fail
        clear m0 m1 m2 m3 m4
        refine wp_region_held_drew (S := fun W => W.cell? ⟨PB, 0, none⟩ = some (.int .i64 (p8 (X j))) ∧ W.cell? ⟨PB, 1, none⟩ = some (.int .i64 (q8 (X j)))) (by kernel_rfl) (lies.pair M4) (fun hHeld => ?_)
        refine wpAnyH_take (i := 1) (v := ?_) rfl (by kernel_rfl) (by kernel_rfl) (by kernel_rfl) (fun _ _ _ h => h) (Or.inl ⟨by rfl, ?_⟩) hHeld ?_
        rotate_left
        · intro w hSw; obtain ⟨s0, s1⟩ := hSw; go_simp; try with_reducible rfl
        try simp only [Act.put, List.getElem_toArray, List.getElem_cons_zero, List.getElem_cons_succ, List.setIfInBounds_toArray, List.set_cons_zero, List.set_cons_succ]
        refine wpAnyH_take (i := 2) (v := ?_) rfl (by kernel_rfl) (by kernel_rfl) (by kernel_rfl) (fun _ _ _ h => h) (Or.inl ⟨by rfl, ?_⟩) hHeld ?_
        rotate_left
        · intro w hSw; obtain ⟨s0, s1⟩ := hSw; go_simp; try with_reducible rfl
        try simp only [Act.put, List.getElem_toArray, List.getElem_cons_zero, List.getElem_cons_succ, List.setIfInBounds_toArray, List.set_cons_zero, List.set_cons_succ]
        refine wpAnyH_take (i := 3) (v := ?_) rfl (by kernel_rfl) (by kernel_rfl) (by kernel_rfl) (fun _ _ _ h => h) (Or.inl ⟨by rfl, ?_⟩) hHeld ?_
        rotate_left
        · intro w hSw; obtain ⟨s0, s1⟩ := hSw; go_simp; try with_reducible rfl
        try simp only [Act.put, List.getElem_toArray, List.getElem_cons_zero, List.getElem_cons_succ, List.setIfInBounds_toArray, List.set_cons_zero, List.set_cons_succ]
        refine wpAnyH_take (i := 4) (v := ?_) rfl (by kernel_rfl) (by kernel_rfl) (by kernel_rfl) (fun _ _ _ h => h) (Or.inl ⟨by rfl, ?_⟩) hHeld ?_
        rotate_left
        · intro w hSw; obtain ⟨s0, s1⟩ := hSw; go_simp; try with_reducible rfl
        try simp only [Act.put, List.getElem_toArray, List.getElem_cons_zero, List.getElem_cons_succ, List.setIfInBounds_toArray, List.set_cons_zero, List.set_cons_succ]
        refine wpAnyH_take (i := 6) (v := ?_) rfl (by kernel_rfl) (by kernel_rfl) (by kernel_rfl) (fun _ _ _ h => h) (Or.inl ⟨by rfl, ?_⟩) hHeld ?_
        rotate_left
        · intro w hSw; skip; go_simp; try with_reducible rfl
        try simp only [Act.put, List.getElem_toArray, List.getElem_cons_zero, List.getElem_cons_succ, List.setIfInBounds_toArray, List.set_cons_zero, List.set_cons_succ]
        refine wpAnyH_take (i := 8) (v := ?_) rfl (by kernel_rfl) (by kernel_rfl) (by kernel_rfl) (fun _ _ _ h => h) (Or.inl ⟨by rfl, ?_⟩) hHeld ?_
        rotate_left
        · intro w hSw; skip; go_simp; try with_reducible rfl
        try simp only [Act.put, List.getElem_toArray, List.getElem_cons_zero, List.getElem_cons_succ, List.setIfInBounds_toArray, List.set_cons_zero, List.set_cons_succ]
        refine wpAnyH_ready (rs := [0, 5]) (by kernel_rfl) (by simp) (AllReadyH.cons rfl (fun K hK => ?_) (AllReadyH.cons rfl (fun K hK => ?_) AllReadyH.nil))
        · go_simp
          refine hK.out _ _ hHeld (fun hNew => ?_)
          clear a0 a1 a2 a3 a4
          clear hHeld hK K
          have hHeld := hNew
          clear hNew
          try simp only [Act.put, List.getElem_toArray, List.getElem_cons_zero, List.getElem_cons_succ, List.setIfInBounds_toArray, List.set_cons_zero, List.set_cons_succ]
          refine wpAnyH_ready (rs := [5]) (by kernel_rfl) (by simp) (AllReadyH.cons rfl (fun K hK => ?_) AllReadyH.nil)
          go_simp
          refine (plus_is _ hX hm' hS).mono ?_
          rintro e v1 ⟨rfl, hB⟩
          replace A4 := A4.below hB
          replace M4 := lies.on_call M4 hB
          refine hK.out _ _ (lies.pair M4) (fun hNew => ?_)
          clear hB
          clear hHeld hK K
          have hHeld := hNew
          clear hNew
          try simp only [Act.put, List.getElem_toArray, List.getElem_cons_zero, List.getElem_cons_succ, List.setIfInBounds_toArray, List.set_cons_zero, List.set_cons_succ]
          refine wpAnyH_take (i := 7) (v := ?_) rfl (by kernel_rfl) (by kernel_rfl) (by kernel_rfl) (fun _ _ _ h => h) (Or.inl ⟨by rfl, ?_⟩) hHeld ?_
          rotate_left
          · intro w hSw; skip; go_simp; try with_reducible rfl
          try simp only [Act.put, List.getElem_toArray, List.getElem_cons_zero, List.getElem_cons_succ, List.setIfInBounds_toArray, List.set_cons_zero, List.set_cons_succ]
          refine wpAnyH_ready (rs := [9]) (by kernel_rfl) (by simp) (AllReadyH.cons rfl (fun K hK => ?_) AllReadyH.nil)
          go_simp
          refine (hor _).mono ?_
          rintro e v2 ⟨rfl, hB⟩
          replace A4 := A4.below hB
          replace M4 := lies.on_call M4 hB
          refine hK.out _ _ (lies.pair M4) (fun hNew => ?_)
          clear hB
          clear hHeld hK K
          have hHeld := hNew
          clear hNew
          try simp only [Act.put, List.getElem_toArray, List.getElem_cons_zero, List.getElem_cons_succ, List.setIfInBounds_toArray, List.set_cons_zero, List.set_cons_succ]
          obtain ⟨B0, B1, BB⟩ := A4
          rw [eL] at B1
          obtain ⟨b0, b1, b2, b3, b4⟩ := four B1
          obtain ⟨f0, f1, f2, f3⟩ := fourF B1
          have hne : PB ≠ w.heap.size + 1 := hPB
          refine wpAnyH_ready (rs := [10]) (by kernel_rfl) (by simp) (AllReadyH.cons rfl (fun K hK => ?_) AllReadyH.nil)
          go_simp
          have G1 := lies.on_put (lies.on_put (lies.on_put (lies.on_put B1 0 (.bool fa)) 1 (.int .i64 fb)) 2 (.int .i64 fc)) 3 (.bool fd)
          have G0 := lies.on_far (lies.on_far (lies.on_far (lies.on_far B0 (b := w.heap.size + 1) 0 (by omega) (.bool fa)) (b := w.heap.size + 1) 1 (by omega) (.int .i64 fb)) (b := w.heap.size + 1) 2 (by omega) (.int .i64 fc)) (b := w.heap.size + 1) 3 (by omega) (.bool fd)
          have GM := lies.on_far (lies.on_far (lies.on_far (lies.on_far M4 (b := w.heap.size + 1) 0 hne (.bool fa)) (b := w.heap.size + 1) 1 hne (.int .i64 fb)) (b := w.heap.size + 1) 2 hne (.int .i64 fc)) (b := w.heap.size + 1) 3 hne (.bool fd)
          have GB := set4 BB (g := w.heap.size + 1) (by omega) (.bool fa) (.int .i64 fb) (.int .i64 fc) (.bool fd)
          have hN8 : Ne s (mnE x (some bc)) w ((((v2.setCell ⟨w.heap.size + 1, 0, none⟩ (.bool fa)).setCell ⟨w.heap.size + 1, 1, none⟩ (.int .i64 fb)).setCell ⟨w.heap.size + 1, 2, none⟩ (.int .i64 fc)).setCell ⟨w.heap.size + 1, 3, none⟩ (.bool fd)) := ⟨G0, by rw [fL]; exact G1, GB⟩
          clear b0 b1 b2 b3 b4 f0 f1 f2 f3 G0 G1 GB B0 B1 BB
          refine hK.out _ _ (lies.pair GM) (fun hNew => ?_)
          clear hK K hNew hHeld GM M4
          refine wpAnyH_done (by kernel_rfl) ?_ _
          generalize (((v2.setCell ⟨w.heap.size + 1, 0, none⟩ (.bool fa)).setCell ⟨w.heap.size + 1, 1, none⟩ (.int .i64 fb)).setCell ⟨w.heap.size + 1, 2, none⟩ (.int .i64 fc)).setCell ⟨w.heap.size + 1, 3, none⟩ (.bool fd) = w8 at hN8 ⊢
          go_wp2_with fail
          go_roundw
          case rel => exact ⟨j + 1, by omega, by go_num, by rw [HUP.out, hcand]; exact hN8⟩
          case measure => simp [intOf]; omega
        · go_simp
          clear a0 a1 a2 a3 a4
          refine (plus_is _ hX hm' hS).mono ?_
          rintro e v1 ⟨rfl, hB⟩
          replace A4 := A4.below hB
          replace M4 := lies.on_call M4 hB
          refine hK.out _ _ (lies.pair M4) (fun hNew => ?_)
          clear hB
          clear hHeld hK K
          have hHeld := hNew
          clear hNew
          try simp only [Act.put, List.getElem_toArray, List.getElem_cons_zero, List.getElem_cons_succ, List.setIfInBounds_toArray, List.set_cons_zero, List.set_cons_succ]
          have a5 := A4.2.1
          rw [eL] at a5
          obtain ⟨a0, a1, a2, a3, a4⟩ := four a5
          refine wpAnyH_take (i := 7) (v := ?_) rfl (by kernel_rfl) (by kernel_rfl) (by kernel_rfl) (fun _ _ _ h => h) (Or.inl ⟨by rfl, ?_⟩) hHeld ?_
          rotate_left
          · intro w hSw; skip; go_simp; try with_reducible rfl
          try simp only [Act.put, List.getElem_toArray, List.getElem_cons_zero, List.getElem_cons_succ, List.setIfInBounds_toArray, List.set_cons_zero, List.set_cons_succ]
          refine wpAnyH_ready (rs := [0]) (by kernel_rfl) (by simp) (AllReadyH.cons rfl (fun K hK => ?_) AllReadyH.nil)
          go_simp
          refine hK.out _ _ hHeld (fun hNew => ?_)
          clear a0 a1 a2 a3 a4 a5
          clear hHeld hK K
          have hHeld := hNew
          clear hNew
          try simp only [Act.put, List.getElem_toArray, List.getElem_cons_zero, List.getElem_cons_succ, List.setIfInBounds_toArray, List.set_cons_zero, List.set_cons_succ]
          refine wpAnyH_ready (rs := [9]) (by kernel_rfl) (by simp) (AllReadyH.cons rfl (fun K hK => ?_) AllReadyH.nil)
          go_simp
          refine (hor _).mono ?_
          rintro e v2 ⟨rfl, hB⟩
          replace A4 := A4.below hB
          replace M4 := lies.on_call M4 hB
          refine hK.out _ _ (lies.pair M4) (fun hNew => ?_)
          clear hB
          clear hHeld hK K
          have hHeld := hNew
          clear hNew
          try simp only [Act.put, List.getElem_toArray, List.getElem_cons_zero, List.getElem_cons_succ, List.setIfInBounds_toArray, List.set_cons_zero, List.set_cons_succ]
          obtain ⟨B0, B1, BB⟩ := A4
          rw [eL] at B1
          obtain ⟨b0, b1, b2, b3, b4⟩ := four B1
          obtain ⟨f0, f1, f2, f3⟩ := fourF B1
          have hne : PB ≠ w.heap.size + 1 := hPB
          refine wpAnyH_ready (rs := [10]) (by kernel_rfl) (by simp) (AllReadyH.cons rfl (fun K hK => ?_) AllReadyH.nil)
          go_simp
          have G1 := lies.on_put (lies.on_put (lies.on_put (lies.on_put B1 0 (.bool fa)) 1 (.int .i64 fb)) 2 (.int .i64 fc)) 3 (.bool fd)
          have G0 := lies.on_far (lies.on_far (lies.on_far (lies.on_far B0 (b := w.heap.size + 1) 0 (by omega) (.bool fa)) (b := w.heap.size + 1) 1 (by omega) (.int .i64 fb)) (b := w.heap.size + 1) 2 (by omega) (.int .i64 fc)) (b := w.heap.size + 1) 3 (by omega) (.bool fd)
          have GM := lies.on_far (lies.on_far (lies.on_far (lies.on_far M4 (b := w.heap.size + 1) 0 hne (.bool fa)) (b := w.heap.size + 1) 1 hne (.int .i64 fb)) (b := w.heap.size + 1) 2 hne (.int .i64 fc)) (b := w.heap.size + 1) 3 hne (.bool fd)
          have GB := set4 BB (g := w.heap.size + 1) (by omega) (.bool fa) (.int .i64 fb) (.int .i64 fc) (.bool fd)
          have hN8 : Ne s (mnE x (some bc)) w ((((v2.setCell ⟨w.heap.size + 1, 0, none⟩ (.bool fa)).setCell ⟨w.heap.size + 1, 1, none⟩ (.int .i64 fb)).setCell ⟨w.heap.size + 1, 2, none⟩ (.int .i64 fc)).setCell ⟨w.heap.size + 1, 3, none⟩ (.bool fd)) := ⟨G0, by rw [fL]; exact G1, GB⟩
          clear b0 b1 b2 b3 b4 f0 f1 f2 f3 G0 G1 GB B0 B1 BB
          refine hK.out _ _ (lies.pair GM) (fun hNew => ?_)
          clear hK K hNew hHeld GM M4
          refine wpAnyH_done (by kernel_rfl) ?_ _
          generalize (((v2.setCell ⟨w.heap.size + 1, 0, none⟩ (.bool fa)).setCell ⟨w.heap.size + 1, 1, none⟩ (.int .i64 fb)).setCell ⟨w.heap.size + 1, 2, none⟩ (.int .i64 fc)).setCell ⟨w.heap.size + 1, 3, none⟩ (.bool fd) = w8 at hN8 ⊢
          go_wp2_with fail
          go_roundw
          case rel => exact ⟨j + 1, by omega, by go_num, by rw [HUP.out, hcand]; exact hN8⟩
          case measure => simp [intOf]; omega
    · obtain rfl : k = j := by omega
      obtain ⟨B0, B1, BB⟩ := hA
      rw [HFL.out] at B1
      obtain ⟨x0, x1, x2, x3, x4⟩ := four B1
      obtain ⟨b0, b1, b2, b3, b4⟩ := four B0
      obtain ⟨f0, f1, f2, f3⟩ := fourF B0
      clear B0 B1
      go_wp2_with fail
      exact bodyPost_ret (v := .agg #[.bool za, .int .i64 zb, .int .i64 zc, .bool zd]) (by simp [results, Try.results51, go_sem, b0, b1, b2, b3]) rfl ⟨rfl, set4 BB (Nat.le_refl _) _ _ _ _⟩
end Go.Proofs.Ytnbpcgkdnkihdaa.incl
