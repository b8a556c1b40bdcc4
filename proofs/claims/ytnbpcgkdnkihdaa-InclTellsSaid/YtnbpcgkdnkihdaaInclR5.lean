/-
  What rallentandoref06's low answers; each theorem names its conditions.
-/
import Derived.Test.YtnbpcgkdnkihdaaInclR4
namespace Go.Proofs.Ytnbpcgkdnkihdaa.iref
open Go.ChangeShapes Go.WideShapes Go.ChangeAt Go.RowKit num rat dbm way Go.Proofs.Ytnbpcgkdnkihdaa.tight Go.Proofs.Ytnbpcgkdnkihdaa.incl Go.Proofs.Ytnbpcgkdnkihdaa.tlaw
open bound hiding up
set_option linter.unusedVariables false
set_option linter.unusedSimpArgs false

/-- a low end, as it is told: whether there is one, where, and whether it is strict. -/
def lowT : Option Int → Bool × Int × Int × Bool
  | none => (false, 0, 1, false)
  | some e => (true, p8 (-1 * (e / 2)), q8 (-1 * (e / 2)), decide (e % 2 = 0))
/-- what lies there while it is told. -/
def LI (n b off cap : Nat) (A B : Int) (w W : World) : Prop := lies.Lies W w.heap.size 27 #[.int .i64 n, .slice (some ⟨b, off, none⟩) (n * n) cap] ∧ lies.Lies W (w.heap.size + 1) 36 #[.int .i64 0, .int .i64 0] ∧ lies.Lies W (w.heap.size + 1 + 1) 36 #[.int .i64 A, .int .i64 B] ∧ Below w.heap.size w W
theorem LI.below {n b off cap : Nat} {A B : Int} {w W X : World} (h : LI n b off cap A B w W) (k : Below W.heap.size W X) : LI n b off cap A B w X := ⟨lies.on_call h.1 k, lies.on_call h.2.1 k, lies.on_call h.2.2.1 k, h.2.2.2.trans (k.mono h.2.2.2.size)⟩
theorem LI.far {n b off cap : Nat} {A B : Int} {w W : World} (h : LI n b off cap A B w W) {g : Nat} (hg : w.heap.size + 1 + 1 < g) (i : Nat) (u : Value) : LI n b off cap A B w (W.setCell ⟨g, i, none⟩ u) := ⟨lies.on_far h.1 (b := g) i (by omega) u, lies.on_far h.2.1 (b := g) i (by omega) u, lies.on_far h.2.2.1 (b := g) i (by omega) u, h.2.2.2.setCell (p := ⟨g, i, none⟩) (by dsimp only; omega) u⟩
theorem LI.put {n b off cap : Nat} {A B : Int} {w W : World} (h : LI n b off cap A B w W) (P Q : Int) : LI n b off cap P Q w ((W.setCell ⟨w.heap.size + 1 + 1, 0, none⟩ (.int .i64 P)).setCell ⟨w.heap.size + 1 + 1, 1, none⟩ (.int .i64 Q)) :=
  ⟨lies.on_far (lies.on_far h.1 (b := w.heap.size + 1 + 1) 0 (by omega) _) (b := w.heap.size + 1 + 1) 1 (by omega) _, lies.on_far (lies.on_far h.2.1 (b := w.heap.size + 1 + 1) 0 (by omega) _) (b := w.heap.size + 1 + 1) 1 (by omega) _, lies.on_put (lies.on_put h.2.2.1 0 (.int .i64 P)) 1 (.int .i64 Q), (h.2.2.2.setCell (p := ⟨w.heap.size + 1 + 1, 0, none⟩) (by dsimp only; omega) _).setCell (p := ⟨w.heap.size + 1 + 1, 1, none⟩) (by dsimp only; omega) _⟩
/-- where it is, in eighths. -/
def lowY : Option Int → Int
  | none => 0
  | some e => -1 * (e / 2)
theorem lowT_near {o : Option Int} (h : NearE (-1) o) : Near (lowY o) ∧ (lowT o).2.1 = p8 (lowY o) ∧ (lowT o).2.2.1 = q8 (lowY o) := by
  cases o with
  | none => exact ⟨⟨by decide, by decide⟩, eight_zero.1.symm, eight_zero.2.symm⟩
  | some e => exact ⟨h, rfl, rfl⟩
set_option maxRecDepth 100000 in
set_option maxHeartbeats 16000000 in
theorem low_is (n i b off cap tb toff tcap : Nat) (X : Nat → Int) (ts : List Int) (rs : List (Int × Int)) (w : World) (hn : n ≤ 4) (hi : i < n) (hr : Row w b off ts) (hb : b < w.heap.size) (hl : ts.length = n * n)
    (hR : RowR w tb toff rs) (htb : tb < w.heap.size) (hrs : rs.length = i) (hpr : ∀ j, j < i → pr rs j = (p8 (X j), q8 (X j))) (hfit : ∀ j, j < i → Fit (-1) (X j) (ts[j * n + i]?.getD 0)) :
    Calls Try.prog 86 #[.agg #[.int .i64 n, .slice (some ⟨b, off, none⟩) (n * n) cap], .slice (some ⟨tb, toff, none⟩) i tcap] w fun e w' => Below w.heap.size w w' ∧ e = .returned (.tuple #[.bool (lowT (endC (-1) X (fun j => cod (ts[j * n + i]?.getD 0)) i)).1, .agg #[.int .i64 ((lowT (endC (-1) X (fun j => cod (ts[j * n + i]?.getD 0)) i)).2.1), .int .i64 ((lowT (endC (-1) X (fun j => cod (ts[j * n + i]?.getD 0)) i)).2.2.1)], .bool (lowT (endC (-1) X (fun j => cod (ts[j * n + i]?.getD 0)) i)).2.2.2]) := by
  have hnear := endC_near (.inr rfl) (X := X) (t := fun j => ts[j * n + i]?.getD 0) (k := i) (fun j hj => (hfit j hj).imp id fun h => h.2.2)
  obtain ⟨zi, hzi⟩ : ∃ z, (lowT (endC (-1) X (fun j => cod (ts[j * n + i]?.getD 0)) i)).1 = z := ⟨_, rfl⟩
  obtain ⟨zp, hzp⟩ : ∃ z, (lowT (endC (-1) X (fun j => cod (ts[j * n + i]?.getD 0)) i)).2.1 = z := ⟨_, rfl⟩
  obtain ⟨zq, hzq⟩ : ∃ z, (lowT (endC (-1) X (fun j => cod (ts[j * n + i]?.getD 0)) i)).2.2.1 = z := ⟨_, rfl⟩
  obtain ⟨zs, hzs⟩ : ∃ z, (lowT (endC (-1) X (fun j => cod (ts[j * n + i]?.getD 0)) i)).2.2.2 = z := ⟨_, rfl⟩
  rw [hzi, hzp, hzq, hzs]
  have HZ := Lib.hid (And.intro hzi (And.intro hzp (And.intro hzq hzs)))
  have HNE := Lib.hid hnear
  have HR := Lib.hid hr
  have HL := Lib.hid hl
  have HRR := Lib.hid hR
  have HRS := Lib.hid hrs
  have HPR := Lib.hid hpr
  have HFI := Lib.hid hfit
  clear hzi hzp hzq hzs hnear hr hl hR hrs hpr hfit
  have E0 := lies.on_alloc (lies.on_alloc (lies.made w 27 #[.int .i64 n, .slice (some ⟨b, off, none⟩) (n * n) cap]) (.cells #[.int .i64 0, .int .i64 0] 36)) (.cells #[.int .i64 0, .int .i64 1] 36)
  have E1 := lies.on_alloc (lies.made_at (w.alloc (.cells #[.int .i64 n, .slice (some ⟨b, off, none⟩) (n * n) cap] 27)) 36 #[.int .i64 0, .int .i64 0] (w.heap.size + 1) (World.size_alloc _ _)) (.cells #[.int .i64 0, .int .i64 1] 36)
  have E2 := lies.made_at ((w.alloc (.cells #[.int .i64 n, .slice (some ⟨b, off, none⟩) (n * n) cap] 27)).alloc (.cells #[.int .i64 0, .int .i64 0] 36)) 36 #[.int .i64 0, .int .i64 1] (w.heap.size + 1 + 1) (by simp)
  have EB := bound.up3 w (.cells #[.int .i64 n, .slice (some ⟨b, off, none⟩) (n * n) cap] 27) (.cells #[.int .i64 0, .int .i64 0] 36) (.cells #[.int .i64 0, .int .i64 1] 36)
  have I0 : LI n b off cap 0 1 w _ := ⟨E0, E1, E2, EB⟩
  clear E0 E1 E2 EB
  go_enter Try.func86, Try.ntmps86
  go_wp2_with fail
  generalize ((w.alloc (.cells #[.int .i64 n, .slice (some ⟨b, off, none⟩) (n * n) cap] 27)).alloc (.cells #[.int .i64 0, .int .i64 0] 36)).alloc (.cells #[.int .i64 0, .int .i64 1] 36) = w0 at I0 ⊢
  go_loopw [8, 9, 11] (fun isv stv iv wr => ∃ (j : Nat) (A B : Int) (is st : Bool), j ≤ i ∧ iv = .int .i64 j ∧ isv = .bool is ∧ stv = .bool st ∧ lowT (endC (-1) X (fun j => cod (ts[j * n + i]?.getD 0)) j) = (is, A, B, st) ∧ LI n b off cap A B w wr) (fun isv stv iv _ => i - (intOf iv).toNat)
  case atStart => exact ⟨0, 0, 1, false, false, Nat.zero_le _, rfl, rfl, rfl, rfl, I0⟩
  case round =>
    clear I0
    obtain ⟨j, A, B, is, st, hj, rfl, rfl, rfl, hT, hLI'⟩ := hrel
    by_cases hji : j < i
    · have hjn : j < n := by omega
      have hpl := place_le hn hjn hi
      have hz := (HR.out.below hLI'.2.2.2 hb) (j * n + i) (by rw [HL.out]; exact hpl)
      have hbl := Nat.lt_of_lt_of_le hb hLI'.2.2.2.size
      have hup : endC (-1) X (fun j => cod (ts[j * n + i]?.getD 0)) (j + 1) = mnE (endC (-1) X (fun j => cod (ts[j * n + i]?.getD 0)) j) (cand (-1) (X j) (cod (ts[j * n + i]?.getD 0))) := rfl
      have hft := HFI.out j hji
      have hnj := HNE.out j (by omega)
      generalize ts[j * n + i]?.getD 0 = z at hz hup hft
      generalize endC (-1) X (fun j => cod (ts[j * n + i]?.getD 0)) j = eo at hT hup hnj
      have HUP := Lib.hid hup
      have HTT := Lib.hid hT
      have HNJ := Lib.hid hnj
      obtain ⟨y0, y1, y2, y3, y4⟩ := lies.two hLI'.1
      have wj : wrap64 ((j : Int) + 1) = (j : Int) + 1 := IntWalk.wrap64_in _ ⟨by omega, by omega⟩
      clear hup hT hnj
      rcases hft with rfl | ⟨hmz, hNX, hNS⟩
      · obtain ⟨q1, q2, q3, q4, q5, q6, q7⟩ := dref.place_int hn hjn hi
        go_wp2_with fail
        clear q1 q2 q3 q4 q5 q6 q7
        go_roundw
        case rel => exact ⟨j + 1, A, B, is, st, by omega, by go_num, rfl, rfl, by rw [HUP.out]; cases eo <;> exact HTT.out, hLI'⟩
        case measure => simp [intOf]; omega
      · have hzn : z ≠ 9223372036854775807 := by have := hmz.2; omega
        have hz1 : -9223372036854775808 ≤ z := by have := hmz.1; omega
        have hz2 : z ≤ 9223372036854775807 := by have := hmz.2; omega
        have u1 : (z == 9223372036854775807) = false := by simpa using hzn
        obtain ⟨m1, m2⟩ := (HRR.out.below hLI'.2.2.2 htb) j (by rw [HRS.out]; exact hji)
        rw [HPR.out j hji] at m1 m2
        dsimp only at m1 m2
        have S0 : ∀ W, Below w.heap.size w W → W.cell? ⟨tb, toff + j * 2, none⟩ = some (.int .i64 (p8 (X j))) ∧ W.cell? ⟨tb, toff + j * 2 + 1, none⟩ = some (.int .i64 (q8 (X j))) := fun W hW =>
          ⟨(hW.cell (p := ⟨tb, toff + j * 2, none⟩) htb).trans ((hLI'.2.2.2.cell (p := ⟨tb, toff + j * 2, none⟩) htb).symm.trans m1), (hW.cell (p := ⟨tb, toff + j * 2 + 1, none⟩) htb).trans ((hLI'.2.2.2.cell (p := ⟨tb, toff + j * 2 + 1, none⟩) htb).symm.trans m2)⟩
        have HS0 := Lib.hid S0
        have ez : -1 * (z / 2) = -(z / 2) := by omega
        rw [ez] at hNS
        have hmz' : May (-(z / 2)) := by have := hmz.1; have := hmz.2; exact ⟨by omega, by omega⟩
        have g1 : IntKind.i64.wrap (0 - z / 2) = -(z / 2) := by rw [Int.zero_sub]; exact IntWalk.i64_in _ (by have := hmz.1; have := hmz.2; omega)
        have g2 : IntKind.i64.wrap (-(z / 2)) = -(z / 2) := IntWalk.i64_in _ (by have := hmz.1; have := hmz.2; omega)
        have hN := near_fits hNS
        obtain ⟨bc, hbc⟩ : ∃ bc : Int, bc = 2 * (-1 * X j) + 16 * (z / 2) + z % 2 := ⟨_, rfl⟩
        have hcand : cand (-1) (X j) (cod z) = some bc := by rw [cod_some hzn, hbc]; rfl
        have hbv : -1 * (bc / 2) = X j + 8 * -(z / 2) := by rw [hbc]; omega
        have hbs : decide (bc % 2 = 0) = bS z := by unfold bS; congr 1; rw [hbc]; apply propext; omega
        have hTb : lowT (some bc) = (true, p8 (X j + 8 * -(z / 2)), q8 (X j + 8 * -(z / 2)), bS z) := by
          show (true, p8 (-1 * (bc / 2)), q8 (-1 * (bc / 2)), decide (bc % 2 = 0)) = _
          rw [hbv, hbs]
        have HC := Lib.hid (And.intro hcand (And.intro hbv hTb))
        obtain ⟨hY, hYA, hYB⟩ := lowT_near HNJ.out
        generalize hYY : lowY eo = Y at hY hYA hYB
        have HYY := Lib.hid hYY
        rw [HTT.out] at hYA hYB
        dsimp only at hYA hYB
        have hYf := near_fits hY
        have hcmp : ∀ W, Calls Try.prog 100 #[.agg #[.int .i64 (p8 (X j + 8 * -(z / 2))), .int .i64 (q8 (X j + 8 * -(z / 2)))], .agg #[.int .i64 (A), .int .i64 (B)]] W fun e w' => e = .returned (.int .i64 (cmp0 (X j + 8 * -(z / 2)) Y)) ∧ Below W.heap.size W w' := fun W => by
          rw [hYA, hYB]
          have := rref.compared_any (p8 (X j + 8 * -(z / 2))) (q8 (X j + 8 * -(z / 2))) (p8 Y) (q8 Y) W hN.1.1 hN.1.2 hYf.1.1 hYf.1.2 ⟨near_may hNS, near_may hY⟩
          rw [← (cmpV_is ⟨near_may hNS, near_may hY⟩).1, (cmp8 hNS hY).1] at this
          exact this
        have HCMP := Lib.hid hcmp
        have HYA := Lib.hid (And.intro hYA hYB)
        clear hYY S0 ez hcand hbv hbs hTb hcmp hYf hYA hYB hbc m1 m2
        generalize hPP : p8 (X j + 8 * -(z / 2)) = P at HCMP HC
        generalize hQQ : q8 (X j + 8 * -(z / 2)) = Q at HCMP HC
        have HPQ := Lib.hid (And.intro hPP hQQ)
        clear hN
        obtain ⟨q1, q2, q3, q4, q5, q6, q7⟩ := dref.place_int hn hjn hi
        go_upto_region 10 with fail
        clear q1 q2 q3 q4 q5 q6 q7 y0 y1 y2 y3 y4 hz hbl
        go_cut [13, 64, 65, 66] from 18 (fun s13 s64 s65 s66 wx => (s64 = undef ∧ s65 = undef ∧ s66 = undef) ∧ ∃ g : Nat, s13 = .pointer (some ⟨g, 0, none⟩) ∧ lies.Lies wx g 36 #[.int .i64 P, .int .i64 Q] ∧ LI n b off cap A B w wx ∧ w.heap.size + 1 + 1 < g)
        case first =>
          have hLI : LI n b off cap A B w wr.drew := hLI'.below (dbm.drawn1 (Below.refl _ _))
          clear hLI' HCMP HC HPQ HYA
          refine wp_region_held_drew (S := Below w.heap.size w) (by kernel_rfl) hLI.2.2.2 (fun hHeld => ?_)
          refine wpAnyH_take (i := 0) (v := ?_) rfl (by kernel_rfl) (by kernel_rfl) (by kernel_rfl) (fun _ _ _ h => h) (Or.inl ⟨by rfl, ?_⟩) hHeld ?_
          rotate_left
          · intro w hSw; obtain ⟨s0, s1⟩ := HS0.out _ hSw; go_simp; try with_reducible rfl
          try simp only [Act.put, List.getElem_toArray, List.getElem_cons_zero, List.getElem_cons_succ, List.setIfInBounds_toArray, List.set_cons_zero, List.set_cons_succ]
          refine wpAnyH_take (i := 1) (v := ?_) rfl (by kernel_rfl) (by kernel_rfl) (by kernel_rfl) (fun _ _ _ h => h) (Or.inl ⟨by rfl, ?_⟩) hHeld ?_
          rotate_left
          · intro w hSw; obtain ⟨s0, s1⟩ := HS0.out _ hSw; go_simp; try with_reducible rfl
          try simp only [Act.put, List.getElem_toArray, List.getElem_cons_zero, List.getElem_cons_succ, List.setIfInBounds_toArray, List.set_cons_zero, List.set_cons_succ]
          refine wpAnyH_take (i := 2) (v := ?_) rfl (by kernel_rfl) (by kernel_rfl) (by kernel_rfl) (fun _ _ _ h => h) (Or.inl ⟨by rfl, ?_⟩) hHeld ?_
          rotate_left
          · intro w hSw; obtain ⟨s0, s1⟩ := HS0.out _ hSw; go_simp; try with_reducible rfl
          try simp only [Act.put, List.getElem_toArray, List.getElem_cons_zero, List.getElem_cons_succ, List.setIfInBounds_toArray, List.set_cons_zero, List.set_cons_succ]
          refine wpAnyH_take (i := 3) (v := ?_) rfl (by kernel_rfl) (by kernel_rfl) (by kernel_rfl) (fun _ _ _ h => h) (Or.inl ⟨by rfl, ?_⟩) hHeld ?_
          rotate_left
          · intro w hSw; obtain ⟨s0, s1⟩ := HS0.out _ hSw; go_simp; try with_reducible rfl
          try simp only [Act.put, List.getElem_toArray, List.getElem_cons_zero, List.getElem_cons_succ, List.setIfInBounds_toArray, List.set_cons_zero, List.set_cons_succ]
          refine wpAnyH_take (i := 4) (v := ?_) rfl (by kernel_rfl) (by kernel_rfl) (by kernel_rfl) (fun _ _ _ h => h) (Or.inl ⟨by rfl, ?_⟩) hHeld ?_
          rotate_left
          · intro w hSw; obtain ⟨s0, s1⟩ := HS0.out _ hSw; go_simp; try with_reducible rfl
          try simp only [Act.put, List.getElem_toArray, List.getElem_cons_zero, List.getElem_cons_succ, List.setIfInBounds_toArray, List.set_cons_zero, List.set_cons_succ]
          refine wpAnyH_ready (rs := [5, 8]) (by kernel_rfl) (by simp) (AllReadyH.cons rfl (fun K hK => ?_) (AllReadyH.cons rfl (fun K hK => ?_) AllReadyH.nil))
          · go_simp
            refine (number_any z _ hz1 hz2).mono ?_
            rintro e v1 ⟨rfl, rfl⟩
            refine hK.out _ _ hHeld (fun hNew => ?_)
            clear hHeld hK K
            have hHeld := hNew
            clear hNew
            try simp only [Act.put, List.getElem_toArray, List.getElem_cons_zero, List.getElem_cons_succ, List.setIfInBounds_toArray, List.set_cons_zero, List.set_cons_succ]
            refine wpAnyH_take (i := 6) (v := ?_) rfl (by kernel_rfl) (by kernel_rfl) (by kernel_rfl) (fun _ _ _ h => h) (Or.inl ⟨by rfl, ?_⟩) hHeld ?_
            rotate_left
            · intro w hSw; skip; go_simp; try with_reducible rfl
            try simp only [Act.put, List.getElem_toArray, List.getElem_cons_zero, List.getElem_cons_succ, List.setIfInBounds_toArray, List.set_cons_zero, List.set_cons_succ]
            refine wpAnyH_ready (rs := [7, 8]) (by kernel_rfl) (by simp) (AllReadyH.cons rfl (fun K hK => ?_) (AllReadyH.cons rfl (fun K hK => ?_) AllReadyH.nil))
            · go_simp
              refine (shift_is _ hNX hmz' hNS).mono ?_
              rintro e v2 ⟨rfl, hB⟩
              rw [hPP, hQQ]
              replace hLI := hLI.below hB
              refine hK.out _ _ hLI.2.2.2 (fun hNew => ?_)
              clear hB
              clear hHeld hK K
              have hHeld := hNew
              clear hNew
              try simp only [Act.put, List.getElem_toArray, List.getElem_cons_zero, List.getElem_cons_succ, List.setIfInBounds_toArray, List.set_cons_zero, List.set_cons_succ]
              refine wpAnyH_ready (rs := [8]) (by kernel_rfl) (by simp) (AllReadyH.cons rfl (fun K hK => ?_) AllReadyH.nil)
              go_simp
              have G8 : lies.Lies (v2.alloc (.cells #[.int .i64 0, .int .i64 0] 36)) v2.heap.size 36 #[.int .i64 0, .int .i64 0] := lies.made v2 36 #[.int .i64 0, .int .i64 0]
              have hg : w.heap.size + 1 + 1 < v2.heap.size := lies.lt hLI.2.2.1
              replace hLI := hLI.below (bound.up1 v2 (.cells #[.int .i64 0, .int .i64 0] 36))
              refine hK.out _ _ hLI.2.2.2 (fun hNew => ?_)
              clear hHeld hK K
              have hHeld := hNew
              clear hNew
              try simp only [Act.put, List.getElem_toArray, List.getElem_cons_zero, List.getElem_cons_succ, List.setIfInBounds_toArray, List.set_cons_zero, List.set_cons_succ]
              generalize v2.heap.size = g at G8 hg ⊢
              generalize v2.alloc (.cells #[.int .i64 0, .int .i64 0] 36) = w8 at G8 hLI hHeld ⊢
              obtain ⟨x0, x1, x2, x3, x4⟩ := lies.two G8
              refine wpAnyH_ready (rs := [9]) (by kernel_rfl) (by simp) (AllReadyH.cons rfl (fun K hK => ?_) AllReadyH.nil)
              go_simp
              have G9 := lies.on_put (lies.on_put G8 0 (.int .i64 P)) 1 (.int .i64 Q)
              have L9 := (hLI.far (g := g) (by omega) 0 (.int .i64 P)).far (g := g) (by omega) 1 (.int .i64 Q)
              refine hK.out _ _ L9.2.2.2 (fun hNew => ?_)
              clear x0 x1 x2 x3 x4
              clear hHeld hK K hNew
              refine wpAnyH_done (by kernel_rfl) ?_ _
              go_wp2_with fail
              go_meet
              exact ⟨⟨rfl, rfl, rfl⟩, g, rfl, G9, L9, hg⟩
            · go_simp
              have G8 : lies.Lies (wr.drew.alloc (.cells #[.int .i64 0, .int .i64 0] 36)) wr.heap.size 36 #[.int .i64 0, .int .i64 0] := lies.made wr.drew 36 #[.int .i64 0, .int .i64 0]
              have hg : w.heap.size + 1 + 1 < wr.heap.size := lies.lt hLI.2.2.1
              replace hLI := hLI.below (bound.up1 wr.drew (.cells #[.int .i64 0, .int .i64 0] 36))
              refine hK.out _ _ hLI.2.2.2 (fun hNew => ?_)
              clear hHeld hK K
              have hHeld := hNew
              clear hNew
              try simp only [Act.put, List.getElem_toArray, List.getElem_cons_zero, List.getElem_cons_succ, List.setIfInBounds_toArray, List.set_cons_zero, List.set_cons_succ]
              refine wpAnyH_ready (rs := [7]) (by kernel_rfl) (by simp) (AllReadyH.cons rfl (fun K hK => ?_) AllReadyH.nil)
              go_simp
              refine (shift_is _ hNX hmz' hNS).mono ?_
              rintro e v2 ⟨rfl, hB⟩
              rw [hPP, hQQ]
              replace hLI := hLI.below hB
              replace G8 := lies.on_call G8 hB
              refine hK.out _ _ hLI.2.2.2 (fun hNew => ?_)
              clear hB
              clear hHeld hK K
              have hHeld := hNew
              clear hNew
              try simp only [Act.put, List.getElem_toArray, List.getElem_cons_zero, List.getElem_cons_succ, List.setIfInBounds_toArray, List.set_cons_zero, List.set_cons_succ]
              obtain ⟨x0, x1, x2, x3, x4⟩ := lies.two G8
              refine wpAnyH_ready (rs := [9]) (by kernel_rfl) (by simp) (AllReadyH.cons rfl (fun K hK => ?_) AllReadyH.nil)
              go_simp
              have G9 := lies.on_put (lies.on_put G8 0 (.int .i64 P)) 1 (.int .i64 Q)
              have L9 := (hLI.far (g := wr.heap.size) (by omega) 0 (.int .i64 P)).far (g := wr.heap.size) (by omega) 1 (.int .i64 Q)
              refine hK.out _ _ L9.2.2.2 (fun hNew => ?_)
              clear x0 x1 x2 x3 x4
              clear hHeld hK K hNew
              refine wpAnyH_done (by kernel_rfl) ?_ _
              go_wp2_with fail
              go_meet
              exact ⟨⟨rfl, rfl, rfl⟩, wr.heap.size, rfl, G9, L9, hg⟩
          · go_simp
            have G8 : lies.Lies (wr.drew.alloc (.cells #[.int .i64 0, .int .i64 0] 36)) wr.heap.size 36 #[.int .i64 0, .int .i64 0] := lies.made wr.drew 36 #[.int .i64 0, .int .i64 0]
            have hg : w.heap.size + 1 + 1 < wr.heap.size := lies.lt hLI.2.2.1
            replace hLI := hLI.below (bound.up1 wr.drew (.cells #[.int .i64 0, .int .i64 0] 36))
            refine hK.out _ _ hLI.2.2.2 (fun hNew => ?_)
            clear hHeld hK K
            have hHeld := hNew
            clear hNew
            try simp only [Act.put, List.getElem_toArray, List.getElem_cons_zero, List.getElem_cons_succ, List.setIfInBounds_toArray, List.set_cons_zero, List.set_cons_succ]
            refine wpAnyH_ready (rs := [5]) (by kernel_rfl) (by simp) (AllReadyH.cons rfl (fun K hK => ?_) AllReadyH.nil)
            go_simp
            refine (number_any z _ hz1 hz2).mono ?_
            rintro e v1 ⟨rfl, rfl⟩
            refine hK.out _ _ hHeld (fun hNew => ?_)
            clear hHeld hK K
            have hHeld := hNew
            clear hNew
            try simp only [Act.put, List.getElem_toArray, List.getElem_cons_zero, List.getElem_cons_succ, List.setIfInBounds_toArray, List.set_cons_zero, List.set_cons_succ]
            refine wpAnyH_take (i := 6) (v := ?_) rfl (by kernel_rfl) (by kernel_rfl) (by kernel_rfl) (fun _ _ _ h => h) (Or.inl ⟨by rfl, ?_⟩) hHeld ?_
            rotate_left
            · intro w hSw; skip; go_simp; try with_reducible rfl
            try simp only [Act.put, List.getElem_toArray, List.getElem_cons_zero, List.getElem_cons_succ, List.setIfInBounds_toArray, List.set_cons_zero, List.set_cons_succ]
            refine wpAnyH_ready (rs := [7]) (by kernel_rfl) (by simp) (AllReadyH.cons rfl (fun K hK => ?_) AllReadyH.nil)
            go_simp
            refine (shift_is _ hNX hmz' hNS).mono ?_
            rintro e v2 ⟨rfl, hB⟩
            rw [hPP, hQQ]
            replace hLI := hLI.below hB
            replace G8 := lies.on_call G8 hB
            refine hK.out _ _ hLI.2.2.2 (fun hNew => ?_)
            clear hB
            clear hHeld hK K
            have hHeld := hNew
            clear hNew
            try simp only [Act.put, List.getElem_toArray, List.getElem_cons_zero, List.getElem_cons_succ, List.setIfInBounds_toArray, List.set_cons_zero, List.set_cons_succ]
            obtain ⟨x0, x1, x2, x3, x4⟩ := lies.two G8
            refine wpAnyH_ready (rs := [9]) (by kernel_rfl) (by simp) (AllReadyH.cons rfl (fun K hK => ?_) AllReadyH.nil)
            go_simp
            have G9 := lies.on_put (lies.on_put G8 0 (.int .i64 P)) 1 (.int .i64 Q)
            have L9 := (hLI.far (g := wr.heap.size) (by omega) 0 (.int .i64 P)).far (g := wr.heap.size) (by omega) 1 (.int .i64 Q)
            refine hK.out _ _ L9.2.2.2 (fun hNew => ?_)
            clear x0 x1 x2 x3 x4
            clear hHeld hK K hNew
            refine wpAnyH_done (by kernel_rfl) ?_ _
            go_wp2_with fail
            go_meet
            exact ⟨⟨rfl, rfl, rfl⟩, wr.heap.size, rfl, G9, L9, hg⟩
        case rest =>
          obtain ⟨⟨e64, e65, e66⟩, g, rfl, hG, hLI, hg⟩ := hcut
          subst e64 e65 e66
          clear hLI'
          obtain ⟨x0, x1, x2, x3, x4⟩ := lies.two hG
          obtain ⟨y0, y1, y2, y3, y4⟩ := lies.two hLI.2.2.1
          go_wp2_with fail
          clear x0 x1 x2 x3 x4 y0 y1 y2 y3 y4
          refine (HCMP.out _).mono ?_
          rintro e w3 ⟨rfl, hB⟩
          replace hG := lies.on_call hG hB
          replace hLI := hLI.below hB
          clear hB
          obtain ⟨x0, x1, x2, x3, x4⟩ := lies.two hG
          obtain ⟨y0, y1, y2, y3, y4⟩ := lies.two hLI.2.2.1
          have hput := hLI.put P Q
          obtain ⟨hc1, hc2, hc3⟩ := HC.out
          generalize hXX : X j + 8 * -(z / 2) = XX at hc2 HCMP ⊢
          cases eo with
          | none =>
            have hTv := HTT.out
            simp only [lowT, Prod.mk.injEq] at hTv
            obtain ⟨e1, e2, e3, e4⟩ := hTv
            subst e1 e2 e3 e4
            have HP := Lib.hid hput
            have HC3 := Lib.hid hc3
            have HC1 := Lib.hid hc1
            clear hput hc1 hc2 hc3 HC HCMP HYY HYA HTT HNJ
            generalize cmp0 XX Y = cc
            go_wp2_with fail
            refine (strict_any z _).mono ?_
            rintro e w4 ⟨rfl, rfl⟩
            go_wp2_with fail
            go_roundw
            case rel => exact ⟨j + 1, P, Q, true, bS z, by omega, by go_num, rfl, by simp, by rw [HUP.out, HC1.out]; exact HC3.out, HP.out⟩
            case measure => simp [intOf]; omega
          | some a =>
            have hTv := HTT.out
            simp only [lowT, Prod.mk.injEq] at hTv
            obtain ⟨e1, e2, e3, e4⟩ := hTv
            have hYv := HYY.out
            simp only [lowY] at hYv
            have hmin : lowT (endC (-1) X (fun j => cod (ts[j * n + i]?.getD 0)) (j + 1)) = lowT (some (min a bc)) := by
              rw [HUP.out, hc1]
              rfl
            have HMIN := Lib.hid hmin
            have HP := Lib.hid hput
            have HC3 := Lib.hid hc3
            rcases cmp0_cases XX Y with ⟨hlt, hcv⟩ | ⟨hlt, hcv⟩ | ⟨heq, hcv⟩
            · have hm : min a bc = bc := by omega
              have HMM := Lib.hid hm
              have e1' := e1
              subst e1
              rw [hcv]
              clear hput hc1 hc2 hc3 HC HCMP HYY HYA HTT HNJ hmin hlt hcv hm e2 e3 e4 hYv hXX e1'
              go_wp2_with fail
              refine (strict_any z _).mono ?_
              rintro e w4 ⟨rfl, rfl⟩
              go_wp2_with fail
              go_roundw
              case rel => exact ⟨j + 1, P, Q, true, bS z, by omega, by go_num, rfl, by simp, by rw [HMIN.out, HMM.out]; exact HC3.out, HP.out⟩
              case measure => simp [intOf]; omega
            · have hm : min a bc = a := by omega
              have hTa : lowT (some a) = (is, A, B, st) := HTT.out
              have HMM := Lib.hid hm
              have HTA := Lib.hid hTa
              subst e1
              rw [hcv]
              clear hput hc1 hc2 hc3 HC HCMP HYY HYA HTT HNJ hmin hlt hcv hm e2 e3 e4 hYv hXX hTa HP
              go_wp2_with fail
              go_roundw
              case rel => exact ⟨j + 1, A, B, true, st, by omega, by go_num, rfl, rfl, by rw [HMIN.out, HMM.out]; exact HTA.out, hLI⟩
              case measure => simp [intOf]; omega
            · have hab : a / 2 = bc / 2 := by omega
              have hm2 : min a bc / 2 = a / 2 := by omega
              have hbq : bS z = decide (bc % 2 = 0) := by
                have := hc3
                simp only [lowT, Prod.mk.injEq] at this
                exact this.2.2.2.symm
              have hTm : lowT (some (min a bc)) = (true, A, B, (st || bS z)) := by
                show (true, p8 (-1 * (min a bc / 2)), q8 (-1 * (min a bc / 2)), decide (min a bc % 2 = 0)) = _
                rw [hm2, e2, e3, hbq, ← e4]
                have : decide (min a bc % 2 = 0) = (decide (a % 2 = 0) || decide (bc % 2 = 0)) := by
                  by_cases p : a % 2 = 0 <;> by_cases q : bc % 2 = 0 <;> simp [p, q] <;> omega
                rw [this]
              have HTM := Lib.hid hTm
              subst e1
              rw [hcv]
              clear hput hc1 hc2 hc3 HC HCMP HYY HYA HTT HNJ hmin heq hcv e2 e3 e4 hYv hXX hab hm2 hbq hTm HP
              cases st with
              | true =>
                go_wp2_with fail
                go_roundw
                case rel => exact ⟨j + 1, A, B, true, true, by omega, by go_num, rfl, rfl, by rw [HMIN.out]; exact HTM.out, hLI⟩
                case measure => simp [intOf]; omega
              | false =>
                go_wp2_with fail
                refine (strict_any z _).mono ?_
                rintro e w4 ⟨rfl, rfl⟩
                go_wp2_with fail
                go_roundw
                case rel => exact ⟨j + 1, A, B, true, bS z, by omega, by go_num, rfl, by simp, by rw [HMIN.out]; exact HTM.out, hLI⟩
                case measure => simp [intOf]; omega
    · obtain rfl : j = i := by omega
      obtain ⟨hz1, hz2, hz3, hz4⟩ := HZ.out
      rw [hT] at hz1 hz2 hz3 hz4
      dsimp only at hz1 hz2 hz3 hz4
      subst hz1 hz2 hz3 hz4
      clear HZ hT HNE HR HL HRR HRS HPR HFI
      go_wp2_with fail
      have L0 : LI n b off cap A B w wr.drew := hLI'.below (dbm.drawn1 (Below.refl _ _))
      refine wp_region_held_drew (S := fun W => W.cell? ⟨w.heap.size + 1 + 1, 0, none⟩ = some (.int .i64 A) ∧ W.cell? ⟨w.heap.size + 1 + 1, 1, none⟩ = some (.int .i64 B)) (by kernel_rfl) (lies.pair L0.2.2.1) (fun hHeld => ?_)
      refine wpAnyH_take (i := 0) (v := ?_) rfl (by kernel_rfl) (by kernel_rfl) (by kernel_rfl) (fun _ _ _ h => h) (Or.inl ⟨by rfl, ?_⟩) hHeld ?_
      rotate_left
      · intro w hSw; obtain ⟨s0, s1⟩ := hSw; go_simp; try with_reducible rfl
      try simp only [Act.put, List.getElem_toArray, List.getElem_cons_zero, List.getElem_cons_succ, List.setIfInBounds_toArray, List.set_cons_zero, List.set_cons_succ]
      refine wpAnyH_take (i := 1) (v := ?_) rfl (by kernel_rfl) (by kernel_rfl) (by kernel_rfl) (fun _ _ _ h => h) (Or.inl ⟨by rfl, ?_⟩) hHeld ?_
      rotate_left
      · intro w hSw; obtain ⟨s0, s1⟩ := hSw; go_simp; try with_reducible rfl
      try simp only [Act.put, List.getElem_toArray, List.getElem_cons_zero, List.getElem_cons_succ, List.setIfInBounds_toArray, List.set_cons_zero, List.set_cons_succ]
      refine wpAnyH_take (i := 2) (v := ?_) rfl (by kernel_rfl) (by kernel_rfl) (by kernel_rfl) (fun _ _ _ h => h) (Or.inl ⟨by rfl, ?_⟩) hHeld ?_
      rotate_left
      · intro w hSw; obtain ⟨s0, s1⟩ := hSw; go_simp; try with_reducible rfl
      try simp only [Act.put, List.getElem_toArray, List.getElem_cons_zero, List.getElem_cons_succ, List.setIfInBounds_toArray, List.set_cons_zero, List.set_cons_succ]
      refine wpAnyH_take (i := 3) (v := ?_) rfl (by kernel_rfl) (by kernel_rfl) (by kernel_rfl) (fun _ _ _ h => h) (Or.inl ⟨by rfl, ?_⟩) hHeld ?_
      rotate_left
      · intro w hSw; obtain ⟨s0, s1⟩ := hSw; go_simp; try with_reducible rfl
      try simp only [Act.put, List.getElem_toArray, List.getElem_cons_zero, List.getElem_cons_succ, List.setIfInBounds_toArray, List.set_cons_zero, List.set_cons_succ]
      obtain ⟨x0, x1, x2, x3, x4⟩ := lies.two hLI'.2.1
      refine wpAnyH_ready (rs := [4]) (by kernel_rfl) (by simp) (AllReadyH.cons rfl (fun K hK => ?_) AllReadyH.nil)
      go_simp
      have G2 := lies.on_far (lies.on_far L0.2.2.1 (b := w.heap.size + 1) 0 (by omega) (.int .i64 A)) (b := w.heap.size + 1) 1 (by omega) (.int .i64 B)
      have G1 := lies.on_put (lies.on_put L0.2.1 0 (.int .i64 A)) 1 (.int .i64 B)
      have GB := (L0.2.2.2.setCell (p := ⟨w.heap.size + 1, 0, none⟩) (by dsimp only; omega) (.int .i64 A)).setCell (p := ⟨w.heap.size + 1, 1, none⟩) (by dsimp only; omega) (.int .i64 B)
      refine hK.out _ _ (lies.pair G2) (fun hNew => ?_)
      clear x0 x1 x2 x3 x4
      clear hHeld hK K
      have hHeld := hNew
      clear hNew
      try simp only [Act.put, List.getElem_toArray, List.getElem_cons_zero, List.getElem_cons_succ, List.setIfInBounds_toArray, List.set_cons_zero, List.set_cons_succ]
      refine wpAnyH_take (i := 5) (v := ?_) rfl (by kernel_rfl) (by kernel_rfl) (by kernel_rfl) (fun _ _ _ h => h) (Or.inl ⟨by rfl, ?_⟩) hHeld ?_
      rotate_left
      · intro w hSw; skip; go_simp; try with_reducible rfl
      try simp only [Act.put, List.getElem_toArray, List.getElem_cons_zero, List.getElem_cons_succ, List.setIfInBounds_toArray, List.set_cons_zero, List.set_cons_succ]
      refine wpAnyH_done (by kernel_rfl) ?_ _
      replace G1 : lies.Lies ((wr.drew.setCell ⟨w.heap.size + 1, 0, none⟩ (.int .i64 A)).setCell ⟨w.heap.size + 1, 1, none⟩ (.int .i64 B)) (w.heap.size + 1) 36 #[.int .i64 A, .int .i64 B] := G1
      clear G1
      go_wp2_with fail
      obtain ⟨c0, c1, c2, c3, c4⟩ := lies.two hLI'.2.1
      exact bodyPost_ret (v := .tuple #[.bool is, .agg #[.int .i64 (A), .int .i64 (B)], .bool st]) (by simp [results, Try.results86, go_sem, c0, c1]) rfl ⟨GB, rfl⟩
end Go.Proofs.Ytnbpcgkdnkihdaa.iref
