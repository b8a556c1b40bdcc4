/-
  Zones of matrices: what Of of package zone answers; each theorem names its conditions.
-/
import Derived.Test.YtklejbheieceeaaGreatDoorZoneB
namespace Go.Proofs.YtklejbheieceeaaGreatDoor.zone
open Go.Joins Go.ChangeShapes Go.WideShapes Go.ChangeAt Go.RowKit num rat dbm Go.Proofs.YtklejbheieceeaaGreatDoor.tight Go.Proofs.YtklejbheieceeaaGreatDoor.incl Go.Proofs.YtklejbheieceeaaGreatDoor.plaw Go.Proofs.YtklejbheieceeaaGreatDoor.zopen
open bound hiding up
set_option linter.unusedVariables false
set_option linter.unusedSimpArgs false

/-! Of -/
/-- what the walk wants of a block of six cells. -/
theorem six_cells {W : World} {g : Nat} {t : TypeId} {a b c d e f : Value} (h : lies.Lies W g t #[a, b, c, d, e, f]) : (W.cell? ⟨g, 0, none⟩ = some a ∧ W.cell? ⟨g, 1, none⟩ = some b ∧ W.cell? ⟨g, 2, none⟩ = some c ∧ W.cell? ⟨g, 3, none⟩ = some d ∧ W.cell? ⟨g, 4, none⟩ = some e ∧ W.cell? ⟨g, 5, none⟩ = some f) ∧
    (W.frozen? ⟨g, 0, none⟩ = false ∧ W.frozen? ⟨g, 1, none⟩ = false ∧ W.frozen? ⟨g, 2, none⟩ = false ∧ W.frozen? ⟨g, 3, none⟩ = false ∧ W.frozen? ⟨g, 4, none⟩ = false ∧ W.frozen? ⟨g, 5, none⟩ = false) ∧ g < W.heap.size :=
  ⟨⟨lies.cell h 0, lies.cell h 1, lies.cell h 2, lies.cell h 3, lies.cell h 4, lies.cell h 5⟩, ⟨lies.free h 0, lies.free h 1, lies.free h 2, lies.free h 3, lies.free h 4, lies.free h 5⟩, lies.lt h⟩
/-- six cells of a block of one's own are turned. -/
theorem put_six {B g : Nat} {w W : World} (h : Below B w W) (hB : B ≤ g) (a b c d e f : Value) : Below B w ((((((W.setCell ⟨g, 0, none⟩ a).setCell ⟨g, 1, none⟩ b).setCell ⟨g, 2, none⟩ c).setCell ⟨g, 3, none⟩ d).setCell ⟨g, 4, none⟩ e).setCell ⟨g, 5, none⟩ f) :=
  (((((h.setCell (p := ⟨g, 0, none⟩) hB _).setCell (p := ⟨g, 1, none⟩) hB _).setCell (p := ⟨g, 2, none⟩) hB _).setCell (p := ⟨g, 3, none⟩) hB _).setCell (p := ⟨g, 4, none⟩) hB _).setCell (p := ⟨g, 5, none⟩) hB _
def zero6 : List Int := [0, 0, 0, 0, 0, 0]
/-- what Of answers. -/
def OfR (n : Int) (ts z : List Int) (f : Int) : Prop := (¬ MayD n ts ∧ z = zero6 ∧ f = 8) ∨ (MayD n ts ∧ n ≠ 3 ∧ z = zero6 ∧ f = 40) ∨ (MayD n ts ∧ n = 3 ∧ ¬ OkD 3 ts ∧ z = zero6 ∧ f = 6) ∨ (n = 3 ∧ OkD 3 ts ∧ ¬ MayD 3 (clT 3 ts) ∧ z = zero6 ∧ f = 8) ∨ (n = 3 ∧ OkD 3 ts ∧ MayD 3 (clT 3 ts) ∧ z = shortT (clT 3 ts) ∧ f = 0)
/-- .. as a call's answer. -/
def Ofs (n : Int) (ts : List Int) (w : World) (e : Ending) (w' : World) : Prop := Below w.heap.size w w' ∧ ∃ z0 z1 z2 z3 z4 z5 f, e = .returned (.tuple #[.agg #[.int .i64 z0, .int .i64 z1, .int .i64 z2, .int .i64 z3, .int .i64 z4, .int .i64 z5], .int .i64 f]) ∧ OfR n ts [z0, z1, z2, z3, z4, z5] f
/-- what Close answers of what may be. -/
theorem ans_two {n : Int} {ts : List Int} {na : Int} {us : List Int} {f : Int} (h : Ans n ts na us f) (hm : MayD n ts) : (¬ OkD n ts ∧ na = 0 ∧ us = [] ∧ f = 6) ∨ (OkD n ts ∧ na = n ∧ RowKit.Hid (us = clT n ts) ∧ us.length = ts.length ∧ Tops ts = Tops ts ∧ f = 0) := by
  rcases h with ⟨h, e1, e2, e3⟩ | ⟨h, e1, e2, e3⟩
  · rw [if_pos hm] at e3
    exact .inl ⟨h, e1, e2, e3⟩
  · exact .inr ⟨h, e1, Lib.hid e2, by rw [e2]; exact clT_length h, rfl, e3⟩
/-- a matrix' bounds, as far as a place. -/
def partS (us : List Int) : Nat → List Int
  | 0 => [0, 0, 0, 0, 0, 0]
  | p + 1 => (partS us p).set p (us[plc p]?.getD 0)
theorem partS_length (us : List Int) : ∀ p, (partS us p).length = 6
  | 0 => rfl
  | p + 1 => by unfold partS; rw [List.length_set]; exact partS_length us p
theorem partS_six (us : List Int) : partS us 6 = shortT us := rfl
theorem shortT_is (us : List Int) : ∃ a b c d e f, shortT us = [a, b, c, d, e, f] := ⟨_, _, _, _, _, _, rfl⟩
/-- what lies in the round of Of. -/
def Ox (g ca T Z : Nat) (us vs : List Int) (w W : World) : Prop :=
  lies.Lies W (w.heap.size + 1) 24 #[.int .i64 0, .int .i64 0, .int .i64 0, .int .i64 0, .int .i64 0, .int .i64 0] ∧ lies.Lies W T 27 #[.int .i64 3, .slice (some ⟨g, 0, none⟩) 9 ca] ∧ lies.Lies W g 22 (cellsOf us) ∧ lies.Lies W Z 24 (cellsOf vs) ∧ Below w.heap.size w W ∧ Pl W
theorem Ox.below {g ca T Z : Nat} {us vs : List Int} {w W X : World} (h : Ox g ca T Z us vs w W) (k : Below W.heap.size W X) : Ox g ca T Z us vs w X :=
  ⟨lies.on_call h.1 k, lies.on_call h.2.1 k, lies.on_call h.2.2.1 k, lies.on_call h.2.2.2.1 k, h.2.2.2.2.1.trans (k.mono h.2.2.2.2.1.size), h.2.2.2.2.2.on k⟩

set_option maxRecDepth 100000 in
set_option maxHeartbeats 8000000 in
theorem of_any (n : Int) (sv : Value) (ts : List Int) (w : World) (hP : Pl w) (hI : law.Ints w.heap.size w sv ts) (hm : ts.length ≤ 1000000) (htop : Tops ts) :
    Calls Tryz.prog 6 #[.agg #[.int .i64 n, sv]] w (Ofs n ts w) := by
  have DB := bound.up2 w (.cells #[.int .i64 n, sv] 27) (.cells #[.int .i64 0, .int .i64 0, .int .i64 0, .int .i64 0, .int .i64 0, .int .i64 0] 24)
  have D0 := lies.on_alloc (lies.made w 27 #[.int .i64 n, sv]) (.cells #[.int .i64 0, .int .i64 0, .int .i64 0, .int .i64 0, .int .i64 0, .int .i64 0] 24)
  have D1 := lies.made_at (w.alloc (.cells #[.int .i64 n, sv] 27)) 24 #[.int .i64 0, .int .i64 0, .int .i64 0, .int .i64 0, .int .i64 0, .int .i64 0] (w.heap.size + 1) (by simp)
  have P0 := hP.on DB
  have HI := Lib.hid hI
  have HT := Lib.hid htop
  have HP := Lib.hid hP
  obtain ⟨ad, cap, rfl⟩ := ints_len hI
  clear hI htop hP
  go_enter Tryz.func6, Tryz.ntmps6
  obtain ⟨x0, x1, x2, x3, x4⟩ := lies.two D0
  go_wp2_with fail
  clear x0 x1 x2 x3 x4
  generalize (w.alloc (.cells #[.int .i64 n, .slice ad ts.length cap] 27)).alloc (.cells #[.int .i64 0, .int .i64 0, .int .i64 0, .int .i64 0, .int .i64 0, .int .i64 0] 24) = w0 at DB D0 D1 P0 ⊢
  by_cases h : MayD n ts
  · refine (check_ok n _ ts _ ((HI.out.below DB).mono DB.size) HT.out h).mono ?_
    rintro e w1 ⟨rfl, hB⟩
    replace D0 := lies.on_call D0 hB
    replace D1 := lies.on_call D1 hB
    replace P0 := P0.on hB
    replace DB := later DB hB
    have H := Lib.hid h
    clear hB h
    obtain ⟨x0, x1, x2, x3, x4⟩ := lies.two D0
    by_cases h3 : n = 3
    · subst h3
      go_wp2_with fail
      clear x0 x1 x2 x3 x4
      refine (close_g 3 _ ts _ ((HI.out.below DB).mono DB.size) hm HT.out).mono ?_
      rintro e w2 ⟨hB, na, aa, la, ca, us, f, rfl, hA, hK⟩
      have hwl := lies.lt D1
      replace D1 := lies.on_call D1 hB
      replace P0 := P0.on hB
      replace DB := later DB hB
      rcases ans_two hA H.out with ⟨hno, rfl, e2, rfl⟩ | ⟨hok, rfl, hu, hln, _, rfl⟩
      · have HN := Lib.hid hno
        clear hno hB hK D0 P0 e2 hA
        obtain ⟨⟨x0, x1, x2, x3, x4, x5⟩, ⟨y0, y1, y2, y3, y4, y5⟩, xl⟩ := six_cells D1
        clear D1
        go_wp2_with fail
        exact bodyPost_ret (v := .tuple #[.agg #[.int .i64 0, .int .i64 0, .int .i64 0, .int .i64 0, .int .i64 0, .int .i64 0], .int .i64 6]) (by simp [results, Tryz.results6, go_sem, x0, x1, x2, x3, x4, x5, xl]) rfl ⟨lies.frame_up (put_six DB (Nat.le_succ _) _ _ _ _ _ _) _, 0, 0, 0, 0, 0, 0, 6, rfl, .inr (.inr (.inl ⟨H.out, rfl, HN.out, rfl, rfl⟩))⟩
      · obtain ⟨g, rfl, rfl, hgw, hG⟩ : ∃ g, aa = some ⟨g, 0, none⟩ ∧ la = 9 ∧ w.heap.size + 1 < g ∧ lies.Lies w2 g 22 (cellsOf us) := by
          have hl9 : us.length = 9 := by
            obtain ⟨m, hm3, _, _, hl⟩ := may_nat H.out
            obtain rfl : m = 3 := by omega
            exact hln.trans hl
          rcases hK with ⟨_, _, _, k⟩ | ⟨g, h1, h2, h3, h4⟩
          · rw [k] at hl9; simp at hl9
          · exact ⟨g, h2, h3.trans hl9, Nat.lt_of_lt_of_le hwl h1, h4⟩
        have HU := hu
        have HO := Lib.hid hok
        have hl9 : us.length = 9 := by
          obtain ⟨m, hm3, _, _, hl⟩ := may_nat H.out
          obtain rfl : m = 3 := by omega
          exact hln.trans hl
        have HTU := Lib.hid (show Tops us by rw [hu.out]; exact clT_tops HT.out)
        have HP2 := P0
        have hgT : g ≠ w2.heap.size := by have := lies.lt hG; omega
        have L2 := D1
        clear D0 hK hA hok hln
        have hle := lies.lt D1
        go_wp2_with fail
        have E1 := lies.on_alloc D1 (.cells #[.int .i64 3, .slice (some ⟨g, 0, none⟩) 9 ca] 27)
        have ET := lies.made w2 27 #[.int .i64 3, .slice (some ⟨g, 0, none⟩) 9 ca]
        have EG := lies.on_alloc hG (.cells #[.int .i64 3, .slice (some ⟨g, 0, none⟩) 9 ca] 27)
        have EB := lies.frame_up DB (.cells #[.int .i64 3, .slice (some ⟨g, 0, none⟩) 9 ca] 27)
        have EP := P0.on (bound.up1 w2 (.cells #[.int .i64 3, .slice (some ⟨g, 0, none⟩) 9 ca] 27))
        clear D1 hG DB P0 hB HP2 L2
        generalize w2.heap.size = T at ET hgT hle ⊢
        generalize w2.alloc (.cells #[.int .i64 3, .slice (some ⟨g, 0, none⟩) 9 ca] 27) = w3 at E1 ET EG EB EP ⊢
        have hIu : law.Ints w3.heap.size w3 (.slice (some ⟨g, 0, none⟩) 9 ca) us := by
          have := dlaw.own_ints (cap := ca) EG
          rwa [hl9] at this
        have HL9 := Lib.hid hl9
        by_cases hmu : MayD 3 us
        · refine (check_ok 3 _ us _ hIu HTU.out hmu).mono ?_
          rintro e w4 ⟨rfl, hB⟩
          replace E1 := lies.on_call E1 hB
          replace ET := lies.on_call ET hB
          replace EG := lies.on_call EG hB
          replace EP := EP.on hB
          replace EB := later EB hB
          have HMU := Lib.hid hmu
          clear hB hIu hmu hl9 hu
          have h1Z := lies.lt E1
          have hTZ := lies.lt ET
          have hgZ := lies.lt EG
          have hwZ := EB.size
          go_wp2_with fail
          have W0 : Ox g ca T w4.heap.size us (partS us 0) w (w4.alloc (.cells #[.int .i64 0, .int .i64 0, .int .i64 0, .int .i64 0, .int .i64 0, .int .i64 0] 24)) :=
            ⟨lies.on_alloc E1 _, lies.on_alloc ET _, lies.on_alloc EG _, lies.made _ _ _, lies.frame_up EB _, EP.on (bound.up1 w4 _)⟩
          clear E1 ET EG EB EP
          generalize w4.heap.size = Z at W0 h1Z hTZ hgZ hwZ ⊢
          generalize w4.alloc (.cells #[.int .i64 0, .int .i64 0, .int .i64 0, .int .i64 0, .int .i64 0, .int .i64 0] 24) = w5 at W0 ⊢
          go_loopw [35] (fun i wr => ∃ p : Nat, p ≤ 6 ∧ i = .int .i64 p ∧ Ox g ca T Z us (partS us p) w wr) (fun i _ => 6 - (intOf i).toNat)
          case atStart => exact ⟨0, Nat.zero_le _, rfl, W0⟩
          case round =>
            clear W0
            obtain ⟨p, hp, rfl, hA⟩ := hrel
            by_cases hp6 : p < 6
            · have HX := Lib.hid (show partS us (p + 1) = (partS us p).set p (us[plc p]?.getD 0) from rfl)
              have hln := partS_length us p
              have hq9 := plc_lt hp6
              have HC := Lib.hid (fun (W : World) (h : Pl W) => pl_cell h hp6)
              have HD := Lib.hid (fun (W : World) (h : lies.Lies W g 22 (cellsOf us)) => (lies.cell h (plc p)).trans (cells_at us (plc p) (by rw [HL9.out]; exact hq9)))
              generalize partS us p = vs at hA hln HX
              generalize us[plc p]?.getD 0 = x at HX HD
              generalize plc p = q at HX hq9 HC HD
              have HLN := Lib.hid hln
              have hqi : (q : Int) < 9 := by omega
              have hpi : (p : Int) < 6 := by omega
              clear hln
              go_wp2_with fail
              have S0 : ∀ (vs : List Int) W, Ox g ca T Z us vs w W → W.cell? ⟨T, 1, none⟩ = some (.slice (some ⟨g, 0, none⟩) 9 ca) ∧ W.cell? ⟨0, p, none⟩ = some (.int .i64 q) ∧ W.cell? ⟨g, q, none⟩ = some (.int .i64 x) := fun vs W hW => ⟨(lies.pair hW.2.1).2, HC.out W hW.2.2.2.2.2, HD.out W hW.2.2.1⟩
              have A3 := hA.below (dbm.drawn1 (Below.refl wr.heap.size wr))
              have HS0 := Lib.hid S0
              have hs3 := S0 _ _ A3
              have h00 := hA.2.2.2.2.2.1
              clear S0
              refine wp_region_held_drew (S := fun W => W.cell? ⟨T, 1, none⟩ = some (.slice (some ⟨g, 0, none⟩) 9 ca) ∧ W.cell? ⟨0, p, none⟩ = some (.int .i64 q) ∧ W.cell? ⟨g, q, none⟩ = some (.int .i64 x)) (by kernel_rfl) hs3 (fun hHeld => ?_)
              clear hs3
              refine wpAnyH_take (i := 0) (v := ?_) rfl (by kernel_rfl) (by kernel_rfl) (by kernel_rfl) (fun _ _ _ h => h) (Or.inl ⟨by rfl, ?_⟩) hHeld ?_
              rotate_left
              · intro w hSw; obtain ⟨s1, s2, s3⟩ := hSw; go_simp; try with_reducible rfl
              try simp only [Act.put, List.getElem_toArray, List.getElem_cons_zero, List.getElem_cons_succ, List.setIfInBounds_toArray, List.set_cons_zero, List.set_cons_succ]
              refine wpAnyH_take (i := 1) (v := ?_) rfl (by kernel_rfl) (by kernel_rfl) (by kernel_rfl) (fun _ _ _ h => h) (Or.inl ⟨by rfl, ?_⟩) hHeld ?_
              rotate_left
              · intro w hSw; obtain ⟨s1, s2, s3⟩ := hSw; go_simp; try with_reducible rfl
              try simp only [Act.put, List.getElem_toArray, List.getElem_cons_zero, List.getElem_cons_succ, List.setIfInBounds_toArray, List.set_cons_zero, List.set_cons_succ]
              refine wpAnyH_take (i := 2) (v := ?_) rfl (by kernel_rfl) (by kernel_rfl) (by kernel_rfl) (fun _ _ _ h => h) (Or.inl ⟨by rfl, ?_⟩) hHeld ?_
              rotate_left
              · intro w hSw; obtain ⟨s1, s2, s3⟩ := hSw; go_simp; try with_reducible rfl
              try simp only [Act.put, List.getElem_toArray, List.getElem_cons_zero, List.getElem_cons_succ, List.setIfInBounds_toArray, List.set_cons_zero, List.set_cons_succ]
              refine wpAnyH_take (i := 3) (v := ?_) rfl (by kernel_rfl) (by kernel_rfl) (by kernel_rfl) (fun _ _ _ h => h) (Or.inl ⟨by rfl, ?_⟩) hHeld ?_
              rotate_left
              · intro w hSw; obtain ⟨s1, s2, s3⟩ := hSw; go_simp; try with_reducible rfl
              try simp only [Act.put, List.getElem_toArray, List.getElem_cons_zero, List.getElem_cons_succ, List.setIfInBounds_toArray, List.set_cons_zero, List.set_cons_succ]
              refine wpAnyH_take (i := 4) (v := ?_) rfl (by kernel_rfl) (by kernel_rfl) (by kernel_rfl) (fun _ _ _ h => h) (Or.inl ⟨by rfl, ?_⟩) hHeld ?_
              rotate_left
              · intro w hSw; obtain ⟨s1, s2, s3⟩ := hSw; go_simp; try with_reducible rfl
              try simp only [Act.put, List.getElem_toArray, List.getElem_cons_zero, List.getElem_cons_succ, List.setIfInBounds_toArray, List.set_cons_zero, List.set_cons_succ]
              refine wpAnyH_take (i := 5) (v := ?_) rfl (by kernel_rfl) (by kernel_rfl) (by kernel_rfl) (fun _ _ _ h => h) (Or.inl ⟨by rfl, ?_⟩) hHeld ?_
              rotate_left
              · intro w hSw; obtain ⟨s1, s2, s3⟩ := hSw; go_simp; try with_reducible rfl
              try simp only [Act.put, List.getElem_toArray, List.getElem_cons_zero, List.getElem_cons_succ, List.setIfInBounds_toArray, List.set_cons_zero, List.set_cons_succ]
              refine wpAnyH_take (i := 6) (v := ?_) rfl (by kernel_rfl) (by kernel_rfl) (by kernel_rfl) (fun _ _ _ h => h) (Or.inl ⟨by rfl, ?_⟩) hHeld ?_
              rotate_left
              · intro w hSw; obtain ⟨s1, s2, s3⟩ := hSw; go_simp; try with_reducible rfl
              try simp only [Act.put, List.getElem_toArray, List.getElem_cons_zero, List.getElem_cons_succ, List.setIfInBounds_toArray, List.set_cons_zero, List.set_cons_succ]
              refine wpAnyH_take (i := 7) (v := ?_) rfl (by kernel_rfl) (by kernel_rfl) (by kernel_rfl) (fun _ _ _ h => h) (Or.inl ⟨by rfl, ?_⟩) hHeld ?_
              rotate_left
              · intro w hSw; obtain ⟨s1, s2, s3⟩ := hSw; go_simp; try with_reducible rfl
              try simp only [Act.put, List.getElem_toArray, List.getElem_cons_zero, List.getElem_cons_succ, List.setIfInBounds_toArray, List.set_cons_zero, List.set_cons_succ]
              refine wpAnyH_take (i := 8) (v := ?_) rfl (by kernel_rfl) (by kernel_rfl) (by kernel_rfl) (fun _ _ _ h => h) (Or.inl ⟨by rfl, ?_⟩) hHeld ?_
              rotate_left
              · intro w hSw; obtain ⟨s1, s2, s3⟩ := hSw; go_simp; try with_reducible rfl
              try simp only [Act.put, List.getElem_toArray, List.getElem_cons_zero, List.getElem_cons_succ, List.setIfInBounds_toArray, List.set_cons_zero, List.set_cons_succ]
              have hcell := (lies.cell hA.2.2.2.1 p).trans (cells_at vs p (by rw [HLN.out]; exact hp6))
              have hfree := lies.free hA.2.2.2.1 p
              refine wpAnyH_ready (rs := [9]) (by kernel_rfl) (by simp) (AllReadyH.cons rfl (fun K hK => ?_) AllReadyH.nil)
              go_simp
              have A4 : Ox g ca T Z us (vs.set p x) w (wr.setCell ⟨Z, p, none⟩ (.int .i64 x)).drew := by
                have Pt := lies.on_put hA.2.2.2.1 p (.int .i64 x)
                rw [cells_set] at Pt
                have D := fun {bb : Nat} {t : TypeId} {cs : Array Value} (h : lies.Lies wr bb t cs) (hne : bb ≠ Z) => lies.on_call (lies.on_far h p hne (.int .i64 x)) (dbm.drawn1 (Below.refl _ _))
                exact ⟨D hA.1 (by omega), D hA.2.1 (by omega), D hA.2.2.1 (by omega), lies.on_call Pt (dbm.drawn1 (Below.refl _ _)), dbm.drawn1 (hA.2.2.2.2.1.setCell (p := ⟨Z, p, none⟩) hwZ _), hA.2.2.2.2.2.below (dbm.drawn1 ((Below.refl w.heap.size wr).setCell (p := ⟨Z, p, none⟩) hwZ _)) HP.out.1⟩
              refine hK.out _ _ (HS0.out _ _ A4) (fun hNew => ?_)
              clear hHeld hK K hNew HS0 hcell hfree hA A3
              refine wpAnyH_done (by kernel_rfl) ?_ _
              generalize (wr.setCell ⟨Z, p, none⟩ (.int .i64 x)).drew = w6 at A4 ⊢
              go_wp2_with fail
              go_roundw
              case rel => exact ⟨p + 1, by omega, by go_num, by rw [HX.out]; exact A4⟩
              case measure => simp [intOf]; omega
            · obtain rfl : p = 6 := by omega
              rw [partS_six] at hA
              obtain ⟨v0, v1, v2, v3, v4, v5, hv⟩ := shortT_is us
              have HV := Lib.hid hv
              have hZ : lies.Lies wr Z 24 #[.int .i64 v0, .int .i64 v1, .int .i64 v2, .int .i64 v3, .int .i64 v4, .int .i64 v5] := by rw [hv] at hA; exact hA.2.2.2.1
              obtain ⟨⟨z0, z1, z2, z3, z4, z5⟩, _, zl⟩ := six_cells hZ
              obtain ⟨⟨x0, x1, x2, x3, x4, x5⟩, ⟨y0, y1, y2, y3, y4, y5⟩, xl⟩ := six_cells hA.1
              have hBB := hA.2.2.2.2.1
              clear hA hZ hv
              go_wp2_with fail
              exact bodyPost_ret (v := .tuple #[.agg #[.int .i64 v0, .int .i64 v1, .int .i64 v2, .int .i64 v3, .int .i64 v4, .int .i64 v5], .int .i64 0]) (by simp [results, Tryz.results6, go_sem, x0, x1, x2, x3, x4, x5, xl]) rfl ⟨put_six hBB (Nat.le_succ _) _ _ _ _ _ _, v0, v1, v2, v3, v4, v5, 0, rfl, .inr (.inr (.inr (.inr ⟨rfl, HO.out, HU.out ▸ HMU.out, by rw [← HU.out]; exact HV.out.symm, rfl⟩)))⟩
        · refine (check_no 3 _ us _ hIu (by rw [hl9]; decide) HTU.out hmu).mono ?_
          rintro e w4 ⟨rfl, hB⟩
          replace E1 := lies.on_call E1 hB
          replace EB := later EB hB
          have HMU := Lib.hid hmu
          clear hB hIu hmu hl9 hu ET EG EP
          obtain ⟨⟨x0, x1, x2, x3, x4, x5⟩, ⟨y0, y1, y2, y3, y4, y5⟩, xl⟩ := six_cells E1
          go_wp2_with fail
          exact bodyPost_ret (v := .tuple #[.agg #[.int .i64 0, .int .i64 0, .int .i64 0, .int .i64 0, .int .i64 0, .int .i64 0], .int .i64 8]) (by simp [results, Tryz.results6, go_sem, x0, x1, x2, x3, x4, x5, xl]) rfl ⟨put_six EB (Nat.le_succ _) _ _ _ _ _ _, 0, 0, 0, 0, 0, 0, 8, rfl, .inr (.inr (.inr (.inl ⟨rfl, HO.out, fun k => HMU.out (HU.out ▸ k), rfl, rfl⟩)))⟩
    · have h3' : (n != 3) = true := by simpa using h3
      have H3 := Lib.hid h3
      clear h3
      obtain ⟨⟨u0, u1, u2, u3, u4, u5⟩, ⟨y0, y1, y2, y3, y4, y5⟩, ul⟩ := six_cells D1
      go_wp2_with fail
      exact bodyPost_ret (v := .tuple #[.agg #[.int .i64 0, .int .i64 0, .int .i64 0, .int .i64 0, .int .i64 0, .int .i64 0], .int .i64 40]) (by simp [results, Tryz.results6, go_sem, u0, u1, u2, u3, u4, u5, ul]) rfl ⟨put_six DB (Nat.le_succ _) _ _ _ _ _ _, 0, 0, 0, 0, 0, 0, 40, rfl, .inr (.inl ⟨H.out, H3.out, rfl, rfl⟩)⟩
  · refine (check_no n _ ts _ ((HI.out.below DB).mono DB.size) hm HT.out h).mono ?_
    rintro e w1 ⟨rfl, hB⟩
    replace D1 := lies.on_call D1 hB
    replace DB := later DB hB
    have H := Lib.hid h
    clear hB h D0 P0
    obtain ⟨⟨x0, x1, x2, x3, x4, x5⟩, ⟨y0, y1, y2, y3, y4, y5⟩, xl⟩ := six_cells D1
    go_wp2_with fail
    exact bodyPost_ret (v := .tuple #[.agg #[.int .i64 0, .int .i64 0, .int .i64 0, .int .i64 0, .int .i64 0, .int .i64 0], .int .i64 8]) (by simp [results, Tryz.results6, go_sem, x0, x1, x2, x3, x4, x5, xl]) rfl ⟨put_six DB (Nat.le_succ _) _ _ _ _ _ _, 0, 0, 0, 0, 0, 0, 8, rfl, .inl ⟨H.out, rfl, rfl⟩⟩
end Go.Proofs.YtklejbheieceeaaGreatDoor.zone
