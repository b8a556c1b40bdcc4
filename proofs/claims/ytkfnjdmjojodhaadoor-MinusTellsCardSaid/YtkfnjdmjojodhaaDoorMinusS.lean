/-
  What the document's own Less answers; each theorem names its conditions.
-/
import Derived.Test.YtkfnjdmjojodhaaDoorMinusR
namespace Go.Proofs.YtkfnjdmjojodhaaDoor.mref
open Go.Joins Go.ChangeShapes Go.WideShapes Go.ChangeAt Go.RowKit num rat dbm dref Go.Proofs.YtkfnjdmjojodhaaDoor.tight Go.Proofs.YtkfnjdmjojodhaaDoor.incl Go.Proofs.YtkfnjdmjojodhaaDoor.plaw Go.Proofs.YtkfnjdmjojodhaaDoor.zopen Go.Proofs.YtkfnjdmjojodhaaDoor.zone Go.Proofs.YtkfnjdmjojodhaaDoor.win Go.Proofs.YtkfnjdmjojodhaaDoor.minus Go.Proofs.YtkfnjdmjojodhaaDoor.mz Go.Proofs.YtkfnjdmjojodhaaDoor.mlaw Go.Proofs.YtkfnjdmjojodhaaDoor.zref
open bound hiding up
set_option linter.unusedVariables false
set_option linter.unusedSimpArgs false

theorem far6 {W : World} {g R : Nat} {t : TypeId} {cs : Array Value} (h : lies.Lies W g t cs) (k : g ≠ R) (a b c d e f : Value) : lies.Lies ((((((W.setCell ⟨R, 0, none⟩ a).setCell ⟨R, 1, none⟩ b).setCell ⟨R, 2, none⟩ c).setCell ⟨R, 3, none⟩ d).setCell ⟨R, 4, none⟩ e).setCell ⟨R, 5, none⟩ f) g t cs :=
  lies.on_far (lies.on_far (lies.on_far (lies.on_far (lies.on_far (lies.on_far h 0 k a) 1 k b) 2 k c) 3 k d) 4 k e) 5 k f
theorem at6 {W : World} {g k : Nat} {t : TypeId} {b0 b1 b2 b3 b4 b5 x : Int} (h : lies.Lies W g t #[.int .i64 b0, .int .i64 b1, .int .i64 b2, .int .i64 b3, .int .i64 b4, .int .i64 b5]) (hk : k < 6) (hx : [b0, b1, b2, b3, b4, b5][k]?.getD 0 = x) : W.cell? ⟨g, k, none⟩ = some (.int .i64 x) := by
  subst hx
  rcases minus.six_is hk with rfl | rfl | rfl | rfl | rfl | rfl
  · exact lies.cell h 0
  · exact lies.cell h 1
  · exact lies.cell h 2
  · exact lies.cell h 3
  · exact lies.cell h 4
  · exact lies.cell h 5
theorem less_at {b a : List Int} {k : Nat} {o : List (List Int)} {f : Int} (hk : k < 6) : LessR b (6 - k) a o f ↔ (if b[k]?.getD 0 = 9223372036854775807 then LessR b (6 - (k + 1)) a o f else
      ∃ z e, CutR a (oneZ (oth k) (1 - b[k]?.getD 0)) z e ∧
        ((e = 8 ∧ o = [] ∧ f = 8) ∨ (e ≠ 8 ∧ ∃ y g, CutR a (oneZ k (b[k]?.getD 0)) y g ∧
          ((g = 6 ∧ o = pre e z ∧ f = 0) ∨ (g = 8 ∧ o = [] ∧ f = 8) ∨ (g = 0 ∧ ∃ l, LessR b (6 - (k + 1)) y l f ∧ o = if f = 0 then pre e z ++ l else []))))) := by
  rw [show 6 - k = (5 - k) + 1 by omega]
  conv => lhs; unfold LessR
  rw [show 5 - (5 - k) = k by omega, show 6 - (k + 1) = 5 - k by omega]
theorem other_is (x : Int) (w : World) (hx : Fine x) (hn : x ≠ 9223372036854775807) : Calls Tryd.prog 40 #[.int .i64 x] w fun e w' => e = .returned (.int .i64 (1 - x)) ∧ w = w' := by
  have h := hx.resolve_left hn
  have hm : May (x / 2) := by unfold May; omega
  have e : mk (-(x / 2)) (!bS x) = 1 - x := by
    rw [← (not_is hx hn).1]
    unfold notV
    rw [if_pos hm]
  rw [← e]
  exact other_ok x w hm
/-- what lies in the loop of Less. -/
def Ll (w : World) (c0 c1 c2 c3 c4 c5 b0 b1 b2 b3 b4 b5 : Int) (v : Value) (out : List (List Int)) (W : World) : Prop :=
  lies.Lies W w.heap.size 24 #[.int .i64 c0, .int .i64 c1, .int .i64 c2, .int .i64 c3, .int .i64 c4, .int .i64 c5] ∧ lies.Lies W (w.heap.size + 1) 24 #[.int .i64 b0, .int .i64 b1, .int .i64 b2, .int .i64 b3, .int .i64 b4, .int .i64 b5] ∧ W.ownsRow (w.heap.size + 1 + 1) 24 6 v out.length (flatZ out) ∧ Below w.heap.size w W
theorem Ll.below {w : World} {c0 c1 c2 c3 c4 c5 b0 b1 b2 b3 b4 b5 : Int} {v : Value} {out : List (List Int)} {X Y : World} (h : Ll w c0 c1 c2 c3 c4 c5 b0 b1 b2 b3 b4 b5 v out X) (k : Below X.heap.size X Y) : Ll w c0 c1 c2 c3 c4 c5 b0 b1 b2 b3 b4 b5 v out Y := ⟨lies.on_call h.1 k, lies.on_call h.2.1 k, incl.own_call h.2.2.1 k, later h.2.2.2 k⟩
/-- a box of another call's is turned. -/
theorem Ll.far {w : World} {c0 c1 c2 c3 c4 c5 b0 b1 b2 b3 b4 b5 : Int} {v : Value} {out : List (List Int)} {X : World} {T : Nat} (h : Ll w c0 c1 c2 c3 c4 c5 b0 b1 b2 b3 b4 b5 v out X) (hT : w.heap.size + 1 < T) (hv : ∀ g, v.ownBlock = some g → g ≠ T) (p0 p1 p2 p3 p4 p5 : Value) :
    Ll w c0 c1 c2 c3 c4 c5 b0 b1 b2 b3 b4 b5 v out ((((((X.setCell ⟨T, 0, none⟩ p0).setCell ⟨T, 1, none⟩ p1).setCell ⟨T, 2, none⟩ p2).setCell ⟨T, 3, none⟩ p3).setCell ⟨T, 4, none⟩ p4).setCell ⟨T, 5, none⟩ p5) :=
  ⟨far6 h.1 (by omega) _ _ _ _ _ _, far6 h.2.1 (by omega) _ _ _ _ _ _, own_put (own_put (own_put (own_put (own_put (own_put h.2.2.1 hv) hv) hv) hv) hv) hv, put_six h.2.2.2 (by omega) _ _ _ _ _ _⟩
/-- the zone itself is turned. -/
theorem Ll.own {w : World} {c0 c1 c2 c3 c4 c5 b0 b1 b2 b3 b4 b5 : Int} {v : Value} {out : List (List Int)} {X : World} (h : Ll w c0 c1 c2 c3 c4 c5 b0 b1 b2 b3 b4 b5 v out X) (y0 y1 y2 y3 y4 y5 : Int) :
    Ll w y0 y1 y2 y3 y4 y5 b0 b1 b2 b3 b4 b5 v out ((((((X.setCell ⟨w.heap.size, 0, none⟩ (.int .i64 y0)).setCell ⟨w.heap.size, 1, none⟩ (.int .i64 y1)).setCell ⟨w.heap.size, 2, none⟩ (.int .i64 y2)).setCell ⟨w.heap.size, 3, none⟩ (.int .i64 y3)).setCell ⟨w.heap.size, 4, none⟩ (.int .i64 y4)).setCell ⟨w.heap.size, 5, none⟩ (.int .i64 y5)) := by
  have hv : ∀ g, v.ownBlock = some g → g ≠ w.heap.size := fun g e => by have := (h.2.2.1.lt g e).1; omega
  exact ⟨put_sixL h.1 _ _ _ _ _ _, far6 h.2.1 (by omega) _ _ _ _ _ _, own_put (own_put (own_put (own_put (own_put (own_put h.2.2.1 hv) hv) hv) hv) hv) hv, put_six h.2.2.2 (Nat.le_refl _) _ _ _ _ _ _⟩
/-- a new box is none of the row's. -/
theorem Ll.new {w : World} {c0 c1 c2 c3 c4 c5 b0 b1 b2 b3 b4 b5 : Int} {v : Value} {out : List (List Int)} {X : World} (h : Ll w c0 c1 c2 c3 c4 c5 b0 b1 b2 b3 b4 b5 v out X) : w.heap.size + 1 < X.heap.size ∧ ∀ g, v.ownBlock = some g → g ≠ X.heap.size :=
  ⟨lies.lt h.2.1, fun g e => by have := (h.2.2.1.lt g e).2; omega⟩

set_option maxRecDepth 100000 in
set_option maxHeartbeats 32000000 in
theorem less_any (a0 a1 a2 a3 a4 a5 b0 b1 b2 b3 b4 b5 : Int) (w : World) (za : Zo [a0, a1, a2, a3, a4, a5]) (zb : Zo [b0, b1, b2, b3, b4, b5]) : Calls Tryd.prog 24 #[.agg #[.int .i64 a0, .int .i64 a1, .int .i64 a2, .int .i64 a3, .int .i64 a4, .int .i64 a5], .agg #[.int .i64 b0, .int .i64 b1, .int .i64 b2, .int .i64 b3, .int .i64 b4, .int .i64 b5]] w (Zans (LessR [b0, b1, b2, b3, b4, b5] 6 [a0, a1, a2, a3, a4, a5]) w) := by
  have HB := Lib.hid zb
  have HA := Lib.hid za
  have X : ∃ w0, w0 = (w.alloc (.cells #[.int .i64 a0, .int .i64 a1, .int .i64 a2, .int .i64 a3, .int .i64 a4, .int .i64 a5] 24)).alloc (.cells #[.int .i64 b0, .int .i64 b1, .int .i64 b2, .int .i64 b3, .int .i64 b4, .int .i64 b5] 24) := ⟨_, rfl⟩
  obtain ⟨w0, hX⟩ := X
  have L0 : Ll w a0 a1 a2 a3 a4 a5 b0 b1 b2 b3 b4 b5 (.slice none 0 0) [] w0 := ⟨by rw [hX]; exact lies.on_alloc (lies.made _ _ _) _, by rw [hX]; exact lies.made_at _ _ _ _ (by simp), World.ownsRow_nil _ _ _ _, by rw [hX]; exact bound.up2 _ _ _⟩
  clear za zb
  go_enter Tryd.func24, Tryd.ntmps24
  go_wp2_with fail
  rw [← hX]
  clear hX
  go_loopw [7, 6] (fun i v wr => ∃ (k : Nat) (c0 c1 c2 c3 c4 c5 : Int) (out : List (List Int)), k ≤ 6 ∧ i = .int .i64 k ∧ Ll w c0 c1 c2 c3 c4 c5 b0 b1 b2 b3 b4 b5 v out wr ∧ out.length ≤ k ∧ RowKit.Hid (Zo [c0, c1, c2, c3, c4, c5]) ∧ RowKit.Hid (∀ o f, LessR [b0, b1, b2, b3, b4, b5] (6 - k) [c0, c1, c2, c3, c4, c5] o f → LessR [b0, b1, b2, b3, b4, b5] 6 [a0, a1, a2, a3, a4, a5] (if f = 0 then out ++ o else []) f)) (fun i _ _ => 6 - (intOf i).toNat)
  case atStart => exact ⟨0, a0, a1, a2, a3, a4, a5, [], Nat.zero_le _, rfl, L0, Nat.le_refl _, HA, Lib.hid (fun o f h => by
    by_cases e : f = 0
    · rw [if_pos e]; exact h
    · rw [if_neg e]
      rcases less_err 6 h with q | ⟨_, q⟩
      · exact (e q).elim
      · rw [← q]; exact h)⟩
  case round =>
    clear L0
    obtain ⟨k, c0, c1, c2, c3, c4, c5, out, hk, rfl, hL, hlen, HC, HK⟩ := hrel
    obtain ⟨ov, oc, rfl⟩ := zs_len (zs_own hL.2.2.1)
    by_cases hk6 : k < 6
    · skip
      obtain ⟨x, hx⟩ : ∃ x, [b0, b1, b2, b3, b4, b5][k]?.getD 0 = x := ⟨_, rfl⟩
      have hfx : Fine x := by rw [← hx]; exact comp.six_fine HB.out.1.may k hk6
      have cx := at6 hL.2.1 hk6 hx
      have hbl := lies.lt hL.2.1
      have HX := Lib.hid hx
      have HFX := Lib.hid hfx
      clear hx hfx
      by_cases hn : x = 9223372036854775807
      · skip
        subst hn
        go_wp2_with fail
        go_roundw
        case rel => exact ⟨k + 1, c0, c1, c2, c3, c4, c5, out, by omega, by go_num, hL, by omega, HC, Lib.hid (fun o f h => HK.out o f ((less_at hk6).2 (by rw [HX.out, if_pos rfl]; exact h)))⟩
        case measure => simp [intOf]; omega
      · skip
        have hnb : (x == 9223372036854775807) = false := by simpa using hn
        obtain ⟨_, fn, nn⟩ := not_is HFX.out hn
        have HFN := Lib.hid fn
        have HNN := Lib.hid nn
        clear fn nn
        go_upto_region 6 with fail
        try clear cx
        go_cut [8, 9, 56] from 12 (fun s8 s9 s56 wx => ∃ (WX : World) (T : Nat) (y0 y1 y2 y3 y4 y5 e : Int), s56 = undef ∧ WX = wx ∧ s8 = .pointer (some ⟨T, 0, none⟩) ∧ s9 = .int .i64 e ∧ lies.Lies wx T 24 #[.int .i64 y0, .int .i64 y1, .int .i64 y2, .int .i64 y3, .int .i64 y4, .int .i64 y5] ∧ Ll w c0 c1 c2 c3 c4 c5 b0 b1 b2 b3 b4 b5 (.slice ov out.length oc) out wx ∧ RowKit.Hid (CutR [c0, c1, c2, c3, c4, c5] (oneZ (oth k) (1 - x)) [y0, y1, y2, y3, y4, y5] e))
        case first =>
          have hDr := dbm.drawn1 (Below.refl wr.heap.size wr)
          replace hL := hL.below hDr
          clear hDr
          refine wp_region_held_drew (S := fun W => lies.Lies W w.heap.size 24 #[.int .i64 c0, .int .i64 c1, .int .i64 c2, .int .i64 c3, .int .i64 c4, .int .i64 c5] ∧ lies.Lies W (w.heap.size + 1) 24 #[.int .i64 b0, .int .i64 b1, .int .i64 b2, .int .i64 b3, .int .i64 b4, .int .i64 b5]) (by kernel_rfl) ⟨hL.1, hL.2.1⟩ (fun hHeld => ?_)
          generalize wr.drew = wD at hL hHeld ⊢
          refine wpAnyH_take (i := 0) (v := ?_) rfl (by kernel_rfl) (by kernel_rfl) (by kernel_rfl) (fun _ _ _ h => h) (Or.inl ⟨by rfl, ?_⟩) hHeld ?_
          rotate_left
          · intro w hSw; obtain ⟨⟨p0, p1, p2, p3, p4, p5⟩, _⟩ := six_cells hSw.1; have cx := at6 hSw.2 hk6 HX.out; go_simp; try with_reducible rfl
          try simp only [Act.put, List.getElem_toArray, List.getElem_cons_zero, List.getElem_cons_succ, List.setIfInBounds_toArray, List.set_cons_zero, List.set_cons_succ]
          refine wpAnyH_take (i := 1) (v := ?_) rfl (by kernel_rfl) (by kernel_rfl) (by kernel_rfl) (fun _ _ _ h => h) (Or.inl ⟨by rfl, ?_⟩) hHeld ?_
          rotate_left
          · intro w hSw; obtain ⟨⟨p0, p1, p2, p3, p4, p5⟩, _⟩ := six_cells hSw.1; have cx := at6 hSw.2 hk6 HX.out; go_simp; try with_reducible rfl
          try simp only [Act.put, List.getElem_toArray, List.getElem_cons_zero, List.getElem_cons_succ, List.setIfInBounds_toArray, List.set_cons_zero, List.set_cons_succ]
          refine wpAnyH_take (i := 3) (v := ?_) rfl (by kernel_rfl) (by kernel_rfl) (by kernel_rfl) (fun _ _ _ h => h) (Or.inl ⟨by rfl, ?_⟩) hHeld ?_
          rotate_left
          · intro w hSw; obtain ⟨⟨p0, p1, p2, p3, p4, p5⟩, _⟩ := six_cells hSw.1; have cx := at6 hSw.2 hk6 HX.out; go_simp; try with_reducible rfl
          try simp only [Act.put, List.getElem_toArray, List.getElem_cons_zero, List.getElem_cons_succ, List.setIfInBounds_toArray, List.set_cons_zero, List.set_cons_succ]
          refine wpAnyH_take (i := 4) (v := ?_) rfl (by kernel_rfl) (by kernel_rfl) (by kernel_rfl) (fun _ _ _ h => h) (Or.inl ⟨by rfl, ?_⟩) hHeld ?_
          rotate_left
          · intro w hSw; obtain ⟨⟨p0, p1, p2, p3, p4, p5⟩, _⟩ := six_cells hSw.1; have cx := at6 hSw.2 hk6 HX.out; go_simp; try with_reducible rfl
          try simp only [Act.put, List.getElem_toArray, List.getElem_cons_zero, List.getElem_cons_succ, List.setIfInBounds_toArray, List.set_cons_zero, List.set_cons_succ]
          refine wpAnyH_take (i := 5) (v := ?_) rfl (by kernel_rfl) (by kernel_rfl) (by kernel_rfl) (fun _ _ _ h => h) (Or.inl ⟨by rfl, ?_⟩) hHeld ?_
          rotate_left
          · intro w hSw; obtain ⟨⟨p0, p1, p2, p3, p4, p5⟩, _⟩ := six_cells hSw.1; have cx := at6 hSw.2 hk6 HX.out; go_simp; try with_reducible rfl
          try simp only [Act.put, List.getElem_toArray, List.getElem_cons_zero, List.getElem_cons_succ, List.setIfInBounds_toArray, List.set_cons_zero, List.set_cons_succ]
          refine wpAnyH_ready (rs := [2, 11]) (by kernel_rfl) (by simp) (AllReadyH.cons rfl (fun K hK => ?_) (AllReadyH.cons rfl (fun K hK => ?_) AllReadyH.nil))
          · go_simp
            refine (oth_is k hk6 wD).mono ?_
            rintro e wN ⟨rfl, hw⟩
            subst hw
            refine hK.out _ _ ⟨hL.1, hL.2.1⟩ (fun hNew => ?_)
            clear hHeld hK K
            have hHeld := hNew
            clear hNew
            try simp only [Act.put, List.getElem_toArray, List.getElem_cons_zero, List.getElem_cons_succ, List.setIfInBounds_toArray, List.set_cons_zero, List.set_cons_succ]
            refine wpAnyH_ready (rs := [6, 11]) (by kernel_rfl) (by simp) (AllReadyH.cons rfl (fun K hK => ?_) (AllReadyH.cons rfl (fun K hK => ?_) AllReadyH.nil))
            · go_simp
              refine (other_is x wD HFX.out hn).mono ?_
              rintro e wN ⟨rfl, hw⟩
              subst hw
              refine hK.out _ _ ⟨hL.1, hL.2.1⟩ (fun hNew => ?_)
              clear hHeld hK K
              have hHeld := hNew
              clear hNew
              try simp only [Act.put, List.getElem_toArray, List.getElem_cons_zero, List.getElem_cons_succ, List.setIfInBounds_toArray, List.set_cons_zero, List.set_cons_succ]
              refine wpAnyH_ready (rs := [7, 11]) (by kernel_rfl) (by simp) (AllReadyH.cons rfl (fun K hK => ?_) (AllReadyH.cons rfl (fun K hK => ?_) AllReadyH.nil))
              · go_simp
                refine (with_any c0 c1 c2 c3 c4 c5 (oth k) (1 - x) wD (oth_lt hk6) HC.out.1 HC.out.2.1 HFN.out).mono ?_
                rintro e wc3 ⟨hB, y0, y1, y2, y3, y4, y5, e, rfl, hcut⟩
                have HCUT := Lib.hid hcut
                clear hcut
                replace hL := hL.below hB
                clear hB
                refine hK.out _ _ ⟨hL.1, hL.2.1⟩ (fun hNew => ?_)
                clear hHeld hK K
                have hHeld := hNew
                clear hNew
                try simp only [Act.put, List.getElem_toArray, List.getElem_cons_zero, List.getElem_cons_succ, List.setIfInBounds_toArray, List.set_cons_zero, List.set_cons_succ]
                refine wpAnyH_take (i := 8) (v := ?_) rfl (by kernel_rfl) (by kernel_rfl) (by kernel_rfl) (fun _ _ _ h => h) (Or.inl ⟨by rfl, ?_⟩) hHeld ?_
                rotate_left
                · intro w hSw; skip; go_simp; try with_reducible rfl
                try simp only [Act.put, List.getElem_toArray, List.getElem_cons_zero, List.getElem_cons_succ, List.setIfInBounds_toArray, List.set_cons_zero, List.set_cons_succ]
                refine wpAnyH_take (i := 9) (v := ?_) rfl (by kernel_rfl) (by kernel_rfl) (by kernel_rfl) (fun _ _ _ h => h) (Or.inl ⟨by rfl, ?_⟩) hHeld ?_
                rotate_left
                · intro w hSw; skip; go_simp; try with_reducible rfl
                try simp only [Act.put, List.getElem_toArray, List.getElem_cons_zero, List.getElem_cons_succ, List.setIfInBounds_toArray, List.set_cons_zero, List.set_cons_succ]
                refine wpAnyH_take (i := 10) (v := ?_) rfl (by kernel_rfl) (by kernel_rfl) (by kernel_rfl) (fun _ _ _ h => h) (Or.inl ⟨by rfl, ?_⟩) hHeld ?_
                rotate_left
                · intro w hSw; skip; go_simp; try with_reducible rfl
                try simp only [Act.put, List.getElem_toArray, List.getElem_cons_zero, List.getElem_cons_succ, List.setIfInBounds_toArray, List.set_cons_zero, List.set_cons_succ]
                refine wpAnyH_ready (rs := [11]) (by kernel_rfl) (by simp) (AllReadyH.cons rfl (fun K hK => ?_) AllReadyH.nil)
                go_simp
                have hA := bound.up1 wc3 (.cells #[.int .i64 0, .int .i64 0, .int .i64 0, .int .i64 0, .int .i64 0, .int .i64 0] 24)
                have DT := lies.made wc3 24 #[.int .i64 0, .int .i64 0, .int .i64 0, .int .i64 0, .int .i64 0, .int .i64 0]
                obtain ⟨hT1, hT2⟩ := hL.new
                replace hL := hL.below hA
                clear hA
                refine hK.out _ _ ⟨hL.1, hL.2.1⟩ (fun hNew => ?_)
                clear hHeld hK K
                have hHeld := hNew
                clear hNew
                try simp only [Act.put, List.getElem_toArray, List.getElem_cons_zero, List.getElem_cons_succ, List.setIfInBounds_toArray, List.set_cons_zero, List.set_cons_succ]
                generalize (World.heap wc3).size = T at DT hT1 hT2 ⊢
                generalize World.alloc wc3 (.cells #[.int .i64 0, .int .i64 0, .int .i64 0, .int .i64 0, .int .i64 0, .int .i64 0] 24) = wa4 at DT hL hHeld ⊢
                obtain ⟨⟨q0, q1, q2, q3, q4, q5⟩, ⟨r0, r1, r2, r3, r4, r5⟩, ql⟩ := six_cells DT
                refine wpAnyH_ready (rs := [12]) (by kernel_rfl) (by simp) (AllReadyH.cons rfl (fun K hK => ?_) AllReadyH.nil)
                go_simp
                replace hL := hL.far hT1 hT2 (.int .i64 y0) (.int .i64 y1) (.int .i64 y2) (.int .i64 y3) (.int .i64 y4) (.int .i64 y5)
                replace DT := put_sixL DT (.int .i64 y0) (.int .i64 y1) (.int .i64 y2) (.int .i64 y3) (.int .i64 y4) (.int .i64 y5)
                refine hK.out _ _ ⟨hL.1, hL.2.1⟩ (fun hNew => ?_)
                clear q0 q1 q2 q3 q4 q5 r0 r1 r2 r3 r4 r5 ql
                clear hHeld hK K
                have hHeld := hNew
                clear hNew
                try simp only [Act.put, List.getElem_toArray, List.getElem_cons_zero, List.getElem_cons_succ, List.setIfInBounds_toArray, List.set_cons_zero, List.set_cons_succ]
                generalize World.setCell (World.setCell (World.setCell (World.setCell (World.setCell (World.setCell (wa4) ⟨T, 0, none⟩ (.int .i64 y0)) ⟨T, 1, none⟩ (.int .i64 y1)) ⟨T, 2, none⟩ (.int .i64 y2)) ⟨T, 3, none⟩ (.int .i64 y3)) ⟨T, 4, none⟩ (.int .i64 y4)) ⟨T, 5, none⟩ (.int .i64 y5) = wS at DT hL hHeld ⊢
                refine wpAnyH_take (i := 13) (v := ?_) rfl (by kernel_rfl) (by kernel_rfl) (by kernel_rfl) (fun _ _ _ h => h) (Or.inl ⟨by rfl, ?_⟩) hHeld ?_
                rotate_left
                · intro w hSw; skip; go_simp; try with_reducible rfl
                try simp only [Act.put, List.getElem_toArray, List.getElem_cons_zero, List.getElem_cons_succ, List.setIfInBounds_toArray, List.set_cons_zero, List.set_cons_succ]
                refine wpAnyH_done (by kernel_rfl) ?_ _
                clear hHeld
                go_wp2_with fail
                go_meet
                exact ⟨_, _, _, _, _, _, _, _, _, rfl, rfl, rfl, rfl, DT, hL, HCUT⟩
              · go_simp
                have hA := bound.up1 wD (.cells #[.int .i64 0, .int .i64 0, .int .i64 0, .int .i64 0, .int .i64 0, .int .i64 0] 24)
                have DT := lies.made wD 24 #[.int .i64 0, .int .i64 0, .int .i64 0, .int .i64 0, .int .i64 0, .int .i64 0]
                obtain ⟨hT1, hT2⟩ := hL.new
                replace hL := hL.below hA
                clear hA
                refine hK.out _ _ ⟨hL.1, hL.2.1⟩ (fun hNew => ?_)
                clear hHeld hK K
                have hHeld := hNew
                clear hNew
                try simp only [Act.put, List.getElem_toArray, List.getElem_cons_zero, List.getElem_cons_succ, List.setIfInBounds_toArray, List.set_cons_zero, List.set_cons_succ]
                generalize (World.heap wD).size = T at DT hT1 hT2 ⊢
                generalize World.alloc wD (.cells #[.int .i64 0, .int .i64 0, .int .i64 0, .int .i64 0, .int .i64 0, .int .i64 0] 24) = wa5 at DT hL hHeld ⊢
                refine wpAnyH_ready (rs := [7]) (by kernel_rfl) (by simp) (AllReadyH.cons rfl (fun K hK => ?_) AllReadyH.nil)
                go_simp
                refine (with_any c0 c1 c2 c3 c4 c5 (oth k) (1 - x) wa5 (oth_lt hk6) HC.out.1 HC.out.2.1 HFN.out).mono ?_
                rintro e wc6 ⟨hB, y0, y1, y2, y3, y4, y5, e, rfl, hcut⟩
                have HCUT := Lib.hid hcut
                clear hcut
                replace hL := hL.below hB
                replace DT := lies.on_call DT hB
                clear hB
                refine hK.out _ _ ⟨hL.1, hL.2.1⟩ (fun hNew => ?_)
                clear hHeld hK K
                have hHeld := hNew
                clear hNew
                try simp only [Act.put, List.getElem_toArray, List.getElem_cons_zero, List.getElem_cons_succ, List.setIfInBounds_toArray, List.set_cons_zero, List.set_cons_succ]
                refine wpAnyH_take (i := 8) (v := ?_) rfl (by kernel_rfl) (by kernel_rfl) (by kernel_rfl) (fun _ _ _ h => h) (Or.inl ⟨by rfl, ?_⟩) hHeld ?_
                rotate_left
                · intro w hSw; skip; go_simp; try with_reducible rfl
                try simp only [Act.put, List.getElem_toArray, List.getElem_cons_zero, List.getElem_cons_succ, List.setIfInBounds_toArray, List.set_cons_zero, List.set_cons_succ]
                refine wpAnyH_take (i := 9) (v := ?_) rfl (by kernel_rfl) (by kernel_rfl) (by kernel_rfl) (fun _ _ _ h => h) (Or.inl ⟨by rfl, ?_⟩) hHeld ?_
                rotate_left
                · intro w hSw; skip; go_simp; try with_reducible rfl
                try simp only [Act.put, List.getElem_toArray, List.getElem_cons_zero, List.getElem_cons_succ, List.setIfInBounds_toArray, List.set_cons_zero, List.set_cons_succ]
                refine wpAnyH_take (i := 10) (v := ?_) rfl (by kernel_rfl) (by kernel_rfl) (by kernel_rfl) (fun _ _ _ h => h) (Or.inl ⟨by rfl, ?_⟩) hHeld ?_
                rotate_left
                · intro w hSw; skip; go_simp; try with_reducible rfl
                try simp only [Act.put, List.getElem_toArray, List.getElem_cons_zero, List.getElem_cons_succ, List.setIfInBounds_toArray, List.set_cons_zero, List.set_cons_succ]
                obtain ⟨⟨q0, q1, q2, q3, q4, q5⟩, ⟨r0, r1, r2, r3, r4, r5⟩, ql⟩ := six_cells DT
                refine wpAnyH_ready (rs := [12]) (by kernel_rfl) (by simp) (AllReadyH.cons rfl (fun K hK => ?_) AllReadyH.nil)
                go_simp
                replace hL := hL.far hT1 hT2 (.int .i64 y0) (.int .i64 y1) (.int .i64 y2) (.int .i64 y3) (.int .i64 y4) (.int .i64 y5)
                replace DT := put_sixL DT (.int .i64 y0) (.int .i64 y1) (.int .i64 y2) (.int .i64 y3) (.int .i64 y4) (.int .i64 y5)
                refine hK.out _ _ ⟨hL.1, hL.2.1⟩ (fun hNew => ?_)
                clear q0 q1 q2 q3 q4 q5 r0 r1 r2 r3 r4 r5 ql
                clear hHeld hK K
                have hHeld := hNew
                clear hNew
                try simp only [Act.put, List.getElem_toArray, List.getElem_cons_zero, List.getElem_cons_succ, List.setIfInBounds_toArray, List.set_cons_zero, List.set_cons_succ]
                generalize World.setCell (World.setCell (World.setCell (World.setCell (World.setCell (World.setCell (wc6) ⟨T, 0, none⟩ (.int .i64 y0)) ⟨T, 1, none⟩ (.int .i64 y1)) ⟨T, 2, none⟩ (.int .i64 y2)) ⟨T, 3, none⟩ (.int .i64 y3)) ⟨T, 4, none⟩ (.int .i64 y4)) ⟨T, 5, none⟩ (.int .i64 y5) = wS at DT hL hHeld ⊢
                refine wpAnyH_take (i := 13) (v := ?_) rfl (by kernel_rfl) (by kernel_rfl) (by kernel_rfl) (fun _ _ _ h => h) (Or.inl ⟨by rfl, ?_⟩) hHeld ?_
                rotate_left
                · intro w hSw; skip; go_simp; try with_reducible rfl
                try simp only [Act.put, List.getElem_toArray, List.getElem_cons_zero, List.getElem_cons_succ, List.setIfInBounds_toArray, List.set_cons_zero, List.set_cons_succ]
                refine wpAnyH_done (by kernel_rfl) ?_ _
                clear hHeld
                go_wp2_with fail
                go_meet
                exact ⟨_, _, _, _, _, _, _, _, _, rfl, rfl, rfl, rfl, DT, hL, HCUT⟩
            · go_simp
              have hA := bound.up1 wD (.cells #[.int .i64 0, .int .i64 0, .int .i64 0, .int .i64 0, .int .i64 0, .int .i64 0] 24)
              have DT := lies.made wD 24 #[.int .i64 0, .int .i64 0, .int .i64 0, .int .i64 0, .int .i64 0, .int .i64 0]
              obtain ⟨hT1, hT2⟩ := hL.new
              replace hL := hL.below hA
              clear hA
              refine hK.out _ _ ⟨hL.1, hL.2.1⟩ (fun hNew => ?_)
              clear hHeld hK K
              have hHeld := hNew
              clear hNew
              try simp only [Act.put, List.getElem_toArray, List.getElem_cons_zero, List.getElem_cons_succ, List.setIfInBounds_toArray, List.set_cons_zero, List.set_cons_succ]
              generalize (World.heap wD).size = T at DT hT1 hT2 ⊢
              generalize World.alloc wD (.cells #[.int .i64 0, .int .i64 0, .int .i64 0, .int .i64 0, .int .i64 0, .int .i64 0] 24) = wa7 at DT hL hHeld ⊢
              refine wpAnyH_ready (rs := [6]) (by kernel_rfl) (by simp) (AllReadyH.cons rfl (fun K hK => ?_) AllReadyH.nil)
              go_simp
              refine (other_is x wa7 HFX.out hn).mono ?_
              rintro e wN ⟨rfl, hw⟩
              subst hw
              refine hK.out _ _ ⟨hL.1, hL.2.1⟩ (fun hNew => ?_)
              clear hHeld hK K
              have hHeld := hNew
              clear hNew
              try simp only [Act.put, List.getElem_toArray, List.getElem_cons_zero, List.getElem_cons_succ, List.setIfInBounds_toArray, List.set_cons_zero, List.set_cons_succ]
              refine wpAnyH_ready (rs := [7]) (by kernel_rfl) (by simp) (AllReadyH.cons rfl (fun K hK => ?_) AllReadyH.nil)
              go_simp
              refine (with_any c0 c1 c2 c3 c4 c5 (oth k) (1 - x) wa7 (oth_lt hk6) HC.out.1 HC.out.2.1 HFN.out).mono ?_
              rintro e wc9 ⟨hB, y0, y1, y2, y3, y4, y5, e, rfl, hcut⟩
              have HCUT := Lib.hid hcut
              clear hcut
              replace hL := hL.below hB
              replace DT := lies.on_call DT hB
              clear hB
              refine hK.out _ _ ⟨hL.1, hL.2.1⟩ (fun hNew => ?_)
              clear hHeld hK K
              have hHeld := hNew
              clear hNew
              try simp only [Act.put, List.getElem_toArray, List.getElem_cons_zero, List.getElem_cons_succ, List.setIfInBounds_toArray, List.set_cons_zero, List.set_cons_succ]
              refine wpAnyH_take (i := 8) (v := ?_) rfl (by kernel_rfl) (by kernel_rfl) (by kernel_rfl) (fun _ _ _ h => h) (Or.inl ⟨by rfl, ?_⟩) hHeld ?_
              rotate_left
              · intro w hSw; skip; go_simp; try with_reducible rfl
              try simp only [Act.put, List.getElem_toArray, List.getElem_cons_zero, List.getElem_cons_succ, List.setIfInBounds_toArray, List.set_cons_zero, List.set_cons_succ]
              refine wpAnyH_take (i := 9) (v := ?_) rfl (by kernel_rfl) (by kernel_rfl) (by kernel_rfl) (fun _ _ _ h => h) (Or.inl ⟨by rfl, ?_⟩) hHeld ?_
              rotate_left
              · intro w hSw; skip; go_simp; try with_reducible rfl
              try simp only [Act.put, List.getElem_toArray, List.getElem_cons_zero, List.getElem_cons_succ, List.setIfInBounds_toArray, List.set_cons_zero, List.set_cons_succ]
              refine wpAnyH_take (i := 10) (v := ?_) rfl (by kernel_rfl) (by kernel_rfl) (by kernel_rfl) (fun _ _ _ h => h) (Or.inl ⟨by rfl, ?_⟩) hHeld ?_
              rotate_left
              · intro w hSw; skip; go_simp; try with_reducible rfl
              try simp only [Act.put, List.getElem_toArray, List.getElem_cons_zero, List.getElem_cons_succ, List.setIfInBounds_toArray, List.set_cons_zero, List.set_cons_succ]
              obtain ⟨⟨q0, q1, q2, q3, q4, q5⟩, ⟨r0, r1, r2, r3, r4, r5⟩, ql⟩ := six_cells DT
              refine wpAnyH_ready (rs := [12]) (by kernel_rfl) (by simp) (AllReadyH.cons rfl (fun K hK => ?_) AllReadyH.nil)
              go_simp
              replace hL := hL.far hT1 hT2 (.int .i64 y0) (.int .i64 y1) (.int .i64 y2) (.int .i64 y3) (.int .i64 y4) (.int .i64 y5)
              replace DT := put_sixL DT (.int .i64 y0) (.int .i64 y1) (.int .i64 y2) (.int .i64 y3) (.int .i64 y4) (.int .i64 y5)
              refine hK.out _ _ ⟨hL.1, hL.2.1⟩ (fun hNew => ?_)
              clear q0 q1 q2 q3 q4 q5 r0 r1 r2 r3 r4 r5 ql
              clear hHeld hK K
              have hHeld := hNew
              clear hNew
              try simp only [Act.put, List.getElem_toArray, List.getElem_cons_zero, List.getElem_cons_succ, List.setIfInBounds_toArray, List.set_cons_zero, List.set_cons_succ]
              generalize World.setCell (World.setCell (World.setCell (World.setCell (World.setCell (World.setCell (wc9) ⟨T, 0, none⟩ (.int .i64 y0)) ⟨T, 1, none⟩ (.int .i64 y1)) ⟨T, 2, none⟩ (.int .i64 y2)) ⟨T, 3, none⟩ (.int .i64 y3)) ⟨T, 4, none⟩ (.int .i64 y4)) ⟨T, 5, none⟩ (.int .i64 y5) = wS at DT hL hHeld ⊢
              refine wpAnyH_take (i := 13) (v := ?_) rfl (by kernel_rfl) (by kernel_rfl) (by kernel_rfl) (fun _ _ _ h => h) (Or.inl ⟨by rfl, ?_⟩) hHeld ?_
              rotate_left
              · intro w hSw; skip; go_simp; try with_reducible rfl
              try simp only [Act.put, List.getElem_toArray, List.getElem_cons_zero, List.getElem_cons_succ, List.setIfInBounds_toArray, List.set_cons_zero, List.set_cons_succ]
              refine wpAnyH_done (by kernel_rfl) ?_ _
              clear hHeld
              go_wp2_with fail
              go_meet
              exact ⟨_, _, _, _, _, _, _, _, _, rfl, rfl, rfl, rfl, DT, hL, HCUT⟩
          · go_simp
            have hA := bound.up1 wD (.cells #[.int .i64 0, .int .i64 0, .int .i64 0, .int .i64 0, .int .i64 0, .int .i64 0] 24)
            have DT := lies.made wD 24 #[.int .i64 0, .int .i64 0, .int .i64 0, .int .i64 0, .int .i64 0, .int .i64 0]
            obtain ⟨hT1, hT2⟩ := hL.new
            replace hL := hL.below hA
            clear hA
            refine hK.out _ _ ⟨hL.1, hL.2.1⟩ (fun hNew => ?_)
            clear hHeld hK K
            have hHeld := hNew
            clear hNew
            try simp only [Act.put, List.getElem_toArray, List.getElem_cons_zero, List.getElem_cons_succ, List.setIfInBounds_toArray, List.set_cons_zero, List.set_cons_succ]
            generalize (World.heap wD).size = T at DT hT1 hT2 ⊢
            generalize World.alloc wD (.cells #[.int .i64 0, .int .i64 0, .int .i64 0, .int .i64 0, .int .i64 0, .int .i64 0] 24) = wa10 at DT hL hHeld ⊢
            refine wpAnyH_ready (rs := [2]) (by kernel_rfl) (by simp) (AllReadyH.cons rfl (fun K hK => ?_) AllReadyH.nil)
            go_simp
            refine (oth_is k hk6 wa10).mono ?_
            rintro e wN ⟨rfl, hw⟩
            subst hw
            refine hK.out _ _ ⟨hL.1, hL.2.1⟩ (fun hNew => ?_)
            clear hHeld hK K
            have hHeld := hNew
            clear hNew
            try simp only [Act.put, List.getElem_toArray, List.getElem_cons_zero, List.getElem_cons_succ, List.setIfInBounds_toArray, List.set_cons_zero, List.set_cons_succ]
            refine wpAnyH_ready (rs := [6]) (by kernel_rfl) (by simp) (AllReadyH.cons rfl (fun K hK => ?_) AllReadyH.nil)
            go_simp
            refine (other_is x wa10 HFX.out hn).mono ?_
            rintro e wN ⟨rfl, hw⟩
            subst hw
            refine hK.out _ _ ⟨hL.1, hL.2.1⟩ (fun hNew => ?_)
            clear hHeld hK K
            have hHeld := hNew
            clear hNew
            try simp only [Act.put, List.getElem_toArray, List.getElem_cons_zero, List.getElem_cons_succ, List.setIfInBounds_toArray, List.set_cons_zero, List.set_cons_succ]
            refine wpAnyH_ready (rs := [7]) (by kernel_rfl) (by simp) (AllReadyH.cons rfl (fun K hK => ?_) AllReadyH.nil)
            go_simp
            refine (with_any c0 c1 c2 c3 c4 c5 (oth k) (1 - x) wa10 (oth_lt hk6) HC.out.1 HC.out.2.1 HFN.out).mono ?_
            rintro e wc13 ⟨hB, y0, y1, y2, y3, y4, y5, e, rfl, hcut⟩
            have HCUT := Lib.hid hcut
            clear hcut
            replace hL := hL.below hB
            replace DT := lies.on_call DT hB
            clear hB
            refine hK.out _ _ ⟨hL.1, hL.2.1⟩ (fun hNew => ?_)
            clear hHeld hK K
            have hHeld := hNew
            clear hNew
            try simp only [Act.put, List.getElem_toArray, List.getElem_cons_zero, List.getElem_cons_succ, List.setIfInBounds_toArray, List.set_cons_zero, List.set_cons_succ]
            refine wpAnyH_take (i := 8) (v := ?_) rfl (by kernel_rfl) (by kernel_rfl) (by kernel_rfl) (fun _ _ _ h => h) (Or.inl ⟨by rfl, ?_⟩) hHeld ?_
            rotate_left
            · intro w hSw; skip; go_simp; try with_reducible rfl
            try simp only [Act.put, List.getElem_toArray, List.getElem_cons_zero, List.getElem_cons_succ, List.setIfInBounds_toArray, List.set_cons_zero, List.set_cons_succ]
            refine wpAnyH_take (i := 9) (v := ?_) rfl (by kernel_rfl) (by kernel_rfl) (by kernel_rfl) (fun _ _ _ h => h) (Or.inl ⟨by rfl, ?_⟩) hHeld ?_
            rotate_left
            · intro w hSw; skip; go_simp; try with_reducible rfl
            try simp only [Act.put, List.getElem_toArray, List.getElem_cons_zero, List.getElem_cons_succ, List.setIfInBounds_toArray, List.set_cons_zero, List.set_cons_succ]
            refine wpAnyH_take (i := 10) (v := ?_) rfl (by kernel_rfl) (by kernel_rfl) (by kernel_rfl) (fun _ _ _ h => h) (Or.inl ⟨by rfl, ?_⟩) hHeld ?_
            rotate_left
            · intro w hSw; skip; go_simp; try with_reducible rfl
            try simp only [Act.put, List.getElem_toArray, List.getElem_cons_zero, List.getElem_cons_succ, List.setIfInBounds_toArray, List.set_cons_zero, List.set_cons_succ]
            obtain ⟨⟨q0, q1, q2, q3, q4, q5⟩, ⟨r0, r1, r2, r3, r4, r5⟩, ql⟩ := six_cells DT
            refine wpAnyH_ready (rs := [12]) (by kernel_rfl) (by simp) (AllReadyH.cons rfl (fun K hK => ?_) AllReadyH.nil)
            go_simp
            replace hL := hL.far hT1 hT2 (.int .i64 y0) (.int .i64 y1) (.int .i64 y2) (.int .i64 y3) (.int .i64 y4) (.int .i64 y5)
            replace DT := put_sixL DT (.int .i64 y0) (.int .i64 y1) (.int .i64 y2) (.int .i64 y3) (.int .i64 y4) (.int .i64 y5)
            refine hK.out _ _ ⟨hL.1, hL.2.1⟩ (fun hNew => ?_)
            clear q0 q1 q2 q3 q4 q5 r0 r1 r2 r3 r4 r5 ql
            clear hHeld hK K
            have hHeld := hNew
            clear hNew
            try simp only [Act.put, List.getElem_toArray, List.getElem_cons_zero, List.getElem_cons_succ, List.setIfInBounds_toArray, List.set_cons_zero, List.set_cons_succ]
            generalize World.setCell (World.setCell (World.setCell (World.setCell (World.setCell (World.setCell (wc13) ⟨T, 0, none⟩ (.int .i64 y0)) ⟨T, 1, none⟩ (.int .i64 y1)) ⟨T, 2, none⟩ (.int .i64 y2)) ⟨T, 3, none⟩ (.int .i64 y3)) ⟨T, 4, none⟩ (.int .i64 y4)) ⟨T, 5, none⟩ (.int .i64 y5) = wS at DT hL hHeld ⊢
            refine wpAnyH_take (i := 13) (v := ?_) rfl (by kernel_rfl) (by kernel_rfl) (by kernel_rfl) (fun _ _ _ h => h) (Or.inl ⟨by rfl, ?_⟩) hHeld ?_
            rotate_left
            · intro w hSw; skip; go_simp; try with_reducible rfl
            try simp only [Act.put, List.getElem_toArray, List.getElem_cons_zero, List.getElem_cons_succ, List.setIfInBounds_toArray, List.set_cons_zero, List.set_cons_succ]
            refine wpAnyH_done (by kernel_rfl) ?_ _
            clear hHeld
            go_wp2_with fail
            go_meet
            exact ⟨_, _, _, _, _, _, _, _, _, rfl, rfl, rfl, rfl, DT, hL, HCUT⟩
        case rest =>
          skip
          obtain ⟨WX, T, y0, y1, y2, y3, y4, y5, e, rfl, rfl, rfl, rfl, DT, hL, HCUT⟩ := hcut
          rcases cut_err HCUT.out with rfl | rfl | rfl
          · skip
            have HCU1 := HCUT
            clear HCUT
            clear DT
            have hn2 := hn
            have cx := at6 hL.2.1 hk6 HX.out
            go_upto_region 11 with fail
            try clear cx
            go_cut [10, 11, 56] from 12 (fun s10 s11 s56 wx => ∃ (WX : World) (T : Nat) (x0 x1 x2 x3 x4 x5 e : Int), s56 = undef ∧ WX = wx ∧ s10 = .pointer (some ⟨T, 0, none⟩) ∧ s11 = .int .i64 e ∧ lies.Lies wx T 24 #[.int .i64 x0, .int .i64 x1, .int .i64 x2, .int .i64 x3, .int .i64 x4, .int .i64 x5] ∧ Ll w c0 c1 c2 c3 c4 c5 b0 b1 b2 b3 b4 b5 (.slice ov out.length oc) out wx ∧ RowKit.Hid (CutR [c0, c1, c2, c3, c4, c5] (oneZ k x) [x0, x1, x2, x3, x4, x5] e))
            case first =>
              have hDr := dbm.drawn1 (Below.refl WX.heap.size WX)
              replace hL := hL.below hDr
              clear hDr
              refine wp_region_held_drew (S := fun W => lies.Lies W w.heap.size 24 #[.int .i64 c0, .int .i64 c1, .int .i64 c2, .int .i64 c3, .int .i64 c4, .int .i64 c5] ∧ lies.Lies W (w.heap.size + 1) 24 #[.int .i64 b0, .int .i64 b1, .int .i64 b2, .int .i64 b3, .int .i64 b4, .int .i64 b5]) (by kernel_rfl) ⟨hL.1, hL.2.1⟩ (fun hHeld => ?_)
              generalize WX.drew = wD at hL hHeld ⊢
              refine wpAnyH_take (i := 0) (v := ?_) rfl (by kernel_rfl) (by kernel_rfl) (by kernel_rfl) (fun _ _ _ h => h) (Or.inl ⟨by rfl, ?_⟩) hHeld ?_
              rotate_left
              · intro w hSw; obtain ⟨⟨p0, p1, p2, p3, p4, p5⟩, _⟩ := six_cells hSw.1; have cx := at6 hSw.2 hk6 HX.out; go_simp; try with_reducible rfl
              try simp only [Act.put, List.getElem_toArray, List.getElem_cons_zero, List.getElem_cons_succ, List.setIfInBounds_toArray, List.set_cons_zero, List.set_cons_succ]
              refine wpAnyH_take (i := 1) (v := ?_) rfl (by kernel_rfl) (by kernel_rfl) (by kernel_rfl) (fun _ _ _ h => h) (Or.inl ⟨by rfl, ?_⟩) hHeld ?_
              rotate_left
              · intro w hSw; obtain ⟨⟨p0, p1, p2, p3, p4, p5⟩, _⟩ := six_cells hSw.1; have cx := at6 hSw.2 hk6 HX.out; go_simp; try with_reducible rfl
              try simp only [Act.put, List.getElem_toArray, List.getElem_cons_zero, List.getElem_cons_succ, List.setIfInBounds_toArray, List.set_cons_zero, List.set_cons_succ]
              refine wpAnyH_take (i := 2) (v := ?_) rfl (by kernel_rfl) (by kernel_rfl) (by kernel_rfl) (fun _ _ _ h => h) (Or.inl ⟨by rfl, ?_⟩) hHeld ?_
              rotate_left
              · intro w hSw; obtain ⟨⟨p0, p1, p2, p3, p4, p5⟩, _⟩ := six_cells hSw.1; have cx := at6 hSw.2 hk6 HX.out; go_simp; try with_reducible rfl
              try simp only [Act.put, List.getElem_toArray, List.getElem_cons_zero, List.getElem_cons_succ, List.setIfInBounds_toArray, List.set_cons_zero, List.set_cons_succ]
              refine wpAnyH_take (i := 3) (v := ?_) rfl (by kernel_rfl) (by kernel_rfl) (by kernel_rfl) (fun _ _ _ h => h) (Or.inl ⟨by rfl, ?_⟩) hHeld ?_
              rotate_left
              · intro w hSw; obtain ⟨⟨p0, p1, p2, p3, p4, p5⟩, _⟩ := six_cells hSw.1; have cx := at6 hSw.2 hk6 HX.out; go_simp; try with_reducible rfl
              try simp only [Act.put, List.getElem_toArray, List.getElem_cons_zero, List.getElem_cons_succ, List.setIfInBounds_toArray, List.set_cons_zero, List.set_cons_succ]
              refine wpAnyH_take (i := 4) (v := ?_) rfl (by kernel_rfl) (by kernel_rfl) (by kernel_rfl) (fun _ _ _ h => h) (Or.inl ⟨by rfl, ?_⟩) hHeld ?_
              rotate_left
              · intro w hSw; obtain ⟨⟨p0, p1, p2, p3, p4, p5⟩, _⟩ := six_cells hSw.1; have cx := at6 hSw.2 hk6 HX.out; go_simp; try with_reducible rfl
              try simp only [Act.put, List.getElem_toArray, List.getElem_cons_zero, List.getElem_cons_succ, List.setIfInBounds_toArray, List.set_cons_zero, List.set_cons_succ]
              refine wpAnyH_ready (rs := [5, 9]) (by kernel_rfl) (by simp) (AllReadyH.cons rfl (fun K hK => ?_) (AllReadyH.cons rfl (fun K hK => ?_) AllReadyH.nil))
              · go_simp
                refine (with_any c0 c1 c2 c3 c4 c5 k x wD hk6 HC.out.1 HC.out.2.1 HFX.out).mono ?_
                rintro e wc1 ⟨hB, x0, x1, x2, x3, x4, x5, e, rfl, hcut⟩
                have HCUT := Lib.hid hcut
                clear hcut
                replace hL := hL.below hB
                clear hB
                refine hK.out _ _ ⟨hL.1, hL.2.1⟩ (fun hNew => ?_)
                clear hHeld hK K
                have hHeld := hNew
                clear hNew
                try simp only [Act.put, List.getElem_toArray, List.getElem_cons_zero, List.getElem_cons_succ, List.setIfInBounds_toArray, List.set_cons_zero, List.set_cons_succ]
                refine wpAnyH_take (i := 6) (v := ?_) rfl (by kernel_rfl) (by kernel_rfl) (by kernel_rfl) (fun _ _ _ h => h) (Or.inl ⟨by rfl, ?_⟩) hHeld ?_
                rotate_left
                · intro w hSw; skip; go_simp; try with_reducible rfl
                try simp only [Act.put, List.getElem_toArray, List.getElem_cons_zero, List.getElem_cons_succ, List.setIfInBounds_toArray, List.set_cons_zero, List.set_cons_succ]
                refine wpAnyH_take (i := 7) (v := ?_) rfl (by kernel_rfl) (by kernel_rfl) (by kernel_rfl) (fun _ _ _ h => h) (Or.inl ⟨by rfl, ?_⟩) hHeld ?_
                rotate_left
                · intro w hSw; skip; go_simp; try with_reducible rfl
                try simp only [Act.put, List.getElem_toArray, List.getElem_cons_zero, List.getElem_cons_succ, List.setIfInBounds_toArray, List.set_cons_zero, List.set_cons_succ]
                refine wpAnyH_take (i := 8) (v := ?_) rfl (by kernel_rfl) (by kernel_rfl) (by kernel_rfl) (fun _ _ _ h => h) (Or.inl ⟨by rfl, ?_⟩) hHeld ?_
                rotate_left
                · intro w hSw; skip; go_simp; try with_reducible rfl
                try simp only [Act.put, List.getElem_toArray, List.getElem_cons_zero, List.getElem_cons_succ, List.setIfInBounds_toArray, List.set_cons_zero, List.set_cons_succ]
                refine wpAnyH_ready (rs := [9]) (by kernel_rfl) (by simp) (AllReadyH.cons rfl (fun K hK => ?_) AllReadyH.nil)
                go_simp
                have hA := bound.up1 wc1 (.cells #[.int .i64 0, .int .i64 0, .int .i64 0, .int .i64 0, .int .i64 0, .int .i64 0] 24)
                have DT := lies.made wc1 24 #[.int .i64 0, .int .i64 0, .int .i64 0, .int .i64 0, .int .i64 0, .int .i64 0]
                obtain ⟨hT1, hT2⟩ := hL.new
                replace hL := hL.below hA
                clear hA
                refine hK.out _ _ ⟨hL.1, hL.2.1⟩ (fun hNew => ?_)
                clear hHeld hK K
                have hHeld := hNew
                clear hNew
                try simp only [Act.put, List.getElem_toArray, List.getElem_cons_zero, List.getElem_cons_succ, List.setIfInBounds_toArray, List.set_cons_zero, List.set_cons_succ]
                generalize (World.heap wc1).size = T at DT hT1 hT2 ⊢
                generalize World.alloc wc1 (.cells #[.int .i64 0, .int .i64 0, .int .i64 0, .int .i64 0, .int .i64 0, .int .i64 0] 24) = wa2 at DT hL hHeld ⊢
                obtain ⟨⟨q0, q1, q2, q3, q4, q5⟩, ⟨r0, r1, r2, r3, r4, r5⟩, ql⟩ := six_cells DT
                refine wpAnyH_ready (rs := [10]) (by kernel_rfl) (by simp) (AllReadyH.cons rfl (fun K hK => ?_) AllReadyH.nil)
                go_simp
                replace hL := hL.far hT1 hT2 (.int .i64 x0) (.int .i64 x1) (.int .i64 x2) (.int .i64 x3) (.int .i64 x4) (.int .i64 x5)
                replace DT := put_sixL DT (.int .i64 x0) (.int .i64 x1) (.int .i64 x2) (.int .i64 x3) (.int .i64 x4) (.int .i64 x5)
                refine hK.out _ _ ⟨hL.1, hL.2.1⟩ (fun hNew => ?_)
                clear q0 q1 q2 q3 q4 q5 r0 r1 r2 r3 r4 r5 ql
                clear hHeld hK K
                have hHeld := hNew
                clear hNew
                try simp only [Act.put, List.getElem_toArray, List.getElem_cons_zero, List.getElem_cons_succ, List.setIfInBounds_toArray, List.set_cons_zero, List.set_cons_succ]
                generalize World.setCell (World.setCell (World.setCell (World.setCell (World.setCell (World.setCell (wa2) ⟨T, 0, none⟩ (.int .i64 x0)) ⟨T, 1, none⟩ (.int .i64 x1)) ⟨T, 2, none⟩ (.int .i64 x2)) ⟨T, 3, none⟩ (.int .i64 x3)) ⟨T, 4, none⟩ (.int .i64 x4)) ⟨T, 5, none⟩ (.int .i64 x5) = wS at DT hL hHeld ⊢
                refine wpAnyH_take (i := 11) (v := ?_) rfl (by kernel_rfl) (by kernel_rfl) (by kernel_rfl) (fun _ _ _ h => h) (Or.inl ⟨by rfl, ?_⟩) hHeld ?_
                rotate_left
                · intro w hSw; skip; go_simp; try with_reducible rfl
                try simp only [Act.put, List.getElem_toArray, List.getElem_cons_zero, List.getElem_cons_succ, List.setIfInBounds_toArray, List.set_cons_zero, List.set_cons_succ]
                refine wpAnyH_done (by kernel_rfl) ?_ _
                clear hHeld
                go_wp2_with fail
                go_meet
                exact ⟨_, _, _, _, _, _, _, _, _, rfl, rfl, rfl, rfl, DT, hL, HCUT⟩
              · go_simp
                have hA := bound.up1 wD (.cells #[.int .i64 0, .int .i64 0, .int .i64 0, .int .i64 0, .int .i64 0, .int .i64 0] 24)
                have DT := lies.made wD 24 #[.int .i64 0, .int .i64 0, .int .i64 0, .int .i64 0, .int .i64 0, .int .i64 0]
                obtain ⟨hT1, hT2⟩ := hL.new
                replace hL := hL.below hA
                clear hA
                refine hK.out _ _ ⟨hL.1, hL.2.1⟩ (fun hNew => ?_)
                clear hHeld hK K
                have hHeld := hNew
                clear hNew
                try simp only [Act.put, List.getElem_toArray, List.getElem_cons_zero, List.getElem_cons_succ, List.setIfInBounds_toArray, List.set_cons_zero, List.set_cons_succ]
                generalize (World.heap wD).size = T at DT hT1 hT2 ⊢
                generalize World.alloc wD (.cells #[.int .i64 0, .int .i64 0, .int .i64 0, .int .i64 0, .int .i64 0, .int .i64 0] 24) = wa3 at DT hL hHeld ⊢
                refine wpAnyH_ready (rs := [5]) (by kernel_rfl) (by simp) (AllReadyH.cons rfl (fun K hK => ?_) AllReadyH.nil)
                go_simp
                refine (with_any c0 c1 c2 c3 c4 c5 k x wa3 hk6 HC.out.1 HC.out.2.1 HFX.out).mono ?_
                rintro e wc4 ⟨hB, x0, x1, x2, x3, x4, x5, e, rfl, hcut⟩
                have HCUT := Lib.hid hcut
                clear hcut
                replace hL := hL.below hB
                replace DT := lies.on_call DT hB
                clear hB
                refine hK.out _ _ ⟨hL.1, hL.2.1⟩ (fun hNew => ?_)
                clear hHeld hK K
                have hHeld := hNew
                clear hNew
                try simp only [Act.put, List.getElem_toArray, List.getElem_cons_zero, List.getElem_cons_succ, List.setIfInBounds_toArray, List.set_cons_zero, List.set_cons_succ]
                refine wpAnyH_take (i := 6) (v := ?_) rfl (by kernel_rfl) (by kernel_rfl) (by kernel_rfl) (fun _ _ _ h => h) (Or.inl ⟨by rfl, ?_⟩) hHeld ?_
                rotate_left
                · intro w hSw; skip; go_simp; try with_reducible rfl
                try simp only [Act.put, List.getElem_toArray, List.getElem_cons_zero, List.getElem_cons_succ, List.setIfInBounds_toArray, List.set_cons_zero, List.set_cons_succ]
                refine wpAnyH_take (i := 7) (v := ?_) rfl (by kernel_rfl) (by kernel_rfl) (by kernel_rfl) (fun _ _ _ h => h) (Or.inl ⟨by rfl, ?_⟩) hHeld ?_
                rotate_left
                · intro w hSw; skip; go_simp; try with_reducible rfl
                try simp only [Act.put, List.getElem_toArray, List.getElem_cons_zero, List.getElem_cons_succ, List.setIfInBounds_toArray, List.set_cons_zero, List.set_cons_succ]
                refine wpAnyH_take (i := 8) (v := ?_) rfl (by kernel_rfl) (by kernel_rfl) (by kernel_rfl) (fun _ _ _ h => h) (Or.inl ⟨by rfl, ?_⟩) hHeld ?_
                rotate_left
                · intro w hSw; skip; go_simp; try with_reducible rfl
                try simp only [Act.put, List.getElem_toArray, List.getElem_cons_zero, List.getElem_cons_succ, List.setIfInBounds_toArray, List.set_cons_zero, List.set_cons_succ]
                obtain ⟨⟨q0, q1, q2, q3, q4, q5⟩, ⟨r0, r1, r2, r3, r4, r5⟩, ql⟩ := six_cells DT
                refine wpAnyH_ready (rs := [10]) (by kernel_rfl) (by simp) (AllReadyH.cons rfl (fun K hK => ?_) AllReadyH.nil)
                go_simp
                replace hL := hL.far hT1 hT2 (.int .i64 x0) (.int .i64 x1) (.int .i64 x2) (.int .i64 x3) (.int .i64 x4) (.int .i64 x5)
                replace DT := put_sixL DT (.int .i64 x0) (.int .i64 x1) (.int .i64 x2) (.int .i64 x3) (.int .i64 x4) (.int .i64 x5)
                refine hK.out _ _ ⟨hL.1, hL.2.1⟩ (fun hNew => ?_)
                clear q0 q1 q2 q3 q4 q5 r0 r1 r2 r3 r4 r5 ql
                clear hHeld hK K
                have hHeld := hNew
                clear hNew
                try simp only [Act.put, List.getElem_toArray, List.getElem_cons_zero, List.getElem_cons_succ, List.setIfInBounds_toArray, List.set_cons_zero, List.set_cons_succ]
                generalize World.setCell (World.setCell (World.setCell (World.setCell (World.setCell (World.setCell (wc4) ⟨T, 0, none⟩ (.int .i64 x0)) ⟨T, 1, none⟩ (.int .i64 x1)) ⟨T, 2, none⟩ (.int .i64 x2)) ⟨T, 3, none⟩ (.int .i64 x3)) ⟨T, 4, none⟩ (.int .i64 x4)) ⟨T, 5, none⟩ (.int .i64 x5) = wS at DT hL hHeld ⊢
                refine wpAnyH_take (i := 11) (v := ?_) rfl (by kernel_rfl) (by kernel_rfl) (by kernel_rfl) (fun _ _ _ h => h) (Or.inl ⟨by rfl, ?_⟩) hHeld ?_
                rotate_left
                · intro w hSw; skip; go_simp; try with_reducible rfl
                try simp only [Act.put, List.getElem_toArray, List.getElem_cons_zero, List.getElem_cons_succ, List.setIfInBounds_toArray, List.set_cons_zero, List.set_cons_succ]
                refine wpAnyH_done (by kernel_rfl) ?_ _
                clear hHeld
                go_wp2_with fail
                go_meet
                exact ⟨_, _, _, _, _, _, _, _, _, rfl, rfl, rfl, rfl, DT, hL, HCUT⟩
            case rest =>
              obtain ⟨WY, T2, x0, x1, x2, x3, x4, x5, g, rfl, rfl, rfl, rfl, DT, hL, HCUZ⟩ := hcut
              rcases cut_err HCUZ.out with rfl | rfl | rfl
              · skip
                have hB0 := hL.2.2.2
                have hO := own_low hL.2.2.1 (show w.heap.size ≤ w.heap.size + 1 + 1 by omega)
                have HO := Lib.hid hO
                clear DT hL hO
                go_wp2_with fail
                have h6 := HK.out _ 0 ((less_at hk6).2 (by rw [HX.out, if_neg hn]; exact ⟨_, 6, HCU1.out, .inr ⟨by decide, _, _, HCUZ.out, .inl ⟨rfl, rfl, rfl⟩⟩⟩))
                rw [if_pos rfl] at h6
                have e6 : out ++ pre 6 [y0, y1, y2, y3, y4, y5] = out := by unfold pre; simp
                rw [e6] at h6
                exact bodyPost_ret (v := .tuple #[.slice ov out.length oc, .int .i64 0]) (by simp [results, Tryd.results24, go_sem]) rfl ⟨hB0, _, out, 0, rfl, h6, HO.out⟩
              · skip
                have hB0 := hL.2.2.2
                clear DT hL
                go_wp2_with fail
                exact bodyPost_ret (v := .tuple #[.slice none 0 0, .int .i64 8]) (by simp [results, Tryd.results24, go_sem]) rfl ⟨hB0, _, [], 8, rfl, HK.out [] 8 ((less_at hk6).2 (by rw [HX.out, if_neg hn]; exact ⟨_, 6, HCU1.out, .inr ⟨by decide, _, _, HCUZ.out, .inr (.inl ⟨rfl, rfl, rfl⟩)⟩⟩)), World.ownsRow_nil _ _ _ _⟩
              · skip
                have hz2 := cut_zo HC.out.2.1 HC.out.1.may (one_may HFX.out) HCUZ.out
                have HZ2 := Lib.hid hz2
                obtain ⟨⟨q0, q1, q2, q3, q4, q5⟩, -, ql⟩ := six_cells DT
                obtain ⟨⟨r0, r1, r2, r3, r4, r5⟩, ⟨t0, t1, t2, t3, t4, t5⟩, rl⟩ := six_cells hL.1
                have hL5 := hL.own x0 x1 x2 x3 x4 x5
                clear hz2 hL DT
                go_wp2_with fail
                go_roundw
                case rel => exact ⟨k + 1, x0, x1, x2, x3, x4, x5, out, by omega, by go_num, hL5, by omega, HZ2, Lib.hid (fun o f h => by
                  have h6 := HK.out _ f ((less_at hk6).2 (by rw [HX.out, if_neg hn]; exact ⟨_, 6, HCU1.out, .inr ⟨by decide, _, _, HCUZ.out, .inr (.inr ⟨rfl, o, h, rfl⟩)⟩⟩))
                  by_cases e : f = 0
                  · rw [if_pos e, if_pos e] at h6
                    rw [if_pos e]
                    have e6 : out ++ (pre 6 [y0, y1, y2, y3, y4, y5] ++ o) = out ++ o := by unfold pre; simp
                    rw [e6] at h6
                    exact h6
                  · rw [if_neg e] at h6 ⊢
                    exact h6)⟩
                case measure => simp [intOf]; omega
          · skip
            have hB0 := hL.2.2.2
            clear DT hL
            go_wp2_with fail
            exact bodyPost_ret (v := .tuple #[.slice none 0 0, .int .i64 8]) (by simp [results, Tryd.results24, go_sem]) rfl ⟨hB0, _, [], 8, rfl, HK.out [] 8 ((less_at hk6).2 (by rw [HX.out, if_neg hn]; exact ⟨_, 8, HCUT.out, .inl ⟨rfl, rfl, rfl⟩⟩)), World.ownsRow_nil _ _ _ _⟩
          · skip
            have HCU1 := HCUT
            clear HCUT
            obtain ⟨⟨p0, p1, p2, p3, p4, p5⟩, -, pl⟩ := six_cells DT
            have hA := bound.up1 WX (.cells #[.int .i64 y0, .int .i64 y1, .int .i64 y2, .int .i64 y3, .int .i64 y4, .int .i64 y5] 24)
            have hbox := zs_box (lies.made WX 24 #[.int .i64 y0, .int .i64 y1, .int .i64 y2, .int .i64 y3, .int .i64 y4, .int .i64 y5])
            obtain ⟨vq, wq, hrun, hown2, hgrow2, -⟩ := app_zones (w.heap.size + 1 + 1) 28 (.slice ov out.length oc) _ _ _ _ [[y0, y1, y2, y3, y4, y5]] _ (incl.own_call hL.2.2.1 hA) hbox (by rw [List.length_singleton]; omega) (by have h1 := lies.lt hL.2.1; have h2 := hA.size; omega)
            have hl2 := hL.below hA
            have hown3 : wq.ownsRow (w.heap.size + 1 + 1) 24 6 vq (out ++ [[y0, y1, y2, y3, y4, y5]]).length (flatZ (out ++ [[y0, y1, y2, y3, y4, y5]])) := by
              rw [List.length_append, flatZ_app]; exact hown2
            have hrw : ∀ q, q < w.heap.size + 1 + 1 → some q ≠ (Value.slice ov out.length oc).ownBlock := fun q hq e => by have := (hL.2.2.1.lt q e.symm).1; omega
            have L3 : Ll w c0 c1 c2 c3 c4 c5 b0 b1 b2 b3 b4 b5 vq (out ++ [[y0, y1, y2, y3, y4, y5]]) wq := ⟨(hgrow2.block _ (lies.lt hl2.1) (hrw _ (by omega))).trans hl2.1, (hgrow2.block _ (lies.lt hl2.2.1) (hrw _ (by omega))).trans hl2.2.1, hown3, hl2.2.2.2.grown hgrow2 hl2.2.2.2.size (fun q e => by have := (hL.2.2.1.lt q e).1; omega)⟩
            obtain ⟨vv, vc, eq3⟩ := zs_len (zs_own hown3)
            rw [List.length_append, List.length_singleton] at eq3
            subst eq3
            have HRUN := Lib.hid hrun
            clear hrun hown2 hown3 hgrow2 hbox hA hl2 hL hrw
            have hln : (out ++ [[y0, y1, y2, y3, y4, y5]]).length = out.length + 1 := by rw [List.length_append, List.length_singleton]
            have hL := L3
            clear L3
            have cx := at6 hL.2.1 hk6 HX.out
            have hn2 := hn
            have cx := at6 hL.2.1 hk6 HX.out
            go_upto_region 11 with (at_builtin; refine dref.append_run2 rfl (.tmp 36) (.tmp 38) 28 rfl _ _ _ _ rfl rfl HRUN.out ?_; clear HRUN p0 p1 p2 p3 p4 p5 pl DT)
            try clear cx
            go_cut [10, 11, 56] from 12 (fun s10 s11 s56 wx => ∃ (WX : World) (T : Nat) (x0 x1 x2 x3 x4 x5 e : Int), s56 = undef ∧ WX = wx ∧ s10 = .pointer (some ⟨T, 0, none⟩) ∧ s11 = .int .i64 e ∧ lies.Lies wx T 24 #[.int .i64 x0, .int .i64 x1, .int .i64 x2, .int .i64 x3, .int .i64 x4, .int .i64 x5] ∧ Ll w c0 c1 c2 c3 c4 c5 b0 b1 b2 b3 b4 b5 (.slice vv (out.length + 1) vc) (out ++ [[y0, y1, y2, y3, y4, y5]]) wx ∧ RowKit.Hid (CutR [c0, c1, c2, c3, c4, c5] (oneZ k x) [x0, x1, x2, x3, x4, x5] e))
            case first =>
              have hDr := dbm.drawn1 (Below.refl wq.heap.size wq)
              replace hL := hL.below hDr
              clear hDr
              refine wp_region_held_drew (S := fun W => lies.Lies W w.heap.size 24 #[.int .i64 c0, .int .i64 c1, .int .i64 c2, .int .i64 c3, .int .i64 c4, .int .i64 c5] ∧ lies.Lies W (w.heap.size + 1) 24 #[.int .i64 b0, .int .i64 b1, .int .i64 b2, .int .i64 b3, .int .i64 b4, .int .i64 b5]) (by kernel_rfl) ⟨hL.1, hL.2.1⟩ (fun hHeld => ?_)
              generalize wq.drew = wD at hL hHeld ⊢
              refine wpAnyH_take (i := 0) (v := ?_) rfl (by kernel_rfl) (by kernel_rfl) (by kernel_rfl) (fun _ _ _ h => h) (Or.inl ⟨by rfl, ?_⟩) hHeld ?_
              rotate_left
              · intro w hSw; obtain ⟨⟨p0, p1, p2, p3, p4, p5⟩, _⟩ := six_cells hSw.1; have cx := at6 hSw.2 hk6 HX.out; go_simp; try with_reducible rfl
              try simp only [Act.put, List.getElem_toArray, List.getElem_cons_zero, List.getElem_cons_succ, List.setIfInBounds_toArray, List.set_cons_zero, List.set_cons_succ]
              refine wpAnyH_take (i := 1) (v := ?_) rfl (by kernel_rfl) (by kernel_rfl) (by kernel_rfl) (fun _ _ _ h => h) (Or.inl ⟨by rfl, ?_⟩) hHeld ?_
              rotate_left
              · intro w hSw; obtain ⟨⟨p0, p1, p2, p3, p4, p5⟩, _⟩ := six_cells hSw.1; have cx := at6 hSw.2 hk6 HX.out; go_simp; try with_reducible rfl
              try simp only [Act.put, List.getElem_toArray, List.getElem_cons_zero, List.getElem_cons_succ, List.setIfInBounds_toArray, List.set_cons_zero, List.set_cons_succ]
              refine wpAnyH_take (i := 2) (v := ?_) rfl (by kernel_rfl) (by kernel_rfl) (by kernel_rfl) (fun _ _ _ h => h) (Or.inl ⟨by rfl, ?_⟩) hHeld ?_
              rotate_left
              · intro w hSw; obtain ⟨⟨p0, p1, p2, p3, p4, p5⟩, _⟩ := six_cells hSw.1; have cx := at6 hSw.2 hk6 HX.out; go_simp; try with_reducible rfl
              try simp only [Act.put, List.getElem_toArray, List.getElem_cons_zero, List.getElem_cons_succ, List.setIfInBounds_toArray, List.set_cons_zero, List.set_cons_succ]
              refine wpAnyH_take (i := 3) (v := ?_) rfl (by kernel_rfl) (by kernel_rfl) (by kernel_rfl) (fun _ _ _ h => h) (Or.inl ⟨by rfl, ?_⟩) hHeld ?_
              rotate_left
              · intro w hSw; obtain ⟨⟨p0, p1, p2, p3, p4, p5⟩, _⟩ := six_cells hSw.1; have cx := at6 hSw.2 hk6 HX.out; go_simp; try with_reducible rfl
              try simp only [Act.put, List.getElem_toArray, List.getElem_cons_zero, List.getElem_cons_succ, List.setIfInBounds_toArray, List.set_cons_zero, List.set_cons_succ]
              refine wpAnyH_take (i := 4) (v := ?_) rfl (by kernel_rfl) (by kernel_rfl) (by kernel_rfl) (fun _ _ _ h => h) (Or.inl ⟨by rfl, ?_⟩) hHeld ?_
              rotate_left
              · intro w hSw; obtain ⟨⟨p0, p1, p2, p3, p4, p5⟩, _⟩ := six_cells hSw.1; have cx := at6 hSw.2 hk6 HX.out; go_simp; try with_reducible rfl
              try simp only [Act.put, List.getElem_toArray, List.getElem_cons_zero, List.getElem_cons_succ, List.setIfInBounds_toArray, List.set_cons_zero, List.set_cons_succ]
              refine wpAnyH_ready (rs := [5, 9]) (by kernel_rfl) (by simp) (AllReadyH.cons rfl (fun K hK => ?_) (AllReadyH.cons rfl (fun K hK => ?_) AllReadyH.nil))
              · go_simp
                refine (with_any c0 c1 c2 c3 c4 c5 k x wD hk6 HC.out.1 HC.out.2.1 HFX.out).mono ?_
                rintro e wc1 ⟨hB, x0, x1, x2, x3, x4, x5, e, rfl, hcut⟩
                have HCUT := Lib.hid hcut
                clear hcut
                replace hL := hL.below hB
                clear hB
                refine hK.out _ _ ⟨hL.1, hL.2.1⟩ (fun hNew => ?_)
                clear hHeld hK K
                have hHeld := hNew
                clear hNew
                try simp only [Act.put, List.getElem_toArray, List.getElem_cons_zero, List.getElem_cons_succ, List.setIfInBounds_toArray, List.set_cons_zero, List.set_cons_succ]
                refine wpAnyH_take (i := 6) (v := ?_) rfl (by kernel_rfl) (by kernel_rfl) (by kernel_rfl) (fun _ _ _ h => h) (Or.inl ⟨by rfl, ?_⟩) hHeld ?_
                rotate_left
                · intro w hSw; skip; go_simp; try with_reducible rfl
                try simp only [Act.put, List.getElem_toArray, List.getElem_cons_zero, List.getElem_cons_succ, List.setIfInBounds_toArray, List.set_cons_zero, List.set_cons_succ]
                refine wpAnyH_take (i := 7) (v := ?_) rfl (by kernel_rfl) (by kernel_rfl) (by kernel_rfl) (fun _ _ _ h => h) (Or.inl ⟨by rfl, ?_⟩) hHeld ?_
                rotate_left
                · intro w hSw; skip; go_simp; try with_reducible rfl
                try simp only [Act.put, List.getElem_toArray, List.getElem_cons_zero, List.getElem_cons_succ, List.setIfInBounds_toArray, List.set_cons_zero, List.set_cons_succ]
                refine wpAnyH_take (i := 8) (v := ?_) rfl (by kernel_rfl) (by kernel_rfl) (by kernel_rfl) (fun _ _ _ h => h) (Or.inl ⟨by rfl, ?_⟩) hHeld ?_
                rotate_left
                · intro w hSw; skip; go_simp; try with_reducible rfl
                try simp only [Act.put, List.getElem_toArray, List.getElem_cons_zero, List.getElem_cons_succ, List.setIfInBounds_toArray, List.set_cons_zero, List.set_cons_succ]
                refine wpAnyH_ready (rs := [9]) (by kernel_rfl) (by simp) (AllReadyH.cons rfl (fun K hK => ?_) AllReadyH.nil)
                go_simp
                have hA := bound.up1 wc1 (.cells #[.int .i64 0, .int .i64 0, .int .i64 0, .int .i64 0, .int .i64 0, .int .i64 0] 24)
                have DT := lies.made wc1 24 #[.int .i64 0, .int .i64 0, .int .i64 0, .int .i64 0, .int .i64 0, .int .i64 0]
                obtain ⟨hT1, hT2⟩ := hL.new
                replace hL := hL.below hA
                clear hA
                refine hK.out _ _ ⟨hL.1, hL.2.1⟩ (fun hNew => ?_)
                clear hHeld hK K
                have hHeld := hNew
                clear hNew
                try simp only [Act.put, List.getElem_toArray, List.getElem_cons_zero, List.getElem_cons_succ, List.setIfInBounds_toArray, List.set_cons_zero, List.set_cons_succ]
                generalize (World.heap wc1).size = T at DT hT1 hT2 ⊢
                generalize World.alloc wc1 (.cells #[.int .i64 0, .int .i64 0, .int .i64 0, .int .i64 0, .int .i64 0, .int .i64 0] 24) = wa2 at DT hL hHeld ⊢
                obtain ⟨⟨q0, q1, q2, q3, q4, q5⟩, ⟨r0, r1, r2, r3, r4, r5⟩, ql⟩ := six_cells DT
                refine wpAnyH_ready (rs := [10]) (by kernel_rfl) (by simp) (AllReadyH.cons rfl (fun K hK => ?_) AllReadyH.nil)
                go_simp
                replace hL := hL.far hT1 hT2 (.int .i64 x0) (.int .i64 x1) (.int .i64 x2) (.int .i64 x3) (.int .i64 x4) (.int .i64 x5)
                replace DT := put_sixL DT (.int .i64 x0) (.int .i64 x1) (.int .i64 x2) (.int .i64 x3) (.int .i64 x4) (.int .i64 x5)
                refine hK.out _ _ ⟨hL.1, hL.2.1⟩ (fun hNew => ?_)
                clear q0 q1 q2 q3 q4 q5 r0 r1 r2 r3 r4 r5 ql
                clear hHeld hK K
                have hHeld := hNew
                clear hNew
                try simp only [Act.put, List.getElem_toArray, List.getElem_cons_zero, List.getElem_cons_succ, List.setIfInBounds_toArray, List.set_cons_zero, List.set_cons_succ]
                generalize World.setCell (World.setCell (World.setCell (World.setCell (World.setCell (World.setCell (wa2) ⟨T, 0, none⟩ (.int .i64 x0)) ⟨T, 1, none⟩ (.int .i64 x1)) ⟨T, 2, none⟩ (.int .i64 x2)) ⟨T, 3, none⟩ (.int .i64 x3)) ⟨T, 4, none⟩ (.int .i64 x4)) ⟨T, 5, none⟩ (.int .i64 x5) = wS at DT hL hHeld ⊢
                refine wpAnyH_take (i := 11) (v := ?_) rfl (by kernel_rfl) (by kernel_rfl) (by kernel_rfl) (fun _ _ _ h => h) (Or.inl ⟨by rfl, ?_⟩) hHeld ?_
                rotate_left
                · intro w hSw; skip; go_simp; try with_reducible rfl
                try simp only [Act.put, List.getElem_toArray, List.getElem_cons_zero, List.getElem_cons_succ, List.setIfInBounds_toArray, List.set_cons_zero, List.set_cons_succ]
                refine wpAnyH_done (by kernel_rfl) ?_ _
                clear hHeld
                go_wp2_with fail
                go_meet
                exact ⟨_, _, _, _, _, _, _, _, _, rfl, rfl, rfl, rfl, DT, hL, HCUT⟩
              · go_simp
                have hA := bound.up1 wD (.cells #[.int .i64 0, .int .i64 0, .int .i64 0, .int .i64 0, .int .i64 0, .int .i64 0] 24)
                have DT := lies.made wD 24 #[.int .i64 0, .int .i64 0, .int .i64 0, .int .i64 0, .int .i64 0, .int .i64 0]
                obtain ⟨hT1, hT2⟩ := hL.new
                replace hL := hL.below hA
                clear hA
                refine hK.out _ _ ⟨hL.1, hL.2.1⟩ (fun hNew => ?_)
                clear hHeld hK K
                have hHeld := hNew
                clear hNew
                try simp only [Act.put, List.getElem_toArray, List.getElem_cons_zero, List.getElem_cons_succ, List.setIfInBounds_toArray, List.set_cons_zero, List.set_cons_succ]
                generalize (World.heap wD).size = T at DT hT1 hT2 ⊢
                generalize World.alloc wD (.cells #[.int .i64 0, .int .i64 0, .int .i64 0, .int .i64 0, .int .i64 0, .int .i64 0] 24) = wa3 at DT hL hHeld ⊢
                refine wpAnyH_ready (rs := [5]) (by kernel_rfl) (by simp) (AllReadyH.cons rfl (fun K hK => ?_) AllReadyH.nil)
                go_simp
                refine (with_any c0 c1 c2 c3 c4 c5 k x wa3 hk6 HC.out.1 HC.out.2.1 HFX.out).mono ?_
                rintro e wc4 ⟨hB, x0, x1, x2, x3, x4, x5, e, rfl, hcut⟩
                have HCUT := Lib.hid hcut
                clear hcut
                replace hL := hL.below hB
                replace DT := lies.on_call DT hB
                clear hB
                refine hK.out _ _ ⟨hL.1, hL.2.1⟩ (fun hNew => ?_)
                clear hHeld hK K
                have hHeld := hNew
                clear hNew
                try simp only [Act.put, List.getElem_toArray, List.getElem_cons_zero, List.getElem_cons_succ, List.setIfInBounds_toArray, List.set_cons_zero, List.set_cons_succ]
                refine wpAnyH_take (i := 6) (v := ?_) rfl (by kernel_rfl) (by kernel_rfl) (by kernel_rfl) (fun _ _ _ h => h) (Or.inl ⟨by rfl, ?_⟩) hHeld ?_
                rotate_left
                · intro w hSw; skip; go_simp; try with_reducible rfl
                try simp only [Act.put, List.getElem_toArray, List.getElem_cons_zero, List.getElem_cons_succ, List.setIfInBounds_toArray, List.set_cons_zero, List.set_cons_succ]
                refine wpAnyH_take (i := 7) (v := ?_) rfl (by kernel_rfl) (by kernel_rfl) (by kernel_rfl) (fun _ _ _ h => h) (Or.inl ⟨by rfl, ?_⟩) hHeld ?_
                rotate_left
                · intro w hSw; skip; go_simp; try with_reducible rfl
                try simp only [Act.put, List.getElem_toArray, List.getElem_cons_zero, List.getElem_cons_succ, List.setIfInBounds_toArray, List.set_cons_zero, List.set_cons_succ]
                refine wpAnyH_take (i := 8) (v := ?_) rfl (by kernel_rfl) (by kernel_rfl) (by kernel_rfl) (fun _ _ _ h => h) (Or.inl ⟨by rfl, ?_⟩) hHeld ?_
                rotate_left
                · intro w hSw; skip; go_simp; try with_reducible rfl
                try simp only [Act.put, List.getElem_toArray, List.getElem_cons_zero, List.getElem_cons_succ, List.setIfInBounds_toArray, List.set_cons_zero, List.set_cons_succ]
                obtain ⟨⟨q0, q1, q2, q3, q4, q5⟩, ⟨r0, r1, r2, r3, r4, r5⟩, ql⟩ := six_cells DT
                refine wpAnyH_ready (rs := [10]) (by kernel_rfl) (by simp) (AllReadyH.cons rfl (fun K hK => ?_) AllReadyH.nil)
                go_simp
                replace hL := hL.far hT1 hT2 (.int .i64 x0) (.int .i64 x1) (.int .i64 x2) (.int .i64 x3) (.int .i64 x4) (.int .i64 x5)
                replace DT := put_sixL DT (.int .i64 x0) (.int .i64 x1) (.int .i64 x2) (.int .i64 x3) (.int .i64 x4) (.int .i64 x5)
                refine hK.out _ _ ⟨hL.1, hL.2.1⟩ (fun hNew => ?_)
                clear q0 q1 q2 q3 q4 q5 r0 r1 r2 r3 r4 r5 ql
                clear hHeld hK K
                have hHeld := hNew
                clear hNew
                try simp only [Act.put, List.getElem_toArray, List.getElem_cons_zero, List.getElem_cons_succ, List.setIfInBounds_toArray, List.set_cons_zero, List.set_cons_succ]
                generalize World.setCell (World.setCell (World.setCell (World.setCell (World.setCell (World.setCell (wc4) ⟨T, 0, none⟩ (.int .i64 x0)) ⟨T, 1, none⟩ (.int .i64 x1)) ⟨T, 2, none⟩ (.int .i64 x2)) ⟨T, 3, none⟩ (.int .i64 x3)) ⟨T, 4, none⟩ (.int .i64 x4)) ⟨T, 5, none⟩ (.int .i64 x5) = wS at DT hL hHeld ⊢
                refine wpAnyH_take (i := 11) (v := ?_) rfl (by kernel_rfl) (by kernel_rfl) (by kernel_rfl) (fun _ _ _ h => h) (Or.inl ⟨by rfl, ?_⟩) hHeld ?_
                rotate_left
                · intro w hSw; skip; go_simp; try with_reducible rfl
                try simp only [Act.put, List.getElem_toArray, List.getElem_cons_zero, List.getElem_cons_succ, List.setIfInBounds_toArray, List.set_cons_zero, List.set_cons_succ]
                refine wpAnyH_done (by kernel_rfl) ?_ _
                clear hHeld
                go_wp2_with fail
                go_meet
                exact ⟨_, _, _, _, _, _, _, _, _, rfl, rfl, rfl, rfl, DT, hL, HCUT⟩
            case rest =>
              obtain ⟨WY, T2, x0, x1, x2, x3, x4, x5, g, rfl, rfl, rfl, rfl, DT, hL, HCUZ⟩ := hcut
              rcases cut_err HCUZ.out with rfl | rfl | rfl
              · skip
                have hB0 := hL.2.2.2
                have hO := own_low hL.2.2.1 (show w.heap.size ≤ w.heap.size + 1 + 1 by omega)
                have HO := Lib.hid hO
                clear DT hL hO
                go_wp2_with fail
                have h6 := HK.out _ 0 ((less_at hk6).2 (by rw [HX.out, if_neg hn]; exact ⟨_, 0, HCU1.out, .inr ⟨by decide, _, _, HCUZ.out, .inl ⟨rfl, rfl, rfl⟩⟩⟩))
                rw [if_pos rfl] at h6
                have e6 : out ++ pre 0 [y0, y1, y2, y3, y4, y5] = (out ++ [[y0, y1, y2, y3, y4, y5]]) := by unfold pre; simp
                rw [e6] at h6
                exact bodyPost_ret (v := .tuple #[.slice vv (out.length + 1) vc, .int .i64 0]) (by simp [results, Tryd.results24, go_sem]) rfl ⟨hB0, _, (out ++ [[y0, y1, y2, y3, y4, y5]]), 0, rfl, h6, HO.out⟩
              · skip
                have hB0 := hL.2.2.2
                clear DT hL
                go_wp2_with fail
                exact bodyPost_ret (v := .tuple #[.slice none 0 0, .int .i64 8]) (by simp [results, Tryd.results24, go_sem]) rfl ⟨hB0, _, [], 8, rfl, HK.out [] 8 ((less_at hk6).2 (by rw [HX.out, if_neg hn]; exact ⟨_, 0, HCU1.out, .inr ⟨by decide, _, _, HCUZ.out, .inr (.inl ⟨rfl, rfl, rfl⟩)⟩⟩)), World.ownsRow_nil _ _ _ _⟩
              · skip
                have hz2 := cut_zo HC.out.2.1 HC.out.1.may (one_may HFX.out) HCUZ.out
                have HZ2 := Lib.hid hz2
                obtain ⟨⟨q0, q1, q2, q3, q4, q5⟩, -, ql⟩ := six_cells DT
                obtain ⟨⟨r0, r1, r2, r3, r4, r5⟩, ⟨t0, t1, t2, t3, t4, t5⟩, rl⟩ := six_cells hL.1
                have hL5 := hL.own x0 x1 x2 x3 x4 x5
                clear hz2 hL DT
                go_wp2_with fail
                go_roundw
                case rel => exact ⟨k + 1, x0, x1, x2, x3, x4, x5, (out ++ [[y0, y1, y2, y3, y4, y5]]), by omega, by go_num, hL5, by rw [hln]; omega, HZ2, Lib.hid (fun o f h => by
                  have h6 := HK.out _ f ((less_at hk6).2 (by rw [HX.out, if_neg hn]; exact ⟨_, 0, HCU1.out, .inr ⟨by decide, _, _, HCUZ.out, .inr (.inr ⟨rfl, o, h, rfl⟩)⟩⟩))
                  by_cases e : f = 0
                  · rw [if_pos e, if_pos e] at h6
                    rw [if_pos e]
                    have e6 : out ++ (pre 0 [y0, y1, y2, y3, y4, y5] ++ o) = (out ++ [[y0, y1, y2, y3, y4, y5]]) ++ o := by unfold pre; simp
                    rw [e6] at h6
                    exact h6
                  · rw [if_neg e] at h6 ⊢
                    exact h6)⟩
                case measure => simp [intOf]; omega
    · skip
      obtain rfl : k = 6 := by omega
      have hB0 := hL.2.2.2
      have HO := Lib.hid (own_low hL.2.2.1 (show w.heap.size ≤ w.heap.size + 1 + 1 by omega))
      clear hL
      go_wp2_with fail
      have h6 := HK.out [] 0 ⟨rfl, rfl⟩
      rw [if_pos rfl, List.append_nil] at h6
      exact bodyPost_ret (v := .tuple #[.slice ov out.length oc, .int .i64 0]) (by simp [results, Tryd.results24, go_sem]) rfl ⟨hB0, _, out, 0, rfl, h6, HO.out⟩
end Go.Proofs.YtkfnjdmjojodhaaDoor.mref
