/-
  What the document's own None, Other, With answer; each theorem names its conditions.
-/
import Derived.Test.YtkfnjdmjojodhaaDoorMinusG
import Derived.Test.YtkfnjdmjojodhaaDoorZoneU
namespace Go.Proofs.YtkfnjdmjojodhaaDoor.mref
open Go.Joins Go.ChangeShapes Go.WideShapes Go.ChangeAt Go.RowKit num rat dbm dref Go.Proofs.YtkfnjdmjojodhaaDoor.tight Go.Proofs.YtkfnjdmjojodhaaDoor.incl Go.Proofs.YtkfnjdmjojodhaaDoor.plaw Go.Proofs.YtkfnjdmjojodhaaDoor.zopen Go.Proofs.YtkfnjdmjojodhaaDoor.zone Go.Proofs.YtkfnjdmjojodhaaDoor.win Go.Proofs.YtkfnjdmjojodhaaDoor.minus Go.Proofs.YtkfnjdmjojodhaaDoor.mz Go.Proofs.YtkfnjdmjojodhaaDoor.mlaw Go.Proofs.YtkfnjdmjojodhaaDoor.zref
open bound hiding up
set_option linter.unusedVariables false
set_option linter.unusedSimpArgs false

theorem none_is (w : World) : Calls Tryd.prog 60 #[] w fun e w' => e = .returned (.agg #[.int .i64 9223372036854775807, .int .i64 9223372036854775807, .int .i64 9223372036854775807, .int .i64 9223372036854775807, .int .i64 9223372036854775807, .int .i64 9223372036854775807]) ∧ Below w.heap.size w w' := by
  go_enter Tryd.func60, Tryd.ntmps60
  go_wp2_with fail
  exact bodyPost_ret (v := .agg #[.int .i64 9223372036854775807, .int .i64 9223372036854775807, .int .i64 9223372036854775807, .int .i64 9223372036854775807, .int .i64 9223372036854775807, .int .i64 9223372036854775807]) (by simp [results, Tryd.results60, go_sem]) rfl ⟨rfl, bound.up1 _ _⟩
theorem oth_is (i : Nat) (hi : i < 6) (w : World) : Calls Tryd.prog 39 #[.int .i64 i] w fun e w' => e = .returned (.int .i64 (oth i : Nat)) ∧ w = w' := by
  rcases minus.six_is hi with rfl | rfl | rfl | rfl | rfl | rfl
  all_goals
    go_enter Tryd.func39, Tryd.ntmps39
    go_wp2_with fail
    go_ret
    exact ⟨rfl, rfl⟩
/-- a zone with one bound alone, as six letters. -/
theorem one_set {i : Nat} {v : Int} (hi : i < 6) : ∃ o0 o1 o2 o3 o4 o5 : Int, [o0, o1, o2, o3, o4, o5] = oneZ i v ∧ ([.int .i64 9223372036854775807, .int .i64 9223372036854775807, .int .i64 9223372036854775807, .int .i64 9223372036854775807, .int .i64 9223372036854775807, .int .i64 9223372036854775807].set i (Value.int .i64 v)).toArray = #[.int .i64 o0, .int .i64 o1, .int .i64 o2, .int .i64 o3, .int .i64 o4, .int .i64 o5] := by
  rcases minus.six_is hi with rfl | rfl | rfl | rfl | rfl | rfl
  all_goals exact ⟨_, _, _, _, _, _, rfl, rfl⟩
theorem own_put {W : World} {base n s q i : Nat} {t : TypeId} {v u : Value} {xs : List Value} (h : W.ownsRow base t s v n xs) (hne : ∀ g, v.ownBlock = some g → g ≠ q) : (W.setCell ⟨q, i, none⟩ u).ownsRow base t s v n xs := by
  refine ⟨h.1, ?_⟩
  rcases h.2 with k | ⟨g, cap, cur, rfl, h1, h2, h3⟩
  · exact .inl k
  · exact .inr ⟨g, cap, cur, rfl, h1, (Below.heap_setCell W ⟨q, i, none⟩ u g (hne g rfl)).trans h2, h3⟩
theorem own_type {W : World} {base n s q : Nat} {t t' : TypeId} {v : Value} {xs : List Value} {cs : Array Value} (h : W.ownsRow base t s v n xs) (k : lies.Lies W q t' cs) (ht : t ≠ t') : ∀ g, v.ownBlock = some g → g ≠ q := fun g e hg => by
  rcases h.2 with ⟨rfl, _⟩ | ⟨g', cap, cur, rfl, _, h2, _⟩
  · cases e
  · cases e
    have hg : g' = q := hg
    rw [hg] at h2
    have k : W.heap[q]? = some (.cells cs t' (0, 0)) := k
    rw [h2] at k
    cases k
    exact ht rfl
theorem own_low {W : World} {base base' n s : Nat} {t : TypeId} {v : Value} {xs : List Value} (h : W.ownsRow base t s v n xs) (hb : base' ≤ base) : W.ownsRow base' t s v n xs := by
  refine ⟨h.1, ?_⟩
  rcases h.2 with k | ⟨g, cap, cur, rfl, h1, h2⟩
  · exact .inl k
  · exact .inr ⟨g, cap, cur, rfl, Nat.le_trans hb h1, h2⟩

/-- what With answers. -/
def Wd (R : List Int → Int → Prop) (w : World) (e : Ending) (w' : World) : Prop := Below w.heap.size w w' ∧ ∃ y0 y1 y2 y3 y4 y5 f, e = .returned (.tuple #[.agg #[.int .i64 y0, .int .i64 y1, .int .i64 y2, .int .i64 y3, .int .i64 y4, .int .i64 y5], .int .i64 f]) ∧ R [y0, y1, y2, y3, y4, y5] f
set_option maxRecDepth 100000 in
set_option maxHeartbeats 16000000 in
theorem with_any (z0 z1 z2 z3 z4 z5 : Int) (i : Nat) (v : Int) (w : World) (hi : i < 6) (ha : MayZ [z0, z1, z2, z3, z4, z5]) (ta : Tops [z0, z1, z2, z3, z4, z5]) (hv : Fine v) : Calls Tryd.prog 38 #[.agg #[.int .i64 z0, .int .i64 z1, .int .i64 z2, .int .i64 z3, .int .i64 z4, .int .i64 z5], .int .i64 i, .int .i64 v] w (Wd (CutR [z0, z1, z2, z3, z4, z5] (oneZ i v)) w) := by
  have HA := Lib.hid ha
  have HT := Lib.hid ta
  have HV := Lib.hid hv
  have HTF := Lib.hid (full_tops ta)
  have HML := Lib.hid (lesT_may ha.may (one_may (i := i) hv))
  have HTL := Lib.hid (lesT_tops (full_tops ta) (fullT (oneZ i v)))
  have X : ∃ w0, w0 = (w.alloc (.cells #[.int .i64 z0, .int .i64 z1, .int .i64 z2, .int .i64 z3, .int .i64 z4, .int .i64 z5] 24)).alloc (.cells #[.int .i64 0, .int .i64 0, .int .i64 0, .int .i64 0, .int .i64 0, .int .i64 0] 24) := ⟨_, rfl⟩
  obtain ⟨w0, hX⟩ := X
  have DB : Below w.heap.size w w0 := by rw [hX]; exact bound.up2 _ _ _
  have D0 : lies.Lies w0 w.heap.size 24 #[.int .i64 z0, .int .i64 z1, .int .i64 z2, .int .i64 z3, .int .i64 z4, .int .i64 z5] := by rw [hX]; exact lies.on_alloc (lies.made _ _ _) _
  have D2 : lies.Lies w0 (w.heap.size + 1) 24 #[.int .i64 0, .int .i64 0, .int .i64 0, .int .i64 0, .int .i64 0, .int .i64 0] := by rw [hX]; exact lies.made_at _ _ _ _ (by simp)
  have hR : w.heap.size ≤ w.heap.size + 1 := by omega
  clear ha ta hv
  go_enter Tryd.func38, Tryd.ntmps38
  go_wp2_with fail
  rw [← hX]
  clear hX
  refine (none_is w0).mono ?_
  rintro e w1 ⟨rfl, hB⟩
  replace D0 := lies.on_call D0 hB
  replace D2 := lies.on_call D2 hB
  replace DB := later DB hB
  clear hB
  obtain ⟨o0, o1, o2, o3, o4, o5, hOE, hset⟩ := one_set (v := v) hi
  go_upto_region 3 with fail
  clear hset
  have HOE := Lib.hid hOE
  have hlt := lies.lt D2
  have hA := bound.up1 w1 (.cells #[.int .i64 o0, .int .i64 o1, .int .i64 o2, .int .i64 o3, .int .i64 o4, .int .i64 o5] 24)
  have D8 := lies.made w1 24 #[.int .i64 o0, .int .i64 o1, .int .i64 o2, .int .i64 o3, .int .i64 o4, .int .i64 o5]
  replace D0 := lies.on_call D0 hA
  replace D2 := lies.on_call D2 hA
  replace DB := later DB hA
  clear hA
  generalize w1.heap.size = X8 at D8 hlt ⊢
  generalize w1.alloc (.cells #[.int .i64 o0, .int .i64 o1, .int .i64 o2, .int .i64 o3, .int .i64 o4, .int .i64 o5] 24) = w8 at D0 D2 D8 DB ⊢
  have HML2 : RowKit.Hid (MayD 3 (lesT (fullT [z0, z1, z2, z3, z4, z5]) (fullT [o0, o1, o2, o3, o4, o5]))) := by rw [hOE]; exact HML
  clear hOE
  go_cut [9, 10] from 11 (fun s9 s10 wx => ∃ (T : Nat) (na : Int) (a : Option Addr) (l c : Nat) (us : List Int) (bl : Bool), s9 = .pointer (some ⟨T, 0, none⟩) ∧ s10 = .bool bl ∧ lies.Lies wx T 64 #[.int .i64 na, .slice a l c] ∧ lies.Lies wx (w.heap.size + 1) 24 #[.int .i64 0, .int .i64 0, .int .i64 0, .int .i64 0, .int .i64 0, .int .i64 0] ∧ Below w.heap.size w wx ∧ wx.ownsRow w.heap.size 22 1 (.slice a l c) us.length (us.map (Value.int .i64)) ∧ RowKit.Hid (tref.CommR 3 (lesT (fullT [z0, z1, z2, z3, z4, z5]) (fullT [o0, o1, o2, o3, o4, o5])) na us bl))
  case first =>
    have hDr := dbm.drawn1 (Below.refl w8.heap.size w8)
    replace D0 := lies.on_call D0 hDr
    replace D2 := lies.on_call D2 hDr
    replace D8 := lies.on_call D8 hDr
    replace DB := later DB hDr
    clear hDr
    refine wp_region_held_drew (S := fun W => lies.Lies W w.heap.size 24 #[.int .i64 z0, .int .i64 z1, .int .i64 z2, .int .i64 z3, .int .i64 z4, .int .i64 z5] ∧ lies.Lies W X8 24 #[.int .i64 o0, .int .i64 o1, .int .i64 o2, .int .i64 o3, .int .i64 o4, .int .i64 o5]) (by kernel_rfl) ⟨D0, D8⟩ (fun hHeld => ?_)
    generalize w8.drew = wD at D0 D2 D8 DB hHeld ⊢
    refine wpAnyH_take (i := 0) (v := ?_) rfl (by kernel_rfl) (by kernel_rfl) (by kernel_rfl) (fun _ _ _ h => h) (Or.inl ⟨by rfl, ?_⟩) hHeld ?_
    rotate_left
    · intro w hSw; obtain ⟨⟨c0, c1, c2, c3, c4, c5⟩, _⟩ := six_cells hSw.1; obtain ⟨⟨d0, d1, d2, d3, d4, d5⟩, _⟩ := six_cells hSw.2; go_simp; try with_reducible rfl
    try simp only [Act.put, List.getElem_toArray, List.getElem_cons_zero, List.getElem_cons_succ, List.setIfInBounds_toArray, List.set_cons_zero, List.set_cons_succ]
    refine wpAnyH_take (i := 2) (v := ?_) rfl (by kernel_rfl) (by kernel_rfl) (by kernel_rfl) (fun _ _ _ h => h) (Or.inl ⟨by rfl, ?_⟩) hHeld ?_
    rotate_left
    · intro w hSw; obtain ⟨⟨c0, c1, c2, c3, c4, c5⟩, _⟩ := six_cells hSw.1; obtain ⟨⟨d0, d1, d2, d3, d4, d5⟩, _⟩ := six_cells hSw.2; go_simp; try with_reducible rfl
    try simp only [Act.put, List.getElem_toArray, List.getElem_cons_zero, List.getElem_cons_succ, List.setIfInBounds_toArray, List.set_cons_zero, List.set_cons_succ]
    refine wpAnyH_ready (rs := [1, 8]) (by kernel_rfl) (by simp) (AllReadyH.cons rfl (fun K hK => ?_) (AllReadyH.cons rfl (fun K hK => ?_) AllReadyH.nil))
    · go_simp
      refine (full_is z0 z1 z2 z3 z4 z5 wD).mono ?_
      rintro e u2 ⟨hB, g1, hg, rfl, G1⟩
      replace D0 := lies.on_call D0 hB
      replace D2 := lies.on_call D2 hB
      replace D8 := lies.on_call D8 hB
      replace DB := later DB hB
      clear hB
      clear hg
      refine hK.out _ _ ⟨D0, D8⟩ (fun hNew => ?_)
      clear hHeld hK K
      have hHeld := hNew
      clear hNew
      try simp only [Act.put, List.getElem_toArray, List.getElem_cons_zero, List.getElem_cons_succ, List.setIfInBounds_toArray, List.set_cons_zero, List.set_cons_succ]
      refine wpAnyH_ready (rs := [3, 8]) (by kernel_rfl) (by simp) (AllReadyH.cons rfl (fun K hK => ?_) (AllReadyH.cons rfl (fun K hK => ?_) AllReadyH.nil))
      · go_simp
        refine (full_is o0 o1 o2 o3 o4 o5 u2).mono ?_
        rintro e u3 ⟨hB, g2, hg, rfl, G2⟩
        replace D0 := lies.on_call D0 hB
        replace D2 := lies.on_call D2 hB
        replace D8 := lies.on_call D8 hB
        replace G1 := lies.on_call G1 hB
        replace DB := later DB hB
        clear hB
        clear hg
        refine hK.out _ _ ⟨D0, D8⟩ (fun hNew => ?_)
        clear hHeld hK K
        have hHeld := hNew
        clear hNew
        try simp only [Act.put, List.getElem_toArray, List.getElem_cons_zero, List.getElem_cons_succ, List.setIfInBounds_toArray, List.set_cons_zero, List.set_cons_succ]
        refine wpAnyH_ready (rs := [4, 8]) (by kernel_rfl) (by simp) (AllReadyH.cons rfl (fun K hK => ?_) (AllReadyH.cons rfl (fun K hK => ?_) AllReadyH.nil))
        · go_simp
          refine (tref.common_is 3 (.slice (some ⟨g1, 0, none⟩) 9 9) g2 0 9 (fullT [z0, z1, z2, z3, z4, z5]) (fullT [o0, o1, o2, o3, o4, o5]) u3 (by decide) (by decide) (dlaw.own_ints (cap := 9) G1) (row_of G2) (lies.lt G2) rfl rfl HTF.out HML2.out).mono ?_
          intro e u4 hC
          obtain ⟨hB, na, a, l, c, us, bl, rfl, hR2, hO⟩ := tref.comm_one hC
          skip
          have HOW := Lib.hid (own_low hO DB.size)
          have HR2 := Lib.hid hR2
          clear hO hR2 hC
          replace D0 := lies.on_call D0 hB
          replace D2 := lies.on_call D2 hB
          replace D8 := lies.on_call D8 hB
          replace G1 := lies.on_call G1 hB
          replace G2 := lies.on_call G2 hB
          replace DB := later DB hB
          clear hB
          clear G1 G2
          refine hK.out _ _ ⟨D0, D8⟩ (fun hNew => ?_)
          clear hHeld hK K
          have hHeld := hNew
          clear hNew
          try simp only [Act.put, List.getElem_toArray, List.getElem_cons_zero, List.getElem_cons_succ, List.setIfInBounds_toArray, List.set_cons_zero, List.set_cons_succ]
          refine wpAnyH_take (i := 5) (v := ?_) rfl (by kernel_rfl) (by kernel_rfl) (by kernel_rfl) (fun _ _ _ h => h) (Or.inl ⟨by rfl, ?_⟩) hHeld ?_
          rotate_left
          · intro w hSw; skip; go_simp; try with_reducible rfl
          try simp only [Act.put, List.getElem_toArray, List.getElem_cons_zero, List.getElem_cons_succ, List.setIfInBounds_toArray, List.set_cons_zero, List.set_cons_succ]
          refine wpAnyH_take (i := 6) (v := ?_) rfl (by kernel_rfl) (by kernel_rfl) (by kernel_rfl) (fun _ _ _ h => h) (Or.inl ⟨by rfl, ?_⟩) hHeld ?_
          rotate_left
          · intro w hSw; skip; go_simp; try with_reducible rfl
          try simp only [Act.put, List.getElem_toArray, List.getElem_cons_zero, List.getElem_cons_succ, List.setIfInBounds_toArray, List.set_cons_zero, List.set_cons_succ]
          refine wpAnyH_take (i := 7) (v := ?_) rfl (by kernel_rfl) (by kernel_rfl) (by kernel_rfl) (fun _ _ _ h => h) (Or.inl ⟨by rfl, ?_⟩) hHeld ?_
          rotate_left
          · intro w hSw; skip; go_simp; try with_reducible rfl
          try simp only [Act.put, List.getElem_toArray, List.getElem_cons_zero, List.getElem_cons_succ, List.setIfInBounds_toArray, List.set_cons_zero, List.set_cons_succ]
          refine wpAnyH_ready (rs := [8]) (by kernel_rfl) (by simp) (AllReadyH.cons rfl (fun K hK => ?_) AllReadyH.nil)
          go_simp
          have HSZ := DB.size
          have hA := bound.up1 u4 (.cells #[.int .i64 0, .slice none 0 0] 64)
          have DT := lies.made u4 64 #[.int .i64 0, .slice none 0 0]
          replace D0 := lies.on_call D0 hA
          replace D2 := lies.on_call D2 hA
          replace D8 := lies.on_call D8 hA
          replace DB := later DB hA
          replace HOW := Lib.hid (incl.own_call HOW.out hA)
          clear hA
          refine hK.out _ _ ⟨D0, D8⟩ (fun hNew => ?_)
          clear hHeld hK K
          have hHeld := hNew
          clear hNew
          try simp only [Act.put, List.getElem_toArray, List.getElem_cons_zero, List.getElem_cons_succ, List.setIfInBounds_toArray, List.set_cons_zero, List.set_cons_succ]
          have hXw : w.heap.size ≤ (World.heap u4).size := HSZ
          generalize (World.heap u4).size = XDT at DT hXw ⊢
          generalize World.alloc u4 (.cells #[.int .i64 0, .slice none 0 0] 64) = u5 at D0 D2 D8 DT HOW DB hHeld ⊢
          have hne := own_type HOW.out DT (by decide)
          have hT2 := ne_type DT D2 (by decide)
          obtain ⟨t0, t1, t2, t3, t4⟩ := lies.two DT
          refine wpAnyH_ready (rs := [9]) (by kernel_rfl) (by simp) (AllReadyH.cons rfl (fun K hK => ?_) AllReadyH.nil)
          go_simp
          replace HOW := Lib.hid (own_put (i := 1) (u := (.slice a l c)) (own_put (i := 0) (u := (.int .i64 na)) HOW.out hne) hne)
          replace D2 := lies.on_far (lies.on_far D2 (b := XDT) 0 hT2.symm (.int .i64 na)) (b := XDT) 1 hT2.symm (.slice a l c)
          have k0 := ne_type DT D0 (by decide)
          have k8 := ne_type DT D8 (by decide)
          replace D0 := lies.on_far (lies.on_far D0 (b := XDT) 0 k0.symm (.int .i64 na)) (b := XDT) 1 k0.symm (.slice a l c)
          replace D8 := lies.on_far (lies.on_far D8 (b := XDT) 0 k8.symm (.int .i64 na)) (b := XDT) 1 k8.symm (.slice a l c)
          replace DB := (DB.setCell (p := ⟨XDT, 0, none⟩) hXw (.int .i64 na)).setCell (p := ⟨XDT, 1, none⟩) hXw (.slice a l c)
          replace DT := put_two DT (.int .i64 na) (.slice a l c)
          refine hK.out _ _ ⟨D0, D8⟩ (fun hNew => ?_)
          clear t0 t1 t2 t3 t4
          clear hHeld hK K
          have hHeld := hNew
          clear hNew
          try simp only [Act.put, List.getElem_toArray, List.getElem_cons_zero, List.getElem_cons_succ, List.setIfInBounds_toArray, List.set_cons_zero, List.set_cons_succ]
          refine wpAnyH_take (i := 10) (v := ?_) rfl (by kernel_rfl) (by kernel_rfl) (by kernel_rfl) (fun _ _ _ h => h) (Or.inl ⟨by rfl, ?_⟩) hHeld ?_
          rotate_left
          · intro w hSw; skip; go_simp; try with_reducible rfl
          try simp only [Act.put, List.getElem_toArray, List.getElem_cons_zero, List.getElem_cons_succ, List.setIfInBounds_toArray, List.set_cons_zero, List.set_cons_succ]
          refine wpAnyH_done (by kernel_rfl) ?_ _
          clear hHeld D0 D8
          go_wp2_with fail
          go_meet
          exact ⟨_, _, _, _, _, _, _, rfl, rfl, DT, D2, DB, HOW.out, HR2⟩
        · go_simp
          have HSZ := DB.size
          have hA := bound.up1 u3 (.cells #[.int .i64 0, .slice none 0 0] 64)
          have DT := lies.made u3 64 #[.int .i64 0, .slice none 0 0]
          replace D0 := lies.on_call D0 hA
          replace D2 := lies.on_call D2 hA
          replace D8 := lies.on_call D8 hA
          replace G1 := lies.on_call G1 hA
          replace G2 := lies.on_call G2 hA
          replace DB := later DB hA
          clear hA
          refine hK.out _ _ ⟨D0, D8⟩ (fun hNew => ?_)
          clear hHeld hK K
          have hHeld := hNew
          clear hNew
          try simp only [Act.put, List.getElem_toArray, List.getElem_cons_zero, List.getElem_cons_succ, List.setIfInBounds_toArray, List.set_cons_zero, List.set_cons_succ]
          have hXw : w.heap.size ≤ (World.heap u3).size := HSZ
          generalize (World.heap u3).size = XDT at DT hXw ⊢
          generalize World.alloc u3 (.cells #[.int .i64 0, .slice none 0 0] 64) = u4 at D0 D2 D8 G1 G2 DT DB hHeld ⊢
          refine wpAnyH_ready (rs := [4]) (by kernel_rfl) (by simp) (AllReadyH.cons rfl (fun K hK => ?_) AllReadyH.nil)
          go_simp
          refine (tref.common_is 3 (.slice (some ⟨g1, 0, none⟩) 9 9) g2 0 9 (fullT [z0, z1, z2, z3, z4, z5]) (fullT [o0, o1, o2, o3, o4, o5]) u4 (by decide) (by decide) (dlaw.own_ints (cap := 9) G1) (row_of G2) (lies.lt G2) rfl rfl HTF.out HML2.out).mono ?_
          intro e u5 hC
          obtain ⟨hB, na, a, l, c, us, bl, rfl, hR2, hO⟩ := tref.comm_one hC
          skip
          have HOW := Lib.hid (own_low hO DB.size)
          have HR2 := Lib.hid hR2
          clear hO hR2 hC
          replace D0 := lies.on_call D0 hB
          replace D2 := lies.on_call D2 hB
          replace D8 := lies.on_call D8 hB
          replace G1 := lies.on_call G1 hB
          replace G2 := lies.on_call G2 hB
          replace DT := lies.on_call DT hB
          replace DB := later DB hB
          clear hB
          clear G1 G2
          refine hK.out _ _ ⟨D0, D8⟩ (fun hNew => ?_)
          clear hHeld hK K
          have hHeld := hNew
          clear hNew
          try simp only [Act.put, List.getElem_toArray, List.getElem_cons_zero, List.getElem_cons_succ, List.setIfInBounds_toArray, List.set_cons_zero, List.set_cons_succ]
          refine wpAnyH_take (i := 5) (v := ?_) rfl (by kernel_rfl) (by kernel_rfl) (by kernel_rfl) (fun _ _ _ h => h) (Or.inl ⟨by rfl, ?_⟩) hHeld ?_
          rotate_left
          · intro w hSw; skip; go_simp; try with_reducible rfl
          try simp only [Act.put, List.getElem_toArray, List.getElem_cons_zero, List.getElem_cons_succ, List.setIfInBounds_toArray, List.set_cons_zero, List.set_cons_succ]
          refine wpAnyH_take (i := 6) (v := ?_) rfl (by kernel_rfl) (by kernel_rfl) (by kernel_rfl) (fun _ _ _ h => h) (Or.inl ⟨by rfl, ?_⟩) hHeld ?_
          rotate_left
          · intro w hSw; skip; go_simp; try with_reducible rfl
          try simp only [Act.put, List.getElem_toArray, List.getElem_cons_zero, List.getElem_cons_succ, List.setIfInBounds_toArray, List.set_cons_zero, List.set_cons_succ]
          refine wpAnyH_take (i := 7) (v := ?_) rfl (by kernel_rfl) (by kernel_rfl) (by kernel_rfl) (fun _ _ _ h => h) (Or.inl ⟨by rfl, ?_⟩) hHeld ?_
          rotate_left
          · intro w hSw; skip; go_simp; try with_reducible rfl
          try simp only [Act.put, List.getElem_toArray, List.getElem_cons_zero, List.getElem_cons_succ, List.setIfInBounds_toArray, List.set_cons_zero, List.set_cons_succ]
          have hne := own_type HOW.out DT (by decide)
          have hT2 := ne_type DT D2 (by decide)
          obtain ⟨t0, t1, t2, t3, t4⟩ := lies.two DT
          refine wpAnyH_ready (rs := [9]) (by kernel_rfl) (by simp) (AllReadyH.cons rfl (fun K hK => ?_) AllReadyH.nil)
          go_simp
          replace HOW := Lib.hid (own_put (i := 1) (u := (.slice a l c)) (own_put (i := 0) (u := (.int .i64 na)) HOW.out hne) hne)
          replace D2 := lies.on_far (lies.on_far D2 (b := XDT) 0 hT2.symm (.int .i64 na)) (b := XDT) 1 hT2.symm (.slice a l c)
          have k0 := ne_type DT D0 (by decide)
          have k8 := ne_type DT D8 (by decide)
          replace D0 := lies.on_far (lies.on_far D0 (b := XDT) 0 k0.symm (.int .i64 na)) (b := XDT) 1 k0.symm (.slice a l c)
          replace D8 := lies.on_far (lies.on_far D8 (b := XDT) 0 k8.symm (.int .i64 na)) (b := XDT) 1 k8.symm (.slice a l c)
          replace DB := (DB.setCell (p := ⟨XDT, 0, none⟩) hXw (.int .i64 na)).setCell (p := ⟨XDT, 1, none⟩) hXw (.slice a l c)
          replace DT := put_two DT (.int .i64 na) (.slice a l c)
          refine hK.out _ _ ⟨D0, D8⟩ (fun hNew => ?_)
          clear t0 t1 t2 t3 t4
          clear hHeld hK K
          have hHeld := hNew
          clear hNew
          try simp only [Act.put, List.getElem_toArray, List.getElem_cons_zero, List.getElem_cons_succ, List.setIfInBounds_toArray, List.set_cons_zero, List.set_cons_succ]
          refine wpAnyH_take (i := 10) (v := ?_) rfl (by kernel_rfl) (by kernel_rfl) (by kernel_rfl) (fun _ _ _ h => h) (Or.inl ⟨by rfl, ?_⟩) hHeld ?_
          rotate_left
          · intro w hSw; skip; go_simp; try with_reducible rfl
          try simp only [Act.put, List.getElem_toArray, List.getElem_cons_zero, List.getElem_cons_succ, List.setIfInBounds_toArray, List.set_cons_zero, List.set_cons_succ]
          refine wpAnyH_done (by kernel_rfl) ?_ _
          clear hHeld D0 D8
          go_wp2_with fail
          go_meet
          exact ⟨_, _, _, _, _, _, _, rfl, rfl, DT, D2, DB, HOW.out, HR2⟩
      · go_simp
        have HSZ := DB.size
        have hA := bound.up1 u2 (.cells #[.int .i64 0, .slice none 0 0] 64)
        have DT := lies.made u2 64 #[.int .i64 0, .slice none 0 0]
        replace D0 := lies.on_call D0 hA
        replace D2 := lies.on_call D2 hA
        replace D8 := lies.on_call D8 hA
        replace G1 := lies.on_call G1 hA
        replace DB := later DB hA
        clear hA
        refine hK.out _ _ ⟨D0, D8⟩ (fun hNew => ?_)
        clear hHeld hK K
        have hHeld := hNew
        clear hNew
        try simp only [Act.put, List.getElem_toArray, List.getElem_cons_zero, List.getElem_cons_succ, List.setIfInBounds_toArray, List.set_cons_zero, List.set_cons_succ]
        have hXw : w.heap.size ≤ (World.heap u2).size := HSZ
        generalize (World.heap u2).size = XDT at DT hXw ⊢
        generalize World.alloc u2 (.cells #[.int .i64 0, .slice none 0 0] 64) = u3 at D0 D2 D8 G1 DT DB hHeld ⊢
        refine wpAnyH_ready (rs := [3]) (by kernel_rfl) (by simp) (AllReadyH.cons rfl (fun K hK => ?_) AllReadyH.nil)
        go_simp
        refine (full_is o0 o1 o2 o3 o4 o5 u3).mono ?_
        rintro e u4 ⟨hB, g2, hg, rfl, G2⟩
        replace D0 := lies.on_call D0 hB
        replace D2 := lies.on_call D2 hB
        replace D8 := lies.on_call D8 hB
        replace G1 := lies.on_call G1 hB
        replace DT := lies.on_call DT hB
        replace DB := later DB hB
        clear hB
        clear hg
        refine hK.out _ _ ⟨D0, D8⟩ (fun hNew => ?_)
        clear hHeld hK K
        have hHeld := hNew
        clear hNew
        try simp only [Act.put, List.getElem_toArray, List.getElem_cons_zero, List.getElem_cons_succ, List.setIfInBounds_toArray, List.set_cons_zero, List.set_cons_succ]
        refine wpAnyH_ready (rs := [4]) (by kernel_rfl) (by simp) (AllReadyH.cons rfl (fun K hK => ?_) AllReadyH.nil)
        go_simp
        refine (tref.common_is 3 (.slice (some ⟨g1, 0, none⟩) 9 9) g2 0 9 (fullT [z0, z1, z2, z3, z4, z5]) (fullT [o0, o1, o2, o3, o4, o5]) u4 (by decide) (by decide) (dlaw.own_ints (cap := 9) G1) (row_of G2) (lies.lt G2) rfl rfl HTF.out HML2.out).mono ?_
        intro e u5 hC
        obtain ⟨hB, na, a, l, c, us, bl, rfl, hR2, hO⟩ := tref.comm_one hC
        skip
        have HOW := Lib.hid (own_low hO DB.size)
        have HR2 := Lib.hid hR2
        clear hO hR2 hC
        replace D0 := lies.on_call D0 hB
        replace D2 := lies.on_call D2 hB
        replace D8 := lies.on_call D8 hB
        replace G1 := lies.on_call G1 hB
        replace DT := lies.on_call DT hB
        replace G2 := lies.on_call G2 hB
        replace DB := later DB hB
        clear hB
        clear G1 G2
        refine hK.out _ _ ⟨D0, D8⟩ (fun hNew => ?_)
        clear hHeld hK K
        have hHeld := hNew
        clear hNew
        try simp only [Act.put, List.getElem_toArray, List.getElem_cons_zero, List.getElem_cons_succ, List.setIfInBounds_toArray, List.set_cons_zero, List.set_cons_succ]
        refine wpAnyH_take (i := 5) (v := ?_) rfl (by kernel_rfl) (by kernel_rfl) (by kernel_rfl) (fun _ _ _ h => h) (Or.inl ⟨by rfl, ?_⟩) hHeld ?_
        rotate_left
        · intro w hSw; skip; go_simp; try with_reducible rfl
        try simp only [Act.put, List.getElem_toArray, List.getElem_cons_zero, List.getElem_cons_succ, List.setIfInBounds_toArray, List.set_cons_zero, List.set_cons_succ]
        refine wpAnyH_take (i := 6) (v := ?_) rfl (by kernel_rfl) (by kernel_rfl) (by kernel_rfl) (fun _ _ _ h => h) (Or.inl ⟨by rfl, ?_⟩) hHeld ?_
        rotate_left
        · intro w hSw; skip; go_simp; try with_reducible rfl
        try simp only [Act.put, List.getElem_toArray, List.getElem_cons_zero, List.getElem_cons_succ, List.setIfInBounds_toArray, List.set_cons_zero, List.set_cons_succ]
        refine wpAnyH_take (i := 7) (v := ?_) rfl (by kernel_rfl) (by kernel_rfl) (by kernel_rfl) (fun _ _ _ h => h) (Or.inl ⟨by rfl, ?_⟩) hHeld ?_
        rotate_left
        · intro w hSw; skip; go_simp; try with_reducible rfl
        try simp only [Act.put, List.getElem_toArray, List.getElem_cons_zero, List.getElem_cons_succ, List.setIfInBounds_toArray, List.set_cons_zero, List.set_cons_succ]
        have hne := own_type HOW.out DT (by decide)
        have hT2 := ne_type DT D2 (by decide)
        obtain ⟨t0, t1, t2, t3, t4⟩ := lies.two DT
        refine wpAnyH_ready (rs := [9]) (by kernel_rfl) (by simp) (AllReadyH.cons rfl (fun K hK => ?_) AllReadyH.nil)
        go_simp
        replace HOW := Lib.hid (own_put (i := 1) (u := (.slice a l c)) (own_put (i := 0) (u := (.int .i64 na)) HOW.out hne) hne)
        replace D2 := lies.on_far (lies.on_far D2 (b := XDT) 0 hT2.symm (.int .i64 na)) (b := XDT) 1 hT2.symm (.slice a l c)
        have k0 := ne_type DT D0 (by decide)
        have k8 := ne_type DT D8 (by decide)
        replace D0 := lies.on_far (lies.on_far D0 (b := XDT) 0 k0.symm (.int .i64 na)) (b := XDT) 1 k0.symm (.slice a l c)
        replace D8 := lies.on_far (lies.on_far D8 (b := XDT) 0 k8.symm (.int .i64 na)) (b := XDT) 1 k8.symm (.slice a l c)
        replace DB := (DB.setCell (p := ⟨XDT, 0, none⟩) hXw (.int .i64 na)).setCell (p := ⟨XDT, 1, none⟩) hXw (.slice a l c)
        replace DT := put_two DT (.int .i64 na) (.slice a l c)
        refine hK.out _ _ ⟨D0, D8⟩ (fun hNew => ?_)
        clear t0 t1 t2 t3 t4
        clear hHeld hK K
        have hHeld := hNew
        clear hNew
        try simp only [Act.put, List.getElem_toArray, List.getElem_cons_zero, List.getElem_cons_succ, List.setIfInBounds_toArray, List.set_cons_zero, List.set_cons_succ]
        refine wpAnyH_take (i := 10) (v := ?_) rfl (by kernel_rfl) (by kernel_rfl) (by kernel_rfl) (fun _ _ _ h => h) (Or.inl ⟨by rfl, ?_⟩) hHeld ?_
        rotate_left
        · intro w hSw; skip; go_simp; try with_reducible rfl
        try simp only [Act.put, List.getElem_toArray, List.getElem_cons_zero, List.getElem_cons_succ, List.setIfInBounds_toArray, List.set_cons_zero, List.set_cons_succ]
        refine wpAnyH_done (by kernel_rfl) ?_ _
        clear hHeld D0 D8
        go_wp2_with fail
        go_meet
        exact ⟨_, _, _, _, _, _, _, rfl, rfl, DT, D2, DB, HOW.out, HR2⟩
    · go_simp
      have HSZ := DB.size
      have hA := bound.up1 wD (.cells #[.int .i64 0, .slice none 0 0] 64)
      have DT := lies.made wD 64 #[.int .i64 0, .slice none 0 0]
      replace D0 := lies.on_call D0 hA
      replace D2 := lies.on_call D2 hA
      replace D8 := lies.on_call D8 hA
      replace DB := later DB hA
      clear hA
      refine hK.out _ _ ⟨D0, D8⟩ (fun hNew => ?_)
      clear hHeld hK K
      have hHeld := hNew
      clear hNew
      try simp only [Act.put, List.getElem_toArray, List.getElem_cons_zero, List.getElem_cons_succ, List.setIfInBounds_toArray, List.set_cons_zero, List.set_cons_succ]
      have hXw : w.heap.size ≤ (World.heap wD).size := HSZ
      generalize (World.heap wD).size = XDT at DT hXw ⊢
      generalize World.alloc wD (.cells #[.int .i64 0, .slice none 0 0] 64) = u2 at D0 D2 D8 DT DB hHeld ⊢
      refine wpAnyH_ready (rs := [1]) (by kernel_rfl) (by simp) (AllReadyH.cons rfl (fun K hK => ?_) AllReadyH.nil)
      go_simp
      refine (full_is z0 z1 z2 z3 z4 z5 u2).mono ?_
      rintro e u3 ⟨hB, g1, hg, rfl, G1⟩
      replace D0 := lies.on_call D0 hB
      replace D2 := lies.on_call D2 hB
      replace D8 := lies.on_call D8 hB
      replace DT := lies.on_call DT hB
      replace DB := later DB hB
      clear hB
      clear hg
      refine hK.out _ _ ⟨D0, D8⟩ (fun hNew => ?_)
      clear hHeld hK K
      have hHeld := hNew
      clear hNew
      try simp only [Act.put, List.getElem_toArray, List.getElem_cons_zero, List.getElem_cons_succ, List.setIfInBounds_toArray, List.set_cons_zero, List.set_cons_succ]
      refine wpAnyH_ready (rs := [3]) (by kernel_rfl) (by simp) (AllReadyH.cons rfl (fun K hK => ?_) AllReadyH.nil)
      go_simp
      refine (full_is o0 o1 o2 o3 o4 o5 u3).mono ?_
      rintro e u4 ⟨hB, g2, hg, rfl, G2⟩
      replace D0 := lies.on_call D0 hB
      replace D2 := lies.on_call D2 hB
      replace D8 := lies.on_call D8 hB
      replace DT := lies.on_call DT hB
      replace G1 := lies.on_call G1 hB
      replace DB := later DB hB
      clear hB
      clear hg
      refine hK.out _ _ ⟨D0, D8⟩ (fun hNew => ?_)
      clear hHeld hK K
      have hHeld := hNew
      clear hNew
      try simp only [Act.put, List.getElem_toArray, List.getElem_cons_zero, List.getElem_cons_succ, List.setIfInBounds_toArray, List.set_cons_zero, List.set_cons_succ]
      refine wpAnyH_ready (rs := [4]) (by kernel_rfl) (by simp) (AllReadyH.cons rfl (fun K hK => ?_) AllReadyH.nil)
      go_simp
      refine (tref.common_is 3 (.slice (some ⟨g1, 0, none⟩) 9 9) g2 0 9 (fullT [z0, z1, z2, z3, z4, z5]) (fullT [o0, o1, o2, o3, o4, o5]) u4 (by decide) (by decide) (dlaw.own_ints (cap := 9) G1) (row_of G2) (lies.lt G2) rfl rfl HTF.out HML2.out).mono ?_
      intro e u5 hC
      obtain ⟨hB, na, a, l, c, us, bl, rfl, hR2, hO⟩ := tref.comm_one hC
      skip
      have HOW := Lib.hid (own_low hO DB.size)
      have HR2 := Lib.hid hR2
      clear hO hR2 hC
      replace D0 := lies.on_call D0 hB
      replace D2 := lies.on_call D2 hB
      replace D8 := lies.on_call D8 hB
      replace DT := lies.on_call DT hB
      replace G1 := lies.on_call G1 hB
      replace G2 := lies.on_call G2 hB
      replace DB := later DB hB
      clear hB
      clear G1 G2
      refine hK.out _ _ ⟨D0, D8⟩ (fun hNew => ?_)
      clear hHeld hK K
      have hHeld := hNew
      clear hNew
      try simp only [Act.put, List.getElem_toArray, List.getElem_cons_zero, List.getElem_cons_succ, List.setIfInBounds_toArray, List.set_cons_zero, List.set_cons_succ]
      refine wpAnyH_take (i := 5) (v := ?_) rfl (by kernel_rfl) (by kernel_rfl) (by kernel_rfl) (fun _ _ _ h => h) (Or.inl ⟨by rfl, ?_⟩) hHeld ?_
      rotate_left
      · intro w hSw; skip; go_simp; try with_reducible rfl
      try simp only [Act.put, List.getElem_toArray, List.getElem_cons_zero, List.getElem_cons_succ, List.setIfInBounds_toArray, List.set_cons_zero, List.set_cons_succ]
      refine wpAnyH_take (i := 6) (v := ?_) rfl (by kernel_rfl) (by kernel_rfl) (by kernel_rfl) (fun _ _ _ h => h) (Or.inl ⟨by rfl, ?_⟩) hHeld ?_
      rotate_left
      · intro w hSw; skip; go_simp; try with_reducible rfl
      try simp only [Act.put, List.getElem_toArray, List.getElem_cons_zero, List.getElem_cons_succ, List.setIfInBounds_toArray, List.set_cons_zero, List.set_cons_succ]
      refine wpAnyH_take (i := 7) (v := ?_) rfl (by kernel_rfl) (by kernel_rfl) (by kernel_rfl) (fun _ _ _ h => h) (Or.inl ⟨by rfl, ?_⟩) hHeld ?_
      rotate_left
      · intro w hSw; skip; go_simp; try with_reducible rfl
      try simp only [Act.put, List.getElem_toArray, List.getElem_cons_zero, List.getElem_cons_succ, List.setIfInBounds_toArray, List.set_cons_zero, List.set_cons_succ]
      have hne := own_type HOW.out DT (by decide)
      have hT2 := ne_type DT D2 (by decide)
      obtain ⟨t0, t1, t2, t3, t4⟩ := lies.two DT
      refine wpAnyH_ready (rs := [9]) (by kernel_rfl) (by simp) (AllReadyH.cons rfl (fun K hK => ?_) AllReadyH.nil)
      go_simp
      replace HOW := Lib.hid (own_put (i := 1) (u := (.slice a l c)) (own_put (i := 0) (u := (.int .i64 na)) HOW.out hne) hne)
      replace D2 := lies.on_far (lies.on_far D2 (b := XDT) 0 hT2.symm (.int .i64 na)) (b := XDT) 1 hT2.symm (.slice a l c)
      have k0 := ne_type DT D0 (by decide)
      have k8 := ne_type DT D8 (by decide)
      replace D0 := lies.on_far (lies.on_far D0 (b := XDT) 0 k0.symm (.int .i64 na)) (b := XDT) 1 k0.symm (.slice a l c)
      replace D8 := lies.on_far (lies.on_far D8 (b := XDT) 0 k8.symm (.int .i64 na)) (b := XDT) 1 k8.symm (.slice a l c)
      replace DB := (DB.setCell (p := ⟨XDT, 0, none⟩) hXw (.int .i64 na)).setCell (p := ⟨XDT, 1, none⟩) hXw (.slice a l c)
      replace DT := put_two DT (.int .i64 na) (.slice a l c)
      refine hK.out _ _ ⟨D0, D8⟩ (fun hNew => ?_)
      clear t0 t1 t2 t3 t4
      clear hHeld hK K
      have hHeld := hNew
      clear hNew
      try simp only [Act.put, List.getElem_toArray, List.getElem_cons_zero, List.getElem_cons_succ, List.setIfInBounds_toArray, List.set_cons_zero, List.set_cons_succ]
      refine wpAnyH_take (i := 10) (v := ?_) rfl (by kernel_rfl) (by kernel_rfl) (by kernel_rfl) (fun _ _ _ h => h) (Or.inl ⟨by rfl, ?_⟩) hHeld ?_
      rotate_left
      · intro w hSw; skip; go_simp; try with_reducible rfl
      try simp only [Act.put, List.getElem_toArray, List.getElem_cons_zero, List.getElem_cons_succ, List.setIfInBounds_toArray, List.set_cons_zero, List.set_cons_succ]
      refine wpAnyH_done (by kernel_rfl) ?_ _
      clear hHeld D0 D8
      go_wp2_with fail
      go_meet
      exact ⟨_, _, _, _, _, _, _, rfl, rfl, DT, D2, DB, HOW.out, HR2⟩
  case rest =>
    skip
    obtain ⟨T, na, a, l, c, us, bl, rfl, rfl, DT, D2, DB, hO, hR2⟩ := hcut
    rcases hR2.out with ⟨hno, rfl, rfl, rfl⟩ | ⟨hok, rfl, hu, rfl⟩
    · have HN := Lib.hid (show ¬ OkD 3 (lesT (fullT [z0, z1, z2, z3, z4, z5]) (fullT (oneZ i v))) from HOE.out ▸ hno)
      clear hno hO hR2
      obtain ⟨⟨x0, x1, x2, x3, x4, x5⟩, ⟨y0, y1, y2, y3, y4, y5⟩, xl⟩ := six_cells D2
      clear D2 DT
      go_wp2_with fail
      exact bodyPost_ret (v := .tuple #[.agg #[.int .i64 0, .int .i64 0, .int .i64 0, .int .i64 0, .int .i64 0, .int .i64 0], .int .i64 6]) (by simp [results, Tryd.results38, go_sem, x0, x1, x2, x3, x4, x5, xl]) rfl ⟨put_six DB hR _ _ _ _ _ _, 0, 0, 0, 0, 0, 0, 6, rfl, .inl ⟨HN.out, rfl, rfl⟩⟩
    · rw [HOE.out] at hok hu
      have h9 : us.length = 9 := by rw [hu]; exact (clT_length hok).trans (lesT_length _ _)
      have hlo : Low us := by rw [hu]; exact cl_low (n := 3) (by decide) (by decide) (lesT_length _ _) HTL.out hok
      have hto : Tops us := by rw [hu]; exact clT_tops HTL.out
      obtain ⟨g, rfl, rfl⟩ : ∃ g, a = some ⟨g, 0, none⟩ ∧ l = 9 := by
        rcases ownsRow_forms hO with ⟨_, h0⟩ | ⟨g, cap, hv⟩
        · omega
        · injection hv with h1 h2 h3
          exact ⟨g, h1, h2.trans h9⟩
      have HU := Lib.hid hu
      have HOK := Lib.hid hok
      have HO := Lib.hid hO
      have HLO := Lib.hid hlo
      have HTO := Lib.hid hto
      have H9 := Lib.hid h9
      clear hu hok hO hlo hto h9 hR2
      obtain ⟨t0, t1, t2, t3, t4⟩ := lies.two DT
      go_wp2_with fail
      clear t0 t1 t2 t3 t4
      refine (dref.may_any 3 _ us _ (ints_row HO.out rfl) (by rw [H9.out]; decide) HLO.out HTO.out).mono ?_
      rintro e v1 ⟨rfl, hB⟩
      replace DT := lies.on_call DT hB
      replace D2 := lies.on_call D2 hB
      replace DB := later DB hB
      replace HO := Lib.hid (incl.own_call HO.out hB)
      clear hB
      by_cases hm : MayD 3 us
      · have HM := Lib.hid hm
        rw [decide_eq_true hm]
        clear hm
        obtain ⟨t0, t1, t2, t3, t4⟩ := lies.two DT
        go_wp2_with fail
        clear t0 t1 t2 t3 t4
        refine (short_is 3 g c us v1 (tref.own_row (by have := HO.out; rw [H9.out] at this; exact this) H9.out) (HO.out.lt g rfl).2 H9.out).mono ?_
        rintro e v2 ⟨hB, y0, y1, y2, y3, y4, y5, rfl, hV⟩
        replace D2 := lies.on_call D2 hB
        replace DB := later DB hB
        have HV2 := Lib.hid hV
        clear hB hV DT HO
        obtain ⟨⟨x0, x1, x2, x3, x4, x5⟩, ⟨q0, q1, q2, q3, q4, q5⟩, xl⟩ := six_cells D2
        clear D2
        go_wp2_with fail
        exact bodyPost_ret (v := .tuple #[.agg #[.int .i64 y0, .int .i64 y1, .int .i64 y2, .int .i64 y3, .int .i64 y4, .int .i64 y5], .int .i64 0]) (by simp [results, Tryd.results38, go_sem, x0, x1, x2, x3, x4, x5, xl]) rfl ⟨put_six DB hR _ _ _ _ _ _, y0, y1, y2, y3, y4, y5, 0, rfl, .inr (.inr ⟨HOK.out, HU.out ▸ HM.out, by rw [← HU.out]; exact HV2.out, rfl⟩)⟩
      · have HM := Lib.hid hm
        rw [decide_eq_false hm]
        clear hm DT HO
        obtain ⟨⟨x0, x1, x2, x3, x4, x5⟩, ⟨y0, y1, y2, y3, y4, y5⟩, xl⟩ := six_cells D2
        clear D2
        go_wp2_with fail
        exact bodyPost_ret (v := .tuple #[.agg #[.int .i64 0, .int .i64 0, .int .i64 0, .int .i64 0, .int .i64 0, .int .i64 0], .int .i64 8]) (by simp [results, Tryd.results38, go_sem, x0, x1, x2, x3, x4, x5, xl]) rfl ⟨put_six DB hR _ _ _ _ _ _, 0, 0, 0, 0, 0, 0, 8, rfl, .inr (.inl ⟨HOK.out, fun q => HM.out (HU.out ▸ q), rfl, rfl⟩)⟩
end Go.Proofs.YtkfnjdmjojodhaaDoor.mref
