/-
  What rallentandoref06's Picked, Pick and SameTimes answer; each theorem names its conditions.
-/
import Derived.Test.YtnbpcgkdnkihdaaInclR6
namespace Go.Proofs.Ytnbpcgkdnkihdaa.iref
open Go.ChangeShapes Go.WideShapes Go.ChangeAt Go.RowKit num rat dbm way Go.Proofs.Ytnbpcgkdnkihdaa.tight Go.Proofs.Ytnbpcgkdnkihdaa.incl Go.Proofs.Ytnbpcgkdnkihdaa.tlaw
open bound hiding up
set_option linter.unusedVariables false
set_option linter.unusedSimpArgs false

/-- what lies there while times are picked. -/
def Pr (n CB cg cc base : Nat) (us : List Int) (D : Tab) (k : Nat) (v : Value) (w W : World) : Prop :=
  lies.Lies W CB 27 #[.int .i64 n, .slice (some ⟨cg, 0, none⟩) (n * n) cc] ∧ Row W cg 0 us ∧ Below w.heap.size w W ∧ W.ownsRow base 36 2 v (k + 1) (flat (rsOf D k)) ∧ base ≤ W.heap.size
theorem Pr.below {n CB cg cc base : Nat} {us : List Int} {D : Tab} {k : Nat} {v : Value} {w W X : World} (h : Pr n CB cg cc base us D k v w W) (hcg : cg < base) (q : Below W.heap.size W X) : Pr n CB cg cc base us D k v w X :=
  ⟨lies.on_call h.1 q, h.2.1.below q (Nat.lt_of_lt_of_le hcg h.2.2.2.2), h.2.2.1.trans (q.mono h.2.2.1.size), incl.own_call h.2.2.2.1 q, Nat.le_trans h.2.2.2.2 q.size⟩
theorem Pr.push {n CB cg cc base : Nat} {us : List Int} {D : Tab} {k : Nat} {v v' : Value} {w W W' : World} {o : Obj} (h : Pr n CB cg cc base us D k v w W) (hwb : w.heap.size ≤ base) (hcb : CB < base) (hcg : cg < base)
    (hown : W'.ownsRow base 36 2 v' (k + 1 + 1) (flat (rsOf D k) ++ [.int .i64 (p8 (px D (k + 1))), .int .i64 (q8 (px D (k + 1)))])) (hgrow : (W.alloc o).grownBy W' v.ownBlock) : Pr n CB cg cc base us D (k + 1) v' w W' := by
  obtain ⟨h1, h2, h3, h4, h5⟩ := h
  have hb : ∀ q, v.ownBlock = some q → base ≤ q := fun q e => (h4.lt q e).1
  have hBB : Below base W W' := ((bound.up1 W o).mono h5).grown hgrow (by simp; omega) hb
  refine ⟨?_, h2.below hBB hcg, (lies.frame_up h3 o).grown hgrow (by have := h3.size; simp; omega) (fun q e => Nat.le_trans hwb (hb q e)), ?_, ?_⟩
  · exact (hBB.block CB hcb).trans h1
  · rw [flat_up1]; exact hown
  · have := hgrow.size; simp at this; omega
set_option maxRecDepth 100000 in
set_option maxHeartbeats 4000000 in
theorem picked_is (n cg cc : Nat) (ts : List Int) (w : World) (h0 : 0 < n) (hn : n ≤ 4) (hl : ts.length = n * n) (htop : Tops ts) (h : OkD n ts) (hr : Row w cg 0 (clT n ts)) (hcg : cg < w.heap.size) :
    Calls Try.prog 38 #[.agg #[.int .i64 n, .slice (some ⟨cg, 0, none⟩) (n * n) cc]] w fun e w' => Below w.heap.size w w' ∧ ∃ v, e = .returned v ∧ Rats w'.heap.size w' v (pks n ts) := by
  have hsq := sq_le hn
  have hus : (clT n ts).length = n * n := (clT_length h).trans hl
  have hfits := fun (s : Int) (hs : s = 1 ∨ s = -1) (i j k : Nat) hi hj hk hkn => clo_fit h0 hn hl htop h (s := s) hs (i := i) (j := j) (k := k) hi hj hk hkn
  have hnears := fun (u : Nat) (hu : u < n) => clo_near h0 hn hl htop h hu
  obtain ⟨i0, hi, hz0, hz1, hz2⟩ := info_parts info_r
  have HIN := Lib.hid (And.intro hi (And.intro hz0 (And.intro hz1 hz2)))
  have HUS := Lib.hid hus
  have HFI := Lib.hid hfits
  have HNE := Lib.hid hnears
  have E0 := lies.on_alloc (lies.made w 27 #[.int .i64 n, .slice (some ⟨cg, 0, none⟩) (n * n) cc]) (.cells #[.int .i64 0, .int .i64 1] 36)
  have EB := bound.up2 w (.cells #[.int .i64 n, .slice (some ⟨cg, 0, none⟩) (n * n) cc] 27) (.cells #[.int .i64 0, .int .i64 1] 36)
  have hown := World.ownsRow_lit (base := w.heap.size + 1) (e := 36) (size := 2) (w.alloc (.cells #[.int .i64 n, .slice (some ⟨cg, 0, none⟩) (n * n) cc] 27)) #[.int .i64 0, .int .i64 1] 1 (by simp) (by decide) rfl
  rw [World.size_alloc] at hown
  have P0 : Pr n w.heap.size cg cc (w.heap.size + 1) (clT n ts) (wts n (clT n ts)) 0 (.slice (some ⟨w.heap.size + 1, 0, none⟩) 1 1) w _ := ⟨E0, hr.below EB hcg, EB, by
    have e : flat (rsOf (wts n (clT n ts)) 0) = [.int .i64 0, .int .i64 1] := by
      show [Value.int .i64 (p8 0), Value.int .i64 (q8 0)] = _
      rw [eight_zero.1, eight_zero.2]
    rw [e]
    exact hown, by simp⟩
  have hcgb : cg < w.heap.size + 1 := by omega
  clear hl htop h hr hus hfits hnears hi hz0 hz1 hz2 E0 EB hown
  go_enter Try.func38, Try.ntmps38
  go_wp2_with fail
  generalize (w.alloc (.cells #[.int .i64 n, .slice (some ⟨cg, 0, none⟩) (n * n) cc] 27)).alloc (.cells #[.int .i64 0, .int .i64 1] 36) = w4 at P0 ⊢
  go_loopw [3, 4] (fun tv iv wr => ∃ k : Nat, k + 1 ≤ n ∧ iv = .int .i64 ((k + 1 : Nat) : Int) ∧ Pr n w.heap.size cg cc (w.heap.size + 1) (clT n ts) (wts n (clT n ts)) k tv w wr) (fun tv iv _ => n - (intOf iv).toNat)
  case atStart => exact ⟨0, by omega, rfl, P0⟩
  case round =>
    clear P0
    obtain ⟨k, hk, rfl, hA⟩ := hrel
    obtain ⟨g, gcap, rfl⟩ : ∃ g gcap, u3 = .slice (some ⟨g, 0, none⟩) (k + 1) gcap := by
      rcases Go.Joins.ownsRow_forms hA.2.2.2.1 with ⟨_, h⟩ | ⟨g, gcap, h⟩
      · omega
      · exact ⟨g, gcap, h⟩
    have hgl := (hA.2.2.2.1.lt g rfl).2
    by_cases hkn : k + 1 < n
    · have hup := px_succ (wts n (clT n ts)) k
      have hlo : ∀ j, j < k + 1 → Fit (-1) (px (wts n (clT n ts)) j) ((clT n ts)[j * n + (k + 1)]?.getD 0) := fun j hj => HFI.out (-1) (.inr rfl) j (k + 1) j (by omega) hkn (by omega) (by omega)
      have hhi : ∀ j, j < k + 1 → Fit 1 (px (wts n (clT n ts)) j) ((clT n ts)[(k + 1) * n + j]?.getD 0) := fun j hj => HFI.out 1 (.inl rfl) (k + 1) j j hkn (by omega) (by omega) (by omega)
      have elo : endC (-1) (px (wts n (clT n ts))) (fun j => cod ((clT n ts)[j * n + (k + 1)]?.getD 0)) (k + 1) = lowE (wts n (clT n ts)) (k + 1) := endC_same (k + 1) (fun _ _ => rfl) (fun j hj => (wts_in (by omega) hkn).symm)
      have ehi : endC 1 (px (wts n (clT n ts))) (fun j => cod ((clT n ts)[(k + 1) * n + j]?.getD 0)) (k + 1) = highE (wts n (clT n ts)) (k + 1) := endC_same (k + 1) (fun _ _ => rfl) (fun j hj => (wts_in hkn (by omega)).symm)
      have hev : ∀ j, j < k + 1 → px (wts n (clT n ts)) j % (2 * 1) = 0 := fun j hj => px_even _ (by omega)
      have hn' := HNE.out (k + 1) hkn
      have HB := pick_is n (k + 1) cg 0 cc g 0 gcap (px (wts n (clT n ts))) (clT n ts) (rsOf (wts n (clT n ts)) k) wr hn (by omega) hkn hA.2.1 (Nat.lt_of_lt_of_le hcg hA.2.2.1.size) HUS.out (own_rowR hA.2.2.2.1) hgl (rsOf_length _ _) (fun j hj => rsOf_at _ (by omega)) (fun j hj => HNE.out j (by omega)) hlo hhi _ _ elo ehi (by rw [← hup]; exact hn') (fun l e hl he => ⟨end_dv (q := 1) (by decide) (by decide) hev hl, end_dv (q := 1) (by decide) (by decide) hev he⟩)
      rw [← hup] at HB
      have HCB := Lib.hid HB
      have HPU := Lib.hid (fun (v' : Value) (W W' : World) (o : Obj) (h : Pr n w.heap.size cg cc (w.heap.size + 1) (clT n ts) (wts n (clT n ts)) k (.slice (some ⟨g, 0, none⟩) (k + 1) gcap) w W) h1 h2 => h.push (v' := v') (W' := W') (o := o) (Nat.le_succ _) (Nat.lt_succ_self _) hcgb h1 h2)
      clear hup hlo hhi elo ehi hev hn' HB
      generalize p8 (px (wts n (clT n ts)) (k + 1)) = P at HCB HPU
      generalize q8 (px (wts n (clT n ts)) (k + 1)) = Q at HCB HPU
      obtain ⟨x0, x1, x2, x3, x4⟩ := lies.two hA.1
      go_wp2_with fail
      refine HCB.out.mono ?_
      rintro e w7 ⟨hB, rfl⟩
      have A7 := hA.below hcgb hB
      have O7 := A7.2.2.2.1.alloc (.cells #[.int .i64 P, .int .i64 Q] 36)
      have M7 := lies.made w7 36 #[.int .i64 P, .int .i64 Q]
      have hsb := A7.2.2.2.2
      clear hB hA HCB x0 x1 x2 x3 x4
      go_wp2_with (at_builtin; refine wpList_append_own _ rfl (.tmp 13) (.tmp 17) 30 rfl (w.heap.size + 1) 36 i0 (.agg #[.int .i64 (0), .int .i64 (0)]) 2 16 Try.underlying30 HIN.out.1 HIN.out.2.1 HIN.out.2.2.1 HIN.out.2.2.2 rfl (by decide) _ _ _ rfl O7 ⟨w7.heap.size, 0, none⟩ 1 1 [.int .i64 P, .int .i64 Q] rfl rfl (two_new M7) (by simp [Value.oneCell']) (by unfold maxLen; omega) (by omega) (by simp; omega) ?_; intro v' w8 hown' hgrow _; have A8 := HPU.out v' w7 w8 _ A7 hown' hgrow)
      clear A7 O7 M7 hown' hgrow
      go_roundw
      case rel => exact ⟨k + 1, by omega, by go_num, A8⟩
      case measure => simp [intOf]; omega
    · have hnk : (n : Int) = ((k + 1 : Nat) : Int) := by omega
      have hnk2 : ¬ (((k + 1 : Nat) : Int) < (n : Int)) := by omega
      obtain ⟨x0, x1, x2, x3, x4⟩ := lies.two hA.1
      clear HFI HNE
      have HC := Lib.hid (own_cap hA.2.2.2.1)
      have hr : RowR wr g 2 (pks n ts) := pks_row (by
        have e : n - 1 = k := by omega
        rw [e]
        exact own_rowR hA.2.2.2.1)
      have HRR := Lib.hid hr
      have hKB := hA.2.2.1
      have e2 : k + 1 = n := by omega
      clear hA hr
      go_wp2_with fail
      · have hc := HC.out
        rename_i hg1
        have hn1 : n = 1 := by omega
        exact bodyPost_ret (v := .slice (some ⟨g, 0, none⟩) (n - 1) 0) (by simp [results, Try.results38, go_sem]) rfl ⟨hKB, _, rfl, .inl ⟨⟨some ⟨g, 0, none⟩, 0, by rw [show n - 1 = 0 by omega], fun _ => rfl⟩, List.eq_nil_of_length_eq_zero (by rw [pks_length]; omega)⟩⟩
      · exact bodyPost_ret (v := .slice (some ⟨g, 2, none⟩) (n - 1) (gcap - 1)) (by simp [results, Try.results38, go_sem]) rfl ⟨hKB, _, rfl, .inr ⟨g, 2, gcap - 1, by rw [pks_length], hgl, HRR.out⟩⟩

set_option maxRecDepth 100000 in
set_option maxHeartbeats 2000000 in
theorem rpick_any (n : Int) (sv : Value) (ts : List Int) (w : World) (hI : law.Ints w.heap.size w sv ts) (hm : ts.length ≤ 1000000) (hlo : dref.Low ts) (htop : Tops ts) :
    Calls Try.prog 18 #[.agg #[.int .i64 n, sv]] w (Pk n ts w) := by
  have DB := bound.up1 w (.cells #[.int .i64 n, sv] 27)
  have C := Lib.hid (dref.close_any n sv ts _ ((hI.below DB).mono DB.size) hm hlo htop)
  obtain ⟨ad, cap, rfl⟩ := ints_len hI
  have HT := Lib.hid htop
  clear hI hlo htop
  go_enter Try.func18, Try.ntmps18
  go_wp2_with fail
  refine C.out.mono ?_
  rintro e w1 ⟨hB, ⟨hno, rfl⟩ | ⟨hok, v, rfl, hO⟩⟩
  · obtain ⟨f, hf⟩ : ∃ f : Int, (if MayD n ts then 6 else 8) = f := ⟨_, rfl⟩
    rw [hf]
    have hf0 : f ≠ 0 := by rw [← hf]; split <;> decide
    have t1 : (f != 0) = true := by simpa using hf0
    have t2 : (f == 0) = false := by simpa using hf0
    have HF := Lib.hid hf
    have HN := Lib.hid hno
    replace DB := later DB hB
    clear hB C hf hno hf0
    go_wp2_with fail
    refine bodyPost_ret (v := .tuple #[.slice none 0 0, .int .i64 f]) (by simp [results, Try.results18, go_sem]) rfl ⟨lies.frame_up DB _, _, f, rfl, .inl ⟨HN.out, rfl, HF.out.symm⟩⟩
  · obtain ⟨m, rfl, h0, hn, hl⟩ := may_nat hok.1
    have hpp : 0 < m * m := Nat.mul_pos h0 h0
    rw [hl] at hO
    obtain ⟨g, gc, rfl⟩ : ∃ g gc, v = .slice (some ⟨g, 0, none⟩) (m * m) gc := by
      rcases Go.Joins.ownsRow_forms hO with ⟨_, h⟩ | ⟨g, gc, h⟩
      · omega
      · exact ⟨g, gc, h⟩
    have hrow := tref.own_row hO ((clT_length hok).trans hl)
    have hgl := (hO.lt g rfl).2
    replace DB := lies.frame_up (later DB hB) (.cells #[.int .i64 m, .slice (some ⟨g, 0, none⟩) (m * m) gc] 27)
    have hrow' := hrow.below (bound.up1 w1 (.cells #[.int .i64 m, .slice (some ⟨g, 0, none⟩) (m * m) gc] 27)) hgl
    have hgl' : g < (w1.alloc (.cells #[.int .i64 m, .slice (some ⟨g, 0, none⟩) (m * m) gc] 27)).heap.size := by simp; omega
    have HP := Lib.hid (picked_is m g gc ts _ h0 hn hl HT.out hok hrow' hgl')
    have HOK := Lib.hid hok
    clear hB C hO hrow hrow' hl hok hgl' hgl
    go_wp2_with fail
    refine HP.out.mono ?_
    rintro e w3 ⟨hB, v, rfl, hR⟩
    replace DB := later DB hB
    obtain ⟨va, vc, rfl⟩ := rats_len hR
    have HR := Lib.hid hR
    clear hB hR HP
    go_wp2_with fail
    exact bodyPost_ret (v := .tuple #[.slice va (pks m ts).length vc, .int .i64 0]) (by simp [results, Try.results18, go_sem]) rfl ⟨DB, _, 0, rfl, .inr ⟨HOK.out, rfl, m, rfl, HR.out⟩⟩

set_option maxRecDepth 100000 in
set_option maxHeartbeats 2000000 in
theorem same_times (rs : List (Int × Int)) (av bv : Value) (w : World) (hA : Rats w.heap.size w av rs) (hB : Rats w.heap.size w bv rs) (hm : rs.length ≤ 1000) :
    Calls Try.prog 19 #[av, bv] w fun e w' => e = .returned (.bool true) ∧ Below w.heap.size w w' := by
  obtain ⟨aa, ac, rfl⟩ := rats_len hA
  obtain ⟨ba, bc, rfl⟩ := rats_len hB
  have HA := Lib.hid hA
  have HB := Lib.hid hB
  clear hA hB
  go_enter Try.func19, Try.ntmps19
  go_wp2_with fail
  go_loopw [5] (fun iv wr => ∃ j : Nat, j ≤ rs.length ∧ iv = .int .i64 j ∧ Below w.heap.size w wr) (fun iv _ => rs.length - (intOf iv).toNat)
  case atStart => exact ⟨0, Nat.zero_le _, rfl, Below.refl _ _⟩
  case round =>
    obtain ⟨j, hj, rfl, hBB⟩ := hrel
    by_cases hjn : j < rs.length
    · have wj : wrap64 ((j : Int) + 1) = (j : Int) + 1 := IntWalk.wrap64_in _ ⟨by omega, by omega⟩
      rcases HA.out with ⟨_, e⟩ | ⟨b1, o1, c1, e1, h1, r1⟩
      · rw [e] at hjn; exact absurd hjn (by simp)
      · rcases HB.out with ⟨_, e⟩ | ⟨b2, o2, c2, e2, h2, r2⟩
        · rw [e] at hjn; exact absurd hjn (by simp)
        · cases e1
          cases e2
          have S0 : ∀ W, Below w.heap.size w W → (W.cell? ⟨b1, o1 + j * 2, none⟩ = some (.int .i64 (pr rs j).1) ∧ W.cell? ⟨b1, o1 + j * 2 + 1, none⟩ = some (.int .i64 (pr rs j).2)) ∧ W.cell? ⟨b2, o2 + j * 2, none⟩ = some (.int .i64 (pr rs j).1) ∧ W.cell? ⟨b2, o2 + j * 2 + 1, none⟩ = some (.int .i64 (pr rs j).2) := fun W hW => ⟨(r1.below hW h1) j hjn, (r2.below hW h2) j hjn⟩
          have HS0 := Lib.hid S0
          clear S0 r1 r2
          generalize (pr rs j).1 = p at HS0
          generalize (pr rs j).2 = q at HS0
          go_wp2_with fail
          refine wp_region_held_drew (S := Below w.heap.size w) (by kernel_rfl) (lies.frame_drew hBB) (fun hHeld => ?_)
          refine wpAnyH_take (i := 0) (v := ?_) rfl (by kernel_rfl) (by kernel_rfl) (by kernel_rfl) (fun _ _ _ h => h) (Or.inl ⟨by rfl, ?_⟩) hHeld ?_
          rotate_left
          · intro w hSw; obtain ⟨⟨s0, s1⟩, s2, s3⟩ := HS0.out _ hSw; go_simp; try with_reducible rfl
          try simp only [Act.put, List.getElem_toArray, List.getElem_cons_zero, List.getElem_cons_succ, List.setIfInBounds_toArray, List.set_cons_zero, List.set_cons_succ]
          refine wpAnyH_take (i := 1) (v := ?_) rfl (by kernel_rfl) (by kernel_rfl) (by kernel_rfl) (fun _ _ _ h => h) (Or.inl ⟨by rfl, ?_⟩) hHeld ?_
          rotate_left
          · intro w hSw; obtain ⟨⟨s0, s1⟩, s2, s3⟩ := HS0.out _ hSw; go_simp; try with_reducible rfl
          try simp only [Act.put, List.getElem_toArray, List.getElem_cons_zero, List.getElem_cons_succ, List.setIfInBounds_toArray, List.set_cons_zero, List.set_cons_succ]
          refine wpAnyH_take (i := 2) (v := ?_) rfl (by kernel_rfl) (by kernel_rfl) (by kernel_rfl) (fun _ _ _ h => h) (Or.inl ⟨by rfl, ?_⟩) hHeld ?_
          rotate_left
          · intro w hSw; obtain ⟨⟨s0, s1⟩, s2, s3⟩ := HS0.out _ hSw; go_simp; try with_reducible rfl
          try simp only [Act.put, List.getElem_toArray, List.getElem_cons_zero, List.getElem_cons_succ, List.setIfInBounds_toArray, List.set_cons_zero, List.set_cons_succ]
          refine wpAnyH_take (i := 3) (v := ?_) rfl (by kernel_rfl) (by kernel_rfl) (by kernel_rfl) (fun _ _ _ h => h) (Or.inl ⟨by rfl, ?_⟩) hHeld ?_
          rotate_left
          · intro w hSw; obtain ⟨⟨s0, s1⟩, s2, s3⟩ := HS0.out _ hSw; go_simp; try with_reducible rfl
          try simp only [Act.put, List.getElem_toArray, List.getElem_cons_zero, List.getElem_cons_succ, List.setIfInBounds_toArray, List.set_cons_zero, List.set_cons_succ]
          refine wpAnyH_take (i := 4) (v := ?_) rfl (by kernel_rfl) (by kernel_rfl) (by kernel_rfl) (fun _ _ _ h => h) (Or.inl ⟨by rfl, ?_⟩) hHeld ?_
          rotate_left
          · intro w hSw; obtain ⟨⟨s0, s1⟩, s2, s3⟩ := HS0.out _ hSw; go_simp; try with_reducible rfl
          try simp only [Act.put, List.getElem_toArray, List.getElem_cons_zero, List.getElem_cons_succ, List.setIfInBounds_toArray, List.set_cons_zero, List.set_cons_succ]
          refine wpAnyH_take (i := 5) (v := ?_) rfl (by kernel_rfl) (by kernel_rfl) (by kernel_rfl) (fun _ _ _ h => h) (Or.inl ⟨by rfl, ?_⟩) hHeld ?_
          rotate_left
          · intro w hSw; obtain ⟨⟨s0, s1⟩, s2, s3⟩ := HS0.out _ hSw; go_simp; try with_reducible rfl
          try simp only [Act.put, List.getElem_toArray, List.getElem_cons_zero, List.getElem_cons_succ, List.setIfInBounds_toArray, List.set_cons_zero, List.set_cons_succ]
          refine wpAnyH_take (i := 6) (v := ?_) rfl (by kernel_rfl) (by kernel_rfl) (by kernel_rfl) (fun _ _ _ h => h) (Or.inl ⟨by rfl, ?_⟩) hHeld ?_
          rotate_left
          · intro w hSw; obtain ⟨⟨s0, s1⟩, s2, s3⟩ := HS0.out _ hSw; go_simp; try with_reducible rfl
          try simp only [Act.put, List.getElem_toArray, List.getElem_cons_zero, List.getElem_cons_succ, List.setIfInBounds_toArray, List.set_cons_zero, List.set_cons_succ]
          refine wpAnyH_take (i := 7) (v := ?_) rfl (by kernel_rfl) (by kernel_rfl) (by kernel_rfl) (fun _ _ _ h => h) (Or.inl ⟨by rfl, ?_⟩) hHeld ?_
          rotate_left
          · intro w hSw; obtain ⟨⟨s0, s1⟩, s2, s3⟩ := HS0.out _ hSw; go_simp; try with_reducible rfl
          try simp only [Act.put, List.getElem_toArray, List.getElem_cons_zero, List.getElem_cons_succ, List.setIfInBounds_toArray, List.set_cons_zero, List.set_cons_succ]
          refine wpAnyH_take (i := 8) (v := ?_) rfl (by kernel_rfl) (by kernel_rfl) (by kernel_rfl) (fun _ _ _ h => h) (Or.inl ⟨by rfl, ?_⟩) hHeld ?_
          rotate_left
          · intro w hSw; obtain ⟨⟨s0, s1⟩, s2, s3⟩ := HS0.out _ hSw; go_simp; try with_reducible rfl
          try simp only [Act.put, List.getElem_toArray, List.getElem_cons_zero, List.getElem_cons_succ, List.setIfInBounds_toArray, List.set_cons_zero, List.set_cons_succ]
          refine wpAnyH_done (by kernel_rfl) ?_ _
          have hB2 := hHeld
          clear hHeld
          go_wp2_with fail
          go_roundw
          case rel => exact ⟨j + 1, by omega, by go_num, hB2⟩
          case measure => simp [intOf]; omega
    · obtain rfl : j = rs.length := by omega
      go_wp2_with fail
      go_ret
      exact ⟨rfl, hBB⟩
end Go.Proofs.Ytnbpcgkdnkihdaa.iref
