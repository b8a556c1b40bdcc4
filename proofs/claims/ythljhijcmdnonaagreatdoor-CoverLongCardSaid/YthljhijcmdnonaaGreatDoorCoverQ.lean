
/-
  What cover.Prune answers; each theorem names its conditions.
-/
import Derived.Test.YthljhijcmdnonaaGreatDoorCoverP
import Derived.Test.YthljhijcmdnonaaGreatDoorCoverS
import Derived.Test.YthljhijcmdnonaaGreatDoorCoverK
namespace Go.Proofs.YthljhijcmdnonaaGreatDoor.cover
open Go.Joins Go.ChangeShapes Go.WideShapes Go.ChangeAt Go.RowKit num rat dbm Go.Proofs.YthljhijcmdnonaaGreatDoor.tight Go.Proofs.YthljhijcmdnonaaGreatDoor.incl Go.Proofs.YthljhijcmdnonaaGreatDoor.plaw Go.Proofs.YthljhijcmdnonaaGreatDoor.zopen Go.Proofs.YthljhijcmdnonaaGreatDoor.zone Go.Proofs.YthljhijcmdnonaaGreatDoor.win Go.Proofs.YthljhijcmdnonaaGreatDoor.minus Go.Proofs.YthljhijcmdnonaaGreatDoor.mz Go.Proofs.YthljhijcmdnonaaGreatDoor.mlaw
open bound hiding up
set_option linter.unusedVariables false
set_option linter.unusedSimpArgs false
set_option linter.unusedSectionVars false

theorem compact_nil (w : World) : Calls Tryz.prog 24 #[.slice none 0 0] w fun e w' => e = .returned (.slice none 0 0) ∧ w' = w := by
  go_enter Tryz.func24, Tryz.ntmps24
  go_wp2_with fail
  go_ret
  exact ⟨rfl, rfl⟩
theorem sort_own (base n : Nat) (v : Value) (zs : List (List Int)) (w : World) (hO : w.ownsRow base 24 6 v n (flatZ zs)) (h6 : ∀ z, z ∈ zs → z.length = 6) (hm : n ≤ 1000000) (hb : base ≤ w.heap.size) :
    Calls Tryz.prog 23 #[v, .func (.func 10) #[] #[]] w fun e w' => e = .returned (.tuple #[]) ∧ Below base w w' ∧ ∃ ys : List (List Int), ys.Perm zs ∧ (ys.Pairwise fun x y => cmpL x y ≤ 0) ∧ w'.ownsRow base 24 6 v n (flatZ ys) := by
  rcases ownsRow_forms hO with ⟨rfl, rfl⟩ | ⟨g, cap, rfl⟩
  · refine (sort_none none 0 _ w).mono ?_
    rintro e w' ⟨rfl, rfl⟩
    have e0 : zs = [] := List.eq_nil_of_length_eq_zero (by have := hO.1; rw [flatZ_length] at this; omega)
    exact ⟨rfl, Below.refl _ _, zs, List.Perm.refl _, by rw [e0]; exact List.Pairwise.nil, hO⟩
  · exact sort_zones base g n cap zs w hO h6 hm
theorem compact_own (base n : Nat) (v : Value) (zs : List (List Int)) (w : World) (hO : w.ownsRow base 24 6 v n (flatZ zs)) (h6 : ∀ z, z ∈ zs → z.length = 6) (hm : n ≤ 1000000) :
    Calls Tryz.prog 24 #[v] w fun e w' => Below base w w' ∧ ∃ v', e = .returned v' ∧ w'.ownsRow base 24 6 v' (cpt zs zs.length).length (flatZ (cpt zs zs.length)) := by
  rcases ownsRow_forms hO with ⟨rfl, rfl⟩ | ⟨g, cap, rfl⟩
  · refine (compact_nil w).mono ?_
    rintro e w' ⟨rfl, rfl⟩
    have e0 : zs = [] := List.eq_nil_of_length_eq_zero (by have := hO.1; rw [flatZ_length] at this; omega)
    subst e0
    exact ⟨Below.refl _ _, _, rfl, hO⟩
  · refine (compact_zones base g n cap zs w hO h6 hm).mono ?_
    rintro e w' ⟨hB, rfl, hO'⟩
    exact ⟨hB, _, rfl, hO'⟩
theorem own_cap {W : World} {base n g cap size : Nat} {e : TypeId} {xs : List Value} (h : W.ownsRow base e size (.slice (some ⟨g, 0, none⟩) n cap) n xs) : n ≤ cap ∧ cap ≤ maxLen := by
  obtain ⟨_, _, _, a, b, _⟩ := own_get h
  exact ⟨a, b⟩
/-- what stays of the wish. -/
def Wsh (l : List (List Int)) (k : Nat) (cur : List (List Int)) : Prop := (∀ x, x ∈ cur → Zo x) ∧ ∀ r f, Want RestP k cur r f → Want RestP (srt l).length (srt l) r f
theorem Wsh.err {l cur n : List (List Int)} {j : Nat} {f : Int} (h : Wsh l (j + 1) cur) (hr : RestP (cur.eraseIdx j) [zat cur j] n f) (hf : f ≠ 0) : Want RestP (srt l).length (srt l) [] f := h.2 _ _ ⟨n, f, hr, .inl ⟨hf, rfl, rfl⟩⟩
theorem Wsh.out {l cur n : List (List Int)} {j : Nat} (h : Wsh l (j + 1) cur) (hr : RestP (cur.eraseIdx j) [zat cur j] n 0) (hn : n = []) : Wsh l j (cur.eraseIdx j) :=
  ⟨fun x hx => h.1 x (era_sub cur j x hx), fun r f q => h.2 r f ⟨n, 0, hr, .inr ⟨rfl, .inl ⟨hn, q⟩⟩⟩⟩
theorem Wsh.stay {l cur n : List (List Int)} {j : Nat} (h : Wsh l (j + 1) cur) (hr : RestP (cur.eraseIdx j) [zat cur j] n 0) (hn : n ≠ []) : Wsh l j cur :=
  ⟨h.1, fun r f q => h.2 r f ⟨n, 0, hr, .inr ⟨rfl, .inr ⟨hn, q⟩⟩⟩⟩

/-- zones of one's own, and none beside an error. -/
def Zano (R : List (List Int) → Int → Prop) (w : World) (e : Ending) (w' : World) : Prop := Below w.heap.size w w' ∧ ∃ v r f, e = .returned (.tuple #[v, .int .i64 f]) ∧ R r f ∧ w'.ownsRow w.heap.size 24 6 v r.length (flatZ r) ∧ (f ≠ 0 → v = .slice none 0 0)
set_option maxRecDepth 100000 in
set_option maxHeartbeats 16000000 in
theorem prune_gen (ao : Option Addr) (len cap : Nat) (l : List (List Int)) (w : World) (hZ : len ≤ 4096 → Pl w ∧ Zs w.heap.size w (.slice ao len cap) l ∧ Six l) (hl : l.length = len) :
    Calls Tryz.prog 8 #[.slice ao len cap] w (Zano (PruX RestP l) w) := by
  obtain ⟨w0, hX⟩ : ∃ w0, w0 = w.alloc (.cells #[.slice ao len cap] 26) := ⟨_, rfl⟩
  have DB : Below w.heap.size w w0 := by rw [hX]; exact bound.up1 _ _
  have D0 : lies.Lies w0 w.heap.size 26 #[.slice ao len cap] := by rw [hX]; exact lies.made _ _ _
  have HZ := Lib.hid hZ
  have HL := Lib.hid hl
  clear hZ hl
  go_enter Tryz.func8, Tryz.ntmps8
  go_wp2_with fail
  rw [← hX]
  clear hX
  refine (check_one _ ao len cap l w0 D0 (fun h => ⟨(HZ.out h).1.on DB, ((HZ.out h).2.1.below DB).mono DB.size, (HZ.out h).2.2⟩) HL.out).mono ?_
  rintro e w1 ⟨hB, f, rfl, hR⟩
  replace DB := later DB hB
  clear hB D0
  by_cases h0 : f = 0
  · subst h0
    obtain ⟨h1, -, h3, -⟩ := chk_fine hR
    have HR := Lib.hid hR
    have h1 : len ≤ 4096 := by rw [← HL.out]; exact h1
    obtain ⟨P0, hI, h6⟩ := HZ.out h1
    have HP := Lib.hid P0
    have HI := Lib.hid hI
    have H6 := Lib.hid h6
    have HML := Lib.hid (h6.zo h3)
    clear P0 hI h6 HZ hR h3
    go_wp2_with fail
    refine (clone_zones ao len cap l w1 ((HI.out.below DB).mono DB.size) HL.out (by omega)).mono ?_
    rintro e w2 ⟨v, rfl, hO, hB⟩
    have hO := own_far hO DB.size (fun _ _ _ q => q)
    replace DB := later DB hB
    clear hB
    go_wp2_with fail
    refine (sort_own w.heap.size l.length v l w2 hO (fun z hz => (H6.out z hz).1) (by rw [HL.out]; omega) DB.size).mono ?_
    rintro e w3 ⟨rfl, hB, ys, hp, hs, hO2⟩
    replace DB := DB.trans hB
    clear hB hO
    have hyl : ys.length = l.length := hp.length_eq
    have HY := Lib.hid (cpt_is hs hp)
    have HY6 := Lib.hid (show ∀ z, z ∈ ys → z.length = 6 from fun z hz => (H6.out z (hp.mem_iff.1 hz)).1)
    have hlen : l.length = len := HL.out
    clear hs hp
    go_wp2_with fail
    refine (compact_own w.heap.size l.length v ys w3 hO2 HY6.out (by omega)).mono ?_
    rintro e w4 ⟨hB, v1, rfl, hO3⟩
    replace DB := DB.trans hB
    rw [HY.out] at hO3
    clear hB hO2 HY HY6
    have hsl := srt_len l
    have HW := Lib.hid (show Wsh l (srt l).length (srt l) from ⟨fun x hx => HML.out x ((srt_mem l x).1 hx), fun r f q => q⟩)
    obtain ⟨cur, hcur⟩ : ∃ cur, cur = srt l := ⟨_, rfl⟩
    have HW2 : RowKit.Hid (Wsh l cur.length cur) := Lib.hid (by rw [hcur]; exact HW.out)
    rw [← hcur] at hO3 hsl
    clear HW hcur
    obtain ⟨av, cv, rfl⟩ := zs_len (zs_own hO3)
    obtain ⟨m, hm⟩ : ∃ m, m = cur.length := ⟨_, rfl⟩
    rw [← hm] at hO3 hsl HW2 ⊢
    have HM := Lib.hid hm
    clear hm
    have hwm : wrap64 ((m : Int) - 1) = (m : Int) - 1 := IntWalk.wrap64_in _ ⟨by omega, by omega⟩
    have hwm2 : IntKind.i64.wrap ((m : Int) - 1) = (m : Int) - 1 := IntWalk.i64_in _ ⟨by omega, by omega⟩
    have hm4 : m ≤ 4096 := by omega
    clear hsl hyl hlen
    go_wp2_with fail
    clear hwm hwm2
    go_loopw [6, 5] (fun i v wr => ∃ (k m : Nat) (iv : Int) (cur : List (List Int)), i = .int .i64 iv ∧ iv + 1 = (k : Int) ∧ k ≤ m ∧ m ≤ 4096 ∧ m = cur.length ∧ Below w.heap.size w wr ∧ wr.ownsRow w.heap.size 24 6 v m (flatZ cur) ∧ RowKit.Hid (Wsh l k cur)) (fun i _ _ => (intOf i + 1).toNat)
    case atStart => exact ⟨m, m, (m : Int) - 1, cur, (by first | rfl | (simp only [Value.int.injEq, true_and]; omega)), by omega, Nat.le_refl _, hm4, HM.out, DB, hO3, HW2⟩
    case round =>
      clear DB hO3 HW2 HM hm4
      obtain ⟨k, m, iv, cur, rfl, hiv, hkm, hm4, hmc, DB, hO, HW⟩ := hrel
      cases k with
      | zero =>
        have hiv : ¬ (0 : Int) ≤ iv := by omega
        obtain ⟨a3, c3, hv⟩ := zs_len (zs_own hO)
        rw [← hmc] at hv
        subst hv
        have HM := Lib.hid hmc
        have HOW := Lib.hid hO
        clear hmc hO
        go_wp2_with fail
        refine bodyPost_ret (v := .tuple #[.slice a3 m c3, .int .i64 0]) (by simp [results, Tryz.results8, go_sem]) rfl ⟨DB, _, cur, 0, rfl, ⟨0, HR.out, .inr ⟨rfl, HW.out.2 _ _ ⟨rfl, rfl⟩⟩⟩, ?_, fun h => absurd rfl h⟩
        rw [← HM.out]
        exact HOW.out
      | succ j =>
        have hj : iv = (j : Int) := by omega
        subst hj
        rcases ownsRow_forms hO with ⟨rfl, h⟩ | ⟨g, cap1, rfl⟩
        · omega
        have hmcap := own_cap hO
        have hjm : j < m := by omega
        have hj0 : (0 : Int) ≤ (j : Int) := by omega
        have hjm' : (j : Int) < (m : Int) := by omega
        have hVR := zs_own hO
        have hgl := (hO.lt g rfl).2
        have HM := Lib.hid hmc
        have HOW := Lib.hid hO
        have HVR := Lib.hid (show Zs wr.heap.size wr (.slice (some ⟨g, 0, none⟩) cur.length cap1) cur by rw [← hmc]; exact hVR)
        have hjc : j < cur.length := by omega
        have hz := HW.out.1 _ (zat_mem hjc)
        obtain ⟨J1, hJ1⟩ : ∃ x, x = j + 1 := ⟨_, rfl⟩
        have hji : (j : Int) + 1 = (J1 : Int) := by omega
        have hJb : J1 ≤ 4096 := by omega
        have hJm : J1 ≤ m := by omega
        have hJc : J1 ≤ cap1 := Nat.le_trans hJm hmcap.1
        have hbd : -9223372036854775808 ≤ (J1 : Int) ∧ (J1 : Int) ≤ 9223372036854775807 := ⟨by omega, by omega⟩
        have hf4 : (0 : Int) ≤ (J1 : Int) := Int.natCast_nonneg _
        have hf5 : (J1 : Int) ≤ (m : Int) := Int.ofNat_le.2 hJm
        have hf6 : (J1 : Int) ≤ (cap1 : Int) := Int.ofNat_le.2 hJc
        have hf7 : (j : Int) ≤ (cap1 : Int) := Int.ofNat_le.2 (by omega)
        have hjl : J1 + (m - J1) = m := by omega
        have hwj := Lib.hid (show wrap64 ((j : Int) + 1) = (J1 : Int) by rw [hji]; exact IntWalk.wrap64_in _ hbd)
        have hwj2 := Lib.hid (show IntKind.i64.wrap ((j : Int) + 1) = (J1 : Int) by rw [hji]; exact IntWalk.i64_in _ hbd)
        have hbk : -9223372036854775808 ≤ (j : Int) - 1 ∧ (j : Int) - 1 ≤ 9223372036854775807 := ⟨by omega, by omega⟩
        have hwk := Lib.hid (show wrap64 ((j : Int) - 1) = (j : Int) - 1 from IntWalk.wrap64_in _ hbk)
        have hwk2 := Lib.hid (show IntKind.i64.wrap ((j : Int) - 1) = (j : Int) - 1 from IntWalk.i64_in _ hbk)
        clear hji hJb hbd hbk
        have HJ1 := Lib.hid hJ1
        have hE : cur.eraseIdx j = cur.take j ++ cur.drop J1 := by rw [hJ1]; exact era_cut cur j
        have HE := Lib.hid hE
        have HTK := Lib.hid (show (cur.take j).length = j by rw [List.length_take]; omega)
        have HDP := Lib.hid (show (cur.drop J1).length = m - J1 by rw [List.length_drop]; omega)
        have HSM := Lib.hid (show j + (m - J1) ≤ 1000000 by omega)
        have HS0 := Lib.hid (show m - J1 ≤ 1000000 by omega)
        clear hmc hO hVR hE hiv hkm hJ1
        by_cases hcq : J1 = cap1
        · obtain rfl := hcq
          obtain rfl : J1 = m := by have := HJ1.out; have := hmcap.1; omega
          have hJ := Lib.hid (show ∀ X, Below wr.heap.size wr X → Zs X.heap.size X (.slice (some ⟨g, 0, none⟩) 0 0) (cur.drop J1) from fun X _ => zs_end (by simp) (by have := HM.out; omega))
          replace hwj := hwj.out
          replace hwj2 := hwj2.out
          go_wp2_with fail
          refine wp_region_held_drew (S := Below wr.heap.size wr) (by kernel_rfl) (dbm.drawn1 (Below.refl _ _)) (fun hHeld => ?_)
          generalize wr.drew = wD at hHeld ⊢
          refine wpAnyH_take (i := 0) (v := ?_) rfl (by kernel_rfl) (by kernel_rfl) (by kernel_rfl) (fun _ _ _ h => h) (Or.inl ⟨by rfl, ?_⟩) hHeld ?_
          rotate_left
          · intro w hSw; skip; go_simp; try with_reducible rfl
          try simp only [Act.put, List.getElem_toArray, List.getElem_cons_zero, List.getElem_cons_succ, List.setIfInBounds_toArray, List.set_cons_zero, List.set_cons_succ]
          refine wpAnyH_take (i := 1) (v := ?_) rfl (by kernel_rfl) (by kernel_rfl) (by kernel_rfl) (fun _ _ _ h => h) (Or.inl ⟨by rfl, ?_⟩) hHeld ?_
          rotate_left
          · intro w hSw; skip; go_simp; try with_reducible rfl
          try simp only [Act.put, List.getElem_toArray, List.getElem_cons_zero, List.getElem_cons_succ, List.setIfInBounds_toArray, List.set_cons_zero, List.set_cons_succ]
          refine wpAnyH_take (i := 2) (v := ?_) rfl (by kernel_rfl) (by kernel_rfl) (by kernel_rfl) (fun _ _ _ h => h) (Or.inl ⟨by rfl, ?_⟩) hHeld ?_
          rotate_left
          · intro w hSw; skip; go_simp; try with_reducible rfl
          try simp only [Act.put, List.getElem_toArray, List.getElem_cons_zero, List.getElem_cons_succ, List.setIfInBounds_toArray, List.set_cons_zero, List.set_cons_succ]
          refine wpAnyH_take (i := 3) (v := ?_) rfl (by kernel_rfl) (by kernel_rfl) (by kernel_rfl) (fun _ _ _ h => h) (Or.inl ⟨by rfl, ?_⟩) hHeld ?_
          rotate_left
          · intro w hSw; skip; go_simp; try with_reducible rfl
          try simp only [Act.put, List.getElem_toArray, List.getElem_cons_zero, List.getElem_cons_succ, List.setIfInBounds_toArray, List.set_cons_zero, List.set_cons_succ]
          refine wpAnyH_take (i := 4) (v := ?_) rfl (by kernel_rfl) (by kernel_rfl) (by kernel_rfl) (fun _ _ _ h => h) (Or.inl ⟨by rfl, ?_⟩) hHeld ?_
          rotate_left
          · intro w hSw; skip; go_simp; try with_reducible rfl
          try simp only [Act.put, List.getElem_toArray, List.getElem_cons_zero, List.getElem_cons_succ, List.setIfInBounds_toArray, List.set_cons_zero, List.set_cons_succ]
          refine wpAnyH_take (i := 5) (v := ?_) rfl (by kernel_rfl) (by kernel_rfl) (by kernel_rfl) (fun _ _ _ h => h) (Or.inl ⟨by rfl, ?_⟩) hHeld ?_
          rotate_left
          · intro w hSw; skip; go_simp; try with_reducible rfl
          try simp only [Act.put, List.getElem_toArray, List.getElem_cons_zero, List.getElem_cons_succ, List.setIfInBounds_toArray, List.set_cons_zero, List.set_cons_succ]
          refine wpAnyH_take (i := 6) (v := ?_) rfl (by kernel_rfl) (by kernel_rfl) (by kernel_rfl) (fun _ _ _ h => h) (Or.inl ⟨by rfl, ?_⟩) hHeld ?_
          rotate_left
          · intro w hSw; skip; go_simp; try with_reducible rfl
          try simp only [Act.put, List.getElem_toArray, List.getElem_cons_zero, List.getElem_cons_succ, List.setIfInBounds_toArray, List.set_cons_zero, List.set_cons_succ]
          refine wpAnyH_ready (rs := [7]) (by kernel_rfl) (by simp) (AllReadyH.cons rfl (fun K hK => ?_) AllReadyH.nil)
          go_simp
          have D2 := lies.made wD 26 #[.slice (some ⟨g, 0, none⟩) j J1, .slice (some ⟨g, 0, none⟩) 0 0]
          have hAl := hHeld.trans ((bound.up1 wD (.cells #[.slice (some ⟨g, 0, none⟩) j J1, .slice (some ⟨g, 0, none⟩) 0 0] 26)).mono hHeld.size)
          refine hK.out _ _ hAl (fun hNew => ?_)
          clear hAl
          clear hHeld hK K
          have hHeld := hNew
          clear hNew
          try simp only [Act.put, List.getElem_toArray, List.getElem_cons_zero, List.getElem_cons_succ, List.setIfInBounds_toArray, List.set_cons_zero, List.set_cons_succ]
          generalize (World.heap wD).size = GB at D2 ⊢
          generalize World.alloc wD (.cells #[.slice (some ⟨g, 0, none⟩) j J1, .slice (some ⟨g, 0, none⟩) 0 0] 26) = wA at D2 hHeld ⊢
          refine wpAnyH_ready (rs := [8]) (by kernel_rfl) (by simp) (AllReadyH.cons rfl (fun K hK => ?_) AllReadyH.nil)
          go_simp
          refine (concat_zones GB _ j J1 _ 0 0 (cur.take j) (cur.drop J1) wA D2 (zs_take (cap' := J1) ((HVR.out.below hHeld).mono hHeld.size) j (by omega)) (hJ.out wA hHeld) HTK.out (by have := HDP.out; omega) (by omega)).mono ?_
          rintro e wB ⟨v2, rfl, hO2, hB2⟩
          have hO2 := own_far hO2 (Nat.le_trans DB.size hHeld.size) (fun _ _ _ q => q)
          refine hK.out _ _ (hHeld.trans (hB2.mono hHeld.size)) (fun hNew => ?_)
          clear hB2
          clear hHeld hK K
          have hHeld := hNew
          clear hNew
          try simp only [Act.put, List.getElem_toArray, List.getElem_cons_zero, List.getElem_cons_succ, List.setIfInBounds_toArray, List.set_cons_zero, List.set_cons_succ]
          refine wpAnyH_take (i := 9) (v := ?_) rfl (by kernel_rfl) (by kernel_rfl) (by kernel_rfl) (fun _ _ _ h => h) (Or.inl ⟨by rfl, ?_⟩) hHeld ?_
          rotate_left
          · intro w hSw; skip; go_simp; try with_reducible rfl
          try simp only [Act.put, List.getElem_toArray, List.getElem_cons_zero, List.getElem_cons_succ, List.setIfInBounds_toArray, List.set_cons_zero, List.set_cons_succ]
          refine wpAnyH_done (by kernel_rfl) ?_ _
          rw [← HE.out] at hO2
          replace DB := later DB hHeld
          replace HOW := Lib.hid (incl.own_call HOW.out hHeld)
          replace HVR := Lib.hid ((HVR.out.below hHeld).mono hHeld.size)
          replace hgl := Nat.lt_of_lt_of_le hgl hHeld.size
          have P0 := HP.out.on DB
          clear hHeld D2 hJ hwj hwj2 hf4 hf5 hf6 hf7
          obtain ⟨a2, c2, rfl⟩ := zs_len (zs_own hO2)
          have hel : (cur.eraseIdx j).length = J1 - 1 := by rw [List.length_eraseIdx_of_lt hjc, ← HM.out]
          have hI2 := zs_own hO2
          rw [hel] at hO2 hI2 ⊢
          have HO2 := Lib.hid hO2
          have HI2 := Lib.hid hI2
          obtain ⟨m1, hm1e⟩ : ∃ x, x = J1 - 1 := ⟨_, rfl⟩
          rw [← hm1e] at HO2 HI2 hel ⊢
          have hm1b : m1 ≤ 1000000 := by omega
          have hm1c : m1 ≤ 4096 := by omega
          have hm1d : j ≤ m1 := by omega
          clear hm1e
          have HEL := Lib.hid hel
          clear hO2 hI2 hel
          have HZE := Lib.hid (show ∀ z, zat cur j = z → z = zat cur j from fun z e => e.symm)
          generalize hzk : zat cur j = zk at hz
          have HZ2 := Lib.hid (HZE.out _ hzk)
          obtain ⟨z0, z1, z2, z3, z4, z5, rfl⟩ := six hz.2.2
          obtain ⟨c0, c1, c2', c3, c4, c5⟩ := zs_cells HVR.out hjc hzk
          rw [Nat.zero_add] at c0 c1 c2' c3 c4 c5
          have HZO := Lib.hid hz
          clear hz hzk HZE
          go_wp2_with fail
          clear c0 c1 c2' c3 c4 c5
          have hcov := covered_any z0 z1 z2 z3 z4 z5 a2 m1 c2 (cur.eraseIdx j) wB P0 HZO.out.2.1 HI2.out (fun x hx => ⟨(HW.out.1 x (era_sub cur j x hx)).2.2, (HW.out.1 x (era_sub cur j x hx)).2.1⟩) HEL.out hm1b HZO.out.1 (fun x hx => (HW.out.1 x (era_sub cur j x hx)).1)
          refine Calls.mono hcov ?_
          clear hcov
          rintro e w5 ⟨hB, is, f, rfl, n, hn, his⟩
          replace DB := later DB hB
          replace HOW := Lib.hid (incl.own_call HOW.out hB)
          replace HO2 := Lib.hid (incl.own_call HO2.out hB)
          rw [HZ2.out] at hn
          have HN := Lib.hid hn
          have HIS := Lib.hid his
          clear hn his hB P0 hgl HVR HI2
          by_cases hf : f = 0
          · subst hf
            cases is with
            | true =>
              have hn0 : n = [] := (of_decide_eq_true HIS.out.symm).2
              have HW2 := Lib.hid (HW.out.out HN.out hn0)
              have hwj := hwk.out
              have hwj2 := hwk2.out
              clear hn0 HW HN HIS
              go_wp2_with fail
              go_roundw
              case rel => exact ⟨j, m1, (j : Int) - 1, cur.eraseIdx j, rfl, by omega, hm1d, hm1c, HEL.out.symm, DB, HO2.out, HW2⟩
              case measure => simp [intOf] <;> omega
            | false =>
              have hn0 : n ≠ [] := fun e => by
                have := of_decide_eq_false HIS.out.symm
                exact this ⟨rfl, e⟩
              have HW2 := Lib.hid (HW.out.stay HN.out hn0)
              have hwj := hwk.out
              have hwj2 := hwk2.out
              clear hn0 HW HN HIS
              go_wp2_with fail
              go_roundw
              case rel => exact ⟨j, J1, (j : Int) - 1, cur, rfl, by omega, by omega, hm4, HM.out, DB, HOW.out, HW2⟩
              case measure => simp [intOf] <;> omega
          · go_wp2_with fail
            exact bodyPost_ret (v := .tuple #[.slice none 0 0, .int .i64 f]) (by simp [results, Tryz.results8, go_sem]) rfl ⟨DB, _, [], f, rfl, ⟨0, HR.out, .inr ⟨rfl, HW.out.err HN.out hf⟩⟩, World.ownsRow_nil _ _ _ _, fun _ => rfl⟩
        · have hJ := Lib.hid (show ∀ X, Below wr.heap.size wr X → Zs X.heap.size X (.slice (some ⟨g, J1 * 6, none⟩) (cur.length - J1) (cap1 - J1)) (cur.drop J1) from fun X k => by
            have q := zs_drop (cap' := cap1 - J1) ((HVR.out.below k).mono k.size) J1 (by have := HM.out; omega)
            rwa [Nat.zero_add] at q)
          have hcq2 : ¬ cap1 = J1 := fun e => hcq e.symm
          rw [← HM.out] at hJ
          replace hwj := hwj.out
          replace hwj2 := hwj2.out
          go_wp2_with fail
          refine wp_region_held_drew (S := Below wr.heap.size wr) (by kernel_rfl) (dbm.drawn1 (Below.refl _ _)) (fun hHeld => ?_)
          generalize wr.drew = wD at hHeld ⊢
          refine wpAnyH_take (i := 0) (v := ?_) rfl (by kernel_rfl) (by kernel_rfl) (by kernel_rfl) (fun _ _ _ h => h) (Or.inl ⟨by rfl, ?_⟩) hHeld ?_
          rotate_left
          · intro w hSw; skip; go_simp; try with_reducible rfl
          try simp only [Act.put, List.getElem_toArray, List.getElem_cons_zero, List.getElem_cons_succ, List.setIfInBounds_toArray, List.set_cons_zero, List.set_cons_succ]
          refine wpAnyH_take (i := 1) (v := ?_) rfl (by kernel_rfl) (by kernel_rfl) (by kernel_rfl) (fun _ _ _ h => h) (Or.inl ⟨by rfl, ?_⟩) hHeld ?_
          rotate_left
          · intro w hSw; skip; go_simp; try with_reducible rfl
          try simp only [Act.put, List.getElem_toArray, List.getElem_cons_zero, List.getElem_cons_succ, List.setIfInBounds_toArray, List.set_cons_zero, List.set_cons_succ]
          refine wpAnyH_take (i := 2) (v := ?_) rfl (by kernel_rfl) (by kernel_rfl) (by kernel_rfl) (fun _ _ _ h => h) (Or.inl ⟨by rfl, ?_⟩) hHeld ?_
          rotate_left
          · intro w hSw; skip; go_simp; try with_reducible rfl
          try simp only [Act.put, List.getElem_toArray, List.getElem_cons_zero, List.getElem_cons_succ, List.setIfInBounds_toArray, List.set_cons_zero, List.set_cons_succ]
          refine wpAnyH_take (i := 3) (v := ?_) rfl (by kernel_rfl) (by kernel_rfl) (by kernel_rfl) (fun _ _ _ h => h) (Or.inl ⟨by rfl, ?_⟩) hHeld ?_
          rotate_left
          · intro w hSw; skip; go_simp; try with_reducible rfl
          try simp only [Act.put, List.getElem_toArray, List.getElem_cons_zero, List.getElem_cons_succ, List.setIfInBounds_toArray, List.set_cons_zero, List.set_cons_succ]
          refine wpAnyH_take (i := 4) (v := ?_) rfl (by kernel_rfl) (by kernel_rfl) (by kernel_rfl) (fun _ _ _ h => h) (Or.inl ⟨by rfl, ?_⟩) hHeld ?_
          rotate_left
          · intro w hSw; skip; go_simp; try with_reducible rfl
          try simp only [Act.put, List.getElem_toArray, List.getElem_cons_zero, List.getElem_cons_succ, List.setIfInBounds_toArray, List.set_cons_zero, List.set_cons_succ]
          refine wpAnyH_take (i := 5) (v := ?_) rfl (by kernel_rfl) (by kernel_rfl) (by kernel_rfl) (fun _ _ _ h => h) (Or.inl ⟨by rfl, ?_⟩) hHeld ?_
          rotate_left
          · intro w hSw; skip; go_simp; try with_reducible rfl
          try simp only [Act.put, List.getElem_toArray, List.getElem_cons_zero, List.getElem_cons_succ, List.setIfInBounds_toArray, List.set_cons_zero, List.set_cons_succ]
          refine wpAnyH_take (i := 6) (v := ?_) rfl (by kernel_rfl) (by kernel_rfl) (by kernel_rfl) (fun _ _ _ h => h) (Or.inl ⟨by rfl, ?_⟩) hHeld ?_
          rotate_left
          · intro w hSw; skip; go_simp; try with_reducible rfl
          try simp only [Act.put, List.getElem_toArray, List.getElem_cons_zero, List.getElem_cons_succ, List.setIfInBounds_toArray, List.set_cons_zero, List.set_cons_succ]
          refine wpAnyH_ready (rs := [7]) (by kernel_rfl) (by simp) (AllReadyH.cons rfl (fun K hK => ?_) AllReadyH.nil)
          go_simp
          have D2 := lies.made wD 26 #[.slice (some ⟨g, 0, none⟩) j cap1, .slice (some ⟨g, J1 * 6, none⟩) (m - J1) (cap1 - J1)]
          have hAl := hHeld.trans ((bound.up1 wD (.cells #[.slice (some ⟨g, 0, none⟩) j cap1, .slice (some ⟨g, J1 * 6, none⟩) (m - J1) (cap1 - J1)] 26)).mono hHeld.size)
          refine hK.out _ _ hAl (fun hNew => ?_)
          clear hAl
          clear hHeld hK K
          have hHeld := hNew
          clear hNew
          try simp only [Act.put, List.getElem_toArray, List.getElem_cons_zero, List.getElem_cons_succ, List.setIfInBounds_toArray, List.set_cons_zero, List.set_cons_succ]
          generalize (World.heap wD).size = GB at D2 ⊢
          generalize World.alloc wD (.cells #[.slice (some ⟨g, 0, none⟩) j cap1, .slice (some ⟨g, J1 * 6, none⟩) (m - J1) (cap1 - J1)] 26) = wA at D2 hHeld ⊢
          refine wpAnyH_ready (rs := [8]) (by kernel_rfl) (by simp) (AllReadyH.cons rfl (fun K hK => ?_) AllReadyH.nil)
          go_simp
          refine (concat_zones GB _ j cap1 _ (m - J1) (cap1 - J1) (cur.take j) (cur.drop J1) wA D2 (zs_take (cap' := cap1) ((HVR.out.below hHeld).mono hHeld.size) j (by omega)) (hJ.out wA hHeld) HTK.out HDP.out HSM.out).mono ?_
          rintro e wB ⟨v2, rfl, hO2, hB2⟩
          have hO2 := own_far hO2 (Nat.le_trans DB.size hHeld.size) (fun _ _ _ q => q)
          refine hK.out _ _ (hHeld.trans (hB2.mono hHeld.size)) (fun hNew => ?_)
          clear hB2
          clear hHeld hK K
          have hHeld := hNew
          clear hNew
          try simp only [Act.put, List.getElem_toArray, List.getElem_cons_zero, List.getElem_cons_succ, List.setIfInBounds_toArray, List.set_cons_zero, List.set_cons_succ]
          refine wpAnyH_take (i := 9) (v := ?_) rfl (by kernel_rfl) (by kernel_rfl) (by kernel_rfl) (fun _ _ _ h => h) (Or.inl ⟨by rfl, ?_⟩) hHeld ?_
          rotate_left
          · intro w hSw; skip; go_simp; try with_reducible rfl
          try simp only [Act.put, List.getElem_toArray, List.getElem_cons_zero, List.getElem_cons_succ, List.setIfInBounds_toArray, List.set_cons_zero, List.set_cons_succ]
          refine wpAnyH_done (by kernel_rfl) ?_ _
          rw [← HE.out] at hO2
          replace DB := later DB hHeld
          replace HOW := Lib.hid (incl.own_call HOW.out hHeld)
          replace HVR := Lib.hid ((HVR.out.below hHeld).mono hHeld.size)
          replace hgl := Nat.lt_of_lt_of_le hgl hHeld.size
          have P0 := HP.out.on DB
          clear hHeld D2 hJ hwj hwj2 hf4 hf5 hf6 hf7
          obtain ⟨a2, c2, rfl⟩ := zs_len (zs_own hO2)
          have hel : (cur.eraseIdx j).length = m - 1 := by rw [List.length_eraseIdx_of_lt hjc, ← HM.out]
          have hI2 := zs_own hO2
          rw [hel] at hO2 hI2 ⊢
          have HO2 := Lib.hid hO2
          have HI2 := Lib.hid hI2
          obtain ⟨m1, hm1e⟩ : ∃ x, x = m - 1 := ⟨_, rfl⟩
          rw [← hm1e] at HO2 HI2 hel ⊢
          have hm1b : m1 ≤ 1000000 := by omega
          have hm1c : m1 ≤ 4096 := by omega
          have hm1d : j ≤ m1 := by omega
          clear hm1e
          have HEL := Lib.hid hel
          clear hO2 hI2 hel
          have HZE := Lib.hid (show ∀ z, zat cur j = z → z = zat cur j from fun z e => e.symm)
          generalize hzk : zat cur j = zk at hz
          have HZ2 := Lib.hid (HZE.out _ hzk)
          obtain ⟨z0, z1, z2, z3, z4, z5, rfl⟩ := six hz.2.2
          obtain ⟨c0, c1, c2', c3, c4, c5⟩ := zs_cells HVR.out hjc hzk
          rw [Nat.zero_add] at c0 c1 c2' c3 c4 c5
          have HZO := Lib.hid hz
          clear hz hzk HZE
          go_wp2_with fail
          clear c0 c1 c2' c3 c4 c5
          have hcov := covered_any z0 z1 z2 z3 z4 z5 a2 m1 c2 (cur.eraseIdx j) wB P0 HZO.out.2.1 HI2.out (fun x hx => ⟨(HW.out.1 x (era_sub cur j x hx)).2.2, (HW.out.1 x (era_sub cur j x hx)).2.1⟩) HEL.out hm1b HZO.out.1 (fun x hx => (HW.out.1 x (era_sub cur j x hx)).1)
          refine Calls.mono hcov ?_
          clear hcov
          rintro e w5 ⟨hB, is, f, rfl, n, hn, his⟩
          replace DB := later DB hB
          replace HOW := Lib.hid (incl.own_call HOW.out hB)
          replace HO2 := Lib.hid (incl.own_call HO2.out hB)
          rw [HZ2.out] at hn
          have HN := Lib.hid hn
          have HIS := Lib.hid his
          clear hn his hB P0 hgl HVR HI2
          by_cases hf : f = 0
          · subst hf
            cases is with
            | true =>
              have hn0 : n = [] := (of_decide_eq_true HIS.out.symm).2
              have HW2 := Lib.hid (HW.out.out HN.out hn0)
              have hwj := hwk.out
              have hwj2 := hwk2.out
              clear hn0 HW HN HIS
              go_wp2_with fail
              go_roundw
              case rel => exact ⟨j, m1, (j : Int) - 1, cur.eraseIdx j, rfl, by omega, hm1d, hm1c, HEL.out.symm, DB, HO2.out, HW2⟩
              case measure => simp [intOf] <;> omega
            | false =>
              have hn0 : n ≠ [] := fun e => by
                have := of_decide_eq_false HIS.out.symm
                exact this ⟨rfl, e⟩
              have HW2 := Lib.hid (HW.out.stay HN.out hn0)
              have hwj := hwk.out
              have hwj2 := hwk2.out
              clear hn0 HW HN HIS
              go_wp2_with fail
              go_roundw
              case rel => exact ⟨j, m, (j : Int) - 1, cur, rfl, by omega, by omega, hm4, HM.out, DB, HOW.out, HW2⟩
              case measure => simp [intOf] <;> omega
          · go_wp2_with fail
            exact bodyPost_ret (v := .tuple #[.slice none 0 0, .int .i64 f]) (by simp [results, Tryz.results8, go_sem]) rfl ⟨DB, _, [], f, rfl, ⟨0, HR.out, .inr ⟨rfl, HW.out.err HN.out hf⟩⟩, World.ownsRow_nil _ _ _ _, fun _ => rfl⟩
  · have HR := Lib.hid hR
    clear hR
    go_wp2_with fail
    exact bodyPost_ret (v := .tuple #[.slice none 0 0, .int .i64 f]) (by simp [results, Tryz.results8, go_sem]) rfl ⟨DB, _, [], f, rfl, ⟨f, HR.out, .inl ⟨h0, rfl, rfl⟩⟩, World.ownsRow_nil _ _ _ _, fun _ => rfl⟩
theorem prune_any (ao : Option Addr) (len cap : Nat) (l : List (List Int)) (w : World) (hP : Pl w) (hI : Zs w.heap.size w (.slice ao len cap) l) (h6 : Six l) (hl : l.length = len) (hm : len ≤ 1000000) : Calls Tryz.prog 8 #[.slice ao len cap] w (Zans (PruX RestP l) w) :=
  (prune_gen ao len cap l w (fun _ => ⟨hP, hI, h6⟩) hl).mono fun _ _ ⟨hB, v, r, f, he, hr, ho, _⟩ => ⟨hB, v, r, f, he, hr, ho⟩
theorem prune_long (ao : Option Addr) (len cap : Nat) (w : World) (h : 4096 < len) : Calls Tryz.prog 8 #[.slice ao len cap] w fun e w' => Below w.heap.size w w' ∧ e = .returned (.tuple #[.slice none 0 0, .int .i64 4]) := by
  refine (prune_gen ao len cap (List.replicate len []) w (fun k => absurd k (by omega)) List.length_replicate).mono ?_
  rintro e w' ⟨hB, v, r, f, rfl, ⟨c, hc, q⟩, hO, hv⟩
  obtain rfl := chk_long hc (.inl (by rw [List.length_replicate]; exact h))
  rcases q with ⟨_, rfl, rfl⟩ | ⟨q, _⟩
  · exact ⟨hB, by rw [hv (by decide)]⟩
  · cases q
end Go.Proofs.YthljhijcmdnonaaGreatDoor.cover
