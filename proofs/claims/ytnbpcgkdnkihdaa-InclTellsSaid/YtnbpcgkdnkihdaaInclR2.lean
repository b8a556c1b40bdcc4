/-
  What rallentandoref06's Inside, In and Apart answer; each theorem names its conditions.
-/
import Derived.Test.YtnbpcgkdnkihdaaInclR1
namespace Go.Proofs.Ytnbpcgkdnkihdaa.iref
open Go.ChangeShapes Go.WideShapes Go.ChangeAt Go.RowKit num rat dbm way Go.Proofs.Ytnbpcgkdnkihdaa.tight Go.Proofs.Ytnbpcgkdnkihdaa.incl Go.Proofs.Ytnbpcgkdnkihdaa.tref Go.Proofs.Ytnbpcgkdnkihdaa.tlaw
open bound hiding up
set_option linter.unusedVariables false
set_option linter.unusedSimpArgs false

/-- is there nothing in common with what a bound leaves out? -/
def Out (n : Nat) (ts us : List Int) (p : Nat) : Prop := us[p]?.getD 0 ≠ 9223372036854775807 → ¬ OkD n (lesT ts (oneT n (p % n) (p / n) (oth (us[p]?.getD 0))))
set_option maxRecDepth 100000 in
set_option maxHeartbeats 8000000 in
theorem inside_is (n : Nat) (sv : Value) (c pff dap : Nat) (ts us : List Int) (w : World) (h0 : 0 < n) (hn : n ≤ 4) (hI : law.Ints w.heap.size w sv ts) (hs : Row w c pff us) (hc : c < w.heap.size) (hl : ts.length = n * n) (hu : us.length = n * n) (htop : Tops ts) (hto : Tops us) (ht : MayD n ts) (hm : MayD n us) :
    Calls Try.prog 35 #[.agg #[.int .i64 n, sv], .agg #[.int .i64 n, .slice (some ⟨c, pff, none⟩) (n * n) dap]] w (Tell (inV n ts us) w) := by
  have hJ : law.Ints w.heap.size w (.slice (some ⟨c, pff, none⟩) (n * n) dap) us := .inr ⟨c, pff, dap, by rw [hu], hc, hs⟩
  have S := ilaw.st2 n n sv (.slice (some ⟨c, pff, none⟩) (n * n) dap) ts us w hI hJ
  have hiff := inside_iff h0 hn hl hu htop hto ht hm
  obtain ⟨ad, cap, rfl⟩ := ints_len hI
  have HIFF := Lib.hid hiff
  have HT := Lib.hid htop
  have HL := Lib.hid hl
  have HU := Lib.hid hu
  have HS := Lib.hid hs
  have HMT := Lib.hid ht
  have HMU := Lib.hid hm
  have hsq := sq_le hn
  clear hI hJ hs hl hu htop hto ht hm hiff
  go_enter Try.func35, Try.ntmps35
  go_wp2_with fail
  generalize (w.alloc (.cells #[.int .i64 n, .slice ad ts.length cap] 27)).alloc (.cells #[.int .i64 n, .slice (some ⟨c, pff, none⟩) (n * n) dap] 27) = w0 at S ⊢
  go_loopw [5] (fun iv wr => ∃ i : Nat, i ≤ n ∧ iv = .int .i64 i ∧ St [(w.heap.size + 1, (n : Int), .slice (some ⟨c, pff, none⟩) (n * n) dap, us), (w.heap.size, (n : Int), .slice ad ts.length cap, ts)] w wr ∧ ∀ p, p < i * n → Out n ts us p) (fun iv _ => n - (intOf iv).toNat)
  case atStart => exact ⟨0, Nat.zero_le _, rfl, S, fun p hp => by rw [Nat.zero_mul] at hp; exact absurd hp (Nat.not_lt_zero p)⟩
  case round =>
    clear S
    obtain ⟨i, hi, rfl, S, hP⟩ := hrel
    obtain ⟨y0, y1, y2, y3, y4⟩ := lies.two S.head.1
    by_cases hin : i < n
    · have HP := Lib.hid hP
      clear hP
      go_wp2_with fail
      clear y0 y1 y2 y3 y4
      go_loopw [6] (fun jv wr => ∃ j : Nat, j ≤ n ∧ jv = .int .i64 j ∧ St [(w.heap.size + 1, (n : Int), .slice (some ⟨c, pff, none⟩) (n * n) dap, us), (w.heap.size, (n : Int), .slice ad ts.length cap, ts)] w wr ∧ ∀ p, p < i * n + j → Out n ts us p) (fun jv _ => n - (intOf jv).toNat)
      case atStart => exact ⟨0, Nat.zero_le _, rfl, S, HP.out⟩
      case round =>
        clear S HP
        obtain ⟨j, hj, rfl, S, hP⟩ := hrel
        obtain ⟨y0, y1, y2, y3, y4⟩ := lies.two S.head.1
        have HP := Lib.hid hP
        clear hP
        by_cases hjn : j < n
        · obtain ⟨q1, q2, q3, q4, q5, q6, q7⟩ := dref.place_int hn hin hjn
          have hpl := place_le hn hin hjn
          have hz := (HS.out.below S.1 hc) (i * n + j) (by rw [HU.out]; exact hpl)
          have hcl := Nat.lt_of_lt_of_le hc S.1.size
          have hmod : (i * n + j) % n = j := by rw [Nat.add_comm, Nat.add_mul_mod_self_right]; exact Nat.mod_eq_of_lt hjn
          have hdiv : (i * n + j) / n = i := by rw [Nat.add_comm, Nat.add_mul_div_right _ _ h0, Nat.div_eq_of_lt hjn]; omega
          have hout : Out n ts us (i * n + j) ↔ (us[i * n + j]?.getD 0 ≠ 9223372036854775807 → ¬ OkD n (lesT ts (oneT n j i (oth (us[i * n + j]?.getD 0))))) := by
            unfold Out
            rw [hmod, hdiv]
          have hfx : Fine (us[i * n + j]?.getD 0) := HMU.out.2.2.2 _ (by rw [HU.out]; exact hpl)
          have HOUT := Lib.hid hout
          have HFX := Lib.hid hfx
          clear hout hfx hmod hdiv
          go_wp2_with fail
          clear y0 y1 y2 y3 y4 hz hcl q1 q2 q3 q4 q5 q6 q7
          have wj : wrap64 ((j : Int) + 1) = (j : Int) + 1 := IntWalk.wrap64_in _ ⟨by omega, by omega⟩
          have hstep : Out n ts us (i * n + j) → ∀ p, p < i * n + (j + 1) → Out n ts us p := fun ho p hp => by
            by_cases e : p = i * n + j
            · rw [e]; exact ho
            · exact HP.out p (by omega)
          have HST := Lib.hid hstep
          clear hstep
          generalize us[i * n + j]?.getD 0 = x at HOUT HFX ⊢
          have T0 := S.tail.head.1
          have T1 := S.head.1
          have S0 : ∀ W, Below wr.heap.size wr W → (W.cell? ⟨w.heap.size, 0, none⟩ = some (.int .i64 n) ∧ W.cell? ⟨w.heap.size, 1, none⟩ = some (.slice ad ts.length cap)) ∧ W.cell? ⟨w.heap.size + 1, 0, none⟩ = some (.int .i64 n) := fun W hW => ⟨dlaw.at_s T0 hW, (dlaw.at_s T1 hW).1⟩
          have HS0 := Lib.hid S0
          clear S0 T0 T1
          by_cases hx : x = 9223372036854775807
          · have u1 : (x != 9223372036854775807) = false := by simp [hx]
            have HX := Lib.hid hx
            clear hx
            refine wp_region_held_drew (S := Below wr.heap.size wr) (by kernel_rfl) (dbm.drawn1 (Below.refl _ _)) (fun hHeld => ?_)
            refine wpAnyH_take (i := 0) (v := ?_) rfl (by kernel_rfl) (by kernel_rfl) (by kernel_rfl) (fun _ _ _ h => h) (Or.inl ⟨by rfl, ?_⟩) hHeld ?_
            rotate_left
            · intro w hSw; skip; go_simp; try with_reducible rfl
            try simp only [Act.put, List.getElem_toArray, List.getElem_cons_zero, List.getElem_cons_succ, List.setIfInBounds_toArray, List.set_cons_zero, List.set_cons_succ]
            refine wpAnyH_take (i := 1) (v := ?_) rfl (by kernel_rfl) (by kernel_rfl) (by kernel_rfl) (fun _ _ _ h => h) (Or.inl ⟨by rfl, ?_⟩) hHeld ?_
            rotate_left
            · intro w hSw; skip; go_simp; try with_reducible rfl
            try simp only [Act.put, List.getElem_toArray, List.getElem_cons_zero, List.getElem_cons_succ, List.setIfInBounds_toArray, List.set_cons_zero, List.set_cons_succ]
            refine wpAnyH_take (i := 2) (v := ?_) rfl (by kernel_rfl) (by kernel_rfl) (by kernel_rfl) (fun _ _ _ h => h) (Or.inl ⟨by rfl, ?_⟩) hHeld ?_
            rotate_left
            · intro w hSw; skip; go_simp; try with_reducible rfl
            try simp only [Act.put, List.getElem_toArray, List.getElem_cons_zero, List.getElem_cons_succ, List.setIfInBounds_toArray, List.set_cons_zero, List.set_cons_succ]
            refine wpAnyH_take (i := 3) (v := undef) rfl (by kernel_rfl) (by kernel_rfl) (by kernel_rfl) (fun _ _ _ h => h) (Or.inr ⟨by rfl, rfl⟩) hHeld ?_
            try simp only [Act.put, List.getElem_toArray, List.getElem_cons_zero, List.getElem_cons_succ, List.setIfInBounds_toArray, List.set_cons_zero, List.set_cons_succ]
            refine wpAnyH_take (i := 4) (v := undef) rfl (by kernel_rfl) (by kernel_rfl) (by kernel_rfl) (fun _ _ _ h => h) (Or.inr ⟨by rfl, rfl⟩) hHeld ?_
            try simp only [Act.put, List.getElem_toArray, List.getElem_cons_zero, List.getElem_cons_succ, List.setIfInBounds_toArray, List.set_cons_zero, List.set_cons_succ]
            refine wpAnyH_take (i := 5) (v := undef) rfl (by kernel_rfl) (by kernel_rfl) (by kernel_rfl) (fun _ _ _ h => h) (Or.inr ⟨by rfl, rfl⟩) hHeld ?_
            try simp only [Act.put, List.getElem_toArray, List.getElem_cons_zero, List.getElem_cons_succ, List.setIfInBounds_toArray, List.set_cons_zero, List.set_cons_succ]
            refine wpAnyH_take (i := 6) (v := undef) rfl (by kernel_rfl) (by kernel_rfl) (by kernel_rfl) (fun _ _ _ h => h) (Or.inr ⟨by rfl, rfl⟩) hHeld ?_
            try simp only [Act.put, List.getElem_toArray, List.getElem_cons_zero, List.getElem_cons_succ, List.setIfInBounds_toArray, List.set_cons_zero, List.set_cons_succ]
            refine wpAnyH_take (i := 7) (v := undef) rfl (by kernel_rfl) (by kernel_rfl) (by kernel_rfl) (fun _ _ _ h => h) (Or.inr ⟨by rfl, rfl⟩) hHeld ?_
            try simp only [Act.put, List.getElem_toArray, List.getElem_cons_zero, List.getElem_cons_succ, List.setIfInBounds_toArray, List.set_cons_zero, List.set_cons_succ]
            refine wpAnyH_take (i := 8) (v := undef) rfl (by kernel_rfl) (by kernel_rfl) (by kernel_rfl) (fun _ _ _ h => h) (Or.inr ⟨by rfl, rfl⟩) hHeld ?_
            try simp only [Act.put, List.getElem_toArray, List.getElem_cons_zero, List.getElem_cons_succ, List.setIfInBounds_toArray, List.set_cons_zero, List.set_cons_succ]
            refine wpAnyH_take (i := 9) (v := undef) rfl (by kernel_rfl) (by kernel_rfl) (by kernel_rfl) (fun _ _ _ h => h) (Or.inr ⟨by rfl, rfl⟩) hHeld ?_
            try simp only [Act.put, List.getElem_toArray, List.getElem_cons_zero, List.getElem_cons_succ, List.setIfInBounds_toArray, List.set_cons_zero, List.set_cons_succ]
            refine wpAnyH_take (i := 10) (v := undef) rfl (by kernel_rfl) (by kernel_rfl) (by kernel_rfl) (fun _ _ _ h => h) (Or.inr ⟨by rfl, rfl⟩) hHeld ?_
            try simp only [Act.put, List.getElem_toArray, List.getElem_cons_zero, List.getElem_cons_succ, List.setIfInBounds_toArray, List.set_cons_zero, List.set_cons_succ]
            refine wpAnyH_take (i := 11) (v := undef) rfl (by kernel_rfl) (by kernel_rfl) (by kernel_rfl) (fun _ _ _ h => h) (Or.inr ⟨by rfl, rfl⟩) hHeld ?_
            try simp only [Act.put, List.getElem_toArray, List.getElem_cons_zero, List.getElem_cons_succ, List.setIfInBounds_toArray, List.set_cons_zero, List.set_cons_succ]
            refine wpAnyH_take (i := 12) (v := undef) rfl (by kernel_rfl) (by kernel_rfl) (by kernel_rfl) (fun _ _ _ h => h) (Or.inr ⟨by rfl, rfl⟩) hHeld ?_
            try simp only [Act.put, List.getElem_toArray, List.getElem_cons_zero, List.getElem_cons_succ, List.setIfInBounds_toArray, List.set_cons_zero, List.set_cons_succ]
            refine wpAnyH_take (i := 13) (v := ?_) rfl (by kernel_rfl) (by kernel_rfl) (by kernel_rfl) (fun _ _ _ h => h) (Or.inl ⟨by rfl, ?_⟩) hHeld ?_
            rotate_left
            · intro w hSw; skip; go_simp; try with_reducible rfl
            try simp only [Act.put, List.getElem_toArray, List.getElem_cons_zero, List.getElem_cons_succ, List.setIfInBounds_toArray, List.set_cons_zero, List.set_cons_succ]
            refine wpAnyH_done (by kernel_rfl) ?_ _
            have S1 := S.below hHeld
            clear hHeld S
            go_wp2_with fail
            go_roundw
            case rel => exact ⟨j + 1, by omega, by go_num, S1, HST.out (HOUT.out.2 fun k => (k HX.out).elim)⟩
            case measure => simp [intOf]; omega
          · have u1 : (x != 9223372036854775807) = true := by simpa using hx
            have hmx : May (x / 2) := by
              rcases HFX.out with k | k
              · exact (hx k).elim
              · unfold May; omega
            have hof := oth_fine HFX.out hx
            have HX := Lib.hid hx
            have HMX := Lib.hid hmx
            have hom := one_fine h0 hn hjn hin hof
            have HLES := Lib.hid (lesT_may HMT.out hom)
            clear hx hmx hof hom
            refine wp_region_held_drew (S := Below wr.heap.size wr) (by kernel_rfl) (dbm.drawn1 (Below.refl _ _)) (fun hHeld => ?_)
            refine wpAnyH_take (i := 0) (v := ?_) rfl (by kernel_rfl) (by kernel_rfl) (by kernel_rfl) (fun _ _ _ h => h) (Or.inl ⟨by rfl, ?_⟩) hHeld ?_
            rotate_left
            · intro w hSw; obtain ⟨⟨s0, s1⟩, s2⟩ := HS0.out _ hSw; go_simp; try with_reducible rfl
            try simp only [Act.put, List.getElem_toArray, List.getElem_cons_zero, List.getElem_cons_succ, List.setIfInBounds_toArray, List.set_cons_zero, List.set_cons_succ]
            refine wpAnyH_take (i := 1) (v := ?_) rfl (by kernel_rfl) (by kernel_rfl) (by kernel_rfl) (fun _ _ _ h => h) (Or.inl ⟨by rfl, ?_⟩) hHeld ?_
            rotate_left
            · intro w hSw; obtain ⟨⟨s0, s1⟩, s2⟩ := HS0.out _ hSw; go_simp; try with_reducible rfl
            try simp only [Act.put, List.getElem_toArray, List.getElem_cons_zero, List.getElem_cons_succ, List.setIfInBounds_toArray, List.set_cons_zero, List.set_cons_succ]
            refine wpAnyH_take (i := 2) (v := ?_) rfl (by kernel_rfl) (by kernel_rfl) (by kernel_rfl) (fun _ _ _ h => h) (Or.inl ⟨by rfl, ?_⟩) hHeld ?_
            rotate_left
            · intro w hSw; obtain ⟨⟨s0, s1⟩, s2⟩ := HS0.out _ hSw; go_simp; try with_reducible rfl
            try simp only [Act.put, List.getElem_toArray, List.getElem_cons_zero, List.getElem_cons_succ, List.setIfInBounds_toArray, List.set_cons_zero, List.set_cons_succ]
            refine wpAnyH_take (i := 3) (v := ?_) rfl (by kernel_rfl) (by kernel_rfl) (by kernel_rfl) (fun _ _ _ h => h) (Or.inl ⟨by rfl, ?_⟩) hHeld ?_
            rotate_left
            · intro w hSw; obtain ⟨⟨s0, s1⟩, s2⟩ := HS0.out _ hSw; go_simp; try with_reducible rfl
            try simp only [Act.put, List.getElem_toArray, List.getElem_cons_zero, List.getElem_cons_succ, List.setIfInBounds_toArray, List.set_cons_zero, List.set_cons_succ]
            refine wpAnyH_take (i := 4) (v := ?_) rfl (by kernel_rfl) (by kernel_rfl) (by kernel_rfl) (fun _ _ _ h => h) (Or.inl ⟨by rfl, ?_⟩) hHeld ?_
            rotate_left
            · intro w hSw; obtain ⟨⟨s0, s1⟩, s2⟩ := HS0.out _ hSw; go_simp; try with_reducible rfl
            try simp only [Act.put, List.getElem_toArray, List.getElem_cons_zero, List.getElem_cons_succ, List.setIfInBounds_toArray, List.set_cons_zero, List.set_cons_succ]
            refine wpAnyH_take (i := 5) (v := ?_) rfl (by kernel_rfl) (by kernel_rfl) (by kernel_rfl) (fun _ _ _ h => h) (Or.inl ⟨by rfl, ?_⟩) hHeld ?_
            rotate_left
            · intro w hSw; obtain ⟨⟨s0, s1⟩, s2⟩ := HS0.out _ hSw; go_simp; try with_reducible rfl
            try simp only [Act.put, List.getElem_toArray, List.getElem_cons_zero, List.getElem_cons_succ, List.setIfInBounds_toArray, List.set_cons_zero, List.set_cons_succ]
            refine wpAnyH_take (i := 6) (v := ?_) rfl (by kernel_rfl) (by kernel_rfl) (by kernel_rfl) (fun _ _ _ h => h) (Or.inl ⟨by rfl, ?_⟩) hHeld ?_
            rotate_left
            · intro w hSw; obtain ⟨⟨s0, s1⟩, s2⟩ := HS0.out _ hSw; go_simp; try with_reducible rfl
            try simp only [Act.put, List.getElem_toArray, List.getElem_cons_zero, List.getElem_cons_succ, List.setIfInBounds_toArray, List.set_cons_zero, List.set_cons_succ]
            refine wpAnyH_take (i := 7) (v := ?_) rfl (by kernel_rfl) (by kernel_rfl) (by kernel_rfl) (fun _ _ _ h => h) (Or.inl ⟨by rfl, ?_⟩) hHeld ?_
            rotate_left
            · intro w hSw; obtain ⟨⟨s0, s1⟩, s2⟩ := HS0.out _ hSw; go_simp; try with_reducible rfl
            try simp only [Act.put, List.getElem_toArray, List.getElem_cons_zero, List.getElem_cons_succ, List.setIfInBounds_toArray, List.set_cons_zero, List.set_cons_succ]
            refine wpAnyH_take (i := 8) (v := ?_) rfl (by kernel_rfl) (by kernel_rfl) (by kernel_rfl) (fun _ _ _ h => h) (Or.inl ⟨by rfl, ?_⟩) hHeld ?_
            rotate_left
            · intro w hSw; obtain ⟨⟨s0, s1⟩, s2⟩ := HS0.out _ hSw; go_simp; try with_reducible rfl
            try simp only [Act.put, List.getElem_toArray, List.getElem_cons_zero, List.getElem_cons_succ, List.setIfInBounds_toArray, List.set_cons_zero, List.set_cons_succ]
            refine wpAnyH_ready (rs := [9]) (by kernel_rfl) (by simp) (AllReadyH.cons rfl (fun K hK => ?_) AllReadyH.nil)
            go_simp
            refine (other_ok x _ HMX.out).mono ?_
            rintro e v1 ⟨rfl, rfl⟩
            refine hK.out _ _ hHeld (fun hNew => ?_)
            clear hHeld hK K
            have hHeld := hNew
            clear hNew
            try simp only [Act.put, List.getElem_toArray, List.getElem_cons_zero, List.getElem_cons_succ, List.setIfInBounds_toArray, List.set_cons_zero, List.set_cons_succ]
            refine wpAnyH_ready (rs := [10]) (by kernel_rfl) (by simp) (AllReadyH.cons rfl (fun K hK => ?_) AllReadyH.nil)
            go_simp
            refine (one_is n j i (oth x) _ h0 hn hjn hin).mono ?_
            rintro e v2 ⟨hB, g, cc, rfl, hg, hO⟩
            have hR := tref.own_row hO (oneT_length n j i (oth x))
            have hgl := (hO.lt g rfl).2
            have B2 := hHeld.trans (hB.mono hHeld.size)
            refine hK.out _ _ B2 (fun hNew => ?_)
            clear hB hO hg
            clear hHeld hK K
            have hHeld := hNew
            clear hNew
            try simp only [Act.put, List.getElem_toArray, List.getElem_cons_zero, List.getElem_cons_succ, List.setIfInBounds_toArray, List.set_cons_zero, List.set_cons_succ]
            refine wpAnyH_ready (rs := [11]) (by kernel_rfl) (by simp) (AllReadyH.cons rfl (fun K hK => ?_) AllReadyH.nil)
            go_simp
            refine (away_is n _ g 0 cc ts (oneT n j i (oth x)) _ h0 hn ((S.below hHeld).tail.head.2) hR hgl HL.out (oneT_length _ _ _ _) HT.out HLES.out).mono ?_
            rintro e v3 ⟨hB, r, rfl, hr⟩
            have B3 := hHeld.trans (hB.mono hHeld.size)
            have HRR := Lib.hid hr
            clear hB hR hgl hr B2
            cases r with
            | true =>
              refine hK.out _ _ B3 (fun hNew => ?_)
              clear hHeld hK K
              have hHeld := hNew
              clear hNew
              try simp only [Act.put, List.getElem_toArray, List.getElem_cons_zero, List.getElem_cons_succ, List.setIfInBounds_toArray, List.set_cons_zero, List.set_cons_succ]
              refine wpAnyH_take (i := 12) (v := ?_) rfl (by kernel_rfl) (by kernel_rfl) (by kernel_rfl) (fun _ _ _ h => h) (Or.inl ⟨by rfl, ?_⟩) hHeld ?_
              rotate_left
              · intro w hSw; skip; go_simp; try with_reducible rfl
              try simp only [Act.put, List.getElem_toArray, List.getElem_cons_zero, List.getElem_cons_succ, List.setIfInBounds_toArray, List.set_cons_zero, List.set_cons_succ]
              refine wpAnyH_take (i := 13) (v := ?_) rfl (by kernel_rfl) (by kernel_rfl) (by kernel_rfl) (fun _ _ _ h => h) (Or.inl ⟨by rfl, ?_⟩) hHeld ?_
              rotate_left
              · intro w hSw; skip; go_simp; try with_reducible rfl
              try simp only [Act.put, List.getElem_toArray, List.getElem_cons_zero, List.getElem_cons_succ, List.setIfInBounds_toArray, List.set_cons_zero, List.set_cons_succ]
              refine wpAnyH_done (by kernel_rfl) ?_ _
              have S1 := S.below hHeld
              clear hHeld S B3
              go_wp2_with fail
              go_roundw
              case rel => exact ⟨j + 1, by omega, by go_num, S1, HST.out (HOUT.out.2 fun _ => HRR.out.1 (by simp))⟩
              case measure => simp [intOf]; omega
            | false =>
              refine hK.out _ _ B3 (fun hNew => ?_)
              clear hHeld hK K
              have hHeld := hNew
              clear hNew
              try simp only [Act.put, List.getElem_toArray, List.getElem_cons_zero, List.getElem_cons_succ, List.setIfInBounds_toArray, List.set_cons_zero, List.set_cons_succ]
              refine wpAnyH_take (i := 12) (v := ?_) rfl (by kernel_rfl) (by kernel_rfl) (by kernel_rfl) (fun _ _ _ h => h) (Or.inl ⟨by rfl, ?_⟩) hHeld ?_
              rotate_left
              · intro w hSw; skip; go_simp; try with_reducible rfl
              try simp only [Act.put, List.getElem_toArray, List.getElem_cons_zero, List.getElem_cons_succ, List.setIfInBounds_toArray, List.set_cons_zero, List.set_cons_succ]
              refine wpAnyH_take (i := 13) (v := ?_) rfl (by kernel_rfl) (by kernel_rfl) (by kernel_rfl) (fun _ _ _ h => h) (Or.inl ⟨by rfl, ?_⟩) hHeld ?_
              rotate_left
              · intro w hSw; skip; go_simp; try with_reducible rfl
              try simp only [Act.put, List.getElem_toArray, List.getElem_cons_zero, List.getElem_cons_succ, List.setIfInBounds_toArray, List.set_cons_zero, List.set_cons_succ]
              refine wpAnyH_done (by kernel_rfl) ?_ _
              have S1 := S.below hHeld
              clear hHeld S B3
              go_wp2_with fail
              go_ret
              refine ⟨S1.1, false, rfl, fun h => (by cases h), fun h => ?_⟩
              have h1 := HIFF.out.1 h (i * n + j) hpl
              have h2 := HRR.out.2 (HOUT.out.1 h1 HX.out)
              simp at h2
        · obtain rfl : j = n := by omega
          have wi : wrap64 ((i : Int) + 1) = (i : Int) + 1 := IntWalk.wrap64_in _ ⟨by omega, by omega⟩
          go_wp2_with fail
          go_roundw
          case rel => exact ⟨i + 1, by omega, by go_num, S, fun p hp => HP.out p (by rw [Nat.add_mul, Nat.one_mul] at hp; exact hp)⟩
          case measure => simp [intOf]; omega
    · obtain rfl : i = n := by omega
      have HP := Lib.hid hP
      clear hP
      go_wp2_with fail
      go_ret
      exact ⟨S.1, true, rfl, fun _ => HIFF.out.2 HP.out, fun _ => rfl⟩
end Go.Proofs.Ytnbpcgkdnkihdaa.iref
