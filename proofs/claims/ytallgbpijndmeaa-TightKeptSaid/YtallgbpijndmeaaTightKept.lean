/-
  TightKept answers true for every two matrices, clocks, bound and times; no condition.
-/
import Derived.Test.YtallgbpijndmeaaTightLaw
import Derived.Test.YtallgbpijndmeaaTightKm
import Derived.Test.YtallgbpijndmeaaDbmE
import Derived.OpenShut
import Derived.BigQuiet
namespace Go.Proofs.Ytallgbpijndmeaa.tightKept
open Go.ChangeShapes Go.WideShapes Go.ChangeAt Go.RowKit num dbm rat Go.Proofs.Ytallgbpijndmeaa.tight tlaw tkept
open bound hiding up
set_option linter.unusedVariables false
set_option linter.unusedSimpArgs false

set_option maxRecDepth 100000 in
set_option maxHeartbeats 1000000 in
theorem walk_far (n m i j x : Int) (sv tv rv : Value) (ts us : List Int) (rs : List (Int × Int)) (w : World) (hI : law.Ints w.heap.size w sv ts) (hJ : law.Ints w.heap.size w tv us) (hR : Rats w.heap.size w rv rs) (h : 1000 < ts.length ∨ (ts.length ≤ 1000 ∧ 1000 < us.length) ∨ (ts.length ≤ 1000 ∧ us.length ≤ 1000 ∧ 100 < rs.length)) :
    Calls Try.prog 5 #[.agg #[.int .i64 n, sv], .agg #[.int .i64 m, tv], .int .i64 i, .int .i64 j, .int .i64 x, rv] w fun e w' => e = .returned (.bool true) ∧ Below w.heap.size w w' := by
  obtain ⟨ad, cap, rfl⟩ := ints_len hI
  obtain ⟨bd, dap, rfl⟩ := ints_len hJ
  obtain ⟨rd, rap, rfl⟩ := rats_len hR
  have D0 := lies.on_alloc (lies.made w 24 #[.int .i64 n, .slice ad ts.length cap]) (.cells #[.int .i64 m, .slice bd us.length dap] 24)
  have D1 := lies.made_at (w.alloc (.cells #[.int .i64 n, .slice ad ts.length cap] 24)) 24 #[.int .i64 m, .slice bd us.length dap] (w.heap.size + 1) (by simp)
  have K0 := bound.up2 w (.cells #[.int .i64 n, .slice ad ts.length cap] 24) (.cells #[.int .i64 m, .slice bd us.length dap] 24)
  clear hI hJ hR
  rcases h with h | ⟨h, h2⟩ | ⟨h, h2, h3⟩
  · have t1 : (1000 : Int) < ts.length := by omega
    go_enter Try.func5, Try.ntmps5
    go_wp2_with fail
    refine (alive_yes _).mono ?_
    rintro e w1 ⟨rfl, hB⟩
    obtain ⟨x0, x1, x2, x3, x4⟩ := lies.two (lies.on_call D0 hB)
    have K := K0.trans (hB.mono K0.size)
    clear hB D0 D1 K0
    go_wp2_with fail
    go_ret
    exact ⟨rfl, K⟩
  · have t1 : ¬ (1000 : Int) < ts.length := by omega
    have t2 : (1000 : Int) < us.length := by omega
    go_enter Try.func5, Try.ntmps5
    go_wp2_with fail
    refine (alive_yes _).mono ?_
    rintro e w1 ⟨rfl, hB⟩
    obtain ⟨x0, x1, x2, x3, x4⟩ := lies.two (lies.on_call D0 hB)
    obtain ⟨y0, y1, y2, y3, y4⟩ := lies.two (lies.on_call D1 hB)
    have K := K0.trans (hB.mono K0.size)
    clear hB D0 D1 K0
    go_wp2_with fail
    go_ret
    exact ⟨rfl, K⟩
  · have t1 : ¬ (1000 : Int) < ts.length := by omega
    have t2 : ¬ (1000 : Int) < us.length := by omega
    have t3 : (100 : Int) < rs.length := by omega
    go_enter Try.func5, Try.ntmps5
    go_wp2_with fail
    refine (alive_yes _).mono ?_
    rintro e w1 ⟨rfl, hB⟩
    obtain ⟨x0, x1, x2, x3, x4⟩ := lies.two (lies.on_call D0 hB)
    obtain ⟨y0, y1, y2, y3, y4⟩ := lies.two (lies.on_call D1 hB)
    have K := K0.trans (hB.mono K0.size)
    clear hB D0 D1 K0
    go_wp2_with fail
    go_ret
    exact ⟨rfl, K⟩

set_option maxRecDepth 100000 in
set_option maxHeartbeats 30000000 in
theorem walk_in (n m i j x : Int) (sv tv rv : Value) (ts us : List Int) (rs : List (Int × Int)) (w : World) (hI : law.Ints w.heap.size w sv ts) (hJ : law.Ints w.heap.size w tv us) (hR : Rats w.heap.size w rv rs) (hi : IntsR rs) (h1 : ts.length ≤ 1000) (h2 : us.length ≤ 1000) (h3 : rs.length ≤ 100) (htop : Tops ts) (hto : Tops us) (x2 : x ≤ 9223372036854775807) :
    Calls Try.prog 5 #[.agg #[.int .i64 n, sv], .agg #[.int .i64 m, tv], .int .i64 i, .int .i64 j, .int .i64 x, rv] w fun e w' => e = .returned (.bool true) ∧ Below w.heap.size w w' := by
  obtain ⟨ad, cap, rfl⟩ := ints_len hI
  obtain ⟨bd, dap, rfl⟩ := ints_len hJ
  obtain ⟨rd, rap, rfl⟩ := rats_len hR
  have t1 : ¬ (1000 : Int) < ts.length := by omega
  have t2 : ¬ (1000 : Int) < us.length := by omega
  have t3 : ¬ (100 : Int) < rs.length := by omega
  have S0 : St [(w.heap.size + 1, m, .slice bd us.length dap, us), (w.heap.size, n, .slice ad ts.length cap, ts)] w ((w.alloc (.cells #[.int .i64 n, .slice ad ts.length cap] 24)).alloc (.cells #[.int .i64 m, .slice bd us.length dap] 24)) := by
    have K : Below w.heap.size w ((w.alloc (.cells #[.int .i64 n, .slice ad ts.length cap] 24)).alloc (.cells #[.int .i64 m, .slice bd us.length dap] 24)) := bound.up2 _ _ _
    refine ⟨K, fun b hb => ?_⟩
    rcases List.mem_cons.1 hb with rfl | hb
    · exact ⟨lies.made_at _ _ _ _ (World.size_alloc _ _), (hJ.below K).mono K.size⟩
    · obtain rfl := List.mem_singleton.1 hb
      exact ⟨lies.on_alloc (lies.made _ _ _) _, (hI.below K).mono K.size⟩
  have HT := Lib.hid htop
  have HU := Lib.hid hto
  have HR := Lib.hid hR
  have HII := Lib.hid hi
  clear hI hJ htop hto hR hi
  go_enter Try.func5, Try.ntmps5
  go_wp2_with fail
  generalize (w.alloc (.cells #[.int .i64 n, .slice ad ts.length cap] 24)).alloc (.cells #[.int .i64 m, .slice bd us.length dap] 24) = v0 at S0 ⊢
  refine (alive_yes _).mono ?_
  rintro e v1 ⟨rfl, hB⟩
  have S1 := S0.below hB
  clear S0 hB
  obtain ⟨x0, x1, x2', x3, x4⟩ := lies.two S1.tail.head.1
  obtain ⟨y0, y1, y2, y3, y4⟩ := lies.two S1.head.1
  go_wp2_with fail
  clear x0 x1 x2' x3 x4 y0 y1 y2 y3 y4
  refine (dkeeps_any n _ _ ts rs _ S1.tail.head.2 (by omega) HT.out ((HR.out.below S1.1).mono S1.1.size) HII.out (by omega)).mono ?_
  rintro e v2 ⟨hB, one, c, rfl, hc⟩
  have S2 := S1.below hB
  clear S1 hB
  by_cases hc0 : c = 0
  · subst hc0
    obtain ⟨hm, hmt, hd, hone⟩ : MayD n ts ∧ MayT rs ∧ (rs.length : Int) = n - 1 ∧ (one = true ↔ keptAll n.toNat ts ((0, 1) :: rs)) := by
      rcases hc with ⟨h, _⟩ | ⟨h, _⟩ | ⟨_, h⟩
      · exact absurd h (by decide)
      · exact absurd h (by decide)
      · exact h
    clear hc
    obtain ⟨q, rfl, h0, hn, hl⟩ := may_nat hm
    rw [Int.toNat_natCast] at hone
    have hR2 := HR.out.below S2.1
    obtain ⟨v', w3, hrun, hown, hgrow, hvn⟩ := app_times v2.heap.size 42 (.slice (some ⟨v2.heap.size, 0, none⟩) 1 1) (.slice rd rs.length rap) 1 w.heap.size [.int .i64 0, .int .i64 1] rs (v2.alloc (.cells #[.int .i64 0, .int .i64 1] 46)) (World.ownsRow_lit v2 #[.int .i64 0, .int .i64 1] 1 (Nat.le_refl _) (by decide) rfl) (eq_false (by simp)) (hR2.below ((Below.refl w.heap.size v2).alloc S2.1.size _)) (by omega) (by simp)
    have hBX := grown_b (o := .cells #[.int .i64 0, .int .i64 1] 46) hgrow
    obtain ⟨g, capg, rfl, hg, hgw⟩ := own_some hown hvn
    have hlen : 1 + rs.length = q := by omega
    have hq : RowR w3 g 0 ((0, 1) :: rs) := own_rowR hown
    rw [hlen] at hrun
    have HRUN := Lib.hid hrun
    have S3 := S2.below hBX
    have hqn : ((0, 1) :: rs).length = q := by simp; omega
    obtain ⟨hqi, hqm⟩ := with_zero HII.out hmt
    obtain ⟨qs, hqs⟩ : ∃ qs, qs = (0, 1) :: rs := ⟨_, rfl⟩
    rw [← hqs] at hq hqn hqi hqm hone
    have HQN := Lib.hid hqn
    have HQI := Lib.hid hqi
    have HQM := Lib.hid hqm
    have HQS := Lib.hid hqs
    have HQ := Lib.hid hq
    have HM := Lib.hid hm
    have HMT := Lib.hid hmt
    have HL := Lib.hid hl
    have HD := Lib.hid hd
    have HONE := Lib.hid hone
    clear hrun hown hgrow hvn hBX hR2 hlen hqn hqi hqm hqs hq hm hmt hd hone hg S2 hl
    go_wp2_with (at_builtin; refine dref.append_run2 rfl (.tmp 59) (.tmp 60) 42 rfl _ _ _ _ rfl rfl HRUN.out ?_; clear HRUN; obtain ⟨x0, x1, x2', x3, x4⟩ := lies.two S3.tail.head.1)
    clear x0 x1 x2' x3 x4
    refine (set_any q i j x _ ts _ S3.tail.head.2 (by omega) HT.out x2).mono ?_
    rintro e v4 ⟨hB, n4, a4, l4, c4, us4, f4, rfl, hR4, hK⟩
    have S4 := (S3.below hB).add n4 _ us4 hK.ints
    have hq4 := (HQ.out.below hB hgw).below (up1 v4 (.cells #[.int .i64 n4, .slice a4 l4 c4] 24)) (Nat.lt_of_lt_of_le hgw hB.size)
    have hgw4 : g < (v4.alloc (.cells #[.int .i64 n4, .slice a4 l4 c4] 24)).heap.size := Nat.lt_of_lt_of_le (Nat.lt_of_lt_of_le hgw hB.size) (by simp)
    have HQ4 := Lib.hid hq4
    have HR4 := Lib.hid hR4
    clear S3 hB hK hR4 hq4 HQ hgw
    cases one with
    | false =>
      go_upto_region 9 with fail
      generalize v4.heap.size = B4 at S4 ⊢
      generalize v4.alloc (.cells #[.int .i64 n4, .slice a4 l4 c4] 24) = w4 at S4 HQ4 hgw4 ⊢
      go_cut [75, 18] from 28 (fun s75 s18 wx => s75 = .bool (decide (f4 = 0 ∨ f4 = 6)) ∧ s18 = .int .i64 f4 ∧ w4 = wx)
      case first =>
        go_wp2_with fail
        all_goals
          go_meet
          refine ⟨?_, ?_, rfl⟩
          all_goals first | (simp_all; done) | (by_cases e0 : f4 = 0 <;> by_cases e6 : f4 = 6 <;> simp_all)
      case rest =>
        obtain ⟨h75, h18, hwc⟩ := hcut
        subst h75
        subst h18
        subst hwc
        go_upto_if 75 with fail
        go_cut [19] from 28 (fun s19 wx => St [(B4, n4, .slice a4 l4 c4, us4), (w.heap.size + 1, m, .slice bd us.length dap, us), (w.heap.size, (q : Int), .slice ad ts.length cap, ts)] w wx)
        case first =>
          by_cases hs : MayD q ts ∧ Clk q i ∧ Clk q j ∧ Fine x
          · have hR := HR4.out
            unfold setQ at hR
            rw [if_pos hs] at hR
            obtain ⟨_, ⟨hi1, hi2⟩, ⟨hj1, hj2⟩, hfx⟩ := hs
            obtain ⟨p, rfl⟩ : ∃ p : Nat, i = p := ⟨i.toNat, by omega⟩
            obtain ⟨r, rfl⟩ : ∃ r : Nat, j = r := ⟨j.toNat, by omega⟩
            have hp : p < q := by omega
            have hr : r < q := by omega
            simp only [Int.toNat_natCast] at hR
            have hA : Ans q (setT ts (p * q + r) x) n4 us4 f4 := by
              rcases hR with ⟨h, _⟩ | ⟨L, h, h'⟩
              · cases h
              · cases h; exact h'
            have hka := kept_ans h0 hn ((setT_length _ _ _).trans HL.out) (setT_tops HT.out _ _) (setT_may HM.out _ hfx) HQM.out HQN.out hA
            have hks := kept_set hn HL.out HM.out hfx HQM.out HQN.out hp hr
            have M1' := HQM.out p (by rw [HQN.out]; exact hp)
            have M2' := HQM.out r (by rw [HQN.out]; exact hr)
            obtain ⟨⟨k1, k2⟩, _⟩ := HQI.out p (by rw [HQN.out]; exact hp)
            obtain ⟨⟨k3, k4⟩, _⟩ := HQI.out r (by rw [HQN.out]; exact hr)
            generalize hL : setT ts (p * q + r) x = L at hka hks
            generalize hso : kpV (pr qs p).1 (pr qs p).2 (pr qs r).1 (pr qs r).2 x = so at hks
            have kc : ∀ X, Below w4.heap.size w4 X → X.cell? ⟨g, p * 2, none⟩ = some (.int .i64 (pr qs p).1) ∧ X.cell? ⟨g, p * 2 + 1, none⟩ = some (.int .i64 (pr qs p).2) ∧ X.cell? ⟨g, r * 2, none⟩ = some (.int .i64 (pr qs r).1) ∧ X.cell? ⟨g, r * 2 + 1, none⟩ = some (.int .i64 (pr qs r).2) := fun X k => by
              have r1 := (HQ4.out.below k hgw4) p (by rw [HQN.out]; exact hp)
              have r2 := (HQ4.out.below k hgw4) r (by rw [HQN.out]; exact hr)
              rw [Nat.zero_add] at r1 r2
              exact ⟨r1.1, r1.2, r2.1, r2.2⟩
            generalize (pr qs p).1 = a at M1' k1 k2 hso kc
            generalize (pr qs p).2 = bb at M1' hso kc
            generalize (pr qs r).1 = cc at M2' k3 k4 hso kc
            generalize (pr qs r).2 = d at M2' hso kc
            have KC := Lib.hid kc
            have z1 : (p : Int) < q := by omega
            have z2 : (r : Int) < q := by omega
            have C5 := Lib.hid (fun W => keeps_in a bb cc d x so W k1 k2 k3 k4 M1' M2' hfx hso)
            have HKA := Lib.hid hka
            have HKS := Lib.hid hks
            clear hR hA hka hks hL hso M1' M2' k1 k2 k3 k4 hfx HR4 kc
            rcases HKA.out with ⟨rfl, hno⟩ | ⟨rfl, rfl, hul, hut, hcl⟩
            · have HNO := Lib.hid hno
              clear hno
              go_wp2_with fail
              refine wp_region_held_drew (S := Below w4.heap.size w4) (by kernel_rfl) (dbm.drawn1 (Below.refl _ _)) (fun hHeld => ?_)
              refine wpAnyH_take (i := 0) (v := ?_) rfl (by kernel_rfl) (by kernel_rfl) (by kernel_rfl) (fun _ _ _ h => h) (Or.inl ⟨by rfl, ?_⟩) hHeld ?_
              rotate_left
              · intro w hSw; skip; go_simp; try with_reducible rfl
              try simp only [Act.put, List.getElem_toArray, List.getElem_cons_zero, List.getElem_cons_succ, List.setIfInBounds_toArray, List.set_cons_zero, List.set_cons_succ]
              refine wpAnyH_take (i := 1) (v := ?_) rfl (by kernel_rfl) (by kernel_rfl) (by kernel_rfl) (fun _ _ _ h => h) (Or.inl ⟨by rfl, ?_⟩) hHeld ?_
              rotate_left
              · intro w hSw; skip; go_simp; try with_reducible rfl
              try simp only [Act.put, List.getElem_toArray, List.getElem_cons_zero, List.getElem_cons_succ, List.setIfInBounds_toArray, List.set_cons_zero, List.set_cons_succ]
              refine wpAnyH_take (i := 2) (v := ?_) rfl (by kernel_rfl) (by kernel_rfl) (by kernel_rfl) (fun _ _ _ h => h) (Or.inl ⟨by rfl, ?_⟩) hHeld ?_
              rotate_left
              · intro w hSw; skip; go_simp; try with_reducible rfl
              try simp only [Act.put, List.getElem_toArray, List.getElem_cons_zero, List.getElem_cons_succ, List.setIfInBounds_toArray, List.set_cons_zero, List.set_cons_succ]
              refine wpAnyH_take (i := 3) (v := ?_) rfl (by kernel_rfl) (by kernel_rfl) (by kernel_rfl) (fun _ _ _ h => h) (Or.inl ⟨by rfl, ?_⟩) hHeld ?_
              rotate_left
              · intro w hSw; obtain ⟨s0, s1, s2, s3⟩ := KC.out _ hSw; go_simp; try with_reducible rfl
              try simp only [Act.put, List.getElem_toArray, List.getElem_cons_zero, List.getElem_cons_succ, List.setIfInBounds_toArray, List.set_cons_zero, List.set_cons_succ]
              refine wpAnyH_take (i := 4) (v := ?_) rfl (by kernel_rfl) (by kernel_rfl) (by kernel_rfl) (fun _ _ _ h => h) (Or.inl ⟨by rfl, ?_⟩) hHeld ?_
              rotate_left
              · intro w hSw; skip; go_simp; try with_reducible rfl
              try simp only [Act.put, List.getElem_toArray, List.getElem_cons_zero, List.getElem_cons_succ, List.setIfInBounds_toArray, List.set_cons_zero, List.set_cons_succ]
              refine wpAnyH_take (i := 5) (v := ?_) rfl (by kernel_rfl) (by kernel_rfl) (by kernel_rfl) (fun _ _ _ h => h) (Or.inl ⟨by rfl, ?_⟩) hHeld ?_
              rotate_left
              · intro w hSw; skip; go_simp; try with_reducible rfl
              try simp only [Act.put, List.getElem_toArray, List.getElem_cons_zero, List.getElem_cons_succ, List.setIfInBounds_toArray, List.set_cons_zero, List.set_cons_succ]
              refine wpAnyH_take (i := 6) (v := ?_) rfl (by kernel_rfl) (by kernel_rfl) (by kernel_rfl) (fun _ _ _ h => h) (Or.inl ⟨by rfl, ?_⟩) hHeld ?_
              rotate_left
              · intro w hSw; skip; go_simp; try with_reducible rfl
              try simp only [Act.put, List.getElem_toArray, List.getElem_cons_zero, List.getElem_cons_succ, List.setIfInBounds_toArray, List.set_cons_zero, List.set_cons_succ]
              refine wpAnyH_take (i := 7) (v := ?_) rfl (by kernel_rfl) (by kernel_rfl) (by kernel_rfl) (fun _ _ _ h => h) (Or.inl ⟨by rfl, ?_⟩) hHeld ?_
              rotate_left
              · intro w hSw; obtain ⟨s0, s1, s2, s3⟩ := KC.out _ hSw; go_simp; try with_reducible rfl
              try simp only [Act.put, List.getElem_toArray, List.getElem_cons_zero, List.getElem_cons_succ, List.setIfInBounds_toArray, List.set_cons_zero, List.set_cons_succ]
              refine wpAnyH_take (i := 8) (v := ?_) rfl (by kernel_rfl) (by kernel_rfl) (by kernel_rfl) (fun _ _ _ h => h) (Or.inl ⟨by rfl, ?_⟩) hHeld ?_
              rotate_left
              · intro w hSw; skip; go_simp; try with_reducible rfl
              try simp only [Act.put, List.getElem_toArray, List.getElem_cons_zero, List.getElem_cons_succ, List.setIfInBounds_toArray, List.set_cons_zero, List.set_cons_succ]
              refine wpAnyH_ready (rs := [9]) (by kernel_rfl) (by simp) (AllReadyH.cons rfl (fun K hK => ?_) AllReadyH.nil)
              go_simp
              refine (C5.out _).mono ?_
              rintro e v5 ⟨rfl, hB⟩
              refine hK.out _ _ (hHeld.trans (hB.mono hHeld.size)) (fun hNew => ?_)
              clear hB
              clear hHeld hK K
              have hHeld := hNew
              clear hNew
              try simp only [Act.put, List.getElem_toArray, List.getElem_cons_zero, List.getElem_cons_succ, List.setIfInBounds_toArray, List.set_cons_zero, List.set_cons_succ]
              refine wpAnyH_take (i := 10) (v := ?_) rfl (by kernel_rfl) (by kernel_rfl) (by kernel_rfl) (fun _ _ _ h => h) (Or.inl ⟨by rfl, ?_⟩) hHeld ?_
              rotate_left
              · intro w hSw; skip; go_simp; try with_reducible rfl
              try simp only [Act.put, List.getElem_toArray, List.getElem_cons_zero, List.getElem_cons_succ, List.setIfInBounds_toArray, List.set_cons_zero, List.set_cons_succ]
              refine wpAnyH_take (i := 11) (v := ?_) rfl (by kernel_rfl) (by kernel_rfl) (by kernel_rfl) (fun _ _ _ h => h) (Or.inl ⟨by rfl, ?_⟩) hHeld ?_
              rotate_left
              · intro w hSw; skip; go_simp; try with_reducible rfl
              try simp only [Act.put, List.getElem_toArray, List.getElem_cons_zero, List.getElem_cons_succ, List.setIfInBounds_toArray, List.set_cons_zero, List.set_cons_succ]
              refine wpAnyH_take (i := 12) (v := ?_) rfl (by kernel_rfl) (by kernel_rfl) (by kernel_rfl) (fun _ _ _ h => h) (Or.inl ⟨by rfl, ?_⟩) hHeld ?_
              rotate_left
              · intro w hSw; skip; go_simp; try with_reducible rfl
              try simp only [Act.put, List.getElem_toArray, List.getElem_cons_zero, List.getElem_cons_succ, List.setIfInBounds_toArray, List.set_cons_zero, List.set_cons_succ]
              refine wpAnyH_take (i := 13) (v := ?_) rfl (by kernel_rfl) (by kernel_rfl) (by kernel_rfl) (fun _ _ _ h => h) (Or.inl ⟨by rfl, ?_⟩) hHeld ?_
              rotate_left
              · intro w hSw; skip; go_simp; try with_reducible rfl
              try simp only [Act.put, List.getElem_toArray, List.getElem_cons_zero, List.getElem_cons_succ, List.setIfInBounds_toArray, List.set_cons_zero, List.set_cons_succ]
              refine wpAnyH_take (i := 14) (v := ?_) rfl (by kernel_rfl) (by kernel_rfl) (by kernel_rfl) (fun _ _ _ h => h) (Or.inl ⟨by rfl, ?_⟩) hHeld ?_
              rotate_left
              · intro w hSw; skip; go_simp; try with_reducible rfl
              try simp only [Act.put, List.getElem_toArray, List.getElem_cons_zero, List.getElem_cons_succ, List.setIfInBounds_toArray, List.set_cons_zero, List.set_cons_succ]
              refine wpAnyH_done (by kernel_rfl) ?_ _
              have S5 := S4.below hHeld
              clear hHeld S4 KC C5 HQ4
              clear HNO HKS HKA
              go_wp2_with fail
              go_meet
              exact S5
            · have HUL4 := Lib.hid hul
              have HUT4 := Lib.hid hut
              have HCL4 := Lib.hid hcl
              clear hul hut hcl HKA
              go_wp2_with fail
              refine wp_region_held_drew (S := Below w4.heap.size w4) (by kernel_rfl) (dbm.drawn1 (Below.refl _ _)) (fun hHeld => ?_)
              refine wpAnyH_take (i := 0) (v := ?_) rfl (by kernel_rfl) (by kernel_rfl) (by kernel_rfl) (fun _ _ _ h => h) (Or.inl ⟨by rfl, ?_⟩) hHeld ?_
              rotate_left
              · intro w hSw; skip; go_simp; try with_reducible rfl
              try simp only [Act.put, List.getElem_toArray, List.getElem_cons_zero, List.getElem_cons_succ, List.setIfInBounds_toArray, List.set_cons_zero, List.set_cons_succ]
              refine wpAnyH_take (i := 1) (v := ?_) rfl (by kernel_rfl) (by kernel_rfl) (by kernel_rfl) (fun _ _ _ h => h) (Or.inl ⟨by rfl, ?_⟩) hHeld ?_
              rotate_left
              · intro w hSw; skip; go_simp; try with_reducible rfl
              try simp only [Act.put, List.getElem_toArray, List.getElem_cons_zero, List.getElem_cons_succ, List.setIfInBounds_toArray, List.set_cons_zero, List.set_cons_succ]
              refine wpAnyH_take (i := 2) (v := ?_) rfl (by kernel_rfl) (by kernel_rfl) (by kernel_rfl) (fun _ _ _ h => h) (Or.inl ⟨by rfl, ?_⟩) hHeld ?_
              rotate_left
              · intro w hSw; skip; go_simp; try with_reducible rfl
              try simp only [Act.put, List.getElem_toArray, List.getElem_cons_zero, List.getElem_cons_succ, List.setIfInBounds_toArray, List.set_cons_zero, List.set_cons_succ]
              refine wpAnyH_take (i := 3) (v := ?_) rfl (by kernel_rfl) (by kernel_rfl) (by kernel_rfl) (fun _ _ _ h => h) (Or.inl ⟨by rfl, ?_⟩) hHeld ?_
              rotate_left
              · intro w hSw; obtain ⟨s0, s1, s2, s3⟩ := KC.out _ hSw; go_simp; try with_reducible rfl
              try simp only [Act.put, List.getElem_toArray, List.getElem_cons_zero, List.getElem_cons_succ, List.setIfInBounds_toArray, List.set_cons_zero, List.set_cons_succ]
              refine wpAnyH_take (i := 4) (v := ?_) rfl (by kernel_rfl) (by kernel_rfl) (by kernel_rfl) (fun _ _ _ h => h) (Or.inl ⟨by rfl, ?_⟩) hHeld ?_
              rotate_left
              · intro w hSw; skip; go_simp; try with_reducible rfl
              try simp only [Act.put, List.getElem_toArray, List.getElem_cons_zero, List.getElem_cons_succ, List.setIfInBounds_toArray, List.set_cons_zero, List.set_cons_succ]
              refine wpAnyH_take (i := 5) (v := ?_) rfl (by kernel_rfl) (by kernel_rfl) (by kernel_rfl) (fun _ _ _ h => h) (Or.inl ⟨by rfl, ?_⟩) hHeld ?_
              rotate_left
              · intro w hSw; skip; go_simp; try with_reducible rfl
              try simp only [Act.put, List.getElem_toArray, List.getElem_cons_zero, List.getElem_cons_succ, List.setIfInBounds_toArray, List.set_cons_zero, List.set_cons_succ]
              refine wpAnyH_take (i := 6) (v := ?_) rfl (by kernel_rfl) (by kernel_rfl) (by kernel_rfl) (fun _ _ _ h => h) (Or.inl ⟨by rfl, ?_⟩) hHeld ?_
              rotate_left
              · intro w hSw; skip; go_simp; try with_reducible rfl
              try simp only [Act.put, List.getElem_toArray, List.getElem_cons_zero, List.getElem_cons_succ, List.setIfInBounds_toArray, List.set_cons_zero, List.set_cons_succ]
              refine wpAnyH_take (i := 7) (v := ?_) rfl (by kernel_rfl) (by kernel_rfl) (by kernel_rfl) (fun _ _ _ h => h) (Or.inl ⟨by rfl, ?_⟩) hHeld ?_
              rotate_left
              · intro w hSw; obtain ⟨s0, s1, s2, s3⟩ := KC.out _ hSw; go_simp; try with_reducible rfl
              try simp only [Act.put, List.getElem_toArray, List.getElem_cons_zero, List.getElem_cons_succ, List.setIfInBounds_toArray, List.set_cons_zero, List.set_cons_succ]
              refine wpAnyH_take (i := 8) (v := ?_) rfl (by kernel_rfl) (by kernel_rfl) (by kernel_rfl) (fun _ _ _ h => h) (Or.inl ⟨by rfl, ?_⟩) hHeld ?_
              rotate_left
              · intro w hSw; skip; go_simp; try with_reducible rfl
              try simp only [Act.put, List.getElem_toArray, List.getElem_cons_zero, List.getElem_cons_succ, List.setIfInBounds_toArray, List.set_cons_zero, List.set_cons_succ]
              refine wpAnyH_ready (rs := [9]) (by kernel_rfl) (by simp) (AllReadyH.cons rfl (fun K hK => ?_) AllReadyH.nil)
              go_simp
              refine (C5.out _).mono ?_
              rintro e v5 ⟨rfl, hB⟩
              refine hK.out _ _ (hHeld.trans (hB.mono hHeld.size)) (fun hNew => ?_)
              clear hB
              clear hHeld hK K
              have hHeld := hNew
              clear hNew
              try simp only [Act.put, List.getElem_toArray, List.getElem_cons_zero, List.getElem_cons_succ, List.setIfInBounds_toArray, List.set_cons_zero, List.set_cons_succ]
              refine wpAnyH_take (i := 10) (v := ?_) rfl (by kernel_rfl) (by kernel_rfl) (by kernel_rfl) (fun _ _ _ h => h) (Or.inl ⟨by rfl, ?_⟩) hHeld ?_
              rotate_left
              · intro w hSw; skip; go_simp; try with_reducible rfl
              try simp only [Act.put, List.getElem_toArray, List.getElem_cons_zero, List.getElem_cons_succ, List.setIfInBounds_toArray, List.set_cons_zero, List.set_cons_succ]
              refine wpAnyH_take (i := 11) (v := ?_) rfl (by kernel_rfl) (by kernel_rfl) (by kernel_rfl) (fun _ _ _ h => h) (Or.inl ⟨by rfl, ?_⟩) hHeld ?_
              rotate_left
              · intro w hSw; skip; go_simp; try with_reducible rfl
              try simp only [Act.put, List.getElem_toArray, List.getElem_cons_zero, List.getElem_cons_succ, List.setIfInBounds_toArray, List.set_cons_zero, List.set_cons_succ]
              refine wpAnyH_take (i := 12) (v := ?_) rfl (by kernel_rfl) (by kernel_rfl) (by kernel_rfl) (fun _ _ _ h => h) (Or.inl ⟨by rfl, ?_⟩) hHeld ?_
              rotate_left
              · intro w hSw; skip; go_simp; try with_reducible rfl
              try simp only [Act.put, List.getElem_toArray, List.getElem_cons_zero, List.getElem_cons_succ, List.setIfInBounds_toArray, List.set_cons_zero, List.set_cons_succ]
              refine wpAnyH_take (i := 13) (v := ?_) rfl (by kernel_rfl) (by kernel_rfl) (by kernel_rfl) (fun _ _ _ h => h) (Or.inl ⟨by rfl, ?_⟩) hHeld ?_
              rotate_left
              · intro w hSw; skip; go_simp; try with_reducible rfl
              try simp only [Act.put, List.getElem_toArray, List.getElem_cons_zero, List.getElem_cons_succ, List.setIfInBounds_toArray, List.set_cons_zero, List.set_cons_succ]
              refine wpAnyH_take (i := 14) (v := ?_) rfl (by kernel_rfl) (by kernel_rfl) (by kernel_rfl) (fun _ _ _ h => h) (Or.inl ⟨by rfl, ?_⟩) hHeld ?_
              rotate_left
              · intro w hSw; skip; go_simp; try with_reducible rfl
              try simp only [Act.put, List.getElem_toArray, List.getElem_cons_zero, List.getElem_cons_succ, List.setIfInBounds_toArray, List.set_cons_zero, List.set_cons_succ]
              refine wpAnyH_done (by kernel_rfl) ?_ _
              have S5 := S4.below hHeld
              clear hHeld S4 KC C5 HQ4
              by_cases hmc4 : MayD q us4
              · have HMC4 := Lib.hid hmc4
                clear hmc4
                obtain ⟨x0, x1, x2', x3, x4⟩ := lies.two S5.head.1
                go_wp2_with fail
                clear x0 x1 x2' x3 x4
                refine (check_ok q _ us4 _ S5.head.2 HUT4.out HMC4.out).mono ?_
                rintro e vk ⟨rfl, hB⟩
                replace S5 := S5.below hB
                clear hB
                obtain ⟨x0, x1, x2', x3, x4⟩ := lies.two S5.head.1
                go_wp2_with fail
                clear x0 x1 x2' x3 x4
                refine (dkeeps_any q _ _ us4 rs _ S5.head.2 (by rw [HUL4.out]; exact Nat.le_trans (sq_le hn) (by decide)) HUT4.out ((HR.out.below S5.1).mono S5.1.size) HII.out (by omega)).mono ?_
                rintro e vl ⟨hB, it, cl', rfl, hcl'⟩
                replace S5 := S5.below hB
                obtain ⟨rfl, hit⟩ : cl' = 0 ∧ (it = true ↔ keptAll q us4 qs) := by
                  rcases hcl' with ⟨_, _, h⟩ | ⟨_, _, _, _, h⟩ | ⟨h, _, _, _, h'⟩
                  · exact (h ⟨HMC4.out, HMT.out⟩).elim
                  · exact (h HD.out).elim
                  · rw [Int.toNat_natCast, ← HQS.out] at h'
                    exact ⟨h, h'⟩
                obtain rfl : it = false := by
                  cases it with
                  | false => rfl
                  | true => exact absurd (HONE.out.2 (HKS.out.1 ((HCL4.out HMC4.out).1 (hit.1 rfl))).1) (by decide)
                clear hB hcl' hit HKS HCL4 HUT4 HUL4 HMC4
                go_wp2_with fail
                go_meet
                exact S5
              · have HMC4 := Lib.hid hmc4
                clear hmc4
                obtain ⟨x0, x1, x2', x3, x4⟩ := lies.two S5.head.1
                go_wp2_with fail
                clear x0 x1 x2' x3 x4
                refine (check_no q _ us4 _ S5.head.2 (by rw [HUL4.out]; exact Nat.le_trans (sq_le hn) (by decide)) HUT4.out HMC4.out).mono ?_
                rintro e vk ⟨rfl, hB⟩
                replace S5 := S5.below hB
                clear hB HKS HCL4 HUT4 HUL4 HMC4
                go_wp2_with fail
                go_meet
                exact S5
          · have hf4 : f4 = setE q ts i j := by
              have hR := HR4.out
              unfold setQ at hR
              rw [if_neg hs] at hR
              rcases hR with ⟨_, _, _, h⟩ | ⟨L, h, _⟩
              · exact h
              · cases h
            have hf4' : f4 ≠ 0 ∧ f4 ≠ 6 := by
              rw [hf4]
              unfold setE
              split <;> decide
            have t8 : (f4 == 0) = false := by simpa using hf4'.1
            have t9 : (f4 == 6) = false := by simpa using hf4'.2
            have t10 : decide (f4 = 0 ∨ f4 = 6) = false := decide_eq_false (fun h => h.elim hf4'.1 hf4'.2)
            have t11 : ¬ (f4 = 0 ∨ f4 = 6) := fun h => h.elim hf4'.1 hf4'.2
            clear hf4 hf4' HR4 HQ4 hs
            have S5 := S4
            clear S4
            go_wp2_with fail
            go_meet
            exact S5
        case rest =>
          have S5 := hcut
          clear hcut S4 HQ4 HR4
          obtain ⟨y0, y1, y2, y3, y4⟩ := lies.two S5.tail.head.1
          go_wp2_with fail
          clear y0 y1 y2 y3 y4
          refine (dkeeps_any m _ _ us rs _ S5.tail.head.2 (by omega) HU.out ((HR.out.below S5.1).mono S5.1.size) HII.out (by omega)).mono ?_
          rintro e v6 ⟨hB, two, c6, rfl, hc6⟩
          have S6 := S5.below hB
          have HC6 := Lib.hid hc6
          clear S5 hB hc6
          obtain ⟨x0, x1, x2', x3, x4⟩ := lies.two S6.tail.tail.head.1
          obtain ⟨y0, y1, y2, y3, y4⟩ := lies.two S6.tail.head.1
          go_wp2_with fail
          clear x0 x1 x2' x3 x4 y0 y1 y2 y3 y4
          refine (meet_any q m _ _ ts us _ S6.tail.tail.head.2 S6.tail.head.2 (by omega) (by omega) HT.out HU.out).mono ?_
          rintro e v7 ⟨hB, n7, a7, l7, c7, us7, f7, rfl, hR7, hK⟩
          have S7 := (S6.below hB).add n7 _ us7 hK.ints
          have HR7 := Lib.hid hR7
          clear S6 hB hK hR7
          by_cases hc60 : c6 = 0
          · subst hc60
            obtain ⟨hmu, hdm, htwo⟩ : MayD m us ∧ (rs.length : Int) = m - 1 ∧ (two = true ↔ keptAll m.toNat us ((0, 1) :: rs)) := by
              rcases HC6.out with ⟨h, _⟩ | ⟨h, _⟩ | ⟨_, h, _, h', h''⟩
              · exact absurd h (by decide)
              · exact absurd h (by decide)
              · exact ⟨h, h', h''⟩
            obtain rfl : m = q := by have := HD.out; omega
            have hlu : us.length = q * q := by
              have := hmu.2.2.1
              rw [← Int.natCast_mul] at this
              exact Int.ofNat.inj this
            rw [Int.toNat_natCast, ← HQS.out] at htwo
            have hA : Ans q (lesT ts us) n7 us7 f7 := by
              have hR := HR7.out
              unfold meetQ at hR
              rw [if_pos ⟨HM.out, hmu, rfl⟩] at hR
              rcases hR with ⟨h, _⟩ | ⟨L, h, h'⟩
              · cases h
              · cases h; exact h'
            have hka := kept_ans h0 hn ((lesT_length _ _).trans HL.out) (lesT_tops HT.out _) (lesT_may HM.out hmu) HQM.out HQN.out hA
            have hkl := kept_les hn HL.out hlu HM.out hmu HQM.out HQN.out
            generalize lesT ts us = L7 at hka hkl
            have HONE' := HONE.out
            have HTWO := Lib.hid htwo
            have HKL := Lib.hid hkl
            clear hA HR7 HC6 hmu hdm htwo hkl hlu
            rcases hka with ⟨rfl, hno⟩ | ⟨rfl, rfl, hul, hut, hcl⟩
            · have K := S7.1
              clear S7 hno HONE' HTWO HKL
              go_wp2_with fail
              go_ret
              exact ⟨rfl, K⟩
            · have HUT := Lib.hid hut
              have HUL := Lib.hid hul
              have HCL := Lib.hid hcl
              clear hul hut hcl HONE'
              by_cases hmc : MayD q us7
              · have HMC := Lib.hid hmc
                clear hmc
                obtain ⟨x0, x1, x2', x3, x4⟩ := lies.two S7.head.1
                go_wp2_with fail
                clear x0 x1 x2' x3 x4
                refine (check_ok q _ us7 _ S7.head.2 HUT.out HMC.out).mono ?_
                rintro e v8 ⟨rfl, hB⟩
                have S8 := S7.below hB
                clear S7 hB
                obtain ⟨x0, x1, x2', x3, x4⟩ := lies.two S8.head.1
                go_wp2_with fail
                clear x0 x1 x2' x3 x4
                refine (dkeeps_any q _ _ us7 rs _ S8.head.2 (by rw [HUL.out]; exact Nat.le_trans (sq_le hn) (by decide)) HUT.out ((HR.out.below S8.1).mono S8.1.size) HII.out (by omega)).mono ?_
                rintro e v9 ⟨hB, both, c9, rfl, hc9⟩
                have K := (S8.below hB).1
                obtain ⟨rfl, hboth⟩ : c9 = 0 ∧ (both = true ↔ keptAll q us7 qs) := by
                  rcases hc9 with ⟨_, _, h⟩ | ⟨_, _, _, _, h⟩ | ⟨h, _, _, _, h'⟩
                  · exact (h ⟨HMC.out, HMT.out⟩).elim
                  · exact (h HD.out).elim
                  · rw [Int.toNat_natCast, ← HQS.out] at h'
                    exact ⟨h, h'⟩
                obtain rfl : both = false := by
                  cases both with
                  | false => rfl
                  | true =>
                    exact absurd (HONE.out.2 (HKL.out.1 ((HCL.out HMC.out).1 (hboth.1 rfl))).1) (by decide)
                clear S8 hB hc9 hboth HTWO HKL HCL
                go_wp2_with fail
                go_ret
                exact ⟨rfl, K⟩
              · have HMC := Lib.hid hmc
                clear hmc
                obtain ⟨x0, x1, x2', x3, x4⟩ := lies.two S7.head.1
                go_wp2_with fail
                clear x0 x1 x2' x3 x4
                refine (check_no q _ us7 _ S7.head.2 (by rw [HUL.out]; exact Nat.le_trans (sq_le hn) (by decide)) HUT.out HMC.out).mono ?_
                rintro e v8 ⟨rfl, hB⟩
                have K := (S7.below hB).1
                clear S7 hB
                go_wp2_with fail
                go_ret
                exact ⟨rfl, K⟩
          · have t7 : (c6 != 0) = true := by simpa using hc60
            have K := S7.1
            clear S7 HR7 HC6
            go_wp2_with fail
            go_ret
            exact ⟨rfl, K⟩
    | true =>
      go_upto_region 9 with fail
      generalize v4.heap.size = B4 at S4 ⊢
      generalize v4.alloc (.cells #[.int .i64 n4, .slice a4 l4 c4] 24) = w4 at S4 HQ4 hgw4 ⊢
      go_cut [75, 18] from 28 (fun s75 s18 wx => s75 = .bool (decide (f4 = 0 ∨ f4 = 6)) ∧ s18 = .int .i64 f4 ∧ w4 = wx)
      case first =>
        go_wp2_with fail
        all_goals
          go_meet
          refine ⟨?_, ?_, rfl⟩
          all_goals first | (simp_all; done) | (by_cases e0 : f4 = 0 <;> by_cases e6 : f4 = 6 <;> simp_all)
      case rest =>
        obtain ⟨h75, h18, hwc⟩ := hcut
        subst h75
        subst h18
        subst hwc
        go_upto_if 75 with fail
        go_cut [19] from 28 (fun s19 wx => St [(B4, n4, .slice a4 l4 c4, us4), (w.heap.size + 1, m, .slice bd us.length dap, us), (w.heap.size, (q : Int), .slice ad ts.length cap, ts)] w wx)
        case first =>
          by_cases hs : MayD q ts ∧ Clk q i ∧ Clk q j ∧ Fine x
          · have hR := HR4.out
            unfold setQ at hR
            rw [if_pos hs] at hR
            obtain ⟨_, ⟨hi1, hi2⟩, ⟨hj1, hj2⟩, hfx⟩ := hs
            obtain ⟨p, rfl⟩ : ∃ p : Nat, i = p := ⟨i.toNat, by omega⟩
            obtain ⟨r, rfl⟩ : ∃ r : Nat, j = r := ⟨j.toNat, by omega⟩
            have hp : p < q := by omega
            have hr : r < q := by omega
            simp only [Int.toNat_natCast] at hR
            have hA : Ans q (setT ts (p * q + r) x) n4 us4 f4 := by
              rcases hR with ⟨h, _⟩ | ⟨L, h, h'⟩
              · cases h
              · cases h; exact h'
            have hka := kept_ans h0 hn ((setT_length _ _ _).trans HL.out) (setT_tops HT.out _ _) (setT_may HM.out _ hfx) HQM.out HQN.out hA
            have hks := kept_set hn HL.out HM.out hfx HQM.out HQN.out hp hr
            have M1' := HQM.out p (by rw [HQN.out]; exact hp)
            have M2' := HQM.out r (by rw [HQN.out]; exact hr)
            obtain ⟨⟨k1, k2⟩, _⟩ := HQI.out p (by rw [HQN.out]; exact hp)
            obtain ⟨⟨k3, k4⟩, _⟩ := HQI.out r (by rw [HQN.out]; exact hr)
            generalize hL : setT ts (p * q + r) x = L at hka hks
            generalize hso : kpV (pr qs p).1 (pr qs p).2 (pr qs r).1 (pr qs r).2 x = so at hks
            have kc : ∀ X, Below w4.heap.size w4 X → X.cell? ⟨g, p * 2, none⟩ = some (.int .i64 (pr qs p).1) ∧ X.cell? ⟨g, p * 2 + 1, none⟩ = some (.int .i64 (pr qs p).2) ∧ X.cell? ⟨g, r * 2, none⟩ = some (.int .i64 (pr qs r).1) ∧ X.cell? ⟨g, r * 2 + 1, none⟩ = some (.int .i64 (pr qs r).2) := fun X k => by
              have r1 := (HQ4.out.below k hgw4) p (by rw [HQN.out]; exact hp)
              have r2 := (HQ4.out.below k hgw4) r (by rw [HQN.out]; exact hr)
              rw [Nat.zero_add] at r1 r2
              exact ⟨r1.1, r1.2, r2.1, r2.2⟩
            generalize (pr qs p).1 = a at M1' k1 k2 hso kc
            generalize (pr qs p).2 = bb at M1' hso kc
            generalize (pr qs r).1 = cc at M2' k3 k4 hso kc
            generalize (pr qs r).2 = d at M2' hso kc
            have KC := Lib.hid kc
            have z1 : (p : Int) < q := by omega
            have z2 : (r : Int) < q := by omega
            have C5 := Lib.hid (fun W => keeps_in a bb cc d x so W k1 k2 k3 k4 M1' M2' hfx hso)
            have HKA := Lib.hid hka
            have HKS := Lib.hid hks
            clear hR hA hka hks hL hso M1' M2' k1 k2 k3 k4 hfx HR4 kc
            rcases HKA.out with ⟨rfl, hno⟩ | ⟨rfl, rfl, hul, hut, hcl⟩
            · have HNO := Lib.hid hno
              clear hno
              go_wp2_with fail
              refine wp_region_held_drew (S := Below w4.heap.size w4) (by kernel_rfl) (dbm.drawn1 (Below.refl _ _)) (fun hHeld => ?_)
              refine wpAnyH_take (i := 0) (v := ?_) rfl (by kernel_rfl) (by kernel_rfl) (by kernel_rfl) (fun _ _ _ h => h) (Or.inl ⟨by rfl, ?_⟩) hHeld ?_
              rotate_left
              · intro w hSw; skip; go_simp; try with_reducible rfl
              try simp only [Act.put, List.getElem_toArray, List.getElem_cons_zero, List.getElem_cons_succ, List.setIfInBounds_toArray, List.set_cons_zero, List.set_cons_succ]
              refine wpAnyH_take (i := 1) (v := ?_) rfl (by kernel_rfl) (by kernel_rfl) (by kernel_rfl) (fun _ _ _ h => h) (Or.inl ⟨by rfl, ?_⟩) hHeld ?_
              rotate_left
              · intro w hSw; skip; go_simp; try with_reducible rfl
              try simp only [Act.put, List.getElem_toArray, List.getElem_cons_zero, List.getElem_cons_succ, List.setIfInBounds_toArray, List.set_cons_zero, List.set_cons_succ]
              refine wpAnyH_take (i := 2) (v := ?_) rfl (by kernel_rfl) (by kernel_rfl) (by kernel_rfl) (fun _ _ _ h => h) (Or.inl ⟨by rfl, ?_⟩) hHeld ?_
              rotate_left
              · intro w hSw; skip; go_simp; try with_reducible rfl
              try simp only [Act.put, List.getElem_toArray, List.getElem_cons_zero, List.getElem_cons_succ, List.setIfInBounds_toArray, List.set_cons_zero, List.set_cons_succ]
              refine wpAnyH_take (i := 3) (v := ?_) rfl (by kernel_rfl) (by kernel_rfl) (by kernel_rfl) (fun _ _ _ h => h) (Or.inl ⟨by rfl, ?_⟩) hHeld ?_
              rotate_left
              · intro w hSw; obtain ⟨s0, s1, s2, s3⟩ := KC.out _ hSw; go_simp; try with_reducible rfl
              try simp only [Act.put, List.getElem_toArray, List.getElem_cons_zero, List.getElem_cons_succ, List.setIfInBounds_toArray, List.set_cons_zero, List.set_cons_succ]
              refine wpAnyH_take (i := 4) (v := ?_) rfl (by kernel_rfl) (by kernel_rfl) (by kernel_rfl) (fun _ _ _ h => h) (Or.inl ⟨by rfl, ?_⟩) hHeld ?_
              rotate_left
              · intro w hSw; skip; go_simp; try with_reducible rfl
              try simp only [Act.put, List.getElem_toArray, List.getElem_cons_zero, List.getElem_cons_succ, List.setIfInBounds_toArray, List.set_cons_zero, List.set_cons_succ]
              refine wpAnyH_take (i := 5) (v := ?_) rfl (by kernel_rfl) (by kernel_rfl) (by kernel_rfl) (fun _ _ _ h => h) (Or.inl ⟨by rfl, ?_⟩) hHeld ?_
              rotate_left
              · intro w hSw; skip; go_simp; try with_reducible rfl
              try simp only [Act.put, List.getElem_toArray, List.getElem_cons_zero, List.getElem_cons_succ, List.setIfInBounds_toArray, List.set_cons_zero, List.set_cons_succ]
              refine wpAnyH_take (i := 6) (v := ?_) rfl (by kernel_rfl) (by kernel_rfl) (by kernel_rfl) (fun _ _ _ h => h) (Or.inl ⟨by rfl, ?_⟩) hHeld ?_
              rotate_left
              · intro w hSw; skip; go_simp; try with_reducible rfl
              try simp only [Act.put, List.getElem_toArray, List.getElem_cons_zero, List.getElem_cons_succ, List.setIfInBounds_toArray, List.set_cons_zero, List.set_cons_succ]
              refine wpAnyH_take (i := 7) (v := ?_) rfl (by kernel_rfl) (by kernel_rfl) (by kernel_rfl) (fun _ _ _ h => h) (Or.inl ⟨by rfl, ?_⟩) hHeld ?_
              rotate_left
              · intro w hSw; obtain ⟨s0, s1, s2, s3⟩ := KC.out _ hSw; go_simp; try with_reducible rfl
              try simp only [Act.put, List.getElem_toArray, List.getElem_cons_zero, List.getElem_cons_succ, List.setIfInBounds_toArray, List.set_cons_zero, List.set_cons_succ]
              refine wpAnyH_take (i := 8) (v := ?_) rfl (by kernel_rfl) (by kernel_rfl) (by kernel_rfl) (fun _ _ _ h => h) (Or.inl ⟨by rfl, ?_⟩) hHeld ?_
              rotate_left
              · intro w hSw; skip; go_simp; try with_reducible rfl
              try simp only [Act.put, List.getElem_toArray, List.getElem_cons_zero, List.getElem_cons_succ, List.setIfInBounds_toArray, List.set_cons_zero, List.set_cons_succ]
              refine wpAnyH_ready (rs := [9]) (by kernel_rfl) (by simp) (AllReadyH.cons rfl (fun K hK => ?_) AllReadyH.nil)
              go_simp
              refine (C5.out _).mono ?_
              rintro e v5 ⟨rfl, hB⟩
              refine hK.out _ _ (hHeld.trans (hB.mono hHeld.size)) (fun hNew => ?_)
              clear hB
              clear hHeld hK K
              have hHeld := hNew
              clear hNew
              try simp only [Act.put, List.getElem_toArray, List.getElem_cons_zero, List.getElem_cons_succ, List.setIfInBounds_toArray, List.set_cons_zero, List.set_cons_succ]
              refine wpAnyH_take (i := 10) (v := ?_) rfl (by kernel_rfl) (by kernel_rfl) (by kernel_rfl) (fun _ _ _ h => h) (Or.inl ⟨by rfl, ?_⟩) hHeld ?_
              rotate_left
              · intro w hSw; skip; go_simp; try with_reducible rfl
              try simp only [Act.put, List.getElem_toArray, List.getElem_cons_zero, List.getElem_cons_succ, List.setIfInBounds_toArray, List.set_cons_zero, List.set_cons_succ]
              refine wpAnyH_take (i := 11) (v := ?_) rfl (by kernel_rfl) (by kernel_rfl) (by kernel_rfl) (fun _ _ _ h => h) (Or.inl ⟨by rfl, ?_⟩) hHeld ?_
              rotate_left
              · intro w hSw; skip; go_simp; try with_reducible rfl
              try simp only [Act.put, List.getElem_toArray, List.getElem_cons_zero, List.getElem_cons_succ, List.setIfInBounds_toArray, List.set_cons_zero, List.set_cons_succ]
              refine wpAnyH_take (i := 12) (v := ?_) rfl (by kernel_rfl) (by kernel_rfl) (by kernel_rfl) (fun _ _ _ h => h) (Or.inl ⟨by rfl, ?_⟩) hHeld ?_
              rotate_left
              · intro w hSw; skip; go_simp; try with_reducible rfl
              try simp only [Act.put, List.getElem_toArray, List.getElem_cons_zero, List.getElem_cons_succ, List.setIfInBounds_toArray, List.set_cons_zero, List.set_cons_succ]
              refine wpAnyH_take (i := 13) (v := ?_) rfl (by kernel_rfl) (by kernel_rfl) (by kernel_rfl) (fun _ _ _ h => h) (Or.inl ⟨by rfl, ?_⟩) hHeld ?_
              rotate_left
              · intro w hSw; skip; go_simp; try with_reducible rfl
              try simp only [Act.put, List.getElem_toArray, List.getElem_cons_zero, List.getElem_cons_succ, List.setIfInBounds_toArray, List.set_cons_zero, List.set_cons_succ]
              refine wpAnyH_take (i := 14) (v := ?_) rfl (by kernel_rfl) (by kernel_rfl) (by kernel_rfl) (fun _ _ _ h => h) (Or.inl ⟨by rfl, ?_⟩) hHeld ?_
              rotate_left
              · intro w hSw; skip; go_simp; try with_reducible rfl
              try simp only [Act.put, List.getElem_toArray, List.getElem_cons_zero, List.getElem_cons_succ, List.setIfInBounds_toArray, List.set_cons_zero, List.set_cons_succ]
              refine wpAnyH_done (by kernel_rfl) ?_ _
              have S5 := S4.below hHeld
              clear hHeld S4 KC C5 HQ4
              obtain rfl : so = false := by
                cases so with
                | false => rfl
                | true => exact (HNO.out (HKS.out.2 ⟨HONE.out.1 (by simp), rfl⟩)).elim
              clear HNO HKS HKA
              go_wp2_with fail
              go_meet
              exact S5
            · have HUL4 := Lib.hid hul
              have HUT4 := Lib.hid hut
              have HCL4 := Lib.hid hcl
              clear hul hut hcl HKA
              go_wp2_with fail
              refine wp_region_held_drew (S := Below w4.heap.size w4) (by kernel_rfl) (dbm.drawn1 (Below.refl _ _)) (fun hHeld => ?_)
              refine wpAnyH_take (i := 0) (v := ?_) rfl (by kernel_rfl) (by kernel_rfl) (by kernel_rfl) (fun _ _ _ h => h) (Or.inl ⟨by rfl, ?_⟩) hHeld ?_
              rotate_left
              · intro w hSw; skip; go_simp; try with_reducible rfl
              try simp only [Act.put, List.getElem_toArray, List.getElem_cons_zero, List.getElem_cons_succ, List.setIfInBounds_toArray, List.set_cons_zero, List.set_cons_succ]
              refine wpAnyH_take (i := 1) (v := ?_) rfl (by kernel_rfl) (by kernel_rfl) (by kernel_rfl) (fun _ _ _ h => h) (Or.inl ⟨by rfl, ?_⟩) hHeld ?_
              rotate_left
              · intro w hSw; skip; go_simp; try with_reducible rfl
              try simp only [Act.put, List.getElem_toArray, List.getElem_cons_zero, List.getElem_cons_succ, List.setIfInBounds_toArray, List.set_cons_zero, List.set_cons_succ]
              refine wpAnyH_take (i := 2) (v := ?_) rfl (by kernel_rfl) (by kernel_rfl) (by kernel_rfl) (fun _ _ _ h => h) (Or.inl ⟨by rfl, ?_⟩) hHeld ?_
              rotate_left
              · intro w hSw; skip; go_simp; try with_reducible rfl
              try simp only [Act.put, List.getElem_toArray, List.getElem_cons_zero, List.getElem_cons_succ, List.setIfInBounds_toArray, List.set_cons_zero, List.set_cons_succ]
              refine wpAnyH_take (i := 3) (v := ?_) rfl (by kernel_rfl) (by kernel_rfl) (by kernel_rfl) (fun _ _ _ h => h) (Or.inl ⟨by rfl, ?_⟩) hHeld ?_
              rotate_left
              · intro w hSw; obtain ⟨s0, s1, s2, s3⟩ := KC.out _ hSw; go_simp; try with_reducible rfl
              try simp only [Act.put, List.getElem_toArray, List.getElem_cons_zero, List.getElem_cons_succ, List.setIfInBounds_toArray, List.set_cons_zero, List.set_cons_succ]
              refine wpAnyH_take (i := 4) (v := ?_) rfl (by kernel_rfl) (by kernel_rfl) (by kernel_rfl) (fun _ _ _ h => h) (Or.inl ⟨by rfl, ?_⟩) hHeld ?_
              rotate_left
              · intro w hSw; skip; go_simp; try with_reducible rfl
              try simp only [Act.put, List.getElem_toArray, List.getElem_cons_zero, List.getElem_cons_succ, List.setIfInBounds_toArray, List.set_cons_zero, List.set_cons_succ]
              refine wpAnyH_take (i := 5) (v := ?_) rfl (by kernel_rfl) (by kernel_rfl) (by kernel_rfl) (fun _ _ _ h => h) (Or.inl ⟨by rfl, ?_⟩) hHeld ?_
              rotate_left
              · intro w hSw; skip; go_simp; try with_reducible rfl
              try simp only [Act.put, List.getElem_toArray, List.getElem_cons_zero, List.getElem_cons_succ, List.setIfInBounds_toArray, List.set_cons_zero, List.set_cons_succ]
              refine wpAnyH_take (i := 6) (v := ?_) rfl (by kernel_rfl) (by kernel_rfl) (by kernel_rfl) (fun _ _ _ h => h) (Or.inl ⟨by rfl, ?_⟩) hHeld ?_
              rotate_left
              · intro w hSw; skip; go_simp; try with_reducible rfl
              try simp only [Act.put, List.getElem_toArray, List.getElem_cons_zero, List.getElem_cons_succ, List.setIfInBounds_toArray, List.set_cons_zero, List.set_cons_succ]
              refine wpAnyH_take (i := 7) (v := ?_) rfl (by kernel_rfl) (by kernel_rfl) (by kernel_rfl) (fun _ _ _ h => h) (Or.inl ⟨by rfl, ?_⟩) hHeld ?_
              rotate_left
              · intro w hSw; obtain ⟨s0, s1, s2, s3⟩ := KC.out _ hSw; go_simp; try with_reducible rfl
              try simp only [Act.put, List.getElem_toArray, List.getElem_cons_zero, List.getElem_cons_succ, List.setIfInBounds_toArray, List.set_cons_zero, List.set_cons_succ]
              refine wpAnyH_take (i := 8) (v := ?_) rfl (by kernel_rfl) (by kernel_rfl) (by kernel_rfl) (fun _ _ _ h => h) (Or.inl ⟨by rfl, ?_⟩) hHeld ?_
              rotate_left
              · intro w hSw; skip; go_simp; try with_reducible rfl
              try simp only [Act.put, List.getElem_toArray, List.getElem_cons_zero, List.getElem_cons_succ, List.setIfInBounds_toArray, List.set_cons_zero, List.set_cons_succ]
              refine wpAnyH_ready (rs := [9]) (by kernel_rfl) (by simp) (AllReadyH.cons rfl (fun K hK => ?_) AllReadyH.nil)
              go_simp
              refine (C5.out _).mono ?_
              rintro e v5 ⟨rfl, hB⟩
              refine hK.out _ _ (hHeld.trans (hB.mono hHeld.size)) (fun hNew => ?_)
              clear hB
              clear hHeld hK K
              have hHeld := hNew
              clear hNew
              try simp only [Act.put, List.getElem_toArray, List.getElem_cons_zero, List.getElem_cons_succ, List.setIfInBounds_toArray, List.set_cons_zero, List.set_cons_succ]
              refine wpAnyH_take (i := 10) (v := ?_) rfl (by kernel_rfl) (by kernel_rfl) (by kernel_rfl) (fun _ _ _ h => h) (Or.inl ⟨by rfl, ?_⟩) hHeld ?_
              rotate_left
              · intro w hSw; skip; go_simp; try with_reducible rfl
              try simp only [Act.put, List.getElem_toArray, List.getElem_cons_zero, List.getElem_cons_succ, List.setIfInBounds_toArray, List.set_cons_zero, List.set_cons_succ]
              refine wpAnyH_take (i := 11) (v := ?_) rfl (by kernel_rfl) (by kernel_rfl) (by kernel_rfl) (fun _ _ _ h => h) (Or.inl ⟨by rfl, ?_⟩) hHeld ?_
              rotate_left
              · intro w hSw; skip; go_simp; try with_reducible rfl
              try simp only [Act.put, List.getElem_toArray, List.getElem_cons_zero, List.getElem_cons_succ, List.setIfInBounds_toArray, List.set_cons_zero, List.set_cons_succ]
              refine wpAnyH_take (i := 12) (v := ?_) rfl (by kernel_rfl) (by kernel_rfl) (by kernel_rfl) (fun _ _ _ h => h) (Or.inl ⟨by rfl, ?_⟩) hHeld ?_
              rotate_left
              · intro w hSw; skip; go_simp; try with_reducible rfl
              try simp only [Act.put, List.getElem_toArray, List.getElem_cons_zero, List.getElem_cons_succ, List.setIfInBounds_toArray, List.set_cons_zero, List.set_cons_succ]
              refine wpAnyH_take (i := 13) (v := ?_) rfl (by kernel_rfl) (by kernel_rfl) (by kernel_rfl) (fun _ _ _ h => h) (Or.inl ⟨by rfl, ?_⟩) hHeld ?_
              rotate_left
              · intro w hSw; skip; go_simp; try with_reducible rfl
              try simp only [Act.put, List.getElem_toArray, List.getElem_cons_zero, List.getElem_cons_succ, List.setIfInBounds_toArray, List.set_cons_zero, List.set_cons_succ]
              refine wpAnyH_take (i := 14) (v := ?_) rfl (by kernel_rfl) (by kernel_rfl) (by kernel_rfl) (fun _ _ _ h => h) (Or.inl ⟨by rfl, ?_⟩) hHeld ?_
              rotate_left
              · intro w hSw; skip; go_simp; try with_reducible rfl
              try simp only [Act.put, List.getElem_toArray, List.getElem_cons_zero, List.getElem_cons_succ, List.setIfInBounds_toArray, List.set_cons_zero, List.set_cons_succ]
              refine wpAnyH_done (by kernel_rfl) ?_ _
              have S5 := S4.below hHeld
              clear hHeld S4 KC C5 HQ4
              by_cases hmc4 : MayD q us4
              · have HMC4 := Lib.hid hmc4
                clear hmc4
                obtain ⟨x0, x1, x2', x3, x4⟩ := lies.two S5.head.1
                go_wp2_with fail
                clear x0 x1 x2' x3 x4
                refine (check_ok q _ us4 _ S5.head.2 HUT4.out HMC4.out).mono ?_
                rintro e vk ⟨rfl, hB⟩
                replace S5 := S5.below hB
                clear hB
                obtain ⟨x0, x1, x2', x3, x4⟩ := lies.two S5.head.1
                go_wp2_with fail
                clear x0 x1 x2' x3 x4
                refine (dkeeps_any q _ _ us4 rs _ S5.head.2 (by rw [HUL4.out]; exact Nat.le_trans (sq_le hn) (by decide)) HUT4.out ((HR.out.below S5.1).mono S5.1.size) HII.out (by omega)).mono ?_
                rintro e vl ⟨hB, it, cl', rfl, hcl'⟩
                replace S5 := S5.below hB
                obtain ⟨rfl, hit⟩ : cl' = 0 ∧ (it = true ↔ keptAll q us4 qs) := by
                  rcases hcl' with ⟨_, _, h⟩ | ⟨_, _, _, _, h⟩ | ⟨h, _, _, _, h'⟩
                  · exact (h ⟨HMC4.out, HMT.out⟩).elim
                  · exact (h HD.out).elim
                  · rw [Int.toNat_natCast, ← HQS.out] at h'
                    exact ⟨h, h'⟩
                obtain rfl : it = so := Bool.eq_iff_iff.2 (hit.trans ((HCL4.out HMC4.out).trans (HKS.out.trans ⟨fun h => h.2, fun h => ⟨HONE.out.1 (by simp), h⟩⟩)))
                have tso : (it != it) = false := by simp
                clear hB hcl' hit HKS HCL4 HUT4 HUL4 HMC4
                go_wp2_with fail
                go_meet
                exact S5
              · have HMC4 := Lib.hid hmc4
                clear hmc4
                obtain ⟨x0, x1, x2', x3, x4⟩ := lies.two S5.head.1
                go_wp2_with fail
                clear x0 x1 x2' x3 x4
                refine (check_no q _ us4 _ S5.head.2 (by rw [HUL4.out]; exact Nat.le_trans (sq_le hn) (by decide)) HUT4.out HMC4.out).mono ?_
                rintro e vk ⟨rfl, hB⟩
                replace S5 := S5.below hB
                have tso : (so != so) = false := by simp
                clear hB HKS HCL4 HUT4 HUL4 HMC4
                go_wp2_with fail
                go_meet
                exact S5
          · have hf4 : f4 = setE q ts i j := by
              have hR := HR4.out
              unfold setQ at hR
              rw [if_neg hs] at hR
              rcases hR with ⟨_, _, _, h⟩ | ⟨L, h, _⟩
              · exact h
              · cases h
            have hf4' : f4 ≠ 0 ∧ f4 ≠ 6 := by
              rw [hf4]
              unfold setE
              split <;> decide
            have t8 : (f4 == 0) = false := by simpa using hf4'.1
            have t9 : (f4 == 6) = false := by simpa using hf4'.2
            have t10 : decide (f4 = 0 ∨ f4 = 6) = false := decide_eq_false (fun h => h.elim hf4'.1 hf4'.2)
            have t11 : ¬ (f4 = 0 ∨ f4 = 6) := fun h => h.elim hf4'.1 hf4'.2
            clear hf4 hf4' HR4 HQ4 hs
            have S5 := S4
            clear S4
            go_wp2_with fail
            go_meet
            exact S5
        case rest =>
          have S5 := hcut
          clear hcut S4 HQ4 HR4
          obtain ⟨y0, y1, y2, y3, y4⟩ := lies.two S5.tail.head.1
          go_wp2_with fail
          clear y0 y1 y2 y3 y4
          refine (dkeeps_any m _ _ us rs _ S5.tail.head.2 (by omega) HU.out ((HR.out.below S5.1).mono S5.1.size) HII.out (by omega)).mono ?_
          rintro e v6 ⟨hB, two, c6, rfl, hc6⟩
          have S6 := S5.below hB
          have HC6 := Lib.hid hc6
          clear S5 hB hc6
          obtain ⟨x0, x1, x2', x3, x4⟩ := lies.two S6.tail.tail.head.1
          obtain ⟨y0, y1, y2, y3, y4⟩ := lies.two S6.tail.head.1
          go_wp2_with fail
          clear x0 x1 x2' x3 x4 y0 y1 y2 y3 y4
          refine (meet_any q m _ _ ts us _ S6.tail.tail.head.2 S6.tail.head.2 (by omega) (by omega) HT.out HU.out).mono ?_
          rintro e v7 ⟨hB, n7, a7, l7, c7, us7, f7, rfl, hR7, hK⟩
          have S7 := (S6.below hB).add n7 _ us7 hK.ints
          have HR7 := Lib.hid hR7
          clear S6 hB hK hR7
          by_cases hc60 : c6 = 0
          · subst hc60
            obtain ⟨hmu, hdm, htwo⟩ : MayD m us ∧ (rs.length : Int) = m - 1 ∧ (two = true ↔ keptAll m.toNat us ((0, 1) :: rs)) := by
              rcases HC6.out with ⟨h, _⟩ | ⟨h, _⟩ | ⟨_, h, _, h', h''⟩
              · exact absurd h (by decide)
              · exact absurd h (by decide)
              · exact ⟨h, h', h''⟩
            obtain rfl : m = q := by have := HD.out; omega
            have hlu : us.length = q * q := by
              have := hmu.2.2.1
              rw [← Int.natCast_mul] at this
              exact Int.ofNat.inj this
            rw [Int.toNat_natCast, ← HQS.out] at htwo
            have hA : Ans q (lesT ts us) n7 us7 f7 := by
              have hR := HR7.out
              unfold meetQ at hR
              rw [if_pos ⟨HM.out, hmu, rfl⟩] at hR
              rcases hR with ⟨h, _⟩ | ⟨L, h, h'⟩
              · cases h
              · cases h; exact h'
            have hka := kept_ans h0 hn ((lesT_length _ _).trans HL.out) (lesT_tops HT.out _) (lesT_may HM.out hmu) HQM.out HQN.out hA
            have hkl := kept_les hn HL.out hlu HM.out hmu HQM.out HQN.out
            generalize lesT ts us = L7 at hka hkl
            have HONE' := HONE.out
            have HTWO := Lib.hid htwo
            have HKL := Lib.hid hkl
            clear hA HR7 HC6 hmu hdm htwo hkl hlu
            rcases hka with ⟨rfl, hno⟩ | ⟨rfl, rfl, hul, hut, hcl⟩
            · obtain rfl : two = false := by
                cases two with
                | false => rfl
                | true => exact (hno (HKL.out.2 ⟨HONE'.1 (by simp), HTWO.out.1 rfl⟩)).elim
              have K := S7.1
              clear S7 hno HONE' HTWO HKL
              go_wp2_with fail
              go_ret
              exact ⟨rfl, K⟩
            · have HUT := Lib.hid hut
              have HUL := Lib.hid hul
              have HCL := Lib.hid hcl
              clear hul hut hcl HONE'
              by_cases hmc : MayD q us7
              · have HMC := Lib.hid hmc
                clear hmc
                obtain ⟨x0, x1, x2', x3, x4⟩ := lies.two S7.head.1
                go_wp2_with fail
                clear x0 x1 x2' x3 x4
                refine (check_ok q _ us7 _ S7.head.2 HUT.out HMC.out).mono ?_
                rintro e v8 ⟨rfl, hB⟩
                have S8 := S7.below hB
                clear S7 hB
                obtain ⟨x0, x1, x2', x3, x4⟩ := lies.two S8.head.1
                go_wp2_with fail
                clear x0 x1 x2' x3 x4
                refine (dkeeps_any q _ _ us7 rs _ S8.head.2 (by rw [HUL.out]; exact Nat.le_trans (sq_le hn) (by decide)) HUT.out ((HR.out.below S8.1).mono S8.1.size) HII.out (by omega)).mono ?_
                rintro e v9 ⟨hB, both, c9, rfl, hc9⟩
                have K := (S8.below hB).1
                obtain ⟨rfl, hboth⟩ : c9 = 0 ∧ (both = true ↔ keptAll q us7 qs) := by
                  rcases hc9 with ⟨_, _, h⟩ | ⟨_, _, _, _, h⟩ | ⟨h, _, _, _, h'⟩
                  · exact (h ⟨HMC.out, HMT.out⟩).elim
                  · exact (h HD.out).elim
                  · rw [Int.toNat_natCast, ← HQS.out] at h'
                    exact ⟨h, h'⟩
                obtain rfl : both = two := Bool.eq_iff_iff.2 (hboth.trans ((HCL.out HMC.out).trans (HKL.out.trans ⟨fun h => HTWO.out.2 h.2, fun h => ⟨HONE.out.1 (by simp), HTWO.out.1 h⟩⟩)))
                have tb : (both == both) = true := by simp
                clear S8 hB hc9 hboth HTWO HKL HCL
                go_wp2_with fail
                go_ret
                exact ⟨rfl, K⟩
              · have HMC := Lib.hid hmc
                clear hmc
                obtain ⟨x0, x1, x2', x3, x4⟩ := lies.two S7.head.1
                go_wp2_with fail
                clear x0 x1 x2' x3 x4
                refine (check_no q _ us7 _ S7.head.2 (by rw [HUL.out]; exact Nat.le_trans (sq_le hn) (by decide)) HUT.out HMC.out).mono ?_
                rintro e v8 ⟨rfl, hB⟩
                have K := (S7.below hB).1
                clear S7 hB
                go_wp2_with fail
                go_ret
                exact ⟨rfl, K⟩
          · have t7 : (c6 != 0) = true := by simpa using hc60
            have K := S7.1
            clear S7 HR7 HC6
            go_wp2_with fail
            go_ret
            exact ⟨rfl, K⟩
  · have t6 : (c != 0) = true := by simpa using hc0
    have K := S2.1
    clear S2 hc
    go_wp2_with fail
    go_ret
    exact ⟨rfl, K⟩

theorem walk (n m i j x : Int) (sv tv rv : Value) (ts us : List Int) (rs : List (Int × Int)) (w : World) (hI : law.Ints w.heap.size w sv ts) (hJ : law.Ints w.heap.size w tv us) (hR : Rats w.heap.size w rv rs) (hi : IntsR rs) (htop : Tops ts) (hto : Tops us) (x2 : x ≤ 9223372036854775807) :
    Calls Try.prog 5 #[.agg #[.int .i64 n, sv], .agg #[.int .i64 m, tv], .int .i64 i, .int .i64 j, .int .i64 x, rv] w fun e w' => e = .returned (.bool true) ∧ Below w.heap.size w w' := by
  by_cases h : 1000 < ts.length ∨ (ts.length ≤ 1000 ∧ 1000 < us.length) ∨ (ts.length ≤ 1000 ∧ us.length ≤ 1000 ∧ 100 < rs.length)
  · exact walk_far n m i j x sv tv rv ts us rs w hI hJ hR h
  · exact walk_in n m i j x sv tv rv ts us rs w hI hJ hR hi (by omega) (by omega) (by omega) htop hto x2

set_option maxRecDepth 100000 in
theorem lifted (os : Os) (started : os.Started) (H : Type) (enc : TypeId × Value → H) :
    ReturnsInHanded {} Try.checked os 5 .any (Rows.tightKeptSpec.pre6 enc Try.prog Try.f5 Rows.tightKeptRow.domain false) (Rows.tightKeptSpec.post enc Try.prog Try.f5 false true false false) := by
  refine returnsInHanded_of_change (C := Try.checked) law.own started (by kernel_rfl) Try.func5
    (ChangeSpec.witness6 (enc := enc) (C := Try.checked) false ⟨#[], #[.agg #[.int .i64 0, .slice none 0 0], .agg #[.int .i64 0, .slice none 0 0], .int .i64 0, .int .i64 0, .int .i64 0, .slice none 0 0], []⟩ 8 (by kernel_rfl) (by kernel_rfl) (by kernel_rfl) (by kernel_rfl)) ?_
  intro W base args ds gs before hval0 hW _ _
  have hval : ∀ (j : Nat) t v, Try.f5.params[j]? = some t → args[j]? = some v → Value.okWide Try.prog W .any base t v := hval0
  have hW' := hW
  obtain ⟨p, q, hA0, hV, rfl, _, _⟩ := hW
  have hA : DataW.TrodAll enc Try.prog W 0 (fun _ => true) true Try.f5.params.toList args.toList ds p := hA0
  rw [Try.params5] at hA hval
  obtain ⟨v0, vs0, d0, ds0, p0, q0, hargs, rfl, rfl, h0, r0⟩ := trodAll_cons hA
  obtain ⟨v1, vs1, d1, ds1, p1, q1, rfl, rfl, rfl, h1, r1⟩ := trodAll_cons r0
  obtain ⟨v2, vs2, d2, ds2, p2, q2, rfl, rfl, rfl, h2, r2⟩ := trodAll_cons r1
  obtain ⟨v3, vs3, d3, ds3, p3, q3, rfl, rfl, rfl, h3, r3⟩ := trodAll_cons r2
  obtain ⟨v4, vs4, d4, ds4, p4, q4, rfl, rfl, rfl, h4, r4⟩ := trodAll_cons r3
  obtain ⟨v5, vs5, d5, ds5, p5, q5, rfl, rfl, rfl, h5, r5⟩ := trodAll_cons r4
  obtain ⟨rfl, rfl, rfl⟩ := trodAll_nil r5
  obtain rfl : args = #[v0, v1, v2, v3, v4, v5] := by cases args; simp_all
  obtain ⟨n, sv, ts, rfl, _, hwf, hI, _⟩ := dlaw.open_dbm (hval 0 24 v0 rfl rfl) h0
  obtain ⟨m, tv, us, rfl, _, hwf', hJ, _⟩ := dlaw.open_dbm (hval 1 24 v1 rfl rfl) h1
  obtain ⟨i, rfl, rfl, rfl, _⟩ := open_int Try.underlying3 (hval 2 3 v2 rfl rfl) h2
  obtain ⟨j, rfl, rfl, rfl, _⟩ := open_int Try.underlying3 (hval 3 3 v3 rfl rfl) h3
  obtain ⟨x, rfl, rfl, rfl, hx⟩ := open_int Try.underlying26 (hval 4 26 v4 rfl rfl) h4
  obtain ⟨rs, hi, hR, _⟩ := open_rats (hval 5 42 v5 rfl rfl) h5
  refine (walk n m i j x sv tv v5 ts us rs W hI hJ hR hi (fun z hz => law.wf_hi (hwf z hz)) (fun z hz => law.wf_hi (hwf' z hz)) (law.wf_hi hx)).mono fun e W' ⟨he, hB⟩ => ?_
  subst he
  exact ⟨_, rfl, law.post_true law.laidOut (by kernel_rfl) rfl Try.underlying4 rfl hW' (fun h => by subst h; rfl) hB⟩

theorem proved : Rows.TightKeptSaid :=
  OpenClaim.holds_of_wide 5 Try.f5 rfl rfl rfl rfl rfl rfl rfl ⟨rfl, rfl, rfl, rfl, rfl⟩ rfl rfl rfl rfl rfl (by kernel_rfl) Try.func5 (by kernel_rfl)
    (of_decide_eq_true (by kernel_rfl)) (by unfold Func.isWrapper; first | (rw [if_pos (by decide +kernel)]; kernel_rfl) | (rw [if_neg (by decide +kernel)]; exact ⟨rfl, rfl⟩))
    (fun os started H enc _ => lifted os started H enc)
#print axioms proved
end Go.Proofs.Ytallgbpijndmeaa.tightKept
