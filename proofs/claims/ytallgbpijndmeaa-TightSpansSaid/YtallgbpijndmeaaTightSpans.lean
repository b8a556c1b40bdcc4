/-
  TightSpans answers true for every matrix, clock, span and times; no condition.
-/
import Derived.Test.YtallgbpijndmeaaTightOpen
import Derived.Test.YtallgbpijndmeaaTightSm
import Derived.Test.YtallgbpijndmeaaDbmE
import Derived.OpenShut
import Derived.BigQuiet
namespace Go.Proofs.Ytallgbpijndmeaa.tightSpans
open Go.ChangeShapes Go.WideShapes Go.ChangeAt Go.RowKit num dbm rat Go.Proofs.Ytallgbpijndmeaa.tight tlaw tkept
open bound hiding up
set_option linter.unusedVariables false
set_option linter.unusedSimpArgs false

theorem box2 (n lo hi : Int) (sv : Value) (ls hs op : Bool) (w : World) : Below w.heap.size w ((w.alloc (.cells #[.int .i64 n, sv] 24)).alloc (.cells #[.int .i64 lo, .bool ls, .int .i64 hi, .bool hs, .bool op] 33)) ∧ lies.Lies ((w.alloc (.cells #[.int .i64 n, sv] 24)).alloc (.cells #[.int .i64 lo, .bool ls, .int .i64 hi, .bool hs, .bool op] 33)) w.heap.size 24 #[.int .i64 n, sv] ∧ lies.Lies ((w.alloc (.cells #[.int .i64 n, sv] 24)).alloc (.cells #[.int .i64 lo, .bool ls, .int .i64 hi, .bool hs, .bool op] 33)) (w.heap.size + 1) 33 #[.int .i64 lo, .bool ls, .int .i64 hi, .bool hs, .bool op] :=
  ⟨bound.up2 _ _ _, lies.on_alloc (lies.made _ _ _) _, lies.made_at _ _ _ _ (World.size_alloc _ _)⟩

theorem of_in (z : Int) (W : World) (h : In z) : Calls Try.prog 22 #[.int .i64 z, .int .i64 1] W fun e w' => e = .returned (.tuple #[.agg #[.int .i64 (z), .int .i64 (1)], .int .i64 0]) ∧ Below W.heap.size W w' := by
  have hm : May z := in_may h
  obtain ⟨e1, e2, e3⟩ := of_whole hm
  have := of3_any z 1 W (by unfold In at h; omega) (by unfold In at h; omega) (by decide)
  rwa [e1, e2, e3] at this
set_option maxRecDepth 100000 in
set_option maxHeartbeats 1000000 in
theorem walk_far (n i lo hi : Int) (ls hs op : Bool) (sv rv : Value) (ts : List Int) (rs : List (Int × Int)) (w : World) (hI : law.Ints w.heap.size w sv ts) (hR : Rats w.heap.size w rv rs) (h : 1000 < ts.length ∨ (ts.length ≤ 1000 ∧ 100 < rs.length)) :
    Calls Try.prog 7 #[.agg #[.int .i64 n, sv], .int .i64 i, .agg #[.int .i64 lo, .bool ls, .int .i64 hi, .bool hs, .bool op], rv] w fun e w' => e = .returned (.bool true) ∧ Below w.heap.size w w' := by
  obtain ⟨ad, cap, rfl⟩ := ints_len hI
  obtain ⟨rd, rap, rfl⟩ := rats_len hR
  obtain ⟨K0, D0, D1⟩ := box2 n lo hi (.slice ad ts.length cap) ls hs op w
  clear hI hR
  rcases h with h | ⟨h, h2⟩
  · have t1 : (1000 : Int) < ts.length := by omega
    go_enter Try.func7, Try.ntmps7
    go_wp2_with fail
    refine (alive_yes _).mono ?_
    rintro e w1 ⟨rfl, hB⟩
    obtain ⟨x0, x1, x2, x3, x4⟩ := lies.two (lies.on_call D0 hB)
    have K := K0.trans (hB.mono K0.size)
    clear hB D0 D1 K0
    go_wp2_with fail
    go_ret
    exact ⟨rfl, K⟩
  · have t1 : ¬ (1000 : Int) < ts.length := by omega
    have t2 : (100 : Int) < rs.length := by omega
    go_enter Try.func7, Try.ntmps7
    go_wp2_with fail
    refine (alive_yes _).mono ?_
    rintro e w1 ⟨rfl, hB⟩
    obtain ⟨x0, x1, x2, x3, x4⟩ := lies.two (lies.on_call D0 hB)
    have K := K0.trans (hB.mono K0.size)
    clear hB D0 D1 K0
    go_wp2_with fail
    go_ret
    exact ⟨rfl, K⟩

set_option maxRecDepth 100000 in
set_option maxHeartbeats 30000000 in
theorem walk_in (n i lo hi : Int) (ls hs op : Bool) (sv rv : Value) (ts : List Int) (rs : List (Int × Int)) (w : World) (hI : law.Ints w.heap.size w sv ts) (hR : Rats w.heap.size w rv rs) (hii : IntsR rs) (h1 : ts.length ≤ 1000) (h3 : rs.length ≤ 100) (htop : Tops ts) :
    Calls Try.prog 7 #[.agg #[.int .i64 n, sv], .int .i64 i, .agg #[.int .i64 lo, .bool ls, .int .i64 hi, .bool hs, .bool op], rv] w fun e w' => e = .returned (.bool true) ∧ Below w.heap.size w w' := by
  obtain ⟨ad, cap, rfl⟩ := ints_len hI
  obtain ⟨rd, rap, rfl⟩ := rats_len hR
  have t1 : ¬ (1000 : Int) < ts.length := by omega
  have t3 : ¬ (100 : Int) < rs.length := by omega
  obtain ⟨K0, D0, P0⟩ := box2 n lo hi (.slice ad ts.length cap) ls hs op w
  have S0 : St [(w.heap.size, n, .slice ad ts.length cap, ts)] w ((w.alloc (.cells #[.int .i64 n, .slice ad ts.length cap] 24)).alloc (.cells #[.int .i64 lo, .bool ls, .int .i64 hi, .bool hs, .bool op] 33)) := by
    refine ⟨K0, fun b hb => ?_⟩
    obtain rfl := List.mem_singleton.1 hb
    exact ⟨D0, (hI.below K0).mono K0.size⟩
  have HT := Lib.hid htop
  have HR := Lib.hid hR
  have HII := Lib.hid hii
  clear hI htop hR hii K0 D0
  go_enter Try.func7, Try.ntmps7
  go_wp2_with fail
  generalize (w.alloc (.cells #[.int .i64 n, .slice ad ts.length cap] 24)).alloc (.cells #[.int .i64 lo, .bool ls, .int .i64 hi, .bool hs, .bool op] 33) = v0 at S0 P0 ⊢
  refine (alive_yes _).mono ?_
  rintro e v1 ⟨rfl, hB⟩
  have S1 := S0.below hB
  have P1 := lies.on_call P0 hB
  clear S0 P0 hB
  obtain ⟨x0, x1, x2', x3, x4⟩ := lies.two S1.head.1
  go_wp2_with fail
  clear x0 x1 x2' x3 x4
  refine (dkeeps_any n _ _ ts rs _ S1.head.2 (by omega) HT.out ((HR.out.below S1.1).mono S1.1.size) HII.out (by omega)).mono ?_
  rintro e v2 ⟨hB, one, c, rfl, hc⟩
  have S2 := S1.below hB
  have P2 := lies.on_call P1 hB
  have HC := Lib.hid hc
  clear S1 P1 hB hc
  obtain ⟨x0, x1, x2', x3, x4⟩ := lies.two S2.head.1
  obtain ⟨y0, y1, y2, y3, y4, y5⟩ := five P2
  go_wp2_with fail
  clear x0 x1 x2' x3 x4 y0 y1 y2 y3 y4 y5
  refine (btw_any n i lo hi ls hs op _ ts _ S2.head.2 (by omega) HT.out).mono ?_
  rintro e v4 ⟨hB, n4, a4, l4, c4, us4, f4, rfl, hR, hK⟩
  have S4 := (S2.below hB).add n4 _ us4 hK.ints
  have P4 := lies.on_alloc (lies.on_call P2 hB) (.cells #[.int .i64 n4, .slice a4 l4 c4] 24)
  have HR4 := Lib.hid hR
  clear S2 P2 hB hK hR
  by_cases hc0 : c = 0
  · by_cases hff : f4 = 0 ∨ f4 = 6
    · subst hc0
      obtain ⟨hm, hmt, hd, hone⟩ : MayD n ts ∧ MayT rs ∧ (rs.length : Int) = n - 1 ∧ (one = true ↔ keptAll n.toNat ts ((0, 1) :: rs)) := by
        rcases HC.out with ⟨h, _⟩ | ⟨h, _⟩ | ⟨_, h⟩
        · exact absurd h (by decide)
        · exact absurd h (by decide)
        · exact h
      obtain ⟨q, rfl, h0, hn, hl⟩ := may_nat hm
      rw [Int.toNat_natCast] at hone
      obtain ⟨hci, hsp, hA⟩ : Clk q i ∧ MayS lo hi hs op ∧ Ans q (btwL q ts i.toNat lo ls hi hs op) n4 us4 f4 := by
        have hR := HR4.out
        by_cases hs' : MayD q ts ∧ Clk q i ∧ MayS lo hi hs op
        · have e2 : btwQ q ts i lo ls hi hs op = some (btwL (q : Int).toNat ts i.toNat lo ls hi hs op) := if_pos hs'
          rw [e2, Int.toNat_natCast] at hR
          rcases hR with ⟨h, _⟩ | ⟨L, h, h'⟩
          · cases h
          · cases h; exact ⟨hs'.2.1, hs'.2.2, h'⟩
        · have e2 : btwQ q ts i lo ls hi hs op = none := if_neg hs'
          rw [e2] at hR
          rcases hR with ⟨_, _, _, h⟩ | ⟨L, h, _⟩
          · have : btwE q ts i ≠ 0 ∧ btwE q ts i ≠ 6 := by unfold btwE; split <;> decide
            rw [← h] at this
            exact (hff.elim this.1 this.2).elim
          · cases h
      obtain ⟨p, rfl⟩ : ∃ p : Nat, i = p := ⟨i.toNat, by have := hci.1; omega⟩
      have hp : p < q := by have := hci.2; omega
      rw [Int.toNat_natCast] at hA
      have hqn : ((0, 1) :: rs).length = q := by simp; omega
      obtain ⟨hqi, hqm⟩ := with_zero HII.out hmt
      have hq0 : pr ((0, 1) :: rs) 0 = (0, 1) := rfl
      have hR2 := HR.out.below S4.1
      obtain ⟨qs, hqs⟩ : ∃ qs, qs = (0, 1) :: rs := ⟨_, rfl⟩
      rw [← hqs] at hqn hqi hqm hone hq0
      have hll : (btwL q ts p lo ls hi hs op).length = q * q := (setAll_length _ _ _).trans hl
      have hx : In (-lo) := by have := hsp.1; unfold In at this ⊢; omega
      have hmL : MayD q (btwL q ts p lo ls hi hs op) := by
        refine setAll_may hm _ (fun z hz => ?_)
        have hhi : Fine (hiB hi hs op) := by
          rcases hsp.2 with ⟨rfl, _⟩ | ⟨rfl, k, _⟩
          · exact .inl rfl
          · exact mk_fine2 k hs
        rcases List.mem_cons.1 hz with rfl | hz
        · exact mk_fine2 hx ls
        · obtain rfl := List.mem_singleton.1 hz
          exact hhi
      have hka := kept_ans h0 hn hll (setAll_tops HT.out _) hmL hqm hqn hA
      have hkb := kept_btw (i := p) (ls := ls) h0 hn hl hm hqm hqn hq0 hp hsp
      have M1' := hqm p (by omega)
      obtain ⟨⟨k1, k2⟩, _⟩ := hqi p (by omega)
      have hlo1 : cmpE lo 1 (pr qs p).1 (pr qs p).2 = 0 ∧ _ := cmp_low hsp.1 ls M1'
      have hhi1 : op = false → In hi := fun h => by
        rcases hsp.2 with k | k
        · rw [h] at k; exact absurd k.1 (by decide)
        · exact k.2.1
      have hhi2 := fun h => cmp_high (hhi1 h) hs M1'
      generalize btwL q ts p lo ls hi hs op = L at hka hkb
      have HKA := Lib.hid hka
      have HKB := Lib.hid hkb
      have HQS := Lib.hid hqs
      have HQN := Lib.hid hqn
      have HONE := Lib.hid hone
      have HD := Lib.hid hd
      have HMT := Lib.hid hmt
      have HFF := Lib.hid hff
      have HHI := Lib.hid hhi1
      have HLO := Lib.hid hsp.1
      have HCL := Lib.hid hlo1
      have HCH := Lib.hid hhi2
      have HK12 := Lib.hid (And.intro k1 k2)
      clear hA hka hkb hqs hqn hqi hqm hq0 hone hd hmt hff hhi1 hhi2 hlo1 hsp hci hm hll hmL hx HR4 HC M1' k1 k2 hl
      go_upto_region 6 with fail
      generalize v4.heap.size = B4 at S4 ⊢
      generalize v4.alloc (.cells #[.int .i64 n4, .slice a4 l4 c4] 24) = w4 at S4 P4 hR2 ⊢
      go_cut [63, 13] from 26 (fun s63 s13 wx => s63 = .bool false ∧ s13 = .int .i64 f4 ∧ w4 = wx)
      case first =>
        rcases HFF.out with rfl | rfl
        · go_wp2_with fail
          go_meet
          exact ⟨rfl, rfl, rfl⟩
        · go_wp2_with fail
          go_meet
          exact ⟨rfl, rfl, rfl⟩
      case rest =>
        obtain ⟨h63, h13, hwc⟩ := hcut
        subst h63
        subst h13
        subst hwc
        obtain ⟨v', w5, hrun, hown, hgrow, hvn⟩ := app_times w4.heap.size 42 (.slice (some ⟨w4.heap.size, 0, none⟩) 1 1) (.slice rd rs.length rap) 1 w.heap.size [.int .i64 0, .int .i64 1] rs (w4.alloc (.cells #[.int .i64 0, .int .i64 1] 46)) (World.ownsRow_lit w4 #[.int .i64 0, .int .i64 1] 1 (Nat.le_refl _) (by decide) rfl) (eq_false (by simp)) (hR2.below ((Below.refl w.heap.size w4).alloc S4.1.size _)) (by omega) (by simp)
        have hBX := grown_b (o := .cells #[.int .i64 0, .int .i64 1] 46) hgrow
        obtain ⟨g, capg, rfl, hg, hgw⟩ := own_some hown hvn
        have hlen : 1 + rs.length = q := by have := HD.out; omega
        have hq : RowR w5 g 0 ((0, 1) :: rs) := own_rowR hown
        rw [hlen] at hrun
        have HRUN := Lib.hid hrun
        have S5 := S4.below hBX
        have P5 := lies.on_call P4 hBX
        rw [← HQS.out] at hq
        have HQ := Lib.hid hq
        clear hrun hown hgrow hvn hBX hlen hq hg S4 P4 hR2
        have COF := Lib.hid (fun (z : Int) (hz : In z) (W : World) => of_in z W hz)
        go_wp2_with (at_builtin; refine dref.append_run2 rfl (.tmp 65) (.tmp 66) 42 rfl _ _ _ _ rfl rfl HRUN.out ?_; clear HRUN; obtain ⟨y0, y1, y2, y3, y4, y5⟩ := five P5)
        clear y0 y1 y2 y3 y4 y5
        refine (COF.out lo HLO.out _).mono ?_
        rintro e v6 ⟨rfl, hB⟩
        have S6 := (S5.below hB).alloc (.cells #[.int .i64 lo, .int .i64 1] 46)
        have P6 := lies.on_alloc (lies.on_call P5 hB) (.cells #[.int .i64 lo, .int .i64 1] 46)
        have L6 := lies.made v6 46 #[.int .i64 lo, .int .i64 1]
        have hq6 := (HQ.out.below hB hgw).below (up1 v6 (.cells #[.int .i64 lo, .int .i64 1] 46)) (Nat.lt_of_lt_of_le hgw hB.size)
        have hgw6 : g < (v6.alloc (.cells #[.int .i64 lo, .int .i64 1] 46)).heap.size := Nat.lt_of_lt_of_le (Nat.lt_of_lt_of_le hgw hB.size) (by simp)
        have HQ6 := Lib.hid hq6
        clear S5 P5 hB HQ hq6 hgw
        go_upto_region 10 with fail
        generalize v6.heap.size = B6 at L6 ⊢
        generalize v6.alloc (.cells #[.int .i64 lo, .int .i64 1] 46) = w6 at S6 P6 L6 HQ6 hgw6 ⊢
        have kc : ∀ X, Below w6.heap.size w6 X → X.cell? ⟨g, p * 2, none⟩ = some (.int .i64 (pr qs p).1) ∧ X.cell? ⟨g, p * 2 + 1, none⟩ = some (.int .i64 (pr qs p).2) := fun X k => by
          have r1 := (HQ6.out.below k hgw6) p (by rw [HQN.out]; exact hp)
          rw [Nat.zero_add] at r1
          exact r1
        generalize ha : (pr qs p).1 = a at kc HKB HCL HCH HK12
        generalize hbb : (pr qs p).2 = bb at kc HKB HCL HCH
        have HAB := Lib.hid (And.intro ha hbb)
        clear ha hbb
        have KC := Lib.hid kc
        have z2 : (p : Int) < q := by omega
        have CCM := Lib.hid (fun (W : World) => cmp3_any lo 1 a bb W (by have := HLO.out; unfold In at this; omega) (by have := HLO.out; unfold In at this; omega) HK12.out.1 HK12.out.2)
        rw [HCL.out.1] at CCM
        have hV := HCL.out.2
        clear kc
        generalize cmpV lo 1 a bb = V at hV CCM
        refine wp_region_held_drew (S := Below w6.heap.size w6) (by kernel_rfl) (dbm.drawn1 (Below.refl _ _)) (fun hHeld => ?_)
        refine wpAnyH_take (i := 0) (v := ?_) rfl (by kernel_rfl) (by kernel_rfl) (by kernel_rfl) (fun _ _ _ h => h) (Or.inl ⟨by rfl, ?_⟩) hHeld ?_
        rotate_left
        · intro w hSw; obtain ⟨s0, s1⟩ := dlaw.at_s L6 hSw; go_simp; try with_reducible rfl
        try simp only [Act.put, List.getElem_toArray, List.getElem_cons_zero, List.getElem_cons_succ, List.setIfInBounds_toArray, List.set_cons_zero, List.set_cons_succ]
        refine wpAnyH_take (i := 1) (v := ?_) rfl (by kernel_rfl) (by kernel_rfl) (by kernel_rfl) (fun _ _ _ h => h) (Or.inl ⟨by rfl, ?_⟩) hHeld ?_
        rotate_left
        · intro w hSw; skip; go_simp; try with_reducible rfl
        try simp only [Act.put, List.getElem_toArray, List.getElem_cons_zero, List.getElem_cons_succ, List.setIfInBounds_toArray, List.set_cons_zero, List.set_cons_succ]
        refine wpAnyH_take (i := 2) (v := ?_) rfl (by kernel_rfl) (by kernel_rfl) (by kernel_rfl) (fun _ _ _ h => h) (Or.inl ⟨by rfl, ?_⟩) hHeld ?_
        rotate_left
        · intro w hSw; skip; go_simp; try with_reducible rfl
        try simp only [Act.put, List.getElem_toArray, List.getElem_cons_zero, List.getElem_cons_succ, List.setIfInBounds_toArray, List.set_cons_zero, List.set_cons_succ]
        refine wpAnyH_take (i := 3) (v := ?_) rfl (by kernel_rfl) (by kernel_rfl) (by kernel_rfl) (fun _ _ _ h => h) (Or.inl ⟨by rfl, ?_⟩) hHeld ?_
        rotate_left
        · intro w hSw; skip; go_simp; try with_reducible rfl
        try simp only [Act.put, List.getElem_toArray, List.getElem_cons_zero, List.getElem_cons_succ, List.setIfInBounds_toArray, List.set_cons_zero, List.set_cons_succ]
        refine wpAnyH_take (i := 4) (v := ?_) rfl (by kernel_rfl) (by kernel_rfl) (by kernel_rfl) (fun _ _ _ h => h) (Or.inl ⟨by rfl, ?_⟩) hHeld ?_
        rotate_left
        · intro w hSw; obtain ⟨s0, s1⟩ := KC.out _ hSw; go_simp; try with_reducible rfl
        try simp only [Act.put, List.getElem_toArray, List.getElem_cons_zero, List.getElem_cons_succ, List.setIfInBounds_toArray, List.set_cons_zero, List.set_cons_succ]
        refine wpAnyH_ready (rs := [5]) (by kernel_rfl) (by simp) (AllReadyH.cons rfl (fun K hK => ?_) AllReadyH.nil)
        go_simp
        refine (CCM.out _).mono ?_
        rintro e v7 ⟨rfl, hB⟩
        refine hK.out _ _ (hHeld.trans (hB.mono hHeld.size)) (fun hNew => ?_)
        clear hB
        clear hHeld hK K
        have hHeld := hNew
        clear hNew
        try simp only [Act.put, List.getElem_toArray, List.getElem_cons_zero, List.getElem_cons_succ, List.setIfInBounds_toArray, List.set_cons_zero, List.set_cons_succ]
        refine wpAnyH_take (i := 6) (v := ?_) rfl (by kernel_rfl) (by kernel_rfl) (by kernel_rfl) (fun _ _ _ h => h) (Or.inl ⟨by rfl, ?_⟩) hHeld ?_
        rotate_left
        · intro w hSw; skip; go_simp; try with_reducible rfl
        try simp only [Act.put, List.getElem_toArray, List.getElem_cons_zero, List.getElem_cons_succ, List.setIfInBounds_toArray, List.set_cons_zero, List.set_cons_succ]
        refine wpAnyH_take (i := 7) (v := ?_) rfl (by kernel_rfl) (by kernel_rfl) (by kernel_rfl) (fun _ _ _ h => h) (Or.inl ⟨by rfl, ?_⟩) hHeld ?_
        rotate_left
        · intro w hSw; skip; go_simp; try with_reducible rfl
        try simp only [Act.put, List.getElem_toArray, List.getElem_cons_zero, List.getElem_cons_succ, List.setIfInBounds_toArray, List.set_cons_zero, List.set_cons_succ]
        refine wpAnyH_take (i := 8) (v := ?_) rfl (by kernel_rfl) (by kernel_rfl) (by kernel_rfl) (fun _ _ _ h => h) (Or.inl ⟨by rfl, ?_⟩) hHeld ?_
        rotate_left
        · intro w hSw; skip; go_simp; try with_reducible rfl
        try simp only [Act.put, List.getElem_toArray, List.getElem_cons_zero, List.getElem_cons_succ, List.setIfInBounds_toArray, List.set_cons_zero, List.set_cons_succ]
        refine wpAnyH_take (i := 9) (v := ?_) rfl (by kernel_rfl) (by kernel_rfl) (by kernel_rfl) (fun _ _ _ h => h) (Or.inl ⟨by rfl, ?_⟩) hHeld ?_
        rotate_left
        · intro w hSw; skip; go_simp; try with_reducible rfl
        try simp only [Act.put, List.getElem_toArray, List.getElem_cons_zero, List.getElem_cons_succ, List.setIfInBounds_toArray, List.set_cons_zero, List.set_cons_succ]
        refine wpAnyH_take (i := 10) (v := ?_) rfl (by kernel_rfl) (by kernel_rfl) (by kernel_rfl) (fun _ _ _ h => h) (Or.inl ⟨by rfl, ?_⟩) hHeld ?_
        rotate_left
        · intro w hSw; skip; go_simp; try with_reducible rfl
        try simp only [Act.put, List.getElem_toArray, List.getElem_cons_zero, List.getElem_cons_succ, List.setIfInBounds_toArray, List.set_cons_zero, List.set_cons_succ]
        refine wpAnyH_done (by kernel_rfl) ?_ _
        have S7 := S6.below hHeld
        have P7 := lies.on_call P6 hHeld
        have hq7 := HQ6.out.below hHeld hgw6
        have hgw7 := Nat.lt_of_lt_of_le hgw6 hHeld.size
        have HQ7 := Lib.hid hq7
        have HV := Lib.hid hV
        clear hHeld S6 P6 L6 HQ6 hgw6 KC CCM hq7 hV HCL
        go_upto_region 11 with fail
        generalize hil : inl lo ls a bb = il at HV HKB
        clear hil
        go_cut [19, 17] from 26 (fun s19 s17 wx => s19 = .bool il ∧ v7 = wx)
        case first =>
          obtain ⟨y0, y1, y2, y3, y4, y5⟩ := five P7
          rcases HV.out with ⟨rfl, rfl⟩ | ⟨rfl, rfl⟩ | ⟨rfl, rfl⟩
          · go_wp2_with fail
            go_meet
            exact ⟨rfl, rfl⟩
          · go_wp2_with fail
            go_meet
            exact ⟨rfl, rfl⟩
          · go_wp2_with fail
            go_meet
            exact ⟨rfl, rfl⟩
        case rest =>
          obtain ⟨h19, hwc⟩ := hcut
          subst h19
          subst hwc
          obtain ⟨y0, y1, y2, y3, y4, y5⟩ := five P7
          go_upto_if 102 with fail
          clear y0 y1 y2 y3 y4 y5
          generalize hih : inh hi hs a bb = ih at HKB HCH
          clear hih
          go_cut [19] from 26 (fun s19 wx => s19 = .bool (il && (op || ih)) ∧ St [(B4, n4, .slice a4 l4 c4, us4), (w.heap.size, (q : Int), .slice ad ts.length cap, ts)] w wx)
          case first =>
            cases op with
            | true =>
              go_wp2_with fail
              go_meet
              exact ⟨by simp, S7⟩
            | false =>
              have HH := Lib.hid (HHI.out rfl)
              obtain ⟨y0, y1, y2, y3, y4, y5⟩ := five P7
              go_wp2_with fail
              clear y0 y1 y2 y3 y4 y5
              refine (COF.out hi HH.out _).mono ?_
              rintro e v8 ⟨rfl, hB⟩
              have S8 := (S7.below hB).alloc (.cells #[.int .i64 hi, .int .i64 1] 46)
              have P8 := lies.on_alloc (lies.on_call P7 hB) (.cells #[.int .i64 hi, .int .i64 1] 46)
              have L8 := lies.made v8 46 #[.int .i64 hi, .int .i64 1]
              have hq8 := (HQ7.out.below hB hgw7).below (up1 v8 (.cells #[.int .i64 hi, .int .i64 1] 46)) (Nat.lt_of_lt_of_le hgw7 hB.size)
              have hgw8 : g < (v8.alloc (.cells #[.int .i64 hi, .int .i64 1] 46)).heap.size := Nat.lt_of_lt_of_le (Nat.lt_of_lt_of_le hgw7 hB.size) (by simp)
              have HQ8 := Lib.hid hq8
              clear S7 P7 hB HQ7 hq8 hgw7
              go_upto_region 16 with fail
              generalize v8.heap.size = B8 at L8 ⊢
              generalize v8.alloc (.cells #[.int .i64 hi, .int .i64 1] 46) = w8 at S8 P8 L8 HQ8 hgw8 ⊢
              have kc : ∀ X, Below w8.heap.size w8 X → X.cell? ⟨g, p * 2, none⟩ = some (.int .i64 a) ∧ X.cell? ⟨g, p * 2 + 1, none⟩ = some (.int .i64 bb) := fun X k => by
                have r1 := (HQ8.out.below k hgw8) p (by rw [HQN.out]; exact hp)
                rw [Nat.zero_add, HAB.out.1, HAB.out.2] at r1
                exact r1
              have KC := Lib.hid kc
              have CCM := Lib.hid (fun (W : World) => cmp3_any a bb hi 1 W HK12.out.1 HK12.out.2 (by have := HH.out; unfold In at this; omega) (by have := HH.out; unfold In at this; omega))
              rw [(HCH.out (by simp)).1] at CCM
              have hV := (HCH.out (by simp)).2
              clear kc
              generalize cmpV a bb hi 1 = V at hV CCM
              refine wp_region_held_drew (S := Below w8.heap.size w8) (by kernel_rfl) (dbm.drawn1 (Below.refl _ _)) (fun hHeld => ?_)
              refine wpAnyH_take (i := 0) (v := ?_) rfl (by kernel_rfl) (by kernel_rfl) (by kernel_rfl) (fun _ _ _ h => h) (Or.inl ⟨by rfl, ?_⟩) hHeld ?_
              rotate_left
              · intro w hSw; skip; go_simp; try with_reducible rfl
              try simp only [Act.put, List.getElem_toArray, List.getElem_cons_zero, List.getElem_cons_succ, List.setIfInBounds_toArray, List.set_cons_zero, List.set_cons_succ]
              refine wpAnyH_take (i := 1) (v := ?_) rfl (by kernel_rfl) (by kernel_rfl) (by kernel_rfl) (fun _ _ _ h => h) (Or.inl ⟨by rfl, ?_⟩) hHeld ?_
              rotate_left
              · intro w hSw; skip; go_simp; try with_reducible rfl
              try simp only [Act.put, List.getElem_toArray, List.getElem_cons_zero, List.getElem_cons_succ, List.setIfInBounds_toArray, List.set_cons_zero, List.set_cons_succ]
              refine wpAnyH_take (i := 2) (v := ?_) rfl (by kernel_rfl) (by kernel_rfl) (by kernel_rfl) (fun _ _ _ h => h) (Or.inl ⟨by rfl, ?_⟩) hHeld ?_
              rotate_left
              · intro w hSw; skip; go_simp; try with_reducible rfl
              try simp only [Act.put, List.getElem_toArray, List.getElem_cons_zero, List.getElem_cons_succ, List.setIfInBounds_toArray, List.set_cons_zero, List.set_cons_succ]
              refine wpAnyH_take (i := 3) (v := ?_) rfl (by kernel_rfl) (by kernel_rfl) (by kernel_rfl) (fun _ _ _ h => h) (Or.inl ⟨by rfl, ?_⟩) hHeld ?_
              rotate_left
              · intro w hSw; obtain ⟨s0, s1⟩ := KC.out _ hSw; go_simp; try with_reducible rfl
              try simp only [Act.put, List.getElem_toArray, List.getElem_cons_zero, List.getElem_cons_succ, List.setIfInBounds_toArray, List.set_cons_zero, List.set_cons_succ]
              refine wpAnyH_take (i := 4) (v := ?_) rfl (by kernel_rfl) (by kernel_rfl) (by kernel_rfl) (fun _ _ _ h => h) (Or.inl ⟨by rfl, ?_⟩) hHeld ?_
              rotate_left
              · intro w hSw; obtain ⟨s0, s1⟩ := dlaw.at_s L8 hSw; go_simp; try with_reducible rfl
              try simp only [Act.put, List.getElem_toArray, List.getElem_cons_zero, List.getElem_cons_succ, List.setIfInBounds_toArray, List.set_cons_zero, List.set_cons_succ]
              refine wpAnyH_ready (rs := [5]) (by kernel_rfl) (by simp) (AllReadyH.cons rfl (fun K hK => ?_) AllReadyH.nil)
              go_simp
              refine (CCM.out _).mono ?_
              rintro e v9 ⟨rfl, hB⟩
              refine hK.out _ _ (hHeld.trans (hB.mono hHeld.size)) (fun hNew => ?_)
              clear hB
              clear hHeld hK K
              have hHeld := hNew
              clear hNew
              try simp only [Act.put, List.getElem_toArray, List.getElem_cons_zero, List.getElem_cons_succ, List.setIfInBounds_toArray, List.set_cons_zero, List.set_cons_succ]
              refine wpAnyH_take (i := 6) (v := ?_) rfl (by kernel_rfl) (by kernel_rfl) (by kernel_rfl) (fun _ _ _ h => h) (Or.inl ⟨by rfl, ?_⟩) hHeld ?_
              rotate_left
              · intro w hSw; skip; go_simp; try with_reducible rfl
              try simp only [Act.put, List.getElem_toArray, List.getElem_cons_zero, List.getElem_cons_succ, List.setIfInBounds_toArray, List.set_cons_zero, List.set_cons_succ]
              refine wpAnyH_take (i := 7) (v := ?_) rfl (by kernel_rfl) (by kernel_rfl) (by kernel_rfl) (fun _ _ _ h => h) (Or.inl ⟨by rfl, ?_⟩) hHeld ?_
              rotate_left
              · intro w hSw; skip; go_simp; try with_reducible rfl
              try simp only [Act.put, List.getElem_toArray, List.getElem_cons_zero, List.getElem_cons_succ, List.setIfInBounds_toArray, List.set_cons_zero, List.set_cons_succ]
              refine wpAnyH_take (i := 8) (v := ?_) rfl (by kernel_rfl) (by kernel_rfl) (by kernel_rfl) (fun _ _ _ h => h) (Or.inl ⟨by rfl, ?_⟩) hHeld ?_
              rotate_left
              · intro w hSw; skip; go_simp; try with_reducible rfl
              try simp only [Act.put, List.getElem_toArray, List.getElem_cons_zero, List.getElem_cons_succ, List.setIfInBounds_toArray, List.set_cons_zero, List.set_cons_succ]
              refine wpAnyH_take (i := 9) (v := ?_) rfl (by kernel_rfl) (by kernel_rfl) (by kernel_rfl) (fun _ _ _ h => h) (Or.inl ⟨by rfl, ?_⟩) hHeld ?_
              rotate_left
              · intro w hSw; skip; go_simp; try with_reducible rfl
              try simp only [Act.put, List.getElem_toArray, List.getElem_cons_zero, List.getElem_cons_succ, List.setIfInBounds_toArray, List.set_cons_zero, List.set_cons_succ]
              refine wpAnyH_take (i := 10) (v := ?_) rfl (by kernel_rfl) (by kernel_rfl) (by kernel_rfl) (fun _ _ _ h => h) (Or.inl ⟨by rfl, ?_⟩) hHeld ?_
              rotate_left
              · intro w hSw; skip; go_simp; try with_reducible rfl
              try simp only [Act.put, List.getElem_toArray, List.getElem_cons_zero, List.getElem_cons_succ, List.setIfInBounds_toArray, List.set_cons_zero, List.set_cons_succ]
              refine wpAnyH_done (by kernel_rfl) ?_ _
              have S9 := S8.below hHeld
              have P9 := lies.on_call P8 hHeld
              have HV9 := Lib.hid hV
              clear hHeld S8 P8 L8 HQ8 hgw8 KC CCM hV HCH
              obtain ⟨y0, y1, y2, y3, y4, y5⟩ := five P9
              cases il with
              | false =>
                go_wp2_with fail
                all_goals
                  go_meet
                  exact ⟨by simp, S9⟩
              | true =>
                rcases HV9.out with ⟨rfl, rfl⟩ | ⟨rfl, rfl⟩ | ⟨rfl, rfl⟩
                · go_wp2_with fail
                  go_meet
                  exact ⟨by simp, S9⟩
                · go_wp2_with fail
                  go_meet
                  exact ⟨by simp, S9⟩
                · go_wp2_with fail
                  go_meet
                  exact ⟨by simp, S9⟩
          case rest =>
            obtain ⟨h19, S5⟩ := hcut
            subst h19
            clear S7 P7 HQ7 HCH HV
            generalize (il && (op || ih)) = inn at HKB ⊢
            rcases HKA.out with ⟨rfl, hno⟩ | ⟨rfl, rfl, hul, hut, hcl⟩
            · have hnot : one = false ∨ inn = false := by
                cases one with
                | false => exact .inl rfl
                | true =>
                  cases inn with
                  | false => exact .inr rfl
                  | true => exact (hno (HKB.out.2 ⟨HONE.out.1 (by simp), rfl⟩)).elim
              have K := S5.1
              clear S5 hno HKA HKB
              rcases hnot with rfl | rfl
              · go_wp2_with fail
                go_ret
                exact ⟨rfl, K⟩
              · cases one with
                | false =>
                  go_wp2_with fail
                  go_ret
                  exact ⟨rfl, K⟩
                | true =>
                  go_wp2_with fail
                  go_ret
                  exact ⟨rfl, K⟩
            · have HUL4 := Lib.hid hul
              have HUT4 := Lib.hid hut
              have HCL4 := Lib.hid hcl
              clear hul hut hcl HKA
              by_cases hmc4 : MayD q us4
              · have HMC4 := Lib.hid hmc4
                clear hmc4
                obtain ⟨x0, x1, x2', x3, x4⟩ := lies.two S5.head.1
                go_wp2_with fail
                clear x0 x1 x2' x3 x4
                refine (check_ok q _ us4 _ S5.head.2 HUT4.out HMC4.out).mono ?_
                rintro e vk ⟨rfl, hB⟩
                replace S5 := S5.below hB
                clear hB
                obtain ⟨x0, x1, x2', x3, x4⟩ := lies.two S5.head.1
                go_wp2_with fail
                clear x0 x1 x2' x3 x4
                refine (dkeeps_any q _ _ us4 rs _ S5.head.2 (by rw [HUL4.out]; exact Nat.le_trans (sq_le hn) (by decide)) HUT4.out ((HR.out.below S5.1).mono S5.1.size) HII.out (by omega)).mono ?_
                rintro e vl ⟨hB, it, cl', rfl, hcl'⟩
                have K := (S5.below hB).1
                obtain ⟨rfl, hit⟩ : cl' = 0 ∧ (it = true ↔ keptAll q us4 qs) := by
                  rcases hcl' with ⟨_, _, h⟩ | ⟨_, _, _, _, h⟩ | ⟨h, _, _, _, h'⟩
                  · exact (h ⟨HMC4.out, HMT.out⟩).elim
                  · exact (h HD.out).elim
                  · rw [Int.toNat_natCast, ← HQS.out] at h'
                    exact ⟨h, h'⟩
                have hit2 := hit.trans ((HCL4.out HMC4.out).trans HKB.out)
                cases one with
                | false =>
                  obtain rfl : it = false := by
                    cases it with
                    | false => rfl
                    | true => exact absurd (HONE.out.2 (hit2.1 rfl).1) (by decide)
                  clear S5 hB hcl' hit hit2 HKB HCL4 HUT4 HUL4 HMC4
                  go_wp2_with fail
                  go_ret
                  exact ⟨rfl, K⟩
                | true =>
                  obtain rfl : it = inn := Bool.eq_iff_iff.2 (hit2.trans ⟨fun h => h.2, fun h => ⟨HONE.out.1 (by simp), h⟩⟩)
                  have tb : (it == it) = true := by simp
                  clear S5 hB hcl' hit hit2 HKB HCL4 HUT4 HUL4 HMC4
                  go_wp2_with fail
                  go_ret
                  exact ⟨rfl, K⟩
              · have HMC4 := Lib.hid hmc4
                clear hmc4
                obtain ⟨x0, x1, x2', x3, x4⟩ := lies.two S5.head.1
                go_wp2_with fail
                clear x0 x1 x2' x3 x4
                refine (check_no q _ us4 _ S5.head.2 (by rw [HUL4.out]; exact Nat.le_trans (sq_le hn) (by decide)) HUT4.out HMC4.out).mono ?_
                rintro e vk ⟨rfl, hB⟩
                have K := (S5.below hB).1
                clear S5 hB HKB HCL4 HUT4 HUL4 HMC4
                go_wp2_with fail
                go_ret
                exact ⟨rfl, K⟩
    · have t6 : (f4 != 0) = true := by simp; exact fun h => hff (.inl h)
      have t7 : (f4 != 6) = true := by simp; exact fun h => hff (.inr h)
      have t8 : (f4 == 0) = false := by simp; exact fun h => hff (.inl h)
      have K := S4.1
      subst hc0
      clear S4 P4 HR4 HC hff
      go_wp2_with fail
      go_ret
      exact ⟨rfl, K⟩
  · have t6 : (c != 0) = true := by simpa using hc0
    have K := S4.1
    clear S4 P4 HR4 HC
    go_wp2_with fail
    go_ret
    exact ⟨rfl, K⟩

theorem walk (n i lo hi : Int) (ls hs op : Bool) (sv rv : Value) (ts : List Int) (rs : List (Int × Int)) (w : World) (hI : law.Ints w.heap.size w sv ts) (hR : Rats w.heap.size w rv rs) (hii : IntsR rs) (htop : Tops ts) :
    Calls Try.prog 7 #[.agg #[.int .i64 n, sv], .int .i64 i, .agg #[.int .i64 lo, .bool ls, .int .i64 hi, .bool hs, .bool op], rv] w fun e w' => e = .returned (.bool true) ∧ Below w.heap.size w w' := by
  by_cases h : 1000 < ts.length ∨ (ts.length ≤ 1000 ∧ 100 < rs.length)
  · exact walk_far n i lo hi ls hs op sv rv ts rs w hI hR h
  · exact walk_in n i lo hi ls hs op sv rv ts rs w hI hR hii (by omega) (by omega) htop

set_option maxRecDepth 100000 in
theorem lifted (os : Os) (started : os.Started) (H : Type) (enc : TypeId × Value → H) :
    ReturnsInHanded {} Try.checked os 7 .any (Rows.tightSpansSpec.pre6 enc Try.prog Try.f7 Rows.tightSpansRow.domain false) (Rows.tightSpansSpec.post enc Try.prog Try.f7 false true false false) := by
  refine returnsInHanded_of_change (C := Try.checked) law.own started (by kernel_rfl) Try.func7
    (ChangeSpec.witness6 (enc := enc) (C := Try.checked) false ⟨#[], #[.agg #[.int .i64 0, .slice none 0 0], .int .i64 0, .agg #[.int .i64 0, .bool false, .int .i64 0, .bool false, .bool false], .slice none 0 0], []⟩ 8 (by kernel_rfl) (by kernel_rfl) (by kernel_rfl) (by kernel_rfl)) ?_
  intro W base args ds gs before hval0 hW _ _
  have hval : ∀ (j : Nat) t v, Try.f7.params[j]? = some t → args[j]? = some v → Value.okWide Try.prog W .any base t v := hval0
  have hW' := hW
  obtain ⟨p, q, hA0, hV, rfl, _, _⟩ := hW
  have hA : DataW.TrodAll enc Try.prog W 0 (fun _ => true) true Try.f7.params.toList args.toList ds p := hA0
  rw [Try.params7] at hA hval
  obtain ⟨v0, vs0, d0, ds0, p0, q0, hargs, rfl, rfl, h0, r0⟩ := trodAll_cons hA
  obtain ⟨v1, vs1, d1, ds1, p1, q1, rfl, rfl, rfl, h1, r1⟩ := trodAll_cons r0
  obtain ⟨v2, vs2, d2, ds2, p2, q2, rfl, rfl, rfl, h2, r2⟩ := trodAll_cons r1
  obtain ⟨v3, vs3, d3, ds3, p3, q3, rfl, rfl, rfl, h3, r3⟩ := trodAll_cons r2
  obtain ⟨rfl, rfl, rfl⟩ := trodAll_nil r3
  obtain rfl : args = #[v0, v1, v2, v3] := by cases args; simp_all
  obtain ⟨n, sv, ts, rfl, _, hwf, hI, _⟩ := dlaw.open_dbm (hval 0 24 v0 rfl rfl) h0
  obtain ⟨i, rfl, rfl, rfl, _⟩ := open_int Try.underlying3 (hval 1 3 v1 rfl rfl) h1
  obtain ⟨lo, ls, hi, hs, op, rfl⟩ := open_span (hval 2 33 v2 rfl rfl) h2
  obtain ⟨rs, hii, hR, _⟩ := open_rats (hval 3 42 v3 rfl rfl) h3
  refine (walk n i lo hi ls hs op sv v3 ts rs W hI hR hii (fun z hz => law.wf_hi (hwf z hz))).mono fun e W' ⟨he, hB⟩ => ?_
  subst he
  exact ⟨_, rfl, law.post_true law.laidOut (by kernel_rfl) rfl Try.underlying4 rfl hW' (fun h => by subst h; rfl) hB⟩

theorem proved : Rows.TightSpansSaid :=
  OpenClaim.holds_of_wide 7 Try.f7 rfl rfl rfl rfl rfl rfl rfl ⟨rfl, rfl, rfl, rfl, rfl⟩ rfl rfl rfl rfl rfl (by kernel_rfl) Try.func7 (by kernel_rfl)
    (of_decide_eq_true (by kernel_rfl)) (by unfold Func.isWrapper; first | (rw [if_pos (by decide +kernel)]; kernel_rfl) | (rw [if_neg (by decide +kernel)]; exact ⟨rfl, rfl⟩))
    (fun os started H enc _ => lifted os started H enc)
#print axioms proved
end Go.Proofs.Ytallgbpijndmeaa.tightSpans
