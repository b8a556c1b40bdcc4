/-
  DbmKept answers true for every matrix and times; no condition.
-/
import Derived.Test.YtlagnbbbokgdfaaDbmKept1
import Derived.BigQuiet
namespace Go.Proofs.Ytlagnbbbokgdfaa.dbmKept
open Go.ChangeShapes Go.WideShapes Go.ChangeAt Go.RowKit num dbm dlaw rat
open bound hiding up
set_option linter.unusedVariables false
set_option linter.unusedSimpArgs false

theorem closed_at {n : Nat} {ts : List Int} (h0 : 0 < n) (hn : n ≤ 4) (hl : ts.length = n * n) (htop : Tops ts) (hf : ∀ p, p < ts.length → Fine (ts[p]?.getD 0)) (hne : ∀ k, k ≤ n → ¬ emp n (tabs n h0 ts k)) (p : Nat) (hp : p < n * n) : (tabs n h0 ts n)[p]?.getD 0 ≤ ts[p]?.getD 0 := by
  have := closed_le h0 hn hl htop hf hne ((Nat.div_lt_iff_lt_mul h0).2 hp) (Nat.mod_lt p h0)
  unfold tat at this
  have e : p / n * n + p % n = p := by rw [Nat.mul_comm]; exact Nat.div_add_mod p n
  rwa [e] at this

set_option maxRecDepth 100000 in
set_option maxHeartbeats 2000000 in
theorem walk_some (n b off cap : Nat) (tv : Value) (ts : List Int) (rs : List (Int × Int)) (w : World) (h0 : 0 < n) (hn : n ≤ 4) (hr : Row w b off ts) (hb : b < w.heap.size) (htop : Tops ts) (hm : MayD n ts) (hl : ts.length = n * n)
    (hR : Rats w.heap.size w tv rs) (hi : IntsR rs) (h2 : rs.length ≤ 100) (hne : ∀ k, k ≤ n → ¬ emp n (tabs n h0 ts k)) :
    Calls Try.prog 6 #[.agg #[.int .i64 n, .slice (some ⟨b, off, none⟩) (n * n) cap], tv] w fun e w' => e = .returned (.bool true) ∧ Below w.heap.size w w' := by
  have hsq := sq_le hn
  have hsq0 : 0 < n * n := Nat.mul_pos h0 h0
  obtain ⟨a', cap', rfl⟩ := rats_len hR
  have D0 := lies.made w 27 #[.int .i64 n, .slice (some ⟨b, off, none⟩) (n * n) cap]
  have t1 : ¬ (1000 : Int) < (n : Int) * n := by rw [← Int.natCast_mul]; omega
  have t2 : ¬ (100 : Int) < rs.length := by omega
  have HLE := Lib.hid (closed_at h0 hn hl htop hm.2.2.2 hne)
  have hto := tabs_tops h0 htop n
  have htl : (tabs n h0 ts n).length = n * n := (tabs_length ..).trans hl
  have HTO := Lib.hid hto
  have HTL := Lib.hid htl
  have HR := Lib.hid hr
  have HT := Lib.hid htop
  have HM := Lib.hid hm
  have HL := Lib.hid hl
  have HRR := Lib.hid hR
  have HII := Lib.hid hi
  have HNE := Lib.hid hne
  clear hr htop hm hl hR hi hne hto htl
  go_enter Try.func6, Try.ntmps6
  go_wp2_with fail
  refine (alive_yes _).mono ?_
  rintro e w1 ⟨rfl, hB1⟩
  have D1 := lies.on_call D0 hB1
  have K1 : Below w.heap.size w w1 := ((Below.refl _ w).alloc (Nat.le_refl _) _).trans (hB1.mono (by simp))
  obtain ⟨c0, c1, c2, c3, c4⟩ := lies.two D1
  clear D0 hB1
  go_wp2_with fail
  refine (dkeeps_any n _ _ ts rs _ (.inr ⟨b, off, cap, by rw [HL.out], Nat.lt_of_lt_of_le hb K1.size, HR.out.below K1 hb⟩) (by rw [HL.out]; omega) HT.out ((HRR.out.below K1).mono K1.size) HII.out (by omega)).mono ?_
  rintro e w2 ⟨hB2, r, c, rfl, hc⟩
  have HC := Lib.hid hc
  have D2 := lies.on_call D1 hB2
  have K2 := K1.trans (hB2.mono K1.size)
  clear D1 hB2 K1 c0 c1 c2 c3 c4 hc
  obtain ⟨c0, c1, c2, c3, c4⟩ := lies.two D2
  go_wp2_with fail
  refine (close_ok n b off cap ts _ h0 (HR.out.below K2 hb) (Nat.lt_of_lt_of_le hb K2.size) HT.out HM.out HL.out hn).mono ?_
  rintro e w3 ⟨hB3, ⟨k', hk', hem, rfl⟩ | ⟨_, g, hg, rfl, hG⟩⟩
  · exact (HNE.out k' hk' hem).elim
  · have K3 := K2.trans (hB3.mono K2.size)
    have K4 := K3.alloc K3.size (.cells #[.int .i64 n, .slice (some ⟨g, 0, none⟩) (n * n) (n * n)] 27)
    have D3 := lies.on_alloc (lies.on_call D2 hB3) (.cells #[.int .i64 n, .slice (some ⟨g, 0, none⟩) (n * n) (n * n)] 27)
    have P1 := lies.made w3 27 #[.int .i64 n, .slice (some ⟨g, 0, none⟩) (n * n) (n * n)]
    have P2 := lies.on_alloc hG (.cells #[.int .i64 n, .slice (some ⟨g, 0, none⟩) (n * n) (n * n)] 27)
    have hgb : g < w3.heap.size := lies.lt hG
    generalize hTa : tabs n h0 ts n = Ta at P2 HLE HTO HTL
    clear D2 hB3 K2 K3 c0 c1 c2 c3 c4 hG
    go_wp2_with fail
    generalize w3.heap.size = Bc at P1 ⊢
    generalize w3.alloc (.cells #[.int .i64 n, .slice (some ⟨g, 0, none⟩) (n * n) (n * n)] 27) = w4 at P1 P2 D3 K4 ⊢
    go_loopw [10] (fun i wr => ∃ p : Nat, p ≤ n * n ∧ i = .int .i64 p ∧ lies.Lies wr w.heap.size 27 #[.int .i64 n, .slice (some ⟨b, off, none⟩) (n * n) cap] ∧ lies.Lies wr Bc 27 #[.int .i64 n, .slice (some ⟨g, 0, none⟩) (n * n) (n * n)] ∧ lies.Lies wr g 29 (cellsOf Ta) ∧ Below w.heap.size w wr) (fun i _ => n * n - (intOf i).toNat)
    case atStart => exact ⟨0, Nat.zero_le _, rfl, D3, P1, P2, K4⟩
    case round =>
      clear D3 P1 P2 K4
      obtain ⟨p, hp, rfl, M1, M2, M3, K4⟩ := hrel
      obtain ⟨x0, x1, x2, x3, x4⟩ := lies.two M1
      obtain ⟨y0, y1, y2, y3, y4⟩ := lies.two M2
      by_cases hpl : p < n * n
      · have za := (lies.cell M3 p).trans (cells_at Ta p (by rw [HTL.out]; exact hpl))
        have zb := (HR.out.below K4 hb) p (by rw [HL.out]; exact hpl)
        have hle := HLE.out p hpl
        generalize Ta[p]?.getD 0 = xa at za hle
        generalize ts[p]?.getD 0 = xb at zb hle
        have hgt : decide (xb < xa) = false := decide_eq_false (by omega)
        have z1 : (0 : Int) ≤ p := by omega
        have z2 : (p : Int) < (n : Int) * n := by rw [← Int.natCast_mul]; omega
        have z3 : decide ((n : Int) * n ≤ p) = false := decide_eq_false (by omega)
        go_wp2_with fail
        go_quiet (fail)
        go_wp2_with fail
        go_roundw
        case rel => exact ⟨p + 1, by omega, by go_num, M1, M2, M3, bound.drawn K4 _⟩
        case measure => simp [intOf]; omega
      · obtain rfl : n * n = p := by omega
        by_cases hc0 : c = 0
        · subst hc0
          obtain ⟨hmt, hd, hrk⟩ : MayT rs ∧ (rs.length : Int) = (n : Int) - 1 ∧ (r = true ↔ keptAll n ts ((0, 1) :: rs)) := by
            rcases HC.out with ⟨h, _⟩ | ⟨h, _⟩ | ⟨_, _, h, h', h''⟩
            · exact absurd h (by decide)
            · exact absurd h (by decide)
            · exact ⟨h, h', h''⟩
          have HMT := Lib.hid hmt
          have HD := Lib.hid hd
          have HRK := Lib.hid hrk
          clear hmt hd hrk HC
          have hI : law.Ints wr.heap.size wr (.slice (some ⟨g, 0, none⟩) (n * n) (n * n)) Ta := by
            have := own_ints (cap := n * n) M3
            rwa [HTL.out] at this
          by_cases hmc : MayD n Ta
          · have HCK := Lib.hid (check_ok n _ Ta _ hI HTO.out hmc)
            have HMC := Lib.hid hmc
            clear hmc
            go_wp2_with fail
            refine HCK.out.mono ?_
            rintro e w7 ⟨rfl, hB7⟩
            have N1 := lies.on_call M1 hB7
            have N2 := lies.on_call M2 hB7
            have K7 := K4.trans (hB7.mono K4.size)
            have HI := Lib.hid ((hI.below hB7).mono hB7.size)
            clear M1 M2 M3 K4 hI hB7 x0 x1 x2 x3 x4 y0 y1 y2 y3 y4 HCK
            obtain ⟨x0, x1, x2, x3, x4⟩ := lies.two N1
            obtain ⟨y0, y1, y2, y3, y4⟩ := lies.two N2
            go_wp2_with fail
            refine (dkeeps_any n _ _ Ta rs _ HI.out (by rw [HTL.out]; omega) HTO.out ((HRR.out.below K7).mono K7.size) HII.out (by omega)).mono ?_
            rintro e w8 ⟨hB8, r', c', rfl, hc'⟩
            have K8 := K7.trans (hB8.mono K7.size)
            obtain ⟨rfl, rfl⟩ : c' = 0 ∧ r' = r := by
              rcases hc' with ⟨_, _, h⟩ | ⟨_, _, _, _, h⟩ | ⟨h, _, _, _, h'⟩
              · exact (h ⟨HMC.out, HMT.out⟩).elim
              · exact (h HD.out).elim
              · refine ⟨h, Bool.eq_iff_iff.2 (h'.trans (Iff.trans ?_ HRK.out.symm))⟩
                have hkk := kept_same h0 hn HL.out HT.out HM.out.2.2.2 (with_zero HII.out HMT.out).2 (by have := HD.out; simp; omega) HNE.out (fun i j hi hj => by rw [hTa]; exact fine_at HTL.out hn HMC.out.2.2.2 hi hj)
                rw [hTa] at hkk
                exact hkk.symm
            have tb : (r' == r') = true := by simp
            clear hB8 hc' K7 HI HRK
            go_wp2_with fail
            go_ret
            exact ⟨rfl, K8⟩
          · have HCK := Lib.hid (check_no n _ Ta _ hI (by rw [HTL.out]; omega) HTO.out hmc)
            clear hmc
            go_wp2_with fail
            refine HCK.out.mono ?_
            rintro e w7 ⟨rfl, hB7⟩
            have K7 := K4.trans (hB7.mono K4.size)
            clear M1 M2 M3 K4 hI hB7 x0 x1 x2 x3 x4 y0 y1 y2 y3 y4 HCK
            go_wp2_with fail
            go_ret
            exact ⟨rfl, K7⟩
        · have t6 : (c != 0) = true := by simpa using hc0
          go_wp2_with fail
          go_ret
          exact ⟨rfl, K4⟩

theorem walk (n : Int) (sv tv : Value) (ts : List Int) (rs : List (Int × Int)) (w : World) (hI : law.Ints w.heap.size w sv ts) (htop : Tops ts) (hR : Rats w.heap.size w tv rs) (hi : IntsR rs) : Calls Try.prog 6 #[.agg #[.int .i64 n, sv], tv] w fun e w' => e = .returned (.bool true) ∧ Below w.heap.size w w' := by
  by_cases h1 : 1000 < ts.length ∨ (ts.length ≤ 1000 ∧ 100 < rs.length)
  · exact walk_far n sv tv ts rs w hI hR h1
  · by_cases hm : MayD n ts
    · obtain ⟨m, rfl, h0, hn, hl⟩ := may_nat hm
      have hp : 0 < m * m := Nat.mul_pos h0 h0
      rcases hI with ⟨_, rfl⟩ | ⟨b, off, cap, rfl, hb, hc⟩
      · simp at hl; omega
      · rw [hl]
        by_cases he : ∃ k, k ≤ m ∧ emp m (tabs m h0 ts k)
        · obtain ⟨k, hk, he⟩ := he
          exact walk_none m b off cap tv ts rs w h0 hn hc hb htop hm hl hR hi (by omega) k hk he
        · exact walk_some m b off cap tv ts rs w h0 hn hc hb htop hm hl hR hi (by omega) (fun k hk hem => he ⟨k, hk, hem⟩)
    · exact walk_bad n sv tv ts rs w hI htop hR (by omega) (by omega) hm

set_option maxRecDepth 100000 in
theorem lifted (os : Os) (started : os.Started) (H : Type) (enc : TypeId × Value → H) :
    ReturnsInHanded {} Try.checked os 6 .any (Rows.dbmKeptSpec.pre6 enc Try.prog Try.f6 Rows.dbmKeptRow.domain false) (Rows.dbmKeptSpec.post enc Try.prog Try.f6 false true false false) := by
  refine returnsInHanded_of_change (C := Try.checked) law.own started (by kernel_rfl) Try.func6
    (ChangeSpec.witness6 (enc := enc) (C := Try.checked) false ⟨#[], #[.agg #[.int .i64 0, .slice none 0 0], .slice none 0 0], []⟩ 8 (by kernel_rfl) (by kernel_rfl) (by kernel_rfl) (by kernel_rfl)) ?_
  intro W base args ds gs before hval0 hW _ _
  have hval : ∀ (j : Nat) t v, Try.f6.params[j]? = some t → args[j]? = some v → Value.okWide Try.prog W .any base t v := hval0
  have hW' := hW
  obtain ⟨p, q, hA0, hV, rfl, _, _⟩ := hW
  have hA : DataW.TrodAll enc Try.prog W 0 (fun _ => true) true Try.f6.params.toList args.toList ds p := hA0
  rw [Try.params6] at hA hval
  obtain ⟨v0, vs0, d0, ds0, p0, q0, hargs, rfl, rfl, h0, r0⟩ := trodAll_cons hA
  obtain ⟨v1, vs1, d1, ds1, p1, q1, rfl, rfl, rfl, h1, r1⟩ := trodAll_cons r0
  obtain ⟨rfl, rfl, rfl⟩ := trodAll_nil r1
  obtain rfl : args = #[v0, v1] := by cases args; simp_all
  obtain ⟨n, sv, ts, rfl, _, hwf, hI, _⟩ := open_dbm (hval 0 27 v0 rfl rfl) h0
  obtain ⟨rs, hi, hR, _⟩ := open_rats (hval 1 32 v1 rfl rfl) h1
  refine (walk n sv v1 ts rs W hI (fun z hz => law.wf_hi (hwf z hz)) hR hi).mono fun e W' ⟨he, hB⟩ => ?_
  subst he
  exact ⟨_, rfl, law.post_true law.laidOut (by kernel_rfl) rfl Try.underlying4 rfl hW' (fun h => by subst h; rfl) hB⟩

theorem proved : Rows.DbmKeptSaid :=
  OpenClaim.holds_of_wide 6 Try.f6 rfl rfl rfl rfl rfl rfl rfl ⟨rfl, rfl, rfl, rfl, rfl⟩ rfl rfl rfl rfl rfl (by kernel_rfl) Try.func6 (by kernel_rfl)
    (of_decide_eq_true (by kernel_rfl)) (by unfold Func.isWrapper; first | (rw [if_pos (by decide +kernel)]; kernel_rfl) | (rw [if_neg (by decide +kernel)]; exact ⟨rfl, rfl⟩))
    (fun os started H enc _ => lifted os started H enc)
#print axioms proved
end Go.Proofs.Ytlagnbbbokgdfaa.dbmKept
