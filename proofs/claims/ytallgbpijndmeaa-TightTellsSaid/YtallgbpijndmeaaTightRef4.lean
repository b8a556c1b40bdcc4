/-
  What rallentandoref05's Meet and Between answer, at any arguments; each theorem names its conditions.
-/
import Derived.Test.YtallgbpijndmeaaTightRef3
namespace Go.Proofs.Ytallgbpijndmeaa.tref
open Go.ChangeShapes Go.WideShapes Go.ChangeAt Go.RowKit num dbm dref Go.Proofs.Ytallgbpijndmeaa.tight
open bound hiding up
set_option linter.unusedVariables false
set_option linter.unusedSimpArgs false

set_option maxRecDepth 100000 in
set_option maxHeartbeats 2000000 in
theorem meet_bad1 (n m : Int) (sv tv : Value) (ts us : List Int) (w : World) (hI : law.Ints w.heap.size w sv ts) (hJ : law.Ints w.heap.size w tv us) (hm : ts.length ≤ 1000000) (hlo : Low ts) (htop : Tops ts) (h : ¬ MayD n ts) :
    Calls Try.prog 15 #[.agg #[.int .i64 n, sv], .agg #[.int .i64 m, tv]] w (RTells n none 8 w) := by
  obtain ⟨DB, D0, D1, D2⟩ := box3 n m sv tv w
  have C := Lib.hid (may_no ((hI.below DB).mono DB.size) hm hlo htop h)
  obtain ⟨ad, cap, rfl⟩ := ints_len hI
  obtain ⟨bd, dap, rfl⟩ := ints_len hJ
  clear hI hJ htop h hlo
  go_enter Try.func15, Try.ntmps15
  go_wp2_with fail
  refine C.out.mono ?_
  rintro e w1 ⟨rfl, hB1⟩
  have E1 := lies.on_call D2 hB1
  have EB := DB.trans (hB1.mono DB.size)
  clear D0 D1 D2 DB hB1 C
  obtain ⟨x0, x1, x2, x3, x4⟩ := lies.two E1
  go_wp2_with fail
  exact bodyPost_ret (v := .tuple #[.agg #[.int .i64 0, .slice none 0 0], .int .i64 8]) (by simp [results, Try.results15, go_sem, x0, x1]) rfl (RTells.err (ret3 EB (by omega) _ _))

set_option maxRecDepth 100000 in
set_option maxHeartbeats 2000000 in
theorem meet_bad2 (n m : Int) (sv tv : Value) (ts us : List Int) (w : World) (hI : law.Ints w.heap.size w sv ts) (hJ : law.Ints w.heap.size w tv us) (hm : ts.length ≤ 1000000) (hm2 : us.length ≤ 1000000) (hlo : Low ts) (hlu : Low us) (htop : Tops ts) (hto : Tops us) (h : MayD n ts) (k : ¬ MayD m us) :
    Calls Try.prog 15 #[.agg #[.int .i64 n, sv], .agg #[.int .i64 m, tv]] w (RTells n none 8 w) := by
  obtain ⟨DB, D0, D1, D2⟩ := box3 n m sv tv w
  have C := Lib.hid (may_yes ((hI.below DB).mono DB.size) hm hlo htop h)
  have HJ := Lib.hid hJ
  have HT := Lib.hid hto
  have HLU := Lib.hid hlu
  have HK := Lib.hid k
  obtain ⟨ad, cap, rfl⟩ := ints_len hI
  obtain ⟨bd, dap, rfl⟩ := ints_len hJ
  clear hI hJ htop h hto k hlo hlu
  go_enter Try.func15, Try.ntmps15
  go_wp2_with fail
  refine C.out.mono ?_
  rintro e w1 ⟨rfl, hB1⟩
  have E1 := lies.on_call D1 hB1
  have E2 := lies.on_call D2 hB1
  have EB := DB.trans (hB1.mono DB.size)
  clear D0 D1 D2 DB hB1 C
  obtain ⟨x0, x1, x2, x3, x4⟩ := lies.two E1
  go_wp2_with fail
  refine (may_no ((HJ.out.below EB).mono EB.size) hm2 HLU.out HT.out HK.out).mono ?_
  rintro e w2 ⟨rfl, hB2⟩
  have F2 := lies.on_call E2 hB2
  have FB := EB.trans (hB2.mono EB.size)
  clear E1 E2 EB hB2 x0 x1 x2 x3 x4
  obtain ⟨x0, x1, x2, x3, x4⟩ := lies.two F2
  go_wp2_with fail
  exact bodyPost_ret (v := .tuple #[.agg #[.int .i64 0, .slice none 0 0], .int .i64 8]) (by simp [results, Try.results15, go_sem, x0, x1]) rfl (RTells.err (ret3 FB (by omega) _ _))

set_option maxRecDepth 100000 in
set_option maxHeartbeats 2000000 in
theorem meet_dim (n m : Int) (sv tv : Value) (ts us : List Int) (w : World) (hI : law.Ints w.heap.size w sv ts) (hJ : law.Ints w.heap.size w tv us) (hm : ts.length ≤ 1000000) (hm2 : us.length ≤ 1000000) (hlo : Low ts) (hlu : Low us) (htop : Tops ts) (hto : Tops us) (h : MayD n ts) (k : MayD m us) (hnm : n ≠ m) :
    Calls Try.prog 15 #[.agg #[.int .i64 n, sv], .agg #[.int .i64 m, tv]] w (RTells n none 40 w) := by
  obtain ⟨DB, D0, D1, D2⟩ := box3 n m sv tv w
  have C := Lib.hid (may_yes ((hI.below DB).mono DB.size) hm hlo htop h)
  have HJ := Lib.hid hJ
  have HT := Lib.hid hto
  have HLU := Lib.hid hlu
  have HK := Lib.hid k
  have t1 : (n != m) = true := by simpa using hnm
  have t2 : (n == m) = false := by simpa using hnm
  obtain ⟨ad, cap, rfl⟩ := ints_len hI
  obtain ⟨bd, dap, rfl⟩ := ints_len hJ
  clear hI hJ htop h hto k hlo hlu
  go_enter Try.func15, Try.ntmps15
  go_wp2_with fail
  refine C.out.mono ?_
  rintro e w1 ⟨rfl, hB1⟩
  have E0 := lies.on_call D0 hB1
  have E1 := lies.on_call D1 hB1
  have E2 := lies.on_call D2 hB1
  have EB := DB.trans (hB1.mono DB.size)
  clear D0 D1 D2 DB hB1 C
  obtain ⟨x0, x1, x2, x3, x4⟩ := lies.two E1
  go_wp2_with fail
  refine (may_yes ((HJ.out.below EB).mono EB.size) hm2 HLU.out HT.out HK.out).mono ?_
  rintro e w2 ⟨rfl, hB2⟩
  have F0 := lies.on_call E0 hB2
  have F1 := lies.on_call E1 hB2
  have F2 := lies.on_call E2 hB2
  have FB := EB.trans (hB2.mono EB.size)
  clear E0 E1 E2 EB hB2 x0 x1 x2 x3 x4
  obtain ⟨x0, x1, x2, x3, x4⟩ := lies.two F0
  obtain ⟨y0, y1, y2, y3, y4⟩ := lies.two F1
  obtain ⟨z0, z1, z2, z3, z4⟩ := lies.two F2
  go_wp2_with fail
  exact bodyPost_ret (v := .tuple #[.agg #[.int .i64 0, .slice none 0 0], .int .i64 40]) (by simp [results, Try.results15, go_sem, z0, z1]) rfl (RTells.err (ret3 FB (by omega) _ _))

set_option maxRecDepth 100000 in
set_option maxHeartbeats 4000000 in
theorem meet_ok (n b off cap c pff dap : Nat) (ts us : List Int) (w : World) (h0 : 0 < n) (hn : n ≤ 4) (hr : Row w b off ts) (hb : b < w.heap.size) (hs : Row w c pff us) (hc : c < w.heap.size) (hlo : Low ts) (hlu : Low us) (htop : Tops ts) (hto : Tops us) (h : MayD n ts) (k : MayD n us) (hl : ts.length = n * n) (hu : us.length = n * n) :
    Calls Try.prog 15 #[.agg #[.int .i64 n, .slice (some ⟨b, off, none⟩) (n * n) cap], .agg #[.int .i64 n, .slice (some ⟨c, pff, none⟩) (n * n) dap]] w (RTells n (some (lesT ts us)) 8 w) := by
  have hpp : 0 < n * n := Nat.mul_pos h0 h0
  have hsq := sq_le hn
  obtain ⟨DB, D0, D1, D2⟩ := box3 n n (.slice (some ⟨b, off, none⟩) (n * n) cap) (.slice (some ⟨c, pff, none⟩) (n * n) dap) w
  have hI : law.Ints w.heap.size w (.slice (some ⟨b, off, none⟩) (n * n) cap) ts := .inr ⟨b, off, cap, by rw [hl], hb, hr⟩
  have hJ : law.Ints w.heap.size w (.slice (some ⟨c, pff, none⟩) (n * n) dap) us := .inr ⟨c, pff, dap, by rw [hu], hc, hs⟩
  have C := Lib.hid (may_yes ((hI.below DB).mono DB.size) (by omega) hlo htop h)
  have HJ := Lib.hid hJ
  have HI := Lib.hid hI
  have HH := Lib.hid h
  have HLO := Lib.hid hlu
  have HT := Lib.hid htop
  have HU := Lib.hid hto
  have HK := Lib.hid k
  have HL := Lib.hid hl
  have HLU := Lib.hid hu
  have HR := Lib.hid hr
  have HS := Lib.hid hs
  clear hI hJ htop h hto k hl hu hr hs hlo hlu
  go_enter Try.func15, Try.ntmps15
  go_wp2_with fail
  refine C.out.mono ?_
  rintro e w1 ⟨rfl, hB1⟩
  have E0 := lies.on_call D0 hB1
  have E1 := lies.on_call D1 hB1
  have E2 := lies.on_call D2 hB1
  have EB := DB.trans (hB1.mono DB.size)
  clear D0 D1 D2 DB hB1 C
  obtain ⟨x0, x1, x2, x3, x4⟩ := lies.two E1
  go_wp2_with fail
  refine (may_yes ((HJ.out.below EB).mono EB.size) (by rw [HLU.out]; omega) HLO.out HU.out HK.out).mono ?_
  rintro e w2 ⟨rfl, hB2⟩
  have F0 := lies.on_call E0 hB2
  have F1 := lies.on_call E1 hB2
  have F2 := lies.on_call E2 hB2
  have FB := EB.trans (hB2.mono EB.size)
  clear E0 E1 E2 EB hB2 x0 x1 x2 x3 x4
  obtain ⟨x0, x1, x2, x3, x4⟩ := lies.two F0
  obtain ⟨y0, y1, y2, y3, y4⟩ := lies.two F1
  go_wp2_with fail
  have hM := lesT_may HH.out HK.out
  have R2 := (HS.out.below FB hc)
  have C2 := Lib.hid (common_is n _ c pff dap ts us w2 h0 hn ((HI.out.below FB).mono FB.size) R2 (Nat.lt_of_lt_of_le hc FB.size) HL.out HLU.out HT.out hM)
  have HMM := Lib.hid hM
  clear hM R2 x0 x1 x2 x3 x4 y0 y1 y2 y3 y4
  refine C2.out.mono ?_
  intro e w6 hCm
  obtain ⟨hB, na, a, l, c', vs, bl, rfl, hCR, hO6⟩ := comm_one hCm
  have hb5 := FB.size
  have hlt5 := lies.lt F2
  replace F2 := lies.on_call F2 hB
  replace FB := FB.trans (hB.mono FB.size)
  have HCR := Lib.hid hCR
  have HO6 := Lib.hid hO6
  clear hB hCm C2 F0 F1 hCR hO6
  go_wp2_with fail
  refine (told_any HCR.out HMM.out a l c' _ w6 HO6.out).mono ?_
  rintro e w7 ⟨hB, nb, a', l', c'', us', f, rfl, hA, hO7⟩
  replace F2 := lies.on_call F2 hB
  replace FB := FB.trans (hB.mono FB.size)
  have HA := Lib.hid hA
  have HO7 := Lib.hid hO7
  clear hB hA hO7 HCR HO6
  obtain ⟨x0, x1, x2, x3, x4⟩ := lies.two F2
  go_wp2_with fail
  refine bodyPost_ret (v := .tuple #[.agg #[.int .i64 nb, .slice a' l' c''], .int .i64 f]) (by simp [results, Try.results15, go_sem, x0, x1]) rfl ⟨ret3 FB (by omega) _ _, nb, a', l', c'', us', f, rfl, .inr ⟨_, rfl, HA.out⟩, ?_⟩
  exact Go.Joins.ownsRow_le (dref.own_other (dref.own_other HO7.out (p := ⟨w.heap.size + 1 + 1, 0, none⟩) hlt5 _) (p := ⟨w.heap.size + 1 + 1, 1, none⟩) hlt5 _) hb5

theorem meet_any (n m : Int) (sv tv : Value) (ts us : List Int) (w : World) (hI : law.Ints w.heap.size w sv ts) (hJ : law.Ints w.heap.size w tv us) (hm : ts.length ≤ 1000000) (hm2 : us.length ≤ 1000000) (hlo : Low ts) (hlu : Low us) (htop : Tops ts) (hto : Tops us) :
    Calls Try.prog 15 #[.agg #[.int .i64 n, sv], .agg #[.int .i64 m, tv]] w (RTells n (meetQ n m ts us) (meetE n m ts us) w) := by
  by_cases h : MayD n ts
  · by_cases k : MayD m us
    · have e1 : meetE n m ts us = 40 := if_pos ⟨h, k⟩
      by_cases hnm : n = m
      · subst hnm
        have e2 : meetQ n n ts us = some (lesT ts us) := if_pos ⟨h, k, rfl⟩
        rw [e1, e2]
        obtain ⟨q, rfl, h0, hn, hl⟩ := may_nat h
        have hpp : 0 < q * q := Nat.mul_pos h0 h0
        have hu : us.length = q * q := by
          have := k.2.2.1
          rw [← Int.natCast_mul] at this
          exact Int.ofNat.inj this
        rcases hI with ⟨_, rfl⟩ | ⟨b, off, cap, rfl, hb, hr⟩
        · simp at hl; omega
        · rcases hJ with ⟨_, rfl⟩ | ⟨c, pff, dap, rfl, hc, hs⟩
          · simp at hu; omega
          · rw [hl, hu]
            refine (meet_ok q b off cap c pff dap ts us w h0 hn hr hb hs hc hlo hlu htop hto h k hl hu).mono ?_
            rintro e w' ⟨hB, na, aa, la, ca, vs, f, rfl, hR, hK⟩
            refine ⟨hB, na, aa, la, ca, vs, f, rfl, ?_, hK⟩
            rcases hR with ⟨h, _⟩ | h
            · cases h
            · exact .inr h
      · have e2 : meetQ n m ts us = none := if_neg (fun x => hnm x.2.2)
        rw [e1, e2]
        exact meet_dim n m sv tv ts us w hI hJ hm hm2 hlo hlu htop hto h k hnm
    · have e1 : meetE n m ts us = 8 := if_neg (fun x => k x.2)
      have e2 : meetQ n m ts us = none := if_neg (fun x => k x.2.1)
      rw [e1, e2]
      exact meet_bad2 n m sv tv ts us w hI hJ hm hm2 hlo hlu htop hto h k
  · have e1 : meetE n m ts us = 8 := if_neg (fun x => h x.1)
    have e2 : meetQ n m ts us = none := if_neg (fun x => h x.1)
    rw [e1, e2]
    exact meet_bad1 n m sv tv ts us w hI hJ hm hlo htop h
end Go.Proofs.Ytallgbpijndmeaa.tref
