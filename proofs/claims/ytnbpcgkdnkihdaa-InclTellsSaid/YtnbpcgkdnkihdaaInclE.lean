/-
  In and Apart, as package incl answers them; each theorem names its conditions.
-/
import Derived.Test.YtnbpcgkdnkihdaaInclA
namespace Go.Proofs.Ytnbpcgkdnkihdaa.incl
open Go.ChangeShapes Go.WideShapes Go.ChangeAt Go.RowKit num rat dbm way
open bound hiding up
set_option linter.unusedVariables false
set_option linter.unusedSimpArgs false

/-- does the one lie in the other one, of as many clocks? -/
def inV (n : Int) (ts us : List Int) : Prop := OkD n ts → ∀ p, p < ts.length → (clT n ts)[p]?.getD 0 ≤ us[p]?.getD 0
/-- have two nothing in common? -/
def apV (n : Int) (ts us : List Int) : Prop := ¬ OkD n (lesT ts us)
/-- a call that answers so, or not. -/
def Tell (V : Prop) (w : World) (e : Ending) (w' : World) : Prop := Below w.heap.size w w' ∧ ∃ r : Bool, e = .returned (.bool r) ∧ (r = true ↔ V)
set_option maxRecDepth 100000 in
set_option maxHeartbeats 2000000 in
theorem within_is (n b off cap c pff dap : Nat) (ts us : List Int) (w : World) (h0 : 0 < n) (hn : n ≤ 4) (hr : Row w b off ts) (hb : b < w.heap.size) (hs : Row w c pff us) (hc : c < w.heap.size) (htop : Tops ts) (h : MayD n ts) (hl : ts.length = n * n) (hu : us.length = n * n) :
    Calls Try.prog 33 #[.agg #[.int .i64 n, .slice (some ⟨b, off, none⟩) (n * n) cap, .int .i64 n, .slice (some ⟨c, pff, none⟩) (n * n) dap]] w (Tell (inV n ts us) w) := by
  have hpp : 0 < n * n := Nat.mul_pos h0 h0
  have hsq := sq_le hn
  have D0 := lies.made w 53 #[.int .i64 n, .slice (some ⟨b, off, none⟩) (n * n) cap, .int .i64 n, .slice (some ⟨c, pff, none⟩) (n * n) dap]
  have DB := bound.up1 w (.cells #[.int .i64 n, .slice (some ⟨b, off, none⟩) (n * n) cap, .int .i64 n, .slice (some ⟨c, pff, none⟩) (n * n) dap] 53)
  have hI : law.Ints w.heap.size w (.slice (some ⟨b, off, none⟩) (n * n) cap) ts := .inr ⟨b, off, cap, by rw [hl], hb, hr⟩
  have C := Lib.hid (tight.close_g n _ ts _ ((hI.below DB).mono DB.size) (by omega) htop)
  have HS := Lib.hid hs
  have HM := Lib.hid h
  have HL := Lib.hid hl
  have HU := Lib.hid hu
  clear hI hr hs htop h hl hu
  go_enter Try.func33, Try.ntmps33
  go_wp2_with fail
  generalize w.alloc (.cells #[.int .i64 n, .slice (some ⟨b, off, none⟩) (n * n) cap, .int .i64 n, .slice (some ⟨c, pff, none⟩) (n * n) dap] 53) = w0 at D0 DB C ⊢
  refine C.out.mono ?_
  rintro e w1 ⟨hB, na, aa, la, ca, cs, f, rfl, hA, hK⟩
  have HA := Lib.hid hA
  have HK := Lib.hid (hK.below (bound.up1 w1 (.cells #[.int .i64 na, .slice aa la ca] 27)))
  have E0 := lies.on_alloc (lies.on_call D0 hB) (.cells #[.int .i64 na, .slice aa la ca] 27)
  have EC := lies.made w1 27 #[.int .i64 na, .slice aa la ca]
  have EB := lies.frame_up (later DB hB) (.cells #[.int .i64 na, .slice aa la ca] 27)
  clear D0 DB hB hA hK C
  have hcases : (f = 6 ∧ ¬ OkD n ts) ∨ (f = 0 ∧ OkD n ts ∧ cs = clT n ts) := by
    rcases HA.out with ⟨k, _, _, h⟩ | ⟨k, _, h1, h2⟩
    · exact .inl ⟨by rw [h, if_pos HM.out], k⟩
    · exact .inr ⟨h2, k, h1⟩
  rcases hcases with ⟨rfl, hno⟩ | ⟨rfl, hok, hcs⟩
  · clear HA HK EC E0
    have HNO := Lib.hid hno
    clear hno
    go_wp2_with fail
    go_ret
    exact ⟨EB, true, rfl, fun _ h => (HNO.out h).elim, fun _ => rfl⟩
  · obtain ⟨g, rfl, rfl, hG⟩ : ∃ g, aa = some ⟨g, 0, none⟩ ∧ la = n * n ∧ lies.Lies (w1.alloc (.cells #[.int .i64 na, .slice aa la ca] 27)) g 29 (cellsOf cs) := by
      have hlen : cs.length = n * n := by rw [hcs]; exact (clT_length hok).trans HL.out
      rcases HK.out with ⟨_, _, _, k⟩ | ⟨g, h1, h2, h3, h4⟩
      · rw [k] at hlen; simp at hlen; omega
      · exact ⟨g, h2, h3.trans hlen, h4⟩
    have hR := row_of hG
    have hlen : cs.length = n * n := by rw [hcs]; exact (clT_length hok).trans HL.out
    have HOK := Lib.hid hok
    have HCS := Lib.hid hcs
    have HR := Lib.hid hR
    have HLEN := Lib.hid hlen
    have hgl := lies.lt hG
    clear HA HK hok hcs hR hlen hG
    obtain ⟨x0, x1, x2, x3, x4⟩ := four E0
    obtain ⟨y0, y1, y2, y3, y4⟩ := lies.two EC
    go_wp2_with fail
    clear x0 x1 x2 x3 x4 y0 y1 y2 y3 y4
    generalize w1.heap.size = CB at EC ⊢
    generalize w1.alloc (.cells #[.int .i64 na, .slice (some ⟨g, 0, none⟩) (n * n) ca] 27) = w2 at E0 EC EB HR hgl ⊢
    have HSS := Lib.hid (HS.out.below EB hc)
    have hcl := Nat.lt_of_lt_of_le hc EB.size
    go_loopw [18] (fun iv wr => ∃ k : Nat, k ≤ n * n ∧ iv = .int .i64 k ∧ wr = w2 ∧ ∀ p, p < k → cs[p]?.getD 0 ≤ us[p]?.getD 0) (fun iv _ => n * n - (intOf iv).toNat)
    case atStart => exact ⟨0, Nat.zero_le _, rfl, rfl, fun p hp => absurd hp (Nat.not_lt_zero p)⟩
    case round =>
      obtain ⟨k, hk, rfl, rfl, hA⟩ := hrel
      by_cases hkn : k < n * n
      · have m1 := HR.out k (by rw [HLEN.out]; exact hkn)
        have m2 := HSS.out k (by rw [HU.out]; exact hkn)
        rw [Nat.zero_add] at m1
        have HAA := Lib.hid hA
        clear hA
        obtain ⟨x0, x1, x2, x3, x4⟩ := four E0
        by_cases hle : cs[k]?.getD 0 ≤ us[k]?.getD 0
        · have HLE := Lib.hid hle
          have hng : ¬ us[k]?.getD 0 < cs[k]?.getD 0 := by omega
          clear hle
          go_wp2_with fail
          go_roundw
          case rel =>
            refine ⟨k + 1, by omega, by go_num, (by simp), fun p hp => ?_⟩
            by_cases e : p = k
            · subst e; exact HLE.out
            · exact HAA.out p (by omega)
          case measure => simp [intOf]; omega
        · have hg : us[k]?.getD 0 < cs[k]?.getD 0 := by omega
          have HG := Lib.hid hle
          clear hle
          go_wp2_with fail
          go_ret
          refine ⟨EB, false, rfl, fun h => (by cases h), fun h => ?_⟩
          have := h HOK.out k (by rw [HL.out]; exact hkn)
          rw [← HCS.out] at this
          have := HG.out
          omega
      · obtain rfl : k = n * n := by omega
        have HAA := Lib.hid hA
        clear hA
        go_wp2_with fail
        go_ret
        refine ⟨EB, true, rfl, fun _ _ p hp => ?_, fun _ => rfl⟩
        rw [← HCS.out]
        exact HAA.out p (by rw [HL.out] at hp; exact hp)

set_option maxRecDepth 100000 in
set_option maxHeartbeats 2000000 in
theorem apart_is (n : Nat) (sv tv : Value) (ts us : List Int) (w : World) (hI : law.Ints w.heap.size w sv ts) (hJ : law.Ints w.heap.size w tv us) (hm : ts.length ≤ 1000000) (hm2 : us.length ≤ 1000000) (htop : Tops ts) (hto : Tops us) (h : MayD n ts) (k : MayD n us) :
    Calls Try.prog 27 #[.agg #[.int .i64 n, sv, .int .i64 n, tv]] w (Tell (apV n ts us) w) := by
  have D0 := lies.made w 53 #[.int .i64 n, sv, .int .i64 n, tv]
  have DB := bound.up1 w (.cells #[.int .i64 n, sv, .int .i64 n, tv] 53)
  have C := Lib.hid (tight.meet_any n n sv tv ts us _ ((hI.below DB).mono DB.size) ((hJ.below DB).mono DB.size) hm hm2 htop hto)
  obtain ⟨ad, cap, rfl⟩ := ints_len hI
  obtain ⟨bd, dap, rfl⟩ := ints_len hJ
  have e2 : tight.meetQ n n ts us = some (lesT ts us) := if_pos ⟨h, k, rfl⟩
  have HQ := Lib.hid e2
  have HM := Lib.hid (lesT_may h k)
  clear hI hJ htop hto h k e2
  go_enter Try.func27, Try.ntmps27
  go_wp2_with fail
  refine C.out.mono ?_
  rintro e w1 ⟨hB, na, aa, la, ca, cs, f, rfl, hR, hK⟩
  have hf : (f = 6 ∧ ¬ OkD n (lesT ts us)) ∨ (f = 0 ∧ OkD n (lesT ts us)) := by
    rcases hR with ⟨h, _⟩ | ⟨qs, h, hA⟩
    · rw [HQ.out] at h; cases h
    · rw [HQ.out] at h
      cases h
      rcases hA with ⟨k, _, _, h⟩ | ⟨k, _, _, h⟩
      · exact .inl ⟨by rw [h, if_pos HM.out], k⟩
      · exact .inr ⟨h, k⟩
  have EB := lies.frame_up (later DB hB) (.cells #[.int .i64 na, .slice aa la ca] 27)
  clear hR hK hB D0 DB C
  rcases hf with ⟨rfl, h⟩ | ⟨rfl, h⟩
  · have HH := Lib.hid h
    clear h
    go_wp2_with fail
    go_ret
    exact ⟨EB, true, rfl, fun _ => HH.out, fun _ => rfl⟩
  · have HH := Lib.hid h
    clear h
    go_wp2_with fail
    go_ret
    exact ⟨EB, false, rfl, fun h => (by cases h), fun h => (h HH.out).elim⟩

/-- what In and Apart answer: whether V, of two that may be. -/
def Asks (n m : Int) (ts us : List Int) (V : Prop) (w : World) (e : Ending) (w' : World) : Prop := Below w.heap.size w w' ∧ ∃ (r : Bool) (f : Int), e = .returned (.tuple #[.bool r, .int .i64 f]) ∧
  ((¬ (MayD n ts ∧ MayD m us) ∧ r = false ∧ f = 8) ∨ (MayD n ts ∧ MayD m us ∧ n ≠ m ∧ r = false ∧ f = 40) ∨ (MayD n ts ∧ MayD m us ∧ n = m ∧ (r = true ↔ V) ∧ f = 0))
set_option maxRecDepth 100000 in
set_option maxHeartbeats 2000000 in
theorem in_ask (V : Prop) (n m : Int) (sv tv : Value) (ts us : List Int) (w : World) (hI : law.Ints w.heap.size w sv ts) (hJ : law.Ints w.heap.size w tv us) (hm : ts.length ≤ 1000000) (hm2 : us.length ≤ 1000000) (htop : Tops ts) (hto : Tops us)
    (hV : MayD n ts → MayD m us → n = m → ∀ W, Below w.heap.size w W → Calls Try.prog 33 #[.agg #[.int .i64 n, sv, .int .i64 m, tv]] W (Tell V W)) :
    Calls Try.prog 26 #[.agg #[.int .i64 n, sv, .int .i64 m, tv], .func (.func 33) #[.agg #[.int .i64 n, sv, .int .i64 m, tv]] #[]] w (Asks n m ts us V w) := by
  have D0 := lies.made w 53 #[.int .i64 n, sv, .int .i64 m, tv]
  have DB := bound.up1 w (.cells #[.int .i64 n, sv, .int .i64 m, tv] 53)
  have HI := Lib.hid hI
  have HJ := Lib.hid hJ
  have HT := Lib.hid htop
  have HO := Lib.hid hto
  have HV := Lib.hid hV
  obtain ⟨ad, cap, rfl⟩ := ints_len hI
  obtain ⟨bd, dap, rfl⟩ := ints_len hJ
  clear hI hJ htop hto hV
  go_enter Try.func26, Try.ntmps26
  go_wp2_with fail
  generalize w.alloc (.cells #[.int .i64 n, .slice ad ts.length cap, .int .i64 m, .slice bd us.length dap] 53) = w0 at D0 DB ⊢
  by_cases h : MayD n ts
  · have H := Lib.hid h
    clear h
    refine (check_ok n _ ts _ ((HI.out.below DB).mono DB.size) HT.out H.out).mono ?_
    rintro e w1 ⟨rfl, hB⟩
    replace D0 := lies.on_call D0 hB
    replace DB := later DB hB
    clear hB
    obtain ⟨x0, x1, x2, x3, x4⟩ := four D0
    go_wp2_with fail
    clear x0 x1 x2 x3 x4
    by_cases k : MayD m us
    · have K := Lib.hid k
      clear k
      refine (check_ok m _ us _ ((HJ.out.below DB).mono DB.size) HO.out K.out).mono ?_
      rintro e w2 ⟨rfl, hB⟩
      replace D0 := lies.on_call D0 hB
      replace DB := later DB hB
      clear hB
      obtain ⟨x0, x1, x2, x3, x4⟩ := four D0
      by_cases hnm : n = m
      · subst hnm
        go_wp2_with fail
        clear x0 x1 x2 x3 x4
        refine (HV.out H.out K.out (by simp) _ DB).mono ?_
        rintro e w3 ⟨hB, r, rfl, hr⟩
        have EB := later DB hB
        have HR := Lib.hid hr
        clear hB DB D0 hr
        go_wp2_with fail
        exact bodyPost_ret (v := .tuple #[.bool r, .int .i64 0]) (by simp [results, Try.results26, go_sem]) rfl ⟨EB, r, 0, rfl, .inr (.inr ⟨H.out, K.out, rfl, HR.out, rfl⟩)⟩
      · have t1 : (n != m) = true := by simpa using hnm
        have t2 : (n == m) = false := by simpa using hnm
        have HN := Lib.hid hnm
        clear hnm
        go_wp2_with fail
        exact bodyPost_ret (v := .tuple #[.bool false, .int .i64 40]) (by simp [results, Try.results26, go_sem]) rfl ⟨DB, false, 40, rfl, .inr (.inl ⟨H.out, K.out, HN.out, rfl, rfl⟩)⟩
    · have K := Lib.hid k
      clear k
      refine (check_no m _ us _ ((HJ.out.below DB).mono DB.size) hm2 HO.out K.out).mono ?_
      rintro e w2 ⟨rfl, hB⟩
      replace DB := later DB hB
      clear hB D0
      go_wp2_with fail
      exact bodyPost_ret (v := .tuple #[.bool false, .int .i64 8]) (by simp [results, Try.results26, go_sem]) rfl ⟨DB, false, 8, rfl, .inl ⟨fun h => K.out h.2, rfl, rfl⟩⟩
  · have H := Lib.hid h
    clear h
    refine (check_no n _ ts _ ((HI.out.below DB).mono DB.size) hm HT.out H.out).mono ?_
    rintro e w2 ⟨rfl, hB⟩
    replace DB := later DB hB
    clear hB D0
    go_wp2_with fail
    exact bodyPost_ret (v := .tuple #[.bool false, .int .i64 8]) (by simp [results, Try.results26, go_sem]) rfl ⟨DB, false, 8, rfl, .inl ⟨fun h => H.out h.1, rfl, rfl⟩⟩
set_option maxRecDepth 100000 in
set_option maxHeartbeats 2000000 in
theorem in_any (n m : Int) (sv tv : Value) (ts us : List Int) (w : World) (hI : law.Ints w.heap.size w sv ts) (hJ : law.Ints w.heap.size w tv us) (hm : ts.length ≤ 1000000) (hm2 : us.length ≤ 1000000) (htop : Tops ts) (hto : Tops us) :
    Calls Try.prog 13 #[.agg #[.int .i64 n, sv], .agg #[.int .i64 m, tv]] w (Asks n m ts us (inV n ts us) w) := by
  have D2 := lies.made ((w.alloc (.cells #[.int .i64 n, sv] 27)).alloc (.cells #[.int .i64 m, tv] 27)) 53 #[.int .i64 n, sv, .int .i64 m, tv]
  have DB := bound.up3 w (.cells #[.int .i64 n, sv] 27) (.cells #[.int .i64 m, tv] 27) (.cells #[.int .i64 n, sv, .int .i64 m, tv] 53)
  have C := Lib.hid (in_ask (inV n ts us) n m sv tv ts us _ ((hI.below DB).mono DB.size) ((hJ.below DB).mono DB.size) hm hm2 htop hto (fun h k e W hW => by
    subst e
    obtain ⟨q, rfl, h0, hn, hl⟩ := may_nat h
    have hpp : 0 < q * q := Nat.mul_pos h0 h0
    have hu : us.length = q * q := by
      have := k.2.2.1
      rw [← Int.natCast_mul] at this
      exact Int.ofNat.inj this
    have hI' := (hI.below DB).mono DB.size
    have hJ' := (hJ.below DB).mono DB.size
    rcases ((hI'.below hW).mono hW.size) with ⟨_, rfl⟩ | ⟨b, off, cap, rfl, hb, hr⟩
    · simp at hl; omega
    · rcases ((hJ'.below hW).mono hW.size) with ⟨_, rfl⟩ | ⟨c, pff, dap, rfl, hc, hs⟩
      · simp at hu; omega
      · rw [hl, hu]
        exact within_is q b off cap c pff dap ts us W h0 hn hr hb hs hc htop h hl hu))
  obtain ⟨ad, cap, rfl⟩ := ints_len hI
  obtain ⟨bd, dap, rfl⟩ := ints_len hJ
  clear hI hJ htop hto
  go_enter Try.func13, Try.ntmps13
  go_wp2_with fail
  refine C.out.mono ?_
  rintro e w1 ⟨hB, r, f, rfl, hr⟩
  have EB := later DB hB
  have HR := Lib.hid hr
  clear hB DB D2 hr C
  go_wp2_with fail
  exact bodyPost_ret (v := .tuple #[.bool r, .int .i64 f]) (by simp [results, Try.results13, go_sem]) rfl ⟨EB, r, f, rfl, HR.out⟩
set_option maxRecDepth 100000 in
set_option maxHeartbeats 2000000 in
theorem ap_ask (V : Prop) (n m : Int) (sv tv : Value) (ts us : List Int) (w : World) (hI : law.Ints w.heap.size w sv ts) (hJ : law.Ints w.heap.size w tv us) (hm : ts.length ≤ 1000000) (hm2 : us.length ≤ 1000000) (htop : Tops ts) (hto : Tops us)
    (hV : MayD n ts → MayD m us → n = m → ∀ W, Below w.heap.size w W → Calls Try.prog 27 #[.agg #[.int .i64 n, sv, .int .i64 m, tv]] W (Tell V W)) :
    Calls Try.prog 26 #[.agg #[.int .i64 n, sv, .int .i64 m, tv], .func (.func 27) #[.agg #[.int .i64 n, sv, .int .i64 m, tv]] #[]] w (Asks n m ts us V w) := by
  have D0 := lies.made w 53 #[.int .i64 n, sv, .int .i64 m, tv]
  have DB := bound.up1 w (.cells #[.int .i64 n, sv, .int .i64 m, tv] 53)
  have HI := Lib.hid hI
  have HJ := Lib.hid hJ
  have HT := Lib.hid htop
  have HO := Lib.hid hto
  have HV := Lib.hid hV
  obtain ⟨ad, cap, rfl⟩ := ints_len hI
  obtain ⟨bd, dap, rfl⟩ := ints_len hJ
  clear hI hJ htop hto hV
  go_enter Try.func26, Try.ntmps26
  go_wp2_with fail
  generalize w.alloc (.cells #[.int .i64 n, .slice ad ts.length cap, .int .i64 m, .slice bd us.length dap] 53) = w0 at D0 DB ⊢
  by_cases h : MayD n ts
  · have H := Lib.hid h
    clear h
    refine (check_ok n _ ts _ ((HI.out.below DB).mono DB.size) HT.out H.out).mono ?_
    rintro e w1 ⟨rfl, hB⟩
    replace D0 := lies.on_call D0 hB
    replace DB := later DB hB
    clear hB
    obtain ⟨x0, x1, x2, x3, x4⟩ := four D0
    go_wp2_with fail
    clear x0 x1 x2 x3 x4
    by_cases k : MayD m us
    · have K := Lib.hid k
      clear k
      refine (check_ok m _ us _ ((HJ.out.below DB).mono DB.size) HO.out K.out).mono ?_
      rintro e w2 ⟨rfl, hB⟩
      replace D0 := lies.on_call D0 hB
      replace DB := later DB hB
      clear hB
      obtain ⟨x0, x1, x2, x3, x4⟩ := four D0
      by_cases hnm : n = m
      · subst hnm
        go_wp2_with fail
        clear x0 x1 x2 x3 x4
        refine (HV.out H.out K.out (by simp) _ DB).mono ?_
        rintro e w3 ⟨hB, r, rfl, hr⟩
        have EB := later DB hB
        have HR := Lib.hid hr
        clear hB DB D0 hr
        go_wp2_with fail
        exact bodyPost_ret (v := .tuple #[.bool r, .int .i64 0]) (by simp [results, Try.results26, go_sem]) rfl ⟨EB, r, 0, rfl, .inr (.inr ⟨H.out, K.out, rfl, HR.out, rfl⟩)⟩
      · have t1 : (n != m) = true := by simpa using hnm
        have t2 : (n == m) = false := by simpa using hnm
        have HN := Lib.hid hnm
        clear hnm
        go_wp2_with fail
        exact bodyPost_ret (v := .tuple #[.bool false, .int .i64 40]) (by simp [results, Try.results26, go_sem]) rfl ⟨DB, false, 40, rfl, .inr (.inl ⟨H.out, K.out, HN.out, rfl, rfl⟩)⟩
    · have K := Lib.hid k
      clear k
      refine (check_no m _ us _ ((HJ.out.below DB).mono DB.size) hm2 HO.out K.out).mono ?_
      rintro e w2 ⟨rfl, hB⟩
      replace DB := later DB hB
      clear hB D0
      go_wp2_with fail
      exact bodyPost_ret (v := .tuple #[.bool false, .int .i64 8]) (by simp [results, Try.results26, go_sem]) rfl ⟨DB, false, 8, rfl, .inl ⟨fun h => K.out h.2, rfl, rfl⟩⟩
  · have H := Lib.hid h
    clear h
    refine (check_no n _ ts _ ((HI.out.below DB).mono DB.size) hm HT.out H.out).mono ?_
    rintro e w2 ⟨rfl, hB⟩
    replace DB := later DB hB
    clear hB D0
    go_wp2_with fail
    exact bodyPost_ret (v := .tuple #[.bool false, .int .i64 8]) (by simp [results, Try.results26, go_sem]) rfl ⟨DB, false, 8, rfl, .inl ⟨fun h => H.out h.1, rfl, rfl⟩⟩
set_option maxRecDepth 100000 in
set_option maxHeartbeats 2000000 in
theorem ap_any (n m : Int) (sv tv : Value) (ts us : List Int) (w : World) (hI : law.Ints w.heap.size w sv ts) (hJ : law.Ints w.heap.size w tv us) (hm : ts.length ≤ 1000000) (hm2 : us.length ≤ 1000000) (htop : Tops ts) (hto : Tops us) :
    Calls Try.prog 9 #[.agg #[.int .i64 n, sv], .agg #[.int .i64 m, tv]] w (Asks n m ts us (apV n ts us) w) := by
  have D2 := lies.made ((w.alloc (.cells #[.int .i64 n, sv] 27)).alloc (.cells #[.int .i64 m, tv] 27)) 53 #[.int .i64 n, sv, .int .i64 m, tv]
  have DB := bound.up3 w (.cells #[.int .i64 n, sv] 27) (.cells #[.int .i64 m, tv] 27) (.cells #[.int .i64 n, sv, .int .i64 m, tv] 53)
  have C := Lib.hid (ap_ask (apV n ts us) n m sv tv ts us _ ((hI.below DB).mono DB.size) ((hJ.below DB).mono DB.size) hm hm2 htop hto (fun h k e W hW => by
    subst e
    obtain ⟨q, rfl, h0, hn, hl⟩ := may_nat h
    have hI' := (hI.below DB).mono DB.size
    have hJ' := (hJ.below DB).mono DB.size
    exact apart_is q sv tv ts us W ((hI'.below hW).mono hW.size) ((hJ'.below hW).mono hW.size) hm hm2 htop hto h k))
  obtain ⟨ad, cap, rfl⟩ := ints_len hI
  obtain ⟨bd, dap, rfl⟩ := ints_len hJ
  clear hI hJ htop hto
  go_enter Try.func9, Try.ntmps9
  go_wp2_with fail
  refine C.out.mono ?_
  rintro e w1 ⟨hB, r, f, rfl, hr⟩
  have EB := later DB hB
  have HR := Lib.hid hr
  clear hB DB D2 hr C
  go_wp2_with fail
  exact bodyPost_ret (v := .tuple #[.bool r, .int .i64 f]) (by simp [results, Try.results9, go_sem]) rfl ⟨EB, r, f, rfl, HR.out⟩
end Go.Proofs.Ytnbpcgkdnkihdaa.incl
