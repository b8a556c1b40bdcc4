/-
  The document's own calls of zones: what each answers; each theorem names its conditions.
-/
import Derived.Test.YtklejbheieceeaaGreatDoorZoneR
import Derived.Test.YtklejbheieceeaaGreatDoorInclD
import Derived.Test.YtklejbheieceeaaGreatDoorDbmE
import Derived.Test.YtklejbheieceeaaGreatDoorZoneC
namespace Go.Proofs.YtklejbheieceeaaGreatDoor.zref
open Go.Joins Go.ChangeShapes Go.WideShapes Go.ChangeAt Go.RowKit num rat dbm Go.Proofs.YtklejbheieceeaaGreatDoor.tight Go.Proofs.YtklejbheieceeaaGreatDoor.incl Go.Proofs.YtklejbheieceeaaGreatDoor.plaw Go.Proofs.YtklejbheieceeaaGreatDoor.zopen Go.Proofs.YtklejbheieceeaaGreatDoor.zone dref
open bound hiding up
set_option linter.unusedVariables false
set_option linter.unusedSimpArgs false


theorem bool_not {r : Bool} {p : Prop} (h : r = true ↔ p) (k : ¬ p) : r = false := by
  cases r
  · rfl
  · exact (k (h.1 rfl)).elim

set_option maxRecDepth 100000 in
set_option maxHeartbeats 4000000 in
theorem rmay_any (z0 z1 z2 z3 z4 z5 : Int) (w : World) (hlo : Low [z0, z1, z2, z3, z4, z5]) (htop : Tops [z0, z1, z2, z3, z4, z5]) : Calls Tryz.prog 30 #[.agg #[.int .i64 z0, .int .i64 z1, .int .i64 z2, .int .i64 z3, .int .i64 z4, .int .i64 z5]] w (Tell (MayZ [z0, z1, z2, z3, z4, z5]) w) := by
  have DB := bound.up1 w (.cells #[.int .i64 z0, .int .i64 z1, .int .i64 z2, .int .i64 z3, .int .i64 z4, .int .i64 z5] 24)
  have D0 := lies.made w 24 #[.int .i64 z0, .int .i64 z1, .int .i64 z2, .int .i64 z3, .int .i64 z4, .int .i64 z5]
  have HL := Lib.hid (full_low hlo)
  have HT := Lib.hid (full_tops htop)
  clear hlo htop
  go_enter Tryz.func30, Tryz.ntmps30
  obtain ⟨⟨x0, x1, x2, x3, x4, x5⟩, ⟨y0, y1, y2, y3, y4, y5⟩, xl⟩ := six_cells D0
  go_wp2_with fail
  clear x0 x1 x2 x3 x4 x5 y0 y1 y2 y3 y4 y5 xl D0
  generalize w.alloc (.cells #[.int .i64 z0, .int .i64 z1, .int .i64 z2, .int .i64 z3, .int .i64 z4, .int .i64 z5] 24) = w0 at DB ⊢
  refine (full_is z0 z1 z2 z3 z4 z5 w0).mono ?_
  rintro e w1 ⟨hB, g, hg, rfl, hG⟩
  replace DB := later DB hB
  clear hB hg
  go_wp2_with fail
  have D1 := lies.made w1 27 #[.int .i64 3, .slice (some ⟨g, 0, none⟩) 9 9]
  have G1 := lies.on_alloc hG (.cells #[.int .i64 3, .slice (some ⟨g, 0, none⟩) 9 9] 27)
  have B1 := lies.frame_up DB (.cells #[.int .i64 3, .slice (some ⟨g, 0, none⟩) 9 9] 27)
  clear hG DB
  generalize w1.heap.size = T at D1 ⊢
  generalize w1.alloc (.cells #[.int .i64 3, .slice (some ⟨g, 0, none⟩) 9 9] 27) = w2 at D1 G1 B1 ⊢
  generalize hFZ : fullT [z0, z1, z2, z3, z4, z5] = fz at HL HT G1
  have hfl : fz.length = 9 := by rw [← hFZ]; rfl
  have HF := Lib.hid hFZ
  have hIz : law.Ints w2.heap.size w2 (.slice (some ⟨g, 0, none⟩) 9 9) fz := by
    have := dlaw.own_ints (cap := 9) G1
    rwa [hfl] at this
  clear hFZ
  have HML := Lib.hid hfl
  obtain ⟨t0, t1, t2, t3, t4⟩ := lies.two D1
  by_cases h : MayD 3 fz
  · have C1 := Lib.hid (tref.may_yes (n := 3) hIz (by omega) HL.out HT.out h)
    have H := Lib.hid h
    clear hIz hfl h
    go_wp2_with fail
    refine C1.out.mono ?_
    rintro e w3 ⟨rfl, hB⟩
    replace D1 := lies.on_call D1 hB
    replace G1 := lies.on_call G1 hB
    replace B1 := later B1 hB
    clear C1 hB t0 t1 t2 t3 t4
    obtain ⟨t0, t1, t2, t3, t4⟩ := lies.two D1
    have hM2 : MatI 3 g 0 fz w3 := ⟨fun p hp => by rw [Nat.zero_add]; exact (lies.cell G1 p).trans (cells_at _ p hp), lies.lt G1⟩
    have C := Lib.hid (tref.closed_g 3 g 9 fz w3 (by decide) (by decide) HML.out HT.out H.out hM2)
    clear hM2
    go_wp2_with fail
    refine C.out.mono ?_
    rintro e w4 ⟨hB, ⟨hno, rfl⟩ | ⟨hok, a, l, c, rfl, hO⟩⟩
    · replace B1 := later B1 hB
      have HN := Lib.hid hno
      clear C hB t0 t1 t2 t3 t4 D1 G1 hno
      have B2 := lies.frame_up B1 (.cells #[.int .i64 0, .slice none 0 0] 27)
      go_wp2_with fail
      go_ret
      exact ⟨B2, false, rfl, ⟨fun k => by simp at k, fun k => (HN.out (HF.out ▸ k.1)).elim⟩⟩
    · replace D1 := lies.on_call D1 hB
      replace G1 := lies.on_call G1 hB
      replace B1 := later B1 hB
      clear C hB t0 t1 t2 t3 t4
      have hIc : law.Ints w4.heap.size w4 (.slice a l c) (clT 3 fz) := ints_row hO (by simp)
      generalize hcz : clT 3 fz = cz at hIc
      have HCZ := Lib.hid hcz
      have HOK := Lib.hid hok
      have hcl : cz.length = 9 := by rw [← hcz]; exact (clT_length hok).trans HML.out
      clear hO hcz hok
      obtain ⟨t0, t1, t2, t3, t4⟩ := lies.two D1
      have Bx := bound.up1 w4 (.cells #[.int .i64 3, .slice a l c] 27)
      have hIz : law.Ints w4.heap.size w4 (.slice (some ⟨g, 0, none⟩) 9 9) fz := by
        have := dlaw.own_ints (cap := 9) G1
        rwa [HML.out] at this
      have C2 := Lib.hid (same_any 3 3 (.slice a l c) (.slice (some ⟨g, 0, none⟩) 9 9) cz fz _ ((hIc.below Bx).mono Bx.size) ((hIz.below Bx).mono Bx.size) (by omega))
      have B2 := lies.frame_up B1 (.cells #[.int .i64 3, .slice a l c] 27)
      have hTl := lies.lt D1
      clear hIc hIz hcl Bx G1
      go_wp2_with fail
      refine C2.out.mono ?_
      rintro e w5 ⟨rfl, hB⟩
      replace B2 := later B2 hB
      clear C2 hB t0 t1 t2 t3 t4
      have HE := Lib.hid (show (decide (cz = fz) = true ↔ MayZ [z0, z1, z2, z3, z4, z5]) from by
        rw [decide_eq_true_eq]
        unfold MayZ
        rw [HF.out, HCZ.out]
        exact ⟨fun k => ⟨HOK.out, k⟩, fun k => k.2⟩)
      go_wp2_with fail
      go_ret
      exact ⟨B2, decide (cz = fz), rfl, HE.out⟩
  · have C1 := Lib.hid (tref.may_no (n := 3) hIz (by omega) HL.out HT.out h)
    have H := Lib.hid h
    clear hIz hfl h
    go_wp2_with fail
    refine C1.out.mono ?_
    rintro e w3 ⟨rfl, hB⟩
    replace B1 := later B1 hB
    clear C1 hB t0 t1 t2 t3 t4 D1 G1
    go_wp2_with fail
    go_ret
    exact ⟨B1, false, rfl, ⟨fun k => by simp at k, fun k => (H.out (HF.out ▸ k.may)).elim⟩⟩

set_option maxRecDepth 100000 in
set_option maxHeartbeats 4000000 in
theorem rcheck_any (z0 z1 z2 z3 z4 z5 : Int) (w : World) (hlo : Low [z0, z1, z2, z3, z4, z5]) (htop : Tops [z0, z1, z2, z3, z4, z5]) : Calls Tryz.prog 18 #[.agg #[.int .i64 z0, .int .i64 z1, .int .i64 z2, .int .i64 z3, .int .i64 z4, .int .i64 z5]] w (ChkZ [z0, z1, z2, z3, z4, z5] w) := by
  have DB := bound.up1 w (.cells #[.int .i64 z0, .int .i64 z1, .int .i64 z2, .int .i64 z3, .int .i64 z4, .int .i64 z5] 24)
  have D0 := lies.made w 24 #[.int .i64 z0, .int .i64 z1, .int .i64 z2, .int .i64 z3, .int .i64 z4, .int .i64 z5]
  have HL := Lib.hid hlo
  have HT := Lib.hid htop
  clear hlo htop
  go_enter Tryz.func18, Tryz.ntmps18
  obtain ⟨⟨x0, x1, x2, x3, x4, x5⟩, ⟨y0, y1, y2, y3, y4, y5⟩, xl⟩ := six_cells D0
  go_wp2_with fail
  clear x0 x1 x2 x3 x4 x5 y0 y1 y2 y3 y4 y5 xl D0
  generalize w.alloc (.cells #[.int .i64 z0, .int .i64 z1, .int .i64 z2, .int .i64 z3, .int .i64 z4, .int .i64 z5] 24) = w0 at DB ⊢
  refine (rmay_any z0 z1 z2 z3 z4 z5 w0 HL.out HT.out).mono ?_
  rintro e w1 ⟨hB, r, rfl, hr⟩
  replace DB := later DB hB
  clear hB
  by_cases h : MayZ [z0, z1, z2, z3, z4, z5]
  · obtain rfl : r = true := hr.2 h
    have H := Lib.hid h
    clear hr h
    go_wp2_with fail
    go_ret
    exact ⟨DB, 0, rfl, .inl ⟨H.out, rfl⟩⟩
  · obtain rfl : r = false := bool_not hr h
    have H := Lib.hid h
    clear hr h
    go_wp2_with fail
    go_ret
    exact ⟨DB, 8, rfl, .inr ⟨H.out, rfl⟩⟩

set_option maxRecDepth 100000 in
set_option maxHeartbeats 4000000 in
theorem rmatrix_any (z0 z1 z2 z3 z4 z5 : Int) (w : World) (hlo : Low [z0, z1, z2, z3, z4, z5]) (htop : Tops [z0, z1, z2, z3, z4, z5]) : Calls Tryz.prog 5 #[.agg #[.int .i64 z0, .int .i64 z1, .int .i64 z2, .int .i64 z3, .int .i64 z4, .int .i64 z5]] w fun e w' => Below w.heap.size w w' ∧ ∃ na aa la ca us f, e = .returned (.tuple #[.agg #[.int .i64 na, .slice aa la ca], .int .i64 f]) ∧ MatR [z0, z1, z2, z3, z4, z5] na us f ∧ Blk w.heap.size w' aa la ca us := by
  have DB := bound.up2 w (.cells #[.int .i64 z0, .int .i64 z1, .int .i64 z2, .int .i64 z3, .int .i64 z4, .int .i64 z5] 24) (.cells #[.int .i64 0, .slice none 0 0] 27)
  have D0 := lies.on_alloc (lies.made w 24 #[.int .i64 z0, .int .i64 z1, .int .i64 z2, .int .i64 z3, .int .i64 z4, .int .i64 z5]) (.cells #[.int .i64 0, .slice none 0 0] 27)
  have D1 := lies.made_at (w.alloc (.cells #[.int .i64 z0, .int .i64 z1, .int .i64 z2, .int .i64 z3, .int .i64 z4, .int .i64 z5] 24)) 27 #[.int .i64 0, .slice none 0 0] (w.heap.size + 1) (by simp)
  have HL := Lib.hid (full_low hlo)
  have HT := Lib.hid (full_tops htop)
  clear hlo htop
  go_enter Tryz.func5, Tryz.ntmps5
  obtain ⟨⟨x0, x1, x2, x3, x4, x5⟩, ⟨y0, y1, y2, y3, y4, y5⟩, xl⟩ := six_cells D0
  go_wp2_with fail
  clear x0 x1 x2 x3 x4 x5 y0 y1 y2 y3 y4 y5 xl
  generalize (w.alloc (.cells #[.int .i64 z0, .int .i64 z1, .int .i64 z2, .int .i64 z3, .int .i64 z4, .int .i64 z5] 24)).alloc (.cells #[.int .i64 0, .slice none 0 0] 27) = w0 at DB D0 D1 ⊢
  refine (full_is z0 z1 z2 z3 z4 z5 w0).mono ?_
  rintro e w1 ⟨hB, g, hg, rfl, hG⟩
  replace DB := later DB hB
  replace D0 := lies.on_call D0 hB
  replace D1 := lies.on_call D1 hB
  clear hB hg
  have hI : law.Ints w1.heap.size w1 (.slice (some ⟨g, 0, none⟩) 9 9) (fullT [z0, z1, z2, z3, z4, z5]) := dlaw.own_ints (cap := 9) hG
  by_cases h : MayD 3 (fullT [z0, z1, z2, z3, z4, z5])
  · have C1 := Lib.hid (tref.may_yes (n := 3) hI (show 9 ≤ 1000000 by decide) HL.out HT.out h)
    have H := Lib.hid h
    clear hI h hG
    go_wp2_with fail
    refine C1.out.mono ?_
    rintro e w2 ⟨rfl, hB⟩
    replace DB := later DB hB
    replace D0 := lies.on_call D0 hB
    replace D1 := lies.on_call D1 hB
    clear hB C1
    obtain ⟨⟨x0, x1, x2, x3, x4, x5⟩, ⟨y0, y1, y2, y3, y4, y5⟩, xl⟩ := six_cells D0
    go_wp2_with fail
    clear x0 x1 x2 x3 x4 x5 y0 y1 y2 y3 y4 y5 xl D0
    refine (full_is z0 z1 z2 z3 z4 z5 w2).mono ?_
    rintro e w3 ⟨hB, g2, hg2, rfl, hG⟩
    have hww := DB.size
    have hgw : w.heap.size ≤ g2 := by omega
    have hlt := lies.lt D1
    have hne : g2 ≠ w.heap.size + 1 := by omega
    replace DB := later DB hB
    replace D1 := lies.on_call D1 hB
    clear hB hlt hww hg2
    obtain ⟨t0, t1, t2, t3, t4⟩ := lies.two D1
    have B3 := (DB.setCell (p := ⟨w.heap.size + 1, 0, none⟩) (Nat.le_succ _) (.int .i64 3)).setCell (p := ⟨w.heap.size + 1, 1, none⟩) (Nat.le_succ _) (.slice (some ⟨g2, 0, none⟩) 9 9)
    have G3 := lies.on_far (lies.on_far hG (b := w.heap.size + 1) 0 hne (.int .i64 3)) (b := w.heap.size + 1) 1 hne (.slice (some ⟨g2, 0, none⟩) 9 9)
    have hg0 : w.heap.size ≤ g2 := hgw
    clear hgw
    go_wp2_with fail
    exact bodyPost_ret (v := .tuple #[.agg #[.int .i64 3, .slice (some ⟨g2, 0, none⟩) 9 9], .int .i64 0]) (by simp [results, Tryz.results5, go_sem, t0, t1]) rfl ⟨B3, 3, some ⟨g2, 0, none⟩, 9, 9, fullT [z0, z1, z2, z3, z4, z5], 0, rfl, .inl ⟨H.out, rfl, rfl, rfl⟩, .inr ⟨g2, hg0, rfl, rfl, G3⟩⟩
  · have C1 := Lib.hid (tref.may_no (n := 3) hI (show 9 ≤ 1000000 by decide) HL.out HT.out h)
    have H := Lib.hid h
    clear hI h hG D0
    go_wp2_with fail
    refine C1.out.mono ?_
    rintro e w2 ⟨rfl, hB⟩
    replace DB := later DB hB
    replace D1 := lies.on_call D1 hB
    clear hB C1
    obtain ⟨t0, t1, t2, t3, t4⟩ := lies.two D1
    have B3 := (DB.setCell (p := ⟨w.heap.size + 1, 0, none⟩) (Nat.le_succ _) (.int .i64 0)).setCell (p := ⟨w.heap.size + 1, 1, none⟩) (Nat.le_succ _) (.slice none 0 0)
    go_wp2_with fail
    exact bodyPost_ret (v := .tuple #[.agg #[.int .i64 0, .slice none 0 0], .int .i64 8]) (by simp [results, Tryz.results5, go_sem, t0, t1]) rfl ⟨B3, 0, none, 0, 0, [], 8, rfl, .inr ⟨H.out, rfl, rfl, rfl⟩, .inl ⟨rfl, rfl, rfl, rfl⟩⟩

theorem closed_o (n g off cc : Nat) (L : List Int) (w : World) (h0 : 0 < n) (hn : n ≤ 4) (hl : L.length = n * n) (htop : Tops L) (h : MayD n L) (hM : MatI n g off L w) :
    Calls Tryz.prog 27 #[.agg #[.int .i64 n, .slice (some ⟨g, off, none⟩) (n * n) cc]] w (tref.Comm n L w) := by
  refine (closed_is n g off cc L w h0 hn hl h.2.2.2 hM).mono ?_
  rintro e w2 ⟨hB2, ⟨hx, rfl⟩ | ⟨hx, v, rfl, hO⟩⟩
  · refine ⟨hB2, .inl ⟨fun ⟨_, h0', hne⟩ => ?_, rfl⟩⟩
    obtain ⟨x, hxn, hx⟩ := hx
    exact hx (round_ok h0 hn hl htop h.2.2.2 (fun k hk => hne k (by simpa using hk)) hxn)
  · obtain ⟨a', l', c', rfl⟩ := own_slice hO
    have hne : ∀ k, k ≤ n → ¬ emp n (tabs n h0 L k) := fun k hk he => by
      obtain ⟨x, hxn, hnx⟩ := round_bad h0 hn hl htop h.2.2.2 k hk he
      exact hnx (hx x hxn)
    have hok : OkD n L := ⟨h, by simpa using h0, fun k hk => hne k (by simpa using hk)⟩
    rw [clP_is h0 hn hl htop h.2.2.2 hne, ← clT_nat h0] at hO
    refine ⟨hB2, .inr ⟨hok, a', l', c', rfl, ?_⟩⟩
    rw [← hl, ← clT_length hok] at hO
    exact hO
/-- a row of nine that comes in, as a block. -/
theorem ints_nine {W : World} {v : Value} {ts : List Int} (h : law.Ints W.heap.size W v ts) (hl : ts.length = 9) : ∃ b off cap, v = .slice (some ⟨b, off, none⟩) 9 cap ∧ MatI 3 b off ts W := by
  rcases h with ⟨_, rfl⟩ | ⟨b, off, cap, rfl, hb, hr⟩
  · simp at hl
  · exact ⟨b, off, cap, by rw [hl], hr, hb⟩

set_option maxRecDepth 100000 in
set_option maxHeartbeats 4000000 in
theorem rof_any (n : Int) (sv : Value) (ts : List Int) (w : World) (hI : law.Ints w.heap.size w sv ts) (hm : ts.length ≤ 1000000) (hlo : Low ts) (htop : Tops ts) : Calls Tryz.prog 7 #[.agg #[.int .i64 n, sv]] w (Ofs n ts w) := by
  have DB := bound.up2 w (.cells #[.int .i64 n, sv] 27) (.cells #[.int .i64 0, .int .i64 0, .int .i64 0, .int .i64 0, .int .i64 0, .int .i64 0] 24)
  have D0 := lies.on_alloc (lies.made w 27 #[.int .i64 n, sv]) (.cells #[.int .i64 0, .int .i64 0, .int .i64 0, .int .i64 0, .int .i64 0, .int .i64 0] 24)
  have D1 := lies.made_at (w.alloc (.cells #[.int .i64 n, sv] 27)) 24 #[.int .i64 0, .int .i64 0, .int .i64 0, .int .i64 0, .int .i64 0, .int .i64 0] (w.heap.size + 1) (by simp)
  have hI0 := (hI.below DB).mono DB.size
  have HL := Lib.hid hlo
  have HT := Lib.hid htop
  have HLen := Lib.hid hm
  obtain ⟨ad, cap, rfl⟩ := ints_len hI
  clear hI hlo htop hm
  go_enter Tryz.func7, Tryz.ntmps7
  obtain ⟨t0, t1, t2, t3, t4⟩ := lies.two D0
  go_wp2_with fail
  clear t0 t1 t2 t3 t4
  generalize (w.alloc (.cells #[.int .i64 n, .slice ad ts.length cap] 27)).alloc (.cells #[.int .i64 0, .int .i64 0, .int .i64 0, .int .i64 0, .int .i64 0, .int .i64 0] 24) = w0 at DB D0 D1 hI0 ⊢
  by_cases h : MayD n ts
  · refine (tref.may_yes hI0 HLen.out HL.out HT.out h).mono ?_
    rintro e w1 ⟨rfl, hB⟩
    replace D0 := lies.on_call D0 hB
    replace D1 := lies.on_call D1 hB
    have hI1 := (hI0.below hB).mono hB.size
    replace DB := later DB hB
    have H := Lib.hid h
    have HI := Lib.hid hI1
    clear hB hI0 hI1 h
    obtain ⟨t0, t1, t2, t3, t4⟩ := lies.two D0
    by_cases h3 : n = 3
    · subst h3
      have h9 : ts.length = 9 := by
        obtain ⟨m, hm3, _, _, hl⟩ := may_nat H.out
        obtain rfl : m = 3 := by omega
        exact hl
      obtain ⟨b, off, cap', hv, hM⟩ := ints_nine HI.out h9
      obtain ⟨rfl, _, rfl⟩ : ad = some ⟨b, off, none⟩ ∧ ts.length = 9 ∧ cap = cap' := by simpa using hv
      have C := Lib.hid (closed_o 3 b off cap ts w1 (by decide) (by decide) h9 HT.out H.out hM)
      have H9 := Lib.hid h9
      rw [h9] at t1 ⊢
      clear hv hM h9 HI D0
      go_wp2_with fail
      refine C.out.mono ?_
      intro e w3 hC
      obtain ⟨hB, na, a, l, c, us, bl, rfl, hR, hO⟩ := tref.comm_one hC
      replace D1 := lies.on_call D1 hB
      replace DB := later DB hB
      have TD := Lib.hid (told_any hR H.out H9.out HT.out a l c _ w3 hO)
      clear hC hB hR hO C t0 t1 t2 t3 t4
      go_wp2_with fail
      refine TD.out.mono ?_
      rintro e w4 ⟨hB, v0, v1, v2, v3, v4, v5, f, rfl, hR⟩
      replace D1 := lies.on_call D1 hB
      replace DB := later DB hB
      have HR := Lib.hid hR
      clear hR TD hB
      obtain ⟨⟨x0, x1, x2, x3, x4, x5⟩, ⟨y0, y1, y2, y3, y4, y5⟩, xl⟩ := six_cells D1
      go_wp2_with fail
      exact bodyPost_ret (v := .tuple #[.agg #[.int .i64 v0, .int .i64 v1, .int .i64 v2, .int .i64 v3, .int .i64 v4, .int .i64 v5], .int .i64 f]) (by simp [results, Tryz.results7, go_sem, x0, x1, x2, x3, x4, x5, xl]) rfl ⟨put_six DB (Nat.le_succ _) _ _ _ _ _ _, v0, v1, v2, v3, v4, v5, f, rfl, HR.out⟩
    · have h3' : (n != 3) = true := by simpa using h3
      have H3 := Lib.hid h3
      clear h3
      obtain ⟨⟨x0, x1, x2, x3, x4, x5⟩, ⟨y0, y1, y2, y3, y4, y5⟩, xl⟩ := six_cells D1
      go_wp2_with fail
      exact bodyPost_ret (v := .tuple #[.agg #[.int .i64 0, .int .i64 0, .int .i64 0, .int .i64 0, .int .i64 0, .int .i64 0], .int .i64 40]) (by simp [results, Tryz.results7, go_sem, x0, x1, x2, x3, x4, x5, xl]) rfl ⟨put_six DB (Nat.le_succ _) _ _ _ _ _ _, 0, 0, 0, 0, 0, 0, 40, rfl, .inr (.inl ⟨H.out, H3.out, rfl, rfl⟩)⟩
  · refine (tref.may_no hI0 HLen.out HL.out HT.out h).mono ?_
    rintro e w1 ⟨rfl, hB⟩
    replace D1 := lies.on_call D1 hB
    replace DB := later DB hB
    have H := Lib.hid h
    clear hB h D0 hI0
    obtain ⟨⟨x0, x1, x2, x3, x4, x5⟩, ⟨y0, y1, y2, y3, y4, y5⟩, xl⟩ := six_cells D1
    go_wp2_with fail
    exact bodyPost_ret (v := .tuple #[.agg #[.int .i64 0, .int .i64 0, .int .i64 0, .int .i64 0, .int .i64 0, .int .i64 0], .int .i64 8]) (by simp [results, Tryz.results7, go_sem, x0, x1, x2, x3, x4, x5, xl]) rfl ⟨put_six DB (Nat.le_succ _) _ _ _ _ _ _, 0, 0, 0, 0, 0, 0, 8, rfl, .inl ⟨H.out, rfl, rfl⟩⟩
end Go.Proofs.YtklejbheieceeaaGreatDoor.zref
