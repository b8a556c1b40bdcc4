/-
  The document's own calls of zones, but Made and Make; each theorem names its conditions.
-/
import Derived.Test.YtkfnjdmjojodhaaDoorZoneR
import Derived.Test.YtkfnjdmjojodhaaDoorInclD
import Derived.Test.YtkfnjdmjojodhaaDoorDbmE
import Derived.Test.YtkfnjdmjojodhaaDoorZoneA
namespace Go.Proofs.YtkfnjdmjojodhaaDoor.zref
open Go.Joins Go.ChangeShapes Go.WideShapes Go.ChangeAt Go.RowKit num rat dbm Go.Proofs.YtkfnjdmjojodhaaDoor.tight Go.Proofs.YtkfnjdmjojodhaaDoor.incl Go.Proofs.YtkfnjdmjojodhaaDoor.plaw Go.Proofs.YtkfnjdmjojodhaaDoor.zopen Go.Proofs.YtkfnjdmjojodhaaDoor.zone dref
open bound hiding up
set_option linter.unusedVariables false
set_option linter.unusedSimpArgs false


theorem bool_not {r : Bool} {p : Prop} (h : r = true ↔ p) (k : ¬ p) : r = false := by
  cases r
  · rfl
  · exact (k (h.1 rfl)).elim

set_option maxRecDepth 100000 in
set_option maxHeartbeats 4000000 in
theorem rmay_any (z0 z1 z2 z3 z4 z5 : Int) (w : World) (hlo : Low [z0, z1, z2, z3, z4, z5]) (htop : Tops [z0, z1, z2, z3, z4, z5]) : Calls Tryd.prog 23 #[.agg #[.int .i64 z0, .int .i64 z1, .int .i64 z2, .int .i64 z3, .int .i64 z4, .int .i64 z5]] w (Tell (MayZ [z0, z1, z2, z3, z4, z5]) w) := by
  have DB := bound.up1 w (.cells #[.int .i64 z0, .int .i64 z1, .int .i64 z2, .int .i64 z3, .int .i64 z4, .int .i64 z5] 24)
  have D0 := lies.made w 24 #[.int .i64 z0, .int .i64 z1, .int .i64 z2, .int .i64 z3, .int .i64 z4, .int .i64 z5]
  have HL := Lib.hid (full_low hlo)
  have HT := Lib.hid (full_tops htop)
  clear hlo htop
  go_enter Tryd.func23, Tryd.ntmps23
  obtain ⟨⟨x0, x1, x2, x3, x4, x5⟩, ⟨y0, y1, y2, y3, y4, y5⟩, xl⟩ := six_cells D0
  go_wp2_with fail
  clear x0 x1 x2 x3 x4 x5 y0 y1 y2 y3 y4 y5 xl D0
  generalize w.alloc (.cells #[.int .i64 z0, .int .i64 z1, .int .i64 z2, .int .i64 z3, .int .i64 z4, .int .i64 z5] 24) = w0 at DB ⊢
  refine (full_is z0 z1 z2 z3 z4 z5 w0).mono ?_
  rintro e w1 ⟨hB, g, hg, rfl, hG⟩
  replace DB := later DB hB
  clear hB hg
  go_wp2_with fail
  have D1 := lies.made w1 64 #[.int .i64 3, .slice (some ⟨g, 0, none⟩) 9 9]
  have G1 := lies.on_alloc hG (.cells #[.int .i64 3, .slice (some ⟨g, 0, none⟩) 9 9] 64)
  have B1 := lies.frame_up DB (.cells #[.int .i64 3, .slice (some ⟨g, 0, none⟩) 9 9] 64)
  clear hG DB
  generalize w1.heap.size = T at D1 ⊢
  generalize w1.alloc (.cells #[.int .i64 3, .slice (some ⟨g, 0, none⟩) 9 9] 64) = w2 at D1 G1 B1 ⊢
  generalize hFZ : fullT [z0, z1, z2, z3, z4, z5] = fz at HL HT G1
  have hfl : fz.length = 9 := by rw [← hFZ]; rfl
  have HF := Lib.hid hFZ
  have hIz : law.Ints w2.heap.size w2 (.slice (some ⟨g, 0, none⟩) 9 9) fz := by
    have := dlaw.own_ints (cap := 9) G1
    rwa [hfl] at this
  clear hFZ
  have HML := Lib.hid hfl
  obtain ⟨t0, t1, t2, t3, t4⟩ := lies.two D1
  by_cases h : MayD 3 fz
  · have C1 := Lib.hid (tref.may_yes (n := 3) hIz (by omega) HL.out HT.out h)
    have H := Lib.hid h
    clear hIz hfl h
    go_wp2_with fail
    refine C1.out.mono ?_
    rintro e w3 ⟨rfl, hB⟩
    replace D1 := lies.on_call D1 hB
    replace G1 := lies.on_call G1 hB
    replace B1 := later B1 hB
    clear C1 hB t0 t1 t2 t3 t4
    obtain ⟨t0, t1, t2, t3, t4⟩ := lies.two D1
    have hM2 : MatI 3 g 0 fz w3 := ⟨fun p hp => by rw [Nat.zero_add]; exact (lies.cell G1 p).trans (cells_at _ p hp), lies.lt G1⟩
    have C := Lib.hid (tref.closed_g 3 g 9 fz w3 (by decide) (by decide) HML.out HT.out H.out hM2)
    clear hM2
    go_wp2_with fail
    refine C.out.mono ?_
    rintro e w4 ⟨hB, ⟨hno, rfl⟩ | ⟨hok, a, l, c, rfl, hO⟩⟩
    · replace B1 := later B1 hB
      have HN := Lib.hid hno
      clear C hB t0 t1 t2 t3 t4 D1 G1 hno
      have B2 := lies.frame_up B1 (.cells #[.int .i64 0, .slice none 0 0] 64)
      go_wp2_with fail
      go_ret
      exact ⟨B2, false, rfl, ⟨fun k => by simp at k, fun k => (HN.out (HF.out ▸ k.1)).elim⟩⟩
    · replace D1 := lies.on_call D1 hB
      replace G1 := lies.on_call G1 hB
      replace B1 := later B1 hB
      clear C hB t0 t1 t2 t3 t4
      have hIc : law.Ints w4.heap.size w4 (.slice a l c) (clT 3 fz) := ints_row hO (by simp)
      generalize hcz : clT 3 fz = cz at hIc
      have HCZ := Lib.hid hcz
      have HOK := Lib.hid hok
      have hcl : cz.length = 9 := by rw [← hcz]; exact (clT_length hok).trans HML.out
      clear hO hcz hok
      obtain ⟨t0, t1, t2, t3, t4⟩ := lies.two D1
      have Bx := bound.up1 w4 (.cells #[.int .i64 3, .slice a l c] 64)
      have hIz : law.Ints w4.heap.size w4 (.slice (some ⟨g, 0, none⟩) 9 9) fz := by
        have := dlaw.own_ints (cap := 9) G1
        rwa [HML.out] at this
      have C2 := Lib.hid (same_any 3 3 (.slice a l c) (.slice (some ⟨g, 0, none⟩) 9 9) cz fz _ ((hIc.below Bx).mono Bx.size) ((hIz.below Bx).mono Bx.size) (by omega))
      have B2 := lies.frame_up B1 (.cells #[.int .i64 3, .slice a l c] 64)
      have hTl := lies.lt D1
      clear hIc hIz hcl Bx G1
      go_wp2_with fail
      refine C2.out.mono ?_
      rintro e w5 ⟨rfl, hB⟩
      replace B2 := later B2 hB
      clear C2 hB t0 t1 t2 t3 t4
      have HE := Lib.hid (show (decide (cz = fz) = true ↔ MayZ [z0, z1, z2, z3, z4, z5]) from by
        rw [decide_eq_true_eq]
        unfold MayZ
        rw [HF.out, HCZ.out]
        exact ⟨fun k => ⟨HOK.out, k⟩, fun k => k.2⟩)
      go_wp2_with fail
      go_ret
      exact ⟨B2, decide (cz = fz), rfl, HE.out⟩
  · have C1 := Lib.hid (tref.may_no (n := 3) hIz (by omega) HL.out HT.out h)
    have H := Lib.hid h
    clear hIz hfl h
    go_wp2_with fail
    refine C1.out.mono ?_
    rintro e w3 ⟨rfl, hB⟩
    replace B1 := later B1 hB
    clear C1 hB t0 t1 t2 t3 t4 D1 G1
    go_wp2_with fail
    go_ret
    exact ⟨B1, false, rfl, ⟨fun k => by simp at k, fun k => (H.out (HF.out ▸ k.may)).elim⟩⟩

theorem closed_o (n g off cc : Nat) (L : List Int) (w : World) (h0 : 0 < n) (hn : n ≤ 4) (hl : L.length = n * n) (htop : Tops L) (h : MayD n L) (hM : MatI n g off L w) :
    Calls Tryd.prog 36 #[.agg #[.int .i64 n, .slice (some ⟨g, off, none⟩) (n * n) cc]] w (tref.Comm n L w) := by
  refine (closed_is n g off cc L w h0 hn hl h.2.2.2 hM).mono ?_
  rintro e w2 ⟨hB2, ⟨hx, rfl⟩ | ⟨hx, v, rfl, hO⟩⟩
  · refine ⟨hB2, .inl ⟨fun ⟨_, h0', hne⟩ => ?_, rfl⟩⟩
    obtain ⟨x, hxn, hx⟩ := hx
    exact hx (round_ok h0 hn hl htop h.2.2.2 (fun k hk => hne k (by simpa using hk)) hxn)
  · obtain ⟨a', l', c', rfl⟩ := own_slice hO
    have hne : ∀ k, k ≤ n → ¬ emp n (tabs n h0 L k) := fun k hk he => by
      obtain ⟨x, hxn, hnx⟩ := round_bad h0 hn hl htop h.2.2.2 k hk he
      exact hnx (hx x hxn)
    have hok : OkD n L := ⟨h, by simpa using h0, fun k hk => hne k (by simpa using hk)⟩
    rw [clP_is h0 hn hl htop h.2.2.2 hne, ← clT_nat h0] at hO
    refine ⟨hB2, .inr ⟨hok, a', l', c', rfl, ?_⟩⟩
    rw [← hl, ← clT_length hok] at hO
    exact hO
/-- a row of nine that comes in, as a block. -/
theorem ints_nine {W : World} {v : Value} {ts : List Int} (h : law.Ints W.heap.size W v ts) (hl : ts.length = 9) : ∃ b off cap, v = .slice (some ⟨b, off, none⟩) 9 cap ∧ MatI 3 b off ts W := by
  rcases h with ⟨_, rfl⟩ | ⟨b, off, cap, rfl, hb, hr⟩
  · simp at hl
  · exact ⟨b, off, cap, by rw [hl], hr, hb⟩

end Go.Proofs.YtkfnjdmjojodhaaDoor.zref

namespace Go.Proofs.YtkfnjdmjojodhaaDoor.zref
open Go.Joins Go.ChangeShapes Go.WideShapes Go.ChangeAt Go.RowKit num rat dbm Go.Proofs.YtkfnjdmjojodhaaDoor.tight Go.Proofs.YtkfnjdmjojodhaaDoor.incl Go.Proofs.YtkfnjdmjojodhaaDoor.plaw Go.Proofs.YtkfnjdmjojodhaaDoor.zopen Go.Proofs.YtkfnjdmjojodhaaDoor.zone dref
open bound hiding up
set_option linter.unusedVariables false
set_option linter.unusedSimpArgs false


end Go.Proofs.YtkfnjdmjojodhaaDoor.zref

namespace Go.Proofs.YtkfnjdmjojodhaaDoor.zref
open Go.Joins Go.ChangeShapes Go.WideShapes Go.ChangeAt Go.RowKit num rat dbm Go.Proofs.YtkfnjdmjojodhaaDoor.tight Go.Proofs.YtkfnjdmjojodhaaDoor.incl Go.Proofs.YtkfnjdmjojodhaaDoor.plaw Go.Proofs.YtkfnjdmjojodhaaDoor.zopen Go.Proofs.YtkfnjdmjojodhaaDoor.zone dref
open bound hiding up
set_option linter.unusedVariables false
set_option linter.unusedSimpArgs false


end Go.Proofs.YtkfnjdmjojodhaaDoor.zref

namespace Go.Proofs.YtkfnjdmjojodhaaDoor.zref
open Go.Joins Go.ChangeShapes Go.WideShapes Go.ChangeAt Go.RowKit num rat dbm Go.Proofs.YtkfnjdmjojodhaaDoor.tight Go.Proofs.YtkfnjdmjojodhaaDoor.incl Go.Proofs.YtkfnjdmjojodhaaDoor.plaw Go.Proofs.YtkfnjdmjojodhaaDoor.zopen Go.Proofs.YtkfnjdmjojodhaaDoor.zone dref
open bound hiding up
set_option linter.unusedVariables false
set_option linter.unusedSimpArgs false


theorem meet_of {a b z : List Int} {f : Int} (ha : MayZ a) (hb : MayZ b) (h : OfR 3 (lesT (fullT a) (fullT b)) z f) : MeetR a b z f := by
  have hm := lesT_may ha.may hb.may
  unfold MeetR
  generalize lesT (fullT a) (fullT b) = l at h hm ⊢
  rcases h with q | q | q | q | q
  · exact (q.1 hm).elim
  · exact (q.2.1 rfl).elim
  · exact .inr (.inl ⟨ha, hb, q.2.2.1, q.2.2.2⟩)
  · exact .inr (.inr (.inl ⟨ha, hb, q.2.1, q.2.2.1, q.2.2.2⟩))
  · exact .inr (.inr (.inr ⟨ha, hb, q.2.1, q.2.2.1, q.2.2.2⟩))

end Go.Proofs.YtkfnjdmjojodhaaDoor.zref

namespace Go.Proofs.YtkfnjdmjojodhaaDoor.zref
open Go.Joins Go.ChangeShapes Go.WideShapes Go.ChangeAt Go.RowKit num rat dbm Go.Proofs.YtkfnjdmjojodhaaDoor.tight Go.Proofs.YtkfnjdmjojodhaaDoor.incl Go.Proofs.YtkfnjdmjojodhaaDoor.plaw Go.Proofs.YtkfnjdmjojodhaaDoor.zopen Go.Proofs.YtkfnjdmjojodhaaDoor.zone dref
open bound hiding up
set_option linter.unusedVariables false
set_option linter.unusedSimpArgs false


theorem put_fourL {W : World} {g : Nat} {t : TypeId} {z0 z1 z2 z3 : Value} (h : lies.Lies W g t #[z0, z1, z2, z3]) (a b c d : Value) : lies.Lies ((((W.setCell ⟨g, 0, none⟩ a).setCell ⟨g, 1, none⟩ b).setCell ⟨g, 2, none⟩ c).setCell ⟨g, 3, none⟩ d) g t #[a, b, c, d] := by
  have h0 : lies.Lies (W.setCell ⟨g, 0, none⟩ a) g t #[a, z1, z2, z3] := by simpa using lies.on_put h 0 a
  have h1 : lies.Lies ((W.setCell ⟨g, 0, none⟩ a).setCell ⟨g, 1, none⟩ b) g t #[a, b, z2, z3] := by simpa using lies.on_put h0 1 b
  have h2 : lies.Lies (((W.setCell ⟨g, 0, none⟩ a).setCell ⟨g, 1, none⟩ b).setCell ⟨g, 2, none⟩ c) g t #[a, b, c, z3] := by simpa using lies.on_put h1 2 c
  simpa using lies.on_put h2 3 d

end Go.Proofs.YtkfnjdmjojodhaaDoor.zref

namespace Go.Proofs.YtkfnjdmjojodhaaDoor.zref
open Go.Joins Go.ChangeShapes Go.WideShapes Go.ChangeAt Go.RowKit num rat dbm Go.Proofs.YtkfnjdmjojodhaaDoor.tight Go.Proofs.YtkfnjdmjojodhaaDoor.incl Go.Proofs.YtkfnjdmjojodhaaDoor.plaw Go.Proofs.YtkfnjdmjojodhaaDoor.zopen Go.Proofs.YtkfnjdmjojodhaaDoor.zone dref
open bound hiding up
set_option linter.unusedVariables false
set_option linter.unusedSimpArgs false


theorem cmpL_lt {ts us : List Int} {k : Nat} (h : k < ts.length) (h' : k < us.length) (hl : ts[k]?.getD 0 < us[k]?.getD 0) : cmpL (ts.drop k) (us.drop k) = -1 := by
  rw [cmpL_up ts us k h h']
  have e : cmp1 (ts[k]?.getD 0) (us[k]?.getD 0) = -1 := by unfold cmp1; rw [if_pos hl]
  rw [e]
  rfl
theorem cmpL_gt {ts us : List Int} {k : Nat} (h : k < ts.length) (h' : k < us.length) (hl : us[k]?.getD 0 < ts[k]?.getD 0) : cmpL (ts.drop k) (us.drop k) = 1 := by
  rw [cmpL_up ts us k h h']
  have e : cmp1 (ts[k]?.getD 0) (us[k]?.getD 0) = 1 := by unfold cmp1; rw [if_neg (by omega), if_pos hl]
  rw [e]
  rfl
theorem cmpL_eq {ts us : List Int} {k : Nat} (h : k < ts.length) (h' : k < us.length) (h1 : ¬ ts[k]?.getD 0 < us[k]?.getD 0) (h2 : ¬ us[k]?.getD 0 < ts[k]?.getD 0) : cmpL (ts.drop k) (us.drop k) = cmpL (ts.drop (k + 1)) (us.drop (k + 1)) := by
  rw [cmpL_up ts us k h h']
  have e : cmp1 (ts[k]?.getD 0) (us[k]?.getD 0) = 0 := by unfold cmp1; rw [if_neg h1, if_neg h2]
  rw [e]
  rfl
/-- what lies in the round of Cmp. -/
def Cx (A B : Nat) (ts us : List Int) (w W : World) : Prop := Row W A 0 ts ∧ Row W B 0 us ∧ A < W.heap.size ∧ B < W.heap.size ∧ Below w.heap.size w W
theorem Cx.below {A B : Nat} {ts us : List Int} {w W X : World} (h : Cx A B ts us w W) (k : Below W.heap.size W X) : Cx A B ts us w X :=
  ⟨h.1.below k h.2.2.1, h.2.1.below k h.2.2.2.1, Nat.lt_of_lt_of_le h.2.2.1 k.size, Nat.lt_of_lt_of_le h.2.2.2.1 k.size, h.2.2.2.2.trans (k.mono h.2.2.2.2.size)⟩

end Go.Proofs.YtkfnjdmjojodhaaDoor.zref
