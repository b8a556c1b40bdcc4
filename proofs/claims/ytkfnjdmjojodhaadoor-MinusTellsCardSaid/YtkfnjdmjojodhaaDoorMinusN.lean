/-
  What minus.check, Minus and Left answer, each in one form; each theorem names its conditions.
-/
import Derived.Test.YtkfnjdmjojodhaaDoorMinusL
namespace Go.Proofs.YtkfnjdmjojodhaaDoor.minus
open Go.Joins Go.ChangeShapes Go.WideShapes Go.ChangeAt Go.RowKit num rat dbm Go.Proofs.YtkfnjdmjojodhaaDoor.tight Go.Proofs.YtkfnjdmjojodhaaDoor.plaw Go.Proofs.YtkfnjdmjojodhaaDoor.zopen Go.Proofs.YtkfnjdmjojodhaaDoor.zone Go.Proofs.YtkfnjdmjojodhaaDoor.win Go.Proofs.YtkfnjdmjojodhaaDoor.mz
open bound hiding up
set_option linter.unusedVariables false
set_option linter.unusedSimpArgs false

/-- zones of six bounds that are ints. -/
def Six (zs : List (List Int)) : Prop := ∀ z, z ∈ zs → z.length = 6 ∧ Tops z
theorem Six.zo {zs : List (List Int)} (h : Six zs) (k : ∀ z, z ∈ zs → MayZ z) : ∀ z, z ∈ zs → Zo z := fun z hz => ⟨k z hz, (h z hz).2, (h z hz).1⟩
def AllR (zs : List (List Int)) (f : Int) : Prop := ((∀ z, z ∈ zs → MayZ z) ∧ f = 0) ∨ ((∃ z, z ∈ zs ∧ ¬ MayZ z) ∧ f = 8)
set_option maxRecDepth 100000 in
set_option maxHeartbeats 8000000 in
theorem chk_any (ao : Option Addr) (len cap : Nat) (zs : List (List Int)) (w : World) (hP : Pl w) (hI : Zs w.heap.size w (.slice ao len cap) zs) (h6 : Six zs) (hl : zs.length = len) (hm : len ≤ 1000000) :
    Calls Tryd.prog 21 #[.slice ao len cap] w fun e w' => Below w.heap.size w w' ∧ ∃ f, e = .returned (.int .i64 f) ∧ AllR zs f := by
  have HI := Lib.hid hI
  have H6 := Lib.hid h6
  have HL := Lib.hid hl
  have HP := Lib.hid hP
  clear hI h6 hl hP
  go_enter Tryd.func21, Tryd.ntmps21
  go_wp2_with fail
  go_loopw [8] (fun i wr => ∃ k : Nat, k ≤ len ∧ i = .int .i64 k ∧ Below w.heap.size w wr ∧ Pl wr ∧ RowKit.Hid (∀ j, j < k → MayZ (zat zs j))) (fun i _ => len - (intOf i).toNat)
  case atStart => exact ⟨0, Nat.zero_le _, rfl, Below.refl _ _, HP.out, Lib.hid (fun j hj => absurd hj (Nat.not_lt_zero j))⟩
  case round =>
    obtain ⟨k, hk, rfl, hB, P0, HM⟩ := hrel
    by_cases hkn : k < len
    · have hkz : k < zs.length := by rw [HL.out]; exact hkn
      obtain ⟨bq, off, rfl, -, hb, c0, c1, c2, c3, c4, c5⟩ := zs_at (HI.out.below hB) hkz
      have hbr : bq < wr.heap.size := Nat.lt_of_lt_of_le hb hB.size
      obtain ⟨hz6, hzt⟩ := H6.out _ (zat_mem hkz)
      have hmem := zat_mem hkz
      have hone : ∀ j, j = k → zat zs j = zat zs k := fun j e => by rw [e]
      generalize hzk : zat zs k = zk at c0 c1 c2 c3 c4 c5 hz6 hzt hmem hone
      obtain ⟨z0, z1, z2, z3, z4, z5, rfl⟩ := six hz6
      have c0 : wr.cell? ⟨bq, off + k * 6, none⟩ = some (.int .i64 z0) := c0
      have c1 : wr.cell? ⟨bq, off + k * 6 + 1, none⟩ = some (.int .i64 z1) := c1
      have c2 : wr.cell? ⟨bq, off + k * 6 + 2, none⟩ = some (.int .i64 z2) := c2
      have c3 : wr.cell? ⟨bq, off + k * 6 + 3, none⟩ = some (.int .i64 z3) := c3
      have c4 : wr.cell? ⟨bq, off + k * 6 + 4, none⟩ = some (.int .i64 z4) := c4
      have c5 : wr.cell? ⟨bq, off + k * 6 + 5, none⟩ = some (.int .i64 z5) := c5
      have HT := Lib.hid hzt
      have HMEM := Lib.hid hmem
      have HONE := Lib.hid hone
      clear hzt hmem hone hz6 hzk
      go_wp2_with fail
      clear c0 c1 c2 c3 c4 c5
      have hA := bound.up1 wr (.cells #[.int .i64 z0, .int .i64 z1, .int .i64 z2, .int .i64 z3, .int .i64 z4, .int .i64 z5] 24)
      replace P0 := P0.on hA
      replace hB := later hB hA
      clear hA
      generalize wr.heap.size = ZB
      generalize wr.alloc (.cells #[.int .i64 z0, .int .i64 z1, .int .i64 z2, .int .i64 z3, .int .i64 z4, .int .i64 z5] 24) = w1 at P0 hB ⊢
      refine (zone.check_any z0 z1 z2 z3 z4 z5 w1 P0 HT.out).mono ?_
      rintro e w2 ⟨hB2, f, rfl, hc⟩
      replace P0 := P0.on hB2
      replace hB := later hB hB2
      clear hB2
      rcases hc with ⟨hma, rfl⟩ | ⟨hma, rfl⟩
      · have HA := Lib.hid hma
        clear hma
        go_wp2_with fail
        go_roundw
        case rel => exact ⟨k + 1, by omega, by go_num, hB, P0, Lib.hid (fun j hj => by
          by_cases e : j = k
          · rw [HONE.out j e]; exact HA.out
          · exact HM.out j (by omega))⟩
        case measure => simp [intOf]; omega
      · have HA := Lib.hid hma
        clear hma
        go_wp2_with fail
        go_ret
        exact ⟨hB, 8, rfl, .inr ⟨⟨_, HMEM.out, HA.out⟩, rfl⟩⟩
    · obtain rfl : len = k := by omega
      go_wp2_with fail
      go_ret
      refine ⟨hB, 0, rfl, .inl ⟨fun z hz => ?_, rfl⟩⟩
      obtain ⟨j, hj, rfl⟩ := List.getElem_of_mem hz
      have := HM.out j (by rw [← HL.out]; exact hj)
      unfold zat at this
      rw [List.getElem?_eq_getElem hj] at this
      exact this

theorem zs_box2 {W : World} {g : Nat} {a0 a1 a2 a3 a4 a5 b0 b1 b2 b3 b4 b5 : Int} (h : lies.Lies W g 24 #[.int .i64 a0, .int .i64 a1, .int .i64 a2, .int .i64 a3, .int .i64 a4, .int .i64 a5, .int .i64 b0, .int .i64 b1, .int .i64 b2, .int .i64 b3, .int .i64 b4, .int .i64 b5]) : Zs W.heap.size W (.slice (some ⟨g, 0, none⟩) 2 2) [[a0, a1, a2, a3, a4, a5], [b0, b1, b2, b3, b4, b5]] := by
  refine .inr ⟨g, 0, 2, rfl, lies.lt h, fun k hk j hj => ?_⟩
  have hk : k < 2 := hk
  rcases (by omega : k = 0 ∨ k = 1) with rfl | rfl <;> rcases (by omega : j = 0 ∨ j = 1 ∨ j = 2 ∨ j = 3 ∨ j = 4 ∨ j = 5) with rfl | rfl | rfl | rfl | rfl | rfl
  · exact lies.cell h 0
  · exact lies.cell h 1
  · exact lies.cell h 2
  · exact lies.cell h 3
  · exact lies.cell h 4
  · exact lies.cell h 5
  · exact lies.cell h 6
  · exact lies.cell h 7
  · exact lies.cell h 8
  · exact lies.cell h 9
  · exact lies.cell h 10
  · exact lies.cell h 11
/-- what Minus answers: the zones, and the error. -/
def MinR (a b : List Int) (r : List (List Int)) (f : Int) : Prop := (¬ (MayZ a ∧ MayZ b) ∧ r = [] ∧ f = 8) ∨ (MayZ a ∧ MayZ b ∧ StepP b [a] [] r f)
/-- .. as a call's answer: zones of one's own. -/
def Zans (R : List (List Int) → Int → Prop) (w : World) (e : Ending) (w' : World) : Prop := Below w.heap.size w w' ∧ ∃ v r f, e = .returned (.tuple #[v, .int .i64 f]) ∧ R r f ∧ w'.ownsRow w.heap.size 24 6 v r.length (flatZ r)
set_option maxRecDepth 100000 in
set_option maxHeartbeats 8000000 in
theorem minus_any (a0 a1 a2 a3 a4 a5 b0 b1 b2 b3 b4 b5 : Int) (w : World) (hP : Pl w) (ta : Tops [a0, a1, a2, a3, a4, a5]) (tb : Tops [b0, b1, b2, b3, b4, b5]) : Calls Tryd.prog 9 #[.agg #[.int .i64 a0, .int .i64 a1, .int .i64 a2, .int .i64 a3, .int .i64 a4, .int .i64 a5], .agg #[.int .i64 b0, .int .i64 b1, .int .i64 b2, .int .i64 b3, .int .i64 b4, .int .i64 b5]] w (Zans (MinR [a0, a1, a2, a3, a4, a5] [b0, b1, b2, b3, b4, b5]) w) := by
  have X : ∃ w0, w0 = ((w.alloc (.cells #[.int .i64 a0, .int .i64 a1, .int .i64 a2, .int .i64 a3, .int .i64 a4, .int .i64 a5] 24)).alloc (.cells #[.int .i64 b0, .int .i64 b1, .int .i64 b2, .int .i64 b3, .int .i64 b4, .int .i64 b5] 24)).alloc (.cells #[.int .i64 a0, .int .i64 a1, .int .i64 a2, .int .i64 a3, .int .i64 a4, .int .i64 a5, .int .i64 b0, .int .i64 b1, .int .i64 b2, .int .i64 b3, .int .i64 b4, .int .i64 b5] 24) := ⟨_, rfl⟩
  obtain ⟨w0, hX⟩ := X
  have DB : Below w.heap.size w w0 := by rw [hX]; exact bound.up3 _ _ _ _
  have D0 : lies.Lies w0 w.heap.size 24 #[.int .i64 a0, .int .i64 a1, .int .i64 a2, .int .i64 a3, .int .i64 a4, .int .i64 a5] := by rw [hX]; exact lies.on_alloc (lies.on_alloc (lies.made _ _ _) _) _
  have D1 : lies.Lies w0 (w.heap.size + 1) 24 #[.int .i64 b0, .int .i64 b1, .int .i64 b2, .int .i64 b3, .int .i64 b4, .int .i64 b5] := by rw [hX]; exact lies.on_alloc (lies.made_at _ _ _ _ (by simp)) _
  have D2 : lies.Lies w0 (w.heap.size + 1 + 1) 24 #[.int .i64 a0, .int .i64 a1, .int .i64 a2, .int .i64 a3, .int .i64 a4, .int .i64 a5, .int .i64 b0, .int .i64 b1, .int .i64 b2, .int .i64 b3, .int .i64 b4, .int .i64 b5] := by rw [hX]; exact lies.made_at _ _ _ _ (by simp)
  have P0 := hP.on DB
  have HTA := Lib.hid ta
  have HTB := Lib.hid tb
  clear hP ta tb
  go_enter Tryd.func9, Tryd.ntmps9
  go_wp2_with fail
  rw [← hX]
  clear hX
  refine (chk_any _ 2 2 [[a0, a1, a2, a3, a4, a5], [b0, b1, b2, b3, b4, b5]] w0 P0 (zs_box2 D2) (fun z hz => ?_) rfl (by decide)).mono ?_
  · rcases List.mem_cons.1 hz with rfl | hz
    · exact ⟨rfl, HTA.out⟩
    · rw [List.mem_singleton.1 hz]; exact ⟨rfl, HTB.out⟩
  rintro e w1 ⟨hB, f, rfl, hR⟩
  replace D0 := lies.on_call D0 hB
  replace D1 := lies.on_call D1 hB
  replace P0 := P0.on hB
  replace DB := later DB hB
  clear hB D2
  rcases hR with ⟨hr, rfl⟩ | ⟨hr, rfl⟩
  · have HMA := Lib.hid (hr _ List.mem_cons_self)
    have HMB := Lib.hid (hr _ (List.mem_cons_of_mem _ List.mem_cons_self))
    clear hr
    obtain ⟨⟨x0, x1, x2, x3, x4, x5⟩, -, xl⟩ := six_cells D0
    obtain ⟨⟨y0, y1, y2, y3, y4, y5⟩, -, yl⟩ := six_cells D1
    go_wp2_with fail
    clear x0 x1 x2 x3 x4 x5 xl y0 y1 y2 y3 y4 y5 yl D0 D1
    have hA := bound.up1 w1 (.cells #[.int .i64 a0, .int .i64 a1, .int .i64 a2, .int .i64 a3, .int .i64 a4, .int .i64 a5] 24)
    have DA := lies.made w1 24 #[.int .i64 a0, .int .i64 a1, .int .i64 a2, .int .i64 a3, .int .i64 a4, .int .i64 a5]
    replace P0 := P0.on hA
    replace DB := later DB hA
    clear hA
    generalize w1.heap.size = XA at DA ⊢
    generalize w1.alloc (.cells #[.int .i64 a0, .int .i64 a1, .int .i64 a2, .int .i64 a3, .int .i64 a4, .int .i64 a5] 24) = w2 at DA P0 DB ⊢
    refine (less_any _ 1 1 [[a0, a1, a2, a3, a4, a5]] b0 b1 b2 b3 b4 b5 w2 P0 (zs_box DA) (fun z hz => ?_) ⟨HMB.out, HTB.out, rfl⟩ rfl (by decide)).mono ?_
    · rw [List.mem_singleton.1 hz]; exact ⟨HMA.out, HTA.out, rfl⟩
    rintro e w3 ⟨hB, v, r, f, rfl, hR, hO⟩
    have hD := DB.size
    replace DB := later DB hB
    have HR := Lib.hid hR
    have HO := Lib.hid (own_far hO hD (fun _ _ _ q => q))
    clear hB hR hO DA P0 hD
    go_wp2_with fail
    exact bodyPost_ret (v := .tuple #[v, .int .i64 f]) (by simp [results, Tryd.results9, go_sem]) rfl ⟨DB, v, r, f, rfl, .inr ⟨HMA.out, HMB.out, HR.out⟩, HO.out⟩
  · have HR := Lib.hid hr
    clear hr D0 D1
    go_wp2_with fail
    refine bodyPost_ret (v := .tuple #[.slice none 0 0, .int .i64 8]) (by simp [results, Tryd.results9, go_sem]) rfl ⟨DB, _, [], 8, rfl, .inl ⟨fun q => ?_, rfl, rfl⟩, World.ownsRow_nil _ _ _ _⟩
    obtain ⟨z, hz, hn⟩ := HR.out
    rcases List.mem_cons.1 hz with rfl | hz
    · exact hn q.1
    · rw [List.mem_singleton.1 hz] at hn; exact hn q.2
/-- what Left answers. -/
def LefR (a : List Int) (l : List (List Int)) (r : List (List Int)) (f : Int) : Prop := (¬ (MayZ a ∧ ∀ z, z ∈ l → MayZ z) ∧ r = [] ∧ f = 8) ∨ (MayZ a ∧ (∀ z, z ∈ l → MayZ z) ∧ RestP l [a] r f)
/-- what is left so far. -/
def Lf (w : World) (v : Value) (cur : List (List Int)) (W : World) : Prop := Below w.heap.size w W ∧ Pl W ∧ W.ownsRow w.heap.size 24 6 v cur.length (flatZ cur) ∧ (∀ z, z ∈ cur → Zo z) ∧ cur.length ≤ 4096
theorem Lf.below {w X Y : World} {v : Value} {cur : List (List Int)} (h : Lf w v cur X) (k : Below X.heap.size X Y) : Lf w v cur Y := ⟨later h.1 k, h.2.1.on k, incl.own_call h.2.2.1 k, h.2.2.2⟩
set_option maxRecDepth 100000 in
set_option maxHeartbeats 16000000 in
theorem left_any (a0 a1 a2 a3 a4 a5 : Int) (ao : Option Addr) (len cap : Nat) (l : List (List Int)) (w : World) (hP : Pl w) (ta : Tops [a0, a1, a2, a3, a4, a5]) (hI : Zs w.heap.size w (.slice ao len cap) l) (h6 : Six l) (hl : l.length = len) (hm : len ≤ 1000000) :
    Calls Tryd.prog 10 #[.agg #[.int .i64 a0, .int .i64 a1, .int .i64 a2, .int .i64 a3, .int .i64 a4, .int .i64 a5], .slice ao len cap] w (Zans (LefR [a0, a1, a2, a3, a4, a5] l) w) := by
  have X : ∃ w0, w0 = (w.alloc (.cells #[.int .i64 a0, .int .i64 a1, .int .i64 a2, .int .i64 a3, .int .i64 a4, .int .i64 a5] 24)).alloc (.cells #[.int .i64 a0, .int .i64 a1, .int .i64 a2, .int .i64 a3, .int .i64 a4, .int .i64 a5] 24) := ⟨_, rfl⟩
  obtain ⟨w0, hX⟩ := X
  have DB : Below w.heap.size w w0 := by rw [hX]; exact bound.up2 _ _ _
  have D0 : lies.Lies w0 w.heap.size 24 #[.int .i64 a0, .int .i64 a1, .int .i64 a2, .int .i64 a3, .int .i64 a4, .int .i64 a5] := by rw [hX]; exact lies.on_alloc (lies.made _ _ _) _
  have D1 : lies.Lies w0 (w.heap.size + 1) 24 #[.int .i64 a0, .int .i64 a1, .int .i64 a2, .int .i64 a3, .int .i64 a4, .int .i64 a5] := by rw [hX]; exact lies.made_at _ _ _ _ (by simp)
  have P0 := hP.on DB
  have HTA := Lib.hid ta
  have HI := Lib.hid hI
  have H6 := Lib.hid h6
  have HL := Lib.hid hl
  clear hP ta hI h6 hl
  go_enter Tryd.func10, Tryd.ntmps10
  go_wp2_with fail
  rw [← hX]
  clear hX
  refine (chk_any _ 1 1 [[a0, a1, a2, a3, a4, a5]] w0 P0 (zs_box D1) (fun z hz => ?_) rfl (by decide)).mono ?_
  · rw [List.mem_singleton.1 hz]; exact ⟨rfl, HTA.out⟩
  rintro e w1 ⟨hB, f, rfl, hR⟩
  replace D0 := lies.on_call D0 hB
  replace P0 := P0.on hB
  replace DB := later DB hB
  clear hB D1
  rcases hR with ⟨hr, rfl⟩ | ⟨hr, rfl⟩
  · have HMA := Lib.hid (hr _ List.mem_cons_self)
    clear hr
    go_wp2_with fail
    refine (chk_any _ len cap l w1 P0 ((HI.out.below DB).mono DB.size) H6.out HL.out hm).mono ?_
    rintro e w2 ⟨hB, f, rfl, hR⟩
    replace D0 := lies.on_call D0 hB
    replace P0 := P0.on hB
    replace DB := later DB hB
    clear hB
    rcases hR with ⟨hr, rfl⟩ | ⟨hr, rfl⟩
    · have HML := Lib.hid hr
      clear hr
      obtain ⟨⟨x0, x1, x2, x3, x4, x5⟩, -, xl⟩ := six_cells D0
      go_wp2_with fail
      clear x0 x1 x2 x3 x4 x5 xl D0
      have hA := bound.up1 w2 (.cells #[.int .i64 a0, .int .i64 a1, .int .i64 a2, .int .i64 a3, .int .i64 a4, .int .i64 a5] 24)
      have hown := World.ownsRow_lit w2 (e := 24) (size := 6) #[.int .i64 a0, .int .i64 a1, .int .i64 a2, .int .i64 a3, .int .i64 a4, .int .i64 a5] 1 (Nat.le_refl _) (by decide) rfl
      have L0 : Lf w (.slice (some ⟨w2.heap.size, 0, none⟩) 1 1) [[a0, a1, a2, a3, a4, a5]] (w2.alloc (.cells #[.int .i64 a0, .int .i64 a1, .int .i64 a2, .int .i64 a3, .int .i64 a4, .int .i64 a5] 24)) := ⟨later DB hA, P0.on hA, own_far hown DB.size (fun _ _ _ q => q), fun z hz => by rw [List.mem_singleton.1 hz]; exact ⟨HMA.out, HTA.out, rfl⟩, by show 1 ≤ 4096; decide⟩
      clear hA hown P0 DB
      go_loopw [28, 8] (fun i v wr => ∃ (k : Nat) (cur : List (List Int)), k ≤ len ∧ i = .int .i64 k ∧ Lf w v cur wr ∧ RowKit.Hid (∀ r f, RestP (l.drop k) cur r f → RestP l [[a0, a1, a2, a3, a4, a5]] r f)) (fun i _ _ => len - (intOf i).toNat)
      case atStart => exact ⟨0, [[a0, a1, a2, a3, a4, a5]], Nat.zero_le _, rfl, L0, Lib.hid (fun r f q => q)⟩
      case round =>
        clear L0
        obtain ⟨k, cur, hk, rfl, hL, HC⟩ := hrel
        obtain ⟨av, cv, rfl⟩ := zs_len (zs_own hL.2.2.1)
        by_cases hkn : k < len
        · have hkz : k < l.length := by rw [HL.out]; exact hkn
          obtain ⟨bq, off, rfl, -, hb, c0, c1, c2, c3, c4, c5⟩ := zs_at (HI.out.below hL.1) hkz
          have hbr : bq < wr.heap.size := Nat.lt_of_lt_of_le hb hL.1.size
          have hzk : Zo (zat l k) := ⟨HML.out _ (zat_mem hkz), (H6.out _ (zat_mem hkz)).2, (H6.out _ (zat_mem hkz)).1⟩
          have hdrop : l.drop k = zat l k :: l.drop (k + 1) := by
            rw [List.drop_eq_getElem_cons hkz]
            unfold zat
            rw [List.getElem?_eq_getElem hkz]
            rfl
          generalize zat l k = zk at c0 c1 c2 c3 c4 c5 hzk hdrop
          obtain ⟨z0, z1, z2, z3, z4, z5, rfl⟩ := six hzk.2.2
          have c0 : wr.cell? ⟨bq, off + k * 6, none⟩ = some (.int .i64 z0) := c0
          have c1 : wr.cell? ⟨bq, off + k * 6 + 1, none⟩ = some (.int .i64 z1) := c1
          have c2 : wr.cell? ⟨bq, off + k * 6 + 2, none⟩ = some (.int .i64 z2) := c2
          have c3 : wr.cell? ⟨bq, off + k * 6 + 3, none⟩ = some (.int .i64 z3) := c3
          have c4 : wr.cell? ⟨bq, off + k * 6 + 4, none⟩ = some (.int .i64 z4) := c4
          have c5 : wr.cell? ⟨bq, off + k * 6 + 5, none⟩ = some (.int .i64 z5) := c5
          have HZK := Lib.hid hzk
          have HDR := Lib.hid hdrop
          clear hzk hdrop
          go_wp2_with fail
          clear c0 c1 c2 c3 c4 c5
          replace hL := hL.below (bound.up1 wr (.cells #[.int .i64 z0, .int .i64 z1, .int .i64 z2, .int .i64 z3, .int .i64 z4, .int .i64 z5] 24))
          generalize wr.heap.size = ZB
          generalize wr.alloc (.cells #[.int .i64 z0, .int .i64 z1, .int .i64 z2, .int .i64 z3, .int .i64 z4, .int .i64 z5] 24) = w3 at hL ⊢
          refine (less_any _ cur.length _ cur z0 z1 z2 z3 z4 z5 w3 hL.2.1 (zs_own hL.2.2.1) hL.2.2.2.1 HZK.out rfl (Nat.le_trans hL.2.2.2.2 (by decide))).mono ?_
          rintro e w4 ⟨hB, v, r, f, rfl, hR, hO⟩
          have hD := hL.1.size
          have hO2 := own_far hO hD (fun _ _ _ q => q)
          replace hL := hL.below hB
          have HR := Lib.hid hR
          have HO := Lib.hid hO2
          clear hB hR hO hO2 hD
          by_cases hf : f = 0
          · subst hf
            obtain ⟨k1, k2⟩ := stepP_ok HZK.out.2.1 HZK.out.1 cur hL.2.2.2.1 (Nat.zero_le _) HR.out
            have k3 := step_zo HZK.out.2.1 HZK.out.1 cur hL.2.2.2.1 (fun x hx => by cases hx) k1
            have HL2 : Lf w v r w4 := ⟨hL.1, hL.2.1, HO.out, k3, k2⟩
            clear k1 k2 k3 HO hL
            go_wp2_with fail
            go_roundw
            case rel => exact ⟨k + 1, r, by omega, by go_num, HL2, Lib.hid (fun r' f' q => HC.out r' f' (by rw [HDR.out]; exact ⟨r, 0, HR.out, .inr ⟨rfl, q⟩⟩))⟩
            case measure => simp [intOf]; omega
          · have HB := Lib.hid hL.1
            have HF := Lib.hid hf
            clear hL
            go_wp2_with fail
            exact bodyPost_ret (v := .tuple #[.slice none 0 0, .int .i64 f]) (by simp [results, Tryd.results10, go_sem]) rfl ⟨HB.out, _, [], f, rfl, .inr ⟨HMA.out, HML.out, HC.out [] f (by rw [HDR.out]; exact ⟨r, f, HR.out, .inl ⟨HF.out, rfl, rfl⟩⟩)⟩, World.ownsRow_nil _ _ _ _⟩
        · obtain rfl : len = k := by omega
          have HLL := Lib.hid hL
          clear hL
          go_wp2_with fail
          exact bodyPost_ret (v := .tuple #[.slice av cur.length cv, .int .i64 0]) (by simp [results, Tryd.results10, go_sem]) rfl ⟨HLL.out.1, _, cur, 0, rfl, .inr ⟨HMA.out, HML.out, HC.out cur 0 (by rw [← HL.out, List.drop_length]; exact ⟨rfl, rfl⟩)⟩, HLL.out.2.2.1⟩
    · have HR := Lib.hid hr
      clear hr D0
      go_wp2_with fail
      refine bodyPost_ret (v := .tuple #[.slice none 0 0, .int .i64 8]) (by simp [results, Tryd.results10, go_sem]) rfl ⟨DB, _, [], 8, rfl, .inl ⟨fun q => ?_, rfl, rfl⟩, World.ownsRow_nil _ _ _ _⟩
      obtain ⟨z, hz, hn⟩ := HR.out
      exact hn (q.2 z hz)
  · have HR := Lib.hid hr
    clear hr D0
    go_wp2_with fail
    refine bodyPost_ret (v := .tuple #[.slice none 0 0, .int .i64 8]) (by simp [results, Tryd.results10, go_sem]) rfl ⟨DB, _, [], 8, rfl, .inl ⟨fun q => ?_, rfl, rfl⟩, World.ownsRow_nil _ _ _ _⟩
    obtain ⟨z, hz, hn⟩ := HR.out
    rw [List.mem_singleton.1 hz] at hn
    exact hn q.1
end Go.Proofs.YtkfnjdmjojodhaaDoor.minus
