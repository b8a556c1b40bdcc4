/-
  What the document's own Drop, Grow and Move of layer 7 answer; each theorem names its conditions.
-/
import Derived.Test.YtikjkmhnimpbhaaProjE
namespace Go.Proofs.Ytikjkmhnimpbhaa.pref
open Go.Joins Go.ChangeShapes Go.WideShapes Go.ChangeAt Go.RowKit num rat dbm Go.Proofs.Ytikjkmhnimpbhaa.tight Go.Proofs.Ytikjkmhnimpbhaa.proj
open bound hiding up
set_option linter.unusedVariables false
set_option linter.unusedSimpArgs false

/-- a matrix, or none, and a number: the document's own. -/
def RGv (R : Int → List Int → Int → Prop) (w : World) (e : Ending) (w' : World) : Prop := Below w.heap.size w w' ∧ ∃ (na : Int) (aa : Option Addr) (la ca : Nat) (us : List Int) (f : Int), e = .returned (.tuple #[.agg #[.int .i64 na, .slice aa la ca], .int .i64 f]) ∧ R na us f ∧ law.Ints w'.heap.size w' (.slice aa la ca) us
theorem RGv.no {R : Int → List Int → Int → Prop} {q : Nat} {err : Int} {w W : World} {u v : Value} (hB : Below w.heap.size w W) (hq : w.heap.size ≤ q) (k : R 0 [] err) :
    RGv R w (.returned (.tuple #[.agg #[.int .i64 0, .slice none 0 0], .int .i64 err])) ((W.setCell ⟨q, 0, none⟩ u).setCell ⟨q, 1, none⟩ v) :=
  ⟨(hB.setCell (p := ⟨q, 0, none⟩) hq _).setCell (p := ⟨q, 1, none⟩) hq _, 0, none, 0, 0, [], err, rfl, k, .inl ⟨⟨_, _, rfl, fun _ => rfl⟩, rfl⟩⟩
theorem RGv.yes {R : Int → List Int → Int → Prop} {q g m cc : Nat} {us : List Int} {w W : World} {u v : Value} (hB : Below w.heap.size w W) (hq : w.heap.size ≤ q) (hne : g ≠ q) (hg : g < W.heap.size) (hr : Row W g 0 us) (hl : us.length = m * m) (k : R m us 0) :
    RGv R w (.returned (.tuple #[.agg #[.int .i64 m, .slice (some ⟨g, 0, none⟩) (m * m) cc], .int .i64 0])) ((W.setCell ⟨q, 0, none⟩ u).setCell ⟨q, 1, none⟩ v) :=
  ⟨(hB.setCell (p := ⟨q, 0, none⟩) hq _).setCell (p := ⟨q, 1, none⟩) hq _, m, _, _, _, us, 0, rfl, k, .inr ⟨g, 0, cc, by rw [hl], by simpa using hg, fun j hj => by
    have h1 := hr j hj
    have h2 := World.cell?_of_block (a := ⟨g, 0 + j, none⟩) (Below.heap_setCell (W.setCell ⟨q, 0, none⟩ u) ⟨q, 1, none⟩ v g hne)
    have h3 := World.cell?_of_block (a := ⟨g, 0 + j, none⟩) (Below.heap_setCell W ⟨q, 0, none⟩ u g hne)
    exact h2.trans (h3.trans h1)⟩⟩

set_option maxRecDepth 100000 in
set_option maxHeartbeats 4000000 in
theorem rgrow_any (n : Int) (sv : Value) (ts : List Int) (w : World) (hI : law.Ints w.heap.size w sv ts) (hm : ts.length ≤ 1000000) (hlo : dref.Low ts) (htop : Tops ts) :
    Calls Try.prog 17 #[.agg #[.int .i64 n, sv]] w (RGv (GrowR n ts) w) := by
  obtain ⟨DB, D0, D1⟩ := dref.box_res n sv w
  have C := Lib.hid (dref.may_any n sv ts _ ((hI.below DB).mono DB.size) hm hlo htop)
  by_cases hmay : MayD n ts
  · rw [decide_eq_true hmay] at C
    obtain ⟨m, rfl, h0, hn, hl⟩ := may_nat hmay
    obtain ⟨b, off, cap, rfl, hb, hr⟩ := ints_form hI (by rw [hl]; exact Nat.mul_pos h0 h0)
    rw [hl] at C D0 D1 DB ⊢
    have HM := Lib.hid hmay
    have HR := Lib.hid hr
    have HL := Lib.hid hl
    clear hI hm hlo htop hmay hr hl
    by_cases h4 : m = 4
    · have t1 : (m : Int) = 4 := by omega
      have hg : GrowR m ts 0 [] 9 := .inr (.inl ⟨HM.out, t1, rfl, rfl, rfl⟩)
      have HG := Lib.hid hg
      clear h4 hg
      rw [t1] at C D0 D1 DB HG ⊢
      clear t1 HM
      go_enter Try.func17, Try.ntmps17
      go_wp2_with fail
      generalize (w.alloc (.cells #[.int .i64 4, .slice (some ⟨b, off, none⟩) (m * m) cap] 24)).alloc (.cells #[.int .i64 0, .slice none 0 0] 24) = w0 at D0 D1 DB C ⊢
      refine C.out.mono ?_
      rintro e w1 ⟨rfl, hB⟩
      have E0 := lies.on_call D0 hB
      have E1 := lies.on_call D1 hB
      have EB := DB.trans (hB.mono DB.size)
      clear D0 D1 DB hB C
      obtain ⟨x0, x1, x2, x3, x4⟩ := lies.two E0
      obtain ⟨y0, y1, y2, y3, y4⟩ := lies.two E1
      go_wp2_with fail
      exact bodyPost_ret (v := .tuple #[.agg #[.int .i64 0, .slice none 0 0], .int .i64 9]) (by simp [results, Try.results17, go_sem, y0, y1]) rfl (RGv.no EB (by omega) HG.out)
    · have t1 : (m : Int) < 4 := by omega
      have HG : RowKit.Hid (GrowR m ts ((m + 1 : Nat) : Int) (growT m ts) 0) := Lib.hid (.inr (.inr ⟨HM.out, t1, rfl, rfl, rfl⟩))
      have t2 : ¬ (4 : Int) ≤ m := by omega
      have h4' : m + 1 ≤ 4 := by omega
      clear h4
      go_enter Try.func17, Try.ntmps17
      go_wp2_with fail
      generalize (w.alloc (.cells #[.int .i64 m, .slice (some ⟨b, off, none⟩) (m * m) cap] 24)).alloc (.cells #[.int .i64 0, .slice none 0 0] 24) = w0 at D0 D1 DB C ⊢
      refine C.out.mono ?_
      rintro e w1 ⟨rfl, hB⟩
      have E0 := lies.on_call D0 hB
      have E1 := lies.on_call D1 hB
      have EB := DB.trans (hB.mono DB.size)
      clear D0 D1 DB hB C
      obtain ⟨x0, x1, x2, x3, x4⟩ := lies.two E0
      go_wp2_with fail
      clear x0 x1 x2 x3 x4
      have hbw := Nat.lt_of_lt_of_le hb EB.size
      obtain ⟨m2, hm2⟩ : ∃ m2, m + 1 = m2 := ⟨_, rfl⟩
      refine (more_at m m2 b off cap ts w1 h0 hm2 (by omega) (HR.out.below EB hb) hbw HL.out).mono ?_
      rintro e w2 ⟨hB2, g, cc, rfl, hrow, hgl, hg1⟩
      have hl2 := moreT_length m m2 ts m 0
      have hfin : GrowR m ts (m2 : Int) (moreT m m2 ts m 0) 0 := by
        have := HG.out
        rw [← hm2, moreT_all]
        exact this
      have HFIN := Lib.hid hfin
      have HROW := Lib.hid hrow
      have HL2 := Lib.hid hl2
      have F1 := lies.on_call E1 hB2
      have FB := EB.trans (hB2.mono EB.size)
      have hlt := lies.lt E1
      rw [hm2] at HG
      clear E0 E1 EB hB2 hfin hrow hl2
      obtain ⟨y0, y1, y2, y3, y4⟩ := lies.two F1
      go_wp2_with fail
      exact bodyPost_ret (v := .tuple #[.agg #[.int .i64 m2, .slice (some ⟨g, 0, none⟩) (m2 * m2) cc], .int .i64 0]) (by simp [results, Try.results17, go_sem, y0, y1]) rfl (RGv.yes FB (by omega) (by omega) hgl HROW.out HL2.out HFIN.out)
  · rw [decide_eq_false hmay] at C
    have HG : RowKit.Hid (GrowR n ts 0 [] 8) := Lib.hid (.inl ⟨hmay, rfl, rfl, rfl⟩)
    clear hI hm hlo htop hmay
    go_enter Try.func17, Try.ntmps17
    go_wp2_with fail
    generalize (w.alloc (.cells #[.int .i64 n, sv] 24)).alloc (.cells #[.int .i64 0, .slice none 0 0] 24) = w0 at D0 D1 DB C ⊢
    refine C.out.mono ?_
    rintro e w1 ⟨rfl, hB⟩
    have E1 := lies.on_call D1 hB
    have EB := DB.trans (hB.mono DB.size)
    clear D0 D1 DB hB C
    obtain ⟨y0, y1, y2, y3, y4⟩ := lies.two E1
    go_wp2_with fail
    exact bodyPost_ret (v := .tuple #[.agg #[.int .i64 0, .slice none 0 0], .int .i64 8]) (by simp [results, Try.results17, go_sem, y0, y1]) rfl (RGv.no EB (by omega) HG.out)
set_option maxRecDepth 100000 in
set_option maxHeartbeats 4000000 in
theorem rmove_any (n : Int) (sv ov : Value) (ts os : List Int) (w : World) (hI : law.Ints w.heap.size w sv ts) (hm : ts.length ≤ 1000000) (hlo : dref.Low ts) (htop : Tops ts) (hO : law.Ints w.heap.size w ov os) :
    Calls Try.prog 18 #[.agg #[.int .i64 n, sv], ov] w (RGv (MoveR n ts os) w) := by
  obtain ⟨DB, D0, D1⟩ := dref.box_res n sv w
  obtain ⟨oa, oc, rfl⟩ := ints_len hO
  have C := Lib.hid (dref.may_any n sv ts _ ((hI.below DB).mono DB.size) hm hlo htop)
  by_cases hmay : MayD n ts
  · rw [decide_eq_true hmay] at C
    obtain ⟨m, rfl, h0, hn, hl⟩ := may_nat hmay
    obtain ⟨b, off, cap, rfl, hb, hr⟩ := ints_form hI (by rw [hl]; exact Nat.mul_pos h0 h0)
    rw [hl] at C D0 D1 DB ⊢
    have HM := Lib.hid hmay
    have HR := Lib.hid hr
    have HL := Lib.hid hl
    have HO := Lib.hid hO
    clear hI hm hlo htop hmay hr hl hO
    go_enter Try.func18, Try.ntmps18
    go_wp2_with fail
    generalize (w.alloc (.cells #[.int .i64 m, .slice (some ⟨b, off, none⟩) (m * m) cap] 24)).alloc (.cells #[.int .i64 0, .slice none 0 0] 24) = w0 at D0 D1 DB C ⊢
    refine C.out.mono ?_
    rintro e w1 ⟨rfl, hB⟩
    have E0 := lies.on_call D0 hB
    have E1 := lies.on_call D1 hB
    have EB := DB.trans (hB.mono DB.size)
    clear D0 D1 DB hB C
    obtain ⟨x0, x1, x2, x3, x4⟩ := lies.two E0
    go_wp2_with fail
    clear x0 x1 x2 x3 x4
    refine (mayord_any m (.slice oa os.length oc) os w1 h0 hn ((HO.out.below EB).mono EB.size)).mono ?_
    rintro e w2 ⟨r, rfl, hr, hB⟩
    replace E0 := lies.on_call E0 hB
    replace E1 := lies.on_call E1 hB
    replace EB := EB.trans (hB.mono EB.size)
    clear hB
    cases r with
    | false =>
      have hno : ¬ proj.Ord m os := fun h => absurd (hr.2 h) (by decide)
      have HG : RowKit.Hid (MoveR m ts os 0 [] 2) := Lib.hid (.inr (.inl ⟨HM.out, hno, rfl, rfl, rfl⟩))
      clear hr hno
      obtain ⟨y0, y1, y2, y3, y4⟩ := lies.two E1
      go_wp2_with fail
      exact bodyPost_ret (v := .tuple #[.agg #[.int .i64 0, .slice none 0 0], .int .i64 2]) (by simp [results, Try.results18, go_sem, y0, y1]) rfl (RGv.no EB (by omega) HG.out)
    | true =>
      have hord := hr.1 rfl
      obtain ⟨ob, oo, od, eo, hob, hor⟩ := ints_form HO.out (by rw [hord.1]; exact h0)
      injection eo with eo1 eo2 eo3
      subst eo1
      subst eo3
      rw [hord.1]
      have HG : RowKit.Hid (MoveR m ts os m (moveT m (ordF os) ts) 0) := Lib.hid (.inr (.inr ⟨HM.out, hord, rfl, rfl, rfl⟩))
      have HOR := Lib.hid hord
      have HRO := Lib.hid hor
      clear hr hord hor HO eo2
      obtain ⟨x0, x1, x2, x3, x4⟩ := lies.two E0
      go_wp2_with fail
      clear x0 x1 x2 x3 x4
      have hbw := Nat.lt_of_lt_of_le hb EB.size
      have how := Nat.lt_of_lt_of_le hob EB.size
      refine (moved_is m b off cap ob oo oc (ordF os) ts w2 h0 hn (HR.out.below EB hb) hbw HL.out (fun i hi => (ord_nat HOR.out hi).1) how (fun i hi => ?_)).mono ?_
      · have := (HRO.out.below EB hob) i (by rw [HOR.out.1]; exact hi)
        rwa [(ord_nat HOR.out hi).2] at this
      rintro e w3 ⟨hB2, g, cc, rfl, hrow, hgl, hg1⟩
      have hl2 : (moveT m (ordF os) ts).length = m * m := laidT_length _ _ _ _
      have HROW := Lib.hid hrow
      have HL2 := Lib.hid hl2
      have F1 := lies.on_call E1 hB2
      have FB := EB.trans (hB2.mono EB.size)
      have hlt := lies.lt E1
      clear E0 E1 EB hB2 hrow hl2
      obtain ⟨y0, y1, y2, y3, y4⟩ := lies.two F1
      go_wp2_with fail
      exact bodyPost_ret (v := .tuple #[.agg #[.int .i64 (m : Int), .slice (some ⟨g, 0, none⟩) (m * m) cc], .int .i64 0]) (by simp [results, Try.results18, go_sem, y0, y1]) rfl (RGv.yes FB (by omega) (by omega) hgl HROW.out HL2.out HG.out)
  · rw [decide_eq_false hmay] at C
    have HG : RowKit.Hid (MoveR n ts os 0 [] 8) := Lib.hid (.inl ⟨hmay, rfl, rfl, rfl⟩)
    clear hI hm hlo htop hmay hO
    go_enter Try.func18, Try.ntmps18
    go_wp2_with fail
    generalize (w.alloc (.cells #[.int .i64 n, sv] 24)).alloc (.cells #[.int .i64 0, .slice none 0 0] 24) = w0 at D0 D1 DB C ⊢
    refine C.out.mono ?_
    rintro e w1 ⟨rfl, hB⟩
    have E1 := lies.on_call D1 hB
    have EB := DB.trans (hB.mono DB.size)
    clear D0 D1 DB hB C
    obtain ⟨y0, y1, y2, y3, y4⟩ := lies.two E1
    go_wp2_with fail
    exact bodyPost_ret (v := .tuple #[.agg #[.int .i64 0, .slice none 0 0], .int .i64 8]) (by simp [results, Try.results18, go_sem, y0, y1]) rfl (RGv.no EB (by omega) HG.out)

set_option maxRecDepth 100000 in
set_option maxHeartbeats 4000000 in
theorem rdrop_any (n k : Int) (sv : Value) (ts : List Int) (w : World) (hI : law.Ints w.heap.size w sv ts) (hm : ts.length ≤ 1000000) (hlo : dref.Low ts) (htop : Tops ts) :
    Calls Try.prog 16 #[.agg #[.int .i64 n, sv], .int .i64 k] w (RGv (DropR n ts k) w) := by
  obtain ⟨DB, D0, D1⟩ := dref.box_res n sv w
  have C := Lib.hid (dref.may_any n sv ts _ ((hI.below DB).mono DB.size) hm hlo htop)
  by_cases hmay : MayD n ts
  · rw [decide_eq_true hmay] at C
    obtain ⟨m, rfl, h0, hn, hl⟩ := may_nat hmay
    obtain ⟨b, off, cap, rfl, hb, hr⟩ := ints_form hI (by rw [hl]; exact Nat.mul_pos h0 h0)
    rw [hl] at C D0 D1 DB ⊢
    have HM := Lib.hid hmay
    have HR := Lib.hid hr
    have HL := Lib.hid hl
    have HT := Lib.hid htop
    clear hI hm hlo htop hmay hr hl
    by_cases hk : Kc m k
    · obtain ⟨k1, k2⟩ := hk
      obtain ⟨q, rfl⟩ : ∃ q : Nat, k = q := ⟨k.toNat, by omega⟩
      have t1 : ¬ (q : Int) < 1 := by omega
      have t2 : ¬ (m : Int) ≤ (q : Int) := by omega
      have HKC : RowKit.Hid (Kc m q) := Lib.hid ⟨k1, k2⟩
      have q1 : 1 ≤ q := by omega
      have q2 : q < m := by omega
      go_enter Try.func16, Try.ntmps16
      go_wp2_with fail
      generalize (w.alloc (.cells #[.int .i64 m, .slice (some ⟨b, off, none⟩) (m * m) cap] 24)).alloc (.cells #[.int .i64 0, .slice none 0 0] 24) = w0 at D0 D1 DB C ⊢
      refine C.out.mono ?_
      rintro e w1 ⟨rfl, hB⟩
      have E0 := lies.on_call D0 hB
      have E1 := lies.on_call D1 hB
      have EB := DB.trans (hB.mono DB.size)
      clear D0 D1 DB hB C
      obtain ⟨x0, x1, x2, x3, x4⟩ := lies.two E0
      go_wp2_with fail
      clear x0 x1 x2 x3 x4
      have hbw := Nat.lt_of_lt_of_le hb EB.size
      refine (dref.closed_is m b off cap ts w1 h0 hn HL.out HM.out.2.2.2 ⟨HR.out.below EB hb, hbw⟩).mono ?_
      rintro e w2 ⟨hB2, ⟨hx, rfl⟩ | ⟨hx, v, rfl, hO⟩⟩
      · have F1 := lies.on_alloc (lies.on_call E1 hB2) (.cells #[.int .i64 0, .slice none 0 0] 24)
        have FB := lies.frame_up (EB.trans (hB2.mono EB.size)) (.cells #[.int .i64 0, .slice none 0 0] 24)
        have HG : RowKit.Hid (DropR m ts q 0 [] 6) := Lib.hid (.inr (.inr (.inl ⟨HM.out, HKC.out, (fun ⟨_, h0', hne⟩ => by
          obtain ⟨x, hxn, hx⟩ := hx
          exact hx (dref.round_ok h0 hn HL.out HT.out HM.out.2.2.2 (fun k hk => hne k (by simpa using hk)) hxn)), rfl, rfl, rfl⟩)))
        clear E0 E1 EB hB2 hx
        obtain ⟨y0, y1, y2, y3, y4⟩ := lies.two F1
        go_wp2_with fail
        exact bodyPost_ret (v := .tuple #[.agg #[.int .i64 0, .slice none 0 0], .int .i64 6]) (by simp [results, Try.results16, go_sem, y0, y1]) rfl (RGv.no FB (by omega) HG.out)
      · have hpp : 0 < m * m := Nat.mul_pos h0 h0
        obtain ⟨g, gc, rfl⟩ : ∃ g gc, v = .slice (some ⟨g, 0, none⟩) (m * m) gc := by
          rcases Go.Joins.ownsRow_forms hO with ⟨_, h⟩ | ⟨g, gc, h⟩
          · omega
          · exact ⟨g, gc, h⟩
        have hne : ∀ k, k ≤ m → ¬ emp m (tabs m h0 ts k) := fun k hk he => by
          obtain ⟨x, hxn, hnx⟩ := dref.round_bad h0 hn HL.out HT.out HM.out.2.2.2 k hk he
          exact hnx (hx x hxn)
        have hok : OkD (m : Int) ts := ⟨HM.out, by simpa using h0, fun k hk => hne k (by simpa using hk)⟩
        rw [dref.clP_is h0 hn HL.out HT.out HM.out.2.2.2 hne, ← clT_nat h0] at hO
        have hlc : (clT (m : Int) ts).length = m * m := (clT_length hok).trans HL.out
        have hgg := hO.lt g rfl
        have hrow := tref.own_row (hO.alloc (.cells #[.int .i64 m, .slice (some ⟨g, 0, none⟩) (m * m) gc] 24)) hlc
        have HRW := Lib.hid hrow
        have HLC := Lib.hid hlc
        have HG : RowKit.Hid (DropR m ts q ((m - 1 : Nat) : Int) (dropT m q ts) 0) := Lib.hid (.inr (.inr (.inr ⟨hok, HKC.out, rfl, rfl, rfl⟩)))
        have F1 := lies.on_alloc (lies.on_call E1 hB2) (.cells #[.int .i64 m, .slice (some ⟨g, 0, none⟩) (m * m) gc] 24)
        have F2 := lies.made w2 24 #[.int .i64 m, .slice (some ⟨g, 0, none⟩) (m * m) gc]
        have FB := lies.frame_up (EB.trans (hB2.mono EB.size)) (.cells #[.int .i64 m, .slice (some ⟨g, 0, none⟩) (m * m) gc] 24)
        clear E0 E1 EB hB2 hx hO hne hok hlc hrow
        obtain ⟨y0, y1, y2, y3, y4⟩ := lies.two F2
        go_wp2_with fail
        clear y0 y1 y2 y3 y4 F2
        refine (without_is m q g 0 gc (clT (m : Int) ts) _ h0 hn q1 q2 HRW.out (by simp; omega) HLC.out).mono ?_
        rintro e w4 ⟨hB3, g2, cc, rfl, hrow, hgl, hg1⟩
        have hl2 : (dropT m q ts).length = (m - 1) * (m - 1) := laidT_length _ _ _ _
        have HROW := Lib.hid hrow
        have HL2 := Lib.hid hl2
        have G1 := lies.on_call F1 hB3
        have GB := FB.trans (hB3.mono FB.size)
        have hlt := lies.lt F1
        clear F1 FB hB3 hrow hl2
        obtain ⟨y0, y1, y2, y3, y4⟩ := lies.two G1
        go_wp2_with fail
        exact bodyPost_ret (v := .tuple #[.agg #[.int .i64 ((m - 1 : Nat) : Int), .slice (some ⟨g2, 0, none⟩) ((m - 1) * (m - 1)) cc], .int .i64 0]) (by simp [results, Try.results16, go_sem, y0, y1]) rfl (RGv.yes GB (by omega) (by omega) hgl HROW.out HL2.out HG.out)
    · have HG : RowKit.Hid (DropR m ts k 0 [] 2) := Lib.hid (.inr (.inl ⟨HM.out, hk, rfl, rfl, rfl⟩))
      by_cases k1 : k < 1
      · clear hk
        go_enter Try.func16, Try.ntmps16
        go_wp2_with fail
        generalize (w.alloc (.cells #[.int .i64 m, .slice (some ⟨b, off, none⟩) (m * m) cap] 24)).alloc (.cells #[.int .i64 0, .slice none 0 0] 24) = w0 at D0 D1 DB C ⊢
        refine C.out.mono ?_
        rintro e w1 ⟨rfl, hB⟩
        have E0 := lies.on_call D0 hB
        have E1 := lies.on_call D1 hB
        have EB := DB.trans (hB.mono DB.size)
        clear D0 D1 DB hB C
        obtain ⟨x0, x1, x2, x3, x4⟩ := lies.two E0
        obtain ⟨y0, y1, y2, y3, y4⟩ := lies.two E1
        go_wp2_with fail
        exact bodyPost_ret (v := .tuple #[.agg #[.int .i64 0, .slice none 0 0], .int .i64 2]) (by simp [results, Try.results16, go_sem, y0, y1]) rfl (RGv.no EB (by omega) HG.out)
      · have k2 : (m : Int) ≤ k := Decidable.byContradiction fun h => hk ⟨by omega, by omega⟩
        clear hk
        go_enter Try.func16, Try.ntmps16
        go_wp2_with fail
        generalize (w.alloc (.cells #[.int .i64 m, .slice (some ⟨b, off, none⟩) (m * m) cap] 24)).alloc (.cells #[.int .i64 0, .slice none 0 0] 24) = w0 at D0 D1 DB C ⊢
        refine C.out.mono ?_
        rintro e w1 ⟨rfl, hB⟩
        have E0 := lies.on_call D0 hB
        have E1 := lies.on_call D1 hB
        have EB := DB.trans (hB.mono DB.size)
        clear D0 D1 DB hB C
        obtain ⟨x0, x1, x2, x3, x4⟩ := lies.two E0
        obtain ⟨y0, y1, y2, y3, y4⟩ := lies.two E1
        go_wp2_with fail
        exact bodyPost_ret (v := .tuple #[.agg #[.int .i64 0, .slice none 0 0], .int .i64 2]) (by simp [results, Try.results16, go_sem, y0, y1]) rfl (RGv.no EB (by omega) HG.out)
  · rw [decide_eq_false hmay] at C
    have HG : RowKit.Hid (DropR n ts k 0 [] 8) := Lib.hid (.inl ⟨hmay, rfl, rfl, rfl⟩)
    clear hI hm hlo htop hmay
    go_enter Try.func16, Try.ntmps16
    go_wp2_with fail
    generalize (w.alloc (.cells #[.int .i64 n, sv] 24)).alloc (.cells #[.int .i64 0, .slice none 0 0] 24) = w0 at D0 D1 DB C ⊢
    refine C.out.mono ?_
    rintro e w1 ⟨rfl, hB⟩
    have E1 := lies.on_call D1 hB
    have EB := DB.trans (hB.mono DB.size)
    clear D0 D1 DB hB C
    obtain ⟨y0, y1, y2, y3, y4⟩ := lies.two E1
    go_wp2_with fail
    exact bodyPost_ret (v := .tuple #[.agg #[.int .i64 0, .slice none 0 0], .int .i64 8]) (by simp [results, Try.results16, go_sem, y0, y1]) rfl (RGv.no EB (by omega) HG.out)
end Go.Proofs.Ytikjkmhnimpbhaa.pref
