/-
  DbmLess answers true for every matrix, place and number; no condition.
-/
import Derived.Test.YtlagnbbbokgdfaaDbmCloseAny
import Derived.Test.YtlagnbbbokgdfaaDbmLaw
import Derived.Test.YtlagnbbbokgdfaaDbmRef2
import Derived.OpenShut
import Derived.BigQuiet
namespace Go.Proofs.Ytlagnbbbokgdfaa.dbmLess
open Go.ChangeShapes Go.WideShapes Go.ChangeAt Go.RowKit num dbm dlaw
open bound hiding up
set_option linter.unusedVariables false
set_option linter.unusedSimpArgs false

set_option maxRecDepth 100000 in
set_option maxHeartbeats 1000000 in
theorem walk_far (n : Int) (sv : Value) (ts : List Int) (a b : Int) (w : World) (hI : law.Ints w.heap.size w sv ts) (h : 1000 < ts.length ∨ ts.length = 0) : Calls Try.prog 8 #[.agg #[.int .i64 n, sv], .int .u8 a, .int .u8 b] w fun e w' => e = .returned (.bool true) ∧ Below w.heap.size w w' := by
  obtain ⟨ad, cap, rfl⟩ := ints_len hI
  clear hI
  generalize ts.length = m at h
  have D0 := lies.made w 27 #[.int .i64 n, .slice ad m cap]
  by_cases h1 : 1000 < m
  · have t1 : (1000 : Int) < m := by omega
    clear h
    go_enter Try.func8, Try.ntmps8
    go_wp2_with fail
    refine (alive_yes _).mono ?_
    rintro e w1 ⟨rfl, hB1⟩
    have D1 := lies.on_call D0 hB1
    have K1 : Below w.heap.size w w1 := ((Below.refl _ w).alloc (Nat.le_refl _) _).trans (hB1.mono (by simp))
    obtain ⟨c0, c1, c2, c3, c4⟩ := lies.two D1
    clear D0 D1 hB1
    go_wp2_with fail
    go_ret
    exact ⟨rfl, K1⟩
  · obtain rfl : m = 0 := by omega
    clear h h1
    go_enter Try.func8, Try.ntmps8
    go_wp2_with fail
    refine (alive_yes _).mono ?_
    rintro e w1 ⟨rfl, hB1⟩
    have D1 := lies.on_call D0 hB1
    have K1 : Below w.heap.size w w1 := ((Below.refl _ w).alloc (Nat.le_refl _) _).trans (hB1.mono (by simp))
    obtain ⟨c0, c1, c2, c3, c4⟩ := lies.two D1
    clear D0 D1 hB1
    go_wp2_with fail
    go_ret
    exact ⟨rfl, K1⟩

/-- what lies there while two are closed. -/
def LsI (n : Int) (b off len cap g c Bl B : Nat) (ts us : List Int) (w W : World) : Prop :=
  lies.Lies W w.heap.size 27 #[.int .i64 n, .slice (some ⟨b, off, none⟩) len cap] ∧ lies.Lies W Bl 27 #[.int .i64 n, .slice (some ⟨g, 0, none⟩) len c] ∧ W.ownsRow B 29 1 (.slice (some ⟨g, 0, none⟩) len c) len (us.map (Value.int .i64)) ∧ Row W b off ts ∧ Below w.heap.size w W
theorem own_below {W X : World} {B len : Nat} {v : Value} {xs : List Value} (h : W.ownsRow B 29 1 v len xs) (k : Below W.heap.size W X) : X.ownsRow B 29 1 v len xs :=
  h.kept (row := none) ⟨k.os, k.tape, k.output, k.size, fun i hi _ => k.block i hi⟩ (by cases v.ownBlock <;> simp)
theorem LsI.below {n : Int} {b off len cap g c Bl B : Nat} {ts us : List Int} {w W X : World} (h : LsI n b off len cap g c Bl B ts us w W) (hb : b < w.heap.size) (k : Below W.heap.size W X) : LsI n b off len cap g c Bl B ts us w X :=
  ⟨lies.on_call h.1 k, lies.on_call h.2.1 k, own_below h.2.2.1 k, h.2.2.2.1.below k (Nat.lt_of_lt_of_le hb h.2.2.2.2.size), h.2.2.2.2.trans (k.mono h.2.2.2.2.size)⟩
theorem LsI.ints {n : Int} {b off len cap g c Bl B : Nat} {ts us : List Int} {w W : World} (h : LsI n b off len cap g c Bl B ts us w W) (hl : us.length = len) : law.Ints W.heap.size W (.slice (some ⟨g, 0, none⟩) len c) us := dref.ints_own (base := B) (by rw [hl]; exact h.2.2.1)
/-- the bound that is less. -/
def lessV (x b : Int) : Int := if x = 9223372036854775807 then b else wrap64 (x - b)

/-- the walk up to the two calls of Close. -/
def Ends (Q : World → Prop) (e : Ending) (w' : World) : Prop := e = .returned (.bool true) ∧ Q w'
set_option maxRecDepth 100000 in
set_option maxHeartbeats 4000000 in
theorem walk_x (n : Int) (b off len cap : Nat) (ts : List Int) (a by' : Int) (a1 : 0 ≤ a) (a2 : a ≤ 255) (b1 : 0 ≤ by') (b2 : by' ≤ 255) (k : Nat) (x v : Int) (w : World) (hr : Row w b off ts) (hb : b < w.heap.size) (hl : ts.length = len) (h0 : 0 < len) (hm : len ≤ 1000) (hk : k < len)
    (hkm : a % (len : Int) = (k : Int)) (hx : ts[k]?.getD 0 = x) (hv : lessV x by' = v) (q : Bool) (hq : (x == 9223372036854775807) = q) (htop : Tops ts) (hto : Tops (ts.set k v)) (hle : ∀ i j, tat (ts.set k v) n.toNat i j ≤ tat ts n.toNat i j ∨ ¬ MayD n ts) : Calls Try.prog 8 #[.agg #[.int .i64 n, .slice (some ⟨b, off, none⟩) len cap], .int .u8 a, .int .u8 by'] w fun e w' => e = .returned (.bool true) ∧ Below w.heap.size w w' := by
  have D0 := lies.made w 27 #[.int .i64 n, .slice (some ⟨b, off, none⟩) len cap]
  have t1 : ¬ (1000 : Int) < len := by omega
  have t2 : ((len : Int) == 0) = false := by simp; omega
  have t4 : decide ((1000 : Int) < len) = false := decide_eq_false t1
  have t3 : ¬ len = 0 := by omega
  have HR := Lib.hid hr
  have HL := Lib.hid hl
  have HX := Lib.hid hx
  have HV := Lib.hid hv
  have HK := Lib.hid hkm
  have k1 : a.tmod (len : Int) = (k : Int) := by rw [Int.tmod_eq_emod_of_nonneg a1]; exact hkm
  have HT := Lib.hid htop
  have HTO := Lib.hid hto
  have HLE := Lib.hid hle
  have hlu : (ts.set k v).length = len := by rw [List.length_set]; exact hl
  have HLU := Lib.hid hlu
  clear hr hl hx hv htop hto hle hlu
  go_enter Try.func8, Try.ntmps8
  go_wp2_with fail
  refine (alive_yes _).mono ?_
  rintro e w1 ⟨rfl, hB1⟩
  have D1 := lies.on_call D0 hB1
  have K1 : Below w.heap.size w w1 := ((Below.refl _ w).alloc (Nat.le_refl _) _).trans (hB1.mono (by simp))
  obtain ⟨c0, c1, c2, c3, c4⟩ := lies.two D1
  clear D0 hB1
  go_wp2_with fail
  refine (dref.twin_some n ⟨b, off, none⟩ len cap ts _ (fun W hW => copied (Row.below (HR.out.below K1 hb) hW (Nat.lt_of_lt_of_le hb K1.size))) HL.out (by omega)).mono ?_
  rintro e w2 ⟨hB2, sv, rfl, hO⟩
  have D2 := lies.on_call D1 hB2
  have K2 := K1.trans (hB2.mono K1.size)
  obtain ⟨g, c, rfl⟩ : ∃ g c, sv = .slice (some ⟨g, 0, none⟩) len c := by
    rcases Go.Joins.ownsRow_forms hO with ⟨_, h⟩ | ⟨g, c, rfl⟩
    · rw [HL.out] at h; omega
    · exact ⟨g, c, by rw [HL.out]⟩
  rw [HL.out] at hO
  have hgb := hO.lt g rfl
  have hw1 := lies.lt D1
  clear c0 c1 c2 c3 c4 D1 hB2
  have A0 : LsI n b off len cap g c w2.heap.size w1.heap.size ts ts w (w2.alloc (.cells #[.int .i64 n, .slice (some ⟨g, 0, none⟩) len c] 27)) :=
    ⟨lies.on_alloc D2 _, lies.made _ _ _, hO.alloc _, HR.out.below (K2.alloc K2.size _) hb, K2.alloc K2.size _⟩
  have hgB : w.heap.size < g := Nat.lt_of_lt_of_le hw1 hgb.1
  have hgw : g < w2.heap.size := hgb.2
  have hbw : b < w2.heap.size := Nat.lt_of_lt_of_le hb K2.size
  obtain ⟨c0, c1, c2, c3, c4⟩ := lies.two D2
  have e0 := (HR.out.below K2 hb) k (by rw [HL.out]; exact hk)
  rw [HX.out] at e0
  have u0 : w2.cell? ⟨g, k, none⟩ = some (.int .i64 x) := by
    rw [hO.cellAt k (by omega), List.getElem?_map]
    have hkl : k < ts.length := by rw [HL.out]; exact hk
    have := HX.out
    rw [List.getElem?_eq_getElem hkl] at this ⊢
    exact congrArg (fun z => some (Value.int .i64 z)) this
  have u1 : w2.frozen? ⟨g, k, none⟩ = false := hO.frozenAt k
  have zk1 : (0 : Int) ≤ k := by omega
  have zk2 : (k : Int) < len := by omega
  clear K1
  cases q with
  | true =>
    have A1 : LsI n b off len cap g c w2.heap.size w1.heap.size ts (ts.set k by') w ((w2.setCell ⟨g, k, none⟩ (.int .i64 by')).alloc (.cells #[.int .i64 n, .slice (some ⟨g, 0, none⟩) len c] 27)) := by
      have hS := (hO.stored k (.int .i64 by')).1
      rw [← List.map_set] at hS
      have hB := K2.setCell (p := ⟨g, k, none⟩) (Nat.le_of_lt hgB) (.int .i64 by')
      exact ⟨lies.on_alloc (lies.on_far D2 k (Nat.ne_of_lt hgB) _) _, lies.made_at _ _ _ _ (by simp), hS.alloc _, HR.out.below (hB.alloc hB.size _) hb, hB.alloc hB.size _⟩
    have hv' : by' = v := by
      have := HV.out
      unfold lessV at this
      rwa [if_pos (by simpa using hq)] at this
    subst hv'
    clear hO D2 K2 A0
    go_wp2_with fail
    generalize ts.set k by' = us at A1 HTO HLE HLU
    generalize (w2.setCell ⟨g, k, none⟩ (.int .i64 by')).alloc (.cells #[.int .i64 n, .slice (some ⟨g, 0, none⟩) len c] 27) = w3 at A1 ⊢
    clear HV c0 c1 c2 c3 c4 e0 u0 u1 zk1 zk2 hgw hbw
    refine (close_any n _ ts w3 (.inr ⟨b, off, cap, by rw [HL.out], Nat.lt_of_lt_of_le hb A1.2.2.2.2.size, A1.2.2.2.1⟩) (by rw [HL.out]; omega) HT.out).mono ?_
    rintro e w4 ⟨hB4, hor4⟩
    have A4 := A1.below hb hB4
    clear A1
    rcases hor4 with ⟨hbad, f, hf, hf8, rfl⟩ | ⟨hok, ga, hga, rfl, hGa⟩
    · obtain ⟨x0, x1, x2, x3, x4⟩ := lies.two A4.2.1
      have A5 := A4.below hb ((Below.refl w4.heap.size w4).alloc (Nat.le_refl _) (.cells #[.int .i64 0, .slice none 0 0] 27))
      have HF := Lib.hid hf
      have HF8 := Lib.hid hf8
      have HBAD := Lib.hid hbad
      clear hf hf8 hbad hB4
      go_wp2_with fail
      refine (close_any n _ us _ (A5.ints HLU.out) (by rw [HLU.out]; omega) HTO.out).mono ?_
      rintro e w6 ⟨hB6, hor6⟩
      rcases hor6 with ⟨hbad2, f2, hf2, _, rfl⟩ | ⟨hok2, gb, hgb2, rfl, hGb⟩
      · have t6 : (f2 != 0) = true := by simpa using hf2
        have K6 := (A5.2.2.2.2.trans (hB6.mono A5.2.2.2.2.size)).alloc (A5.2.2.2.2.trans (hB6.mono A5.2.2.2.2.size)).size (.cells #[.int .i64 0, .slice none 0 0] 27)
        clear A5 A4 hB6 hf2 hbad2
        go_wp2_with fail
        go_ret
        exact ⟨rfl, K6⟩
      · by_cases hmt : MayD n ts
        · refine absurd (cl_less hok2 hmt HT.out HTO.out (fun i j => ?_)).1 HBAD.out
          exact (HLE.out i j).resolve_right (fun k => k hmt)
        · have A6 := (A5.below hb hB6).below hb ((Below.refl w6.heap.size w6).alloc (Nat.le_refl _) (.cells #[.int .i64 n, .slice (some ⟨gb, 0, none⟩) us.length us.length] 27))
          have E2 := lies.made w6 27 #[.int .i64 n, .slice (some ⟨gb, 0, none⟩) us.length us.length]
          rw [HLU.out] at A6 E2 ⊢
          have HC := Lib.hid (check_no n _ ts _ (.inr ⟨b, off, cap, by rw [HL.out], Nat.lt_of_lt_of_le hb A6.2.2.2.2.size, A6.2.2.2.1⟩) (by rw [HL.out]; omega) HT.out hmt)
          obtain ⟨y0, y1, y2, y3, y4⟩ := lies.two A6.1
          clear A5 A4 hB6 hmt x0 x1 x2 x3 x4
          go_wp2_with fail
          refine HC.out.mono ?_
          rintro e w7 ⟨rfl, hB7⟩
          have A7 := A6.below hb hB7
          have E3 := lies.on_call E2 hB7
          clear HC A6 E2 hB7 y0 y1 y2 y3 y4
          obtain ⟨y0, y1, y2, y3, y4⟩ := lies.two E3
          have zl : (0 : Int) < len := by omega
          have K7 := A7.2.2.2.2
          clear A7
          go_wp2_with fail
          go_ret
          exact ⟨rfl, K7⟩
    · have A5 := A4.below hb ((Below.refl w4.heap.size w4).alloc (Nat.le_refl _) (.cells #[.int .i64 n, .slice (some ⟨ga, 0, none⟩) ts.length ts.length] 27))
      obtain ⟨x0, x1, x2, x3, x4⟩ := lies.two A4.2.1
      have P1 := lies.made w4 27 #[.int .i64 n, .slice (some ⟨ga, 0, none⟩) ts.length ts.length]
      have P2 := lies.on_alloc hGa (.cells #[.int .i64 n, .slice (some ⟨ga, 0, none⟩) ts.length ts.length] 27)
      rw [HL.out] at A5 P1 P2 ⊢
      have HOK := Lib.hid hok
      clear hok hB4 hGa
      go_wp2_with fail
      refine (close_any n _ us _ (A5.ints HLU.out) (by rw [HLU.out]; omega) HTO.out).mono ?_
      rintro e w6 ⟨hB6, hor6⟩
      rcases hor6 with ⟨hbad2, f2, hf2, _, rfl⟩ | ⟨hok2, gb, hgb2, rfl, hGb⟩
      · have t6 : (f2 != 0) = true := by simpa using hf2
        have K6 := (A5.2.2.2.2.trans (hB6.mono A5.2.2.2.2.size)).alloc (A5.2.2.2.2.trans (hB6.mono A5.2.2.2.2.size)).size (.cells #[.int .i64 0, .slice none 0 0] 27)
        clear A5 A4 hB6 hf2 hbad2 P1 P2
        go_wp2_with fail
        go_ret
        exact ⟨rfl, K6⟩
      · have HCL := Lib.hid (cl_less hok2 HOK.out.1 HT.out HTO.out (fun i j => (HLE.out i j).resolve_right (fun k => k HOK.out.1))).2
        have A6 := (A5.below hb hB6).below hb ((Below.refl w6.heap.size w6).alloc (Nat.le_refl _) (.cells #[.int .i64 n, .slice (some ⟨gb, 0, none⟩) us.length us.length] 27))
        have E2 := lies.made w6 27 #[.int .i64 n, .slice (some ⟨gb, 0, none⟩) us.length us.length]
        have E4 := lies.on_alloc hGb (.cells #[.int .i64 n, .slice (some ⟨gb, 0, none⟩) us.length us.length] 27)
        have P3 := lies.on_alloc (lies.on_call P1 hB6) (.cells #[.int .i64 n, .slice (some ⟨gb, 0, none⟩) us.length us.length] 27)
        have P4 := lies.on_alloc (lies.on_call P2 hB6) (.cells #[.int .i64 n, .slice (some ⟨gb, 0, none⟩) us.length us.length] 27)
        have l1 := (clT_length HOK.out).trans HL.out
        have l2 := (clT_length hok2).trans HLU.out
        rw [HLU.out] at A6 E2 E4 P3 P4 ⊢
        have HC := Lib.hid (check_ok n _ ts _ (.inr ⟨b, off, cap, by rw [HL.out], Nat.lt_of_lt_of_le hb A6.2.2.2.2.size, A6.2.2.2.1⟩) HT.out HOK.out.1)
        obtain ⟨y0, y1, y2, y3, y4⟩ := lies.two A6.1
        have L1 := Lib.hid l1
        have L2 := Lib.hid l2
        clear A5 A4 hB6 x0 x1 x2 x3 x4 P1 P2 hGb l1 l2 hok2
        generalize clT n ts = Ta at P4 HCL L1
        generalize clT n us = Tb at E4 HCL L2
        go_wp2_with fail
        refine HC.out.mono ?_
        rintro e w7 ⟨rfl, hB7⟩
        have K7 := A6.2.2.2.2.trans (hB7.mono A6.2.2.2.2.size)
        have M1 := lies.on_call P3 hB7
        have M2 := lies.on_call P4 hB7
        have M3 := lies.on_call E2 hB7
        have M4 := lies.on_call E4 hB7
        clear HC A6 E2 E4 P3 P4 hB7 y0 y1 y2 y3 y4
        generalize w6.heap.size = Bb at M3 ⊢
        generalize w4.heap.size = Ba at M1 ⊢
        obtain ⟨y0, y1, y2, y3, y4⟩ := lies.two M3
        obtain ⟨x0, x1, x2, x3, x4⟩ := lies.two M1
        have t7 : ((len : Int) != len) = false := by simp
        go_wp2_with fail
        go_loopw [14] (fun i wr => ∃ p : Nat, p ≤ len ∧ i = .int .i64 p ∧ lies.Lies wr Ba 27 #[.int .i64 n, .slice (some ⟨ga, 0, none⟩) len len] ∧ lies.Lies wr ga 29 (cellsOf Ta) ∧ lies.Lies wr Bb 27 #[.int .i64 n, .slice (some ⟨gb, 0, none⟩) len len] ∧ lies.Lies wr gb 29 (cellsOf Tb) ∧ Below w.heap.size w wr) (fun i _ => len - (intOf i).toNat)
        case atStart => exact ⟨0, Nat.zero_le _, rfl, M1, M2, M3, M4, K7⟩
        case round =>
          clear M1 M2 M3 M4 K7 x0 x1 x2 x3 x4 y0 y1 y2 y3 y4
          obtain ⟨p, hp, rfl, M1, M2, M3, M4, K7⟩ := hrel
          obtain ⟨y0, y1, y2, y3, y4⟩ := lies.two M3
          obtain ⟨x0, x1, x2, x3, x4⟩ := lies.two M1
          by_cases hpl : p < len
          · have za := (lies.cell M2 p).trans (cells_at Ta p (by rw [L1.out]; exact hpl))
            have zb := (lies.cell M4 p).trans (cells_at Tb p (by rw [L2.out]; exact hpl))
            have hle := HCL.out p (by rw [HLU.out]; exact hpl)
            generalize Ta[p]?.getD 0 = xa at za hle
            generalize Tb[p]?.getD 0 = xb at zb hle
            have hgt : ¬ xa < xb := by omega
            have z1 : (0 : Int) ≤ p := by omega
            have z2 : (p : Int) < len := by omega
            go_wp2_with fail
            go_quiet (fail)
            go_wp2_with fail
            go_roundw
            case rel => exact ⟨p + 1, by omega, by go_num, M1, M2, M3, M4, bound.drawn K7 _⟩
            case measure => simp [intOf]; omega
          · obtain rfl : len = p := by omega
            go_wp2_with fail
            go_ret
            exact ⟨rfl, K7⟩
  | false =>
    have hv' : wrap64 (x - by') = v := by
      have := HV.out
      unfold lessV at this
      rwa [if_neg (by simpa using hq)] at this
    have hv2 : IntKind.i64.wrap (x - by') = v := by
      have h := hv'
      unfold wrap64 at h
      rw [IntKind.wrap_i64]
      exact h
    have hb3 : IntKind.i64.wrap by' = by' := IntWalk.i64_in _ (by omega)
    have hb4 : wrap64 by' = by' := by unfold wrap64; omega
    go_wp2_with fail
    refine wp_region_held_drew (S := fun W => W.cell? ⟨w.heap.size, 0, none⟩ = some (.int .i64 n) ∧ W.cell? ⟨w.heap.size, 1, none⟩ = some (.slice (some ⟨b, off, none⟩) len cap) ∧ W.cell? ⟨w2.heap.size, 0, none⟩ = some (.int .i64 n) ∧ W.cell? ⟨w2.heap.size, 1, none⟩ = some (.slice (some ⟨g, 0, none⟩) len c) ∧ W.cell? ⟨b, off + k, none⟩ = some (.int .i64 x)) (by kernel_rfl) ⟨(lies.two A0.1).1, (lies.two A0.1).2.1, (lies.two A0.2.1).1, (lies.two A0.2.1).2.1, A0.2.2.2.1 k (by rw [HL.out]; exact hk) |>.trans (by rw [HX.out])⟩ (fun hHeld => ?_)
    refine wpAnyH_take (i := 0) (v := ?_) rfl (by kernel_rfl) (by kernel_rfl) (by kernel_rfl) (fun _ _ _ h => h) (Or.inl ⟨by rfl, ?_⟩) hHeld ?_
    rotate_left
    · intro w hSw; obtain ⟨s0, s1, s2, s3, s4⟩ := hSw; go_simp; try with_reducible rfl
    try simp only [Act.put, List.getElem_toArray, List.getElem_cons_zero, List.getElem_cons_succ, List.setIfInBounds_toArray, List.set_cons_zero, List.set_cons_succ]
    refine wpAnyH_take (i := 1) (v := ?_) rfl (by kernel_rfl) (by kernel_rfl) (by kernel_rfl) (fun _ _ _ h => h) (Or.inl ⟨by rfl, ?_⟩) hHeld ?_
    rotate_left
    · intro w hSw; obtain ⟨s0, s1, s2, s3, s4⟩ := hSw; go_simp; try with_reducible rfl
    try simp only [Act.put, List.getElem_toArray, List.getElem_cons_zero, List.getElem_cons_succ, List.setIfInBounds_toArray, List.set_cons_zero, List.set_cons_succ]
    refine wpAnyH_take (i := 2) (v := ?_) rfl (by kernel_rfl) (by kernel_rfl) (by kernel_rfl) (fun _ _ _ h => h) (Or.inl ⟨by rfl, ?_⟩) hHeld ?_
    rotate_left
    · intro w hSw; obtain ⟨s0, s1, s2, s3, s4⟩ := hSw; go_simp; try with_reducible rfl
    try simp only [Act.put, List.getElem_toArray, List.getElem_cons_zero, List.getElem_cons_succ, List.setIfInBounds_toArray, List.set_cons_zero, List.set_cons_succ]
    refine wpAnyH_take (i := 3) (v := ?_) rfl (by kernel_rfl) (by kernel_rfl) (by kernel_rfl) (fun _ _ _ h => h) (Or.inl ⟨by rfl, ?_⟩) hHeld ?_
    rotate_left
    · intro w hSw; obtain ⟨s0, s1, s2, s3, s4⟩ := hSw; go_simp; try with_reducible rfl
    try simp only [Act.put, List.getElem_toArray, List.getElem_cons_zero, List.getElem_cons_succ, List.setIfInBounds_toArray, List.set_cons_zero, List.set_cons_succ]
    refine wpAnyH_take (i := 4) (v := ?_) rfl (by kernel_rfl) (by kernel_rfl) (by kernel_rfl) (fun _ _ _ h => h) (Or.inl ⟨by rfl, ?_⟩) hHeld ?_
    rotate_left
    · intro w hSw; obtain ⟨s0, s1, s2, s3, s4⟩ := hSw; go_simp; try with_reducible rfl
    try simp only [Act.put, List.getElem_toArray, List.getElem_cons_zero, List.getElem_cons_succ, List.setIfInBounds_toArray, List.set_cons_zero, List.set_cons_succ]
    refine wpAnyH_take (i := 5) (v := ?_) rfl (by kernel_rfl) (by kernel_rfl) (by kernel_rfl) (fun _ _ _ h => h) (Or.inl ⟨by rfl, ?_⟩) hHeld ?_
    rotate_left
    · intro w hSw; obtain ⟨s0, s1, s2, s3, s4⟩ := hSw; go_simp; try with_reducible rfl
    try simp only [Act.put, List.getElem_toArray, List.getElem_cons_zero, List.getElem_cons_succ, List.setIfInBounds_toArray, List.set_cons_zero, List.set_cons_succ]
    refine wpAnyH_take (i := 6) (v := ?_) rfl (by kernel_rfl) (by kernel_rfl) (by kernel_rfl) (fun _ _ _ h => h) (Or.inl ⟨by rfl, ?_⟩) hHeld ?_
    rotate_left
    · intro w hSw; obtain ⟨s0, s1, s2, s3, s4⟩ := hSw; go_simp; try with_reducible rfl
    try simp only [Act.put, List.getElem_toArray, List.getElem_cons_zero, List.getElem_cons_succ, List.setIfInBounds_toArray, List.set_cons_zero, List.set_cons_succ]
    refine wpAnyH_take (i := 7) (v := ?_) rfl (by kernel_rfl) (by kernel_rfl) (by kernel_rfl) (fun _ _ _ h => h) (Or.inl ⟨by rfl, ?_⟩) hHeld ?_
    rotate_left
    · intro w hSw; obtain ⟨s0, s1, s2, s3, s4⟩ := hSw; go_simp; try with_reducible rfl
    try simp only [Act.put, List.getElem_toArray, List.getElem_cons_zero, List.getElem_cons_succ, List.setIfInBounds_toArray, List.set_cons_zero, List.set_cons_succ]
    refine wpAnyH_take (i := 8) (v := ?_) rfl (by kernel_rfl) (by kernel_rfl) (by kernel_rfl) (fun _ _ _ h => h) (Or.inl ⟨by rfl, ?_⟩) hHeld ?_
    rotate_left
    · intro w hSw; obtain ⟨s0, s1, s2, s3, s4⟩ := hSw; go_simp; try with_reducible rfl
    try simp only [Act.put, List.getElem_toArray, List.getElem_cons_zero, List.getElem_cons_succ, List.setIfInBounds_toArray, List.set_cons_zero, List.set_cons_succ]
    refine wpAnyH_take (i := 9) (v := ?_) rfl (by kernel_rfl) (by kernel_rfl) (by kernel_rfl) (fun _ _ _ h => h) (Or.inl ⟨by rfl, ?_⟩) hHeld ?_
    rotate_left
    · intro w hSw; obtain ⟨s0, s1, s2, s3, s4⟩ := hSw; go_simp; try with_reducible rfl
    try simp only [Act.put, List.getElem_toArray, List.getElem_cons_zero, List.getElem_cons_succ, List.setIfInBounds_toArray, List.set_cons_zero, List.set_cons_succ]
    refine wpAnyH_take (i := 10) (v := ?_) rfl (by kernel_rfl) (by kernel_rfl) (by kernel_rfl) (fun _ _ _ h => h) (Or.inl ⟨by rfl, ?_⟩) hHeld ?_
    rotate_left
    · intro w hSw; obtain ⟨s0, s1, s2, s3, s4⟩ := hSw; go_simp; try with_reducible rfl
    try simp only [Act.put, List.getElem_toArray, List.getElem_cons_zero, List.getElem_cons_succ, List.setIfInBounds_toArray, List.set_cons_zero, List.set_cons_succ]
    refine wpAnyH_take (i := 11) (v := ?_) rfl (by kernel_rfl) (by kernel_rfl) (by kernel_rfl) (fun _ _ _ h => h) (Or.inl ⟨by rfl, ?_⟩) hHeld ?_
    rotate_left
    · intro w hSw; obtain ⟨s0, s1, s2, s3, s4⟩ := hSw; go_simp; try with_reducible rfl
    try simp only [Act.put, List.getElem_toArray, List.getElem_cons_zero, List.getElem_cons_succ, List.setIfInBounds_toArray, List.set_cons_zero, List.set_cons_succ]
    refine wpAnyH_ready (rs := [12]) (by kernel_rfl) (by simp) (AllReadyH.cons rfl (fun K hK => ?_) AllReadyH.nil)
    go_simp
    have A0' : LsI n b off len cap g c w2.heap.size w1.heap.size ts (ts.set k v) w ((w2.setCell ⟨g, k, none⟩ (.int .i64 v)).alloc (.cells #[.int .i64 n, .slice (some ⟨g, 0, none⟩) len c] 27)) := by
      have hS := (hO.stored k (.int .i64 v)).1
      rw [← List.map_set] at hS
      have hB := K2.setCell (p := ⟨g, k, none⟩) (Nat.le_of_lt hgB) (.int .i64 v)
      exact ⟨lies.on_alloc (lies.on_far D2 k (Nat.ne_of_lt hgB) _) _, lies.made_at _ _ _ _ (by simp), hS.alloc _, HR.out.below (hB.alloc hB.size _) hb, hB.alloc hB.size _⟩
    have A1 := A0'.below hb (dbm.drawn1 (Below.refl _ _))
    refine hK.out _ _ ⟨(lies.two A1.1).1, (lies.two A1.1).2.1, (lies.two A1.2.1).1, (lies.two A1.2.1).2.1, A1.2.2.2.1 k (by rw [HL.out]; exact hk) |>.trans (by rw [HX.out])⟩ (fun hNew => ?_)
    clear hHeld hK K hNew hO D2 K2 A0 A0'
    refine wpAnyH_done (by kernel_rfl) ?_ _
    clear hv2 hv' hb3 hb4
    go_wp2_with fail
    generalize ts.set k v = us at A1 HTO HLE HLU
    generalize ((w2.setCell ⟨g, k, none⟩ (.int .i64 v)).alloc (.cells #[.int .i64 n, .slice (some ⟨g, 0, none⟩) len c] 27)).drew = w3 at A1 ⊢
    clear HV c0 c1 c2 c3 c4 e0 u0 u1 zk1 zk2 hgw hbw
    refine (close_any n _ ts w3 (.inr ⟨b, off, cap, by rw [HL.out], Nat.lt_of_lt_of_le hb A1.2.2.2.2.size, A1.2.2.2.1⟩) (by rw [HL.out]; omega) HT.out).mono ?_
    rintro e w4 ⟨hB4, hor4⟩
    have A4 := A1.below hb hB4
    clear A1
    rcases hor4 with ⟨hbad, f, hf, hf8, rfl⟩ | ⟨hok, ga, hga, rfl, hGa⟩
    · obtain ⟨x0, x1, x2, x3, x4⟩ := lies.two A4.2.1
      have A5 := A4.below hb ((Below.refl w4.heap.size w4).alloc (Nat.le_refl _) (.cells #[.int .i64 0, .slice none 0 0] 27))
      have HF := Lib.hid hf
      have HF8 := Lib.hid hf8
      have HBAD := Lib.hid hbad
      clear hf hf8 hbad hB4
      go_wp2_with fail
      refine (close_any n _ us _ (A5.ints HLU.out) (by rw [HLU.out]; omega) HTO.out).mono ?_
      rintro e w6 ⟨hB6, hor6⟩
      rcases hor6 with ⟨hbad2, f2, hf2, _, rfl⟩ | ⟨hok2, gb, hgb2, rfl, hGb⟩
      · have t6 : (f2 != 0) = true := by simpa using hf2
        have K6 := (A5.2.2.2.2.trans (hB6.mono A5.2.2.2.2.size)).alloc (A5.2.2.2.2.trans (hB6.mono A5.2.2.2.2.size)).size (.cells #[.int .i64 0, .slice none 0 0] 27)
        clear A5 A4 hB6 hf2 hbad2
        go_wp2_with fail
        go_ret
        exact ⟨rfl, K6⟩
      · by_cases hmt : MayD n ts
        · refine absurd (cl_less hok2 hmt HT.out HTO.out (fun i j => ?_)).1 HBAD.out
          exact (HLE.out i j).resolve_right (fun k => k hmt)
        · have A6 := (A5.below hb hB6).below hb ((Below.refl w6.heap.size w6).alloc (Nat.le_refl _) (.cells #[.int .i64 n, .slice (some ⟨gb, 0, none⟩) us.length us.length] 27))
          have E2 := lies.made w6 27 #[.int .i64 n, .slice (some ⟨gb, 0, none⟩) us.length us.length]
          rw [HLU.out] at A6 E2 ⊢
          have HC := Lib.hid (check_no n _ ts _ (.inr ⟨b, off, cap, by rw [HL.out], Nat.lt_of_lt_of_le hb A6.2.2.2.2.size, A6.2.2.2.1⟩) (by rw [HL.out]; omega) HT.out hmt)
          obtain ⟨y0, y1, y2, y3, y4⟩ := lies.two A6.1
          clear A5 A4 hB6 hmt x0 x1 x2 x3 x4
          go_wp2_with fail
          refine HC.out.mono ?_
          rintro e w7 ⟨rfl, hB7⟩
          have A7 := A6.below hb hB7
          have E3 := lies.on_call E2 hB7
          clear HC A6 E2 hB7 y0 y1 y2 y3 y4
          obtain ⟨y0, y1, y2, y3, y4⟩ := lies.two E3
          have zl : (0 : Int) < len := by omega
          have K7 := A7.2.2.2.2
          clear A7
          go_wp2_with fail
          go_ret
          exact ⟨rfl, K7⟩
    · have A5 := A4.below hb ((Below.refl w4.heap.size w4).alloc (Nat.le_refl _) (.cells #[.int .i64 n, .slice (some ⟨ga, 0, none⟩) ts.length ts.length] 27))
      obtain ⟨x0, x1, x2, x3, x4⟩ := lies.two A4.2.1
      have P1 := lies.made w4 27 #[.int .i64 n, .slice (some ⟨ga, 0, none⟩) ts.length ts.length]
      have P2 := lies.on_alloc hGa (.cells #[.int .i64 n, .slice (some ⟨ga, 0, none⟩) ts.length ts.length] 27)
      rw [HL.out] at A5 P1 P2 ⊢
      have HOK := Lib.hid hok
      clear hok hB4 hGa
      go_wp2_with fail
      refine (close_any n _ us _ (A5.ints HLU.out) (by rw [HLU.out]; omega) HTO.out).mono ?_
      rintro e w6 ⟨hB6, hor6⟩
      rcases hor6 with ⟨hbad2, f2, hf2, _, rfl⟩ | ⟨hok2, gb, hgb2, rfl, hGb⟩
      · have t6 : (f2 != 0) = true := by simpa using hf2
        have K6 := (A5.2.2.2.2.trans (hB6.mono A5.2.2.2.2.size)).alloc (A5.2.2.2.2.trans (hB6.mono A5.2.2.2.2.size)).size (.cells #[.int .i64 0, .slice none 0 0] 27)
        clear A5 A4 hB6 hf2 hbad2 P1 P2
        go_wp2_with fail
        go_ret
        exact ⟨rfl, K6⟩
      · have HCL := Lib.hid (cl_less hok2 HOK.out.1 HT.out HTO.out (fun i j => (HLE.out i j).resolve_right (fun k => k HOK.out.1))).2
        have A6 := (A5.below hb hB6).below hb ((Below.refl w6.heap.size w6).alloc (Nat.le_refl _) (.cells #[.int .i64 n, .slice (some ⟨gb, 0, none⟩) us.length us.length] 27))
        have E2 := lies.made w6 27 #[.int .i64 n, .slice (some ⟨gb, 0, none⟩) us.length us.length]
        have E4 := lies.on_alloc hGb (.cells #[.int .i64 n, .slice (some ⟨gb, 0, none⟩) us.length us.length] 27)
        have P3 := lies.on_alloc (lies.on_call P1 hB6) (.cells #[.int .i64 n, .slice (some ⟨gb, 0, none⟩) us.length us.length] 27)
        have P4 := lies.on_alloc (lies.on_call P2 hB6) (.cells #[.int .i64 n, .slice (some ⟨gb, 0, none⟩) us.length us.length] 27)
        have l1 := (clT_length HOK.out).trans HL.out
        have l2 := (clT_length hok2).trans HLU.out
        rw [HLU.out] at A6 E2 E4 P3 P4 ⊢
        have HC := Lib.hid (check_ok n _ ts _ (.inr ⟨b, off, cap, by rw [HL.out], Nat.lt_of_lt_of_le hb A6.2.2.2.2.size, A6.2.2.2.1⟩) HT.out HOK.out.1)
        obtain ⟨y0, y1, y2, y3, y4⟩ := lies.two A6.1
        have L1 := Lib.hid l1
        have L2 := Lib.hid l2
        clear A5 A4 hB6 x0 x1 x2 x3 x4 P1 P2 hGb l1 l2 hok2
        generalize clT n ts = Ta at P4 HCL L1
        generalize clT n us = Tb at E4 HCL L2
        go_wp2_with fail
        refine HC.out.mono ?_
        rintro e w7 ⟨rfl, hB7⟩
        have K7 := A6.2.2.2.2.trans (hB7.mono A6.2.2.2.2.size)
        have M1 := lies.on_call P3 hB7
        have M2 := lies.on_call P4 hB7
        have M3 := lies.on_call E2 hB7
        have M4 := lies.on_call E4 hB7
        clear HC A6 E2 E4 P3 P4 hB7 y0 y1 y2 y3 y4
        generalize w6.heap.size = Bb at M3 ⊢
        generalize w4.heap.size = Ba at M1 ⊢
        obtain ⟨y0, y1, y2, y3, y4⟩ := lies.two M3
        obtain ⟨x0, x1, x2, x3, x4⟩ := lies.two M1
        have t7 : ((len : Int) != len) = false := by simp
        go_wp2_with fail
        go_loopw [14] (fun i wr => ∃ p : Nat, p ≤ len ∧ i = .int .i64 p ∧ lies.Lies wr Ba 27 #[.int .i64 n, .slice (some ⟨ga, 0, none⟩) len len] ∧ lies.Lies wr ga 29 (cellsOf Ta) ∧ lies.Lies wr Bb 27 #[.int .i64 n, .slice (some ⟨gb, 0, none⟩) len len] ∧ lies.Lies wr gb 29 (cellsOf Tb) ∧ Below w.heap.size w wr) (fun i _ => len - (intOf i).toNat)
        case atStart => exact ⟨0, Nat.zero_le _, rfl, M1, M2, M3, M4, K7⟩
        case round =>
          clear M1 M2 M3 M4 K7 x0 x1 x2 x3 x4 y0 y1 y2 y3 y4
          obtain ⟨p, hp, rfl, M1, M2, M3, M4, K7⟩ := hrel
          obtain ⟨y0, y1, y2, y3, y4⟩ := lies.two M3
          obtain ⟨x0, x1, x2, x3, x4⟩ := lies.two M1
          by_cases hpl : p < len
          · have za := (lies.cell M2 p).trans (cells_at Ta p (by rw [L1.out]; exact hpl))
            have zb := (lies.cell M4 p).trans (cells_at Tb p (by rw [L2.out]; exact hpl))
            have hle := HCL.out p (by rw [HLU.out]; exact hpl)
            generalize Ta[p]?.getD 0 = xa at za hle
            generalize Tb[p]?.getD 0 = xb at zb hle
            have hgt : ¬ xa < xb := by omega
            have z1 : (0 : Int) ≤ p := by omega
            have z2 : (p : Int) < len := by omega
            go_wp2_with fail
            go_quiet (fail)
            go_wp2_with fail
            go_roundw
            case rel => exact ⟨p + 1, by omega, by go_num, M1, M2, M3, M4, bound.drawn K7 _⟩
            case measure => simp [intOf]; omega
          · obtain rfl : len = p := by omega
            go_wp2_with fail
            go_ret
            exact ⟨rfl, K7⟩

theorem lessV_le (x b : Int) (hx : x ≤ 9223372036854775807) (b1 : 0 ≤ b) (b2 : b ≤ 255) : lessV x b ≤ 9223372036854775807 := by
  unfold lessV
  split
  · omega
  · unfold wrap64; omega
theorem lessV_less {x b : Int} (hx : Fine x) (b1 : 0 ≤ b) (b2 : b ≤ 255) : lessV x b ≤ x := by
  unfold lessV
  by_cases h : x = 9223372036854775807
  · rw [if_pos h]; omega
  · rw [if_neg h]
    have := hx.resolve_left h
    unfold wrap64
    omega
theorem set_tops {ts : List Int} (h : Tops ts) (k : Nat) {v : Int} (hv : v ≤ 9223372036854775807) : Tops (ts.set k v) := fun y hy => by
  rcases List.mem_or_eq_of_mem_set hy with hy | rfl
  · exact h y hy
  · exact hv
theorem set_less {ts : List Int} {k : Nat} {v : Int} (hk : k < ts.length) (hv : v ≤ ts[k]?.getD 0) (n i j : Nat) : tat (ts.set k v) n i j ≤ tat ts n i j := by
  unfold tat
  rw [List.getElem?_set]
  by_cases h : k = i * n + j
  · rw [if_pos h, if_pos hk, ← h]
    exact hv
  · rw [if_neg h]; exact Int.le_refl _
theorem walk (n : Int) (sv : Value) (ts : List Int) (a b : Int) (a1 : 0 ≤ a) (a2 : a ≤ 255) (b1 : 0 ≤ b) (b2 : b ≤ 255) (w : World) (hI : law.Ints w.heap.size w sv ts) (htop : Tops ts) : Calls Try.prog 8 #[.agg #[.int .i64 n, sv], .int .u8 a, .int .u8 b] w fun e w' => e = .returned (.bool true) ∧ Below w.heap.size w w' := by
  by_cases h : 1000 < ts.length ∨ ts.length = 0
  · exact walk_far n sv ts a b w hI h
  · rcases hI with ⟨_, rfl⟩ | ⟨g, off, cap, rfl, hb, hc⟩
    · exact (h (.inr rfl)).elim
    · have hpos : (0 : Int) < ts.length := by omega
      have m1 := Int.emod_nonneg a (b := (ts.length : Int)) (by omega)
      have m2 := Int.emod_lt_of_pos a hpos
      have hk : (a % (ts.length : Int)).toNat < ts.length := by omega
      have hxt : ts[(a % (ts.length : Int)).toNat]?.getD 0 ≤ 9223372036854775807 := by
        rw [List.getElem?_eq_getElem hk]
        exact htop _ (List.getElem_mem hk)
      exact walk_x n g off ts.length cap ts a b a1 a2 b1 b2 (a % (ts.length : Int)).toNat (ts[(a % (ts.length : Int)).toNat]?.getD 0) (lessV (ts[(a % (ts.length : Int)).toNat]?.getD 0) b) w hc hb rfl (by omega) (by omega) hk (by omega) rfl rfl _ rfl htop
        (set_tops htop _ (lessV_le _ b hxt b1 b2)) (fun i j => by
          by_cases hm : MayD n ts
          · exact .inl (set_less hk (lessV_less (hm.2.2.2 _ hk) b1 b2) _ i j)
          · exact .inr hm)

set_option maxRecDepth 100000 in
theorem lifted (os : Os) (started : os.Started) (H : Type) (enc : TypeId × Value → H) :
    ReturnsInHanded {} Try.checked os 8 .any (Rows.dbmLessSpec.pre6 enc Try.prog Try.f8 Rows.dbmLessRow.domain false) (Rows.dbmLessSpec.post enc Try.prog Try.f8 false true false false) := by
  refine returnsInHanded_of_change (C := Try.checked) law.own started (by kernel_rfl) Try.func8
    (ChangeSpec.witness6 (enc := enc) (C := Try.checked) false ⟨#[], #[.agg #[.int .i64 0, .slice none 0 0], .int .u8 0, .int .u8 0], []⟩ 8 (by kernel_rfl) (by kernel_rfl) (by kernel_rfl) (by kernel_rfl)) ?_
  intro W base args ds gs before hval0 hW _ _
  have hval : ∀ (j : Nat) t v, Try.f8.params[j]? = some t → args[j]? = some v → Value.okWide Try.prog W .any base t v := hval0
  have hW' := hW
  obtain ⟨p, q, hA0, hV, rfl, _, _⟩ := hW
  have hA : DataW.TrodAll enc Try.prog W 0 (fun _ => true) true Try.f8.params.toList args.toList ds p := hA0
  rw [Try.params8] at hA hval
  obtain ⟨v0, vs0, d0, ds0, p0, q0, hargs, rfl, rfl, h0, r0⟩ := trodAll_cons hA
  obtain ⟨v1, vs1, d1, ds1, p1, q1, rfl, rfl, rfl, h1, r1⟩ := trodAll_cons r0
  obtain ⟨v2, vs2, d2, ds2, p2, q2, rfl, rfl, rfl, h2, r2⟩ := trodAll_cons r1
  obtain ⟨rfl, rfl, rfl⟩ := trodAll_nil r2
  obtain rfl : args = #[v0, v1, v2] := by cases args; simp_all
  obtain ⟨n, sv, ts, rfl, _, hwf, hI, _⟩ := open_dbm (hval 0 27 v0 rfl rfl) h0
  obtain ⟨a, rfl, rfl, rfl, x1⟩ := open_int Try.underlying5 (hval 1 5 v1 rfl rfl) h1
  obtain ⟨b, rfl, rfl, rfl, x2⟩ := open_int Try.underlying5 (hval 2 5 v2 rfl rfl) h2
  refine (walk n sv ts a b (bounds_u8 x1).1 (bounds_u8 x1).2 (bounds_u8 x2).1 (bounds_u8 x2).2 W hI (fun z hz => law.wf_hi (hwf z hz))).mono fun e W' ⟨he, hB⟩ => ?_
  subst he
  exact ⟨_, rfl, law.post_true law.laidOut (by kernel_rfl) rfl Try.underlying4 rfl hW' (fun h => by subst h; rfl) hB⟩

theorem proved : Rows.DbmLessSaid :=
  OpenClaim.holds_of_wide 8 Try.f8 rfl rfl rfl rfl rfl rfl rfl ⟨rfl, rfl, rfl, rfl, rfl⟩ rfl rfl rfl rfl rfl (by kernel_rfl) Try.func8 (by kernel_rfl)
    (of_decide_eq_true (by kernel_rfl)) (by unfold Func.isWrapper; first | (rw [if_pos (by decide +kernel)]; kernel_rfl) | (rw [if_neg (by decide +kernel)]; exact ⟨rfl, rfl⟩))
    (fun os started H enc _ => lifted os started H enc)
#print axioms proved
end Go.Proofs.Ytlagnbbbokgdfaa.dbmLess
